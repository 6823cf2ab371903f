/-
  Part 21 of the proof: FtFo, FtNu, FtFd.
-/
import Derived.Test.YtgbiicipkbpmeaaGreatDoorFe20
set_option linter.unusedSimpArgs false
set_option linter.unusedVariables false
namespace Go.Proofs.YtgbiicipkbpmeaaGreatDoor.FT
set_option maxRecDepth 100000
set_option maxHeartbeats 128000000
open Go.RowKit K BE DN SC
def foA : B → Bool → B → B
 | o, _, [] => o
 | o, b, c :: r => if c = 32 then foA o true r else foA (o ++ (if b && !o.isEmpty then [32] else []) ++ [c]) false r
theorem foA_snoc (c : UInt8) : ∀ (l o : B) (b : Bool), foA o b (l ++ [c]) = if c = 32 then foA o b l else foA o b l ++ (if lst b l && !(foA o b l).isEmpty then [32] else []) ++ [c]
 | [], o, b => by
  show foA o b [c] = _
  by_cases hc : c = 32
  ·simp [foA, hc]
  ·simp [foA, hc, lst]
 | x :: r, o, b => by
  rw [lst_cons]
  show foA o b (x :: (r ++ [c])) = _
  by_cases hx : x = 32
  ·subst hx
   have h := foA_snoc c r o true
   simp only [foA, if_true]
   rw [h]
   rfl
  ·have e : (x == 32) = false := by simpa using hx
   simp only [foA, if_neg hx]
   rw [foA_snoc c r _ false, e]
theorem foA_len : ∀ (l o : B) (b : Bool), (foA o b l).length ≤ o.length + 2 * l.length
 | [], o, _ => by simp [foA]
 | c :: r, o, b => by
  unfold foA
  split
  ·have := foA_len r o true
   simp only [List.length_cons]; omega
  ·have := foA_len r (o ++ (if b && !o.isEmpty then [32] else []) ++ [c]) false
   have h2 : (o ++ (if b && !o.isEmpty then [32] else []) ++ [c] : B).length ≤ o.length + 2 := by
    cases (b && !o.isEmpty) <;> simp
   simp only [List.length_cons]; omega
theorem foA_len0 (l : B) : (foA [] false l).length ≤ 2 * l.length := by simpa using foA_len l [] false
theorem lst_at (l : B) (k : Nat) (d : UInt8) (h : l[k]? = some d) : lst false (l.take (k + 1)) = (d == 32) := by
 unfold lst
 rw [List.take_add_one, h, Option.toList_some, List.getLast?_concat]
 rfl
theorem words_cur : ∀ (l cur : B), cur ≠ [] → words cur l ≠ []
 | [], cur, h => by
  unfold words
  rw [if_neg (by simpa using h)]
  exact List.cons_ne_nil _ _
 | c :: r, cur, h => by
  unfold words
  split
  ·rw [if_neg (by simpa using h)]
   exact List.cons_ne_nil _ _
  ·exact words_cur r _ (by simp)
theorem foA_words : ∀ (l : B), (∀ pre cur : B, cur ≠ [] → foA (pre ++ cur) false l = pre ++ joinB [32] (words cur l)) ∧ (∀ o : B, o ≠ [] → foA o true l = if words [] l = [] then o else o ++ [32] ++ joinB [32] (words [] l)) ∧ ∀ b, foA [] b l = joinB [32] (words [] l)
 | [] => by
  refine ⟨fun pre cur h => ?_, fun o h => ?_, fun b => ?_⟩
  ·unfold words foA
   rw [if_neg (by simpa using h)]
   rfl
  ·unfold words foA
   rw [if_pos (show ([] : B).isEmpty = true from rfl), if_pos rfl]
  ·rfl
 | c :: r => by
  obtain ⟨h1, h2, h3⟩ := foA_words r
  by_cases hc : c = 32
  ·subst hc
   have hw0 : words [] (32 :: r) = words [] r := by
    conv => lhs; unfold words
    rw [if_pos rfl, if_pos (show ([] : B).isEmpty = true from rfl)]
   refine ⟨fun pre cur h => ?_, fun o h => ?_, fun b => ?_⟩
   ·have hw : words cur (32 :: r) = cur :: words [] r := by
     conv => lhs; unfold words
     rw [if_pos rfl, if_neg (by simpa using h)]
    rw [hw]
    show foA (pre ++ cur) true r = _
    rw [h2 _ (by simp [h])]
    by_cases hn : words [] r = []
    ·rw [if_pos hn, hn]; rfl
    ·rw [if_neg hn, joinB_cons cur hn]; simp
   ·show foA o true r = _
    rw [h2 o h, hw0]
   ·show foA [] true r = _
    rw [h3, hw0]
  ·have hw : ∀ cur : B, words cur (c :: r) = words (cur ++ [c]) r := fun cur => by
    conv => lhs; unfold words
    rw [if_neg hc]
   have hne := words_cur r [c] (List.cons_ne_nil _ _)
   refine ⟨fun pre cur h => ?_, fun o h => ?_, fun b => ?_⟩
   ·rw [hw, ← h1 pre (cur ++ [c]) (by simp)]
    simp [foA, hc]
   ·rw [hw, List.nil_append, if_neg hne, ← h1 (o ++ [32]) [c] (List.cons_ne_nil _ _)]
    have e : o.isEmpty = false := by simpa using h
    simp [foA, hc, e]
   ·rw [hw, List.nil_append]
    have := h1 [] [c] (List.cons_ne_nil _ _)
    rw [List.nil_append] at this
    rw [List.nil_append] at this
    rw [← this]
    simp [foA, hc]
theorem fold_foA (v : B) : fold v = foA [] false (low v) := by
 rw [(foA_words (low v)).2.2 false]
 rfl
theorem rfold_any (p : B) (hp : p.length ≤ 4294967000) (w : World) : Calls Tryz.prog 90 #[.string (sb p)] w fun e w' => e = .returned (.string (sb (fold p))) ∧ Fr No w w' := by
 have HSM := hid (smallZ_any p (by unfold Sz; omega) w)
 obtain ⟨l, hl⟩ : ∃ l, low p = l := ⟨_, rfl⟩
 have hq : fold p = foA [] false l := by rw [fold_foA, hl]
 have hll : l.length ≤ 4294967000 := by rw [← hl, low_length]; exact hp
 rw [hq]
 rw [hl] at HSM
 obtain ⟨S, hS⟩ : ∃ S, sb l = S := ⟨_, rfl⟩
 obtain ⟨n, hn⟩ : ∃ n, l.length = n := ⟨_, rfl⟩
 have hsz : (S.size : Int) = n := by rw [← hS, sb_size, hn]
 have hni : (n : Int) ≤ 4294967000 := by omega
 have HS := hid hS; have HN := hid hn
 rw [hS] at HSM
 clear hS hn hp hq hl hll
 go_enter Tryz.func90, Tryz.ntmps90
 go_wp2_with fail
 refine HSM.out.mono ?_
 rintro e w1 ⟨rfl, f1⟩
 have HF1 := hid f1
 clear f1 HSM
 go_wp2_with fail
 go_loopw [4, 5] (fun dv iv wr => ∃ (i al : Nat), iv = .int .i64 i ∧ i ≤ n ∧ al ≤ 2 * n ∧ Hid (OwR 5 1 w wr dv al (u8s (foA [] false (l.take i)))) ∧ Hid ((foA [] false (l.take i)).length = al)) (fun _ iv _ => n - (intOf iv).toNat)
 case atStart => exact ⟨0, 0, rfl, Nat.zero_le _, Nat.zero_le _, hid (owR_nil HF1.out), hid rfl⟩
 case round =>
  obtain ⟨i, al, rfl, hi, hal, HO, HAL⟩ := hrel
  obtain ⟨va, vc, rfl⟩ := HO.out.1
  have hali : (al : Int) ≤ 8589934000 := by omega
  have hal0 : (0 : Int) ≤ al := by omega
  by_cases hlt : i < n
  ·obtain ⟨c, hc⟩ : ∃ c, l[i]? = some c := ⟨_, List.getElem?_eq_getElem (by rw [HN.out]; exact hlt)⟩
   have hlti : (i : Int) < n := by omega
   have hi0 : (0 : Int) ≤ i := by omega
   have HLT := hid hlt
   have hsn : foA [] false (l.take (i + 1)) = if c = 32 then foA [] false (l.take i) else foA [] false (l.take i) ++ (if lst false (l.take i) && !(foA [] false (l.take i)).isEmpty then [32] else []) ++ [c] := by
    rw [List.take_add_one, hc, Option.toList_some, foA_snoc]
   have HNX := hid hsn
   have HC := hid hc
   have HLN : Hid ((foA [] false (l.take (i + 1))).length ≤ 2 * n) := hid (by have := foA_len0 (l.take (i + 1)); rw [List.length_take] at this; have := HN.out; omega)
   clear hc hlt hal hsn
   by_cases h32 : c = 32
   ·subst h32
    have HE : Hid (foA [] false (l.take (i + 1)) = foA [] false (l.take i)) := hid (by rw [HNX.out, if_pos rfl])
    go_wp2_with (first
     | ((with_reducible refine K.atO (.index 9 _ _) ?_); refine wpL_valZ (by rfl) (.int .u8 32) (exec_idxB _ _ rfl l HS.out i 32 HC.out _ rfl rfl rfl _) ?_))
    refine ⟨⟨i + 1, al, by go_num, HLT.out, by rw [← HAL.out, ← HE.out]; exact HLN.out, hid (by rw [HE.out]; exact HO.out), hid (by rw [HE.out]; exact HAL.out)⟩, by have := HLT.out; simp [intOf]; omega⟩
   ·have hc33 : ((c.toNat : Int) == 32) = false := beqN (fun e => h32 (UInt8.toNat_inj.1 (by have : (32 : UInt8).toNat = 32 := rfl; omega)))
    have HNY := hid (show foA [] false (l.take (i + 1)) = foA [] false (l.take i) ++ (if lst false (l.take i) && !(foA [] false (l.take i)).isEmpty then [32] else []) ++ [c] by rw [HNX.out, if_neg h32])
    clear h32
    have HEM : Hid ((foA [] false (l.take i)).isEmpty = decide (al = 0)) := hid (by
     rw [← HAL.out]
     cases foA [] false (l.take i) <;> simp)
    have HDC : Hid (i = 0 ∨ ∃ (k : Nat) (d : UInt8), i = k + 1 ∧ l[k]? = some d ∧ lst false (l.take i) = (d == 32)) := hid (by
     cases i with
     | zero => exact .inl rfl
     | succ k =>
      have hg : l[k]? = some (l[k]'(by have := HN.out; have := HLT.out; omega)) := List.getElem?_eq_getElem _
      exact .inr ⟨k, _, rfl, hg, lst_at l k _ hg⟩)
    cases hlb : lst false (l.take i) && !(foA [] false (l.take i)).isEmpty with
    | false =>
     have HE : Hid (foA [] false (l.take (i + 1)) = foA [] false (l.take i) ++ [c]) := hid (by rw [HNY.out, hlb]; simp)
     have hcase : i = 0 ∨ ∃ (k : Nat) (d : UInt8), i = k + 1 ∧ l[k]? = some d ∧ (d ≠ 32 ∨ d = 32 ∧ al = 0) := by
      rcases HDC.out with h | ⟨k, d, h1, h2, h3⟩
      ·exact .inl h
      ·refine .inr ⟨k, d, h1, h2, ?_⟩
       by_cases hd : d = 32
       ·right
        refine ⟨hd, ?_⟩
        rw [h3, hd, HEM.out] at hlb
        simpa using hlb
       ·exact .inl hd
     clear hlb
     have hfin : ∀ (a4 : Option Addr) (c4 : Nat) (w4 : World), OwR 5 1 w w4 (.slice a4 (al + 1) c4) (al + 1) (u8s (foA [] false (l.take i)) ++ [.int .u8 (c.toNat : Int)]) → OwR 5 1 w w4 (.slice a4 (al + 1) c4) (al + 1) (u8s (foA [] false (l.take (i + 1)))) ∧ (foA [] false (l.take (i + 1))).length = al + 1 := fun a4 c4 w4 h => by
      refine ⟨?_, by rw [HE.out, List.length_append, HAL.out]; rfl⟩
      rw [HE.out]
      rwa [show u8s (foA [] false (l.take i)) ++ [Value.int .u8 (c.toNat : Int)] = u8s (foA [] false (l.take i) ++ [c]) by simp [u8s]] at h
     have HFIN := hid hfin
     clear hfin
     rcases hcase with rfl | ⟨k, d, hik, hd, hd2⟩
     ·go_wp2_with (first
       | ((with_reducible refine K.atO (.index 9 _ _) ?_); refine idxZ HS HC rfl rfl rfl rfl ?_)
       | ((with_reducible refine K.atO (.buildSlice 150 _ _) ?_); refine wpL_appU rfl rfl HO.out (c.toNat : Int) rfl ?_; intro q a4 c4 w4 HO4 HF4))
      obtain ⟨g1, g2⟩ := HFIN.out _ _ _ HO4.out
      exact ⟨⟨0 + 1, al + 1, by go_num, HLT.out, by rw [← g2]; exact HLN.out, hid g1, hid g2⟩, by have := HLT.out; simp [intOf]; omega⟩
     ·have hpos : (0 : Int) < i := by omega
      have HIK := hid hik
      clear hik
      rcases hd2 with hd2 | ⟨rfl, rfl⟩
      ·have hd33 : ((d.toNat : Int) == 32) = false := beqN (fun e => hd2 (UInt8.toNat_inj.1 (by have : (32 : UInt8).toNat = 32 := rfl; omega)))
       have HD := hid hd
       clear hd hd2
       go_wp2_with (first
       | ((with_reducible refine K.atO (.index 9 _ _) ?_); (fail_if_success (have := HA1)); refine idxZ HS HC rfl rfl rfl rfl ?_; have HA1 := hid trivial)
       | ((with_reducible refine K.atO (.index 9 _ _) ?_); (fail_if_success (have := HA2)); refine wpL_valZ (by rfl) (.int .u8 (d.toNat : Int)) (exec_idxB _ _ rfl l HS.out k d HD.out _ (by have := HIK.out; omega) rfl rfl _) ?_; have HA2 := hid trivial)
       | ((with_reducible refine K.atO (.index 9 _ _) ?_); refine idxZ HS HC rfl rfl rfl rfl ?_)
       | ((with_reducible refine K.atO (.buildSlice 150 _ _) ?_); refine wpL_appU rfl rfl HO.out (c.toNat : Int) rfl ?_; intro q a4 c4 w4 HO4 HF4))
       obtain ⟨g1, g2⟩ := HFIN.out _ _ _ HO4.out
       exact ⟨⟨i + 1, al + 1, by go_num, HLT.out, by rw [← g2]; exact HLN.out, hid g1, hid g2⟩, by have := HLT.out; simp [intOf]; omega⟩
      ·have HD := hid hd
       clear hd
       go_wp2_with (first
       | ((with_reducible refine K.atO (.index 9 _ _) ?_); (fail_if_success (have := HA1)); refine idxZ HS HC rfl rfl rfl rfl ?_; have HA1 := hid trivial)
       | ((with_reducible refine K.atO (.index 9 _ _) ?_); (fail_if_success (have := HA2)); refine wpL_valZ (by rfl) (.int .u8 32) (exec_idxB _ _ rfl l HS.out k 32 HD.out _ (by have := HIK.out; omega) rfl rfl _) ?_; have HA2 := hid trivial)
       | ((with_reducible refine K.atO (.index 9 _ _) ?_); refine idxZ HS HC rfl rfl rfl rfl ?_)
       | ((with_reducible refine K.atO (.buildSlice 150 _ _) ?_); refine wpL_appU rfl rfl HO.out (c.toNat : Int) rfl ?_; intro q a4 c4 w4 HO4 HF4))
       obtain ⟨g1, g2⟩ := HFIN.out _ _ _ HO4.out
       exact ⟨⟨i + 1, 0 + 1, by go_num, HLT.out, by rw [← g2]; exact HLN.out, hid g1, hid g2⟩, by have := HLT.out; simp [intOf]; omega⟩
    | true =>
     have HE : Hid (foA [] false (l.take (i + 1)) = foA [] false (l.take i) ++ [32] ++ [c]) := hid (by rw [HNY.out, hlb]; simp)
     obtain ⟨k, hik, hd, halp⟩ : ∃ k : Nat, i = k + 1 ∧ l[k]? = some 32 ∧ 0 < al := by
      rw [HEM.out] at hlb
      have h0 := (Bool.and_eq_true_iff.1 hlb)
      have ha : 0 < al := by have := h0.2; simp at this; omega
      rcases HDC.out with rfl | ⟨k, d, h1, h2, h3⟩
      ·have := h0.1
       simp [lst] at this
      ·refine ⟨k, h1, ?_, ha⟩
       have := h0.1
       rw [h3] at this
       rw [h2, eq_of_beq this]
     have hpos : (0 : Int) < i := by omega
     have halpi : (0 : Int) < al := by omega
     have HIK := hid hik; have HD := hid hd
     clear hlb hik hd halp
     go_wp2_with (first
      | ((with_reducible refine K.atO (.index 9 _ _) ?_); (fail_if_success (have := HA1)); refine idxZ HS HC rfl rfl rfl rfl ?_; have HA1 := hid trivial)
      | ((with_reducible refine K.atO (.index 9 _ _) ?_); (fail_if_success (have := HA2)); refine wpL_valZ (by rfl) (.int .u8 32) (exec_idxB _ _ rfl l HS.out k 32 HD.out _ (by have := HIK.out; omega) rfl rfl _) ?_; have HA2 := hid trivial)
      | ((with_reducible refine K.atO (.index 9 _ _) ?_); refine idxZ HS HC rfl rfl rfl rfl ?_)
      | ((with_reducible refine K.atO (.buildSlice 150 _ _) ?_); (fail_if_success (have := HO4)); refine wpL_appU rfl rfl HO.out 32 rfl ?_; intro q a4 c4 w4 HO4 HF4)
      | ((with_reducible refine K.atO (.buildSlice 150 _ _) ?_); refine wpL_appU rfl rfl HO4.out (c.toNat : Int) rfl ?_; intro q5 a5 c5 w5 HO5 HF5))
     have HL5 : Hid ((foA [] false (l.take (i + 1))).length = al + 1 + 1) := hid (by rw [HE.out, List.length_append, List.length_append, HAL.out]; rfl)
     refine ⟨⟨i + 1, al + 1 + 1, by go_num, HLT.out, by rw [← HL5.out]; exact HLN.out, hid ?_, HL5⟩, by have := HLT.out; simp [intOf]; omega⟩
     have h := HO5.out
     rw [HE.out]
     have e : u8s (foA [] false (l.take i)) ++ [Value.int .u8 32] ++ [Value.int .u8 (c.toNat : Int)] = u8s (foA [] false (l.take i) ++ [32] ++ [c]) := by simp [u8s]
     rw [e] at h
     exact h
  ·obtain rfl : i = n := by omega
   have hall : l.take i = l := List.take_of_length_le (by rw [HN.out]; exact Nat.le_refl _)
   have HO2 : Hid (OwR 5 1 w wr (.slice va al vc) (foA [] false l).length (u8s (foA [] false l))) := hid (by have h := HO.out; have h2 := HAL.out; rw [hall] at h h2; rw [h2]; exact h)
   have HDEN := hid (owR_bytes HO2.out)
   clear hall hlt
   go_wp2_with (first
    | ((with_reducible refine K.atO (.convert _ 9 _) ?_); refine wpL_stringOf rfl _ _ _ _ rfl _ _ (foA [] false l) rfl HDEN.out Tryz.underlying150 Tryz.underlying5 Tryz.underlying9 ?_))
   go_ret
   exact ⟨rfl, HO.out.fr⟩
theorem exec_eqQ {op : Oper} {a : Act} (x y : Operand) (u : TypeId) (ho : op.op = .binOp .eql 9 x y u) (p q : B) {A C : ByteArray} (hA : sb p = A) (hC : sb q = C) (r : Bool) (hr : decide (p = q) = r) (hx : a.eval x = .string A) (hy : a.eval y = .string C) (w : World) :
  (execOp a.eval op).run Tryz.prog w = .ok (.value (.bool r)) w := by
 subst hA hC hr
 exact exec_eqS x y u ho p q hx hy w
def bareN : B → B
 | [] => []
 | c :: r => if c.toNat = 45 then r else c :: r
theorem numV_is (v : B) (h : v ≠ [48]) : (numV v).isSome = isDs (bareN v) := by
 unfold numV
 rw [if_neg h]
 cases v with
 | nil => rfl
 | cons c r =>
  unfold bareN
  simp only
  by_cases hc : c.toNat = 45
  ·rw [if_pos hc, if_pos hc]; cases isDs r <;> rfl
  ·rw [if_neg hc, if_neg hc]; cases isDs (c :: r) <;> rfl
theorem exec_fromB {op : Oper} {a : Act} (x h : Operand) (ho : op.op = .slice 9 x (some h) none none) (l : B) {A : ByteArray} (hA : sb l = A) (k : Nat) (hx : a.eval x = .string A) (hh : a.eval h = .int .i64 (k : Int)) (h2 : k ≤ l.length) (r : B) (hr : l.drop k = r) (w : World) :
  (execOp a.eval op).run Tryz.prog w = .ok (.value (.string (sb r))) w := by
 subst hA
 exact exec_from x h ho l k hx hh h2 r hr w
theorem isD_n (c : UInt8) : isD c = true ↔ 48 ≤ c.toNat ∧ c.toNat ≤ 57 := by unfold isD; simp
theorem isDs_no {l : B} {c : UInt8} (h : c ∈ l) (hc : isD c = false) : isDs l = false := by
 unfold isDs
 have : l.all isD = false := by rw [List.all_eq_false]; exact ⟨c, h, by rw [hc]; decide⟩
 rw [this]; rfl
theorem number_any (v : B) (hv : v.length ≤ 4294967000) (w : World) : Calls Tryz.prog 91 #[.string (sb v)] w fun e w' => e = .returned (.bool (numV v).isSome) ∧ Fr No w w' := by
 obtain ⟨S, hS⟩ : ∃ S, sb v = S := ⟨_, rfl⟩
 have HS := hid hS
 obtain ⟨R, hR⟩ : ∃ R, (numV v).isSome = R := ⟨_, rfl⟩
 rw [hS, hR]
 by_cases h48 : v = [48]
 ·have hd : decide (v = [48]) = true := decide_eq_true h48
  have HD := hid hd
  obtain rfl : true = R := by rw [← hR, h48]; rfl
  clear hS hR h48 hd hv
  go_enter Tryz.func91, Tryz.ntmps91
  go_wp2_with (first
   | ((with_reducible refine atO (.binOp .eql 9 _ _ _) ?_); refine wpL_valZ rfl (.bool true) (exec_eqQ _ _ _ rfl v [48] HS.out rfl _ HD.out rfl rfl _) ?_))
  go_ret
  exact ⟨rfl, Fr.refl _ _⟩
 ·have hd : decide (v = [48]) = false := decide_eq_false h48
  have HD := hid hd
  rw [numV_is v h48] at hR
  clear h48 hd
  cases v with
  | nil =>
   obtain rfl : false = R := hR.symm.trans rfl |>.symm
   have hsz : (S.size : Int) = 0 := by rw [← hS]; rfl
   clear hS hR hv
   go_enter Tryz.func91, Tryz.ntmps91
   go_wp2_with (first
    | ((with_reducible refine atO (.binOp .eql 9 _ _ _) ?_); refine wpL_valZ rfl (.bool false) (exec_eqQ _ _ _ rfl [] [48] HS.out rfl _ HD.out rfl rfl _) ?_))
   go_loopw [3] (fun iv wr => iv = .int .i64 0 ∧ Hid (Fr No w wr)) (fun iv _ => 0)
   case atStart => exact ⟨rfl, hid (Fr.refl _ _)⟩
   case round =>
    obtain ⟨rfl, HI⟩ := hrel
    go_wp2_with fail
    go_ret
    exact ⟨rfl, HI.out⟩
  | cons c r =>
   by_cases hc : c.toNat = 45
   ·have hb : bareN (c :: r) = r := by show (if c.toNat = 45 then r else c :: r) = _; rw [if_pos hc]
    rw [hb] at hR
    have hc2 : ((c.toNat : Int) == 45) = true := beqI (by omega)
    have hsz : (S.size : Int) = r.length + 1 := by rw [← hS, sb_size]; rfl
    obtain ⟨n, hn⟩ : ∃ n, r.length = n := ⟨_, rfl⟩
    rw [hn] at hsz
    have hni : (n : Int) ≤ 4294967000 := by simp only [List.length_cons] at hv; omega
    obtain ⟨U, hU⟩ : ∃ U, sb r = U := ⟨_, rfl⟩
    have husz : (U.size : Int) = n := by rw [← hU, sb_size, hn]
    have HU := hid hU; have HN := hid hn; have HR := hid hR
    have hpos : (0 : Int) < n + 1 := by omega
    clear hb hc hS hR hn hU hv
    go_enter Tryz.func91, Tryz.ntmps91
    go_wp2_with (first
     | ((with_reducible refine atO (.binOp .eql 9 _ _ _) ?_); refine wpL_valZ rfl (.bool false) (exec_eqQ _ _ _ rfl (c :: r) [48] HS.out rfl _ HD.out rfl rfl _) ?_)
     | ((with_reducible refine atO (.index 9 _ _) ?_); refine wpL_valZ (by rfl) (.int .u8 (c.toNat : Int)) (exec_idxB _ _ rfl (c :: r) HS.out 0 c rfl _ rfl rfl rfl _) ?_)
     | ((with_reducible refine atO (.slice 9 _ _ _ _) ?_); refine wpL_valZ rfl (.string U) (by rw [← HU.out]; exact exec_fromB _ _ rfl (c :: r) HS.out 1 rfl rfl (by simp) _ rfl _) ?_))
    clear hsz hc2 hpos
    go_loopw [3] (fun iv wr => ∃ (i : Nat), iv = .int .i64 i ∧ i ≤ n ∧ Hid ((r.take i).all isD = true ∧ Fr No w wr)) (fun iv _ => n - (intOf iv).toNat)
    case atStart => exact ⟨0, rfl, Nat.zero_le _, hid ⟨rfl, Fr.refl _ _⟩⟩
    case round =>
     obtain ⟨i, rfl, hi, HI⟩ := hrel
     by_cases hlt : i < n
     ·obtain ⟨d, hd⟩ : ∃ d, r[i]? = some d := ⟨_, List.getElem?_eq_getElem (by rw [HN.out]; exact hlt)⟩
      have hlti : (i : Int) < n := by omega
      have hi0 : (0 : Int) ≤ i := by omega
      have HLT := hid hlt; have HDD := hid hd
      have HAT : Hid ((r.take (i + 1)).all isD = isD d) := hid (by rw [List.take_add_one, hd, List.all_append, HI.out.1]; simp)
      have hcs : isD d = true ∧ 48 ≤ d.toNat ∧ d.toNat ≤ 57 ∨ isD d = false ∧ d.toNat < 48 ∨ isD d = false ∧ 48 ≤ d.toNat ∧ 57 < d.toNat := by
       cases h : isD d with
       | true => exact .inl ⟨rfl, (isD_n d).1 h⟩
       | false =>
        have hn : ¬ (48 ≤ d.toNat ∧ d.toNat ≤ 57) := fun e => by rw [(isD_n d).2 e] at h; cases h
        by_cases h1 : d.toNat < 48
        ·exact .inr (.inl ⟨rfl, h1⟩)
        ·exact .inr (.inr ⟨rfl, by omega, by omega⟩)
      clear hd hlt
      rcases hcs with ⟨hd0, hd1, hd2⟩ | ⟨hd0, hd1⟩ | ⟨hd0, hd1, hd2⟩
      ·have g1 : ¬ (d.toNat : Int) < 48 := by omega
       have g2 : ¬ (57 : Int) < d.toNat := by omega
       have HD0 := hid hd0
       clear hd0 hd1 hd2
       go_wp2_with (first
        | ((with_reducible refine atO (.index 9 _ _) ?_); refine idxZ HU HDD rfl rfl rfl rfl ?_))
       refine ⟨⟨i + 1, by go_num, HLT.out, hid ⟨by rw [HAT.out, HD0.out], HI.out.2⟩⟩, ?_⟩
       have := HLT.out
       simp [intOf]; omega
      ·have g1 : (d.toNat : Int) < 48 := by omega
       have hr0 : false = R := by rw [← HR.out, isDs_no (List.mem_of_getElem? HDD.out) hd0]
       subst hr0
       clear hd0 hd1
       go_wp2_with (first
        | ((with_reducible refine atO (.index 9 _ _) ?_); refine idxZ HU HDD rfl rfl rfl rfl ?_))
       go_ret
       exact ⟨rfl, HI.out.2⟩
      ·have g1 : ¬ (d.toNat : Int) < 48 := by omega
       have g2 : (57 : Int) < d.toNat := by omega
       have hr0 : false = R := by rw [← HR.out, isDs_no (List.mem_of_getElem? HDD.out) hd0]
       subst hr0
       clear hd0 hd1 hd2
       go_wp2_with (first
        | ((with_reducible refine atO (.index 9 _ _) ?_); refine idxZ HU HDD rfl rfl rfl rfl ?_))
       go_ret
       exact ⟨rfl, HI.out.2⟩
     ·obtain rfl : i = n := by omega
      have hall : r.all isD = true := by have h := HI.out.1; rwa [List.take_of_length_le (by rw [HN.out]; exact Nat.le_refl _)] at h
      have hR2 : (decide (1 ≤ i) && decide (i ≤ 9) && decide (r.head? ≠ some 48)) = R := by
       rw [← HR.out]; unfold isDs; rw [hall, HN.out, Bool.true_and]
      clear hall hlt
      by_cases h1 : 1 ≤ i
      ·by_cases h9 : i ≤ 9
       ·obtain ⟨d, hd⟩ : ∃ d, r[0]? = some d := ⟨_, List.getElem?_eq_getElem (by rw [HN.out]; exact h1)⟩
        have hh : r.head? = some d := by rw [List.head?_eq_getElem?, hd]
        have g1 : (1 : Int) ≤ i := by omega
        have g2 : (i : Int) ≤ 9 := by omega
        have g3 : (0 : Int) < i := by omega
        have HDD := hid hd
        rw [hh, decide_eq_true h1, decide_eq_true h9] at hR2
        have hR3 : (!decide (d = 48)) = R := by rw [← hR2]; simp
        have HRR := hid hR3
        clear h1 h9 hd hh hR2 hR3 hi
        by_cases hd48 : d = 48
        ·subst hd48
         obtain rfl : false = R := by rw [← HRR.out]; rfl
         go_wp2_with (first
          | ((with_reducible refine atO (.index 9 _ _) ?_); refine wpL_valZ (by rfl) (.int .u8 48) (exec_idxB _ _ rfl r HU.out 0 48 HDD.out _ rfl rfl rfl _) ?_))
         go_ret
         exact ⟨rfl, HI.out.2⟩
        ·obtain rfl : true = R := by rw [← HRR.out]; simp [hd48]
         have g4 : ((d.toNat : Int) == 48) = false := beqN (fun e => hd48 (UInt8.toNat_inj.1 (by have : (48 : UInt8).toNat = 48 := rfl; omega)))
         have g5 : ((d.toNat : Int) != 48) = true := by rw [bne, g4]; rfl
         clear hd48
         go_wp2_with (first
          | ((with_reducible refine atO (.index 9 _ _) ?_); refine idxZ HU HDD rfl rfl rfl rfl ?_))
         go_ret
         exact ⟨rfl, HI.out.2⟩
       ·obtain rfl : false = R := by rw [← hR2, decide_eq_false h9]; simp
        have g1 : (1 : Int) ≤ i := by omega
        have g2 : ¬ (i : Int) ≤ 9 := by omega
        clear hR2 h1 h9
        go_wp2_with fail
        go_ret
        exact ⟨rfl, HI.out.2⟩
      ·obtain rfl : false = R := by rw [← hR2, decide_eq_false h1]; rfl
       obtain rfl : i = 0 := by omega
       clear hR2 h1
       go_wp2_with fail
       go_ret
       exact ⟨rfl, HI.out.2⟩
   ·have hb : bareN (c :: r) = c :: r := by show (if c.toNat = 45 then r else c :: r) = _; rw [if_neg hc]
    rw [hb] at hR
    have hc2 : ((c.toNat : Int) == 45) = false := beqN (by omega)
    obtain ⟨n, hn⟩ : ∃ n, (c :: r).length = n := ⟨_, rfl⟩
    have husz : (S.size : Int) = n := by rw [← hS, sb_size, hn]
    have hni : (n : Int) ≤ 4294967000 := by omega
    have HU := hid hS; have HN := hid hn; have HR := hid hR
    have hpos : (0 : Int) < n := by simp only [List.length_cons] at hn; omega
    have HC0 := hid (show (c :: r)[0]? = some c from rfl)
    clear hb hc hS hR hn hv
    generalize c :: r = u at HC0 HS HD HU HN HR
    go_enter Tryz.func91, Tryz.ntmps91
    go_wp2_with (first
     | ((with_reducible refine atO (.binOp .eql 9 _ _ _) ?_); refine wpL_valZ rfl (.bool false) (exec_eqQ _ _ _ rfl u [48] HS.out rfl _ HD.out rfl rfl _) ?_)
     | ((with_reducible refine atO (.index 9 _ _) ?_); refine idxZ HS HC0 rfl rfl rfl rfl ?_))
    clear hc2 hpos
    go_loopw [3] (fun iv wr => ∃ (i : Nat), iv = .int .i64 i ∧ i ≤ n ∧ Hid ((u.take i).all isD = true ∧ Fr No w wr)) (fun iv _ => n - (intOf iv).toNat)
    case atStart => exact ⟨0, rfl, Nat.zero_le _, hid ⟨rfl, Fr.refl _ _⟩⟩
    case round =>
     obtain ⟨i, rfl, hi, HI⟩ := hrel
     by_cases hlt : i < n
     ·obtain ⟨d, hd⟩ : ∃ d, u[i]? = some d := ⟨_, List.getElem?_eq_getElem (by rw [HN.out]; exact hlt)⟩
      have hlti : (i : Int) < n := by omega
      have hi0 : (0 : Int) ≤ i := by omega
      have HLT := hid hlt; have HDD := hid hd
      have HAT : Hid ((u.take (i + 1)).all isD = isD d) := hid (by rw [List.take_add_one, hd, List.all_append, HI.out.1]; simp)
      have hcs : isD d = true ∧ 48 ≤ d.toNat ∧ d.toNat ≤ 57 ∨ isD d = false ∧ d.toNat < 48 ∨ isD d = false ∧ 48 ≤ d.toNat ∧ 57 < d.toNat := by
       cases h : isD d with
       | true => exact .inl ⟨rfl, (isD_n d).1 h⟩
       | false =>
        have hn : ¬ (48 ≤ d.toNat ∧ d.toNat ≤ 57) := fun e => by rw [(isD_n d).2 e] at h; cases h
        by_cases h1 : d.toNat < 48
        ·exact .inr (.inl ⟨rfl, h1⟩)
        ·exact .inr (.inr ⟨rfl, by omega, by omega⟩)
      clear hd hlt
      rcases hcs with ⟨hd0, hd1, hd2⟩ | ⟨hd0, hd1⟩ | ⟨hd0, hd1, hd2⟩
      ·have g1 : ¬ (d.toNat : Int) < 48 := by omega
       have g2 : ¬ (57 : Int) < d.toNat := by omega
       have HD0 := hid hd0
       clear hd0 hd1 hd2
       go_wp2_with (first
        | ((with_reducible refine atO (.index 9 _ _) ?_); refine idxZ HU HDD rfl rfl rfl rfl ?_))
       refine ⟨⟨i + 1, by go_num, HLT.out, hid ⟨by rw [HAT.out, HD0.out], HI.out.2⟩⟩, ?_⟩
       have := HLT.out
       simp [intOf]; omega
      ·have g1 : (d.toNat : Int) < 48 := by omega
       have hr0 : false = R := by rw [← HR.out, isDs_no (List.mem_of_getElem? HDD.out) hd0]
       subst hr0
       clear hd0 hd1
       go_wp2_with (first
        | ((with_reducible refine atO (.index 9 _ _) ?_); refine idxZ HU HDD rfl rfl rfl rfl ?_))
       go_ret
       exact ⟨rfl, HI.out.2⟩
      ·have g1 : ¬ (d.toNat : Int) < 48 := by omega
       have g2 : (57 : Int) < d.toNat := by omega
       have hr0 : false = R := by rw [← HR.out, isDs_no (List.mem_of_getElem? HDD.out) hd0]
       subst hr0
       clear hd0 hd1 hd2
       go_wp2_with (first
        | ((with_reducible refine atO (.index 9 _ _) ?_); refine idxZ HU HDD rfl rfl rfl rfl ?_))
       go_ret
       exact ⟨rfl, HI.out.2⟩
     ·obtain rfl : i = n := by omega
      have hall : u.all isD = true := by have h := HI.out.1; rwa [List.take_of_length_le (by rw [HN.out]; exact Nat.le_refl _)] at h
      have hR2 : (decide (1 ≤ i) && decide (i ≤ 9) && decide (u.head? ≠ some 48)) = R := by
       rw [← HR.out]; unfold isDs; rw [hall, HN.out, Bool.true_and]
      clear hall hlt
      by_cases h1 : 1 ≤ i
      ·by_cases h9 : i ≤ 9
       ·obtain ⟨d, hd⟩ : ∃ d, u[0]? = some d := ⟨_, List.getElem?_eq_getElem (by rw [HN.out]; exact h1)⟩
        have hh : u.head? = some d := by rw [List.head?_eq_getElem?, hd]
        have g1 : (1 : Int) ≤ i := by omega
        have g2 : (i : Int) ≤ 9 := by omega
        have g3 : (0 : Int) < i := by omega
        have HDD := hid hd
        rw [hh, decide_eq_true h1, decide_eq_true h9] at hR2
        have hR3 : (!decide (d = 48)) = R := by rw [← hR2]; simp
        have HRR := hid hR3
        clear h1 h9 hd hh hR2 hR3 hi
        by_cases hd48 : d = 48
        ·subst hd48
         obtain rfl : false = R := by rw [← HRR.out]; rfl
         go_wp2_with (first
          | ((with_reducible refine atO (.index 9 _ _) ?_); refine wpL_valZ (by rfl) (.int .u8 48) (exec_idxB _ _ rfl u HU.out 0 48 HDD.out _ rfl rfl rfl _) ?_))
         go_ret
         exact ⟨rfl, HI.out.2⟩
        ·obtain rfl : true = R := by rw [← HRR.out]; simp [hd48]
         have g4 : ((d.toNat : Int) == 48) = false := beqN (fun e => hd48 (UInt8.toNat_inj.1 (by have : (48 : UInt8).toNat = 48 := rfl; omega)))
         have g5 : ((d.toNat : Int) != 48) = true := by rw [bne, g4]; rfl
         clear hd48
         go_wp2_with (first
          | ((with_reducible refine atO (.index 9 _ _) ?_); refine idxZ HU HDD rfl rfl rfl rfl ?_))
         go_ret
         exact ⟨rfl, HI.out.2⟩
       ·obtain rfl : false = R := by rw [← hR2, decide_eq_false h9]; simp
        have g1 : (1 : Int) ≤ i := by omega
        have g2 : ¬ (i : Int) ≤ 9 := by omega
        clear hR2 h1 h9
        go_wp2_with fail
        go_ret
        exact ⟨rfl, HI.out.2⟩
      ·obtain rfl : false = R := by rw [← hR2, decide_eq_false h1]; rfl
       obtain rfl : i = 0 := by omega
       clear hR2 h1
       go_wp2_with fail
       go_ret
       exact ⟨rfl, HI.out.2⟩
theorem valD_snoc (l : B) (c : UInt8) (n : Nat) : valD n (l ++ [c]) = 10 * valD n l + (c.toNat - 48) := by unfold valD; rw [List.foldl_append]; rfl
theorem valD_lt : ∀ (l : B), l.all isD = true → valD 0 l < 10 ^ l.length := fun l => by
 have key : ∀ (l : B) (n k : Nat), l.all isD = true → n < 10 ^ k → valD n l < 10 ^ (k + l.length) := by
  intro l
  induction l with
  | nil => intro n k _ h; exact h
  | cons c r ih =>
   intro n k h hn
   rw [List.all_cons, Bool.and_eq_true] at h
   have h1 := (isD_n c).1 h.1
   have e : valD n (c :: r) = valD (10 * n + (c.toNat - 48)) r := rfl
   rw [e]
   have h2 := ih (10 * n + (c.toNat - 48)) (k + 1) h.2 (by rw [Nat.pow_succ]; omega)
   rw [List.length_cons]
   rwa [show k + (r.length + 1) = k + 1 + r.length by omega]
 intro h
 have := key l 0 0 h (by decide)
 rwa [Nat.zero_add] at this
def notSign (c : UInt8) : Bool := c.toNat != 45
theorem num_bare {v : B} {m : Int} (h : numV v = some m) : (v.filter notSign).all isD = true ∧ (v.filter notSign).length ≤ 9 ∧ ∃ c, v[0]? = some c ∧ m = if c.toNat = 45 then -(valD 0 (v.filter notSign) : Int) else (valD 0 (v.filter notSign) : Int) := by
 have hf : ∀ l : B, l.all isD = true → l.filter notSign = l := fun l hl => List.filter_eq_self.2 fun c hc => by
  have := (isD_n c).1 (List.all_eq_true.1 hl c hc)
  unfold notSign
  simp only [bne_iff_ne, ne_eq]
  omega
 unfold numV at h
 by_cases h48 : v = [48]
 ·rw [if_pos h48] at h
  cases h
  subst h48
  exact ⟨rfl, by decide, 48, rfl, rfl⟩
 ·rw [if_neg h48] at h
  cases v with
  | nil => cases h
  | cons c r =>
   simp only at h
   by_cases hc : c.toNat = 45
   ·rw [if_pos hc] at h
    by_cases hd : isDs r = true
    ·rw [if_pos hd] at h
     cases h
     unfold isDs at hd
     simp only [Bool.and_eq_true, decide_eq_true_eq] at hd
     have e : (c :: r).filter notSign = r := by
      rw [List.filter_cons_of_neg (by unfold notSign; simp [hc]), hf r hd.1.1.1]
     rw [e]
     exact ⟨hd.1.1.1, hd.1.2, c, rfl, by rw [if_pos hc]⟩
    ·rw [if_neg hd] at h; cases h
   ·rw [if_neg hc] at h
    by_cases hd : isDs (c :: r) = true
    ·rw [if_pos hd] at h
     cases h
     unfold isDs at hd
     simp only [Bool.and_eq_true, decide_eq_true_eq] at hd
     rw [hf _ hd.1.1.1]
     exact ⟨hd.1.1.1, hd.1.2, c, rfl, by rw [if_neg hc]⟩
    ·rw [if_neg hd] at h; cases h
theorem whole_any (v : B) (m : Int) (hm : numV v = some m) (hv : v.length ≤ 4294967000) (w : World) : Calls Tryz.prog 110 #[.string (sb v)] w fun e w' => e = .returned (.int .i64 m) ∧ Fr No w w' := by
 obtain ⟨S, hS⟩ : ∃ S, sb v = S := ⟨_, rfl⟩
 obtain ⟨n, hn⟩ : ∃ n, v.length = n := ⟨_, rfl⟩
 have hsz : (S.size : Int) = n := by rw [← hS, sb_size, hn]
 have hni : (n : Int) ≤ 4294967000 := by omega
 obtain ⟨hd, h9, c0, hc0, hmm⟩ := num_bare hm
 have HS := hid hS; have HN := hid hn; have HD := hid hd; have H9 := hid h9; have HC0 := hid hc0; have HM := hid hmm
 have hn0 : (0 : Int) < n := by
  have := (List.getElem?_eq_some_iff.1 hc0).1
  omega
 have HBD : Hid (∀ i, valD 0 ((v.take i).filter notSign) ≤ 999999999) := hid (fun i => by
  have hp : (v.take i).filter notSign <+: v.filter notSign := by
   have := List.filter_append (p := notSign) (v.take i) (v.drop i)
   rw [List.take_append_drop] at this
   exact ⟨_, this.symm⟩
  have ha : ((v.take i).filter notSign).all isD = true := List.all_eq_true.2 fun c hc => List.all_eq_true.1 hd c (hp.subset hc)
  have h1 := valD_lt _ ha
  have h2 : 10 ^ ((v.take i).filter notSign).length ≤ 10 ^ 9 := Nat.pow_le_pow_right (by decide) (Nat.le_trans hp.length_le h9)
  omega)
 rw [hS]
 clear hS hn hv hm hd h9 hc0 hmm
 go_enter Tryz.func110, Tryz.ntmps110
 go_wp2_with fail
 go_loopw [3, 4] (fun kv iv wr => ∃ (i : Nat) (K : Int), iv = .int .i64 i ∧ kv = .int .i64 K ∧ i ≤ n ∧ 0 ≤ K ∧ K ≤ 999999999 ∧ Hid (K = (valD 0 ((v.take i).filter notSign) : Int)) ∧ Hid (Fr No w wr)) (fun _ iv _ => n - (intOf iv).toNat)
 case atStart => exact ⟨0, 0, rfl, rfl, Nat.zero_le _, by decide, by decide, hid rfl, hid (Fr.refl _ _)⟩
 case round =>
  obtain ⟨i, K, rfl, rfl, hi, hK0, hK1, HK, HF⟩ := hrel
  by_cases hlt : i < n
  ·obtain ⟨c, hc⟩ : ∃ c, v[i]? = some c := ⟨_, List.getElem?_eq_getElem (by rw [HN.out]; exact hlt)⟩
   have hlti : (i : Int) < n := by omega
   have hi0 : (0 : Int) ≤ i := by omega
   have HLT := hid hlt; have HC := hid hc
   have hfl : (v.take (i + 1)).filter notSign = (v.take i).filter notSign ++ (if notSign c then [c] else []) := by
    rw [List.take_add_one, hc, Option.toList_some, List.filter_append]
    cases h : notSign c <;> simp [h]
   have HFL := hid hfl
   clear hlt hfl
   by_cases h45 : c.toNat = 45
   ·have e1 : ((c.toNat : Int) == 45) = true := beqI (by omega)
    have HE : Hid (valD 0 ((v.take (i + 1)).filter notSign) = valD 0 ((v.take i).filter notSign)) := hid (by rw [HFL.out, show notSign c = false by unfold notSign; simp [h45]]; simp)
    clear h45 hc
    go_wp2_with (first
     | ((with_reducible refine atO (.index 9 _ _) ?_); refine idxZ HS HC rfl rfl rfl rfl ?_))
    refine ⟨⟨i + 1, K, by go_num, rfl, HLT.out, hK0, hK1, hid (by rw [HE.out]; exact HK.out), HF⟩, ?_⟩
    have := HLT.out
    simp [intOf]; omega
   ·have e1 : ((c.toNat : Int) == 45) = false := beqN (by omega)
    have hcm : c ∈ v.filter notSign := List.mem_filter.2 ⟨List.mem_of_getElem? hc, by unfold notSign; simp [h45]⟩
    obtain ⟨d1, d2⟩ := (isD_n c).1 (List.all_eq_true.1 HD.out c hcm)
    obtain ⟨D, hD⟩ : ∃ D : Int, (c.toNat : Int) - 48 = D := ⟨_, rfl⟩
    have HE : Hid ((valD 0 ((v.take (i + 1)).filter notSign) : Int) = 10 * K + D) := hid (by
     rw [HFL.out, show notSign c = true by unfold notSign; simp [h45], if_pos rfl, valD_snoc, HK.out]
     omega)
    have hb : 10 * K + D ≤ 999999999 := by rw [← HE.out]; have := HBD.out (i + 1); omega
    have hD0 : 0 ≤ D := by omega
    have hD9 : D ≤ 9 := by omega
    have HDQ := hid hD
    have hdi1 : (48 : Int) ≤ (c.toNat : Int) := by omega
    have hdi2 : (c.toNat : Int) ≤ 57 := by omega
    clear h45 hc hcm d1 d2
    go_wp2_with (first
     | ((with_reducible refine atO (.index 9 _ _) ?_); refine idxZ HS HC rfl rfl rfl rfl ?_))
    refine ⟨⟨i + 1, 10 * K + D, by go_num, by go_num, HLT.out, by omega, hb, hid HE.out.symm, HF⟩, ?_⟩
    have := HLT.out
    simp [intOf]; omega
  ·obtain rfl : i = n := by omega
   have hK : K = (valD 0 (v.filter notSign) : Int) := by have h := HK.out; rwa [List.take_of_length_le (by rw [HN.out]; exact Nat.le_refl _)] at h
   have HKK := hid hK
   clear hlt hK
   by_cases h45 : c0.toNat = 45
   ·have e1 : ((c0.toNat : Int) == 45) = true := beqI (by omega)
    have HMM : Hid (-K = m) := hid (by rw [HM.out, if_pos h45, HKK.out])
    clear h45
    go_wp2_with (first
     | ((with_reducible refine atO (.index 9 _ _) ?_); refine idxZ HS HC0 rfl rfl rfl rfl ?_))
    go_ret
    exact ⟨by rw [← HMM.out]; rfl, HF.out⟩
   ·have e1 : ((c0.toNat : Int) == 45) = false := beqN (by omega)
    have HMM : Hid (K = m) := hid (by rw [HM.out, if_neg h45, HKK.out])
    clear h45
    go_wp2_with (first
     | ((with_reducible refine atO (.index 9 _ _) ?_); refine idxZ HS HC0 rfl rfl rfl rfl ?_))
    go_ret
    exact ⟨by rw [← HMM.out]; rfl, HF.out⟩
theorem exec_twoQ {op : Oper} {a : Act} (x g h : Operand) (ho : op.op = .slice 9 x (some g) (some h) none) (l : B) {S : ByteArray} (hS : sb l = S) (m k : Nat) (hx : a.eval x = .string S) (hg : a.eval g = .int .i64 (m : Int)) (hh : a.eval h = .int .i64 (k : Int)) (h1 : m ≤ k) (h2 : k ≤ l.length) (r : B) (hr : (l.drop m).take (k - m) = r) (w : World) :
  (execOp a.eval op).run Tryz.prog w = .ok (.value (.string (sb r))) w := by
 subst hS
 exact exec_two x g h ho l m k hx hg hh h1 h2 r hr w
theorem occ_take (v p : B) (i : Nat) : Lib.occAt v p i = decide ((v.drop i).take p.length = p) := by
 unfold Lib.occAt
 by_cases h : (v.drop i).take p.length = p
 ·rw [decide_eq_true h, List.isPrefixOf_iff_prefix, List.prefix_iff_eq_take]
  exact h.symm
 ·rw [decide_eq_false h, Bool.eq_false_iff]
  intro h2
  rw [List.isPrefixOf_iff_prefix, List.prefix_iff_eq_take] at h2
  exact h h2.symm
theorem occ_drop (v p : B) (f j : Nat) : Lib.occAt (v.drop f) p j = Lib.occAt v p (f + j) := by
 unfold Lib.occAt
 rw [List.drop_drop]
def findI (v : B) (f : Nat) (p : B) : Int := if Lib.index (v.drop f) p = -1 then -1 else (f : Int) + Lib.index (v.drop f) p
theorem find_at {v p : B} {f i : Nat} (hf : f ≤ i) (hi : i ≤ v.length) (ho : Lib.occAt v p i = true) (hn : ∀ j, f ≤ j → j < i → Lib.occAt v p j = false) : findI v f p = (i : Int) := by
 have h : Lib.index (v.drop f) p = ((i - f : Nat) : Int) := Lib.index_first (by rw [List.length_drop]; omega) (by rw [occ_drop, show f + (i - f) = i by omega]; exact ho) (fun j hj => by rw [occ_drop]; exact hn _ (by omega) (by omega))
 unfold findI
 rw [h, if_neg (by omega)]
 omega
theorem find_no {v p : B} {f i : Nat} (hf : f ≤ v.length) (hi : v.length < i + p.length) (hn : ∀ j, f ≤ j → j < i → Lib.occAt v p j = false) : findI v f p = -1 := by
 have h : Lib.index (v.drop f) p = -1 := Lib.index_none (fun j hjl => by
  rw [List.length_drop] at hjl
  rw [occ_drop]
  by_cases hj : f + j < i
  ·exact hn _ (by omega) hj
  ·rw [occ_take]
   refine decide_eq_false fun e => ?_
   have := congrArg List.length e
   rw [List.length_take, List.length_drop] at this
   omega)
 unfold findI
 rw [h, if_pos rfl]
theorem rfind14_any (v : B) (f : Nat) (p : B) (hv : v.length ≤ 8589934000) (hp : p.length ≤ 8589934000) (hf : f ≤ v.length) (w : World) :
  Calls Tryz.prog 109 #[.string (sb v), .int .i64 (f : Int), .string (sb p)] w fun e w' => e = .returned (.int .i64 (findI v f p)) ∧ Fr No w w' := by
 obtain ⟨V, hV⟩ : ∃ V, sb v = V := ⟨_, rfl⟩
 obtain ⟨P, hP⟩ : ∃ P, sb p = P := ⟨_, rfl⟩
 obtain ⟨n, hn⟩ : ∃ n, v.length = n := ⟨_, rfl⟩
 obtain ⟨m, hm⟩ : ∃ m, p.length = m := ⟨_, rfl⟩
 have z1 : (V.size : Int) = n := by rw [← hV, sb_size, hn]
 have z2 : (P.size : Int) = m := by rw [← hP, sb_size, hm]
 have hni : (n : Int) ≤ 8589934000 := by omega
 have hmi : (m : Int) ≤ 8589934000 := by omega
 have HV := hid hV; have HP := hid hP; have HN := hid hn; have HM := hid hm
 have hfn : f ≤ n := by omega
 rw [hV, hP]
 clear hV hP hn hm hv hp hf
 go_enter Tryz.func109, Tryz.ntmps109
 go_wp2_with fail
 go_loopw [7] (fun iv wr => ∃ (i : Nat), iv = .int .i64 i ∧ f ≤ i ∧ i ≤ n + 1 ∧ Hid (∀ j, f ≤ j → j < i → Lib.occAt v p j = false) ∧ Hid (Fr No w wr)) (fun iv _ => n + 1 - (intOf iv).toNat)
 case atStart => exact ⟨f, rfl, Nat.le_refl _, by omega, hid (fun j h1 h2 => by omega), hid (Fr.refl _ _)⟩
 case round =>
  obtain ⟨i, rfl, hfi, hin, HI, HF⟩ := hrel
  by_cases hle : i + m ≤ n
  ·have hlei : (i : Int) + m ≤ n := by omega
   have hi0 : (0 : Int) ≤ i := by omega
   have HLE := hid (show i + m ≤ n ∧ f ≤ i from ⟨hle, hfi⟩)
   obtain ⟨r, hr⟩ : ∃ r, (v.drop i).take m = r := ⟨_, rfl⟩
   obtain ⟨b, hb⟩ : ∃ b, decide (r = p) = b := ⟨_, rfl⟩
   have HR := hid hr; have HB := hid hb
   have HOC : Hid (Lib.occAt v p i = b) := hid (by rw [occ_take, HM.out, hr, hb])
   clear hle hfi hin hr hb
   cases b with
   | true =>
    have HFN : Hid (findI v f p = (i : Int)) := hid (find_at HLE.out.2 (by rw [HN.out]; have := HLE.out.1; omega) HOC.out HI.out)
    go_wp2_with (first
     | ((with_reducible refine K.atO (.slice 9 _ _ _ _) ?_); refine wpL_valZ (by rfl) (.string (sb r)) (exec_twoQ _ _ _ rfl v HV.out i (i + m) rfl rfl (by push_cast; rfl) (by omega) (by rw [HN.out]; exact HLE.out.1) r (by rw [Nat.add_sub_cancel_left]; exact HR.out) _) ?_)
     | ((with_reducible refine K.atO (.binOp .eql 9 _ _ _) ?_); refine wpL_valZ rfl (.bool true) (exec_eqQ _ _ _ rfl r p rfl HP.out _ HB.out rfl rfl _) ?_))
    go_ret
    exact ⟨by rw [HFN.out]; rfl, HF.out⟩
   | false =>
    go_wp2_with (first
     | ((with_reducible refine K.atO (.slice 9 _ _ _ _) ?_); refine wpL_valZ (by rfl) (.string (sb r)) (exec_twoQ _ _ _ rfl v HV.out i (i + m) rfl rfl (by push_cast; rfl) (by omega) (by rw [HN.out]; exact HLE.out.1) r (by rw [Nat.add_sub_cancel_left]; exact HR.out) _) ?_)
     | ((with_reducible refine K.atO (.binOp .eql 9 _ _ _) ?_); refine wpL_valZ rfl (.bool false) (exec_eqQ _ _ _ rfl r p rfl HP.out _ HB.out rfl rfl _) ?_))
    refine ⟨⟨i + 1, by go_num, by have := HLE.out.2; omega, by have := HLE.out.1; omega, hid (fun j h1 h2 => ?_), HF⟩, by have := HLE.out.1; simp [intOf]; omega⟩
    by_cases e : j = i
    ·rw [e]; exact HOC.out
    ·exact HI.out j h1 (by omega)
  ·have hgt : ¬ (i : Int) + m ≤ n := by omega
   have HFN : Hid (findI v f p = -1) := hid (find_no (i := i) (by rw [HN.out]; exact hfn) (by rw [HN.out, HM.out]; omega) HI.out)
   clear hle
   go_wp2_with fail
   go_ret
   exact ⟨by rw [HFN.out]; rfl, HF.out⟩
end Go.Proofs.YtgbiicipkbpmeaaGreatDoor.FT
