/-
  Part 19 of the proof: FtFo, FtRv, FtQ, FtE, FtU, FtX, FtFw.
-/
import Derived.Test.YtgbiicipkbpmeaaGreatDoorSk18
import Derived.Test.YtgbiicipkbpmeaaGreatDoorSk16
set_option linter.unusedSimpArgs false
set_option linter.unusedVariables false
namespace Go.Proofs.YtgbiicipkbpmeaaGreatDoor.FT
set_option maxRecDepth 100000
open Go.RowKit K BE DN SC
def foA : B → Bool → B → B
 | o, _, [] => o
 | o, b, c :: r => if c = 32 then foA o true r else foA (o ++ (if b && !o.isEmpty then [32] else []) ++ [c]) false r
theorem foA_snoc (c : UInt8) : ∀ (l o : B) (b : Bool), foA o b (l ++ [c]) = if c = 32 then foA o b l else foA o b l ++ (if lst b l && !(foA o b l).isEmpty then [32] else []) ++ [c]
 | [], o, b => by
  show foA o b [c] = _
  by_cases hc : c = 32
  ·simp [foA, hc]
  ·simp [foA, hc, lst]
 | x :: r, o, b => by
  rw [lst_cons]
  show foA o b (x :: (r ++ [c])) = _
  by_cases hx : x = 32
  ·subst hx
   have h := foA_snoc c r o true
   simp only [foA, if_true]
   rw [h]
   rfl
  ·have e : (x == 32) = false := by simpa using hx
   simp only [foA, if_neg hx]
   rw [foA_snoc c r _ false, e]
theorem foA_len : ∀ (l o : B) (b : Bool), (foA o b l).length ≤ o.length + 2 * l.length
 | [], o, _ => by simp [foA]
 | c :: r, o, b => by
  unfold foA
  split
  ·have := foA_len r o true
   simp only [List.length_cons]; omega
  ·have := foA_len r (o ++ (if b && !o.isEmpty then [32] else []) ++ [c]) false
   have h2 : (o ++ (if b && !o.isEmpty then [32] else []) ++ [c] : B).length ≤ o.length + 2 := by
    cases (b && !o.isEmpty) <;> simp
   simp only [List.length_cons]; omega
theorem foA_len0 (l : B) : (foA [] false l).length ≤ 2 * l.length := by simpa using foA_len l [] false
theorem lst_at (l : B) (k : Nat) (d : UInt8) (h : l[k]? = some d) : lst false (l.take (k + 1)) = (d == 32) := by
 unfold lst
 rw [List.take_add_one, h, Option.toList_some, List.getLast?_concat]
 rfl
theorem words_cur : ∀ (l cur : B), cur ≠ [] → words cur l ≠ []
 | [], cur, h => by
  unfold words
  rw [if_neg (by simpa using h)]
  exact List.cons_ne_nil _ _
 | c :: r, cur, h => by
  unfold words
  split
  ·rw [if_neg (by simpa using h)]
   exact List.cons_ne_nil _ _
  ·exact words_cur r _ (by simp)
theorem foA_words : ∀ (l : B), (∀ pre cur : B, cur ≠ [] → foA (pre ++ cur) false l = pre ++ joinB [32] (words cur l)) ∧ (∀ o : B, o ≠ [] → foA o true l = if words [] l = [] then o else o ++ [32] ++ joinB [32] (words [] l)) ∧ ∀ b, foA [] b l = joinB [32] (words [] l)
 | [] => by
  refine ⟨fun pre cur h => ?_, fun o h => ?_, fun b => ?_⟩
  ·unfold words foA
   rw [if_neg (by simpa using h)]
   rfl
  ·unfold words foA
   rw [if_pos (show ([] : B).isEmpty = true from rfl), if_pos rfl]
  ·rfl
 | c :: r => by
  obtain ⟨h1, h2, h3⟩ := foA_words r
  by_cases hc : c = 32
  ·subst hc
   have hw0 : words [] (32 :: r) = words [] r := by
    conv => lhs; unfold words
    rw [if_pos rfl, if_pos (show ([] : B).isEmpty = true from rfl)]
   refine ⟨fun pre cur h => ?_, fun o h => ?_, fun b => ?_⟩
   ·have hw : words cur (32 :: r) = cur :: words [] r := by
     conv => lhs; unfold words
     rw [if_pos rfl, if_neg (by simpa using h)]
    rw [hw]
    show foA (pre ++ cur) true r = _
    rw [h2 _ (by simp [h])]
    by_cases hn : words [] r = []
    ·rw [if_pos hn, hn]; rfl
    ·rw [if_neg hn, joinB_cons cur hn]; simp
   ·show foA o true r = _
    rw [h2 o h, hw0]
   ·show foA [] true r = _
    rw [h3, hw0]
  ·have hw : ∀ cur : B, words cur (c :: r) = words (cur ++ [c]) r := fun cur => by
    conv => lhs; unfold words
    rw [if_neg hc]
   have hne := words_cur r [c] (List.cons_ne_nil _ _)
   refine ⟨fun pre cur h => ?_, fun o h => ?_, fun b => ?_⟩
   ·rw [hw, ← h1 pre (cur ++ [c]) (by simp)]
    simp [foA, hc]
   ·rw [hw, List.nil_append, if_neg hne, ← h1 (o ++ [32]) [c] (List.cons_ne_nil _ _)]
    have e : o.isEmpty = false := by simpa using h
    simp [foA, hc, e]
   ·rw [hw, List.nil_append]
    have := h1 [] [c] (List.cons_ne_nil _ _)
    rw [List.nil_append] at this
    rw [List.nil_append] at this
    rw [← this]
    simp [foA, hc]
theorem fold_foA (v : B) : fold v = foA [] false (low v) := by
 rw [(foA_words (low v)).2.2 false]
 rfl
set_option maxHeartbeats 16000000 in
theorem rfold_any (p : B) (hp : p.length ≤ 4294967000) (w : World) : Calls Tryz.prog 90 #[.string (sb p)] w fun e w' => e = .returned (.string (sb (fold p))) ∧ Fr No w w' := by
 have HSM := hid (smallZ_any p (by unfold Sz; omega) w)
 obtain ⟨l, hl⟩ : ∃ l, low p = l := ⟨_, rfl⟩
 have hq : fold p = foA [] false l := by rw [fold_foA, hl]
 have hll : l.length ≤ 4294967000 := by rw [← hl, low_length]; exact hp
 rw [hq]
 rw [hl] at HSM
 obtain ⟨S, hS⟩ : ∃ S, sb l = S := ⟨_, rfl⟩
 obtain ⟨n, hn⟩ : ∃ n, l.length = n := ⟨_, rfl⟩
 have hsz : (S.size : Int) = n := by rw [← hS, sb_size, hn]
 have hni : (n : Int) ≤ 4294967000 := by omega
 have HS := hid hS; have HN := hid hn
 rw [hS] at HSM
 clear hS hn hp hq hl hll
 go_enter Tryz.func90, Tryz.ntmps90
 go_wp2_with fail
 refine HSM.out.mono ?_
 rintro e w1 ⟨rfl, f1⟩
 have HF1 := hid f1
 clear f1 HSM
 go_wp2_with fail
 go_loopw [4, 5] (fun dv iv wr => ∃ (i al : Nat), iv = .int .i64 i ∧ i ≤ n ∧ al ≤ 2 * n ∧ Hid (OwR 5 1 w wr dv al (u8s (foA [] false (l.take i)))) ∧ Hid ((foA [] false (l.take i)).length = al)) (fun _ iv _ => n - (intOf iv).toNat)
 case atStart => exact ⟨0, 0, rfl, Nat.zero_le _, Nat.zero_le _, hid (owR_nil HF1.out), hid rfl⟩
 case round =>
  obtain ⟨i, al, rfl, hi, hal, HO, HAL⟩ := hrel
  obtain ⟨va, vc, rfl⟩ := HO.out.1
  have hali : (al : Int) ≤ 8589934000 := by omega
  have hal0 : (0 : Int) ≤ al := by omega
  by_cases hlt : i < n
  ·obtain ⟨c, hc⟩ : ∃ c, l[i]? = some c := ⟨_, List.getElem?_eq_getElem (by rw [HN.out]; exact hlt)⟩
   have hlti : (i : Int) < n := by omega
   have hi0 : (0 : Int) ≤ i := by omega
   have HLT := hid hlt
   have hsn : foA [] false (l.take (i + 1)) = if c = 32 then foA [] false (l.take i) else foA [] false (l.take i) ++ (if lst false (l.take i) && !(foA [] false (l.take i)).isEmpty then [32] else []) ++ [c] := by
    rw [List.take_add_one, hc, Option.toList_some, foA_snoc]
   have HNX := hid hsn
   have HC := hid hc
   have HLN : Hid ((foA [] false (l.take (i + 1))).length ≤ 2 * n) := hid (by have := foA_len0 (l.take (i + 1)); rw [List.length_take] at this; have := HN.out; omega)
   clear hc hlt hal hsn
   by_cases h32 : c = 32
   ·subst h32
    have HE : Hid (foA [] false (l.take (i + 1)) = foA [] false (l.take i)) := hid (by rw [HNX.out, if_pos rfl])
    go_wp2_with (first
     | ((with_reducible refine K.atO (.index 9 _ _) ?_); refine wpL_valZ (by rfl) (.int .u8 32) (exec_idxB _ _ rfl l HS.out i 32 HC.out _ rfl rfl rfl _) ?_)
     | fail)
    refine ⟨⟨i + 1, al, by go_num, HLT.out, by rw [← HAL.out, ← HE.out]; exact HLN.out, hid (by rw [HE.out]; exact HO.out), hid (by rw [HE.out]; exact HAL.out)⟩, by have := HLT.out; simp [intOf]; omega⟩
   ·have hc33 : ((c.toNat : Int) == 32) = false := beqN (fun e => h32 (UInt8.toNat_inj.1 (by have : (32 : UInt8).toNat = 32 := rfl; omega)))
    have HNY := hid (show foA [] false (l.take (i + 1)) = foA [] false (l.take i) ++ (if lst false (l.take i) && !(foA [] false (l.take i)).isEmpty then [32] else []) ++ [c] by rw [HNX.out, if_neg h32])
    clear h32
    have HEM : Hid ((foA [] false (l.take i)).isEmpty = decide (al = 0)) := hid (by
     rw [← HAL.out]
     cases foA [] false (l.take i) <;> simp)
    have HDC : Hid (i = 0 ∨ ∃ (k : Nat) (d : UInt8), i = k + 1 ∧ l[k]? = some d ∧ lst false (l.take i) = (d == 32)) := hid (by
     cases i with
     | zero => exact .inl rfl
     | succ k =>
      have hg : l[k]? = some (l[k]'(by have := HN.out; have := HLT.out; omega)) := List.getElem?_eq_getElem _
      exact .inr ⟨k, _, rfl, hg, lst_at l k _ hg⟩)
    cases hlb : lst false (l.take i) && !(foA [] false (l.take i)).isEmpty with
    | false =>
     have HE : Hid (foA [] false (l.take (i + 1)) = foA [] false (l.take i) ++ [c]) := hid (by rw [HNY.out, hlb]; simp)
     have hcase : i = 0 ∨ ∃ (k : Nat) (d : UInt8), i = k + 1 ∧ l[k]? = some d ∧ (d ≠ 32 ∨ d = 32 ∧ al = 0) := by
      rcases HDC.out with h | ⟨k, d, h1, h2, h3⟩
      ·exact .inl h
      ·refine .inr ⟨k, d, h1, h2, ?_⟩
       by_cases hd : d = 32
       ·right
        refine ⟨hd, ?_⟩
        rw [h3, hd, HEM.out] at hlb
        simpa using hlb
       ·exact .inl hd
     clear hlb
     have hfin : ∀ (a4 : Option Addr) (c4 : Nat) (w4 : World), OwR 5 1 w w4 (.slice a4 (al + 1) c4) (al + 1) (u8s (foA [] false (l.take i)) ++ [.int .u8 (c.toNat : Int)]) → OwR 5 1 w w4 (.slice a4 (al + 1) c4) (al + 1) (u8s (foA [] false (l.take (i + 1)))) ∧ (foA [] false (l.take (i + 1))).length = al + 1 := fun a4 c4 w4 h => by
      refine ⟨?_, by rw [HE.out, List.length_append, HAL.out]; rfl⟩
      rw [HE.out]
      rwa [show u8s (foA [] false (l.take i)) ++ [Value.int .u8 (c.toNat : Int)] = u8s (foA [] false (l.take i) ++ [c]) by simp [u8s]] at h
     have HFIN := hid hfin
     clear hfin
     rcases hcase with rfl | ⟨k, d, hik, hd, hd2⟩
     ·go_wp2_with (first
       | ((with_reducible refine K.atO (.index 9 _ _) ?_); refine wpL_valZ (by rfl) (.int .u8 (c.toNat : Int)) (exec_idxB _ _ rfl l HS.out 0 c HC.out _ rfl rfl rfl _) ?_)
       | ((with_reducible refine K.atO (.buildSlice 150 _ _) ?_); refine wpL_app1 rfl rfl _ _ _ 150 5 rfl rfl Tryz.underlying150 infoU rfl (by decide) (by decide) HO.out (.int .u8 (c.toNat : Int)) [.int .u8 (c.toNat : Int)] rfl rfl rfl (by simp [Value.oneCell']) (fun _ => rfl) (fun _ => rfl) (by omega) (by omega) ?_; intro q a4 c4 w4 HO4 HF4)
       | fail)
      obtain ⟨g1, g2⟩ := HFIN.out _ _ _ HO4.out
      exact ⟨⟨0 + 1, al + 1, by go_num, HLT.out, by rw [← g2]; exact HLN.out, hid g1, hid g2⟩, by have := HLT.out; simp [intOf]; omega⟩
     ·have hpos : (0 : Int) < i := by omega
      have HIK := hid hik
      clear hik
      rcases hd2 with hd2 | ⟨rfl, rfl⟩
      ·have hd33 : ((d.toNat : Int) == 32) = false := beqN (fun e => hd2 (UInt8.toNat_inj.1 (by have : (32 : UInt8).toNat = 32 := rfl; omega)))
       have HD := hid hd
       clear hd hd2
       go_wp2_with (first
       | ((with_reducible refine K.atO (.index 9 _ _) ?_); (fail_if_success (have := HA1)); refine wpL_valZ (by rfl) (.int .u8 (c.toNat : Int)) (exec_idxB _ _ rfl l HS.out i c HC.out _ rfl rfl rfl _) ?_; have HA1 := hid trivial)
       | ((with_reducible refine K.atO (.index 9 _ _) ?_); (fail_if_success (have := HA2)); refine wpL_valZ (by rfl) (.int .u8 (d.toNat : Int)) (exec_idxB _ _ rfl l HS.out k d HD.out _ (by have := HIK.out; omega) rfl rfl _) ?_; have HA2 := hid trivial)
       | ((with_reducible refine K.atO (.index 9 _ _) ?_); refine wpL_valZ (by rfl) (.int .u8 (c.toNat : Int)) (exec_idxB _ _ rfl l HS.out i c HC.out _ rfl rfl rfl _) ?_)
       | ((with_reducible refine K.atO (.buildSlice 150 _ _) ?_); refine wpL_app1 rfl rfl _ _ _ 150 5 rfl rfl Tryz.underlying150 infoU rfl (by decide) (by decide) HO.out (.int .u8 (c.toNat : Int)) [.int .u8 (c.toNat : Int)] rfl rfl rfl (by simp [Value.oneCell']) (fun _ => rfl) (fun _ => rfl) (by omega) (by omega) ?_; intro q a4 c4 w4 HO4 HF4)
       | fail)
       obtain ⟨g1, g2⟩ := HFIN.out _ _ _ HO4.out
       exact ⟨⟨i + 1, al + 1, by go_num, HLT.out, by rw [← g2]; exact HLN.out, hid g1, hid g2⟩, by have := HLT.out; simp [intOf]; omega⟩
      ·have HD := hid hd
       clear hd
       go_wp2_with (first
       | ((with_reducible refine K.atO (.index 9 _ _) ?_); (fail_if_success (have := HA1)); refine wpL_valZ (by rfl) (.int .u8 (c.toNat : Int)) (exec_idxB _ _ rfl l HS.out i c HC.out _ rfl rfl rfl _) ?_; have HA1 := hid trivial)
       | ((with_reducible refine K.atO (.index 9 _ _) ?_); (fail_if_success (have := HA2)); refine wpL_valZ (by rfl) (.int .u8 32) (exec_idxB _ _ rfl l HS.out k 32 HD.out _ (by have := HIK.out; omega) rfl rfl _) ?_; have HA2 := hid trivial)
       | ((with_reducible refine K.atO (.index 9 _ _) ?_); refine wpL_valZ (by rfl) (.int .u8 (c.toNat : Int)) (exec_idxB _ _ rfl l HS.out i c HC.out _ rfl rfl rfl _) ?_)
       | ((with_reducible refine K.atO (.buildSlice 150 _ _) ?_); refine wpL_app1 rfl rfl _ _ _ 150 5 rfl rfl Tryz.underlying150 infoU rfl (by decide) (by decide) HO.out (.int .u8 (c.toNat : Int)) [.int .u8 (c.toNat : Int)] rfl rfl rfl (by simp [Value.oneCell']) (fun _ => rfl) (fun _ => rfl) (by omega) (by omega) ?_; intro q a4 c4 w4 HO4 HF4)
       | fail)
       obtain ⟨g1, g2⟩ := HFIN.out _ _ _ HO4.out
       exact ⟨⟨i + 1, 0 + 1, by go_num, HLT.out, by rw [← g2]; exact HLN.out, hid g1, hid g2⟩, by have := HLT.out; simp [intOf]; omega⟩
    | true =>
     have HE : Hid (foA [] false (l.take (i + 1)) = foA [] false (l.take i) ++ [32] ++ [c]) := hid (by rw [HNY.out, hlb]; simp)
     obtain ⟨k, hik, hd, halp⟩ : ∃ k : Nat, i = k + 1 ∧ l[k]? = some 32 ∧ 0 < al := by
      rw [HEM.out] at hlb
      have h0 := (Bool.and_eq_true_iff.1 hlb)
      have ha : 0 < al := by have := h0.2; simp at this; omega
      rcases HDC.out with rfl | ⟨k, d, h1, h2, h3⟩
      ·have := h0.1
       simp [lst] at this
      ·refine ⟨k, h1, ?_, ha⟩
       have := h0.1
       rw [h3] at this
       rw [h2, eq_of_beq this]
     have hpos : (0 : Int) < i := by omega
     have halpi : (0 : Int) < al := by omega
     have HIK := hid hik; have HD := hid hd
     clear hlb hik hd halp
     go_wp2_with (first
      | ((with_reducible refine K.atO (.index 9 _ _) ?_); (fail_if_success (have := HA1)); refine wpL_valZ (by rfl) (.int .u8 (c.toNat : Int)) (exec_idxB _ _ rfl l HS.out i c HC.out _ rfl rfl rfl _) ?_; have HA1 := hid trivial)
      | ((with_reducible refine K.atO (.index 9 _ _) ?_); (fail_if_success (have := HA2)); refine wpL_valZ (by rfl) (.int .u8 32) (exec_idxB _ _ rfl l HS.out k 32 HD.out _ (by have := HIK.out; omega) rfl rfl _) ?_; have HA2 := hid trivial)
      | ((with_reducible refine K.atO (.index 9 _ _) ?_); refine wpL_valZ (by rfl) (.int .u8 (c.toNat : Int)) (exec_idxB _ _ rfl l HS.out i c HC.out _ rfl rfl rfl _) ?_)
      | ((with_reducible refine K.atO (.buildSlice 150 _ _) ?_); (fail_if_success (have := HO4)); refine wpL_app1 rfl rfl _ _ _ 150 5 rfl rfl Tryz.underlying150 infoU rfl (by decide) (by decide) HO.out (.int .u8 32) [.int .u8 32] rfl rfl rfl (by simp [Value.oneCell']) (fun _ => rfl) (fun _ => rfl) (by omega) (by omega) ?_; intro q a4 c4 w4 HO4 HF4)
      | ((with_reducible refine K.atO (.buildSlice 150 _ _) ?_); refine wpL_app1 rfl rfl _ _ _ 150 5 rfl rfl Tryz.underlying150 infoU rfl (by decide) (by decide) HO4.out (.int .u8 (c.toNat : Int)) [.int .u8 (c.toNat : Int)] rfl rfl rfl (by simp [Value.oneCell']) (fun _ => rfl) (fun _ => rfl) (by omega) (by omega) ?_; intro q5 a5 c5 w5 HO5 HF5)
      | fail)
     have HL5 : Hid ((foA [] false (l.take (i + 1))).length = al + 1 + 1) := hid (by rw [HE.out, List.length_append, List.length_append, HAL.out]; rfl)
     refine ⟨⟨i + 1, al + 1 + 1, by go_num, HLT.out, by rw [← HL5.out]; exact HLN.out, hid ?_, HL5⟩, by have := HLT.out; simp [intOf]; omega⟩
     have h := HO5.out
     rw [HE.out]
     have e : u8s (foA [] false (l.take i)) ++ [Value.int .u8 32] ++ [Value.int .u8 (c.toNat : Int)] = u8s (foA [] false (l.take i) ++ [32] ++ [c]) := by simp [u8s]
     rw [e] at h
     exact h
  ·obtain rfl : i = n := by omega
   have hall : l.take i = l := List.take_of_length_le (by rw [HN.out]; exact Nat.le_refl _)
   have HO2 : Hid (OwR 5 1 w wr (.slice va al vc) (foA [] false l).length (u8s (foA [] false l))) := hid (by have h := HO.out; have h2 := HAL.out; rw [hall] at h h2; rw [h2]; exact h)
   have HDEN := hid (owR_bytes HO2.out)
   clear hall hlt
   go_wp2_with (first
    | ((with_reducible refine K.atO (.convert _ 9 _) ?_); refine wpL_stringOf rfl _ _ _ _ rfl _ _ (foA [] false l) rfl HDEN.out Tryz.underlying150 Tryz.underlying5 Tryz.underlying9 ?_)
    | fail)
   go_ret
   exact ⟨rfl, HO.out.fr⟩
theorem exec_quo16 {op : Oper} {a : Act} (c : UInt8) (x y : Operand) {u : TypeId} (ho : op.op = .binOp .quo 5 x y u) (hx : a.eval x = .int .u8 (c.toNat : Int)) (hy : a.eval y = .int .u8 16) (w : World) :
  (execOp a.eval op).run Tryz.prog w = .ok (.value (.int .u8 ((c / 16).toNat : Int))) w := by
 have h1 := UInt8.toNat_lt c
 unfold execOp
 simp only [ho, hx, hy]
 simp [go_sem, eqGuard, Result.andThen]
 unfold IntKind.wrap
 simp [IntKind.signed, IntKind.bits]
 omega
theorem exec_rem16 {op : Oper} {a : Act} (c : UInt8) (x y : Operand) {u : TypeId} (ho : op.op = .binOp .rem 5 x y u) (hx : a.eval x = .int .u8 (c.toNat : Int)) (hy : a.eval y = .int .u8 16) (w : World) :
  (execOp a.eval op).run Tryz.prog w = .ok (.value (.int .u8 ((c % 16).toNat : Int))) w := by
 unfold execOp
 simp only [ho, hx, hy]
 simp [go_sem, eqGuard, Result.andThen]
 exact Int.tmod_eq_emod_of_nonneg (by omega)
theorem dgt_n (n : UInt8) (h : n.toNat < 16) : ((dgt n).toNat : Int) = if n.toNat < 10 then 48 + (n.toNat : Int) else 87 + (n.toNat : Int) := by
 have := u8_all (fun c => decide (16 ≤ c.toNat) || decide (((dgt c).toNat : Int) = if c.toNat < 10 then 48 + (c.toNat : Int) else 87 + (c.toNat : Int))) (by decide +kernel) n
 simp only [Bool.or_eq_true, decide_eq_true_eq] at this
 exact this.resolve_left (by omega)
set_option maxHeartbeats 4000000 in
theorem rdigit_any (n : UInt8) (h : n.toNat < 16) (w : World) : Calls Tryz.prog 213 #[.int .u8 (n.toNat : Int)] w fun e w' => e = .returned (.int .u8 ((dgt n).toNat : Int)) ∧ w' = w := by
 rw [dgt_n n h]
 obtain ⟨x, hx⟩ : ∃ x : Int, (n.toNat : Int) = x := ⟨_, rfl⟩
 have h0 : 0 ≤ x := by omega
 have h1 : x < 16 := by omega
 by_cases h10 : n.toNat < 10
 ·rw [if_pos h10, hx]
  have g : x < 10 := by omega
  clear hx h h10
  go_enter Tryz.func213, Tryz.ntmps213
  go_wp2_with fail
  go_ret
  exact ⟨rfl, rfl⟩
 ·rw [if_neg h10, hx]
  have g : ¬ x < 10 := by omega
  have HE : Hid (97 + x - 10 = 87 + x) := hid (by omega)
  clear hx h h10
  go_enter Tryz.func213, Tryz.ntmps213
  go_wp2_with fail
  go_ret
  exact ⟨by rw [← HE.out]; rfl, rfl⟩
def valI (n : Nat) : Nat → B → B
 | _, [] => []
 | k, c :: r => byT (k == 0) (k + 1 == n) c ++ valI n (k + 1) r
theorem valI_from : ∀ (r : B) (k : Nat), valFrom (k == 0) r = valI (k + r.length) k r
 | [], _ => rfl
 | c :: t, k => by
  unfold valFrom valI
  have h1 : t.isEmpty = (k + 1 == k + (c :: t).length) := by
   cases t with
   | nil => simp
   | cons d u => simp
  have h2 := valI_from t (k + 1)
  rw [show (k + 1 == 0) = false by simp] at h2
  rw [h1, h2, show k + 1 + t.length = k + (c :: t).length by rw [List.length_cons]; omega]
theorem valT_I (v : B) : valT v = valI v.length 0 v := by
 have := valI_from v 0
 rw [Nat.zero_add] at this
 exact this
theorem valI_snoc (n : Nat) (c : UInt8) : ∀ (l : B) (k : Nat), valI n k (l ++ [c]) = valI n k l ++ byT (k + l.length == 0) (k + l.length + 1 == n) c
 | [], k => by simp [valI]
 | d :: r, k => by
  have h := valI_snoc n c r (k + 1)
  show byT _ _ d ++ valI n (k + 1) (r ++ [c]) = _
  rw [h, show k + 1 + r.length = k + (d :: r).length by rw [List.length_cons]; omega]
  show _ = byT _ _ d ++ valI n (k + 1) r ++ _
  rw [List.append_assoc]
theorem byT_n (f l : Bool) (c : UInt8) : byT f l c = if c.toNat < 32 ∨ c.toNat = 127 then [92, dgt (c / 16), dgt (c % 16)] else if sign c || (decide (c.toNat = 35) && f) || (decide (c.toNat = 32) && (f || l)) then [92, c] else [c] := by
 unfold byT
 have e1 : (c < 32 ∨ c = 127) ↔ (c.toNat < 32 ∨ c.toNat = 127) := by
  have := u8_all (fun c => decide (c < 32 ∨ c = 127) == decide (c.toNat < 32 ∨ c.toNat = 127)) (by decide +kernel) c
  simp only [beq_iff_eq, decide_eq_decide] at this
  exact this
 have e2 : (c == 35) = decide (c.toNat = 35) := by
  have := u8_all (fun c => (c == 35) == decide (c.toNat = 35)) (by decide +kernel) c
  simpa using this
 have e3 : (c == 32) = decide (c.toNat = 32) := by
  have := u8_all (fun c => (c == 32) == decide (c.toNat = 32)) (by decide +kernel) c
  simpa using this
 rw [e2, e3]
 by_cases h : c.toNat < 32 ∨ c.toNat = 127
 ·rw [if_pos h, if_pos (e1.2 h)]
 ·rw [if_neg h, if_neg (fun x => h (e1.1 x))]
theorem byT_len (f l : Bool) (c : UInt8) : (byT f l c).length ≤ 3 := by
 rw [byT_n]; split
 ·simp
 ·split <;> simp
theorem valI_len (n : Nat) : ∀ (l : B) (k : Nat), (valI n k l).length ≤ 3 * l.length
 | [], _ => by simp [valI]
 | c :: r, k => by
  have h := valI_len n r (k + 1)
  have := byT_len (k == 0) (k + 1 == n) c
  unfold valI
  rw [List.length_append, List.length_cons]
  omega
set_option maxHeartbeats 64000000 in
theorem rvalue_any (v : B) (hv : v.length ≤ 4294967000) (w : World) : Calls Tryz.prog 176 #[.string (sb v)] w fun e w' => e = .returned (.string (sb (valT v))) ∧ Fr No w w' := by
 obtain ⟨S, hS⟩ : ∃ S, sb v = S := ⟨_, rfl⟩
 obtain ⟨n, hn⟩ : ∃ n, v.length = n := ⟨_, rfl⟩
 have hsz : (S.size : Int) = n := by rw [← hS, sb_size, hn]
 have hni : (n : Int) ≤ 4294967000 := by omega
 have HS := hid hS; have HN := hid hn
 rw [valT_I, hS, hn]
 clear hS hn hv
 go_enter Tryz.func176, Tryz.ntmps176
 go_wp2_with fail
 go_loopw [3, 4] (fun dv iv wr => ∃ (i al : Nat), iv = .int .i64 i ∧ i ≤ n ∧ al ≤ 3 * n ∧ Hid (OwR 5 1 w wr dv al (u8s (valI n 0 (v.take i)))) ∧ Hid ((valI n 0 (v.take i)).length = al)) (fun _ iv _ => n - (intOf iv).toNat)
 case atStart => exact ⟨0, 0, rfl, Nat.zero_le _, Nat.zero_le _, hid (owR_nil (Fr.refl _ _)), hid rfl⟩
 case round =>
  obtain ⟨i, al, rfl, hi, hal, HO, HAL⟩ := hrel
  obtain ⟨va, vc, rfl⟩ := HO.out.1
  have hali : (al : Int) ≤ 12884901000 := by omega
  have hal0 : (0 : Int) ≤ al := by omega
  by_cases hlt : i < n
  ·obtain ⟨c, hc⟩ : ∃ c, v[i]? = some c := ⟨_, List.getElem?_eq_getElem (by rw [HN.out]; exact hlt)⟩
   have hlti : (i : Int) < n := by omega
   have hi0 : (0 : Int) ≤ i := by omega
   have hn1 : (1 : Int) ≤ n := by omega
   have HLT := hid hlt
   have HNX : Hid (valI n 0 (v.take (i + 1)) = valI n 0 (v.take i) ++ byT (i == 0) (i + 1 == n) c) := hid (by
    rw [List.take_add_one, hc, Option.toList_some, valI_snoc, List.length_take, HN.out, Nat.min_eq_left (Nat.le_of_lt hlt), Nat.zero_add])
   have HLN : Hid ((valI n 0 (v.take (i + 1))).length ≤ 3 * n) := hid (by have := valI_len n (v.take (i + 1)) 0; rw [List.length_take] at this; have := HN.out; omega)
   have HC := hid hc
   have HF : Hid (((i : Int) == 0) = (i == 0)) := hid (by cases i with | zero => rfl | succ k => rw [beqN (by omega)]; rfl)
   have HLb : Hid (((i : Int) == (n : Int) - 1) = (i + 1 == n)) := hid (by
    by_cases h : i + 1 = n
    ·rw [beqI (by omega), h]; simp
    ·rw [beqN (by omega)]; simp [h])
   clear hlt hal hc
   go_wp2_with (first
    | ((with_reducible refine K.atO (.index 9 _ _) ?_); refine wpL_valZ (by rfl) (.int .u8 (c.toNat : Int)) (exec_idxB _ _ rfl v HS.out i c HC.out _ rfl rfl rfl _) ?_)
    | fail)
   refine (signs_any c wr).mono ?_
   rintro e w1 ⟨rfl, rfl⟩
   have hcase : (c.toNat < 32 ∨ c = 127) ∨ (¬ (c.toNat < 32 ∨ c.toNat = 127) ∧ sign c = true) ∨ (¬ (c.toNat < 32 ∨ c.toNat = 127) ∧ sign c = false) := by
    by_cases h : c.toNat < 32 ∨ c.toNat = 127
    ·refine .inl (h.imp id fun e => UInt8.toNat_inj.1 (by rw [e]; rfl))
    ·cases sign c
     ·exact .inr (.inr ⟨h, rfl⟩)
     ·exact .inr (.inl ⟨h, rfl⟩)
   rcases hcase with hct | ⟨hnc, hsg⟩ | ⟨hnc, hsg⟩
   ·have HE : Hid (byT (i == 0) (i + 1 == n) c = [92, dgt (c / 16), dgt (c % 16)]) := hid (by rw [byT_n, if_pos (hct.imp id fun e => by rw [e]; rfl)])
    have HD1 := hid (rdigit_any (c / 16) (by rw [UInt8.toNat_div]; have := UInt8.toNat_lt c; show c.toNat / 16 < 16; omega))
    have HD2 := hid (rdigit_any (c % 16) (by rw [UInt8.toNat_mod]; show c.toNat % 16 < 16; omega))
    rcases hct with hct | rfl
    ·have g1 : (c.toNat : Int) < 32 := by omega
     clear hct
     generalize sign c = sg
     go_wp2_with (first
      | ((with_reducible refine K.atO (.buildSlice 150 _ _) ?_); (fail_if_success (have := HO4)); refine wpL_app1 rfl rfl _ _ _ 150 5 rfl rfl Tryz.underlying150 infoU rfl (by decide) (by decide) HO.out (.int .u8 92) [.int .u8 92] rfl rfl rfl (by simp [Value.oneCell']) (fun _ => rfl) (fun _ => rfl) (by omega) (by omega) ?_; intro q4 a4 c4 w4 HO4 HF4)
      | ((with_reducible refine K.atO (.binOp .quo 5 _ _ _) ?_); refine wpL_valZ rfl (.int .u8 ((c / 16 : UInt8).toNat : Int)) (exec_quo16 c _ _ rfl rfl rfl _) ?_)
      | fail)
     refine (HD1.out _).mono ?_
     rintro e w5 ⟨rfl, rfl⟩
     go_wp2_with (first
      | ((with_reducible refine K.atO (.buildSlice 150 _ _) ?_); (fail_if_success (have := HO5)); refine wpL_app1 rfl rfl _ _ _ 150 5 rfl rfl Tryz.underlying150 infoU rfl (by decide) (by decide) HO4.out (.int .u8 ((dgt (c / 16)).toNat : Int)) [.int .u8 ((dgt (c / 16)).toNat : Int)] rfl rfl rfl (by simp [Value.oneCell']) (fun _ => rfl) (fun _ => rfl) (by omega) (by omega) ?_; intro q5 a5 c5 w5 HO5 HF5)
      | ((with_reducible refine K.atO (.binOp .rem 5 _ _ _) ?_); refine wpL_valZ rfl (.int .u8 ((c % 16 : UInt8).toNat : Int)) (exec_rem16 c _ _ rfl rfl rfl _) ?_)
      | fail)
     refine (HD2.out _).mono ?_
     rintro e w6 ⟨rfl, rfl⟩
     go_wp2_with (first
      | ((with_reducible refine K.atO (.buildSlice 150 _ _) ?_); refine wpL_app1 rfl rfl _ _ _ 150 5 rfl rfl Tryz.underlying150 infoU rfl (by decide) (by decide) HO5.out (.int .u8 ((dgt (c % 16)).toNat : Int)) [.int .u8 ((dgt (c % 16)).toNat : Int)] rfl rfl rfl (by simp [Value.oneCell']) (fun _ => rfl) (fun _ => rfl) (by omega) (by omega) ?_; intro q6 a6 c6 w6 HO6 HF6)
      | fail)
     have HL6 : Hid ((valI n 0 (v.take (i + 1))).length = al + 1 + 1 + 1) := hid (by rw [HNX.out, HE.out, List.length_append, HAL.out]; rfl)
     refine ⟨⟨i + 1, al + 1 + 1 + 1, by go_num, HLT.out, by rw [← HL6.out]; exact HLN.out, hid ?_, HL6⟩, by have := HLT.out; simp [intOf]; omega⟩
     have h := HO6.out
     rw [HNX.out, HE.out]
     have e : u8s (valI n 0 (v.take i)) ++ [Value.int .u8 92] ++ [Value.int .u8 ((dgt (c / 16)).toNat : Int)] ++ [Value.int .u8 ((dgt (c % 16)).toNat : Int)] = u8s (valI n 0 (v.take i) ++ [92, dgt (c / 16), dgt (c % 16)]) := by simp [u8s]
     rw [e] at h
     exact h
    ·generalize sign 127 = sg
     go_wp2_with (first
      | ((with_reducible refine K.atO (.buildSlice 150 _ _) ?_); (fail_if_success (have := HO4)); refine wpL_app1 rfl rfl _ _ _ 150 5 rfl rfl Tryz.underlying150 infoU rfl (by decide) (by decide) HO.out (.int .u8 92) [.int .u8 92] rfl rfl rfl (by simp [Value.oneCell']) (fun _ => rfl) (fun _ => rfl) (by omega) (by omega) ?_; intro q4 a4 c4 w4 HO4 HF4)
      | ((with_reducible refine K.atO (.binOp .quo 5 _ _ _) ?_); refine wpL_valZ rfl (.int .u8 ((127 / 16 : UInt8).toNat : Int)) (exec_quo16 127 _ _ rfl rfl rfl _) ?_)
      | fail)
     refine (HD1.out _).mono ?_
     rintro e w5 ⟨rfl, rfl⟩
     go_wp2_with (first
      | ((with_reducible refine K.atO (.buildSlice 150 _ _) ?_); (fail_if_success (have := HO5)); refine wpL_app1 rfl rfl _ _ _ 150 5 rfl rfl Tryz.underlying150 infoU rfl (by decide) (by decide) HO4.out (.int .u8 ((dgt (127 / 16)).toNat : Int)) [.int .u8 ((dgt (127 / 16)).toNat : Int)] rfl rfl rfl (by simp [Value.oneCell']) (fun _ => rfl) (fun _ => rfl) (by omega) (by omega) ?_; intro q5 a5 c5 w5 HO5 HF5)
      | ((with_reducible refine K.atO (.binOp .rem 5 _ _ _) ?_); refine wpL_valZ rfl (.int .u8 ((127 % 16 : UInt8).toNat : Int)) (exec_rem16 127 _ _ rfl rfl rfl _) ?_)
      | fail)
     refine (HD2.out _).mono ?_
     rintro e w6 ⟨rfl, rfl⟩
     go_wp2_with (first
      | ((with_reducible refine K.atO (.buildSlice 150 _ _) ?_); refine wpL_app1 rfl rfl _ _ _ 150 5 rfl rfl Tryz.underlying150 infoU rfl (by decide) (by decide) HO5.out (.int .u8 ((dgt (127 % 16)).toNat : Int)) [.int .u8 ((dgt (127 % 16)).toNat : Int)] rfl rfl rfl (by simp [Value.oneCell']) (fun _ => rfl) (fun _ => rfl) (by omega) (by omega) ?_; intro q6 a6 c6 w6 HO6 HF6)
      | fail)
     have HL6 : Hid ((valI n 0 (v.take (i + 1))).length = al + 1 + 1 + 1) := hid (by rw [HNX.out, HE.out, List.length_append, HAL.out]; rfl)
     refine ⟨⟨i + 1, al + 1 + 1 + 1, by go_num, HLT.out, by rw [← HL6.out]; exact HLN.out, hid ?_, HL6⟩, by have := HLT.out; simp [intOf]; omega⟩
     have h := HO6.out
     rw [HNX.out, HE.out]
     have e : u8s (valI n 0 (v.take i)) ++ [Value.int .u8 92] ++ [Value.int .u8 ((dgt (127 / 16)).toNat : Int)] ++ [Value.int .u8 ((dgt (127 % 16)).toNat : Int)] = u8s (valI n 0 (v.take i) ++ [92, dgt (127 / 16), dgt (127 % 16)]) := by simp [u8s]
     rw [e] at h
     exact h
   ·have g1 : ¬ (c.toNat : Int) < 32 := by omega
    have g2 : ((c.toNat : Int) == 127) = false := beqN (by omega)
    have HE : Hid (byT (i == 0) (i + 1 == n) c = [92, c]) := hid (by rw [byT_n, if_neg hnc, hsg]; simp)
    rw [hsg]
    clear hnc hsg
    go_wp2_with (first
     | ((with_reducible refine K.atO (.buildSlice 150 _ _) ?_); (fail_if_success (have := HO4)); refine wpL_app1 rfl rfl _ _ _ 150 5 rfl rfl Tryz.underlying150 infoU rfl (by decide) (by decide) HO.out (.int .u8 92) [.int .u8 92] rfl rfl rfl (by simp [Value.oneCell']) (fun _ => rfl) (fun _ => rfl) (by omega) (by omega) ?_; intro q4 a4 c4 w4 HO4 HF4)
     | ((with_reducible refine K.atO (.buildSlice 150 _ _) ?_); refine wpL_app1 rfl rfl _ _ _ 150 5 rfl rfl Tryz.underlying150 infoU rfl (by decide) (by decide) HO4.out (.int .u8 (c.toNat : Int)) [.int .u8 (c.toNat : Int)] rfl rfl rfl (by simp [Value.oneCell']) (fun _ => rfl) (fun _ => rfl) (by omega) (by omega) ?_; intro q5 a5 c5 w5 HO5 HF5)
     | fail)
    have HL5 : Hid ((valI n 0 (v.take (i + 1))).length = al + 1 + 1) := hid (by rw [HNX.out, HE.out, List.length_append, HAL.out]; rfl)
    refine ⟨⟨i + 1, al + 1 + 1, by go_num, HLT.out, by rw [← HL5.out]; exact HLN.out, hid ?_, HL5⟩, by have := HLT.out; simp [intOf]; omega⟩
    have h := HO5.out
    rw [HNX.out, HE.out]
    have e : u8s (valI n 0 (v.take i)) ++ [Value.int .u8 92] ++ [Value.int .u8 (c.toNat : Int)] = u8s (valI n 0 (v.take i) ++ [92, c]) := by simp [u8s]
    rw [e] at h
    exact h
   ·have g1 : ¬ (c.toNat : Int) < 32 := by omega
    have g2 : ((c.toNat : Int) == 127) = false := beqN (by omega)
    have HB := hid (show byT (i == 0) (i + 1 == n) c = if (decide (c.toNat = 35) && (i == 0)) || (decide (c.toNat = 32) && ((i == 0) || (i + 1 == n))) then [92, c] else [c] by rw [byT_n, if_neg hnc, hsg]; simp)
    rw [hsg]
    clear hnc hsg
    have hf := HF.out; have hl := HLb.out
    have hk : (c.toNat = 35 ∧ c.toNat ≠ 32) ∨ (c.toNat = 32 ∧ c.toNat ≠ 35) ∨ (c.toNat ≠ 35 ∧ c.toNat ≠ 32) := by omega
    cases hbf : (i == 0) <;> cases hbl : (i + 1 == n) <;> rw [hbf] at hf HB <;> rw [hbl] at hl HB <;> rcases hk with ⟨k1, k2⟩ | ⟨k1, k2⟩ | ⟨k1, k2⟩
    ·have e35 : ((c.toNat : Int) == 35) = true := beqI (by omega)
     have e32 : ((c.toNat : Int) == 32) = false := beqN (by omega)
     have HE : Hid (byT (i == 0) (i + 1 == n) c = [c]) := hid (by rw [hbf, hbl, HB.out]; simp [k1, k2])
     clear k1 k2 hbf hbl HB
     go_wp2_with (first
      | ((with_reducible refine K.atO (.buildSlice 150 _ _) ?_); refine wpL_app1 rfl rfl _ _ _ 150 5 rfl rfl Tryz.underlying150 infoU rfl (by decide) (by decide) HO.out (.int .u8 (c.toNat : Int)) [.int .u8 (c.toNat : Int)] rfl rfl rfl (by simp [Value.oneCell']) (fun _ => rfl) (fun _ => rfl) (by omega) (by omega) ?_; intro q4 a4 c4 w4 HO4 HF4)
      | fail)
     have HL4 : Hid ((valI n 0 (v.take (i + 1))).length = al + 1) := hid (by rw [HNX.out, HE.out, List.length_append, HAL.out]; rfl)
     refine ⟨⟨i + 1, al + 1, by go_num, HLT.out, by rw [← HL4.out]; exact HLN.out, hid ?_, HL4⟩, by have := HLT.out; simp [intOf]; omega⟩
     have h := HO4.out
     rw [HNX.out, HE.out]
     have e : u8s (valI n 0 (v.take i)) ++ [Value.int .u8 (c.toNat : Int)] = u8s (valI n 0 (v.take i) ++ [c]) := by simp [u8s]
     rw [e] at h
     exact h
    ·have e35 : ((c.toNat : Int) == 35) = false := beqN (by omega)
     have e32 : ((c.toNat : Int) == 32) = true := beqI (by omega)
     have HE : Hid (byT (i == 0) (i + 1 == n) c = [c]) := hid (by rw [hbf, hbl, HB.out]; simp [k1, k2])
     clear k1 k2 hbf hbl HB
     go_wp2_with (first
      | ((with_reducible refine K.atO (.buildSlice 150 _ _) ?_); refine wpL_app1 rfl rfl _ _ _ 150 5 rfl rfl Tryz.underlying150 infoU rfl (by decide) (by decide) HO.out (.int .u8 (c.toNat : Int)) [.int .u8 (c.toNat : Int)] rfl rfl rfl (by simp [Value.oneCell']) (fun _ => rfl) (fun _ => rfl) (by omega) (by omega) ?_; intro q4 a4 c4 w4 HO4 HF4)
      | fail)
     have HL4 : Hid ((valI n 0 (v.take (i + 1))).length = al + 1) := hid (by rw [HNX.out, HE.out, List.length_append, HAL.out]; rfl)
     refine ⟨⟨i + 1, al + 1, by go_num, HLT.out, by rw [← HL4.out]; exact HLN.out, hid ?_, HL4⟩, by have := HLT.out; simp [intOf]; omega⟩
     have h := HO4.out
     rw [HNX.out, HE.out]
     have e : u8s (valI n 0 (v.take i)) ++ [Value.int .u8 (c.toNat : Int)] = u8s (valI n 0 (v.take i) ++ [c]) := by simp [u8s]
     rw [e] at h
     exact h
    ·have e35 : ((c.toNat : Int) == 35) = false := beqN (by omega)
     have e32 : ((c.toNat : Int) == 32) = false := beqN (by omega)
     have HE : Hid (byT (i == 0) (i + 1 == n) c = [c]) := hid (by rw [hbf, hbl, HB.out]; simp [k1, k2])
     clear k1 k2 hbf hbl HB
     go_wp2_with (first
      | ((with_reducible refine K.atO (.buildSlice 150 _ _) ?_); refine wpL_app1 rfl rfl _ _ _ 150 5 rfl rfl Tryz.underlying150 infoU rfl (by decide) (by decide) HO.out (.int .u8 (c.toNat : Int)) [.int .u8 (c.toNat : Int)] rfl rfl rfl (by simp [Value.oneCell']) (fun _ => rfl) (fun _ => rfl) (by omega) (by omega) ?_; intro q4 a4 c4 w4 HO4 HF4)
      | fail)
     have HL4 : Hid ((valI n 0 (v.take (i + 1))).length = al + 1) := hid (by rw [HNX.out, HE.out, List.length_append, HAL.out]; rfl)
     refine ⟨⟨i + 1, al + 1, by go_num, HLT.out, by rw [← HL4.out]; exact HLN.out, hid ?_, HL4⟩, by have := HLT.out; simp [intOf]; omega⟩
     have h := HO4.out
     rw [HNX.out, HE.out]
     have e : u8s (valI n 0 (v.take i)) ++ [Value.int .u8 (c.toNat : Int)] = u8s (valI n 0 (v.take i) ++ [c]) := by simp [u8s]
     rw [e] at h
     exact h
    ·have e35 : ((c.toNat : Int) == 35) = true := beqI (by omega)
     have e32 : ((c.toNat : Int) == 32) = false := beqN (by omega)
     have HE : Hid (byT (i == 0) (i + 1 == n) c = [c]) := hid (by rw [hbf, hbl, HB.out]; simp [k1, k2])
     clear k1 k2 hbf hbl HB
     go_wp2_with (first
      | ((with_reducible refine K.atO (.buildSlice 150 _ _) ?_); refine wpL_app1 rfl rfl _ _ _ 150 5 rfl rfl Tryz.underlying150 infoU rfl (by decide) (by decide) HO.out (.int .u8 (c.toNat : Int)) [.int .u8 (c.toNat : Int)] rfl rfl rfl (by simp [Value.oneCell']) (fun _ => rfl) (fun _ => rfl) (by omega) (by omega) ?_; intro q4 a4 c4 w4 HO4 HF4)
      | fail)
     have HL4 : Hid ((valI n 0 (v.take (i + 1))).length = al + 1) := hid (by rw [HNX.out, HE.out, List.length_append, HAL.out]; rfl)
     refine ⟨⟨i + 1, al + 1, by go_num, HLT.out, by rw [← HL4.out]; exact HLN.out, hid ?_, HL4⟩, by have := HLT.out; simp [intOf]; omega⟩
     have h := HO4.out
     rw [HNX.out, HE.out]
     have e : u8s (valI n 0 (v.take i)) ++ [Value.int .u8 (c.toNat : Int)] = u8s (valI n 0 (v.take i) ++ [c]) := by simp [u8s]
     rw [e] at h
     exact h
    ·have e35 : ((c.toNat : Int) == 35) = false := beqN (by omega)
     have e32 : ((c.toNat : Int) == 32) = true := beqI (by omega)
     have HE : Hid (byT (i == 0) (i + 1 == n) c = [92, c]) := hid (by rw [hbf, hbl, HB.out]; simp [k1, k2])
     clear k1 k2 hbf hbl HB
     go_wp2_with (first
      | ((with_reducible refine K.atO (.buildSlice 150 _ _) ?_); (fail_if_success (have := HO4)); refine wpL_app1 rfl rfl _ _ _ 150 5 rfl rfl Tryz.underlying150 infoU rfl (by decide) (by decide) HO.out (.int .u8 92) [.int .u8 92] rfl rfl rfl (by simp [Value.oneCell']) (fun _ => rfl) (fun _ => rfl) (by omega) (by omega) ?_; intro q4 a4 c4 w4 HO4 HF4)
      | ((with_reducible refine K.atO (.buildSlice 150 _ _) ?_); refine wpL_app1 rfl rfl _ _ _ 150 5 rfl rfl Tryz.underlying150 infoU rfl (by decide) (by decide) HO4.out (.int .u8 (c.toNat : Int)) [.int .u8 (c.toNat : Int)] rfl rfl rfl (by simp [Value.oneCell']) (fun _ => rfl) (fun _ => rfl) (by omega) (by omega) ?_; intro q5 a5 c5 w5 HO5 HF5)
      | fail)
     have HL5 : Hid ((valI n 0 (v.take (i + 1))).length = al + 1 + 1) := hid (by rw [HNX.out, HE.out, List.length_append, HAL.out]; rfl)
     refine ⟨⟨i + 1, al + 1 + 1, by go_num, HLT.out, by rw [← HL5.out]; exact HLN.out, hid ?_, HL5⟩, by have := HLT.out; simp [intOf]; omega⟩
     have h := HO5.out
     rw [HNX.out, HE.out]
     have e : u8s (valI n 0 (v.take i)) ++ [Value.int .u8 92] ++ [Value.int .u8 (c.toNat : Int)] = u8s (valI n 0 (v.take i) ++ [92, c]) := by simp [u8s]
     rw [e] at h
     exact h
    ·have e35 : ((c.toNat : Int) == 35) = false := beqN (by omega)
     have e32 : ((c.toNat : Int) == 32) = false := beqN (by omega)
     have HE : Hid (byT (i == 0) (i + 1 == n) c = [c]) := hid (by rw [hbf, hbl, HB.out]; simp [k1, k2])
     clear k1 k2 hbf hbl HB
     go_wp2_with (first
      | ((with_reducible refine K.atO (.buildSlice 150 _ _) ?_); refine wpL_app1 rfl rfl _ _ _ 150 5 rfl rfl Tryz.underlying150 infoU rfl (by decide) (by decide) HO.out (.int .u8 (c.toNat : Int)) [.int .u8 (c.toNat : Int)] rfl rfl rfl (by simp [Value.oneCell']) (fun _ => rfl) (fun _ => rfl) (by omega) (by omega) ?_; intro q4 a4 c4 w4 HO4 HF4)
      | fail)
     have HL4 : Hid ((valI n 0 (v.take (i + 1))).length = al + 1) := hid (by rw [HNX.out, HE.out, List.length_append, HAL.out]; rfl)
     refine ⟨⟨i + 1, al + 1, by go_num, HLT.out, by rw [← HL4.out]; exact HLN.out, hid ?_, HL4⟩, by have := HLT.out; simp [intOf]; omega⟩
     have h := HO4.out
     rw [HNX.out, HE.out]
     have e : u8s (valI n 0 (v.take i)) ++ [Value.int .u8 (c.toNat : Int)] = u8s (valI n 0 (v.take i) ++ [c]) := by simp [u8s]
     rw [e] at h
     exact h
    ·have e35 : ((c.toNat : Int) == 35) = true := beqI (by omega)
     have e32 : ((c.toNat : Int) == 32) = false := beqN (by omega)
     have HE : Hid (byT (i == 0) (i + 1 == n) c = [92, c]) := hid (by rw [hbf, hbl, HB.out]; simp [k1, k2])
     clear k1 k2 hbf hbl HB
     go_wp2_with (first
      | ((with_reducible refine K.atO (.buildSlice 150 _ _) ?_); (fail_if_success (have := HO4)); refine wpL_app1 rfl rfl _ _ _ 150 5 rfl rfl Tryz.underlying150 infoU rfl (by decide) (by decide) HO.out (.int .u8 92) [.int .u8 92] rfl rfl rfl (by simp [Value.oneCell']) (fun _ => rfl) (fun _ => rfl) (by omega) (by omega) ?_; intro q4 a4 c4 w4 HO4 HF4)
      | ((with_reducible refine K.atO (.buildSlice 150 _ _) ?_); refine wpL_app1 rfl rfl _ _ _ 150 5 rfl rfl Tryz.underlying150 infoU rfl (by decide) (by decide) HO4.out (.int .u8 (c.toNat : Int)) [.int .u8 (c.toNat : Int)] rfl rfl rfl (by simp [Value.oneCell']) (fun _ => rfl) (fun _ => rfl) (by omega) (by omega) ?_; intro q5 a5 c5 w5 HO5 HF5)
      | fail)
     have HL5 : Hid ((valI n 0 (v.take (i + 1))).length = al + 1 + 1) := hid (by rw [HNX.out, HE.out, List.length_append, HAL.out]; rfl)
     refine ⟨⟨i + 1, al + 1 + 1, by go_num, HLT.out, by rw [← HL5.out]; exact HLN.out, hid ?_, HL5⟩, by have := HLT.out; simp [intOf]; omega⟩
     have h := HO5.out
     rw [HNX.out, HE.out]
     have e : u8s (valI n 0 (v.take i)) ++ [Value.int .u8 92] ++ [Value.int .u8 (c.toNat : Int)] = u8s (valI n 0 (v.take i) ++ [92, c]) := by simp [u8s]
     rw [e] at h
     exact h
    ·have e35 : ((c.toNat : Int) == 35) = false := beqN (by omega)
     have e32 : ((c.toNat : Int) == 32) = true := beqI (by omega)
     have HE : Hid (byT (i == 0) (i + 1 == n) c = [92, c]) := hid (by rw [hbf, hbl, HB.out]; simp [k1, k2])
     clear k1 k2 hbf hbl HB
     go_wp2_with (first
      | ((with_reducible refine K.atO (.buildSlice 150 _ _) ?_); (fail_if_success (have := HO4)); refine wpL_app1 rfl rfl _ _ _ 150 5 rfl rfl Tryz.underlying150 infoU rfl (by decide) (by decide) HO.out (.int .u8 92) [.int .u8 92] rfl rfl rfl (by simp [Value.oneCell']) (fun _ => rfl) (fun _ => rfl) (by omega) (by omega) ?_; intro q4 a4 c4 w4 HO4 HF4)
      | ((with_reducible refine K.atO (.buildSlice 150 _ _) ?_); refine wpL_app1 rfl rfl _ _ _ 150 5 rfl rfl Tryz.underlying150 infoU rfl (by decide) (by decide) HO4.out (.int .u8 (c.toNat : Int)) [.int .u8 (c.toNat : Int)] rfl rfl rfl (by simp [Value.oneCell']) (fun _ => rfl) (fun _ => rfl) (by omega) (by omega) ?_; intro q5 a5 c5 w5 HO5 HF5)
      | fail)
     have HL5 : Hid ((valI n 0 (v.take (i + 1))).length = al + 1 + 1) := hid (by rw [HNX.out, HE.out, List.length_append, HAL.out]; rfl)
     refine ⟨⟨i + 1, al + 1 + 1, by go_num, HLT.out, by rw [← HL5.out]; exact HLN.out, hid ?_, HL5⟩, by have := HLT.out; simp [intOf]; omega⟩
     have h := HO5.out
     rw [HNX.out, HE.out]
     have e : u8s (valI n 0 (v.take i)) ++ [Value.int .u8 92] ++ [Value.int .u8 (c.toNat : Int)] = u8s (valI n 0 (v.take i) ++ [92, c]) := by simp [u8s]
     rw [e] at h
     exact h
    ·have e35 : ((c.toNat : Int) == 35) = false := beqN (by omega)
     have e32 : ((c.toNat : Int) == 32) = false := beqN (by omega)
     have HE : Hid (byT (i == 0) (i + 1 == n) c = [c]) := hid (by rw [hbf, hbl, HB.out]; simp [k1, k2])
     clear k1 k2 hbf hbl HB
     go_wp2_with (first
      | ((with_reducible refine K.atO (.buildSlice 150 _ _) ?_); refine wpL_app1 rfl rfl _ _ _ 150 5 rfl rfl Tryz.underlying150 infoU rfl (by decide) (by decide) HO.out (.int .u8 (c.toNat : Int)) [.int .u8 (c.toNat : Int)] rfl rfl rfl (by simp [Value.oneCell']) (fun _ => rfl) (fun _ => rfl) (by omega) (by omega) ?_; intro q4 a4 c4 w4 HO4 HF4)
      | fail)
     have HL4 : Hid ((valI n 0 (v.take (i + 1))).length = al + 1) := hid (by rw [HNX.out, HE.out, List.length_append, HAL.out]; rfl)
     refine ⟨⟨i + 1, al + 1, by go_num, HLT.out, by rw [← HL4.out]; exact HLN.out, hid ?_, HL4⟩, by have := HLT.out; simp [intOf]; omega⟩
     have h := HO4.out
     rw [HNX.out, HE.out]
     have e : u8s (valI n 0 (v.take i)) ++ [Value.int .u8 (c.toNat : Int)] = u8s (valI n 0 (v.take i) ++ [c]) := by simp [u8s]
     rw [e] at h
     exact h
    ·have e35 : ((c.toNat : Int) == 35) = true := beqI (by omega)
     have e32 : ((c.toNat : Int) == 32) = false := beqN (by omega)
     have HE : Hid (byT (i == 0) (i + 1 == n) c = [92, c]) := hid (by rw [hbf, hbl, HB.out]; simp [k1, k2])
     clear k1 k2 hbf hbl HB
     go_wp2_with (first
      | ((with_reducible refine K.atO (.buildSlice 150 _ _) ?_); (fail_if_success (have := HO4)); refine wpL_app1 rfl rfl _ _ _ 150 5 rfl rfl Tryz.underlying150 infoU rfl (by decide) (by decide) HO.out (.int .u8 92) [.int .u8 92] rfl rfl rfl (by simp [Value.oneCell']) (fun _ => rfl) (fun _ => rfl) (by omega) (by omega) ?_; intro q4 a4 c4 w4 HO4 HF4)
      | ((with_reducible refine K.atO (.buildSlice 150 _ _) ?_); refine wpL_app1 rfl rfl _ _ _ 150 5 rfl rfl Tryz.underlying150 infoU rfl (by decide) (by decide) HO4.out (.int .u8 (c.toNat : Int)) [.int .u8 (c.toNat : Int)] rfl rfl rfl (by simp [Value.oneCell']) (fun _ => rfl) (fun _ => rfl) (by omega) (by omega) ?_; intro q5 a5 c5 w5 HO5 HF5)
      | fail)
     have HL5 : Hid ((valI n 0 (v.take (i + 1))).length = al + 1 + 1) := hid (by rw [HNX.out, HE.out, List.length_append, HAL.out]; rfl)
     refine ⟨⟨i + 1, al + 1 + 1, by go_num, HLT.out, by rw [← HL5.out]; exact HLN.out, hid ?_, HL5⟩, by have := HLT.out; simp [intOf]; omega⟩
     have h := HO5.out
     rw [HNX.out, HE.out]
     have e : u8s (valI n 0 (v.take i)) ++ [Value.int .u8 92] ++ [Value.int .u8 (c.toNat : Int)] = u8s (valI n 0 (v.take i) ++ [92, c]) := by simp [u8s]
     rw [e] at h
     exact h
    ·have e35 : ((c.toNat : Int) == 35) = false := beqN (by omega)
     have e32 : ((c.toNat : Int) == 32) = true := beqI (by omega)
     have HE : Hid (byT (i == 0) (i + 1 == n) c = [92, c]) := hid (by rw [hbf, hbl, HB.out]; simp [k1, k2])
     clear k1 k2 hbf hbl HB
     go_wp2_with (first
      | ((with_reducible refine K.atO (.buildSlice 150 _ _) ?_); (fail_if_success (have := HO4)); refine wpL_app1 rfl rfl _ _ _ 150 5 rfl rfl Tryz.underlying150 infoU rfl (by decide) (by decide) HO.out (.int .u8 92) [.int .u8 92] rfl rfl rfl (by simp [Value.oneCell']) (fun _ => rfl) (fun _ => rfl) (by omega) (by omega) ?_; intro q4 a4 c4 w4 HO4 HF4)
      | ((with_reducible refine K.atO (.buildSlice 150 _ _) ?_); refine wpL_app1 rfl rfl _ _ _ 150 5 rfl rfl Tryz.underlying150 infoU rfl (by decide) (by decide) HO4.out (.int .u8 (c.toNat : Int)) [.int .u8 (c.toNat : Int)] rfl rfl rfl (by simp [Value.oneCell']) (fun _ => rfl) (fun _ => rfl) (by omega) (by omega) ?_; intro q5 a5 c5 w5 HO5 HF5)
      | fail)
     have HL5 : Hid ((valI n 0 (v.take (i + 1))).length = al + 1 + 1) := hid (by rw [HNX.out, HE.out, List.length_append, HAL.out]; rfl)
     refine ⟨⟨i + 1, al + 1 + 1, by go_num, HLT.out, by rw [← HL5.out]; exact HLN.out, hid ?_, HL5⟩, by have := HLT.out; simp [intOf]; omega⟩
     have h := HO5.out
     rw [HNX.out, HE.out]
     have e : u8s (valI n 0 (v.take i)) ++ [Value.int .u8 92] ++ [Value.int .u8 (c.toNat : Int)] = u8s (valI n 0 (v.take i) ++ [92, c]) := by simp [u8s]
     rw [e] at h
     exact h
    ·have e35 : ((c.toNat : Int) == 35) = false := beqN (by omega)
     have e32 : ((c.toNat : Int) == 32) = false := beqN (by omega)
     have HE : Hid (byT (i == 0) (i + 1 == n) c = [c]) := hid (by rw [hbf, hbl, HB.out]; simp [k1, k2])
     clear k1 k2 hbf hbl HB
     go_wp2_with (first
      | ((with_reducible refine K.atO (.buildSlice 150 _ _) ?_); refine wpL_app1 rfl rfl _ _ _ 150 5 rfl rfl Tryz.underlying150 infoU rfl (by decide) (by decide) HO.out (.int .u8 (c.toNat : Int)) [.int .u8 (c.toNat : Int)] rfl rfl rfl (by simp [Value.oneCell']) (fun _ => rfl) (fun _ => rfl) (by omega) (by omega) ?_; intro q4 a4 c4 w4 HO4 HF4)
      | fail)
     have HL4 : Hid ((valI n 0 (v.take (i + 1))).length = al + 1) := hid (by rw [HNX.out, HE.out, List.length_append, HAL.out]; rfl)
     refine ⟨⟨i + 1, al + 1, by go_num, HLT.out, by rw [← HL4.out]; exact HLN.out, hid ?_, HL4⟩, by have := HLT.out; simp [intOf]; omega⟩
     have h := HO4.out
     rw [HNX.out, HE.out]
     have e : u8s (valI n 0 (v.take i)) ++ [Value.int .u8 (c.toNat : Int)] = u8s (valI n 0 (v.take i) ++ [c]) := by simp [u8s]
     rw [e] at h
     exact h
  ·obtain rfl : i = n := by omega
   have hall : v.take i = v := List.take_of_length_le (by rw [HN.out]; exact Nat.le_refl _)
   have HO2 : Hid (OwR 5 1 w wr (.slice va al vc) (valI i 0 v).length (u8s (valI i 0 v))) := hid (by have h := HO.out; have h2 := HAL.out; rw [hall] at h h2; rw [h2]; exact h)
   have HDEN := hid (owR_bytes HO2.out)
   clear hall hlt
   go_wp2_with (first
    | ((with_reducible refine K.atO (.convert _ 9 _) ?_); refine wpL_stringOf rfl _ _ _ _ rfl _ _ (valI i 0 v) rfl HDEN.out Tryz.underlying150 Tryz.underlying5 Tryz.underlying9 ?_)
    | fail)
   go_ret
   exact ⟨rfl, HO.out.fr⟩
def rest (fd : Bool) (r : B) (l : List B) (last : B) : Bool := fd && (match cutAll r l with | none => false | some r => Lib.hasSuffix r last)
theorem FlC.form {M : Nat} {S : Nat → Prop} {w : World} {f : Fl} {cs : List Value} (h : FlC M S w f cs) : ∃ ka kc aa ac, cs = flV f (.slice ka f.kids.length kc) (.slice aa f.any.length ac) ∧ I64 f.kind ∧ Sz f.type ∧ Sz f.value := by
 cases M with
 | zero => exact h.elim
 | succ M =>
  obtain ⟨vk, va, rfl, h1, h2, h3, -, -, h6, h7⟩ := h
  obtain ⟨ka, kc, rfl, -, -⟩ := h7.form
  obtain ⟨aa, ac, rfl, -, -⟩ := h6.1.form
  exact ⟨ka, kc, aa, ac, rfl, h1, h2, h3⟩
theorem Sl.take {α : Type} {k : Nat} {p : α → List Value → Prop} {S : Nat → Prop} {w : World} {a : Option Addr} {n c : Nat} {xs : List α} (h : Sl k p S w (.slice a n c) xs) (m : Nat) : Sl k p S w (.slice a (xs.take m).length c) (xs.take m) := by
 obtain ⟨a', c', e, h2, h3, h4⟩ := h
 simp only [Value.slice.injEq] at e
 obtain ⟨rfl, rfl, rfl⟩ := e
 have hm : (xs.take m).length ≤ xs.length := by rw [List.length_take]; omega
 refine ⟨a, c, rfl, by omega, by omega, ?_⟩
 rcases h4 with rfl | ⟨g, o, L, e, hS, hg, hr, hL, hc, hp⟩
 ·left; simp
 ·right
  refine ⟨g, o, L.take m, e, hS, hg, fun j v hj => hr j v ?_, by rw [List.length_take, List.length_take, hL], fun c hcc => hc c (List.mem_of_mem_take hcc), fun j x c hx hcj => ?_⟩
  ·have : L.flatten = (L.take m).flatten ++ (L.drop m).flatten := by rw [← List.flatten_append, List.take_append_drop]
   rw [this, List.getElem?_append_left (List.getElem?_eq_some_iff.1 hj).1]
   exact hj
  ·rw [List.getElem?_take] at hx hcj
   split at hx
   ·rw [if_pos (by assumption)] at hcj
    exact hp j x c hx hcj
   ·cases hx
end Go.Proofs.YtgbiicipkbpmeaaGreatDoor.FT
namespace Go.Proofs.YtgbiicipkbpmeaaGreatDoor.FT
set_option maxRecDepth 100000
open Go.RowKit K BE DN SC
end Go.Proofs.YtgbiicipkbpmeaaGreatDoor.FT
namespace Go.Proofs.YtgbiicipkbpmeaaGreatDoor.FT
set_option maxRecDepth 100000
open Go.RowKit K BE DN SC
end Go.Proofs.YtgbiicipkbpmeaaGreatDoor.FT
