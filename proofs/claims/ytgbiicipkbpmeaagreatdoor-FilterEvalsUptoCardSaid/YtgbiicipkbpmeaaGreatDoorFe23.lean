/-
  Part 23 of the proof: FtRv, FtU, FtX, FtFw.
-/
import Derived.Test.YtgbiicipkbpmeaaGreatDoorFe17
import Derived.Test.YtgbiicipkbpmeaaGreatDoorFe21
import Derived.Test.YtgbiicipkbpmeaaGreatDoorFe18
import Derived.Test.YtgbiicipkbpmeaaGreatDoorFe22
set_option linter.unusedSimpArgs false
set_option linter.unusedVariables false
namespace Go.Proofs.YtgbiicipkbpmeaaGreatDoor.FT
set_option maxRecDepth 100000
set_option maxHeartbeats 128000000
open Go.RowKit K BE DN SC
theorem exec_quo16 {op : Oper} {a : Act} (c : UInt8) (x y : Operand) {u : TypeId} (ho : op.op = .binOp .quo 5 x y u) (hx : a.eval x = .int .u8 (c.toNat : Int)) (hy : a.eval y = .int .u8 16) (w : World) :
  (execOp a.eval op).run Tryz.prog w = .ok (.value (.int .u8 ((c / 16).toNat : Int))) w := by
 have h1 := UInt8.toNat_lt c
 unfold execOp
 simp only [ho, hx, hy]
 simp [go_sem, eqGuard, Result.andThen]
 unfold IntKind.wrap
 simp [IntKind.signed, IntKind.bits]
 omega
theorem exec_rem16 {op : Oper} {a : Act} (c : UInt8) (x y : Operand) {u : TypeId} (ho : op.op = .binOp .rem 5 x y u) (hx : a.eval x = .int .u8 (c.toNat : Int)) (hy : a.eval y = .int .u8 16) (w : World) :
  (execOp a.eval op).run Tryz.prog w = .ok (.value (.int .u8 ((c % 16).toNat : Int))) w := by
 unfold execOp
 simp only [ho, hx, hy]
 simp [go_sem, eqGuard, Result.andThen]
 exact Int.tmod_eq_emod_of_nonneg (by omega)
theorem dgt_n (n : UInt8) (h : n.toNat < 16) : ((dgt n).toNat : Int) = if n.toNat < 10 then 48 + (n.toNat : Int) else 87 + (n.toNat : Int) := by
 have := u8_all (fun c => decide (16 ≤ c.toNat) || decide (((dgt c).toNat : Int) = if c.toNat < 10 then 48 + (c.toNat : Int) else 87 + (c.toNat : Int))) (by decide +kernel) n
 simp only [Bool.or_eq_true, decide_eq_true_eq] at this
 exact this.resolve_left (by omega)
theorem rdigit_any (n : UInt8) (h : n.toNat < 16) (w : World) : Calls Tryz.prog 213 #[.int .u8 (n.toNat : Int)] w fun e w' => e = .returned (.int .u8 ((dgt n).toNat : Int)) ∧ w' = w := by
 rw [dgt_n n h]
 obtain ⟨x, hx⟩ : ∃ x : Int, (n.toNat : Int) = x := ⟨_, rfl⟩
 have h0 : 0 ≤ x := by omega
 have h1 : x < 16 := by omega
 by_cases h10 : n.toNat < 10
 ·rw [if_pos h10, hx]
  have g : x < 10 := by omega
  clear hx h h10
  go_enter Tryz.func213, Tryz.ntmps213
  go_wp2_with fail
  go_ret
  exact ⟨rfl, rfl⟩
 ·rw [if_neg h10, hx]
  have g : ¬ x < 10 := by omega
  have HE : Hid (97 + x - 10 = 87 + x) := hid (by omega)
  clear hx h h10
  go_enter Tryz.func213, Tryz.ntmps213
  go_wp2_with fail
  go_ret
  exact ⟨by rw [← HE.out]; rfl, rfl⟩
def valI (n : Nat) : Nat → B → B
 | _, [] => []
 | k, c :: r => byT (k == 0) (k + 1 == n) c ++ valI n (k + 1) r
theorem valI_from : ∀ (r : B) (k : Nat), valFrom (k == 0) r = valI (k + r.length) k r
 | [], _ => rfl
 | c :: t, k => by
  unfold valFrom valI
  have h1 : t.isEmpty = (k + 1 == k + (c :: t).length) := by
   cases t with
   | nil => simp
   | cons d u => simp
  have h2 := valI_from t (k + 1)
  rw [show (k + 1 == 0) = false by simp] at h2
  rw [h1, h2, show k + 1 + t.length = k + (c :: t).length by rw [List.length_cons]; omega]
theorem valT_I (v : B) : valT v = valI v.length 0 v := by
 have := valI_from v 0
 rw [Nat.zero_add] at this
 exact this
theorem valI_snoc (n : Nat) (c : UInt8) : ∀ (l : B) (k : Nat), valI n k (l ++ [c]) = valI n k l ++ byT (k + l.length == 0) (k + l.length + 1 == n) c
 | [], k => by simp [valI]
 | d :: r, k => by
  have h := valI_snoc n c r (k + 1)
  show byT _ _ d ++ valI n (k + 1) (r ++ [c]) = _
  rw [h, show k + 1 + r.length = k + (d :: r).length by rw [List.length_cons]; omega]
  show _ = byT _ _ d ++ valI n (k + 1) r ++ _
  rw [List.append_assoc]
theorem byT_n (f l : Bool) (c : UInt8) : byT f l c = if c.toNat < 32 ∨ c.toNat = 127 then [92, dgt (c / 16), dgt (c % 16)] else if sign c || (decide (c.toNat = 35) && f) || (decide (c.toNat = 32) && (f || l)) then [92, c] else [c] := by
 unfold byT
 have e1 : (c < 32 ∨ c = 127) ↔ (c.toNat < 32 ∨ c.toNat = 127) := by
  have := u8_all (fun c => decide (c < 32 ∨ c = 127) == decide (c.toNat < 32 ∨ c.toNat = 127)) (by decide +kernel) c
  simp only [beq_iff_eq, decide_eq_decide] at this
  exact this
 have e2 : (c == 35) = decide (c.toNat = 35) := by
  have := u8_all (fun c => (c == 35) == decide (c.toNat = 35)) (by decide +kernel) c
  simpa using this
 have e3 : (c == 32) = decide (c.toNat = 32) := by
  have := u8_all (fun c => (c == 32) == decide (c.toNat = 32)) (by decide +kernel) c
  simpa using this
 rw [e2, e3]
 by_cases h : c.toNat < 32 ∨ c.toNat = 127
 ·rw [if_pos h, if_pos (e1.2 h)]
 ·rw [if_neg h, if_neg (fun x => h (e1.1 x))]
theorem byT_len (f l : Bool) (c : UInt8) : (byT f l c).length ≤ 3 := by
 rw [byT_n]; split
 ·simp
 ·split <;> simp
theorem valI_len (n : Nat) : ∀ (l : B) (k : Nat), (valI n k l).length ≤ 3 * l.length
 | [], _ => by simp [valI]
 | c :: r, k => by
  have h := valI_len n r (k + 1)
  have := byT_len (k == 0) (k + 1 == n) c
  unfold valI
  rw [List.length_append, List.length_cons]
  omega
theorem rvalue_any (v : B) (hv : v.length ≤ 4294967000) (w : World) : Calls Tryz.prog 176 #[.string (sb v)] w fun e w' => e = .returned (.string (sb (valT v))) ∧ Fr No w w' := by
 obtain ⟨S, hS⟩ : ∃ S, sb v = S := ⟨_, rfl⟩
 obtain ⟨n, hn⟩ : ∃ n, v.length = n := ⟨_, rfl⟩
 have hsz : (S.size : Int) = n := by rw [← hS, sb_size, hn]
 have hni : (n : Int) ≤ 4294967000 := by omega
 have HS := hid hS; have HN := hid hn
 rw [valT_I, hS, hn]
 clear hS hn hv
 go_enter Tryz.func176, Tryz.ntmps176
 go_wp2_with fail
 go_loopw [3, 4] (fun dv iv wr => ∃ (i al : Nat), iv = .int .i64 i ∧ i ≤ n ∧ al ≤ 3 * n ∧ Hid (OwR 5 1 w wr dv al (u8s (valI n 0 (v.take i)))) ∧ Hid ((valI n 0 (v.take i)).length = al)) (fun _ iv _ => n - (intOf iv).toNat)
 case atStart => exact ⟨0, 0, rfl, Nat.zero_le _, Nat.zero_le _, hid (owR_nil (Fr.refl _ _)), hid rfl⟩
 case round =>
  obtain ⟨i, al, rfl, hi, hal, HO, HAL⟩ := hrel
  obtain ⟨va, vc, rfl⟩ := HO.out.1
  have hali : (al : Int) ≤ 12884901000 := by omega
  have hal0 : (0 : Int) ≤ al := by omega
  by_cases hlt : i < n
  ·obtain ⟨c, hc⟩ : ∃ c, v[i]? = some c := ⟨_, List.getElem?_eq_getElem (by rw [HN.out]; exact hlt)⟩
   have hlti : (i : Int) < n := by omega
   have hi0 : (0 : Int) ≤ i := by omega
   have hn1 : (1 : Int) ≤ n := by omega
   have HLT := hid hlt
   have HNX : Hid (valI n 0 (v.take (i + 1)) = valI n 0 (v.take i) ++ byT (i == 0) (i + 1 == n) c) := hid (by
    rw [List.take_add_one, hc, Option.toList_some, valI_snoc, List.length_take, HN.out, Nat.min_eq_left (Nat.le_of_lt hlt), Nat.zero_add])
   have HLN : Hid ((valI n 0 (v.take (i + 1))).length ≤ 3 * n) := hid (by have := valI_len n (v.take (i + 1)) 0; rw [List.length_take] at this; have := HN.out; omega)
   have HC := hid hc
   have HF : Hid (((i : Int) == 0) = (i == 0)) := hid (by cases i with | zero => rfl | succ k => rw [beqN (by omega)]; rfl)
   have HLb : Hid (((i : Int) == (n : Int) - 1) = (i + 1 == n)) := hid (by
    by_cases h : i + 1 = n
    ·rw [beqI (by omega), h]; simp
    ·rw [beqN (by omega)]; simp [h])
   clear hlt hal hc
   go_wp2_with (first
    | ((with_reducible refine K.atO (.index 9 _ _) ?_); refine idxZ HS HC rfl rfl rfl rfl ?_))
   refine (signs_any c wr).mono ?_
   rintro e w1 ⟨rfl, rfl⟩
   have hcase : (c.toNat < 32 ∨ c = 127) ∨ (¬ (c.toNat < 32 ∨ c.toNat = 127) ∧ sign c = true) ∨ (¬ (c.toNat < 32 ∨ c.toNat = 127) ∧ sign c = false) := by
    by_cases h : c.toNat < 32 ∨ c.toNat = 127
    ·refine .inl (h.imp id fun e => UInt8.toNat_inj.1 (by rw [e]; rfl))
    ·cases sign c
     ·exact .inr (.inr ⟨h, rfl⟩)
     ·exact .inr (.inl ⟨h, rfl⟩)
   rcases hcase with hct | ⟨hnc, hsg⟩ | ⟨hnc, hsg⟩
   ·have HE : Hid (byT (i == 0) (i + 1 == n) c = [92, dgt (c / 16), dgt (c % 16)]) := hid (by rw [byT_n, if_pos (hct.imp id fun e => by rw [e]; rfl)])
    have HD1 := hid (rdigit_any (c / 16) (by rw [UInt8.toNat_div]; have := UInt8.toNat_lt c; show c.toNat / 16 < 16; omega))
    have HD2 := hid (rdigit_any (c % 16) (by rw [UInt8.toNat_mod]; show c.toNat % 16 < 16; omega))
    rcases hct with hct | rfl
    ·have g1 : (c.toNat : Int) < 32 := by omega
     clear hct
     generalize sign c = sg
     go_wp2_with (first
      | ((with_reducible refine K.atO (.buildSlice 150 _ _) ?_); (fail_if_success (have := HO4)); refine wpL_appU rfl rfl HO.out 92 rfl ?_; intro q4 a4 c4 w4 HO4 HF4)
      | ((with_reducible refine K.atO (.binOp .quo 5 _ _ _) ?_); refine wpL_valZ rfl (.int .u8 ((c / 16 : UInt8).toNat : Int)) (exec_quo16 c _ _ rfl rfl rfl _) ?_))
     refine (HD1.out _).mono ?_
     rintro e w5 ⟨rfl, rfl⟩
     go_wp2_with (first
      | ((with_reducible refine K.atO (.buildSlice 150 _ _) ?_); (fail_if_success (have := HO5)); refine wpL_app1 rfl rfl _ _ _ 150 5 rfl rfl Tryz.underlying150 infoU rfl (by decide) (by decide) HO4.out (.int .u8 ((dgt (c / 16)).toNat : Int)) [.int .u8 ((dgt (c / 16)).toNat : Int)] rfl rfl rfl (by simp [Value.oneCell']) (fun _ => rfl) (fun _ => rfl) (by omega) (by omega) ?_; intro q5 a5 c5 w5 HO5 HF5)
      | ((with_reducible refine K.atO (.binOp .rem 5 _ _ _) ?_); refine wpL_valZ rfl (.int .u8 ((c % 16 : UInt8).toNat : Int)) (exec_rem16 c _ _ rfl rfl rfl _) ?_))
     refine (HD2.out _).mono ?_
     rintro e w6 ⟨rfl, rfl⟩
     go_wp2_with (first
      | ((with_reducible refine K.atO (.buildSlice 150 _ _) ?_); refine wpL_app1 rfl rfl _ _ _ 150 5 rfl rfl Tryz.underlying150 infoU rfl (by decide) (by decide) HO5.out (.int .u8 ((dgt (c % 16)).toNat : Int)) [.int .u8 ((dgt (c % 16)).toNat : Int)] rfl rfl rfl (by simp [Value.oneCell']) (fun _ => rfl) (fun _ => rfl) (by omega) (by omega) ?_; intro q6 a6 c6 w6 HO6 HF6))
     have HL6 : Hid ((valI n 0 (v.take (i + 1))).length = al + 1 + 1 + 1) := hid (by rw [HNX.out, HE.out, List.length_append, HAL.out]; rfl)
     refine ⟨⟨i + 1, al + 1 + 1 + 1, by go_num, HLT.out, by rw [← HL6.out]; exact HLN.out, hid ?_, HL6⟩, by have := HLT.out; simp [intOf]; omega⟩
     have h := HO6.out
     rw [HNX.out, HE.out]
     have e : u8s (valI n 0 (v.take i)) ++ [Value.int .u8 92] ++ [Value.int .u8 ((dgt (c / 16)).toNat : Int)] ++ [Value.int .u8 ((dgt (c % 16)).toNat : Int)] = u8s (valI n 0 (v.take i) ++ [92, dgt (c / 16), dgt (c % 16)]) := by simp [u8s]
     rw [e] at h
     exact h
    ·generalize sign 127 = sg
     go_wp2_with (first
      | ((with_reducible refine K.atO (.buildSlice 150 _ _) ?_); (fail_if_success (have := HO4)); refine wpL_appU rfl rfl HO.out 92 rfl ?_; intro q4 a4 c4 w4 HO4 HF4)
      | ((with_reducible refine K.atO (.binOp .quo 5 _ _ _) ?_); refine wpL_valZ rfl (.int .u8 ((127 / 16 : UInt8).toNat : Int)) (exec_quo16 127 _ _ rfl rfl rfl _) ?_))
     refine (HD1.out _).mono ?_
     rintro e w5 ⟨rfl, rfl⟩
     go_wp2_with (first
      | ((with_reducible refine K.atO (.buildSlice 150 _ _) ?_); (fail_if_success (have := HO5)); refine wpL_app1 rfl rfl _ _ _ 150 5 rfl rfl Tryz.underlying150 infoU rfl (by decide) (by decide) HO4.out (.int .u8 ((dgt (127 / 16)).toNat : Int)) [.int .u8 ((dgt (127 / 16)).toNat : Int)] rfl rfl rfl (by simp [Value.oneCell']) (fun _ => rfl) (fun _ => rfl) (by omega) (by omega) ?_; intro q5 a5 c5 w5 HO5 HF5)
      | ((with_reducible refine K.atO (.binOp .rem 5 _ _ _) ?_); refine wpL_valZ rfl (.int .u8 ((127 % 16 : UInt8).toNat : Int)) (exec_rem16 127 _ _ rfl rfl rfl _) ?_))
     refine (HD2.out _).mono ?_
     rintro e w6 ⟨rfl, rfl⟩
     go_wp2_with (first
      | ((with_reducible refine K.atO (.buildSlice 150 _ _) ?_); refine wpL_app1 rfl rfl _ _ _ 150 5 rfl rfl Tryz.underlying150 infoU rfl (by decide) (by decide) HO5.out (.int .u8 ((dgt (127 % 16)).toNat : Int)) [.int .u8 ((dgt (127 % 16)).toNat : Int)] rfl rfl rfl (by simp [Value.oneCell']) (fun _ => rfl) (fun _ => rfl) (by omega) (by omega) ?_; intro q6 a6 c6 w6 HO6 HF6))
     have HL6 : Hid ((valI n 0 (v.take (i + 1))).length = al + 1 + 1 + 1) := hid (by rw [HNX.out, HE.out, List.length_append, HAL.out]; rfl)
     refine ⟨⟨i + 1, al + 1 + 1 + 1, by go_num, HLT.out, by rw [← HL6.out]; exact HLN.out, hid ?_, HL6⟩, by have := HLT.out; simp [intOf]; omega⟩
     have h := HO6.out
     rw [HNX.out, HE.out]
     have e : u8s (valI n 0 (v.take i)) ++ [Value.int .u8 92] ++ [Value.int .u8 ((dgt (127 / 16)).toNat : Int)] ++ [Value.int .u8 ((dgt (127 % 16)).toNat : Int)] = u8s (valI n 0 (v.take i) ++ [92, dgt (127 / 16), dgt (127 % 16)]) := by simp [u8s]
     rw [e] at h
     exact h
   ·have g1 : ¬ (c.toNat : Int) < 32 := by omega
    have g2 : ((c.toNat : Int) == 127) = false := beqN (by omega)
    have HE : Hid (byT (i == 0) (i + 1 == n) c = [92, c]) := hid (by rw [byT_n, if_neg hnc, hsg]; simp)
    rw [hsg]
    clear hnc hsg
    go_wp2_with (first
     | ((with_reducible refine K.atO (.buildSlice 150 _ _) ?_); (fail_if_success (have := HO4)); refine wpL_appU rfl rfl HO.out 92 rfl ?_; intro q4 a4 c4 w4 HO4 HF4)
     | ((with_reducible refine K.atO (.buildSlice 150 _ _) ?_); refine wpL_appU rfl rfl HO4.out (c.toNat : Int) rfl ?_; intro q5 a5 c5 w5 HO5 HF5))
    have HL5 : Hid ((valI n 0 (v.take (i + 1))).length = al + 1 + 1) := hid (by rw [HNX.out, HE.out, List.length_append, HAL.out]; rfl)
    refine ⟨⟨i + 1, al + 1 + 1, by go_num, HLT.out, by rw [← HL5.out]; exact HLN.out, hid ?_, HL5⟩, by have := HLT.out; simp [intOf]; omega⟩
    have h := HO5.out
    rw [HNX.out, HE.out]
    have e : u8s (valI n 0 (v.take i)) ++ [Value.int .u8 92] ++ [Value.int .u8 (c.toNat : Int)] = u8s (valI n 0 (v.take i) ++ [92, c]) := by simp [u8s]
    rw [e] at h
    exact h
   ·have g1 : ¬ (c.toNat : Int) < 32 := by omega
    have g2 : ((c.toNat : Int) == 127) = false := beqN (by omega)
    have HB := hid (show byT (i == 0) (i + 1 == n) c = if (decide (c.toNat = 35) && (i == 0)) || (decide (c.toNat = 32) && ((i == 0) || (i + 1 == n))) then [92, c] else [c] by rw [byT_n, if_neg hnc, hsg]; simp)
    rw [hsg]
    clear hnc hsg
    have hf := HF.out; have hl := HLb.out
    have hk : (c.toNat = 35 ∧ c.toNat ≠ 32) ∨ (c.toNat = 32 ∧ c.toNat ≠ 35) ∨ (c.toNat ≠ 35 ∧ c.toNat ≠ 32) := by omega
    cases hbf : (i == 0) <;> cases hbl : (i + 1 == n) <;> rw [hbf] at hf HB <;> rw [hbl] at hl HB <;> rcases hk with ⟨k1, k2⟩ | ⟨k1, k2⟩ | ⟨k1, k2⟩
    ·have e35 : ((c.toNat : Int) == 35) = true := beqI (by omega)
     have e32 : ((c.toNat : Int) == 32) = false := beqN (by omega)
     have HE : Hid (byT (i == 0) (i + 1 == n) c = [c]) := hid (by rw [hbf, hbl, HB.out]; simp [k1, k2])
     clear k1 k2 hbf hbl HB
     go_wp2_with (first
      | ((with_reducible refine K.atO (.buildSlice 150 _ _) ?_); refine wpL_appU rfl rfl HO.out (c.toNat : Int) rfl ?_; intro q4 a4 c4 w4 HO4 HF4))
     have HL4 : Hid ((valI n 0 (v.take (i + 1))).length = al + 1) := hid (by rw [HNX.out, HE.out, List.length_append, HAL.out]; rfl)
     refine ⟨⟨i + 1, al + 1, by go_num, HLT.out, by rw [← HL4.out]; exact HLN.out, hid ?_, HL4⟩, by have := HLT.out; simp [intOf]; omega⟩
     have h := HO4.out
     rw [HNX.out, HE.out]
     have e : u8s (valI n 0 (v.take i)) ++ [Value.int .u8 (c.toNat : Int)] = u8s (valI n 0 (v.take i) ++ [c]) := by simp [u8s]
     rw [e] at h
     exact h
    ·have e35 : ((c.toNat : Int) == 35) = false := beqN (by omega)
     have e32 : ((c.toNat : Int) == 32) = true := beqI (by omega)
     have HE : Hid (byT (i == 0) (i + 1 == n) c = [c]) := hid (by rw [hbf, hbl, HB.out]; simp [k1, k2])
     clear k1 k2 hbf hbl HB
     go_wp2_with (first
      | ((with_reducible refine K.atO (.buildSlice 150 _ _) ?_); refine wpL_appU rfl rfl HO.out (c.toNat : Int) rfl ?_; intro q4 a4 c4 w4 HO4 HF4))
     have HL4 : Hid ((valI n 0 (v.take (i + 1))).length = al + 1) := hid (by rw [HNX.out, HE.out, List.length_append, HAL.out]; rfl)
     refine ⟨⟨i + 1, al + 1, by go_num, HLT.out, by rw [← HL4.out]; exact HLN.out, hid ?_, HL4⟩, by have := HLT.out; simp [intOf]; omega⟩
     have h := HO4.out
     rw [HNX.out, HE.out]
     have e : u8s (valI n 0 (v.take i)) ++ [Value.int .u8 (c.toNat : Int)] = u8s (valI n 0 (v.take i) ++ [c]) := by simp [u8s]
     rw [e] at h
     exact h
    ·have e35 : ((c.toNat : Int) == 35) = false := beqN (by omega)
     have e32 : ((c.toNat : Int) == 32) = false := beqN (by omega)
     have HE : Hid (byT (i == 0) (i + 1 == n) c = [c]) := hid (by rw [hbf, hbl, HB.out]; simp [k1, k2])
     clear k1 k2 hbf hbl HB
     go_wp2_with (first
      | ((with_reducible refine K.atO (.buildSlice 150 _ _) ?_); refine wpL_appU rfl rfl HO.out (c.toNat : Int) rfl ?_; intro q4 a4 c4 w4 HO4 HF4))
     have HL4 : Hid ((valI n 0 (v.take (i + 1))).length = al + 1) := hid (by rw [HNX.out, HE.out, List.length_append, HAL.out]; rfl)
     refine ⟨⟨i + 1, al + 1, by go_num, HLT.out, by rw [← HL4.out]; exact HLN.out, hid ?_, HL4⟩, by have := HLT.out; simp [intOf]; omega⟩
     have h := HO4.out
     rw [HNX.out, HE.out]
     have e : u8s (valI n 0 (v.take i)) ++ [Value.int .u8 (c.toNat : Int)] = u8s (valI n 0 (v.take i) ++ [c]) := by simp [u8s]
     rw [e] at h
     exact h
    ·have e35 : ((c.toNat : Int) == 35) = true := beqI (by omega)
     have e32 : ((c.toNat : Int) == 32) = false := beqN (by omega)
     have HE : Hid (byT (i == 0) (i + 1 == n) c = [c]) := hid (by rw [hbf, hbl, HB.out]; simp [k1, k2])
     clear k1 k2 hbf hbl HB
     go_wp2_with (first
      | ((with_reducible refine K.atO (.buildSlice 150 _ _) ?_); refine wpL_appU rfl rfl HO.out (c.toNat : Int) rfl ?_; intro q4 a4 c4 w4 HO4 HF4))
     have HL4 : Hid ((valI n 0 (v.take (i + 1))).length = al + 1) := hid (by rw [HNX.out, HE.out, List.length_append, HAL.out]; rfl)
     refine ⟨⟨i + 1, al + 1, by go_num, HLT.out, by rw [← HL4.out]; exact HLN.out, hid ?_, HL4⟩, by have := HLT.out; simp [intOf]; omega⟩
     have h := HO4.out
     rw [HNX.out, HE.out]
     have e : u8s (valI n 0 (v.take i)) ++ [Value.int .u8 (c.toNat : Int)] = u8s (valI n 0 (v.take i) ++ [c]) := by simp [u8s]
     rw [e] at h
     exact h
    ·have e35 : ((c.toNat : Int) == 35) = false := beqN (by omega)
     have e32 : ((c.toNat : Int) == 32) = true := beqI (by omega)
     have HE : Hid (byT (i == 0) (i + 1 == n) c = [92, c]) := hid (by rw [hbf, hbl, HB.out]; simp [k1, k2])
     clear k1 k2 hbf hbl HB
     go_wp2_with (first
      | ((with_reducible refine K.atO (.buildSlice 150 _ _) ?_); (fail_if_success (have := HO4)); refine wpL_appU rfl rfl HO.out 92 rfl ?_; intro q4 a4 c4 w4 HO4 HF4)
      | ((with_reducible refine K.atO (.buildSlice 150 _ _) ?_); refine wpL_appU rfl rfl HO4.out (c.toNat : Int) rfl ?_; intro q5 a5 c5 w5 HO5 HF5))
     have HL5 : Hid ((valI n 0 (v.take (i + 1))).length = al + 1 + 1) := hid (by rw [HNX.out, HE.out, List.length_append, HAL.out]; rfl)
     refine ⟨⟨i + 1, al + 1 + 1, by go_num, HLT.out, by rw [← HL5.out]; exact HLN.out, hid ?_, HL5⟩, by have := HLT.out; simp [intOf]; omega⟩
     have h := HO5.out
     rw [HNX.out, HE.out]
     have e : u8s (valI n 0 (v.take i)) ++ [Value.int .u8 92] ++ [Value.int .u8 (c.toNat : Int)] = u8s (valI n 0 (v.take i) ++ [92, c]) := by simp [u8s]
     rw [e] at h
     exact h
    ·have e35 : ((c.toNat : Int) == 35) = false := beqN (by omega)
     have e32 : ((c.toNat : Int) == 32) = false := beqN (by omega)
     have HE : Hid (byT (i == 0) (i + 1 == n) c = [c]) := hid (by rw [hbf, hbl, HB.out]; simp [k1, k2])
     clear k1 k2 hbf hbl HB
     go_wp2_with (first
      | ((with_reducible refine K.atO (.buildSlice 150 _ _) ?_); refine wpL_appU rfl rfl HO.out (c.toNat : Int) rfl ?_; intro q4 a4 c4 w4 HO4 HF4))
     have HL4 : Hid ((valI n 0 (v.take (i + 1))).length = al + 1) := hid (by rw [HNX.out, HE.out, List.length_append, HAL.out]; rfl)
     refine ⟨⟨i + 1, al + 1, by go_num, HLT.out, by rw [← HL4.out]; exact HLN.out, hid ?_, HL4⟩, by have := HLT.out; simp [intOf]; omega⟩
     have h := HO4.out
     rw [HNX.out, HE.out]
     have e : u8s (valI n 0 (v.take i)) ++ [Value.int .u8 (c.toNat : Int)] = u8s (valI n 0 (v.take i) ++ [c]) := by simp [u8s]
     rw [e] at h
     exact h
    ·have e35 : ((c.toNat : Int) == 35) = true := beqI (by omega)
     have e32 : ((c.toNat : Int) == 32) = false := beqN (by omega)
     have HE : Hid (byT (i == 0) (i + 1 == n) c = [92, c]) := hid (by rw [hbf, hbl, HB.out]; simp [k1, k2])
     clear k1 k2 hbf hbl HB
     go_wp2_with (first
      | ((with_reducible refine K.atO (.buildSlice 150 _ _) ?_); (fail_if_success (have := HO4)); refine wpL_appU rfl rfl HO.out 92 rfl ?_; intro q4 a4 c4 w4 HO4 HF4)
      | ((with_reducible refine K.atO (.buildSlice 150 _ _) ?_); refine wpL_appU rfl rfl HO4.out (c.toNat : Int) rfl ?_; intro q5 a5 c5 w5 HO5 HF5))
     have HL5 : Hid ((valI n 0 (v.take (i + 1))).length = al + 1 + 1) := hid (by rw [HNX.out, HE.out, List.length_append, HAL.out]; rfl)
     refine ⟨⟨i + 1, al + 1 + 1, by go_num, HLT.out, by rw [← HL5.out]; exact HLN.out, hid ?_, HL5⟩, by have := HLT.out; simp [intOf]; omega⟩
     have h := HO5.out
     rw [HNX.out, HE.out]
     have e : u8s (valI n 0 (v.take i)) ++ [Value.int .u8 92] ++ [Value.int .u8 (c.toNat : Int)] = u8s (valI n 0 (v.take i) ++ [92, c]) := by simp [u8s]
     rw [e] at h
     exact h
    ·have e35 : ((c.toNat : Int) == 35) = false := beqN (by omega)
     have e32 : ((c.toNat : Int) == 32) = true := beqI (by omega)
     have HE : Hid (byT (i == 0) (i + 1 == n) c = [92, c]) := hid (by rw [hbf, hbl, HB.out]; simp [k1, k2])
     clear k1 k2 hbf hbl HB
     go_wp2_with (first
      | ((with_reducible refine K.atO (.buildSlice 150 _ _) ?_); (fail_if_success (have := HO4)); refine wpL_appU rfl rfl HO.out 92 rfl ?_; intro q4 a4 c4 w4 HO4 HF4)
      | ((with_reducible refine K.atO (.buildSlice 150 _ _) ?_); refine wpL_appU rfl rfl HO4.out (c.toNat : Int) rfl ?_; intro q5 a5 c5 w5 HO5 HF5))
     have HL5 : Hid ((valI n 0 (v.take (i + 1))).length = al + 1 + 1) := hid (by rw [HNX.out, HE.out, List.length_append, HAL.out]; rfl)
     refine ⟨⟨i + 1, al + 1 + 1, by go_num, HLT.out, by rw [← HL5.out]; exact HLN.out, hid ?_, HL5⟩, by have := HLT.out; simp [intOf]; omega⟩
     have h := HO5.out
     rw [HNX.out, HE.out]
     have e : u8s (valI n 0 (v.take i)) ++ [Value.int .u8 92] ++ [Value.int .u8 (c.toNat : Int)] = u8s (valI n 0 (v.take i) ++ [92, c]) := by simp [u8s]
     rw [e] at h
     exact h
    ·have e35 : ((c.toNat : Int) == 35) = false := beqN (by omega)
     have e32 : ((c.toNat : Int) == 32) = false := beqN (by omega)
     have HE : Hid (byT (i == 0) (i + 1 == n) c = [c]) := hid (by rw [hbf, hbl, HB.out]; simp [k1, k2])
     clear k1 k2 hbf hbl HB
     go_wp2_with (first
      | ((with_reducible refine K.atO (.buildSlice 150 _ _) ?_); refine wpL_appU rfl rfl HO.out (c.toNat : Int) rfl ?_; intro q4 a4 c4 w4 HO4 HF4))
     have HL4 : Hid ((valI n 0 (v.take (i + 1))).length = al + 1) := hid (by rw [HNX.out, HE.out, List.length_append, HAL.out]; rfl)
     refine ⟨⟨i + 1, al + 1, by go_num, HLT.out, by rw [← HL4.out]; exact HLN.out, hid ?_, HL4⟩, by have := HLT.out; simp [intOf]; omega⟩
     have h := HO4.out
     rw [HNX.out, HE.out]
     have e : u8s (valI n 0 (v.take i)) ++ [Value.int .u8 (c.toNat : Int)] = u8s (valI n 0 (v.take i) ++ [c]) := by simp [u8s]
     rw [e] at h
     exact h
    ·have e35 : ((c.toNat : Int) == 35) = true := beqI (by omega)
     have e32 : ((c.toNat : Int) == 32) = false := beqN (by omega)
     have HE : Hid (byT (i == 0) (i + 1 == n) c = [92, c]) := hid (by rw [hbf, hbl, HB.out]; simp [k1, k2])
     clear k1 k2 hbf hbl HB
     go_wp2_with (first
      | ((with_reducible refine K.atO (.buildSlice 150 _ _) ?_); (fail_if_success (have := HO4)); refine wpL_appU rfl rfl HO.out 92 rfl ?_; intro q4 a4 c4 w4 HO4 HF4)
      | ((with_reducible refine K.atO (.buildSlice 150 _ _) ?_); refine wpL_appU rfl rfl HO4.out (c.toNat : Int) rfl ?_; intro q5 a5 c5 w5 HO5 HF5))
     have HL5 : Hid ((valI n 0 (v.take (i + 1))).length = al + 1 + 1) := hid (by rw [HNX.out, HE.out, List.length_append, HAL.out]; rfl)
     refine ⟨⟨i + 1, al + 1 + 1, by go_num, HLT.out, by rw [← HL5.out]; exact HLN.out, hid ?_, HL5⟩, by have := HLT.out; simp [intOf]; omega⟩
     have h := HO5.out
     rw [HNX.out, HE.out]
     have e : u8s (valI n 0 (v.take i)) ++ [Value.int .u8 92] ++ [Value.int .u8 (c.toNat : Int)] = u8s (valI n 0 (v.take i) ++ [92, c]) := by simp [u8s]
     rw [e] at h
     exact h
    ·have e35 : ((c.toNat : Int) == 35) = false := beqN (by omega)
     have e32 : ((c.toNat : Int) == 32) = true := beqI (by omega)
     have HE : Hid (byT (i == 0) (i + 1 == n) c = [92, c]) := hid (by rw [hbf, hbl, HB.out]; simp [k1, k2])
     clear k1 k2 hbf hbl HB
     go_wp2_with (first
      | ((with_reducible refine K.atO (.buildSlice 150 _ _) ?_); (fail_if_success (have := HO4)); refine wpL_appU rfl rfl HO.out 92 rfl ?_; intro q4 a4 c4 w4 HO4 HF4)
      | ((with_reducible refine K.atO (.buildSlice 150 _ _) ?_); refine wpL_appU rfl rfl HO4.out (c.toNat : Int) rfl ?_; intro q5 a5 c5 w5 HO5 HF5))
     have HL5 : Hid ((valI n 0 (v.take (i + 1))).length = al + 1 + 1) := hid (by rw [HNX.out, HE.out, List.length_append, HAL.out]; rfl)
     refine ⟨⟨i + 1, al + 1 + 1, by go_num, HLT.out, by rw [← HL5.out]; exact HLN.out, hid ?_, HL5⟩, by have := HLT.out; simp [intOf]; omega⟩
     have h := HO5.out
     rw [HNX.out, HE.out]
     have e : u8s (valI n 0 (v.take i)) ++ [Value.int .u8 92] ++ [Value.int .u8 (c.toNat : Int)] = u8s (valI n 0 (v.take i) ++ [92, c]) := by simp [u8s]
     rw [e] at h
     exact h
    ·have e35 : ((c.toNat : Int) == 35) = false := beqN (by omega)
     have e32 : ((c.toNat : Int) == 32) = false := beqN (by omega)
     have HE : Hid (byT (i == 0) (i + 1 == n) c = [c]) := hid (by rw [hbf, hbl, HB.out]; simp [k1, k2])
     clear k1 k2 hbf hbl HB
     go_wp2_with (first
      | ((with_reducible refine K.atO (.buildSlice 150 _ _) ?_); refine wpL_appU rfl rfl HO.out (c.toNat : Int) rfl ?_; intro q4 a4 c4 w4 HO4 HF4))
     have HL4 : Hid ((valI n 0 (v.take (i + 1))).length = al + 1) := hid (by rw [HNX.out, HE.out, List.length_append, HAL.out]; rfl)
     refine ⟨⟨i + 1, al + 1, by go_num, HLT.out, by rw [← HL4.out]; exact HLN.out, hid ?_, HL4⟩, by have := HLT.out; simp [intOf]; omega⟩
     have h := HO4.out
     rw [HNX.out, HE.out]
     have e : u8s (valI n 0 (v.take i)) ++ [Value.int .u8 (c.toNat : Int)] = u8s (valI n 0 (v.take i) ++ [c]) := by simp [u8s]
     rw [e] at h
     exact h
  ·obtain rfl : i = n := by omega
   have hall : v.take i = v := List.take_of_length_le (by rw [HN.out]; exact Nat.le_refl _)
   have HO2 : Hid (OwR 5 1 w wr (.slice va al vc) (valI i 0 v).length (u8s (valI i 0 v))) := hid (by have h := HO.out; have h2 := HAL.out; rw [hall] at h h2; rw [h2]; exact h)
   have HDEN := hid (owR_bytes HO2.out)
   clear hall hlt
   go_wp2_with (first
    | ((with_reducible refine K.atO (.convert _ 9 _) ?_); refine wpL_stringOf rfl _ _ _ _ rfl _ _ (valI i 0 v) rfl HDEN.out Tryz.underlying150 Tryz.underlying5 Tryz.underlying9 ?_))
   go_ret
   exact ⟨rfl, HO.out.fr⟩
theorem escF_ge : ∀ v : B, v.length ≤ (escF v).length
 | [] => Nat.le_refl _
 | c :: r => by
  have ih := escF_ge r
  have e : escF (c :: r) = escB c ++ escF r := rfl
  have h1 : 1 ≤ (escB c).length := by unfold escB; split <;> simp
  rw [e, List.length_append, List.length_cons]
  omega
theorem anyT_ge : ∀ (l : List B) (x : B), x ∈ l → x.length ≤ (anyT l).length
 | y :: r, x, h => by
  have e : anyT (y :: r) = (escF y ++ [42]) ++ anyT r := rfl
  rw [e, List.length_append, List.length_append]
  rcases List.mem_cons.1 h with rfl | h
  ·have := escF_ge x
   omega
  ·have := anyT_ge r x h
   omega
theorem Sl.take {α : Type} {k : Nat} {p : α → List Value → Prop} {S : Nat → Prop} {w : World} {a : Option Addr} {n c : Nat} {xs : List α} (h : Sl k p S w (.slice a n c) xs) (m : Nat) : Sl k p S w (.slice a (xs.take m).length c) (xs.take m) := by
 obtain ⟨a', c', e, h2, h3, h4⟩ := h
 simp only [Value.slice.injEq] at e
 obtain ⟨rfl, rfl, rfl⟩ := e
 have hm : (xs.take m).length ≤ xs.length := by rw [List.length_take]; omega
 refine ⟨a, c, rfl, by omega, by omega, ?_⟩
 rcases h4 with rfl | ⟨g, o, L, e, hS, hg, hr, hL, hc, hp⟩
 ·left; simp
 ·right
  refine ⟨g, o, L.take m, e, hS, hg, fun j v hj => hr j v ?_, by rw [List.length_take, List.length_take, hL], fun c hcc => hc c (List.mem_of_mem_take hcc), fun j x c hx hcj => ?_⟩
  ·have : L.flatten = (L.take m).flatten ++ (L.drop m).flatten := by rw [← List.flatten_append, List.take_append_drop]
   rw [this, List.getElem?_append_left (List.getElem?_eq_some_iff.1 hj).1]
   exact hj
  ·rw [List.getElem?_take] at hx hcj
   split at hx
   ·rw [if_pos (by assumption)] at hcj
    exact hp j x c hx hcj
   ·cases hx
theorem partsText_any {T : Nat → Prop} (f : Fl) (vk va : Value) (w : World) (ha : LsIn T w va f.any) (hl : (partsT f).length ≤ 1099511627776) :
  Calls Tryz.prog 96 #[.agg (flV f vk va).toArray] w fun e w' => e = .returned (.string (sb (partsT f))) ∧ Fr No w w' := by
 have hle : (escF f.first).length + 1 + (anyT f.any).length + (escF f.last).length ≤ 1099511627776 := by unfold partsT at hl; simp at hl; omega
 have HL := hid hle
 have H1 := hid (escaped_any f.first (by have := escF_ge f.first; omega))
 have H2 := hid (escaped_any f.last (by have := escF_ge f.last; omega))
 have HX := hid (fun w' (hf : Fr No w w') => textsS_any va f.any w' (LsIn.fr (D := No) ha hf (fun _ _ _ e => e)) (fun x hx => by have := anyT_ge _ x hx; omega) (by omega))
 obtain ⟨aa, ac, rfl, -, -⟩ := ha.form
 clear ha hl hle
 go_enter Tryz.func96, Tryz.ntmps96
 go_wp2_with (first
  | ((with_reducible refine K.atO (.box 39 _) ?_); refine wpL_box rfl _ _ rfl _ rfl (flV f vk (.slice aa f.any.length ac)) rfl ?_; intro w1 HB1 HF1 HS1; refine Hid.out ?_))
 obtain ⟨q, hq⟩ : ∃ q, w.heap.size = q := ⟨_, rfl⟩
 rw [hq] at HB1 ⊢
 have c5 : w1.cell? ⟨q, 5, none⟩ = some (.slice aa f.any.length ac) := HB1.out.cell 5
 clear hq HS1
 refine hid ?_
 go_wp2_with fail
 refine (HX.out w1 HF1.out).mono ?_
 rintro e w2 ⟨rfl, f2⟩
 have HB2 := hid (HB1.out.fr f2 id)
 have HF2 := hid (HF1.out.trans' f2)
 have k4 : w2.cell? ⟨q, 4, none⟩ = some (.string (sb f.first)) := HB2.out.cell 4
 have k6 : w2.cell? ⟨q, 6, none⟩ = some (.string (sb f.last)) := HB2.out.cell 6
 clear f2 c5 HB1
 go_wp2_with fail
 have hold : Facts.hold [(1, fun w' => w'.cell? ⟨q, 4, none⟩ = some (.string (sb f.first))), (7, fun w' => w'.cell? ⟨q, 6, none⟩ = some (.string (sb f.last)))] w2.drew := Facts.cons_hold k4 (Facts.cons_hold k6 (Facts.nil_hold _))
 refine wpD_region hold (by kernel_rfl) 11 rfl ?_
 (refine K.pl 0 (v := ?_) rfl ?_ ?_; rotate_left; (intro; go_simp; try with_reducible rfl); simp only [K.pu])
 (refine K.tk 1 _ rfl K.m0 (v := ?_) ?_ ?_; rotate_left; (intro _ _hw; go_simp; try with_reducible rfl); simp only [K.pu])
 (refine K.pl 4 (v := ?_) rfl ?_ ?_; rotate_left; (intro; go_simp; try with_reducible rfl); simp only [K.pu])
 (refine K.pl 6 (v := ?_) rfl ?_ ?_; rotate_left; (intro; go_simp; try with_reducible rfl); simp only [K.pu])
 (refine K.tk 7 _ rfl K.m1 (v := ?_) ?_ ?_; rotate_left; (intro _ _hw; go_simp; try with_reducible rfl); simp only [K.pu])
 clear hold
 refine K.on 2 [(7, fun w' => w'.cell? ⟨q, 6, none⟩ = some (.string (sb f.last)))] rfl (fun K2 hK2 => ?_)
 refine wp_call _ _ _ rfl 95 [] rfl (fun vs w => by kernel_rfl) [.string (sb f.first)] (by rfl) ?_
 refine (H1.out w2.drew).mono ?_
 rintro e w3 ⟨rfl, f3⟩
 have k63 : w3.cell? ⟨q, 6, none⟩ = some (.string (sb f.last)) := f3.cell (show w2.drew.cell? _ = _ from k6) id
 have HF3 := hid (HF2.out.trans' ((Fr.refl No w2).drew.trans' f3))
 refine ⟨_, rfl, hK2 _ _ (Facts.cons_hold k63 (Facts.nil_hold _)) ?_⟩
 clear hK2 K2 f3 k4 k6
 simp only [K.pu]
 have hold : Facts.hold [(7, fun w' => w'.cell? ⟨q, 6, none⟩ = some (.string (sb f.last)))] w3 := Facts.cons_hold k63 (Facts.nil_hold _)
 (refine K.pl 3 (v := (.string (sb (escF f.first ++ [42])))) rfl ?_ ?_; (intro _w; exact exec_addS _ _ _ rfl (escF f.first) [42] rfl rfl (by have := HL.out; simp; omega) _ rfl _w); simp only [K.pu])
 (refine K.pl 5 (v := (.string (sb (escF f.first ++ [42] ++ anyT f.any)))) rfl ?_ ?_; (intro _w; exact exec_addS _ _ _ rfl (escF f.first ++ [42]) (anyT f.any) rfl rfl (by have := HL.out; simp; omega) _ rfl _w); simp only [K.pu])
 clear hold
 refine K.on 8 [] rfl (fun K8 hK8 => ?_)
 refine wp_call _ _ _ rfl 95 [] rfl (fun vs w => by kernel_rfl) [.string (sb f.last)] (by rfl) ?_
 refine (H2.out w3).mono ?_
 rintro e w4 ⟨rfl, f4⟩
 have HF4 := hid (HF3.out.trans' f4)
 refine ⟨_, rfl, hK8 _ _ (Facts.nil_hold _) ?_⟩
 clear hK8 K8 f4 k63
 simp only [K.pu]
 have hold : Facts.hold [] w4 := Facts.nil_hold _
 (refine K.pl 9 (v := (.string (sb (partsT f)))) rfl ?_ ?_; (intro _w; exact exec_addS _ _ _ rfl (escF f.first ++ [42] ++ anyT f.any) (escF f.last) rfl rfl (by have := HL.out; simp; omega) _ rfl _w); simp only [K.pu])
 (refine K.pl 10 (v := ?_) rfl ?_ ?_; rotate_left; (intro; go_simp; try with_reducible rfl); simp only [K.pu])
 clear hold
 refine wpD_done (by kernel_rfl) ?_ _
 go_wp2_with fail
 go_ret
 exact ⟨rfl, HF4.out⟩
theorem infoPr : (Tryz.prog.info? 119).map (·.size) = some 1 := by kernel_rfl
theorem pr4 {T : Nat → Prop} {M : Nat} (d : Nat) (f : Fl) (cs : List Value) (w : World) (hf : FlC M T w f cs) (hd : d ≤ 50) (hlen : (prF (d + 1) f).length ≤ 1099511627776) (hk : f.kind = 4) :
  Calls Tryz.prog 59 #[.agg #[.int .i64 ((d + 1 : Nat) : Int)], .agg cs.toArray] w fun e w' => e = .returned (.string (sb (prF (d + 1) f))) ∧ Fr No w w' := by
 have HFL := hid hf
 obtain ⟨ka, kc, aa, ac, rfl, -, hzt, hzv⟩ := hf.form
 obtain ⟨R, hR⟩ : ∃ R, prF (d + 1) f = R := ⟨_, rfl⟩
 rw [hR] at hlen ⊢
 have hl : prF (d + 1) f = [40] ++ f.type ++ [61] ++ partsT f ++ [41] := by unfold prF; simp [hk]
 have HR : Hid ([40] ++ f.type ++ [61] ++ partsT f ++ [41] = R) := hid (by rw [← hR, hl])
 have hb : f.type.length + (partsT f).length + 3 ≤ 1099511627776 + 2 := by rw [← HR.out] at hlen; simp at hlen; omega
 have HL := hid hb
 have HPL : Hid ((partsT f).length ≤ 1099511627776) := hid (by rw [← HR.out] at hlen; simp at hlen; omega)
 have HKK := hid hk
 have hd0 : (((d + 1 : Nat) : Int) == 0) = false := beqN (by omega)
 have hd1 : ((d + 1 : Nat) : Int) - 1 = (d : Int) := by omega
 have hd2 : ((d + 1 : Nat) : Int) ≤ 100 := by omega
 obtain ⟨dd, hdd⟩ : ∃ dd : Int, ((d + 1 : Nat) : Int) = dd := ⟨_, rfl⟩
 rw [hdd] at hd0 hd1 hd2 ⊢
 have hd3 : (0 : Int) ≤ dd := by omega
 have HDD := hid hd1
 clear hf hR hzt hzv hdd hd1 hlen hl hk hb
 go_enter Tryz.func59, Tryz.ntmps59
 go_wp2_with (first
  | ((with_reducible refine K.atO (.box 119 _) ?_); refine wpL_box rfl _ _ rfl _ rfl [.int .i64 dd] rfl ?_; intro w1 HB1 HF1 HS1)
  | ((with_reducible refine K.atO (.box 39 _) ?_); refine wpL_box rfl _ _ rfl _ rfl (flV f (.slice ka f.kids.length kc) (.slice aa f.any.length ac)) rfl ?_; intro w2 HB2 HF2 HS2; refine Hid.out ?_))
 obtain ⟨p, hp⟩ : ∃ p, w.heap.size = p := ⟨_, rfl⟩
 rw [hp] at HB1 ⊢
 obtain ⟨q, hq⟩ : ∃ q, w1.heap.size = q := ⟨_, rfl⟩
 rw [hq] at HB2 ⊢
 have HPQ := hid (show w.heap.size = p ∧ q = p + 1 from ⟨hp, by have := HS1.out; omega⟩)
 have HF2' : Hid (Fr No w w2) := hid (HF1.out.trans' HF2.out)
 have HBp := hid (HB1.out.fr HF2.out id)
 have cl : w2.cell? ⟨p, 0, none⟩ = some (.int .i64 dd) := HBp.out.cell 0
 clear hp hq HS1 HS2 HB1 HF1 HF2
 refine hid ?_
 go_wp2_with (first
  | ((with_reducible refine K.atO (.store 3 _ _) ?_); refine wpL_setV rfl _ _ _ rfl p 0 (.int .i64 (dd - 1)) rfl rfl rfl rfl 119 _ HBp.out (by simp) infoI1 ?_; intro w3 HB3 HF3 HS3; refine Hid.out ?_))
 rw [HDD.out] at HB3 ⊢
 have HB3' : Hid (Blk w3 p 119 [.int .i64 d]) := hid HB3.out
 have HF3' : Hid (Fr No w w3) := hid (HF2'.out.trans HF3.out (fun k e => .inr (by have e : k = p := e; have := HPQ.out; omega)))
 have HBq := hid (HB2.out.fr HF3.out (by show ¬ q = p; have := HPQ.out; omega))
 have HFL3 := hid (HFL.out.no HF3'.out)
 have HCP := hid (HB3'.out.range 0 [.int .i64 d] rfl)
 have HCQ := hid (HBq.out.range 0 (flV f (.slice ka f.kids.length kc) (.slice aa f.any.length ac)) rfl)
 have ck : w3.cell? ⟨q, 0, none⟩ = some (.int .i64 4) := by have := HBq.out.cell 0; rw [this]; simp [flV, HKK.out]
 have c2 : w3.cell? ⟨q, 2, none⟩ = some (.string (sb f.type)) := HBq.out.cell 2
 clear HB2 HB3 HF3 HS3 HBp HFL HF2' cl
 refine hid ?_
 have HAN : Hid (LsIn T w3 (.slice aa f.any.length ac) f.any) := hid (by
  have h := HFL3.out
  cases M with
  | zero => exact h.elim
  | succ M =>
   obtain ⟨vk2, va2, e0, -, -, -, -, -, ha, -⟩ := h
   have e1 : va2 = .slice aa f.any.length ac := by simp [flV] at e0; exact e0.2.symm
   subst e1
   exact ha.1)
 go_wp2_with fail
 have cq : w3.rangeAt q 0 (flV f (.slice ka f.kids.length kc) (.slice aa f.any.length ac)) := HCQ.out
 have hold : Facts.hold [(1, fun w' => w'.cell? ⟨q, 2, none⟩ = some (.string (sb f.type))), (4, fun w' => w'.rangeAt q 0 (flV f (.slice ka f.kids.length kc) (.slice aa f.any.length ac)))] w3.drew := Facts.cons_hold c2 (Facts.cons_hold cq (Facts.nil_hold _))
 refine wpD_region hold (by kernel_rfl) 9 rfl ?_
 (refine K.pl 0 (v := ?_) rfl ?_ ?_; rotate_left; (intro; go_simp; try with_reducible rfl); simp only [K.pu])
 (refine K.tk 1 _ rfl K.m0 (v := ?_) ?_ ?_; rotate_left; (intro _ _hw; go_simp; try with_reducible rfl); simp only [K.pu])
 (refine K.pl 2 (v := (.string (sb ([40] ++ f.type)))) rfl ?_ ?_; (intro _w; exact exec_addS _ _ _ rfl [40] f.type rfl rfl (by have := HL.out; simp; omega) _ rfl _w); simp only [K.pu])
 (refine K.pl 3 (v := (.string (sb ([40] ++ f.type ++ [61])))) rfl ?_ ?_; (intro _w; exact exec_addS _ _ _ rfl ([40] ++ f.type) [61] rfl rfl (by have := HL.out; simp; omega) _ rfl _w); simp only [K.pu])
 (refine K.tk 4 _ rfl K.m1 (exec_load _ _ rfl q 0 rfl _ _ rfl rfl infoFl) ?_; simp only [K.pu])
 clear hold
 refine K.on 5 [(1, fun w' => w'.cell? ⟨q, 2, none⟩ = some (.string (sb f.type)))] rfl (fun K6 hK6 => ?_)
 refine wp_call _ _ _ rfl 96 [] rfl (fun vs w => by kernel_rfl) [.agg (flV f (.slice ka f.kids.length kc) (.slice aa f.any.length ac)).toArray] (by rfl) ?_
 refine (partsText_any f _ _ w3.drew (LsIn.fr (D := No) HAN.out ((Fr.refl No w3).drew) (fun _ _ _ e => e)) HPL.out).mono ?_
 rintro e w4 ⟨rfl, f4⟩
 have c24 : w4.cell? ⟨q, 2, none⟩ = some (.string (sb f.type)) := f4.cell (show w3.drew.cell? _ = _ from c2) id
 have HF4 := hid (HF3'.out.trans' ((Fr.refl No w3).drew.trans' f4))
 refine ⟨_, rfl, hK6 _ _ (Facts.cons_hold c24 (Facts.nil_hold _)) ?_⟩
 clear hK6 K6 f4 c2 cq
 simp only [K.pu]
 have hold : Facts.hold [(1, fun w' => w'.cell? ⟨q, 2, none⟩ = some (.string (sb f.type)))] w4 := Facts.cons_hold c24 (Facts.nil_hold _)
 (refine K.pl 6 (v := (.string (sb ([40] ++ f.type ++ [61] ++ partsT f)))) rfl ?_ ?_; (intro _w; exact exec_addS _ _ _ rfl ([40] ++ f.type ++ [61]) (partsT f) rfl rfl (by have := HL.out; simp; omega) _ rfl _w); simp only [K.pu])
 (refine K.pl 7 (v := (.string (sb R))) rfl ?_ ?_; (intro _w; exact exec_addS _ _ _ rfl ([40] ++ f.type ++ [61] ++ partsT f) [41] rfl rfl (by have := HL.out; simp; omega) _ HR.out _w); simp only [K.pu])
 (refine K.pl 8 (v := ?_) rfl ?_ ?_; rotate_left; (intro; go_simp; try with_reducible rfl); simp only [K.pu])
 clear hold
 refine wpD_done (by kernel_rfl) ?_ _
 go_wp2_with fail
 go_ret
 exact ⟨rfl, HF4.out⟩
theorem kid_len {l : List B} {x : B} {n : Nat} (h : x ∈ l) (hl : l.flatten.length ≤ n) : x.length ≤ n := by
 obtain ⟨i, hi⟩ := List.mem_iff_getElem?.1 h
 have := flat_mem l i x hi
 omega
theorem pr2s {T : Nat → Prop} {M : Nat} (d : Nat) (f : Fl) (cs : List Value) (w : World) (hf : FlC (M + 1) T w f cs) (hd : d ≤ 50) (hlen : (prF (d + 1) f).length ≤ 1099511627776) (hk : f.kind = 2) (ih : ∀ (k : Fl) (cs : List Value) (w : World), k ∈ f.kids → FlC M T w k cs → (prF d k).length ≤ 1099511627776 → Calls Tryz.prog 59 #[.agg #[.int .i64 (d : Int)], .agg cs.toArray] w fun e w' => e = .returned (.string (sb (prF d k))) ∧ Fr No w w') :
  Calls Tryz.prog 59 #[.agg #[.int .i64 ((d + 1 : Nat) : Int)], .agg cs.toArray] w fun e w' => e = .returned (.string (sb (prF (d + 1) f))) ∧ Fr No w w' := by
 have HIH := hid ih
 clear ih
 have HFL := hid hf
 obtain ⟨ka, kc, aa, ac, rfl, -, hzt, hzv⟩ := hf.form
 obtain ⟨R, hR⟩ : ∃ R, prF (d + 1) f = R := ⟨_, rfl⟩
 rw [hR] at hlen ⊢
 have hl : prF (d + 1) f = prK ((f.kids.take 1).map (prF d)) 33 := by unfold prF; simp [hk]
 have HR : Hid ([40, 33] ++ ((f.kids.take 1).map (prF d)).flatten ++ [41] = R) := hid (by rw [← hR, hl]; rfl)
 have hb : ((f.kids.take 1).map (prF d)).flatten.length ≤ 1099511627776 := by rw [← HR.out] at hlen; simp only [List.length_append] at hlen; omega
 have HL := hid hb
 have HKK := hid hk
 have hd0 : (((d + 1 : Nat) : Int) == 0) = false := beqN (by omega)
 have hd1 : ((d + 1 : Nat) : Int) - 1 = (d : Int) := by omega
 have hd2 : ((d + 1 : Nat) : Int) ≤ 100 := by omega
 obtain ⟨dd, hdd⟩ : ∃ dd : Int, ((d + 1 : Nat) : Int) = dd := ⟨_, rfl⟩
 rw [hdd] at hd0 hd1 hd2 ⊢
 have hd3 : (0 : Int) ≤ dd := by omega
 have HDD := hid hd1
 clear hf hR hzt hzv hdd hd1 hlen hl hk hb
 go_enter Tryz.func59, Tryz.ntmps59
 go_wp2_with (first
  | ((with_reducible refine K.atO (.box 119 _) ?_); refine wpL_box rfl _ _ rfl _ rfl [.int .i64 dd] rfl ?_; intro w1 HB1 HF1 HS1)
  | ((with_reducible refine K.atO (.box 39 _) ?_); refine wpL_box rfl _ _ rfl _ rfl (flV f (.slice ka f.kids.length kc) (.slice aa f.any.length ac)) rfl ?_; intro w2 HB2 HF2 HS2; refine Hid.out ?_))
 obtain ⟨p, hp⟩ : ∃ p, w.heap.size = p := ⟨_, rfl⟩
 rw [hp] at HB1 ⊢
 obtain ⟨q, hq⟩ : ∃ q, w1.heap.size = q := ⟨_, rfl⟩
 rw [hq] at HB2 ⊢
 have HPQ := hid (show w.heap.size = p ∧ q = p + 1 from ⟨hp, by have := HS1.out; omega⟩)
 have HF2' : Hid (Fr No w w2) := hid (HF1.out.trans' HF2.out)
 have HBp := hid (HB1.out.fr HF2.out id)
 have cl : w2.cell? ⟨p, 0, none⟩ = some (.int .i64 dd) := HBp.out.cell 0
 clear hp hq HS1 HS2 HB1 HF1 HF2
 refine hid ?_
 go_wp2_with (first
  | ((with_reducible refine K.atO (.store 3 _ _) ?_); refine wpL_setV rfl _ _ _ rfl p 0 (.int .i64 (dd - 1)) rfl rfl rfl rfl 119 _ HBp.out (by simp) infoI1 ?_; intro w3 HB3 HF3 HS3; refine Hid.out ?_))
 rw [HDD.out] at HB3 ⊢
 have HB3' : Hid (Blk w3 p 119 [.int .i64 d]) := hid HB3.out
 have HF3' : Hid (Fr No w w3) := hid (HF2'.out.trans HF3.out (fun k e => .inr (by have e : k = p := e; have := HPQ.out; omega)))
 have HBq := hid (HB2.out.fr HF3.out (by show ¬ q = p; have := HPQ.out; omega))
 have HFL3 := hid (HFL.out.no HF3'.out)
 have HCP := hid (HB3'.out.range 0 [.int .i64 d] rfl)
 have HCQ := hid (HBq.out.range 0 (flV f (.slice ka f.kids.length kc) (.slice aa f.any.length ac)) rfl)
 have ck : w3.cell? ⟨q, 0, none⟩ = some (.int .i64 2) := by have := HBq.out.cell 0; rw [this]; simp [flV, HKK.out]
 have ckd : w3.cell? ⟨q, 1, none⟩ = some (.slice ka f.kids.length kc) := HBq.out.cell 1
 clear HB2 HB3 HF3 HS3 HBp HFL HF2' cl
 refine hid ?_
 obtain ⟨vk2, va2, e0, -, -, -, -, -, -, hks⟩ := HFL3.out
 have e1 : vk2 = .slice ka f.kids.length kc := by simp [flV] at e0; exact e0.1.symm
 subst e1
 have hform := hks.form
 have hks1 := Sl.take hks 1
 have HKS := hid hks1
 obtain ⟨ka', kc', e2, hkc, hkn⟩ := hform
 simp only [Value.slice.injEq, true_and] at e2
 obtain ⟨rfl, rfl⟩ := e2
 obtain ⟨n, hn⟩ : ∃ n, f.kids.length = n := ⟨_, rfl⟩
 obtain ⟨m, hm⟩ : ∃ m, (f.kids.take 1).length = m := ⟨_, rfl⟩
 have hmn : (m : Int) = min 1 (n : Int) := by rw [← hm, List.length_take, hn]; omega
 rw [hm] at HKS
 rw [hn] at hkc hkn ckd
 have HMN := hid (show m ≤ n ∧ n ≤ kc ∧ (n : Int) ≤ 140737488351232 from ⟨by omega, hkc, by omega⟩)
 have HMN2 := hid hmn
 have HKC : Hid ((m : Int) ≤ (kc : Int)) := hid (by omega)
 clear hks hks1 e0 hn hm hmn hkc hkn
 go_wp2_with fail
 have cp : w3.rangeAt p 0 [.int .i64 d] := HCP.out
 have hold : Facts.hold [(1, fun w' => w'.cell? ⟨q, 1, none⟩ = some (.slice ka n kc)), (3, fun w' => w'.cell? ⟨q, 1, none⟩ = some (.slice ka n kc)), (7, fun w' => w'.rangeAt p 0 [.int .i64 d])] w3.drew := Facts.cons_hold ckd (Facts.cons_hold ckd (Facts.cons_hold cp (Facts.nil_hold _)))
 refine wpD_region hold (by kernel_rfl) 13 rfl ?_
 (refine K.pl 0 (v := ?_) rfl ?_ ?_; rotate_left; (intro; go_simp; try with_reducible rfl); simp only [K.pu])
 (refine K.tk 1 _ rfl K.m0 (v := ?_) ?_ ?_; rotate_left; (intro _ _hw; go_simp; try with_reducible rfl); simp only [K.pu])
 (refine K.pl 2 (v := ?_) rfl ?_ ?_; rotate_left; (intro; go_simp; try with_reducible rfl); simp only [K.pu])
 (refine K.tk 3 _ rfl K.m1 (v := ?_) ?_ ?_; rotate_left; (intro _ _hw; go_simp; try with_reducible rfl); simp only [K.pu])
 (refine K.pl 4 (v := ?_) rfl ?_ ?_; rotate_left; (intro; go_simp; try with_reducible rfl); simp only [K.pu])
 (refine K.pl 5 (v := (.int .i64 (m : Int))) rfl ?_ ?_; (intro _w; (go_simp; exact HMN2.out.symm)); simp only [K.pu])
 (refine K.pl 6 (v := (.slice ka m kc)) rfl ?_ ?_; (intro _w; (go_simp; intro hh; have := HKC.out; omega)); simp only [K.pu])
 (refine K.tk 7 _ rfl K.m2 (exec_load _ _ rfl p 0 rfl _ _ rfl rfl infoPr) ?_; simp only [K.pu])
 (refine K.pl 8 (v := ?_) rfl ?_ ?_; rotate_left; (intro; go_simp; try with_reducible rfl); simp only [K.pu])
 clear hold
 refine K.on 9 [(1, fun w' => w'.cell? ⟨q, 1, none⟩ = some (.slice ka n kc)), (3, fun w' => w'.cell? ⟨q, 1, none⟩ = some (.slice ka n kc)), (7, fun w' => w'.rangeAt p 0 [.int .i64 d])] rfl (fun K9 hK9 => ?_)
 refine wp_call _ _ _ rfl 94 [] rfl (fun vs w => by kernel_rfl) [.slice ka m kc, .func (.func 59) #[.agg #[.int .i64 d]] #[]] (by rfl) ?_
 refine (textsF_any 59 [.agg #[.int .i64 d]] (prF d) (fun w x c => FlC M T w x c) T _ (f.kids.take 1) w3.drew (fun w w' x c h hf => h.no hf) (fun w x c h => h.seven) (HKS.out.fr ((Fr.refl No w3).drew) (fun _ _ _ e => e) (fun x c _ h => h.no ((Fr.refl No w3).drew))) (fun vs w => by kernel_rfl)
  (fun x hx c wv hpp hfw => HIH.out x c wv (by first | exact hx | exact List.mem_of_mem_take hx) hpp (kid_len (List.mem_map_of_mem hx) HL.out)) HL.out).mono ?_
 rintro e w4 ⟨rfl, f4⟩
 have ck4 : w4.cell? ⟨q, 1, none⟩ = some (.slice ka n kc) := f4.cell (show w3.drew.cell? _ = _ from ckd) id
 have cp4 : w4.rangeAt p 0 [.int .i64 d] := f4.range (show w3.drew.rangeAt p 0 _ from cp) id
 have HF4 := hid (HF3'.out.trans' ((Fr.refl No w3).drew.trans' f4))
 generalize ((f.kids.take 1).map (prF d)).flatten = Z at HR HL ⊢
 refine ⟨_, rfl, hK9 _ _ (Facts.cons_hold ck4 (Facts.cons_hold ck4 (Facts.cons_hold cp4 (Facts.nil_hold _)))) ?_⟩
 clear hK9 K9 f4 ckd cp
 simp only [K.pu]
 have hold : Facts.hold [(1, fun w' => w'.cell? ⟨q, 1, none⟩ = some (.slice ka n kc)), (3, fun w' => w'.cell? ⟨q, 1, none⟩ = some (.slice ka n kc)), (7, fun w' => w'.rangeAt p 0 [.int .i64 d])] w4 := Facts.cons_hold ck4 (Facts.cons_hold ck4 (Facts.cons_hold cp4 (Facts.nil_hold _)))
 (refine K.pl 10 (v := (.string (sb ([40, 33] ++ Z)))) rfl ?_ ?_; (intro _w; exact exec_addS _ _ _ rfl [40, 33] Z rfl rfl (by have := HL.out; simp; omega) _ rfl _w); simp only [K.pu])
 (refine K.pl 11 (v := (.string (sb R))) rfl ?_ ?_; (intro _w; exact exec_addS _ _ _ rfl ([40, 33] ++ Z) [41] rfl rfl (by have := HL.out; simp; omega) _ HR.out _w); simp only [K.pu])
 (refine K.pl 12 (v := ?_) rfl ?_ ?_; rotate_left; (intro; go_simp; try with_reducible rfl); simp only [K.pu])
 clear hold
 refine wpD_done (by kernel_rfl) ?_ _
 go_wp2_with fail
 go_ret
 exact ⟨rfl, HF4.out⟩
theorem Print_ns {T : Nat → Prop} {M : Nat} (f : Fl) (cs : List Value) (w : World) (hf : FlC (M + 1) T w f cs) (hk : f.kind = 2) (hks : ∀ k ∈ f.kids, k.kind = 4) (hl : (prF 6 f).length ≤ 1099511627776) :
  Calls Tryz.prog 33 #[.agg cs.toArray] w fun e w' => e = .returned (.string (sb (prF 6 f))) ∧ Fr No w w' := by
 have H := hid (fun w' (hw : Fr No w w') => pr2s (M := M) 5 f cs w' (hf.no hw) (by decide) hl hk fun k cs w hm hc hn => pr4 4 k cs w hc (by decide) hn (hks k hm))
 have HI3 : Hid ((Tryz.prog.info? 39).map (·.size) = some cs.length) := hid (by rw [hf.seven.1]; exact infoFl)
 clear hf hl hk hks
 go_enter Tryz.func33, Tryz.ntmps33
 go_wp2_with (first
  | ((with_reducible refine K.atO (.box 39 _) ?_); refine wpL_box rfl _ _ rfl _ rfl cs rfl ?_; intro w1 HB1 HF1 HS1)
  | ((with_reducible refine K.atO (.load 39 _) ?_); refine wpL_load rfl _ _ rfl _ 0 rfl cs _ (HB1.out.range 0 _ (by simp)) rfl rfl HI3.out ?_)
  | ((with_reducible refine K.atO (.build 119 _) ?_); refine wpL_valZ rfl (.agg #[.int .i64 6]) (by kernel_rfl) ?_))
 refine (H.out w1 HF1.out).mono ?_
 rintro e w2 ⟨rfl, f2⟩
 have HF2 := hid (HF1.out.trans' f2)
 clear f2
 go_wp2_with fail
 go_ret
 exact ⟨rfl, HF2.out⟩
end Go.Proofs.YtgbiicipkbpmeaaGreatDoor.FT
namespace Go.Proofs.YtgbiicipkbpmeaaGreatDoor.FT
set_option maxRecDepth 100000
open Go.RowKit K BE DN SC
end Go.Proofs.YtgbiicipkbpmeaaGreatDoor.FT
