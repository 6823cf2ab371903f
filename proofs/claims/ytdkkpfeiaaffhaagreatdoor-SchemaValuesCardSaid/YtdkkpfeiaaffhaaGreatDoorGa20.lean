/-
  Part 20 of the proof: FtRv, FtQ, FtE, FtU, FtX, FtFw, FtRs, FtNd.
-/
import Derived.Test.YtdkkpfeiaaffhaaGreatDoorGa05
import Derived.Test.YtdkkpfeiaaffhaaGreatDoorGa19
import Derived.Test.YtdkkpfeiaaffhaaGreatDoorGa17
set_option linter.unusedSimpArgs false
set_option linter.unusedVariables false
namespace Go.Proofs.YtdkkpfeiaaffhaaGreatDoor.FT
set_option maxRecDepth 100000
open Go.RowKit K Go.Proofs.YtdkkpfeiaaffhaaGreatDoor.BE Go.Proofs.YtdkkpfeiaaffhaaGreatDoor.DN Go.Proofs.YtdkkpfeiaaffhaaGreatDoor.SC

theorem exec_quo16 {op : Oper} {a : Act} (c : UInt8) (x y : Operand) {u : TypeId} (ho : op.op = .binOp .quo 5 x y u) (hx : a.eval x = .int .u8 (c.toNat : Int)) (hy : a.eval y = .int .u8 16) (w : World) :
    (execOp a.eval op).run Tryz.prog w = .ok (.value (.int .u8 ((c / 16).toNat : Int))) w := by
  have h1 := UInt8.toNat_lt c
  unfold execOp
  simp only [ho, hx, hy]
  simp [go_sem, eqGuard, Result.andThen]
  unfold IntKind.wrap
  simp [IntKind.signed, IntKind.bits]
  omega
theorem exec_rem16 {op : Oper} {a : Act} (c : UInt8) (x y : Operand) {u : TypeId} (ho : op.op = .binOp .rem 5 x y u) (hx : a.eval x = .int .u8 (c.toNat : Int)) (hy : a.eval y = .int .u8 16) (w : World) :
    (execOp a.eval op).run Tryz.prog w = .ok (.value (.int .u8 ((c % 16).toNat : Int))) w := by
  unfold execOp
  simp only [ho, hx, hy]
  simp [go_sem, eqGuard, Result.andThen]
  exact Int.tmod_eq_emod_of_nonneg (by omega)
theorem dgt_n (n : UInt8) (h : n.toNat < 16) : ((dgt n).toNat : Int) = if n.toNat < 10 then 48 + (n.toNat : Int) else 87 + (n.toNat : Int) := by
  have := u8_all (fun c => decide (16 ≤ c.toNat) || decide (((dgt c).toNat : Int) = if c.toNat < 10 then 48 + (c.toNat : Int) else 87 + (c.toNat : Int))) (by decide +kernel) n
  simp only [Bool.or_eq_true, decide_eq_true_eq] at this
  exact this.resolve_left (by omega)
set_option maxHeartbeats 4000000 in
theorem rdigit_any (n : UInt8) (h : n.toNat < 16) (w : World) : Calls Tryz.prog 195 #[.int .u8 (n.toNat : Int)] w fun e w' => e = .returned (.int .u8 ((dgt n).toNat : Int)) ∧ w' = w := by
  rw [dgt_n n h]
  obtain ⟨x, hx⟩ : ∃ x : Int, (n.toNat : Int) = x := ⟨_, rfl⟩
  have h0 : 0 ≤ x := by omega
  have h1 : x < 16 := by omega
  by_cases h10 : n.toNat < 10
  · rw [if_pos h10, hx]
    have g : x < 10 := by omega
    clear hx h h10
    go_enter Tryz.func195, Tryz.ntmps195
    go_wp2_with fail
    go_ret
    exact ⟨rfl, rfl⟩
  · rw [if_neg h10, hx]
    have g : ¬ x < 10 := by omega
    have HE : Hid (97 + x - 10 = 87 + x) := hid (by omega)
    clear hx h h10
    go_enter Tryz.func195, Tryz.ntmps195
    go_wp2_with fail
    go_ret
    exact ⟨by rw [← HE.out]; rfl, rfl⟩
/-! ### By place -/
def valI (n : Nat) : Nat → B → B
  | _, [] => []
  | k, c :: r => byT (k == 0) (k + 1 == n) c ++ valI n (k + 1) r
theorem valI_from : ∀ (r : B) (k : Nat), valFrom (k == 0) r = valI (k + r.length) k r
  | [], _ => rfl
  | c :: t, k => by
    unfold valFrom valI
    have h1 : t.isEmpty = (k + 1 == k + (c :: t).length) := by
      cases t with
      | nil => simp
      | cons d u => simp
    have h2 := valI_from t (k + 1)
    rw [show (k + 1 == 0) = false by simp] at h2
    rw [h1, h2, show k + 1 + t.length = k + (c :: t).length by rw [List.length_cons]; omega]
theorem valT_I (v : B) : valT v = valI v.length 0 v := by
  have := valI_from v 0
  rw [Nat.zero_add] at this
  exact this
theorem valI_snoc (n : Nat) (c : UInt8) : ∀ (l : B) (k : Nat), valI n k (l ++ [c]) = valI n k l ++ byT (k + l.length == 0) (k + l.length + 1 == n) c
  | [], k => by simp [valI]
  | d :: r, k => by
    have h := valI_snoc n c r (k + 1)
    show byT _ _ d ++ valI n (k + 1) (r ++ [c]) = _
    rw [h, show k + 1 + r.length = k + (d :: r).length by rw [List.length_cons]; omega]
    show _ = byT _ _ d ++ valI n (k + 1) r ++ _
    rw [List.append_assoc]
theorem byT_n (f l : Bool) (c : UInt8) : byT f l c = if c.toNat < 32 ∨ c.toNat = 127 then [92, dgt (c / 16), dgt (c % 16)] else if sign c || (decide (c.toNat = 35) && f) || (decide (c.toNat = 32) && (f || l)) then [92, c] else [c] := by
  unfold byT
  have e1 : (c < 32 ∨ c = 127) ↔ (c.toNat < 32 ∨ c.toNat = 127) := by
    have := u8_all (fun c => decide (c < 32 ∨ c = 127) == decide (c.toNat < 32 ∨ c.toNat = 127)) (by decide +kernel) c
    simp only [beq_iff_eq, decide_eq_decide] at this
    exact this
  have e2 : (c == 35) = decide (c.toNat = 35) := by
    have := u8_all (fun c => (c == 35) == decide (c.toNat = 35)) (by decide +kernel) c
    simpa using this
  have e3 : (c == 32) = decide (c.toNat = 32) := by
    have := u8_all (fun c => (c == 32) == decide (c.toNat = 32)) (by decide +kernel) c
    simpa using this
  rw [e2, e3]
  by_cases h : c.toNat < 32 ∨ c.toNat = 127
  · rw [if_pos h, if_pos (e1.2 h)]
  · rw [if_neg h, if_neg (fun x => h (e1.1 x))]
theorem byT_len (f l : Bool) (c : UInt8) : (byT f l c).length ≤ 3 := by
  rw [byT_n]; split
  · simp
  · split <;> simp
theorem valI_len (n : Nat) : ∀ (l : B) (k : Nat), (valI n k l).length ≤ 3 * l.length
  | [], _ => by simp [valI]
  | c :: r, k => by
    have h := valI_len n r (k + 1)
    have := byT_len (k == 0) (k + 1 == n) c
    unfold valI
    rw [List.length_append, List.length_cons]
    omega
set_option maxHeartbeats 64000000 in
theorem rvalue_any (v : B) (hv : v.length ≤ 4294967000) (w : World) : Calls Tryz.prog 162 #[.string (sb v)] w fun e w' => e = .returned (.string (sb (valT v))) ∧ Fr No w w' := by
  obtain ⟨S, hS⟩ : ∃ S, sb v = S := ⟨_, rfl⟩
  obtain ⟨n, hn⟩ : ∃ n, v.length = n := ⟨_, rfl⟩
  have hsz : (S.size : Int) = n := by rw [← hS, sb_size, hn]
  have hni : (n : Int) ≤ 4294967000 := by omega
  have HS := hid hS; have HN := hid hn
  rw [valT_I, hS, hn]
  clear hS hn hv
  go_enter Tryz.func162, Tryz.ntmps162
  go_wp2_with fail
  go_loopw [3, 4] (fun dv iv wr => ∃ (i al : Nat), iv = .int .i64 i ∧ i ≤ n ∧ al ≤ 3 * n ∧ Hid (OwR 5 1 w wr dv al (u8s (valI n 0 (v.take i)))) ∧ Hid ((valI n 0 (v.take i)).length = al)) (fun _ iv _ => n - (intOf iv).toNat)
  case atStart => exact ⟨0, 0, rfl, Nat.zero_le _, Nat.zero_le _, hid (owR_nil (Fr.refl _ _)), hid rfl⟩
  case round =>
    obtain ⟨i, al, rfl, hi, hal, HO, HAL⟩ := hrel
    obtain ⟨va, vc, rfl⟩ := HO.out.1
    have hali : (al : Int) ≤ 12884901000 := by omega
    have hal0 : (0 : Int) ≤ al := by omega
    by_cases hlt : i < n
    · obtain ⟨c, hc⟩ : ∃ c, v[i]? = some c := ⟨_, List.getElem?_eq_getElem (by rw [HN.out]; exact hlt)⟩
      have hlti : (i : Int) < n := by omega
      have hi0 : (0 : Int) ≤ i := by omega
      have hn1 : (1 : Int) ≤ n := by omega
      have HLT := hid hlt
      have HNX : Hid (valI n 0 (v.take (i + 1)) = valI n 0 (v.take i) ++ byT (i == 0) (i + 1 == n) c) := hid (by
        rw [List.take_add_one, hc, Option.toList_some, valI_snoc, List.length_take, HN.out, Nat.min_eq_left (Nat.le_of_lt hlt), Nat.zero_add])
      have HLN : Hid ((valI n 0 (v.take (i + 1))).length ≤ 3 * n) := hid (by have := valI_len n (v.take (i + 1)) 0; rw [List.length_take] at this; have := HN.out; omega)
      have HC := hid hc
      have HF : Hid (((i : Int) == 0) = (i == 0)) := hid (by cases i with | zero => rfl | succ k => rw [beqN (by omega)]; rfl)
      have HLb : Hid (((i : Int) == (n : Int) - 1) = (i + 1 == n)) := hid (by
        by_cases h : i + 1 = n
        · rw [beqI (by omega), h]; simp
        · rw [beqN (by omega)]; simp [h])
      clear hlt hal hc
      go_wp2_with (first
        | ((with_reducible refine K.atO (.index 9 _ _) ?_); refine wpL_valZ (by rfl) (.int .u8 (c.toNat : Int)) (exec_idxB _ _ rfl v HS.out i c HC.out _ rfl rfl rfl _) ?_)
        | fail)
      refine (signs_any c wr).mono ?_
      rintro e w1 ⟨rfl, rfl⟩
      have hcase : (c.toNat < 32 ∨ c = 127) ∨ (¬ (c.toNat < 32 ∨ c.toNat = 127) ∧ sign c = true) ∨ (¬ (c.toNat < 32 ∨ c.toNat = 127) ∧ sign c = false) := by
        by_cases h : c.toNat < 32 ∨ c.toNat = 127
        · refine .inl (h.imp id fun e => UInt8.toNat_inj.1 (by rw [e]; rfl))
        · cases sign c
          · exact .inr (.inr ⟨h, rfl⟩)
          · exact .inr (.inl ⟨h, rfl⟩)
      rcases hcase with hct | ⟨hnc, hsg⟩ | ⟨hnc, hsg⟩
      · have HE : Hid (byT (i == 0) (i + 1 == n) c = [92, dgt (c / 16), dgt (c % 16)]) := hid (by rw [byT_n, if_pos (hct.imp id fun e => by rw [e]; rfl)])
        have HD1 := hid (rdigit_any (c / 16) (by rw [UInt8.toNat_div]; have := UInt8.toNat_lt c; show c.toNat / 16 < 16; omega))
        have HD2 := hid (rdigit_any (c % 16) (by rw [UInt8.toNat_mod]; show c.toNat % 16 < 16; omega))
        rcases hct with hct | rfl
        · have g1 : (c.toNat : Int) < 32 := by omega
          clear hct
          generalize sign c = sg
          go_wp2_with (first
            | ((with_reducible refine K.atO (.buildSlice 119 _ _) ?_); (fail_if_success (have := HO4)); refine wpL_app1 rfl rfl _ _ _ 119 5 rfl rfl Tryz.underlying119 infoU rfl (by decide) (by decide) HO.out (.int .u8 92) [.int .u8 92] rfl rfl rfl (by simp [Value.oneCell']) (fun _ => rfl) (fun _ => rfl) (by omega) (by omega) ?_; intro q4 a4 c4 w4 HO4 HF4)
            | ((with_reducible refine K.atO (.binOp .quo 5 _ _ _) ?_); refine wpL_valZ rfl (.int .u8 ((c / 16 : UInt8).toNat : Int)) (exec_quo16 c _ _ rfl rfl rfl _) ?_)
            | fail)
          refine (HD1.out _).mono ?_
          rintro e w5 ⟨rfl, rfl⟩
          go_wp2_with (first
            | ((with_reducible refine K.atO (.buildSlice 119 _ _) ?_); (fail_if_success (have := HO5)); refine wpL_app1 rfl rfl _ _ _ 119 5 rfl rfl Tryz.underlying119 infoU rfl (by decide) (by decide) HO4.out (.int .u8 ((dgt (c / 16)).toNat : Int)) [.int .u8 ((dgt (c / 16)).toNat : Int)] rfl rfl rfl (by simp [Value.oneCell']) (fun _ => rfl) (fun _ => rfl) (by omega) (by omega) ?_; intro q5 a5 c5 w5 HO5 HF5)
            | ((with_reducible refine K.atO (.binOp .rem 5 _ _ _) ?_); refine wpL_valZ rfl (.int .u8 ((c % 16 : UInt8).toNat : Int)) (exec_rem16 c _ _ rfl rfl rfl _) ?_)
            | fail)
          refine (HD2.out _).mono ?_
          rintro e w6 ⟨rfl, rfl⟩
          go_wp2_with (first
            | ((with_reducible refine K.atO (.buildSlice 119 _ _) ?_); refine wpL_app1 rfl rfl _ _ _ 119 5 rfl rfl Tryz.underlying119 infoU rfl (by decide) (by decide) HO5.out (.int .u8 ((dgt (c % 16)).toNat : Int)) [.int .u8 ((dgt (c % 16)).toNat : Int)] rfl rfl rfl (by simp [Value.oneCell']) (fun _ => rfl) (fun _ => rfl) (by omega) (by omega) ?_; intro q6 a6 c6 w6 HO6 HF6)
            | fail)
          have HL6 : Hid ((valI n 0 (v.take (i + 1))).length = al + 1 + 1 + 1) := hid (by rw [HNX.out, HE.out, List.length_append, HAL.out]; rfl)
          refine ⟨⟨i + 1, al + 1 + 1 + 1, by go_num, HLT.out, by rw [← HL6.out]; exact HLN.out, hid ?_, HL6⟩, by have := HLT.out; simp [intOf]; omega⟩
          have h := HO6.out
          rw [HNX.out, HE.out]
          have e : u8s (valI n 0 (v.take i)) ++ [Value.int .u8 92] ++ [Value.int .u8 ((dgt (c / 16)).toNat : Int)] ++ [Value.int .u8 ((dgt (c % 16)).toNat : Int)] = u8s (valI n 0 (v.take i) ++ [92, dgt (c / 16), dgt (c % 16)]) := by simp [u8s]
          rw [e] at h
          exact h
        · generalize sign 127 = sg
          go_wp2_with (first
            | ((with_reducible refine K.atO (.buildSlice 119 _ _) ?_); (fail_if_success (have := HO4)); refine wpL_app1 rfl rfl _ _ _ 119 5 rfl rfl Tryz.underlying119 infoU rfl (by decide) (by decide) HO.out (.int .u8 92) [.int .u8 92] rfl rfl rfl (by simp [Value.oneCell']) (fun _ => rfl) (fun _ => rfl) (by omega) (by omega) ?_; intro q4 a4 c4 w4 HO4 HF4)
            | ((with_reducible refine K.atO (.binOp .quo 5 _ _ _) ?_); refine wpL_valZ rfl (.int .u8 ((127 / 16 : UInt8).toNat : Int)) (exec_quo16 127 _ _ rfl rfl rfl _) ?_)
            | fail)
          refine (HD1.out _).mono ?_
          rintro e w5 ⟨rfl, rfl⟩
          go_wp2_with (first
            | ((with_reducible refine K.atO (.buildSlice 119 _ _) ?_); (fail_if_success (have := HO5)); refine wpL_app1 rfl rfl _ _ _ 119 5 rfl rfl Tryz.underlying119 infoU rfl (by decide) (by decide) HO4.out (.int .u8 ((dgt (127 / 16)).toNat : Int)) [.int .u8 ((dgt (127 / 16)).toNat : Int)] rfl rfl rfl (by simp [Value.oneCell']) (fun _ => rfl) (fun _ => rfl) (by omega) (by omega) ?_; intro q5 a5 c5 w5 HO5 HF5)
            | ((with_reducible refine K.atO (.binOp .rem 5 _ _ _) ?_); refine wpL_valZ rfl (.int .u8 ((127 % 16 : UInt8).toNat : Int)) (exec_rem16 127 _ _ rfl rfl rfl _) ?_)
            | fail)
          refine (HD2.out _).mono ?_
          rintro e w6 ⟨rfl, rfl⟩
          go_wp2_with (first
            | ((with_reducible refine K.atO (.buildSlice 119 _ _) ?_); refine wpL_app1 rfl rfl _ _ _ 119 5 rfl rfl Tryz.underlying119 infoU rfl (by decide) (by decide) HO5.out (.int .u8 ((dgt (127 % 16)).toNat : Int)) [.int .u8 ((dgt (127 % 16)).toNat : Int)] rfl rfl rfl (by simp [Value.oneCell']) (fun _ => rfl) (fun _ => rfl) (by omega) (by omega) ?_; intro q6 a6 c6 w6 HO6 HF6)
            | fail)
          have HL6 : Hid ((valI n 0 (v.take (i + 1))).length = al + 1 + 1 + 1) := hid (by rw [HNX.out, HE.out, List.length_append, HAL.out]; rfl)
          refine ⟨⟨i + 1, al + 1 + 1 + 1, by go_num, HLT.out, by rw [← HL6.out]; exact HLN.out, hid ?_, HL6⟩, by have := HLT.out; simp [intOf]; omega⟩
          have h := HO6.out
          rw [HNX.out, HE.out]
          have e : u8s (valI n 0 (v.take i)) ++ [Value.int .u8 92] ++ [Value.int .u8 ((dgt (127 / 16)).toNat : Int)] ++ [Value.int .u8 ((dgt (127 % 16)).toNat : Int)] = u8s (valI n 0 (v.take i) ++ [92, dgt (127 / 16), dgt (127 % 16)]) := by simp [u8s]
          rw [e] at h
          exact h
      · have g1 : ¬ (c.toNat : Int) < 32 := by omega
        have g2 : ((c.toNat : Int) == 127) = false := beqN (by omega)
        have HE : Hid (byT (i == 0) (i + 1 == n) c = [92, c]) := hid (by rw [byT_n, if_neg hnc, hsg]; simp)
        rw [hsg]
        clear hnc hsg
        go_wp2_with (first
          | ((with_reducible refine K.atO (.buildSlice 119 _ _) ?_); (fail_if_success (have := HO4)); refine wpL_app1 rfl rfl _ _ _ 119 5 rfl rfl Tryz.underlying119 infoU rfl (by decide) (by decide) HO.out (.int .u8 92) [.int .u8 92] rfl rfl rfl (by simp [Value.oneCell']) (fun _ => rfl) (fun _ => rfl) (by omega) (by omega) ?_; intro q4 a4 c4 w4 HO4 HF4)
          | ((with_reducible refine K.atO (.buildSlice 119 _ _) ?_); refine wpL_app1 rfl rfl _ _ _ 119 5 rfl rfl Tryz.underlying119 infoU rfl (by decide) (by decide) HO4.out (.int .u8 (c.toNat : Int)) [.int .u8 (c.toNat : Int)] rfl rfl rfl (by simp [Value.oneCell']) (fun _ => rfl) (fun _ => rfl) (by omega) (by omega) ?_; intro q5 a5 c5 w5 HO5 HF5)
          | fail)
        have HL5 : Hid ((valI n 0 (v.take (i + 1))).length = al + 1 + 1) := hid (by rw [HNX.out, HE.out, List.length_append, HAL.out]; rfl)
        refine ⟨⟨i + 1, al + 1 + 1, by go_num, HLT.out, by rw [← HL5.out]; exact HLN.out, hid ?_, HL5⟩, by have := HLT.out; simp [intOf]; omega⟩
        have h := HO5.out
        rw [HNX.out, HE.out]
        have e : u8s (valI n 0 (v.take i)) ++ [Value.int .u8 92] ++ [Value.int .u8 (c.toNat : Int)] = u8s (valI n 0 (v.take i) ++ [92, c]) := by simp [u8s]
        rw [e] at h
        exact h
      · have g1 : ¬ (c.toNat : Int) < 32 := by omega
        have g2 : ((c.toNat : Int) == 127) = false := beqN (by omega)
        have HB := hid (show byT (i == 0) (i + 1 == n) c = if (decide (c.toNat = 35) && (i == 0)) || (decide (c.toNat = 32) && ((i == 0) || (i + 1 == n))) then [92, c] else [c] by rw [byT_n, if_neg hnc, hsg]; simp)
        rw [hsg]
        clear hnc hsg
        have hf := HF.out; have hl := HLb.out
        have hk : (c.toNat = 35 ∧ c.toNat ≠ 32) ∨ (c.toNat = 32 ∧ c.toNat ≠ 35) ∨ (c.toNat ≠ 35 ∧ c.toNat ≠ 32) := by omega
        cases hbf : (i == 0) <;> cases hbl : (i + 1 == n) <;> rw [hbf] at hf HB <;> rw [hbl] at hl HB <;> rcases hk with ⟨k1, k2⟩ | ⟨k1, k2⟩ | ⟨k1, k2⟩
        · have e35 : ((c.toNat : Int) == 35) = true := beqI (by omega)
          have e32 : ((c.toNat : Int) == 32) = false := beqN (by omega)
          have HE : Hid (byT (i == 0) (i + 1 == n) c = [c]) := hid (by rw [hbf, hbl, HB.out]; simp [k1, k2])
          clear k1 k2 hbf hbl HB
          go_wp2_with (first
            | ((with_reducible refine K.atO (.buildSlice 119 _ _) ?_); refine wpL_app1 rfl rfl _ _ _ 119 5 rfl rfl Tryz.underlying119 infoU rfl (by decide) (by decide) HO.out (.int .u8 (c.toNat : Int)) [.int .u8 (c.toNat : Int)] rfl rfl rfl (by simp [Value.oneCell']) (fun _ => rfl) (fun _ => rfl) (by omega) (by omega) ?_; intro q4 a4 c4 w4 HO4 HF4)
            | fail)
          have HL4 : Hid ((valI n 0 (v.take (i + 1))).length = al + 1) := hid (by rw [HNX.out, HE.out, List.length_append, HAL.out]; rfl)
          refine ⟨⟨i + 1, al + 1, by go_num, HLT.out, by rw [← HL4.out]; exact HLN.out, hid ?_, HL4⟩, by have := HLT.out; simp [intOf]; omega⟩
          have h := HO4.out
          rw [HNX.out, HE.out]
          have e : u8s (valI n 0 (v.take i)) ++ [Value.int .u8 (c.toNat : Int)] = u8s (valI n 0 (v.take i) ++ [c]) := by simp [u8s]
          rw [e] at h
          exact h
        · have e35 : ((c.toNat : Int) == 35) = false := beqN (by omega)
          have e32 : ((c.toNat : Int) == 32) = true := beqI (by omega)
          have HE : Hid (byT (i == 0) (i + 1 == n) c = [c]) := hid (by rw [hbf, hbl, HB.out]; simp [k1, k2])
          clear k1 k2 hbf hbl HB
          go_wp2_with (first
            | ((with_reducible refine K.atO (.buildSlice 119 _ _) ?_); refine wpL_app1 rfl rfl _ _ _ 119 5 rfl rfl Tryz.underlying119 infoU rfl (by decide) (by decide) HO.out (.int .u8 (c.toNat : Int)) [.int .u8 (c.toNat : Int)] rfl rfl rfl (by simp [Value.oneCell']) (fun _ => rfl) (fun _ => rfl) (by omega) (by omega) ?_; intro q4 a4 c4 w4 HO4 HF4)
            | fail)
          have HL4 : Hid ((valI n 0 (v.take (i + 1))).length = al + 1) := hid (by rw [HNX.out, HE.out, List.length_append, HAL.out]; rfl)
          refine ⟨⟨i + 1, al + 1, by go_num, HLT.out, by rw [← HL4.out]; exact HLN.out, hid ?_, HL4⟩, by have := HLT.out; simp [intOf]; omega⟩
          have h := HO4.out
          rw [HNX.out, HE.out]
          have e : u8s (valI n 0 (v.take i)) ++ [Value.int .u8 (c.toNat : Int)] = u8s (valI n 0 (v.take i) ++ [c]) := by simp [u8s]
          rw [e] at h
          exact h
        · have e35 : ((c.toNat : Int) == 35) = false := beqN (by omega)
          have e32 : ((c.toNat : Int) == 32) = false := beqN (by omega)
          have HE : Hid (byT (i == 0) (i + 1 == n) c = [c]) := hid (by rw [hbf, hbl, HB.out]; simp [k1, k2])
          clear k1 k2 hbf hbl HB
          go_wp2_with (first
            | ((with_reducible refine K.atO (.buildSlice 119 _ _) ?_); refine wpL_app1 rfl rfl _ _ _ 119 5 rfl rfl Tryz.underlying119 infoU rfl (by decide) (by decide) HO.out (.int .u8 (c.toNat : Int)) [.int .u8 (c.toNat : Int)] rfl rfl rfl (by simp [Value.oneCell']) (fun _ => rfl) (fun _ => rfl) (by omega) (by omega) ?_; intro q4 a4 c4 w4 HO4 HF4)
            | fail)
          have HL4 : Hid ((valI n 0 (v.take (i + 1))).length = al + 1) := hid (by rw [HNX.out, HE.out, List.length_append, HAL.out]; rfl)
          refine ⟨⟨i + 1, al + 1, by go_num, HLT.out, by rw [← HL4.out]; exact HLN.out, hid ?_, HL4⟩, by have := HLT.out; simp [intOf]; omega⟩
          have h := HO4.out
          rw [HNX.out, HE.out]
          have e : u8s (valI n 0 (v.take i)) ++ [Value.int .u8 (c.toNat : Int)] = u8s (valI n 0 (v.take i) ++ [c]) := by simp [u8s]
          rw [e] at h
          exact h
        · have e35 : ((c.toNat : Int) == 35) = true := beqI (by omega)
          have e32 : ((c.toNat : Int) == 32) = false := beqN (by omega)
          have HE : Hid (byT (i == 0) (i + 1 == n) c = [c]) := hid (by rw [hbf, hbl, HB.out]; simp [k1, k2])
          clear k1 k2 hbf hbl HB
          go_wp2_with (first
            | ((with_reducible refine K.atO (.buildSlice 119 _ _) ?_); refine wpL_app1 rfl rfl _ _ _ 119 5 rfl rfl Tryz.underlying119 infoU rfl (by decide) (by decide) HO.out (.int .u8 (c.toNat : Int)) [.int .u8 (c.toNat : Int)] rfl rfl rfl (by simp [Value.oneCell']) (fun _ => rfl) (fun _ => rfl) (by omega) (by omega) ?_; intro q4 a4 c4 w4 HO4 HF4)
            | fail)
          have HL4 : Hid ((valI n 0 (v.take (i + 1))).length = al + 1) := hid (by rw [HNX.out, HE.out, List.length_append, HAL.out]; rfl)
          refine ⟨⟨i + 1, al + 1, by go_num, HLT.out, by rw [← HL4.out]; exact HLN.out, hid ?_, HL4⟩, by have := HLT.out; simp [intOf]; omega⟩
          have h := HO4.out
          rw [HNX.out, HE.out]
          have e : u8s (valI n 0 (v.take i)) ++ [Value.int .u8 (c.toNat : Int)] = u8s (valI n 0 (v.take i) ++ [c]) := by simp [u8s]
          rw [e] at h
          exact h
        · have e35 : ((c.toNat : Int) == 35) = false := beqN (by omega)
          have e32 : ((c.toNat : Int) == 32) = true := beqI (by omega)
          have HE : Hid (byT (i == 0) (i + 1 == n) c = [92, c]) := hid (by rw [hbf, hbl, HB.out]; simp [k1, k2])
          clear k1 k2 hbf hbl HB
          go_wp2_with (first
            | ((with_reducible refine K.atO (.buildSlice 119 _ _) ?_); (fail_if_success (have := HO4)); refine wpL_app1 rfl rfl _ _ _ 119 5 rfl rfl Tryz.underlying119 infoU rfl (by decide) (by decide) HO.out (.int .u8 92) [.int .u8 92] rfl rfl rfl (by simp [Value.oneCell']) (fun _ => rfl) (fun _ => rfl) (by omega) (by omega) ?_; intro q4 a4 c4 w4 HO4 HF4)
            | ((with_reducible refine K.atO (.buildSlice 119 _ _) ?_); refine wpL_app1 rfl rfl _ _ _ 119 5 rfl rfl Tryz.underlying119 infoU rfl (by decide) (by decide) HO4.out (.int .u8 (c.toNat : Int)) [.int .u8 (c.toNat : Int)] rfl rfl rfl (by simp [Value.oneCell']) (fun _ => rfl) (fun _ => rfl) (by omega) (by omega) ?_; intro q5 a5 c5 w5 HO5 HF5)
            | fail)
          have HL5 : Hid ((valI n 0 (v.take (i + 1))).length = al + 1 + 1) := hid (by rw [HNX.out, HE.out, List.length_append, HAL.out]; rfl)
          refine ⟨⟨i + 1, al + 1 + 1, by go_num, HLT.out, by rw [← HL5.out]; exact HLN.out, hid ?_, HL5⟩, by have := HLT.out; simp [intOf]; omega⟩
          have h := HO5.out
          rw [HNX.out, HE.out]
          have e : u8s (valI n 0 (v.take i)) ++ [Value.int .u8 92] ++ [Value.int .u8 (c.toNat : Int)] = u8s (valI n 0 (v.take i) ++ [92, c]) := by simp [u8s]
          rw [e] at h
          exact h
        · have e35 : ((c.toNat : Int) == 35) = false := beqN (by omega)
          have e32 : ((c.toNat : Int) == 32) = false := beqN (by omega)
          have HE : Hid (byT (i == 0) (i + 1 == n) c = [c]) := hid (by rw [hbf, hbl, HB.out]; simp [k1, k2])
          clear k1 k2 hbf hbl HB
          go_wp2_with (first
            | ((with_reducible refine K.atO (.buildSlice 119 _ _) ?_); refine wpL_app1 rfl rfl _ _ _ 119 5 rfl rfl Tryz.underlying119 infoU rfl (by decide) (by decide) HO.out (.int .u8 (c.toNat : Int)) [.int .u8 (c.toNat : Int)] rfl rfl rfl (by simp [Value.oneCell']) (fun _ => rfl) (fun _ => rfl) (by omega) (by omega) ?_; intro q4 a4 c4 w4 HO4 HF4)
            | fail)
          have HL4 : Hid ((valI n 0 (v.take (i + 1))).length = al + 1) := hid (by rw [HNX.out, HE.out, List.length_append, HAL.out]; rfl)
          refine ⟨⟨i + 1, al + 1, by go_num, HLT.out, by rw [← HL4.out]; exact HLN.out, hid ?_, HL4⟩, by have := HLT.out; simp [intOf]; omega⟩
          have h := HO4.out
          rw [HNX.out, HE.out]
          have e : u8s (valI n 0 (v.take i)) ++ [Value.int .u8 (c.toNat : Int)] = u8s (valI n 0 (v.take i) ++ [c]) := by simp [u8s]
          rw [e] at h
          exact h
        · have e35 : ((c.toNat : Int) == 35) = true := beqI (by omega)
          have e32 : ((c.toNat : Int) == 32) = false := beqN (by omega)
          have HE : Hid (byT (i == 0) (i + 1 == n) c = [92, c]) := hid (by rw [hbf, hbl, HB.out]; simp [k1, k2])
          clear k1 k2 hbf hbl HB
          go_wp2_with (first
            | ((with_reducible refine K.atO (.buildSlice 119 _ _) ?_); (fail_if_success (have := HO4)); refine wpL_app1 rfl rfl _ _ _ 119 5 rfl rfl Tryz.underlying119 infoU rfl (by decide) (by decide) HO.out (.int .u8 92) [.int .u8 92] rfl rfl rfl (by simp [Value.oneCell']) (fun _ => rfl) (fun _ => rfl) (by omega) (by omega) ?_; intro q4 a4 c4 w4 HO4 HF4)
            | ((with_reducible refine K.atO (.buildSlice 119 _ _) ?_); refine wpL_app1 rfl rfl _ _ _ 119 5 rfl rfl Tryz.underlying119 infoU rfl (by decide) (by decide) HO4.out (.int .u8 (c.toNat : Int)) [.int .u8 (c.toNat : Int)] rfl rfl rfl (by simp [Value.oneCell']) (fun _ => rfl) (fun _ => rfl) (by omega) (by omega) ?_; intro q5 a5 c5 w5 HO5 HF5)
            | fail)
          have HL5 : Hid ((valI n 0 (v.take (i + 1))).length = al + 1 + 1) := hid (by rw [HNX.out, HE.out, List.length_append, HAL.out]; rfl)
          refine ⟨⟨i + 1, al + 1 + 1, by go_num, HLT.out, by rw [← HL5.out]; exact HLN.out, hid ?_, HL5⟩, by have := HLT.out; simp [intOf]; omega⟩
          have h := HO5.out
          rw [HNX.out, HE.out]
          have e : u8s (valI n 0 (v.take i)) ++ [Value.int .u8 92] ++ [Value.int .u8 (c.toNat : Int)] = u8s (valI n 0 (v.take i) ++ [92, c]) := by simp [u8s]
          rw [e] at h
          exact h
        · have e35 : ((c.toNat : Int) == 35) = false := beqN (by omega)
          have e32 : ((c.toNat : Int) == 32) = true := beqI (by omega)
          have HE : Hid (byT (i == 0) (i + 1 == n) c = [92, c]) := hid (by rw [hbf, hbl, HB.out]; simp [k1, k2])
          clear k1 k2 hbf hbl HB
          go_wp2_with (first
            | ((with_reducible refine K.atO (.buildSlice 119 _ _) ?_); (fail_if_success (have := HO4)); refine wpL_app1 rfl rfl _ _ _ 119 5 rfl rfl Tryz.underlying119 infoU rfl (by decide) (by decide) HO.out (.int .u8 92) [.int .u8 92] rfl rfl rfl (by simp [Value.oneCell']) (fun _ => rfl) (fun _ => rfl) (by omega) (by omega) ?_; intro q4 a4 c4 w4 HO4 HF4)
            | ((with_reducible refine K.atO (.buildSlice 119 _ _) ?_); refine wpL_app1 rfl rfl _ _ _ 119 5 rfl rfl Tryz.underlying119 infoU rfl (by decide) (by decide) HO4.out (.int .u8 (c.toNat : Int)) [.int .u8 (c.toNat : Int)] rfl rfl rfl (by simp [Value.oneCell']) (fun _ => rfl) (fun _ => rfl) (by omega) (by omega) ?_; intro q5 a5 c5 w5 HO5 HF5)
            | fail)
          have HL5 : Hid ((valI n 0 (v.take (i + 1))).length = al + 1 + 1) := hid (by rw [HNX.out, HE.out, List.length_append, HAL.out]; rfl)
          refine ⟨⟨i + 1, al + 1 + 1, by go_num, HLT.out, by rw [← HL5.out]; exact HLN.out, hid ?_, HL5⟩, by have := HLT.out; simp [intOf]; omega⟩
          have h := HO5.out
          rw [HNX.out, HE.out]
          have e : u8s (valI n 0 (v.take i)) ++ [Value.int .u8 92] ++ [Value.int .u8 (c.toNat : Int)] = u8s (valI n 0 (v.take i) ++ [92, c]) := by simp [u8s]
          rw [e] at h
          exact h
        · have e35 : ((c.toNat : Int) == 35) = false := beqN (by omega)
          have e32 : ((c.toNat : Int) == 32) = false := beqN (by omega)
          have HE : Hid (byT (i == 0) (i + 1 == n) c = [c]) := hid (by rw [hbf, hbl, HB.out]; simp [k1, k2])
          clear k1 k2 hbf hbl HB
          go_wp2_with (first
            | ((with_reducible refine K.atO (.buildSlice 119 _ _) ?_); refine wpL_app1 rfl rfl _ _ _ 119 5 rfl rfl Tryz.underlying119 infoU rfl (by decide) (by decide) HO.out (.int .u8 (c.toNat : Int)) [.int .u8 (c.toNat : Int)] rfl rfl rfl (by simp [Value.oneCell']) (fun _ => rfl) (fun _ => rfl) (by omega) (by omega) ?_; intro q4 a4 c4 w4 HO4 HF4)
            | fail)
          have HL4 : Hid ((valI n 0 (v.take (i + 1))).length = al + 1) := hid (by rw [HNX.out, HE.out, List.length_append, HAL.out]; rfl)
          refine ⟨⟨i + 1, al + 1, by go_num, HLT.out, by rw [← HL4.out]; exact HLN.out, hid ?_, HL4⟩, by have := HLT.out; simp [intOf]; omega⟩
          have h := HO4.out
          rw [HNX.out, HE.out]
          have e : u8s (valI n 0 (v.take i)) ++ [Value.int .u8 (c.toNat : Int)] = u8s (valI n 0 (v.take i) ++ [c]) := by simp [u8s]
          rw [e] at h
          exact h
        · have e35 : ((c.toNat : Int) == 35) = true := beqI (by omega)
          have e32 : ((c.toNat : Int) == 32) = false := beqN (by omega)
          have HE : Hid (byT (i == 0) (i + 1 == n) c = [92, c]) := hid (by rw [hbf, hbl, HB.out]; simp [k1, k2])
          clear k1 k2 hbf hbl HB
          go_wp2_with (first
            | ((with_reducible refine K.atO (.buildSlice 119 _ _) ?_); (fail_if_success (have := HO4)); refine wpL_app1 rfl rfl _ _ _ 119 5 rfl rfl Tryz.underlying119 infoU rfl (by decide) (by decide) HO.out (.int .u8 92) [.int .u8 92] rfl rfl rfl (by simp [Value.oneCell']) (fun _ => rfl) (fun _ => rfl) (by omega) (by omega) ?_; intro q4 a4 c4 w4 HO4 HF4)
            | ((with_reducible refine K.atO (.buildSlice 119 _ _) ?_); refine wpL_app1 rfl rfl _ _ _ 119 5 rfl rfl Tryz.underlying119 infoU rfl (by decide) (by decide) HO4.out (.int .u8 (c.toNat : Int)) [.int .u8 (c.toNat : Int)] rfl rfl rfl (by simp [Value.oneCell']) (fun _ => rfl) (fun _ => rfl) (by omega) (by omega) ?_; intro q5 a5 c5 w5 HO5 HF5)
            | fail)
          have HL5 : Hid ((valI n 0 (v.take (i + 1))).length = al + 1 + 1) := hid (by rw [HNX.out, HE.out, List.length_append, HAL.out]; rfl)
          refine ⟨⟨i + 1, al + 1 + 1, by go_num, HLT.out, by rw [← HL5.out]; exact HLN.out, hid ?_, HL5⟩, by have := HLT.out; simp [intOf]; omega⟩
          have h := HO5.out
          rw [HNX.out, HE.out]
          have e : u8s (valI n 0 (v.take i)) ++ [Value.int .u8 92] ++ [Value.int .u8 (c.toNat : Int)] = u8s (valI n 0 (v.take i) ++ [92, c]) := by simp [u8s]
          rw [e] at h
          exact h
        · have e35 : ((c.toNat : Int) == 35) = false := beqN (by omega)
          have e32 : ((c.toNat : Int) == 32) = true := beqI (by omega)
          have HE : Hid (byT (i == 0) (i + 1 == n) c = [92, c]) := hid (by rw [hbf, hbl, HB.out]; simp [k1, k2])
          clear k1 k2 hbf hbl HB
          go_wp2_with (first
            | ((with_reducible refine K.atO (.buildSlice 119 _ _) ?_); (fail_if_success (have := HO4)); refine wpL_app1 rfl rfl _ _ _ 119 5 rfl rfl Tryz.underlying119 infoU rfl (by decide) (by decide) HO.out (.int .u8 92) [.int .u8 92] rfl rfl rfl (by simp [Value.oneCell']) (fun _ => rfl) (fun _ => rfl) (by omega) (by omega) ?_; intro q4 a4 c4 w4 HO4 HF4)
            | ((with_reducible refine K.atO (.buildSlice 119 _ _) ?_); refine wpL_app1 rfl rfl _ _ _ 119 5 rfl rfl Tryz.underlying119 infoU rfl (by decide) (by decide) HO4.out (.int .u8 (c.toNat : Int)) [.int .u8 (c.toNat : Int)] rfl rfl rfl (by simp [Value.oneCell']) (fun _ => rfl) (fun _ => rfl) (by omega) (by omega) ?_; intro q5 a5 c5 w5 HO5 HF5)
            | fail)
          have HL5 : Hid ((valI n 0 (v.take (i + 1))).length = al + 1 + 1) := hid (by rw [HNX.out, HE.out, List.length_append, HAL.out]; rfl)
          refine ⟨⟨i + 1, al + 1 + 1, by go_num, HLT.out, by rw [← HL5.out]; exact HLN.out, hid ?_, HL5⟩, by have := HLT.out; simp [intOf]; omega⟩
          have h := HO5.out
          rw [HNX.out, HE.out]
          have e : u8s (valI n 0 (v.take i)) ++ [Value.int .u8 92] ++ [Value.int .u8 (c.toNat : Int)] = u8s (valI n 0 (v.take i) ++ [92, c]) := by simp [u8s]
          rw [e] at h
          exact h
        · have e35 : ((c.toNat : Int) == 35) = false := beqN (by omega)
          have e32 : ((c.toNat : Int) == 32) = false := beqN (by omega)
          have HE : Hid (byT (i == 0) (i + 1 == n) c = [c]) := hid (by rw [hbf, hbl, HB.out]; simp [k1, k2])
          clear k1 k2 hbf hbl HB
          go_wp2_with (first
            | ((with_reducible refine K.atO (.buildSlice 119 _ _) ?_); refine wpL_app1 rfl rfl _ _ _ 119 5 rfl rfl Tryz.underlying119 infoU rfl (by decide) (by decide) HO.out (.int .u8 (c.toNat : Int)) [.int .u8 (c.toNat : Int)] rfl rfl rfl (by simp [Value.oneCell']) (fun _ => rfl) (fun _ => rfl) (by omega) (by omega) ?_; intro q4 a4 c4 w4 HO4 HF4)
            | fail)
          have HL4 : Hid ((valI n 0 (v.take (i + 1))).length = al + 1) := hid (by rw [HNX.out, HE.out, List.length_append, HAL.out]; rfl)
          refine ⟨⟨i + 1, al + 1, by go_num, HLT.out, by rw [← HL4.out]; exact HLN.out, hid ?_, HL4⟩, by have := HLT.out; simp [intOf]; omega⟩
          have h := HO4.out
          rw [HNX.out, HE.out]
          have e : u8s (valI n 0 (v.take i)) ++ [Value.int .u8 (c.toNat : Int)] = u8s (valI n 0 (v.take i) ++ [c]) := by simp [u8s]
          rw [e] at h
          exact h
    · obtain rfl : i = n := by omega
      have hall : v.take i = v := List.take_of_length_le (by rw [HN.out]; exact Nat.le_refl _)
      have HO2 : Hid (OwR 5 1 w wr (.slice va al vc) (valI i 0 v).length (u8s (valI i 0 v))) := hid (by have h := HO.out; have h2 := HAL.out; rw [hall] at h h2; rw [h2]; exact h)
      have HDEN := hid (owR_bytes HO2.out)
      clear hall hlt
      go_wp2_with (first
        | ((with_reducible refine K.atO (.convert _ 9 _) ?_); refine wpL_stringOf rfl _ _ _ _ rfl _ _ (valI i 0 v) rfl HDEN.out Tryz.underlying119 Tryz.underlying5 Tryz.underlying9 ?_)
        | fail)
      go_ret
      exact ⟨rfl, HO.out.fr⟩
end Go.Proofs.YtdkkpfeiaaffhaaGreatDoor.FT

namespace Go.Proofs.YtdkkpfeiaaffhaaGreatDoor.FT
set_option maxRecDepth 100000
open Go.RowKit K Go.Proofs.YtdkkpfeiaaffhaaGreatDoor.BE Go.Proofs.YtdkkpfeiaaffhaaGreatDoor.DN Go.Proofs.YtdkkpfeiaaffhaaGreatDoor.SC

/-- What is still to be found. -/
def rest (fd : Bool) (r : B) (l : List B) (last : B) : Bool := fd && (match cutAll r l with | none => false | some r => Lib.hasSuffix r last)
/-! ### evalParts -/
end Go.Proofs.YtdkkpfeiaaffhaaGreatDoor.FT

namespace Go.Proofs.YtdkkpfeiaaffhaaGreatDoor.FT
set_option maxRecDepth 100000
open Go.RowKit K Go.Proofs.YtdkkpfeiaaffhaaGreatDoor.BE Go.Proofs.YtdkkpfeiaaffhaaGreatDoor.DN Go.Proofs.YtdkkpfeiaaffhaaGreatDoor.SC

theorem FlC.form {M : Nat} {S : Nat → Prop} {w : World} {f : Fl} {cs : List Value} (h : FlC M S w f cs) : ∃ ka kc aa ac, cs = flV f (.slice ka f.kids.length kc) (.slice aa f.any.length ac) ∧ I64 f.kind ∧ Sz f.type ∧ Sz f.value := by
  cases M with
  | zero => exact h.elim
  | succ M =>
    obtain ⟨vk, va, rfl, h1, h2, h3, -, -, h6, h7⟩ := h
    obtain ⟨ka, kc, rfl, -, -⟩ := h7.form
    obtain ⟨aa, ac, rfl, -, -⟩ := h6.1.form
    exact ⟨ka, kc, aa, ac, rfl, h1, h2, h3⟩
end Go.Proofs.YtdkkpfeiaaffhaaGreatDoor.FT

namespace Go.Proofs.YtdkkpfeiaaffhaaGreatDoor.FT
set_option maxRecDepth 100000
open Go.RowKit K Go.Proofs.YtdkkpfeiaaffhaaGreatDoor.BE Go.Proofs.YtdkkpfeiaaffhaaGreatDoor.DN Go.Proofs.YtdkkpfeiaaffhaaGreatDoor.SC

theorem Sl.take {α : Type} {k : Nat} {p : α → List Value → Prop} {S : Nat → Prop} {w : World} {a : Option Addr} {n c : Nat} {xs : List α} (h : Sl k p S w (.slice a n c) xs) (m : Nat) : Sl k p S w (.slice a (xs.take m).length c) (xs.take m) := by
  obtain ⟨a', c', e, h2, h3, h4⟩ := h
  simp only [Value.slice.injEq] at e
  obtain ⟨rfl, rfl, rfl⟩ := e
  have hm : (xs.take m).length ≤ xs.length := by rw [List.length_take]; omega
  refine ⟨a, c, rfl, by omega, by omega, ?_⟩
  rcases h4 with rfl | ⟨g, o, L, e, hS, hg, hr, hL, hc, hp⟩
  · left; simp
  · right
    refine ⟨g, o, L.take m, e, hS, hg, fun j v hj => hr j v ?_, by rw [List.length_take, List.length_take, hL], fun c hcc => hc c (List.mem_of_mem_take hcc), fun j x c hx hcj => ?_⟩
    · have : L.flatten = (L.take m).flatten ++ (L.drop m).flatten := by rw [← List.flatten_append, List.take_append_drop]
      rw [this, List.getElem?_append_left (List.getElem?_eq_some_iff.1 hj).1]
      exact hj
    · rw [List.getElem?_take] at hx hcj
      split at hx
      · rw [if_pos (by assumption)] at hcj
        exact hp j x c hx hcj
      · cases hx
end Go.Proofs.YtdkkpfeiaaffhaaGreatDoor.FT

namespace Go.Proofs.YtdkkpfeiaaffhaaGreatDoor.FT
set_option maxRecDepth 100000
open Go.RowKit K Go.Proofs.YtdkkpfeiaaffhaaGreatDoor.BE Go.Proofs.YtdkkpfeiaaffhaaGreatDoor.DN Go.Proofs.YtdkkpfeiaaffhaaGreatDoor.SC

end Go.Proofs.YtdkkpfeiaaffhaaGreatDoor.FT

namespace Go.Proofs.YtdkkpfeiaaffhaaGreatDoor.FT
set_option maxRecDepth 100000
open Go.RowKit K Go.Proofs.YtdkkpfeiaaffhaaGreatDoor.BE Go.Proofs.YtdkkpfeiaaffhaaGreatDoor.DN Go.Proofs.YtdkkpfeiaaffhaaGreatDoor.SC

end Go.Proofs.YtdkkpfeiaaffhaaGreatDoor.FT

namespace Go.Proofs.YtdkkpfeiaaffhaaGreatDoor.FT
set_option maxRecDepth 100000
open Go.RowKit K Go.Proofs.YtdkkpfeiaaffhaaGreatDoor.BE Go.Proofs.YtdkkpfeiaaffhaaGreatDoor.DN Go.Proofs.YtdkkpfeiaaffhaaGreatDoor.SC

theorem join_snoc (s : B) (a : B) : ∀ L : List B, joinB s (L ++ [a]) = if L = [] then a else joinB s L ++ s ++ a
  | [] => rfl
  | [x] => by simp [joinB]
  | x :: y :: r => by
    have h := join_snoc s a (y :: r)
    rw [if_neg (List.cons_ne_nil _ _)] at h ⊢
    have e : joinB s ((x :: y :: r) ++ [a]) = x ++ s ++ joinB s ((y :: r) ++ [a]) := rfl
    rw [e, h]
    simp [joinB]
theorem valFrom_len : ∀ (v : B) (f : Bool), (valFrom f v).length ≤ 3 * v.length
  | [], _ => by simp [valFrom]
  | c :: r, f => by
    have h := valFrom_len r false
    have := byT_len f r.isEmpty c
    unfold valFrom
    rw [List.length_append, List.length_cons]
    omega
/-- No text in it is longer. -/
def RdS (r : Rd) : Prop := r.length ≤ 1000 ∧ ∀ a ∈ r, a.1.length ≤ 1048576 ∧ a.2.length ≤ 1048576
theorem avaT_len {r : Rd} (h : RdS r) {a : Av} (ha : a ∈ r) : (avaT a).length ≤ 4194305 ∧ (valT a.2).length ≤ 3145728 := by
  have h1 := h.2 a ha
  have h2 := valFrom_len a.2 true
  have e : valT a.2 = valFrom true a.2 := rfl
  unfold avaT
  rw [e]
  simp only [List.length_append, List.length_cons, List.length_nil]
  omega
theorem step_len : ∀ (L : List B) (k : Nat), (∀ x ∈ L, x.length ≤ k) → (joinB [43] L).length ≤ L.length * (k + 1)
  | [], _, _ => by simp [joinB]
  | [a], k, h => by have := h a (by simp); simp [joinB]; omega
  | a :: b :: r, k, h => by
    have h1 := h a (by simp)
    have h2 := step_len (b :: r) k fun x hx => h x (by simp [hx])
    have e : joinB [43] (a :: b :: r) = a ++ [43] ++ joinB [43] (b :: r) := rfl
    rw [e, List.length_append, List.length_append, List.length_cons (a := a), Nat.succ_mul]
    simp only [List.length_cons, List.length_nil] at h2 ⊢
    omega
set_option maxHeartbeats 32000000 in
theorem rstep_any {S : Nat → Prop} (v : Value) (r : Rd) (w : World) (h : RdIn S w v r) (hb : RdS r) : Calls Tryz.prog 121 #[v] w fun e w' => e = .returned (.string (sb (DN.stepT r))) ∧ Fr No w w' := by
  obtain ⟨va, vcp, rfl, -, -⟩ := h.form
  obtain ⟨n, hn⟩ : ∃ n, r.length = n := ⟨_, rfl⟩
  have HE := hid h; have HN := hid hn; have HBD := hid hb
  rw [hn] at HE ⊢
  have hni : (n : Int) ≤ 1000 := by have := hb.1; omega
  have HLT2 : Hid (∀ i, (joinB [43] ((r.take i).map avaT)).length ≤ 4194306000) := hid (fun i => by
    have := step_len ((r.take i).map avaT) 4194305 (fun x hx => by
      obtain ⟨a, ha, rfl⟩ := List.mem_map.1 hx
      exact (avaT_len hb (List.mem_of_mem_take ha)).1)
    rw [List.length_map, List.length_take] at this
    have h2 : min i r.length ≤ 1000 := Nat.le_trans (Nat.min_le_right _ _) hb.1
    have := Nat.mul_le_mul_right 4194306 h2
    omega)
  clear h hn hb
  go_enter Tryz.func121, Tryz.ntmps121
  go_wp2_with fail
  go_loopw [3, 4] (fun sv iv wr => ∃ (i : Nat) (P : B), iv = .int .i64 i ∧ i ≤ n ∧ sv = .string (sb P) ∧ Hid (P = joinB [43] ((r.take i).map avaT)) ∧ Hid (Fr No w wr)) (fun _ iv _ => n - (intOf iv).toNat)
  case atStart => exact ⟨0, [], rfl, Nat.zero_le _, rfl, hid rfl, hid (Fr.refl _ _)⟩
  case round =>
    obtain ⟨i, P, rfl, hi, rfl, HP, HFw⟩ := hrel
    by_cases hlt : i < n
    · obtain ⟨x, hx⟩ : ∃ x, r[i]? = some x := ⟨_, List.getElem?_eq_getElem (by rw [HN.out]; exact hlt)⟩
      have hlti : (i : Int) < n := by omega
      have hi0 : (0 : Int) ≤ i := by omega
      have HLT := hid hlt
      have HPL : Hid (P.length ≤ 4194306000) := hid (by rw [HP.out]; exact HLT2.out i)
      obtain ⟨g, o, cp, c, e1, -, -, hr, -, ⟨rfl, hz1, hz2⟩⟩ := Sl.get (Sl.fr (D := No) HE.out HFw.out (fun _ _ _ e => e) (fun _ _ _ h => h)) hx
      rw [HN.out] at e1
      simp only [Value.slice.injEq, true_and] at e1
      obtain ⟨rfl, rfl⟩ := e1
      have hxm : x ∈ r := List.mem_of_getElem? hx
      have HXL := hid (show x.1.length ≤ 1048576 ∧ x.2.length ≤ 1048576 ∧ (valT x.2).length ≤ 3145728 from ⟨(HBD.out.2 x hxm).1, (HBD.out.2 x hxm).2, (avaT_len HBD.out hxm).2⟩)
      have c0 : wr.drew.cell? ⟨g, o + i * 2, none⟩ = some (.string (sb x.1)) := by have := hr 0 _ rfl; exact this
      have c1 : wr.drew.cell? ⟨g, o + i * 2 + 1, none⟩ = some (.string (sb x.2)) := by have := hr 1 _ rfl; exact this
      have HNX : Hid (joinB [43] ((r.take (i + 1)).map avaT) = (if i = 0 then [] else P ++ [43]) ++ avaT x) := hid (by
        rw [List.take_add_one, hx, Option.toList_some, List.map_append, List.map_cons, List.map_nil, join_snoc]
        by_cases h0 : i = 0
        · subst h0; simp
        · have hne : (r.take i).map avaT ≠ [] := by
            intro e
            have := congrArg List.length e
            rw [List.length_map, List.length_take, HN.out] at this
            simp at this
            omega
          rw [if_neg hne, if_neg h0, HP.out])
      have HC0 := hid c0; have HC1 := hid c1
      clear hr hx hxm hlt hz1 hz2 c0 c1
      cases i with
      | zero =>
        have HPL2 : Hid (P.length ≤ 4194306001) := hid (by have := HPL.out; omega)
        have HNY : Hid (joinB [43] ((r.take (0 + 1)).map avaT) = P ++ avaT x) := hid (show joinB [43] ((r.take (0 + 1)).map avaT) = P ++ avaT x by rw [HNX.out, if_pos rfl, HP.out]; rfl)
        have HC0 := hid (show wr.drew.cell? ⟨g, o, none⟩ = some (.string (sb x.1)) by have := HC0.out; rwa [Nat.zero_mul, Nat.add_zero] at this)
        have HC1 := hid (show wr.drew.cell? ⟨g, o + 1, none⟩ = some (.string (sb x.2)) by have := HC1.out; rwa [Nat.zero_mul, Nat.add_zero] at this)
        clear HP HPL
        obtain ⟨T1, hT1⟩ : ∃ T1, P ++ x.1 = T1 := ⟨_, rfl⟩
        obtain ⟨T2, hT2⟩ : ∃ T2, T1 ++ [61] = T2 := ⟨_, rfl⟩
        obtain ⟨T3, hT3⟩ : ∃ T3, T2 ++ valT x.2 = T3 := ⟨_, rfl⟩
        have HT1 := hid hT1; have HT2 := hid hT2; have HT3 := hid hT3
        have HTL := hid (show P.length ≤ 4194306001 ∧ T1.length ≤ 4194306001 + x.1.length ∧ T2.length ≤ 4194306002 + x.1.length from by rw [← hT2, ← hT1]; have := HPL2.out; simp; omega)
        have HT4 : Hid (T3 = P ++ avaT x) := hid (by rw [← hT3, ← hT2, ← hT1]; simp [avaT])
        clear hT1 hT2 hT3
        go_wp2_with fail
        have hold : Facts.hold [(5, fun w' => w'.cell? ⟨g, o, none⟩ = some (.string (sb x.1))), (12, fun w' => w'.cell? ⟨g, o + 1, none⟩ = some (.string (sb x.2)))] wr.drew := Facts.cons_hold HC0.out (Facts.cons_hold HC1.out (Facts.nil_hold _))
        refine wpD_region hold (by kernel_rfl) 16 rfl ?_
        (refine wpD_plain 0 (v := ?_) rfl (by kernel_rfl) (by kernel_rfl) (by kernel_rfl) (fun _ _ _ h => h) (by rfl) ?_ (by assumption) ?_; rotate_left; (intro _w; go_simp; try with_reducible rfl); simp only [Act.put, K.put3])
        (refine wpD_plain 1 (v := ?_) rfl (by kernel_rfl) (by kernel_rfl) (by kernel_rfl) (fun _ _ _ h => h) (by rfl) ?_ (by assumption) ?_; rotate_left; (intro _w; go_simp; try with_reducible rfl); simp only [Act.put, K.put3])
        (refine wpD_plain 2 (v := ?_) rfl (by kernel_rfl) (by kernel_rfl) (by kernel_rfl) (fun _ _ _ h => h) (by rfl) ?_ (by assumption) ?_; rotate_left; (intro _w; go_simp; try with_reducible rfl); simp only [Act.put, K.put3])
        (refine wpD_plain 3 (v := ?_) rfl (by kernel_rfl) (by kernel_rfl) (by kernel_rfl) (fun _ _ _ h => h) (by rfl) ?_ (by assumption) ?_; rotate_left; (intro _w; go_simp; try with_reducible rfl); simp only [Act.put, K.put3])
        (refine wpD_plain 4 (v := ?_) rfl (by kernel_rfl) (by kernel_rfl) (by kernel_rfl) (fun _ _ _ h => h) (by rfl) ?_ (by assumption) ?_; rotate_left; (intro _w; go_simp; try with_reducible rfl); simp only [Act.put, K.put3])
        (refine wpD_take 5 _ rfl (by kernel_rfl) (by kernel_rfl) (by kernel_rfl) (fun _ _ _ h => h) List.mem_cons_self (by rfl) (v := ?_) ?_ (by assumption) ?_; rotate_left; (intro _w _hw; go_simp; try with_reducible rfl); simp only [Act.put, K.put3])
        (refine wpD_plain 6 (v := (.string (sb T1))) rfl (by kernel_rfl) (by kernel_rfl) (by kernel_rfl) (fun _ _ _ h => h) (by rfl) ?_ (by assumption) ?_; (intro _w; exact exec_addS _ _ _ rfl P x.1 rfl rfl (by have := HXL.out; have := HTL.out; omega) _ HT1.out _); simp only [Act.put, K.put3])
        (refine wpD_plain 7 (v := (.string (sb T2))) rfl (by kernel_rfl) (by kernel_rfl) (by kernel_rfl) (fun _ _ _ h => h) (by rfl) ?_ (by assumption) ?_; (intro _w; exact exec_addS _ _ _ rfl T1 [61] rfl rfl (by have := HXL.out; have := HTL.out; show T1.length + 1 ≤ _; omega) _ HT2.out _); simp only [Act.put, K.put3])
        (refine wpD_plain 8 (v := ?_) rfl (by kernel_rfl) (by kernel_rfl) (by kernel_rfl) (fun _ _ _ h => h) (by rfl) ?_ (by assumption) ?_; rotate_left; (intro _w; go_simp; try with_reducible rfl); simp only [Act.put, K.put3])
        (refine wpD_plain 9 (v := ?_) rfl (by kernel_rfl) (by kernel_rfl) (by kernel_rfl) (fun _ _ _ h => h) (by rfl) ?_ (by assumption) ?_; rotate_left; (intro _w; go_simp; try with_reducible rfl); simp only [Act.put, K.put3])
        (refine wpD_plain 10 (v := ?_) rfl (by kernel_rfl) (by kernel_rfl) (by kernel_rfl) (fun _ _ _ h => h) (by rfl) ?_ (by assumption) ?_; rotate_left; (intro _w; go_simp; try with_reducible rfl); simp only [Act.put, K.put3])
        (refine wpD_plain 11 (v := ?_) rfl (by kernel_rfl) (by kernel_rfl) (by kernel_rfl) (fun _ _ _ h => h) (by rfl) ?_ (by assumption) ?_; rotate_left; (intro _w; go_simp; try with_reducible rfl); simp only [Act.put, K.put3])
        (refine wpD_take 12 _ rfl (by kernel_rfl) (by kernel_rfl) (by kernel_rfl) (fun _ _ _ h => h) (List.mem_cons_of_mem _ List.mem_cons_self) (by rfl) (v := ?_) ?_ (by assumption) ?_; rotate_left; (intro _w _hw; go_simp; try with_reducible rfl); simp only [Act.put, K.put3])
        clear hold
        refine wpD_only 13 [(5, fun w' => w'.cell? ⟨g, o, none⟩ = some (.string (sb x.1)))] rfl (by kernel_rfl) (by kernel_rfl) (by rfl) (fun K13 hK13 => ?_)
        refine wp_call (.func 162) _ _ rfl 162 [] rfl (fun vs w => by kernel_rfl) [.string (sb x.2)] (by rfl) ?_
        refine (rvalue_any x.2 (by have := HXL.out; omega) wr.drew).mono ?_
        rintro e w4 ⟨rfl, f4⟩
        have c4 : w4.cell? ⟨g, o, none⟩ = some (.string (sb x.1)) := f4.cell HC0.out id
        have HF4 : Hid (Fr No w w4) := hid (HFw.out.trans' ((Fr.refl No wr).drew.trans' f4))
        refine ⟨_, rfl, hK13 _ _ (Facts.cons_hold c4 (Facts.nil_hold _)) ?_⟩
        clear hK13 K13 f4
        simp only [Act.put, K.put3]
        have hold : Facts.hold [(5, fun w' => w'.cell? ⟨g, o, none⟩ = some (.string (sb x.1)))] w4 := Facts.cons_hold c4 (Facts.nil_hold _)
        (refine wpD_plain 14 (v := (.string (sb T3))) rfl (by kernel_rfl) (by kernel_rfl) (by kernel_rfl) (fun _ _ _ h => h) (by rfl) ?_ (by assumption) ?_; (intro _w; exact exec_addS _ _ _ rfl T2 (valT x.2) rfl rfl (by have := HXL.out; have := HTL.out; omega) _ HT3.out _); simp only [Act.put, K.put3])
        (refine wpD_plain 15 (v := ?_) rfl (by kernel_rfl) (by kernel_rfl) (by kernel_rfl) (fun _ _ _ h => h) (by rfl) ?_ (by assumption) ?_; rotate_left; (intro _w; go_simp; try with_reducible rfl); simp only [Act.put, K.put3])
        clear hold
        refine wpD_done (by kernel_rfl) ?_ _
        go_wp2_with fail
        refine ⟨⟨0 + 1, T3, by go_num, HLT.out, rfl, hid (by rw [HNY.out]; first | exact HT4.out | exact HT4.out.symm), HF4⟩, ?_⟩
        have := HLT.out
        simp [intOf]; omega
      | succ k =>
        have hk0 : (0 : Int) < ((k + 1 : Nat) : Int) := by omega
        obtain ⟨P2, hP2⟩ : ∃ P2 : B, P ++ [43] = P2 := ⟨_, rfl⟩
        have HP2 := hid hP2
        have HPL2 : Hid (P2.length ≤ 4194306001) := hid (by rw [← hP2]; have := HPL.out; simp; omega)
        have HNX := hid (show joinB [43] ((r.take (k + 1 + 1)).map avaT) = P2 ++ avaT x by rw [HNX.out, ← hP2, if_neg (by omega)])
        clear hP2 HP
        obtain ⟨T1, hT1⟩ : ∃ T1, P2 ++ x.1 = T1 := ⟨_, rfl⟩
        obtain ⟨T2, hT2⟩ : ∃ T2, T1 ++ [61] = T2 := ⟨_, rfl⟩
        obtain ⟨T3, hT3⟩ : ∃ T3, T2 ++ valT x.2 = T3 := ⟨_, rfl⟩
        have HT1 := hid hT1; have HT2 := hid hT2; have HT3 := hid hT3
        have HTL := hid (show P2.length ≤ 4194306001 ∧ T1.length ≤ 4194306001 + x.1.length ∧ T2.length ≤ 4194306002 + x.1.length from by rw [← hT2, ← hT1]; have := HPL2.out; simp; omega)
        have HT4 : Hid (T3 = P2 ++ avaT x) := hid (by rw [← hT3, ← hT2, ← hT1]; simp [avaT])
        clear hT1 hT2 hT3
        obtain ⟨q, hq⟩ : ∃ q : Nat, k + 1 = q := ⟨_, rfl⟩
        rw [hq] at hi0 hlti HC0 HC1 HNX HLT hk0 ⊢
        clear hq hi
        go_wp2_with (first
          | ((with_reducible refine K.atO (.binOp .add 9 _ _ _) ?_); refine wpL_valZ (by rfl) (.string (sb P2)) (exec_addS _ _ _ rfl P [43] rfl rfl (by have := HPL.out; simp; omega) _ HP2.out _) ?_)
          | fail)
        have hold : Facts.hold [(5, fun w' => w'.cell? ⟨g, o + q * 2, none⟩ = some (.string (sb x.1))), (12, fun w' => w'.cell? ⟨g, o + q * 2 + 1, none⟩ = some (.string (sb x.2)))] wr.drew := Facts.cons_hold HC0.out (Facts.cons_hold HC1.out (Facts.nil_hold _))
        refine wpD_region hold (by kernel_rfl) 16 rfl ?_
        (refine wpD_plain 0 (v := ?_) rfl (by kernel_rfl) (by kernel_rfl) (by kernel_rfl) (fun _ _ _ h => h) (by rfl) ?_ (by assumption) ?_; rotate_left; (intro _w; go_simp; try with_reducible rfl); simp only [Act.put, K.put3])
        (refine wpD_plain 1 (v := ?_) rfl (by kernel_rfl) (by kernel_rfl) (by kernel_rfl) (fun _ _ _ h => h) (by rfl) ?_ (by assumption) ?_; rotate_left; (intro _w; go_simp; try with_reducible rfl); simp only [Act.put, K.put3])
        (refine wpD_plain 2 (v := ?_) rfl (by kernel_rfl) (by kernel_rfl) (by kernel_rfl) (fun _ _ _ h => h) (by rfl) ?_ (by assumption) ?_; rotate_left; (intro _w; go_simp; try with_reducible rfl); simp only [Act.put, K.put3])
        (refine wpD_plain 3 (v := ?_) rfl (by kernel_rfl) (by kernel_rfl) (by kernel_rfl) (fun _ _ _ h => h) (by rfl) ?_ (by assumption) ?_; rotate_left; (intro _w; go_simp; try with_reducible rfl); simp only [Act.put, K.put3])
        (refine wpD_plain 4 (v := ?_) rfl (by kernel_rfl) (by kernel_rfl) (by kernel_rfl) (fun _ _ _ h => h) (by rfl) ?_ (by assumption) ?_; rotate_left; (intro _w; go_simp; try with_reducible rfl); simp only [Act.put, K.put3])
        (refine wpD_take 5 _ rfl (by kernel_rfl) (by kernel_rfl) (by kernel_rfl) (fun _ _ _ h => h) List.mem_cons_self (by rfl) (v := ?_) ?_ (by assumption) ?_; rotate_left; (intro _w _hw; go_simp; try with_reducible rfl); simp only [Act.put, K.put3])
        (refine wpD_plain 6 (v := (.string (sb T1))) rfl (by kernel_rfl) (by kernel_rfl) (by kernel_rfl) (fun _ _ _ h => h) (by rfl) ?_ (by assumption) ?_; (intro _w; exact exec_addS _ _ _ rfl P2 x.1 rfl rfl (by have := HXL.out; have := HTL.out; omega) _ HT1.out _); simp only [Act.put, K.put3])
        (refine wpD_plain 7 (v := (.string (sb T2))) rfl (by kernel_rfl) (by kernel_rfl) (by kernel_rfl) (fun _ _ _ h => h) (by rfl) ?_ (by assumption) ?_; (intro _w; exact exec_addS _ _ _ rfl T1 [61] rfl rfl (by have := HXL.out; have := HTL.out; show T1.length + 1 ≤ _; omega) _ HT2.out _); simp only [Act.put, K.put3])
        (refine wpD_plain 8 (v := ?_) rfl (by kernel_rfl) (by kernel_rfl) (by kernel_rfl) (fun _ _ _ h => h) (by rfl) ?_ (by assumption) ?_; rotate_left; (intro _w; go_simp; try with_reducible rfl); simp only [Act.put, K.put3])
        (refine wpD_plain 9 (v := ?_) rfl (by kernel_rfl) (by kernel_rfl) (by kernel_rfl) (fun _ _ _ h => h) (by rfl) ?_ (by assumption) ?_; rotate_left; (intro _w; go_simp; try with_reducible rfl); simp only [Act.put, K.put3])
        (refine wpD_plain 10 (v := ?_) rfl (by kernel_rfl) (by kernel_rfl) (by kernel_rfl) (fun _ _ _ h => h) (by rfl) ?_ (by assumption) ?_; rotate_left; (intro _w; go_simp; try with_reducible rfl); simp only [Act.put, K.put3])
        (refine wpD_plain 11 (v := ?_) rfl (by kernel_rfl) (by kernel_rfl) (by kernel_rfl) (fun _ _ _ h => h) (by rfl) ?_ (by assumption) ?_; rotate_left; (intro _w; go_simp; try with_reducible rfl); simp only [Act.put, K.put3])
        (refine wpD_take 12 _ rfl (by kernel_rfl) (by kernel_rfl) (by kernel_rfl) (fun _ _ _ h => h) (List.mem_cons_of_mem _ List.mem_cons_self) (by rfl) (v := ?_) ?_ (by assumption) ?_; rotate_left; (intro _w _hw; go_simp; try with_reducible rfl); simp only [Act.put, K.put3])
        clear hold
        refine wpD_only 13 [(5, fun w' => w'.cell? ⟨g, o + q * 2, none⟩ = some (.string (sb x.1)))] rfl (by kernel_rfl) (by kernel_rfl) (by rfl) (fun K13 hK13 => ?_)
        refine wp_call (.func 162) _ _ rfl 162 [] rfl (fun vs w => by kernel_rfl) [.string (sb x.2)] (by rfl) ?_
        refine (rvalue_any x.2 (by have := HXL.out; omega) wr.drew).mono ?_
        rintro e w4 ⟨rfl, f4⟩
        have c4 : w4.cell? ⟨g, o + q * 2, none⟩ = some (.string (sb x.1)) := f4.cell HC0.out id
        have HF4 : Hid (Fr No w w4) := hid (HFw.out.trans' ((Fr.refl No wr).drew.trans' f4))
        refine ⟨_, rfl, hK13 _ _ (Facts.cons_hold c4 (Facts.nil_hold _)) ?_⟩
        clear hK13 K13 f4
        simp only [Act.put, K.put3]
        have hold : Facts.hold [(5, fun w' => w'.cell? ⟨g, o + q * 2, none⟩ = some (.string (sb x.1)))] w4 := Facts.cons_hold c4 (Facts.nil_hold _)
        (refine wpD_plain 14 (v := (.string (sb T3))) rfl (by kernel_rfl) (by kernel_rfl) (by kernel_rfl) (fun _ _ _ h => h) (by rfl) ?_ (by assumption) ?_; (intro _w; exact exec_addS _ _ _ rfl T2 (valT x.2) rfl rfl (by have := HXL.out; have := HTL.out; omega) _ HT3.out _); simp only [Act.put, K.put3])
        (refine wpD_plain 15 (v := ?_) rfl (by kernel_rfl) (by kernel_rfl) (by kernel_rfl) (fun _ _ _ h => h) (by rfl) ?_ (by assumption) ?_; rotate_left; (intro _w; go_simp; try with_reducible rfl); simp only [Act.put, K.put3])
        clear hold
        refine wpD_done (by kernel_rfl) ?_ _
        go_wp2_with fail
        refine ⟨⟨q + 1, T3, by go_num, HLT.out, rfl, hid (by rw [HNX.out]; first | exact HT4.out | exact HT4.out.symm), HF4⟩, ?_⟩
        have := HLT.out
        simp [intOf]; omega
    · obtain rfl : i = n := by omega
      have HPE : Hid (P = DN.stepT r) := hid (by rw [HP.out, List.take_of_length_le (by rw [HN.out]; exact Nat.le_refl _)]; rfl)
      go_wp2_with fail
      go_ret
      exact ⟨by rw [← HPE.out]; rfl, HFw.out⟩
end Go.Proofs.YtdkkpfeiaaffhaaGreatDoor.FT

namespace Go.Proofs.YtdkkpfeiaaffhaaGreatDoor.FT
set_option maxRecDepth 100000
open Go.RowKit K Go.Proofs.YtdkkpfeiaaffhaaGreatDoor.BE Go.Proofs.YtdkkpfeiaaffhaaGreatDoor.DN Go.Proofs.YtdkkpfeiaaffhaaGreatDoor.SC

theorem less_ltB : ∀ p q : B, Op.bytesLess p q = ltB p q
  | [], [] => rfl
  | [], _ :: _ => rfl
  | _ :: _, [] => rfl
  | a :: r, b :: s => by
    unfold Op.bytesLess ltB
    rw [less_ltB r s]
theorem gtr_ltB (p q : B) : (!(ltB p q || p == q)) = ltB q p := by
  cases h : ltB q p with
  | true =>
    have h1 := ltB_asymm h
    have h2 : (p == q) = false := by
      rw [beq_eq_false_iff_ne]
      rintro rfl
      rw [ltB_irr] at h
      cases h
    rw [h1, h2]; rfl
  | false =>
    cases h1 : ltB p q with
    | true => rfl
    | false =>
      rw [ltB_tot _ _ h1 h]
      simp
theorem binOp_gtrS (t : TypeId) (a b : ByteArray) : binOp .gtr t (.string a) (.string b) = pure (.bool !(Op.bytesLess a.toList b.toList || a.toList == b.toList)) := by simp [binOp, Op.stringOp]
theorem exec_gtrS {op : Oper} {a : Act} (x y : Operand) (u : TypeId) (ho : op.op = .binOp .gtr 9 x y u) (p q : B) (hx : a.eval x = .string (sb p)) (hy : a.eval y = .string (sb q)) (r : Bool) (hr : ltB q p = r) (w : World) :
    (execOp a.eval op).run Tryz.prog w = .ok (.value (.bool r)) w := by
  subst hr
  unfold execOp
  simp only [ho, hx, hy]
  rw [binOp_gtrS, ByteArray.toList_eq, ByteArray.toList_eq, sb_list, sb_list, less_ltB, gtr_ltB]
  simp [go_sem, eqGuard, Result.andThen]
theorem srt_snoc (r : Rd) (a : Av) : srt (r ++ [a]) = insR a (srt r) := by unfold srt; rw [List.foldl_append]; rfl
theorem ins_at (a : Av) : ∀ (acc : Rd) (k : Nat), k ≤ acc.length → (∀ (j : Nat) b, k ≤ j → acc[j]? = some b → ltB a.1 b.1 = true) → (∀ (j : Nat) b, j < k → acc[j]? = some b → ltB a.1 b.1 = false) → insR a acc = acc.take k ++ a :: acc.drop k
  | [], k, h, _, _ => by
    have : k = 0 := by simpa using h
    subst this
    rfl
  | b :: r, 0, _, h1, _ => by
    unfold insR
    rw [if_pos (h1 0 b (Nat.le_refl _) rfl)]
    rfl
  | b :: r, k + 1, h, h1, h2 => by
    unfold insR
    rw [if_neg (by rw [h2 0 b (Nat.succ_pos _) rfl]; decide)]
    rw [ins_at a r k (by simpa using h) (fun j c hj hc => h1 (j + 1) c (by omega) (by simpa using hc)) (fun j c hj hc => h2 (j + 1) c (by omega) (by simpa using hc))]
    rfl
theorem sd_le {a : Av} {acc : Rd} (hs : Sd acc) {k : Nat} {b : Av} (hb : acc[k]? = some b) (h : ltB a.1 b.1 = false) : ∀ (j : Nat) c, j < k + 1 → acc[j]? = some c → ltB a.1 c.1 = false := by
  intro j c hj hc
  by_cases e : j = k
  · subst e
    rw [hb] at hc
    cases hc
    exact h
  · have hl : ltB b.1 c.1 = false := by
      obtain ⟨h1, rfl⟩ := List.getElem?_eq_some_iff.1 hb
      obtain ⟨h2, rfl⟩ := List.getElem?_eq_some_iff.1 hc
      exact List.pairwise_iff_getElem.1 hs j k h2 h1 (by omega)
    cases hq : ltB a.1 c.1 with
    | false => rfl
    | true =>
      exfalso
      cases hbc : ltB c.1 b.1 with
      | true => rw [ltB_trans _ _ _ hq hbc] at h; cases h
      | false =>
        have := ltB_tot _ _ hl hbc
        rw [this, hq] at h
        cases h
end Go.Proofs.YtdkkpfeiaaffhaaGreatDoor.FT
