/-
  Part 16 of the proof: ScT, ScU, ScO, ScQ.
-/
import Derived.Test.YtdkkpfeiaaffhaaGreatDoorFa05
import Derived.Test.YtdkkpfeiaaffhaaGreatDoorFa07
import Derived.Test.YtdkkpfeiaaffhaaGreatDoorFa08
import Derived.Lib.AtoiAllCases
import Derived.Test.YtdkkpfeiaaffhaaGreatDoorFa13
import Derived.Test.YtdkkpfeiaaffhaaGreatDoorFa15
import Derived.Test.YtdkkpfeiaaffhaaGreatDoorFa10
import Derived.Test.YtdkkpfeiaaffhaaGreatDoorFa04
set_option linter.unusedSimpArgs false
set_option linter.unusedVariables false
namespace Go.Proofs.YtdkkpfeiaaffhaaGreatDoor.SC
set_option maxRecDepth 100000
open Go.RowKit K Go.Proofs.YtdkkpfeiaaffhaaGreatDoor.BE Go.Proofs.YtdkkpfeiaaffhaaGreatDoor.DN

/-- What readNumber tells. -/
def NumR (v : B) (e : Ending) : Prop := ∃ n : Int, e = .returned (.tuple #[.int .i64 n, .bool (numV v).isSome]) ∧ ∀ m, numV v = some m → n = m
theorem numV_no {v : B} (h : ∀ m, Lib.atoiAll v = .ok m → ¬ (Lib.itoa m = v ∧ -999999999 ≤ m ∧ m ≤ 999999999)) : numV v = none := by
  cases hn : numV v with
  | none => rfl
  | some m =>
    obtain ⟨h1, h2⟩ := num_back hn
    exact absurd h2 (h m h1)
set_option maxHeartbeats 4000000 in
theorem readNumber_any (v : B) (hz : Sz v) (w : World) (hG : Gs w) : Calls Tryz.prog 39 #[.string (sb v)] w fun e w' => NumR v e ∧ Fr No w w' := by
  have HZ := hid hz; have HG := hid hG
  clear hz hG
  by_cases hok : ∃ m, Lib.atoiAll v = .ok m
  · obtain ⟨m, hm⟩ := hok
    obtain ⟨hb1, hb2⟩ := Lib.atoiAll_bounds hm
    have HM := hid hm; have HB := hid (show -9223372036854775808 ≤ m ∧ m ≤ 9223372036854775807 from ⟨hb1, hb2⟩)
    have HINJ : Hid (∀ k, Lib.atoiAll v = .ok k → k = m) := hid (fun k hk => by rw [hm] at hk; injection hk with hk; exact hk.symm)
    clear hm hb1 hb2
    go_enter Tryz.func39, Tryz.ntmps39
    go_wp2_with fail
    refine (atoi_ok v HZ.out m HM.out w).mono ?_
    rintro e w1 ⟨rfl, f1⟩
    have HF1 := hid f1
    clear f1
    go_wp2_with fail
    refine (itoa_any m HB.out.1 HB.out.2 w1 (HG.out.no HF1.out)).mono ?_
    rintro e w2 ⟨rfl, f2⟩
    have HF2 := hid (HF1.out.trans' f2)
    clear f2
    obtain ⟨P, hP⟩ : ∃ P, decide (Lib.itoa m = v) = P := ⟨_, rfl⟩
    have HP := hid hP
    clear hP
    cases P with
    | false =>
      have hn : numV v = none := numV_no (fun k hk h => by rw [HINJ.out k hk] at h; exact of_decide_eq_false HP.out h.1)
      have HN := hid hn
      clear hn
      go_wp2_with (first
        | ((with_reducible refine K.atO (.binOp .eql 9 _ _ _) ?_); refine wpL_valZ rfl (.bool false) (by rw [← HP.out]; exact exec_eqS _ _ _ rfl (Lib.itoa m) v rfl rfl w2) ?_)
        | fail)
      go_ret2
      exact ⟨⟨m, by rw [HN.out]; rfl, fun k hk => by rw [HN.out] at hk; cases hk⟩, HF2.out⟩
    | true =>
      by_cases h1 : -999999999 ≤ m
      case neg =>
        have HN := hid (numV_no (v := v) (fun k hk h => by rw [HINJ.out k hk] at h; exact h1 h.2.1))
        have g1 : m < -999999999 := by omega
        have g1b : decide (-999999999 ≤ m) = false := decide_eq_false h1
        clear h1
        go_wp2_with (first
          | ((with_reducible refine K.atO (.binOp .eql 9 _ _ _) ?_); refine wpL_valZ rfl (.bool true) (by rw [← HP.out]; exact exec_eqS _ _ _ rfl (Lib.itoa m) v rfl rfl w2) ?_)
          | fail)
        go_ret2
        exact ⟨⟨m, by rw [HN.out]; rfl, fun k hk => by rw [HN.out] at hk; cases hk⟩, HF2.out⟩
      by_cases h2 : m ≤ 999999999
      case neg =>
        have HN := hid (numV_no (v := v) (fun k hk h => by rw [HINJ.out k hk] at h; exact h2 h.2.2))
        have g1b : decide (-999999999 ≤ m) = true := decide_eq_true h1
        have g2b : decide (m ≤ 999999999) = false := decide_eq_false h2
        clear h2
        go_wp2_with (first
          | ((with_reducible refine K.atO (.binOp .eql 9 _ _ _) ?_); refine wpL_valZ rfl (.bool true) (by rw [← HP.out]; exact exec_eqS _ _ _ rfl (Lib.itoa m) v rfl rfl w2) ?_)
          | fail)
        go_ret2
        exact ⟨⟨m, by rw [HN.out]; rfl, fun k hk => by rw [HN.out] at hk; cases hk⟩, HF2.out⟩
      have HN := hid (num_ok HM.out (of_decide_eq_true HP.out) h1 h2)
      have g1b : decide (-999999999 ≤ m) = true := decide_eq_true h1
      have g2b : decide (m ≤ 999999999) = true := decide_eq_true h2
      go_wp2_with (first
        | ((with_reducible refine K.atO (.binOp .eql 9 _ _ _) ?_); refine wpL_valZ rfl (.bool true) (by rw [← HP.out]; exact exec_eqS _ _ _ rfl (Lib.itoa m) v rfl rfl w2) ?_)
        | fail)
      go_ret2
      exact ⟨⟨m, by rw [HN.out]; rfl, fun k hk => by rw [HN.out] at hk; cases hk; rfl⟩, HF2.out⟩
  · have HN := hid (numV_no (v := v) (fun m hm => absurd ⟨m, hm⟩ hok))
    have HB := hid (atoi_bad v HZ.out (fun m hm => hok ⟨m, hm⟩) w HG.out)
    clear hok
    go_enter Tryz.func39, Tryz.ntmps39
    go_wp2_with fail
    refine HB.out.mono ?_
    rintro e w1 ⟨⟨m, t, u, rfl⟩, f1⟩
    have HF1 := hid f1
    clear f1 HB
    go_wp2_with fail
    go_ret2
    exact ⟨⟨m, by rw [HN.out]; rfl, fun k hk => by rw [HN.out] at hk; cases hk⟩, HF1.out⟩
/-- What normOf and normTruth tell. -/
def NrmR (o : Option B) (e : Ending) : Prop := ∃ x : B, e = .returned (.tuple #[.string (sb x), .bool o.isSome]) ∧ Sz x ∧ ∀ y, o = some y → x = y
set_option maxHeartbeats 4000000 in
theorem normTruth_any (v : B) (hz : Sz v) (w : World) : Calls Tryz.prog 69 #[.string (sb v)] w fun e w' => NrmR (truth v) e ∧ Fr No w w' := by
  have HZ := hid hz
  clear hz
  go_enter Tryz.func69, Tryz.ntmps69
  go_wp2_with fail
  refine (slower_any v HZ.out w).mono ?_
  rintro e w1 ⟨rfl, f1⟩
  have HF1 := hid f1
  clear f1
  obtain ⟨P, hP⟩ : ∃ P, decide (low v = tTrue) = P := ⟨_, rfl⟩
  obtain ⟨P2, hP2⟩ : ∃ P, decide (low v = tFalse) = P := ⟨_, rfl⟩
  have HP := hid hP; have HP2 := hid hP2
  clear hP hP2
  cases P with
  | true =>
    have HN : Hid (truth v = some [84, 82, 85, 69]) := hid (by unfold truth; rw [if_pos (of_decide_eq_true HP.out)])
    go_wp2_with (first
      | ((with_reducible refine K.atO (.binOp .eql 9 _ _ _) ?_); refine wpL_valZ rfl (.bool true) (by rw [← HP.out]; exact exec_eqS _ _ _ rfl (low v) tTrue rfl rfl w1) ?_)
      | fail)
    go_ret2
    exact ⟨⟨[84, 82, 85, 69], by rw [HN.out]; rfl, by unfold Sz; decide, fun k hk => by rw [HN.out] at hk; cases hk; rfl⟩, HF1.out⟩
  | false =>
    cases P2 with
    | true =>
      have HN : Hid (truth v = some [70, 65, 76, 83, 69]) := hid (by unfold truth; rw [if_neg (of_decide_eq_false HP.out), if_pos (of_decide_eq_true HP2.out)])
      go_wp2_with (first
        | ((with_reducible refine K.atO (.binOp .eql 9 _ _ _) ?_); (fail_if_success (have := HQ1)); refine wpL_valZ rfl (.bool false) (by rw [← HP.out]; exact exec_eqS _ _ _ rfl (low v) tTrue rfl rfl w1) ?_; have HQ1 := HP)
        | ((with_reducible refine K.atO (.binOp .eql 9 _ _ _) ?_); refine wpL_valZ rfl (.bool true) (by rw [← HP2.out]; exact exec_eqS _ _ _ rfl (low v) tFalse rfl rfl w1) ?_)
        | fail)
      go_ret2
      exact ⟨⟨[70, 65, 76, 83, 69], by rw [HN.out]; rfl, by unfold Sz; decide, fun k hk => by rw [HN.out] at hk; cases hk; rfl⟩, HF1.out⟩
    | false =>
      have HN : Hid (truth v = none) := hid (by unfold truth; rw [if_neg (of_decide_eq_false HP.out), if_neg (of_decide_eq_false HP2.out)])
      go_wp2_with (first
        | ((with_reducible refine K.atO (.binOp .eql 9 _ _ _) ?_); (fail_if_success (have := HQ1)); refine wpL_valZ rfl (.bool false) (by rw [← HP.out]; exact exec_eqS _ _ _ rfl (low v) tTrue rfl rfl w1) ?_; have HQ1 := HP)
        | ((with_reducible refine K.atO (.binOp .eql 9 _ _ _) ?_); refine wpL_valZ rfl (.bool false) (by rw [← HP2.out]; exact exec_eqS _ _ _ rfl (low v) tFalse rfl rfl w1) ?_)
        | fail)
      go_ret2
      exact ⟨⟨[], by rw [HN.out]; rfl, by unfold Sz; decide, fun k hk => by rw [HN.out] at hk; cases hk⟩, HF1.out⟩
/-! ### normOf -/
theorem parse_all (s : B) : NmB 1048576 (parse s).1 ∧ Short (parse s).1 ∧ (parse s).1.length ≤ 16 ∧ ∀ r ∈ (parse s).1, r.length ≤ 4 := by
  by_cases h : (parse s).2 = 0
  · exact parse_b (s := s) (x := (parse s).1) (by rw [← h])
  · have : (parse s).1 = [] := by
      unfold parse at h ⊢
      split
      · rfl
      · rename_i h4
        rw [if_neg h4] at h
        split
        · rfl
        · rename_i n hr
          rw [hr] at h
          simp only at h
          split
          · rename_i hb
            rw [if_pos hb] at h
            exact absurd rfl h
          · rfl
    rw [this]
    exact ⟨⟨by simp, fun r hr => by cases hr⟩, (fun r hr => by cases hr), by simp, fun r hr => by cases hr⟩
theorem key_sz (s : B) : Sz (key (parse s).1) := by
  obtain ⟨h1, -, h3, h4⟩ := parse_all s
  have hn := norm_b h1
  have hl : (norm (parse s).1).length ≤ 16 := by rw [norm_length]; exact h3
  have h5 : ∀ r ∈ (norm (parse s).1).reverse, (DN.stepT r).length ≤ 16777224 := fun r hr => by
    have hr := List.mem_reverse.1 hr
    refine stepT_le (hn.2 r hr) ?_
    obtain ⟨q, hq, rfl⟩ := List.mem_map.1 hr
    rw [normR_len]
    exact h4 q hq
  have := keyL_len h5
  have h6 : (norm (parse s).1).reverse.length ≤ 16 := by rw [List.length_reverse]; exact hl
  have h7 := Nat.mul_le_mul_right (16777224 + 1) h6
  rw [key_eq]
  unfold Sz
  omega
set_option maxHeartbeats 8000000 in
theorem normOf_any (k : Int) (v : B) (hz : Sz v) (w : World) (hG : Gs w) : Calls Tryz.prog 36 #[.int .i64 k, .string (sb v)] w fun e w' => NrmR (normV k v) e ∧ Fr No w w' := by
  have HZ := hid hz; have HG := hid hG
  obtain ⟨n, hn⟩ : ∃ n, v.length = n := ⟨_, rfl⟩
  have HN := hid hn
  obtain ⟨V, hV⟩ : ∃ V, sb v = V := ⟨_, rfl⟩
  have HV := hid hV
  have hVs : V.size = n := by rw [← hV, sb_size, hn]
  have HVS := hid hVs
  rw [hV]
  unfold Sz at hz
  rw [hn] at hz
  have hni : (n : Int) ≤ 140737488351232 := by omega
  clear hG hn hV hVs hz
  by_cases hl : 200 < n
  · have HR : Hid (normV k v = none) := hid (by unfold normV; rw [if_pos (by rw [HN.out]; exact hl)])
    have hli : (200 : Int) < (V.size : Int) := by rw [HVS.out]; omega
    clear hl
    go_enter Tryz.func36, Tryz.ntmps36
    go_wp2_with fail
    go_ret2
    exact ⟨⟨[], by rw [HR.out]; rfl, by unfold Sz; decide, fun y hy => by rw [HR.out] at hy; cases hy⟩, Fr.refl _ _⟩
  have HL := hid hl
  have hli : decide ((200 : Int) < (V.size : Int)) = false := decide_eq_false (by rw [HVS.out]; omega)
  clear hl
  by_cases h1 : k = 1
  · subst h1
    have HR : Hid (normV 1 v = if fold v = [] then none else some (fold v)) := hid (by unfold normV; rw [if_neg (by rw [HN.out]; exact HL.out), if_pos rfl])
    have HF : Hid (∀ w', Calls Tryz.prog 59 #[.string V] w' fun e w'' => e = .returned (.string (sb (fold v))) ∧ Fr No w' w'') := hid (fun w' => by rw [← HV.out]; exact fold_any v (by have := HL.out; have := HN.out; omega) w')
    go_enter Tryz.func36, Tryz.ntmps36
    go_wp2_with fail
    refine (HF.out _).mono ?_
    rintro e w1 ⟨rfl, f1⟩
    have HF1 := hid f1
    clear f1
    obtain ⟨P, hP⟩ : ∃ P, decide (fold v = []) = P := ⟨_, rfl⟩
    have HP := hid hP
    clear hP
    go_wp2_with (first
      | ((with_reducible refine K.atO (.binOp .neq 9 _ _ _) ?_); refine wpL_valZ rfl (.bool (!P)) (by rw [← HP.out]; exact exec_neS _ _ _ rfl (fold v) [] rfl rfl w1) ?_)
      | fail)
    go_ret2
    refine ⟨⟨fold v, ?_, by unfold Sz; have := fold_len v; have := HL.out; have := HN.out; omega, fun y hy => ?_⟩, HF1.out⟩
    · rw [HR.out]
      cases P with
      | true => rw [if_pos (of_decide_eq_true HP.out)]; rfl
      | false => rw [if_neg (of_decide_eq_false HP.out)]; rfl
    · rw [HR.out] at hy
      split at hy
      · cases hy
      · cases hy; rfl
  have g1 : (k == 1) = false := by rw [beq_eq_false_iff_ne]; exact h1
  by_cases h2 : k = 2
  · subst h2
    have HR : Hid (normV 2 v = some v) := hid (by unfold normV; rw [if_neg (by rw [HN.out]; exact HL.out), if_neg (by decide), if_pos rfl])
    clear h1
    go_enter Tryz.func36, Tryz.ntmps36
    go_wp2_with fail
    go_ret2
    exact ⟨⟨v, by rw [HR.out, HV.out]; rfl, HZ.out, fun y hy => by rw [HR.out] at hy; cases hy; rfl⟩, Fr.refl _ _⟩
  have g2 : (k == 2) = false := by rw [beq_eq_false_iff_ne]; exact h2
  by_cases h3 : k = 3
  · subst h3
    have HR : Hid (normV 3 v = (numV v).map fun _ => v) := hid (by unfold normV; rw [if_neg (by rw [HN.out]; exact HL.out), if_neg (by decide), if_neg (by decide), if_pos rfl])
    have HF := hid (readNumber_any v HZ.out w HG.out)
    rw [HV.out] at HF
    clear h1 h2
    go_enter Tryz.func36, Tryz.ntmps36
    go_wp2_with fail
    refine HF.out.mono ?_
    rintro e w1 ⟨⟨m, rfl, -⟩, f1⟩
    have HF1 := hid f1
    clear f1 HF
    go_wp2_with fail
    go_ret2
    refine ⟨⟨v, ?_, HZ.out, fun y hy => ?_⟩, HF1.out⟩
    · rw [HR.out, HV.out, Option.isSome_map]; rfl
    · rw [HR.out] at hy
      cases hn : numV v with
      | none => rw [hn] at hy; cases hy
      | some m => rw [hn] at hy; cases hy; rfl
  have g3 : (k == 3) = false := by rw [beq_eq_false_iff_ne]; exact h3
  by_cases h4 : k = 4
  · subst h4
    have HR : Hid (normV 4 v = if (parse v).2 = 0 then some (key (parse v).1) else none) := hid (by unfold normV; rw [if_neg (by rw [HN.out]; exact HL.out), if_neg (by decide), if_neg (by decide), if_neg (by decide), if_pos rfl])
    have HF := hid (parse_any v w HG.out.1)
    rw [HV.out] at HF
    have HK := hid (fun u w' (h : NmIn (fun k => w.heap.size ≤ k) w' u (parse v).1) => key_any _ u (parse v).1 w' h (parse_all v).1 (parse_all v).2.1 (parse_all v).2.2.1 (parse_all v).2.2.2)
    clear h1 h2 h3
    go_enter Tryz.func36, Tryz.ntmps36
    go_wp2_with fail
    refine HF.out.mono ?_
    rintro e w1 ⟨u, rfl, hu, f1⟩
    have HF1 := hid f1; have HU := hid hu
    obtain ⟨ua, uc, rfl, -, -⟩ := hu.form
    generalize (parse v).1.length = ul at HU
    clear f1 HF
    go_wp2_with fail
    refine (HK.out _ _ HU.out).mono ?_
    rintro e w2 ⟨rfl, f2⟩
    have HF2 := hid (HF1.out.trans' f2)
    clear f2
    go_wp2_with fail
    go_ret2
    refine ⟨⟨key (parse v).1, ?_, key_sz v, fun y hy => ?_⟩, HF2.out⟩
    · rw [HR.out]
      by_cases hp : (parse v).2 = 0
      · rw [if_pos hp, hp]; rfl
      · rw [if_neg hp]
        have : ((parse v).2 == 0) = false := by rw [beq_eq_false_iff_ne]; exact hp
        simp [this]
    · rw [HR.out] at hy
      split at hy
      · cases hy; rfl
      · cases hy
  have g4 : (k == 4) = false := by rw [beq_eq_false_iff_ne]; exact h4
  have HR : Hid (normV k v = truth v) := hid (by unfold normV; rw [if_neg (by rw [HN.out]; exact HL.out), if_neg h1, if_neg h2, if_neg h3, if_neg h4])
  have HF := hid (normTruth_any v HZ.out w)
  rw [HV.out] at HF
  clear h1 h2 h3 h4
  go_enter Tryz.func36, Tryz.ntmps36
  go_wp2_with fail
  refine HF.out.mono ?_
  rintro e w1 ⟨⟨x, rfl, hx, hxy⟩, f1⟩
  have HF1 := hid f1; have HX := hid (show Sz x ∧ ∀ y, truth v = some y → x = y from ⟨hx, hxy⟩)
  clear f1 HF hx hxy
  go_wp2_with fail
  go_ret2
  rw [HR.out]
  exact ⟨⟨x, rfl, HX.out.1, HX.out.2⟩, HF1.out⟩
end Go.Proofs.YtdkkpfeiaaffhaaGreatDoor.SC

namespace Go.Proofs.YtdkkpfeiaaffhaaGreatDoor.SC
set_option maxRecDepth 100000
open Go.RowKit K Go.Proofs.YtdkkpfeiaaffhaaGreatDoor.BE Go.Proofs.YtdkkpfeiaaffhaaGreatDoor.DN

theorem Mps.less {X Y : Nat → Prop} {w : World} {b : Nat} {s : Sch} {d : Int} {tm cm : Value} (h : Mps w Y b s d tm cm) (hy : ∀ k, X k → Y k) : Mps w X b s d tm cm := by
  refine h.imp id ?_
  rintro ⟨e, bt, bc, n, m, e1, e2, g1, g2, g3, g4⟩
  exact ⟨e, bt, bc, n, m, e1, e2, ⟨fun hx => g1.1 (hy _ hx), g1.2⟩, ⟨fun hx => g2.1 (hy _ hx), g2.2⟩, g3, g4⟩
theorem Sx.less {X Y : Nat → Prop} {w : World} {b : Nat} {s : Sch} (h : Sx w Y b s) (hy : ∀ k, X k → Y k) : Sx w X b s := by
  obtain ⟨vt, vc, d, tm, cm, h1, h2, h3, h4, h5, h6⟩ := h
  have hno : ∀ k, Out Y b k → k < w.heap.size → Out X b k := fun k ⟨h1, h2⟩ _ => ⟨fun hx => h1 (hy k hx), h2⟩
  exact ⟨vt, vc, d, tm, cm, h1, fun hx => h2 (hy b hx), h3.mono hno, h4.mono hno, h5, h6.less hy⟩
theorem Sy.less {X Y : Nat → Prop} {w : World} {b : Nat} {s : Sch} (h : Sy w Y b s) (hy : ∀ k, X k → Y k) : Sy w X b s := by
  obtain ⟨vt, vc, bt, bc, n, m, h1, h2, h3, h4, h5, h6, h7, h8, h9⟩ := h
  have hno : ∀ k, Out Y b k → k < w.heap.size → Out X b k := fun k ⟨h1, h2⟩ _ => ⟨fun hx => h1 (hy k hx), h2⟩
  exact ⟨vt, vc, bt, bc, n, m, h1, fun hx => h2 (hy b hx), h3.mono hno, h4.mono hno, h5, ⟨fun hx => h6.1 (hy _ hx), h6.2⟩, ⟨fun hx => h7.1 (hy _ hx), h7.2⟩, h8, h9⟩
/-- With one block more that is not the schema's. -/
def Also (X : Nat → Prop) (r : Nat) : Nat → Prop := fun k => X k ∨ k = r
theorem also_lt {X : Nat → Prop} {r n m : Nat} (hX : ∀ k, X k → k < n) (hr : r < m) (h : n ≤ m) : ∀ k, Also X r k → k < m := fun k hk => hk.elim (fun e => Nat.lt_of_lt_of_le (hX k e) h) (fun e => by omega)
theorem Sx.also {X : Nat → Prop} {w : World} {b r : Nat} {s : Sch} (h : Sx w X b s) (hr : w.heap.size ≤ r) : Sx w (Also X r) b s := h.more fun k hk => hk.imp id fun e => by omega
theorem Sy.also {X : Nat → Prop} {w : World} {b r : Nat} {s : Sch} (h : Sy w X b s) (hr : w.heap.size ≤ r) : Sx w (Also X r) b s := h.sx.also hr
theorem Sy.back {X : Nat → Prop} {w : World} {b r : Nat} {s : Sch} (h : Sy w (Also X r) b s) : Sy w X b s := h.less fun _ hk => .inl hk
theorem Sy.set {X : Nat → Prop} {w w' : World} {b r : Nat} {s : Sch} (h : Sy w (Also X r) b s) (hf : Fr (fun k => k = r) w w') : Sy w' (Also X r) b s := h.fr hf fun k hk => .inl (.inr hk)
theorem Sy.no {X : Nat → Prop} {w w' : World} {b : Nat} {s : Sch} (h : Sy w X b s) (hf : Fr No w w') : Sy w' X b s := h.fr hf fun _ e => e.elim
theorem Sy.nx {X : Nat → Prop} {w : World} {b : Nat} {s : Sch} (h : Sy w X b s) : ¬ X b := h.sx.nx
def ty0 : Ty := ⟨[], 0, false, false, false, false⟩
def tyOf (s : Sch) (n : B) : Ty := ((s.tyAt n).bind fun i => s.tys[i]?).getD ty0
theorem atR_some (i : Nat) : atR (some i) = .tuple #[.int .i64 (i : Int), .bool true] := rfl
theorem atR_none : atR none = .tuple #[.int .i64 0, .bool false] := rfl
set_option maxHeartbeats 8000000 in
theorem type_any (X : Nat → Prop) (b : Nat) (s : Sch) (n : B) (w : World) (h : Sx w X b s) (hX : ∀ k, X k → k < w.heap.size) (hz : Sz n) :
    Calls Tryz.prog 31 #[.pointer (some ⟨b, 0, none⟩), .string (sb n)] w fun e w' => e = .returned (.tuple #[.agg (tyV (tyOf s n)).toArray, .bool (s.tyAt n).isSome]) ∧ Sy w' X b s ∧ Fr (fun k => k = b) w w' := by
  obtain ⟨r, hr⟩ : ∃ r, w.heap.size = r := ⟨_, rfl⟩
  have HX := hid (h.also (r := r) (by omega)); have HXB := hid hX; have HZ := hid hz; have HR := hid hr
  have HBR : Hid (b < r) := hid (by have := h.lt; omega)
  clear h hX hz hr
  go_enter Tryz.func31, Tryz.ntmps31
  go_wp2_with (first
    | ((with_reducible refine K.atO (.alloc 62) ?_); refine wpL_alloc rfl _ rfl _ zeroTy _ rfl ?_; intro w1 HB1 HF1 HS1)
    | fail)
  rw [HR.out] at HB1 ⊢
  refine (typeAt_any (Also X r) b s n w1 (HX.out.no HF1.out) (also_lt HXB.out (by have := HS1.out; have := HR.out; omega) (by have := HS1.out; omega)) HZ.out).mono ?_
  rintro e w2 ⟨rfl, hs2, f2⟩
  have HS2 := hid hs2
  have HB2 := hid (HB1.out.fr f2 (by show ¬ r = b; have := HBR.out; omega))
  have HF2 : Hid (Fr (fun k => k = b) w w2) := hid (HF1.out.no.trans' f2)
  clear f2 HB1 HF1 HS1
  cases hat : s.tyAt n with
  | none =>
    have hty : tyOf s n = ty0 := by unfold tyOf; rw [hat]; rfl
    rw [atR_none]
    have HTY := hid hty; have HAT := hid hat
    clear hat hty hs2
    go_wp2_with (first
      | ((with_reducible refine K.atO (.build 62 _) ?_); refine wpL_valZ rfl (.agg (tyV ty0).toArray) (by kernel_rfl) ?_)
      | ((with_reducible refine K.atO (.store 62 _ _) ?_); refine wpL_store rfl _ _ _ rfl r 0 (tyV ty0) rfl rfl 62 _ HB2.out (by simp [tyV]) infoTy (oneTy ty0) ?_; intro w3 HB3 HF3 HS3)
      | fail)
    have HB3' : Hid (Blk w3 r 62 (tyV ty0)) := hid HB3.out
    refine ret_cell2 rfl _ rfl HB3'.out rfl rfl infoTy rfl ?_
    exact ⟨by rw [HTY.out, HAT.out]; rfl, (HS2.out.set HF3.out).back, HF2.out.trans HF3.out (fun k e => .inr (by have e : k = r := e; have := HR.out; omega))⟩
  | some i =>
    have hil : i < s.tys.length := by have := fnd_lt hat; unfold Sch.tn at this; rwa [List.length_map] at this
    obtain ⟨t, ht⟩ : ∃ t, s.tys[i]? = some t := ⟨_, List.getElem?_eq_getElem hil⟩
    have hty : tyOf s n = t := by unfold tyOf; rw [hat]; simp [ht]
    rw [atR_some]
    have HTY := hid hty; have HAT := hid hat
    obtain ⟨vt, vc, bt, bc, n1, m1, hB, -, htv, -, -, -, -, -, -⟩ := hs2
    obtain ⟨g, o, cq, cs, e1, -, -, hrr, -, hp⟩ := htv.get ht
    subst e1
    obtain ⟨rfl, -⟩ := hp
    have HRR := hid hrr
    have d0 : w2.cell? ⟨b, 0, none⟩ = some (.slice (some ⟨g, o, none⟩) s.tys.length cq) := hB.cell 0
    obtain ⟨L, hL⟩ : ∃ L, s.tys.length = L := ⟨_, rfl⟩
    rw [hL] at hil d0
    have hii : (i : Int) < (L : Int) := by omega
    have hi0 : (0 : Int) ≤ i := by omega
    clear hat hty hB htv hrr ht hL hil
    go_wp2_with (first
      | ((with_reducible refine K.atO (.load 62 _) ?_); refine wpL_load rfl _ _ rfl g (o + i * 6) rfl (tyV t) _ HRR.out rfl rfl infoTy ?_)
      | ((with_reducible refine K.atO (.store 62 _ _) ?_); refine wpL_store rfl _ _ _ rfl r 0 (tyV t) rfl rfl 62 _ HB2.out (by simp [tyV]) infoTy (oneTy t) ?_; intro w3 HB3 HF3 HS3)
      | fail)
    have HB3' : Hid (Blk w3 r 62 (tyV t)) := hid HB3.out
    refine ret_cell2 rfl _ rfl HB3'.out rfl rfl infoTy rfl ?_
    exact ⟨by rw [HTY.out, HAT.out]; rfl, (HS2.out.set HF3.out).back, HF2.out.trans HF3.out (fun k e => .inr (by have e : k = r := e; have := HR.out; omega))⟩
/-! ### Norm -/
theorem tyAt_tys {s : Sch} {n : B} {i : Nat} (h : s.tyAt n = some i) : s.tys[i]? = some (tyOf s n) := by
  have hil : i < s.tys.length := by have := fnd_lt h; unfold Sch.tn at this; rwa [List.length_map] at this
  unfold tyOf
  rw [h]
  simp [hil]
theorem normE_none {s : Sch} {n v : B} (h : s.tyAt n = none) : normE s n v = ([], 131) := by
  unfold normE
  rw [h]
  rfl
theorem normE_some {s : Sch} {n v : B} {i : Nat} (h : s.tyAt n = some i) : normE s n v = match normV (tyOf s n).syn v with | none => ([], 132) | some x => (x, 0) := by
  unfold normE
  rw [h, Option.bind_some, tyAt_tys h]
  rfl
theorem synOf_ty (s : Sch) (n : B) (i : Nat) (h : s.tyAt n = some i) : synOf s n = (tyOf s n).syn := by
  unfold synOf
  rw [h, Option.bind_some, tyAt_tys h]
  rfl
theorem Sy.bb {X : Nat → Prop} {w w' : World} {b : Nat} {s : Sch} (h : Sy w' X b s) (hG : Gs w) (hf : Fr (fun k => k = b) w w') (hx : GX X) : Gs w' := hG.bb hf hx h.nx
set_option maxHeartbeats 8000000 in
theorem norm_any (X : Nat → Prop) (b : Nat) (s : Sch) (n v : B) (w : World) (h : Sx w X b s) (hX : ∀ k, X k → k < w.heap.size) (hx : GX X) (hG : Gs w) (hn : Sz n) (hv : Sz v) :
    Calls Tryz.prog 13 #[.pointer (some ⟨b, 0, none⟩), .string (sb n), .string (sb v)] w fun e w' => e = .returned (.tuple #[.string (sb (normE s n v).1), .int .i64 (normE s n v).2]) ∧ Sy w' X b s ∧ Fr (fun k => k = b) w w' := by
  have HT := hid (type_any X b s n w h hX hn)
  have HG := hid hG; have HX := hid hx; have HV := hid hv
  clear h hX hx hG hn hv
  go_enter Tryz.func13, Tryz.ntmps13
  go_wp2_with fail
  refine HT.out.mono ?_
  rintro e w1 ⟨rfl, hs1, f1⟩
  have HS1 := hid hs1; have HF1 := hid f1
  have HG1 := hid (hs1.bb HG.out f1 HX.out)
  clear hs1 f1 HT
  cases hat : s.tyAt n with
  | none =>
    have HR := hid (normE_none (v := v) hat)
    have e1 : (none : Option Nat).isSome = false := rfl
    rw [e1]
    clear hat e1
    go_wp2_with (first
      | ((with_reducible refine K.atO (.alloc 62) ?_); refine wpL_alloc rfl _ rfl _ zeroTy _ rfl ?_; intro w2 HB2 HF2 HS2)
      | ((with_reducible refine K.atO (.store 62 _ _) ?_); refine wpL_store rfl _ _ _ rfl w1.heap.size 0 (tyV (tyOf s n)) rfl rfl 62 _ HB2.out (by simp [tyV]) infoTy (oneTy _) ?_; intro w3 HB3 HF3 HS3)
      | fail)
    go_ret2
    have hf3 : Fr No w1 w3 := HF2.out.trans HF3.out (fun k e => .inr (by have e : k = w1.heap.size := e; omega))
    exact ⟨by rw [HR.out]; rfl, HS1.out.no hf3, HF1.out.trans' hf3.no⟩
  | some i =>
    have HR := hid (normE_some (v := v) hat)
    have e1 : (some i).isSome = true := rfl
    rw [e1]
    clear hat e1
    go_wp2_with (first
      | ((with_reducible refine K.atO (.alloc 62) ?_); refine wpL_alloc rfl _ rfl _ zeroTy _ rfl ?_; intro w2 HB2 HF2 HS2)
      | ((with_reducible refine K.atO (.store 62 _ _) ?_); refine wpL_store rfl _ _ _ rfl w1.heap.size 0 (tyV (tyOf s n)) rfl rfl 62 _ HB2.out (by simp [tyV]) infoTy (oneTy _) ?_; intro w3 HB3 HF3 HS3; refine Hid.out ?_)
      | fail)
    have HF3' : Hid (Fr No w1 w3) := hid (HF2.out.trans HF3.out (fun k e => .inr (by have e : k = w1.heap.size := e; omega)))
    have HB3' : Hid (Blk w3 w1.heap.size 62 (tyV (tyOf s n))) := hid HB3.out
    obtain ⟨r, hr⟩ : ∃ r, w1.heap.size = r := ⟨_, rfl⟩
    rw [hr] at HB3' ⊢
    have c1 : w3.cell? ⟨r, 1, none⟩ = some (.int .i64 (tyOf s n).syn) := HB3'.out.cell 1
    clear hr HB2 HF2 HS2 HB3 HF3 HS3
    refine hid ?_
    go_wp2_with fail
    refine (normOf_any (tyOf s n).syn v HV.out w3 (HG1.out.no HF3'.out)).mono ?_
    rintro e w4 ⟨⟨x, rfl, -, hxy⟩, f4⟩
    have HF4 := hid (HF3'.out.trans' f4); have HXY := hid hxy
    clear f4 hxy c1
    cases hnv : normV (tyOf s n).syn v with
    | none =>
      have HNV := hid hnv
      have e1 : (none : Option B).isSome = false := rfl
      rw [e1]
      clear hnv e1
      go_wp2_with fail
      go_ret2
      exact ⟨by rw [HR.out, HNV.out]; rfl, HS1.out.no HF4.out, HF1.out.trans' HF4.out.no⟩
    | some y =>
      have HNV := hid hnv
      have e1 : (some y).isSome = true := rfl
      rw [e1]
      clear hnv e1
      go_wp2_with fail
      go_ret2
      exact ⟨by rw [HR.out, HNV.out, HXY.out y HNV.out]; rfl, HS1.out.no HF4.out, HF1.out.trans' HF4.out.no⟩
/-! ### Compare -/
theorem cmpC_any (m n : Int) (w : World) : Calls Tryz.prog 40 #[.int .i64 m, .int .i64 n] w fun e w' => e = .returned (.int .i64 (sgn m n)) ∧ w' = w := by
  have hnan : ∀ (k : Int) (w : World), Calls Tryz.prog 76 #[.int .i64 k] w fun e w' => e = .returned (.bool false) ∧ w' = w := fun k w => by
    go_enter Tryz.func76, Tryz.ntmps76
    go_wp2
    go_ret
    exact ⟨rfl, rfl⟩
  have HN := hid hnan
  clear hnan
  rcases Int.lt_trichotomy m n with h | h | h
  · have HR : Hid (sgn m n = -1) := hid (by unfold sgn; rw [if_pos h])
    go_enter Tryz.func40, Tryz.ntmps40
    go_wp2_with fail
    refine (HN.out m w).mono ?_
    rintro e w1 ⟨rfl, rfl⟩
    go_wp2_with fail
    refine (HN.out n w1).mono ?_
    rintro e w2 ⟨rfl, rfl⟩
    go_wp2_with fail
    go_ret
    exact ⟨by rw [HR.out]; rfl, rfl⟩
  · have HR : Hid (sgn m n = 0) := hid (by unfold sgn; rw [if_neg (by omega), if_neg (by omega)])
    have h1 : decide (m < n) = false := decide_eq_false (by omega)
    have h2 : decide (n < m) = false := decide_eq_false (by omega)
    clear h
    go_enter Tryz.func40, Tryz.ntmps40
    go_wp2_with fail
    refine (HN.out m w).mono ?_
    rintro e w1 ⟨rfl, rfl⟩
    go_wp2_with fail
    refine (HN.out n w1).mono ?_
    rintro e w2 ⟨rfl, rfl⟩
    go_wp2_with fail
    go_ret
    exact ⟨by rw [HR.out]; rfl, rfl⟩
  · have HR : Hid (sgn m n = 1) := hid (by unfold sgn; rw [if_neg (by omega), if_pos h])
    have h1 : decide (m < n) = false := decide_eq_false (by omega)
    go_enter Tryz.func40, Tryz.ntmps40
    go_wp2_with fail
    refine (HN.out m w).mono ?_
    rintro e w1 ⟨rfl, rfl⟩
    go_wp2_with fail
    refine (HN.out n w1).mono ?_
    rintro e w2 ⟨rfl, rfl⟩
    go_wp2_with fail
    go_ret
    exact ⟨by rw [HR.out]; rfl, rfl⟩
theorem normE_sz {s : Sch} {n v : B} (hv : Sz v) : Sz (normE s n v).1 := by
  have h0 : Sz ([] : B) := by unfold Sz; decide
  cases hat : s.tyAt n with
  | none => rw [normE_none hat]; exact h0
  | some i =>
    rw [normE_some hat]
    cases hn : normV (tyOf s n).syn v with
    | none => exact h0
    | some x =>
      show Sz x
      unfold normV at hn
      split at hn
      · cases hn
      · split at hn
        · split at hn
          · cases hn
          · cases hn
            have := fold_len v
            unfold Sz at *
            omega
        · split at hn
          · cases hn; exact hv
          · split at hn
            · cases hq : numV v with
              | none => rw [hq] at hn; cases hn
              | some m => rw [hq] at hn; cases hn; exact hv
            · split at hn
              · split at hn
                · cases hn; exact key_sz v
                · cases hn
              · unfold truth at hn
                split at hn
                · cases hn; unfold Sz; decide
                · split at hn
                  · cases hn; unfold Sz; decide
                  · cases hn
/-- A norm of a number is a number. -/
theorem norm_num {s : Sch} {n v : B} {i : Nat} (h : s.tyAt n = some i) (h3 : (tyOf s n).syn = 3) (h0 : (normE s n v).2 = 0) : ∃ m, numV (normE s n v).1 = some m := by
  rw [normE_some h] at h0 ⊢
  rw [h3] at h0 ⊢
  cases hn : normV 3 v with
  | none => rw [hn] at h0; cases h0
  | some x =>
    unfold normV at hn
    split at hn
    · cases hn
    · rw [if_neg (by decide), if_neg (by decide), if_pos rfl] at hn
      cases hq : numV v with
      | none => rw [hq] at hn; cases hn
      | some m =>
        rw [hq] at hn
        cases hn
        exact ⟨m, hq⟩
theorem normE_at {s : Sch} {n v : B} (h0 : (normE s n v).2 = 0) : ∃ i, s.tyAt n = some i := by
  cases hat : s.tyAt n with
  | none => rw [normE_none hat] at h0; cases h0
  | some i => exact ⟨i, rfl⟩
set_option maxHeartbeats 8000000 in
theorem cmp_any (X : Nat → Prop) (b : Nat) (s : Sch) (n x y : B) (w : World) (h : Sx w X b s) (hX : ∀ k, X k → k < w.heap.size) (hx : GX X) (hG : Gs w) (hn : Sz n) (hzx : Sz x) (hzy : Sz y) :
    Calls Tryz.prog 15 #[.pointer (some ⟨b, 0, none⟩), .string (sb n), .string (sb x), .string (sb y)] w fun e w' => e = .returned (.tuple #[.int .i64 (cmpE s n x y).1, .int .i64 (cmpE s n x y).2]) ∧ Sy w' X b s ∧ Fr (fun k => k = b) w w' := by
  have H1 := hid (norm_any X b s n x w h hX hx hG hn hzx)
  have HG := hid hG; have HX := hid hx; have HXB := hid hX; have HN := hid hn; have HZY := hid hzy
  have HSZ := hid (show Sz (normE s n x).1 ∧ Sz (normE s n y).1 from ⟨normE_sz hzx, normE_sz hzy⟩)
  obtain ⟨E1, hE1⟩ : ∃ E1, (normE s n x).2 = E1 := ⟨_, rfl⟩
  obtain ⟨E2, hE2⟩ : ∃ E2, (normE s n y).2 = E2 := ⟨_, rfl⟩
  have HE1 := hid hE1; have HE2 := hid hE2
  rw [hE1] at H1
  clear h hX hx hG hn hzx hzy hE1 hE2
  go_enter Tryz.func15, Tryz.ntmps15
  go_wp2_with fail
  refine H1.out.mono ?_
  rintro e w1 ⟨rfl, hs1, f1⟩
  have HS1 := hid hs1; have HF1 := hid f1
  have HG1 := hid (hs1.bb HG.out f1 HX.out)
  have HB1 := hid (fun k hk => Nat.lt_of_lt_of_le (HXB.out k hk) f1.size)
  clear hs1 f1 H1
  by_cases h1 : E1 = 0
  case neg =>
    have HR : Hid (cmpE s n x y = (0, E1)) := hid (by unfold cmpE; rw [HE1.out, if_neg h1])
    have h1b : (E1 != 0) = true := by rw [bne_iff_ne]; exact h1
    clear h1
    go_wp2_with fail
    go_ret2
    exact ⟨by rw [HR.out]; rfl, HS1.out, HF1.out⟩
  subst h1
  go_wp2_with fail
  refine (norm_any X b s n y w1 HS1.out.sx HB1.out HX.out HG1.out HN.out HZY.out).mono ?_
  rintro e w2 ⟨rfl, hs2, f2⟩
  rw [HE2.out]
  have HS2 := hid hs2; have HF2 := hid (HF1.out.trans' f2)
  have HG2 := hid (hs2.bb HG1.out f2 HX.out)
  have HB2 := hid (fun k hk => Nat.lt_of_lt_of_le (HB1.out k hk) f2.size)
  clear hs2 f2
  by_cases h2 : E2 = 0
  case neg =>
    have HR : Hid (cmpE s n x y = (0, E2)) := hid (by unfold cmpE; rw [HE1.out, if_pos rfl, HE2.out, if_neg h2])
    have h2b : (E2 != 0) = true := by rw [bne_iff_ne]; exact h2
    clear h2
    go_wp2_with fail
    go_ret2
    exact ⟨by rw [HR.out]; rfl, HS2.out, HF2.out⟩
  subst h2
  have HR : Hid (cmpE s n x y = (cmpV (synOf s n) (normE s n x).1 (normE s n y).1, 0)) := hid (by unfold cmpE; rw [HE1.out, if_pos rfl, HE2.out, if_pos rfl])
  go_wp2_with fail
  refine (type_any X b s n w2 HS2.out.sx HB2.out HN.out).mono ?_
  rintro e w3 ⟨rfl, hs3, f3⟩
  have HS3 := hid hs3; have HF3 := hid (HF2.out.trans' f3)
  have HG3 := hid (hs3.bb HG2.out f3 HX.out)
  clear hs3 f3
  obtain ⟨i, hat⟩ := normE_at HE1.out
  have HSY := hid (synOf_ty s n i hat)
  obtain ⟨T, hT⟩ : ∃ T, tyOf s n = T := ⟨_, rfl⟩
  have HT := hid hT
  rw [hT]
  have hTy : Hid (s.tyAt n = some i) := hid hat
  clear hat hT
  go_wp2_with (first
    | ((with_reducible refine K.atO (.alloc 62) ?_); refine wpL_alloc rfl _ rfl _ zeroTy _ rfl ?_; intro w4 HB4 HF4 HS4)
    | ((with_reducible refine K.atO (.store 62 _ _) ?_); refine wpL_store rfl _ _ _ rfl w3.heap.size 0 (tyV T) rfl rfl 62 _ HB4.out (by simp [tyV]) infoTy (oneTy _) ?_; intro w5 HB5 HF5 HS5; refine Hid.out ?_)
    | fail)
  have HF5' : Hid (Fr No w3 w5) := hid (HF4.out.trans HF5.out (fun k e => .inr (by have e : k = w3.heap.size := e; omega)))
  have HB5' : Hid (Blk w5 w3.heap.size 62 (tyV T)) := hid HB5.out
  obtain ⟨r, hr⟩ : ∃ r, w3.heap.size = r := ⟨_, rfl⟩
  rw [hr] at HB5' ⊢
  have c1 : w5.cell? ⟨r, 1, none⟩ = some (.int .i64 T.syn) := HB5'.out.cell 1
  obtain ⟨K, hK⟩ : ∃ K, T.syn = K := ⟨_, rfl⟩
  rw [hK] at c1
  have HK := hid hK
  clear hr HB4 HF4 HS4 HB5 HF5 HS5 hK
  refine hid ?_
  by_cases h3 : K = 3
  · have h3b : (K == 3) = true := by rw [beq_iff_eq]; exact h3
    have H3 := hid h3
    obtain ⟨m1, hm1⟩ := norm_num (v := x) hTy.out (by rw [HT.out, HK.out]; exact h3) HE1.out
    obtain ⟨m2, hm2⟩ := norm_num (v := y) hTy.out (by rw [HT.out, HK.out]; exact h3) HE2.out
    have HM1 := hid hm1; have HM2 := hid hm2
    clear h3 hm1 hm2
    go_wp2_with fail
    refine (readNumber_any (normE s n x).1 HSZ.out.1 w5 (HG3.out.no HF5'.out)).mono ?_
    rintro e w6 ⟨⟨k1, rfl, hk1⟩, f6⟩
    obtain rfl : k1 = m1 := hk1 m1 HM1.out
    have HF6 := hid (HF5'.out.trans' f6)
    clear f6 hk1 c1
    go_wp2_with fail
    refine (readNumber_any (normE s n y).1 HSZ.out.2 w6 (HG3.out.no HF6.out)).mono ?_
    rintro e w7 ⟨⟨k2, rfl, hk2⟩, f7⟩
    obtain rfl : k2 = m2 := hk2 m2 HM2.out
    have HF7 := hid (HF6.out.trans' f7)
    clear f7 hk2
    go_wp2_with fail
    refine (cmpC_any k1 k2 w7).mono ?_
    rintro e w8 ⟨rfl, rfl⟩
    go_wp2_with fail
    go_ret2
    refine ⟨?_, HS3.out.no HF7.out, HF3.out.trans' HF7.out.no⟩
    rw [HR.out, HSY.out, HT.out, HK.out, H3.out]
    unfold cmpV
    rw [if_pos rfl, HM1.out, HM2.out]
    rfl
  · have h3b : (K == 3) = false := by rw [beq_eq_false_iff_ne]; exact h3
    have H3 := hid h3
    clear h3
    go_wp2_with fail
    refine (DN.compare_any (normE s n x).1 (normE s n y).1 w5).mono ?_
    rintro e w6 ⟨rfl, rfl⟩
    go_wp2_with fail
    go_ret2
    refine ⟨?_, HS3.out.no HF5'.out, HF3.out.trans' HF5'.out.no⟩
    rw [HR.out, HSY.out, HT.out, HK.out]
    unfold cmpV
    rw [if_neg H3.out]
    rfl
end Go.Proofs.YtdkkpfeiaaffhaaGreatDoor.SC

namespace Go.Proofs.YtdkkpfeiaaffhaaGreatDoor.SC
set_option maxRecDepth 100000
open Go.Proofs.YtdkkpfeiaaffhaaGreatDoor.BE Go.Proofs.YtdkkpfeiaaffhaaGreatDoor.DN

theorem puts_iff : ∀ (l : List Nat) (f : Set) (j : Nat), puts f l j = (f j || decide (j ∈ l))
  | [], f, j => by simp [puts]
  | i :: r, f, j => by
    have := puts_iff r (put f i) j
    unfold puts at this ⊢
    rw [List.foldl_cons, this]
    simp only [put, List.mem_cons, Bool.decide_or, Bool.or_assoc]
theorem nodup_rev {l : List Nat} (h : l.Nodup) : l.reverse.Nodup := by
  unfold List.Nodup at h ⊢
  rw [List.pairwise_reverse]
  exact h.imp fun h e => h e.symm
def good (s : Sch) (a : Atr) : Prop := ∃ i t, s.tyAt a.1 = some i ∧ s.tys[i]? = some t ∧ chkVals t a.2 = 0
def pos (s : Sch) (en : Ent) : List Nat := en.filterMap fun a => s.tyAt a.1
theorem chkAts_iff (s : Sch) : ∀ (en : Ent) (f : Set), (chkAts s f en).2 = 0 ↔ (∀ a ∈ en, good s a) ∧ (pos s en).Nodup ∧ ∀ i ∈ pos s en, f i = false
  | [], f => by simp [chkAts, pos]
  | a :: r, f => by
    unfold chkAts
    cases ht : s.tyAt a.1 with
    | none =>
      simp only []
      refine iff_of_false (by decide) ?_
      rintro ⟨h, -⟩
      obtain ⟨i, t, e, -⟩ := h a List.mem_cons_self
      rw [ht] at e; cases e
    | some i =>
      simp only []
      have hpos : pos s (a :: r) = i :: pos s r := by simp [pos, ht]
      rw [hpos]
      by_cases hf : f i = true
      · rw [if_pos hf]
        refine iff_of_false (by decide) ?_
        rintro ⟨-, -, h⟩
        rw [h i List.mem_cons_self] at hf; cases hf
      · rw [if_neg hf]
        have hff : f i = false := by simpa using hf
        cases hx : s.tys[i]? with
        | none =>
          simp only []
          refine iff_of_false (by decide) ?_
          rintro ⟨h, -⟩
          obtain ⟨i', t, e, e2, -⟩ := h a List.mem_cons_self
          rw [ht] at e; cases e
          rw [hx] at e2; cases e2
        | some t =>
          simp only []
          by_cases hc : chkVals t a.2 = 0
          · rw [if_pos hc, chkAts_iff s r (put f i), List.nodup_cons]
            constructor
            · rintro ⟨h1, h2, h3⟩
              refine ⟨fun b hb => ?_, ⟨fun hm => ?_, h2⟩, fun j hj => ?_⟩
              · rcases List.mem_cons.1 hb with rfl | hb
                · exact ⟨i, t, ht, hx, hc⟩
                · exact h1 b hb
              · have := h3 i hm
                simp [put] at this
              · rcases List.mem_cons.1 hj with rfl | hj
                · exact hff
                · have := h3 j hj
                  simp only [put, Bool.or_eq_false_iff] at this
                  exact this.1
            · rintro ⟨h1, ⟨h2, h3⟩, h4⟩
              refine ⟨fun b hb => h1 b (List.mem_cons_of_mem _ hb), h3, fun j hj => ?_⟩
              have hji : j ≠ i := fun e => h2 (e ▸ hj)
              simp [put, h4 j (List.mem_cons_of_mem _ hj), hji]
          · rw [if_neg hc]
            refine iff_of_false hc ?_
            rintro ⟨h, -⟩
            obtain ⟨i', t', e, e2, e3⟩ := h a List.mem_cons_self
            rw [ht] at e; cases e
            rw [hx] at e2; cases e2
            exact hc e3
theorem chkAts_set (s : Sch) : ∀ (en : Ent) (f : Set), (chkAts s f en).2 = 0 → (chkAts s f en).1 = puts f (pos s en)
  | [], _, _ => rfl
  | a :: r, f, h => by
    obtain ⟨h1, h2, h3⟩ := (chkAts_iff s (a :: r) f).1 h
    obtain ⟨i, t, e1, e2, e3⟩ := h1 a List.mem_cons_self
    have hpos : pos s (a :: r) = i :: pos s r := by simp [pos, e1]
    have hf : f i = false := h3 i (by rw [hpos]; exact List.mem_cons_self)
    have hstep : chkAts s f (a :: r) = chkAts s (put f i) r := by
      rw [chkAts, e1]
      simp only [hf, e2, e3, Bool.false_eq_true, if_false, if_true]
    rw [hstep] at h ⊢
    rw [chkAts_set s r _ h, hpos]
    rfl
/-- Of the entry at most one attribute is of a type. -/
theorem find_mid {α : Type} (p : α → Bool) (l1 l2 : List α) (a : α) (h : p a = true) (h1 : ∀ x ∈ l1, p x = false) : (l1 ++ a :: l2).find? p = some a := by
  rw [List.find?_append]
  have : l1.find? p = none := List.find?_eq_none.2 fun x hx => by simp [h1 x hx]
  rw [this, List.find?_cons_of_pos h]
  rfl
theorem classesOf_back {s : Sch} {en : Ent} (hn : (pos s en).Nodup) : classesOf s en.reverse = classesOf s en := by
  unfold classesOf
  cases h : en.find? (fun a => decide (s.tyAt a.1 = some 0)) with
  | none =>
    rw [List.find?_eq_none] at h
    rw [List.find?_eq_none.2 fun x hx => h x (List.mem_reverse.1 hx)]
  | some a =>
    obtain ⟨hp, l1, l2, rfl, h1⟩ := List.find?_eq_some_iff_append.1 h
    have ha : s.tyAt a.1 = some 0 := by simpa using hp
    rw [List.reverse_append, List.reverse_cons, List.append_assoc, List.singleton_append]
    rw [find_mid (fun a : Atr => decide (s.tyAt a.1 = some 0)) l2.reverse l1.reverse a hp]
    intro x hx
    rw [decide_eq_false_iff_not]
    intro hx0
    have hpos : pos s (l1 ++ a :: l2) = pos s l1 ++ 0 :: pos s l2 := by simp [pos, ha]
    rw [hpos, List.nodup_append] at hn
    have h2 := (List.nodup_cons.1 hn.2.1).1
    exact h2 (List.mem_filterMap.2 ⟨x, List.mem_reverse.1 hx, hx0⟩)
theorem check_iff {s : Sch} {en : Ent} : check s en = 0 ↔ (chkAts s none_ en).2 = 0 ∧ (classesOf s en).2 = true ∧ chain s (classesOf s en).1 = true ∧ okMust s (chkAts s none_ en).1 (classesOf s en).1 = true ∧ okMayF s (chkAts s none_ en).1 (classesOf s en).1 0 s.tys = true := by
  unfold check chkTys
  by_cases h1 : (chkAts s none_ en).2 = 0
  · rw [if_pos h1]
    by_cases h2 : (classesOf s en).2 = true
    · by_cases h3 : chain s (classesOf s en).1 = true
      · rw [h2, h3, Bool.and_true, if_pos rfl]
        by_cases h4 : okMust s (chkAts s none_ en).1 (classesOf s en).1 = true
        · rw [if_pos h4]
          by_cases h5 : okMayF s (chkAts s none_ en).1 (classesOf s en).1 0 s.tys = true
          · rw [if_pos h5]; simp [h1, h4, h5]
          · rw [if_neg h5]; simp [h5]
        · rw [if_neg h4]; simp [h4]
      · simp [h3]
    · simp [h2]
  · rw [if_neg h1]; simp [h1]
theorem check_back {s : Sch} {en : Ent} (h : check s en = 0) : check s en.reverse = 0 := by
  obtain ⟨h1, h2, h3, h4, h5⟩ := check_iff.1 h
  obtain ⟨g1, g2, g3⟩ := (chkAts_iff s en none_).1 h1
  have hpr : pos s en.reverse = (pos s en).reverse := by simp [pos, List.filterMap_reverse]
  have hr : (chkAts s none_ en.reverse).2 = 0 := (chkAts_iff s en.reverse none_).2 ⟨fun a ha => g1 a (List.mem_reverse.1 ha), by rw [hpr]; exact nodup_rev g2, fun _ _ => rfl⟩
  have hs : (chkAts s none_ en.reverse).1 = (chkAts s none_ en).1 := by
    rw [chkAts_set _ _ _ hr, chkAts_set _ _ _ h1, hpr]
    funext j
    simp [puts_iff]
  rw [check_iff, hs, classesOf_back g2]
  exact ⟨hr, h2, h3, h4, h5⟩
theorem okMust_more {s : Sch} {pr pr' f : Set} (h : okMust s pr f = true) (hm : ∀ i, pr i = true → pr' i = true) : okMust s pr' f = true := by
  unfold okMust at h ⊢
  rw [List.all_eq_true] at h ⊢
  intro i hi
  have := h i hi
  cases hp : pr i with
  | true => simp [hm i hp]
  | false =>
    rw [hp] at this
    simp at this
    simp [this]
theorem okMay_more {s : Sch} {pr pr' f : Set} : ∀ (l : List Ty) (i : Nat), okMayF s pr f i l = true → (∀ j t, l[j]? = some t → pr' (i + j) = true → pr (i + j) = true ∨ t.sys = true) → okMayF s pr' f i l = true
  | [], _, _, _ => rfl
  | t :: r, i, h, hm => by
    simp only [okMayF, Bool.and_eq_true] at h ⊢
    refine ⟨?_, okMay_more r (i + 1) h.2 fun j t' hj => by
      have := hm (j + 1) t' (by simpa using hj)
      rwa [show i + (j + 1) = i + 1 + j by omega] at this⟩
    have h1 := h.1
    unfold okMay1 at h1 ⊢
    cases hp : pr' i with
    | false => simp
    | true =>
      rcases hm 0 t rfl (by simpa using hp) with h2 | h2
      · rw [Nat.add_zero] at h2
        rw [h2] at h1
        exact h1
      · simp [h2]
theorem check_more {s : Sch} {en : Ent} {n v : B} {i : Nat} {t : Ty} (h : check s en = 0) (ht : s.tyAt n = some i) (hx : s.tys[i]? = some t) (hs : t.sys = true) (hv : (normV t.syn v).isSome = true) (h0 : i ≠ 0) (hnew : ∀ a ∈ en, low a.1 ≠ low n) (hfn : ∀ m, s.tyAt m = some i → low m = low n) :
    check s (en ++ [(n, [v])]) = 0 := by
  obtain ⟨h1, h2, h3, h4, h5⟩ := check_iff.1 h
  obtain ⟨g1, g2, g3⟩ := (chkAts_iff s en none_).1 h1
  have hpa : pos s (en ++ [(n, [v])]) = pos s en ++ [i] := by simp [pos, ht]
  have hni : i ∉ pos s en := fun hm => by
    obtain ⟨a, ha, e⟩ := List.mem_filterMap.1 hm
    exact hnew a ha (hfn _ e)
  have hcv : chkVals t [v] = 0 := by
    unfold chkVals
    rw [if_neg (by simp)]
    obtain ⟨x, hx⟩ := Option.isSome_iff_exists.1 hv
    have : okVals t.syn [] [v] = true := by simp [okVals, hx]
    rw [if_pos this, if_neg (by simp)]
  have hr : (chkAts s none_ (en ++ [(n, [v])])).2 = 0 := (chkAts_iff s _ none_).2 ⟨fun a ha => by
      rcases List.mem_append.1 ha with ha | ha
      · exact g1 a ha
      · obtain rfl := List.mem_singleton.1 ha
        exact ⟨i, t, ht, hx, hcv⟩, by
      rw [hpa, List.nodup_append]
      exact ⟨g2, by simp, fun a ha b hb e => hni (by rw [List.mem_singleton] at hb; rw [← hb, ← e]; exact ha)⟩, fun _ _ => rfl⟩
  have hset : (chkAts s none_ (en ++ [(n, [v])])).1 = put (chkAts s none_ en).1 i := by
    rw [chkAts_set _ _ _ hr, chkAts_set _ _ _ h1, hpa]
    unfold puts
    rw [List.foldl_append]
    rfl
  have hcl : classesOf s (en ++ [(n, [v])]) = classesOf s en := by
    unfold classesOf
    rw [List.find?_append]
    have : List.find? (fun a : Atr => decide (s.tyAt a.1 = some 0)) [(n, [v])] = none := by
      rw [List.find?_eq_none]
      intro a ha
      obtain rfl := List.mem_singleton.1 ha
      simp [ht, h0]
    rw [this, Option.or_none]
  rw [check_iff, hset, hcl]
  refine ⟨hr, h2, h3, okMust_more h4 fun j hj => by simp [put, hj], okMay_more s.tys 0 h5 fun j t' hj hp => ?_⟩
  simp only [Nat.zero_add, put, Bool.or_eq_true, decide_eq_true_eq] at hp ⊢
  rcases hp with hp | rfl
  · exact .inl hp
  · rw [hx] at hj
    cases hj
    exact .inr hs
theorem fnd_low {L : List B} {s t : B} {i : Nat} (h : fnd L s = some i) (k : fnd L t = some i) : low s = low t := by
  unfold fnd at h k
  rw [List.findIdx?_eq_some_iff_getElem] at h k
  obtain ⟨hl, e, -⟩ := h
  obtain ⟨_, e2, -⟩ := k
  rw [beq_iff_eq] at e e2
  exact e.symm.trans e2
end Go.Proofs.YtdkkpfeiaaffhaaGreatDoor.SC

namespace Go.Proofs.YtdkkpfeiaaffhaaGreatDoor.SC
set_option maxRecDepth 100000
open Go.Proofs.YtdkkpfeiaaffhaaGreatDoor.BE Go.Proofs.YtdkkpfeiaaffhaaGreatDoor.DN

theorem cb_val : ∀ a b : B, Lib.compareBytes a b = -1 ∨ Lib.compareBytes a b = 0 ∨ Lib.compareBytes a b = 1
  | [], [] => .inr (.inl rfl)
  | [], _ :: _ => .inl rfl
  | _ :: _, [] => .inr (.inr rfl)
  | a :: r, b :: s => by
    unfold Lib.compareBytes
    split
    · exact .inl rfl
    · split
      · exact .inr (.inr rfl)
      · exact cb_val r s
theorem cb_zero : ∀ a b : B, Lib.compareBytes a b = 0 ↔ a = b
  | [], [] => by simp [Lib.compareBytes]
  | [], _ :: _ => by simp [Lib.compareBytes]
  | _ :: _, [] => by simp [Lib.compareBytes]
  | a :: r, b :: s => by
    have ih := cb_zero r s
    unfold Lib.compareBytes
    split
    · rename_i h
      refine iff_of_false (by decide) fun e => ?_
      cases e
      exact absurd h (UInt8.lt_irrefl _)
    · split
      · rename_i h
        refine iff_of_false (by decide) fun e => ?_
        cases e
        exact absurd h (UInt8.lt_irrefl _)
      · rename_i h1 h2
        have he : a = b := by
          rw [UInt8.lt_iff_toNat_lt] at h1 h2
          exact UInt8.toNat_inj.1 (by omega)
        subst he
        rw [ih]
        simp
theorem cb_neg (a b : B) : Lib.compareBytes a b = - Lib.compareBytes b a := by
  have h1 := cb_val a b; have h2 := cb_val b a
  have z1 := cb_zero a b; have z2 := cb_zero b a
  have l1 := cmp_lt a b; have l2 := cmp_lt b a
  by_cases e : a = b
  · rw [z1.2 e, z2.2 e.symm]; rfl
  · have n1 : Lib.compareBytes a b ≠ 0 := fun h => e (z1.1 h)
    have n2 : Lib.compareBytes b a ≠ 0 := fun h => e (z2.1 h).symm
    cases ha : ltB a b with
    | true =>
      have hb : ltB b a = false := by
        cases hb : ltB b a with
        | false => rfl
        | true => have := ltB_trans a b a ha hb; rw [ltB_irr] at this; cases this
      rw [ha, decide_eq_true_eq] at l1
      rw [hb, decide_eq_false_iff_not] at l2
      omega
    | false =>
      have hb : ltB b a = true := by
        cases hb : ltB b a with
        | true => rfl
        | false => exact absurd (ltB_tot a b ha hb) e
      rw [hb, decide_eq_true_eq] at l2
      rw [ha, decide_eq_false_iff_not] at l1
      omega
theorem cb_trans (a b c : B) (h1 : Lib.compareBytes a b ≤ 0) (h2 : Lib.compareBytes b c ≤ 0) : Lib.compareBytes a c ≤ 0 := by
  have v1 := cb_val a b; have v2 := cb_val b c
  by_cases e1 : a = b
  · subst e1; exact h2
  · by_cases e2 : b = c
    · subst e2; exact h1
    · have n1 : Lib.compareBytes a b ≠ 0 := fun h => e1 ((cb_zero a b).1 h)
      have n2 : Lib.compareBytes b c ≠ 0 := fun h => e2 ((cb_zero b c).1 h)
      have l1 := cmp_lt a b; have l2 := cmp_lt b c; have l3 := cmp_lt a c
      rw [decide_eq_true (show Lib.compareBytes a b < 0 by omega)] at l1
      rw [decide_eq_true (show Lib.compareBytes b c < 0 by omega)] at l2
      rw [ltB_trans a b c l1.symm l2.symm, decide_eq_true_eq] at l3
      omega
theorem cmpV_val (k : Int) (x y : B) : cmpV k x y = -1 ∨ cmpV k x y = 0 ∨ cmpV k x y = 1 := by
  unfold cmpV sgn
  split
  · split
    · exact .inl rfl
    · split
      · exact .inr (.inr rfl)
      · exact .inr (.inl rfl)
  · exact cb_val x y
theorem cmpV_self (k : Int) (x : B) : cmpV k x x = 0 := by
  unfold cmpV sgn
  split
  · rw [if_neg (by omega), if_neg (by omega)]
  · exact (cb_zero x x).2 rfl
theorem cmpV_neg (k : Int) (x y : B) : cmpV k x y = - cmpV k y x := by
  unfold cmpV sgn
  split
  · split <;> split <;> (try split) <;> omega
  · exact cb_neg x y
theorem cmpV_trans (k : Int) (x y z : B) (h1 : cmpV k x y ≤ 0) (h2 : cmpV k y z ≤ 0) : cmpV k x z ≤ 0 := by
  unfold cmpV sgn at *
  split at h1
  · rename_i hk
    rw [if_pos hk] at h2 ⊢
    split at h1
    · split at h2
      · rw [if_pos (by omega)]; decide
      · split at h2
        · omega
        · rw [if_pos (by omega)]; decide
    · split at h1
      · omega
      · split at h2
        · rw [if_pos (by omega)]; decide
        · split at h2
          · omega
          · rw [if_neg (by omega), if_neg (by omega)]; decide
  · rename_i hk
    rw [if_neg hk] at h2 ⊢
    exact cb_trans x y z h1 h2
/-- What Compare tells of norms. -/
theorem cmpE_ok {s : Sch} {n a b : B} (h : (cmpE s n a b).2 = 0) : (normE s n a).2 = 0 ∧ (normE s n b).2 = 0 := by
  unfold cmpE at h
  split at h
  · rename_i h1
    split at h
    · rename_i h2
      exact ⟨h1, h2⟩
    · rename_i h2
      exact absurd h h2
  · rename_i h1
    exact absurd h h1
theorem cmpE_of {s : Sch} {n a b : B} (h1 : (normE s n a).2 = 0) (h2 : (normE s n b).2 = 0) : cmpE s n a b = (cmpV (synOf s n) (normE s n a).1 (normE s n b).1, 0) := by
  unfold cmpE
  rw [if_pos h1, if_pos h2]
/-- The law, of data. -/
theorem order_ok {s : Sch} {n a b c : B} (f : (cmpE s n a a).2 = 0) (g : (cmpE s n a b).2 = 0) (i : (cmpE s n b c).2 = 0) :
    (cmpE s n b a).2 = 0 ∧ (cmpE s n a c).2 = 0 ∧ (cmpE s n a a).1 = 0 ∧ (cmpE s n a b).1 = -(cmpE s n b a).1 ∧ ((cmpE s n a b).1 ≤ 0 → (cmpE s n b c).1 ≤ 0 → (cmpE s n a c).1 ≤ 0) ∧ ((cmpE s n a b).1 = 0 → (cmpE s n b c).1 = 0 → (cmpE s n a c).1 = 0) := by
  obtain ⟨ha, hb⟩ := cmpE_ok g
  obtain ⟨-, hc⟩ := cmpE_ok i
  rw [cmpE_of ha ha, cmpE_of ha hb, cmpE_of hb hc, cmpE_of hb ha, cmpE_of ha hc]
  generalize (normE s n a).1 = x; generalize (normE s n b).1 = y; generalize (normE s n c).1 = z
  generalize synOf s n = k
  refine ⟨rfl, rfl, cmpV_self k x, cmpV_neg k x y, cmpV_trans k x y z, fun h1 h2 => ?_⟩
  have t1 := cmpV_trans k x y z (by show cmpV k x y ≤ 0; omega) (by show cmpV k y z ≤ 0; omega)
  have n1 := cmpV_neg k x y; have n2 := cmpV_neg k y z; have n3 := cmpV_neg k x z
  have t2 := cmpV_trans k z y x (by omega) (by omega)
  show cmpV k x z = 0
  simp only [] at h1 h2
  omega
theorem cmpE_val (s : Sch) (n a b : B) : (cmpE s n a b).1 = -1 ∨ (cmpE s n a b).1 = 0 ∨ (cmpE s n a b).1 = 1 := by
  unfold cmpE
  split
  · split
    · exact cmpV_val _ _ _
    · exact .inr (.inl rfl)
  · exact .inr (.inl rfl)
end Go.Proofs.YtdkkpfeiaaffhaaGreatDoor.SC
