/-
  Part 15 of the proof: ScT, ScU, ScO, ScQ, FtD, SdU, FtO, FtS, FtK, FtL.
-/
import Derived.Test.YtdkkpfeiaaffhaaGreatDoorGa03
import Derived.Test.YtdkkpfeiaaffhaaGreatDoorGa06
import Derived.Test.YtdkkpfeiaaffhaaGreatDoorGa07
import Derived.Lib.AtoiAllCases
import Derived.Test.YtdkkpfeiaaffhaaGreatDoorGa12
import Derived.Test.YtdkkpfeiaaffhaaGreatDoorGa14
import Derived.Test.YtdkkpfeiaaffhaaGreatDoorGa09
import Derived.Test.YtdkkpfeiaaffhaaGreatDoorGa02
import Derived.Lib.Strings
import Derived.Lib.IndexMore
import Derived.Lib.TrimByte
import Derived.Test.YtdkkpfeiaaffhaaGreatDoorGa05
import Derived.Shelf.Strings.Cut
import Derived.Shelf.Strings.Prefix
import Derived.Shelf.Strings.Trim
set_option linter.unusedSimpArgs false
set_option linter.unusedVariables false
namespace Go.Proofs.YtdkkpfeiaaffhaaGreatDoor.SC
set_option maxRecDepth 100000
open Go.RowKit K Go.Proofs.YtdkkpfeiaaffhaaGreatDoor.BE Go.Proofs.YtdkkpfeiaaffhaaGreatDoor.DN

/-- What readNumber tells. -/
def NumR (v : B) (e : Ending) : Prop := ∃ n : Int, e = .returned (.tuple #[.int .i64 n, .bool (numV v).isSome]) ∧ ∀ m, numV v = some m → n = m
theorem numV_no {v : B} (h : ∀ m, Lib.atoiAll v = .ok m → ¬ (Lib.itoa m = v ∧ -999999999 ≤ m ∧ m ≤ 999999999)) : numV v = none := by
  cases hn : numV v with
  | none => rfl
  | some m =>
    obtain ⟨h1, h2⟩ := num_back hn
    exact absurd h2 (h m h1)
set_option maxHeartbeats 4000000 in
theorem readNumber_any (v : B) (hz : Sz v) (w : World) (hG : Gs w) : Calls Tryz.prog 39 #[.string (sb v)] w fun e w' => NumR v e ∧ Fr No w w' := by
  have HZ := hid hz; have HG := hid hG
  clear hz hG
  by_cases hok : ∃ m, Lib.atoiAll v = .ok m
  · obtain ⟨m, hm⟩ := hok
    obtain ⟨hb1, hb2⟩ := Lib.atoiAll_bounds hm
    have HM := hid hm; have HB := hid (show -9223372036854775808 ≤ m ∧ m ≤ 9223372036854775807 from ⟨hb1, hb2⟩)
    have HINJ : Hid (∀ k, Lib.atoiAll v = .ok k → k = m) := hid (fun k hk => by rw [hm] at hk; injection hk with hk; exact hk.symm)
    clear hm hb1 hb2
    go_enter Tryz.func39, Tryz.ntmps39
    go_wp2_with fail
    refine (atoi_ok v HZ.out m HM.out w).mono ?_
    rintro e w1 ⟨rfl, f1⟩
    have HF1 := hid f1
    clear f1
    go_wp2_with fail
    refine (itoa_any m HB.out.1 HB.out.2 w1 (HG.out.no HF1.out)).mono ?_
    rintro e w2 ⟨rfl, f2⟩
    have HF2 := hid (HF1.out.trans' f2)
    clear f2
    obtain ⟨P, hP⟩ : ∃ P, decide (Lib.itoa m = v) = P := ⟨_, rfl⟩
    have HP := hid hP
    clear hP
    cases P with
    | false =>
      have hn : numV v = none := numV_no (fun k hk h => by rw [HINJ.out k hk] at h; exact of_decide_eq_false HP.out h.1)
      have HN := hid hn
      clear hn
      go_wp2_with (first
        | ((with_reducible refine K.atO (.binOp .eql 9 _ _ _) ?_); refine wpL_valZ rfl (.bool false) (by rw [← HP.out]; exact exec_eqS _ _ _ rfl (Lib.itoa m) v rfl rfl w2) ?_)
        | fail)
      go_ret2
      exact ⟨⟨m, by rw [HN.out]; rfl, fun k hk => by rw [HN.out] at hk; cases hk⟩, HF2.out⟩
    | true =>
      by_cases h1 : -999999999 ≤ m
      case neg =>
        have HN := hid (numV_no (v := v) (fun k hk h => by rw [HINJ.out k hk] at h; exact h1 h.2.1))
        have g1 : m < -999999999 := by omega
        have g1b : decide (-999999999 ≤ m) = false := decide_eq_false h1
        clear h1
        go_wp2_with (first
          | ((with_reducible refine K.atO (.binOp .eql 9 _ _ _) ?_); refine wpL_valZ rfl (.bool true) (by rw [← HP.out]; exact exec_eqS _ _ _ rfl (Lib.itoa m) v rfl rfl w2) ?_)
          | fail)
        go_ret2
        exact ⟨⟨m, by rw [HN.out]; rfl, fun k hk => by rw [HN.out] at hk; cases hk⟩, HF2.out⟩
      by_cases h2 : m ≤ 999999999
      case neg =>
        have HN := hid (numV_no (v := v) (fun k hk h => by rw [HINJ.out k hk] at h; exact h2 h.2.2))
        have g1b : decide (-999999999 ≤ m) = true := decide_eq_true h1
        have g2b : decide (m ≤ 999999999) = false := decide_eq_false h2
        clear h2
        go_wp2_with (first
          | ((with_reducible refine K.atO (.binOp .eql 9 _ _ _) ?_); refine wpL_valZ rfl (.bool true) (by rw [← HP.out]; exact exec_eqS _ _ _ rfl (Lib.itoa m) v rfl rfl w2) ?_)
          | fail)
        go_ret2
        exact ⟨⟨m, by rw [HN.out]; rfl, fun k hk => by rw [HN.out] at hk; cases hk⟩, HF2.out⟩
      have HN := hid (num_ok HM.out (of_decide_eq_true HP.out) h1 h2)
      have g1b : decide (-999999999 ≤ m) = true := decide_eq_true h1
      have g2b : decide (m ≤ 999999999) = true := decide_eq_true h2
      go_wp2_with (first
        | ((with_reducible refine K.atO (.binOp .eql 9 _ _ _) ?_); refine wpL_valZ rfl (.bool true) (by rw [← HP.out]; exact exec_eqS _ _ _ rfl (Lib.itoa m) v rfl rfl w2) ?_)
        | fail)
      go_ret2
      exact ⟨⟨m, by rw [HN.out]; rfl, fun k hk => by rw [HN.out] at hk; cases hk; rfl⟩, HF2.out⟩
  · have HN := hid (numV_no (v := v) (fun m hm => absurd ⟨m, hm⟩ hok))
    have HB := hid (atoi_bad v HZ.out (fun m hm => hok ⟨m, hm⟩) w HG.out)
    clear hok
    go_enter Tryz.func39, Tryz.ntmps39
    go_wp2_with fail
    refine HB.out.mono ?_
    rintro e w1 ⟨⟨m, t, u, rfl⟩, f1⟩
    have HF1 := hid f1
    clear f1 HB
    go_wp2_with fail
    go_ret2
    exact ⟨⟨m, by rw [HN.out]; rfl, fun k hk => by rw [HN.out] at hk; cases hk⟩, HF1.out⟩
/-- What normOf and normTruth tell. -/
def NrmR (o : Option B) (e : Ending) : Prop := ∃ x : B, e = .returned (.tuple #[.string (sb x), .bool o.isSome]) ∧ Sz x ∧ ∀ y, o = some y → x = y
set_option maxHeartbeats 4000000 in
theorem normTruth_any (v : B) (hz : Sz v) (w : World) : Calls Tryz.prog 69 #[.string (sb v)] w fun e w' => NrmR (truth v) e ∧ Fr No w w' := by
  have HZ := hid hz
  clear hz
  go_enter Tryz.func69, Tryz.ntmps69
  go_wp2_with fail
  refine (slower_any v HZ.out w).mono ?_
  rintro e w1 ⟨rfl, f1⟩
  have HF1 := hid f1
  clear f1
  obtain ⟨P, hP⟩ : ∃ P, decide (low v = tTrue) = P := ⟨_, rfl⟩
  obtain ⟨P2, hP2⟩ : ∃ P, decide (low v = tFalse) = P := ⟨_, rfl⟩
  have HP := hid hP; have HP2 := hid hP2
  clear hP hP2
  cases P with
  | true =>
    have HN : Hid (truth v = some [84, 82, 85, 69]) := hid (by unfold truth; rw [if_pos (of_decide_eq_true HP.out)])
    go_wp2_with (first
      | ((with_reducible refine K.atO (.binOp .eql 9 _ _ _) ?_); refine wpL_valZ rfl (.bool true) (by rw [← HP.out]; exact exec_eqS _ _ _ rfl (low v) tTrue rfl rfl w1) ?_)
      | fail)
    go_ret2
    exact ⟨⟨[84, 82, 85, 69], by rw [HN.out]; rfl, by unfold Sz; decide, fun k hk => by rw [HN.out] at hk; cases hk; rfl⟩, HF1.out⟩
  | false =>
    cases P2 with
    | true =>
      have HN : Hid (truth v = some [70, 65, 76, 83, 69]) := hid (by unfold truth; rw [if_neg (of_decide_eq_false HP.out), if_pos (of_decide_eq_true HP2.out)])
      go_wp2_with (first
        | ((with_reducible refine K.atO (.binOp .eql 9 _ _ _) ?_); (fail_if_success (have := HQ1)); refine wpL_valZ rfl (.bool false) (by rw [← HP.out]; exact exec_eqS _ _ _ rfl (low v) tTrue rfl rfl w1) ?_; have HQ1 := HP)
        | ((with_reducible refine K.atO (.binOp .eql 9 _ _ _) ?_); refine wpL_valZ rfl (.bool true) (by rw [← HP2.out]; exact exec_eqS _ _ _ rfl (low v) tFalse rfl rfl w1) ?_)
        | fail)
      go_ret2
      exact ⟨⟨[70, 65, 76, 83, 69], by rw [HN.out]; rfl, by unfold Sz; decide, fun k hk => by rw [HN.out] at hk; cases hk; rfl⟩, HF1.out⟩
    | false =>
      have HN : Hid (truth v = none) := hid (by unfold truth; rw [if_neg (of_decide_eq_false HP.out), if_neg (of_decide_eq_false HP2.out)])
      go_wp2_with (first
        | ((with_reducible refine K.atO (.binOp .eql 9 _ _ _) ?_); (fail_if_success (have := HQ1)); refine wpL_valZ rfl (.bool false) (by rw [← HP.out]; exact exec_eqS _ _ _ rfl (low v) tTrue rfl rfl w1) ?_; have HQ1 := HP)
        | ((with_reducible refine K.atO (.binOp .eql 9 _ _ _) ?_); refine wpL_valZ rfl (.bool false) (by rw [← HP2.out]; exact exec_eqS _ _ _ rfl (low v) tFalse rfl rfl w1) ?_)
        | fail)
      go_ret2
      exact ⟨⟨[], by rw [HN.out]; rfl, by unfold Sz; decide, fun k hk => by rw [HN.out] at hk; cases hk⟩, HF1.out⟩
/-! ### normOf -/
theorem parse_all (s : B) : NmB 1048576 (parse s).1 ∧ Short (parse s).1 ∧ (parse s).1.length ≤ 16 ∧ ∀ r ∈ (parse s).1, r.length ≤ 4 := by
  by_cases h : (parse s).2 = 0
  · exact parse_b (s := s) (x := (parse s).1) (by rw [← h])
  · have : (parse s).1 = [] := by
      unfold parse at h ⊢
      split
      · rfl
      · rename_i h4
        rw [if_neg h4] at h
        split
        · rfl
        · rename_i n hr
          rw [hr] at h
          simp only at h
          split
          · rename_i hb
            rw [if_pos hb] at h
            exact absurd rfl h
          · rfl
    rw [this]
    exact ⟨⟨by simp, fun r hr => by cases hr⟩, (fun r hr => by cases hr), by simp, fun r hr => by cases hr⟩
theorem key_sz (s : B) : Sz (key (parse s).1) := by
  obtain ⟨h1, -, h3, h4⟩ := parse_all s
  have hn := norm_b h1
  have hl : (norm (parse s).1).length ≤ 16 := by rw [norm_length]; exact h3
  have h5 : ∀ r ∈ (norm (parse s).1).reverse, (DN.stepT r).length ≤ 16777224 := fun r hr => by
    have hr := List.mem_reverse.1 hr
    refine stepT_le (hn.2 r hr) ?_
    obtain ⟨q, hq, rfl⟩ := List.mem_map.1 hr
    rw [normR_len]
    exact h4 q hq
  have := keyL_len h5
  have h6 : (norm (parse s).1).reverse.length ≤ 16 := by rw [List.length_reverse]; exact hl
  have h7 := Nat.mul_le_mul_right (16777224 + 1) h6
  rw [key_eq]
  unfold Sz
  omega
set_option maxHeartbeats 8000000 in
theorem normOf_any (k : Int) (v : B) (hz : Sz v) (w : World) (hG : Gs w) : Calls Tryz.prog 36 #[.int .i64 k, .string (sb v)] w fun e w' => NrmR (normV k v) e ∧ Fr No w w' := by
  have HZ := hid hz; have HG := hid hG
  obtain ⟨n, hn⟩ : ∃ n, v.length = n := ⟨_, rfl⟩
  have HN := hid hn
  obtain ⟨V, hV⟩ : ∃ V, sb v = V := ⟨_, rfl⟩
  have HV := hid hV
  have hVs : V.size = n := by rw [← hV, sb_size, hn]
  have HVS := hid hVs
  rw [hV]
  unfold Sz at hz
  rw [hn] at hz
  have hni : (n : Int) ≤ 140737488351232 := by omega
  clear hG hn hV hVs hz
  by_cases hl : 200 < n
  · have HR : Hid (normV k v = none) := hid (by unfold normV; rw [if_pos (by rw [HN.out]; exact hl)])
    have hli : (200 : Int) < (V.size : Int) := by rw [HVS.out]; omega
    clear hl
    go_enter Tryz.func36, Tryz.ntmps36
    go_wp2_with fail
    go_ret2
    exact ⟨⟨[], by rw [HR.out]; rfl, by unfold Sz; decide, fun y hy => by rw [HR.out] at hy; cases hy⟩, Fr.refl _ _⟩
  have HL := hid hl
  have hli : decide ((200 : Int) < (V.size : Int)) = false := decide_eq_false (by rw [HVS.out]; omega)
  clear hl
  by_cases h1 : k = 1
  · subst h1
    have HR : Hid (normV 1 v = if fold v = [] then none else some (fold v)) := hid (by unfold normV; rw [if_neg (by rw [HN.out]; exact HL.out), if_pos rfl])
    have HF : Hid (∀ w', Calls Tryz.prog 59 #[.string V] w' fun e w'' => e = .returned (.string (sb (fold v))) ∧ Fr No w' w'') := hid (fun w' => by rw [← HV.out]; exact fold_any v (by have := HL.out; have := HN.out; omega) w')
    go_enter Tryz.func36, Tryz.ntmps36
    go_wp2_with fail
    refine (HF.out _).mono ?_
    rintro e w1 ⟨rfl, f1⟩
    have HF1 := hid f1
    clear f1
    obtain ⟨P, hP⟩ : ∃ P, decide (fold v = []) = P := ⟨_, rfl⟩
    have HP := hid hP
    clear hP
    go_wp2_with (first
      | ((with_reducible refine K.atO (.binOp .neq 9 _ _ _) ?_); refine wpL_valZ rfl (.bool (!P)) (by rw [← HP.out]; exact exec_neS _ _ _ rfl (fold v) [] rfl rfl w1) ?_)
      | fail)
    go_ret2
    refine ⟨⟨fold v, ?_, by unfold Sz; have := fold_len v; have := HL.out; have := HN.out; omega, fun y hy => ?_⟩, HF1.out⟩
    · rw [HR.out]
      cases P with
      | true => rw [if_pos (of_decide_eq_true HP.out)]; rfl
      | false => rw [if_neg (of_decide_eq_false HP.out)]; rfl
    · rw [HR.out] at hy
      split at hy
      · cases hy
      · cases hy; rfl
  have g1 : (k == 1) = false := by rw [beq_eq_false_iff_ne]; exact h1
  by_cases h2 : k = 2
  · subst h2
    have HR : Hid (normV 2 v = some v) := hid (by unfold normV; rw [if_neg (by rw [HN.out]; exact HL.out), if_neg (by decide), if_pos rfl])
    clear h1
    go_enter Tryz.func36, Tryz.ntmps36
    go_wp2_with fail
    go_ret2
    exact ⟨⟨v, by rw [HR.out, HV.out]; rfl, HZ.out, fun y hy => by rw [HR.out] at hy; cases hy; rfl⟩, Fr.refl _ _⟩
  have g2 : (k == 2) = false := by rw [beq_eq_false_iff_ne]; exact h2
  by_cases h3 : k = 3
  · subst h3
    have HR : Hid (normV 3 v = (numV v).map fun _ => v) := hid (by unfold normV; rw [if_neg (by rw [HN.out]; exact HL.out), if_neg (by decide), if_neg (by decide), if_pos rfl])
    have HF := hid (readNumber_any v HZ.out w HG.out)
    rw [HV.out] at HF
    clear h1 h2
    go_enter Tryz.func36, Tryz.ntmps36
    go_wp2_with fail
    refine HF.out.mono ?_
    rintro e w1 ⟨⟨m, rfl, -⟩, f1⟩
    have HF1 := hid f1
    clear f1 HF
    go_wp2_with fail
    go_ret2
    refine ⟨⟨v, ?_, HZ.out, fun y hy => ?_⟩, HF1.out⟩
    · rw [HR.out, HV.out, Option.isSome_map]; rfl
    · rw [HR.out] at hy
      cases hn : numV v with
      | none => rw [hn] at hy; cases hy
      | some m => rw [hn] at hy; cases hy; rfl
  have g3 : (k == 3) = false := by rw [beq_eq_false_iff_ne]; exact h3
  by_cases h4 : k = 4
  · subst h4
    have HR : Hid (normV 4 v = if (parse v).2 = 0 then some (key (parse v).1) else none) := hid (by unfold normV; rw [if_neg (by rw [HN.out]; exact HL.out), if_neg (by decide), if_neg (by decide), if_neg (by decide), if_pos rfl])
    have HF := hid (parse_any v w HG.out.1)
    rw [HV.out] at HF
    have HK := hid (fun u w' (h : NmIn (fun k => w.heap.size ≤ k) w' u (parse v).1) => key_any _ u (parse v).1 w' h (parse_all v).1 (parse_all v).2.1 (parse_all v).2.2.1 (parse_all v).2.2.2)
    clear h1 h2 h3
    go_enter Tryz.func36, Tryz.ntmps36
    go_wp2_with fail
    refine HF.out.mono ?_
    rintro e w1 ⟨u, rfl, hu, f1⟩
    have HF1 := hid f1; have HU := hid hu
    obtain ⟨ua, uc, rfl, -, -⟩ := hu.form
    generalize (parse v).1.length = ul at HU
    clear f1 HF
    go_wp2_with fail
    refine (HK.out _ _ HU.out).mono ?_
    rintro e w2 ⟨rfl, f2⟩
    have HF2 := hid (HF1.out.trans' f2)
    clear f2
    go_wp2_with fail
    go_ret2
    refine ⟨⟨key (parse v).1, ?_, key_sz v, fun y hy => ?_⟩, HF2.out⟩
    · rw [HR.out]
      by_cases hp : (parse v).2 = 0
      · rw [if_pos hp, hp]; rfl
      · rw [if_neg hp]
        have : ((parse v).2 == 0) = false := by rw [beq_eq_false_iff_ne]; exact hp
        simp [this]
    · rw [HR.out] at hy
      split at hy
      · cases hy; rfl
      · cases hy
  have g4 : (k == 4) = false := by rw [beq_eq_false_iff_ne]; exact h4
  have HR : Hid (normV k v = truth v) := hid (by unfold normV; rw [if_neg (by rw [HN.out]; exact HL.out), if_neg h1, if_neg h2, if_neg h3, if_neg h4])
  have HF := hid (normTruth_any v HZ.out w)
  rw [HV.out] at HF
  clear h1 h2 h3 h4
  go_enter Tryz.func36, Tryz.ntmps36
  go_wp2_with fail
  refine HF.out.mono ?_
  rintro e w1 ⟨⟨x, rfl, hx, hxy⟩, f1⟩
  have HF1 := hid f1; have HX := hid (show Sz x ∧ ∀ y, truth v = some y → x = y from ⟨hx, hxy⟩)
  clear f1 HF hx hxy
  go_wp2_with fail
  go_ret2
  rw [HR.out]
  exact ⟨⟨x, rfl, HX.out.1, HX.out.2⟩, HF1.out⟩
end Go.Proofs.YtdkkpfeiaaffhaaGreatDoor.SC

namespace Go.Proofs.YtdkkpfeiaaffhaaGreatDoor.SC
set_option maxRecDepth 100000
open Go.RowKit K Go.Proofs.YtdkkpfeiaaffhaaGreatDoor.BE Go.Proofs.YtdkkpfeiaaffhaaGreatDoor.DN

theorem Mps.less {X Y : Nat → Prop} {w : World} {b : Nat} {s : Sch} {d : Int} {tm cm : Value} (h : Mps w Y b s d tm cm) (hy : ∀ k, X k → Y k) : Mps w X b s d tm cm := by
  refine h.imp id ?_
  rintro ⟨e, bt, bc, n, m, e1, e2, g1, g2, g3, g4⟩
  exact ⟨e, bt, bc, n, m, e1, e2, ⟨fun hx => g1.1 (hy _ hx), g1.2⟩, ⟨fun hx => g2.1 (hy _ hx), g2.2⟩, g3, g4⟩
theorem Sx.less {X Y : Nat → Prop} {w : World} {b : Nat} {s : Sch} (h : Sx w Y b s) (hy : ∀ k, X k → Y k) : Sx w X b s := by
  obtain ⟨vt, vc, d, tm, cm, h1, h2, h3, h4, h5, h6⟩ := h
  have hno : ∀ k, Out Y b k → k < w.heap.size → Out X b k := fun k ⟨h1, h2⟩ _ => ⟨fun hx => h1 (hy k hx), h2⟩
  exact ⟨vt, vc, d, tm, cm, h1, fun hx => h2 (hy b hx), h3.mono hno, h4.mono hno, h5, h6.less hy⟩
theorem Sy.less {X Y : Nat → Prop} {w : World} {b : Nat} {s : Sch} (h : Sy w Y b s) (hy : ∀ k, X k → Y k) : Sy w X b s := by
  obtain ⟨vt, vc, bt, bc, n, m, h1, h2, h3, h4, h5, h6, h7, h8, h9⟩ := h
  have hno : ∀ k, Out Y b k → k < w.heap.size → Out X b k := fun k ⟨h1, h2⟩ _ => ⟨fun hx => h1 (hy k hx), h2⟩
  exact ⟨vt, vc, bt, bc, n, m, h1, fun hx => h2 (hy b hx), h3.mono hno, h4.mono hno, h5, ⟨fun hx => h6.1 (hy _ hx), h6.2⟩, ⟨fun hx => h7.1 (hy _ hx), h7.2⟩, h8, h9⟩
/-- With one block more that is not the schema's. -/
def Also (X : Nat → Prop) (r : Nat) : Nat → Prop := fun k => X k ∨ k = r
theorem also_lt {X : Nat → Prop} {r n m : Nat} (hX : ∀ k, X k → k < n) (hr : r < m) (h : n ≤ m) : ∀ k, Also X r k → k < m := fun k hk => hk.elim (fun e => Nat.lt_of_lt_of_le (hX k e) h) (fun e => by omega)
theorem Sx.also {X : Nat → Prop} {w : World} {b r : Nat} {s : Sch} (h : Sx w X b s) (hr : w.heap.size ≤ r) : Sx w (Also X r) b s := h.more fun k hk => hk.imp id fun e => by omega
theorem Sy.also {X : Nat → Prop} {w : World} {b r : Nat} {s : Sch} (h : Sy w X b s) (hr : w.heap.size ≤ r) : Sx w (Also X r) b s := h.sx.also hr
theorem Sy.back {X : Nat → Prop} {w : World} {b r : Nat} {s : Sch} (h : Sy w (Also X r) b s) : Sy w X b s := h.less fun _ hk => .inl hk
theorem Sy.set {X : Nat → Prop} {w w' : World} {b r : Nat} {s : Sch} (h : Sy w (Also X r) b s) (hf : Fr (fun k => k = r) w w') : Sy w' (Also X r) b s := h.fr hf fun k hk => .inl (.inr hk)
theorem Sy.no {X : Nat → Prop} {w w' : World} {b : Nat} {s : Sch} (h : Sy w X b s) (hf : Fr No w w') : Sy w' X b s := h.fr hf fun _ e => e.elim
theorem Sy.nx {X : Nat → Prop} {w : World} {b : Nat} {s : Sch} (h : Sy w X b s) : ¬ X b := h.sx.nx
def ty0 : Ty := ⟨[], 0, false, false, false, false⟩
def tyOf (s : Sch) (n : B) : Ty := ((s.tyAt n).bind fun i => s.tys[i]?).getD ty0
theorem atR_some (i : Nat) : atR (some i) = .tuple #[.int .i64 (i : Int), .bool true] := rfl
theorem atR_none : atR none = .tuple #[.int .i64 0, .bool false] := rfl
set_option maxHeartbeats 8000000 in
theorem type_any (X : Nat → Prop) (b : Nat) (s : Sch) (n : B) (w : World) (h : Sx w X b s) (hX : ∀ k, X k → k < w.heap.size) (hz : Sz n) :
    Calls Tryz.prog 31 #[.pointer (some ⟨b, 0, none⟩), .string (sb n)] w fun e w' => e = .returned (.tuple #[.agg (tyV (tyOf s n)).toArray, .bool (s.tyAt n).isSome]) ∧ Sy w' X b s ∧ Fr (fun k => k = b) w w' := by
  obtain ⟨r, hr⟩ : ∃ r, w.heap.size = r := ⟨_, rfl⟩
  have HX := hid (h.also (r := r) (by omega)); have HXB := hid hX; have HZ := hid hz; have HR := hid hr
  have HBR : Hid (b < r) := hid (by have := h.lt; omega)
  clear h hX hz hr
  go_enter Tryz.func31, Tryz.ntmps31
  go_wp2_with (first
    | ((with_reducible refine K.atO (.alloc 62) ?_); refine wpL_alloc rfl _ rfl _ zeroTy _ rfl ?_; intro w1 HB1 HF1 HS1)
    | fail)
  rw [HR.out] at HB1 ⊢
  refine (typeAt_any (Also X r) b s n w1 (HX.out.no HF1.out) (also_lt HXB.out (by have := HS1.out; have := HR.out; omega) (by have := HS1.out; omega)) HZ.out).mono ?_
  rintro e w2 ⟨rfl, hs2, f2⟩
  have HS2 := hid hs2
  have HB2 := hid (HB1.out.fr f2 (by show ¬ r = b; have := HBR.out; omega))
  have HF2 : Hid (Fr (fun k => k = b) w w2) := hid (HF1.out.no.trans' f2)
  clear f2 HB1 HF1 HS1
  cases hat : s.tyAt n with
  | none =>
    have hty : tyOf s n = ty0 := by unfold tyOf; rw [hat]; rfl
    rw [atR_none]
    have HTY := hid hty; have HAT := hid hat
    clear hat hty hs2
    go_wp2_with (first
      | ((with_reducible refine K.atO (.build 62 _) ?_); refine wpL_valZ rfl (.agg (tyV ty0).toArray) (by kernel_rfl) ?_)
      | ((with_reducible refine K.atO (.store 62 _ _) ?_); refine wpL_store rfl _ _ _ rfl r 0 (tyV ty0) rfl rfl 62 _ HB2.out (by simp [tyV]) infoTy (oneTy ty0) ?_; intro w3 HB3 HF3 HS3)
      | fail)
    have HB3' : Hid (Blk w3 r 62 (tyV ty0)) := hid HB3.out
    refine ret_cell2 rfl _ rfl HB3'.out rfl rfl infoTy rfl ?_
    exact ⟨by rw [HTY.out, HAT.out]; rfl, (HS2.out.set HF3.out).back, HF2.out.trans HF3.out (fun k e => .inr (by have e : k = r := e; have := HR.out; omega))⟩
  | some i =>
    have hil : i < s.tys.length := by have := fnd_lt hat; unfold Sch.tn at this; rwa [List.length_map] at this
    obtain ⟨t, ht⟩ : ∃ t, s.tys[i]? = some t := ⟨_, List.getElem?_eq_getElem hil⟩
    have hty : tyOf s n = t := by unfold tyOf; rw [hat]; simp [ht]
    rw [atR_some]
    have HTY := hid hty; have HAT := hid hat
    obtain ⟨vt, vc, bt, bc, n1, m1, hB, -, htv, -, -, -, -, -, -⟩ := hs2
    obtain ⟨g, o, cq, cs, e1, -, -, hrr, -, hp⟩ := htv.get ht
    subst e1
    obtain ⟨rfl, -⟩ := hp
    have HRR := hid hrr
    have d0 : w2.cell? ⟨b, 0, none⟩ = some (.slice (some ⟨g, o, none⟩) s.tys.length cq) := hB.cell 0
    obtain ⟨L, hL⟩ : ∃ L, s.tys.length = L := ⟨_, rfl⟩
    rw [hL] at hil d0
    have hii : (i : Int) < (L : Int) := by omega
    have hi0 : (0 : Int) ≤ i := by omega
    clear hat hty hB htv hrr ht hL hil
    go_wp2_with (first
      | ((with_reducible refine K.atO (.load 62 _) ?_); refine wpL_load rfl _ _ rfl g (o + i * 6) rfl (tyV t) _ HRR.out rfl rfl infoTy ?_)
      | ((with_reducible refine K.atO (.store 62 _ _) ?_); refine wpL_store rfl _ _ _ rfl r 0 (tyV t) rfl rfl 62 _ HB2.out (by simp [tyV]) infoTy (oneTy t) ?_; intro w3 HB3 HF3 HS3)
      | fail)
    have HB3' : Hid (Blk w3 r 62 (tyV t)) := hid HB3.out
    refine ret_cell2 rfl _ rfl HB3'.out rfl rfl infoTy rfl ?_
    exact ⟨by rw [HTY.out, HAT.out]; rfl, (HS2.out.set HF3.out).back, HF2.out.trans HF3.out (fun k e => .inr (by have e : k = r := e; have := HR.out; omega))⟩
/-! ### Norm -/
theorem tyAt_tys {s : Sch} {n : B} {i : Nat} (h : s.tyAt n = some i) : s.tys[i]? = some (tyOf s n) := by
  have hil : i < s.tys.length := by have := fnd_lt h; unfold Sch.tn at this; rwa [List.length_map] at this
  unfold tyOf
  rw [h]
  simp [hil]
theorem normE_none {s : Sch} {n v : B} (h : s.tyAt n = none) : normE s n v = ([], 131) := by
  unfold normE
  rw [h]
  rfl
theorem normE_some {s : Sch} {n v : B} {i : Nat} (h : s.tyAt n = some i) : normE s n v = match normV (tyOf s n).syn v with | none => ([], 132) | some x => (x, 0) := by
  unfold normE
  rw [h, Option.bind_some, tyAt_tys h]
  rfl
theorem synOf_ty (s : Sch) (n : B) (i : Nat) (h : s.tyAt n = some i) : synOf s n = (tyOf s n).syn := by
  unfold synOf
  rw [h, Option.bind_some, tyAt_tys h]
  rfl
theorem Sy.bb {X : Nat → Prop} {w w' : World} {b : Nat} {s : Sch} (h : Sy w' X b s) (hG : Gs w) (hf : Fr (fun k => k = b) w w') (hx : GX X) : Gs w' := hG.bb hf hx h.nx
set_option maxHeartbeats 8000000 in
theorem norm_any (X : Nat → Prop) (b : Nat) (s : Sch) (n v : B) (w : World) (h : Sx w X b s) (hX : ∀ k, X k → k < w.heap.size) (hx : GX X) (hG : Gs w) (hn : Sz n) (hv : Sz v) :
    Calls Tryz.prog 13 #[.pointer (some ⟨b, 0, none⟩), .string (sb n), .string (sb v)] w fun e w' => e = .returned (.tuple #[.string (sb (normE s n v).1), .int .i64 (normE s n v).2]) ∧ Sy w' X b s ∧ Fr (fun k => k = b) w w' := by
  have HT := hid (type_any X b s n w h hX hn)
  have HG := hid hG; have HX := hid hx; have HV := hid hv
  clear h hX hx hG hn hv
  go_enter Tryz.func13, Tryz.ntmps13
  go_wp2_with fail
  refine HT.out.mono ?_
  rintro e w1 ⟨rfl, hs1, f1⟩
  have HS1 := hid hs1; have HF1 := hid f1
  have HG1 := hid (hs1.bb HG.out f1 HX.out)
  clear hs1 f1 HT
  cases hat : s.tyAt n with
  | none =>
    have HR := hid (normE_none (v := v) hat)
    have e1 : (none : Option Nat).isSome = false := rfl
    rw [e1]
    clear hat e1
    go_wp2_with (first
      | ((with_reducible refine K.atO (.alloc 62) ?_); refine wpL_alloc rfl _ rfl _ zeroTy _ rfl ?_; intro w2 HB2 HF2 HS2)
      | ((with_reducible refine K.atO (.store 62 _ _) ?_); refine wpL_store rfl _ _ _ rfl w1.heap.size 0 (tyV (tyOf s n)) rfl rfl 62 _ HB2.out (by simp [tyV]) infoTy (oneTy _) ?_; intro w3 HB3 HF3 HS3)
      | fail)
    go_ret2
    have hf3 : Fr No w1 w3 := HF2.out.trans HF3.out (fun k e => .inr (by have e : k = w1.heap.size := e; omega))
    exact ⟨by rw [HR.out]; rfl, HS1.out.no hf3, HF1.out.trans' hf3.no⟩
  | some i =>
    have HR := hid (normE_some (v := v) hat)
    have e1 : (some i).isSome = true := rfl
    rw [e1]
    clear hat e1
    go_wp2_with (first
      | ((with_reducible refine K.atO (.alloc 62) ?_); refine wpL_alloc rfl _ rfl _ zeroTy _ rfl ?_; intro w2 HB2 HF2 HS2)
      | ((with_reducible refine K.atO (.store 62 _ _) ?_); refine wpL_store rfl _ _ _ rfl w1.heap.size 0 (tyV (tyOf s n)) rfl rfl 62 _ HB2.out (by simp [tyV]) infoTy (oneTy _) ?_; intro w3 HB3 HF3 HS3; refine Hid.out ?_)
      | fail)
    have HF3' : Hid (Fr No w1 w3) := hid (HF2.out.trans HF3.out (fun k e => .inr (by have e : k = w1.heap.size := e; omega)))
    have HB3' : Hid (Blk w3 w1.heap.size 62 (tyV (tyOf s n))) := hid HB3.out
    obtain ⟨r, hr⟩ : ∃ r, w1.heap.size = r := ⟨_, rfl⟩
    rw [hr] at HB3' ⊢
    have c1 : w3.cell? ⟨r, 1, none⟩ = some (.int .i64 (tyOf s n).syn) := HB3'.out.cell 1
    clear hr HB2 HF2 HS2 HB3 HF3 HS3
    refine hid ?_
    go_wp2_with fail
    refine (normOf_any (tyOf s n).syn v HV.out w3 (HG1.out.no HF3'.out)).mono ?_
    rintro e w4 ⟨⟨x, rfl, -, hxy⟩, f4⟩
    have HF4 := hid (HF3'.out.trans' f4); have HXY := hid hxy
    clear f4 hxy c1
    cases hnv : normV (tyOf s n).syn v with
    | none =>
      have HNV := hid hnv
      have e1 : (none : Option B).isSome = false := rfl
      rw [e1]
      clear hnv e1
      go_wp2_with fail
      go_ret2
      exact ⟨by rw [HR.out, HNV.out]; rfl, HS1.out.no HF4.out, HF1.out.trans' HF4.out.no⟩
    | some y =>
      have HNV := hid hnv
      have e1 : (some y).isSome = true := rfl
      rw [e1]
      clear hnv e1
      go_wp2_with fail
      go_ret2
      exact ⟨by rw [HR.out, HNV.out, HXY.out y HNV.out]; rfl, HS1.out.no HF4.out, HF1.out.trans' HF4.out.no⟩
/-! ### Compare -/
theorem cmpC_any (m n : Int) (w : World) : Calls Tryz.prog 40 #[.int .i64 m, .int .i64 n] w fun e w' => e = .returned (.int .i64 (sgn m n)) ∧ w' = w := by
  have hnan : ∀ (k : Int) (w : World), Calls Tryz.prog 76 #[.int .i64 k] w fun e w' => e = .returned (.bool false) ∧ w' = w := fun k w => by
    go_enter Tryz.func76, Tryz.ntmps76
    go_wp2
    go_ret
    exact ⟨rfl, rfl⟩
  have HN := hid hnan
  clear hnan
  rcases Int.lt_trichotomy m n with h | h | h
  · have HR : Hid (sgn m n = -1) := hid (by unfold sgn; rw [if_pos h])
    go_enter Tryz.func40, Tryz.ntmps40
    go_wp2_with fail
    refine (HN.out m w).mono ?_
    rintro e w1 ⟨rfl, rfl⟩
    go_wp2_with fail
    refine (HN.out n w1).mono ?_
    rintro e w2 ⟨rfl, rfl⟩
    go_wp2_with fail
    go_ret
    exact ⟨by rw [HR.out]; rfl, rfl⟩
  · have HR : Hid (sgn m n = 0) := hid (by unfold sgn; rw [if_neg (by omega), if_neg (by omega)])
    have h1 : decide (m < n) = false := decide_eq_false (by omega)
    have h2 : decide (n < m) = false := decide_eq_false (by omega)
    clear h
    go_enter Tryz.func40, Tryz.ntmps40
    go_wp2_with fail
    refine (HN.out m w).mono ?_
    rintro e w1 ⟨rfl, rfl⟩
    go_wp2_with fail
    refine (HN.out n w1).mono ?_
    rintro e w2 ⟨rfl, rfl⟩
    go_wp2_with fail
    go_ret
    exact ⟨by rw [HR.out]; rfl, rfl⟩
  · have HR : Hid (sgn m n = 1) := hid (by unfold sgn; rw [if_neg (by omega), if_pos h])
    have h1 : decide (m < n) = false := decide_eq_false (by omega)
    go_enter Tryz.func40, Tryz.ntmps40
    go_wp2_with fail
    refine (HN.out m w).mono ?_
    rintro e w1 ⟨rfl, rfl⟩
    go_wp2_with fail
    refine (HN.out n w1).mono ?_
    rintro e w2 ⟨rfl, rfl⟩
    go_wp2_with fail
    go_ret
    exact ⟨by rw [HR.out]; rfl, rfl⟩
theorem normE_sz {s : Sch} {n v : B} (hv : Sz v) : Sz (normE s n v).1 := by
  have h0 : Sz ([] : B) := by unfold Sz; decide
  cases hat : s.tyAt n with
  | none => rw [normE_none hat]; exact h0
  | some i =>
    rw [normE_some hat]
    cases hn : normV (tyOf s n).syn v with
    | none => exact h0
    | some x =>
      show Sz x
      unfold normV at hn
      split at hn
      · cases hn
      · split at hn
        · split at hn
          · cases hn
          · cases hn
            have := fold_len v
            unfold Sz at *
            omega
        · split at hn
          · cases hn; exact hv
          · split at hn
            · cases hq : numV v with
              | none => rw [hq] at hn; cases hn
              | some m => rw [hq] at hn; cases hn; exact hv
            · split at hn
              · split at hn
                · cases hn; exact key_sz v
                · cases hn
              · unfold truth at hn
                split at hn
                · cases hn; unfold Sz; decide
                · split at hn
                  · cases hn; unfold Sz; decide
                  · cases hn
/-- A norm of a number is a number. -/
theorem norm_num {s : Sch} {n v : B} {i : Nat} (h : s.tyAt n = some i) (h3 : (tyOf s n).syn = 3) (h0 : (normE s n v).2 = 0) : ∃ m, numV (normE s n v).1 = some m := by
  rw [normE_some h] at h0 ⊢
  rw [h3] at h0 ⊢
  cases hn : normV 3 v with
  | none => rw [hn] at h0; cases h0
  | some x =>
    unfold normV at hn
    split at hn
    · cases hn
    · rw [if_neg (by decide), if_neg (by decide), if_pos rfl] at hn
      cases hq : numV v with
      | none => rw [hq] at hn; cases hn
      | some m =>
        rw [hq] at hn
        cases hn
        exact ⟨m, hq⟩
theorem normE_at {s : Sch} {n v : B} (h0 : (normE s n v).2 = 0) : ∃ i, s.tyAt n = some i := by
  cases hat : s.tyAt n with
  | none => rw [normE_none hat] at h0; cases h0
  | some i => exact ⟨i, rfl⟩
set_option maxHeartbeats 8000000 in
theorem cmp_any (X : Nat → Prop) (b : Nat) (s : Sch) (n x y : B) (w : World) (h : Sx w X b s) (hX : ∀ k, X k → k < w.heap.size) (hx : GX X) (hG : Gs w) (hn : Sz n) (hzx : Sz x) (hzy : Sz y) :
    Calls Tryz.prog 15 #[.pointer (some ⟨b, 0, none⟩), .string (sb n), .string (sb x), .string (sb y)] w fun e w' => e = .returned (.tuple #[.int .i64 (cmpE s n x y).1, .int .i64 (cmpE s n x y).2]) ∧ Sy w' X b s ∧ Fr (fun k => k = b) w w' := by
  have H1 := hid (norm_any X b s n x w h hX hx hG hn hzx)
  have HG := hid hG; have HX := hid hx; have HXB := hid hX; have HN := hid hn; have HZY := hid hzy
  have HSZ := hid (show Sz (normE s n x).1 ∧ Sz (normE s n y).1 from ⟨normE_sz hzx, normE_sz hzy⟩)
  obtain ⟨E1, hE1⟩ : ∃ E1, (normE s n x).2 = E1 := ⟨_, rfl⟩
  obtain ⟨E2, hE2⟩ : ∃ E2, (normE s n y).2 = E2 := ⟨_, rfl⟩
  have HE1 := hid hE1; have HE2 := hid hE2
  rw [hE1] at H1
  clear h hX hx hG hn hzx hzy hE1 hE2
  go_enter Tryz.func15, Tryz.ntmps15
  go_wp2_with fail
  refine H1.out.mono ?_
  rintro e w1 ⟨rfl, hs1, f1⟩
  have HS1 := hid hs1; have HF1 := hid f1
  have HG1 := hid (hs1.bb HG.out f1 HX.out)
  have HB1 := hid (fun k hk => Nat.lt_of_lt_of_le (HXB.out k hk) f1.size)
  clear hs1 f1 H1
  by_cases h1 : E1 = 0
  case neg =>
    have HR : Hid (cmpE s n x y = (0, E1)) := hid (by unfold cmpE; rw [HE1.out, if_neg h1])
    have h1b : (E1 != 0) = true := by rw [bne_iff_ne]; exact h1
    clear h1
    go_wp2_with fail
    go_ret2
    exact ⟨by rw [HR.out]; rfl, HS1.out, HF1.out⟩
  subst h1
  go_wp2_with fail
  refine (norm_any X b s n y w1 HS1.out.sx HB1.out HX.out HG1.out HN.out HZY.out).mono ?_
  rintro e w2 ⟨rfl, hs2, f2⟩
  rw [HE2.out]
  have HS2 := hid hs2; have HF2 := hid (HF1.out.trans' f2)
  have HG2 := hid (hs2.bb HG1.out f2 HX.out)
  have HB2 := hid (fun k hk => Nat.lt_of_lt_of_le (HB1.out k hk) f2.size)
  clear hs2 f2
  by_cases h2 : E2 = 0
  case neg =>
    have HR : Hid (cmpE s n x y = (0, E2)) := hid (by unfold cmpE; rw [HE1.out, if_pos rfl, HE2.out, if_neg h2])
    have h2b : (E2 != 0) = true := by rw [bne_iff_ne]; exact h2
    clear h2
    go_wp2_with fail
    go_ret2
    exact ⟨by rw [HR.out]; rfl, HS2.out, HF2.out⟩
  subst h2
  have HR : Hid (cmpE s n x y = (cmpV (synOf s n) (normE s n x).1 (normE s n y).1, 0)) := hid (by unfold cmpE; rw [HE1.out, if_pos rfl, HE2.out, if_pos rfl])
  go_wp2_with fail
  refine (type_any X b s n w2 HS2.out.sx HB2.out HN.out).mono ?_
  rintro e w3 ⟨rfl, hs3, f3⟩
  have HS3 := hid hs3; have HF3 := hid (HF2.out.trans' f3)
  have HG3 := hid (hs3.bb HG2.out f3 HX.out)
  clear hs3 f3
  obtain ⟨i, hat⟩ := normE_at HE1.out
  have HSY := hid (synOf_ty s n i hat)
  obtain ⟨T, hT⟩ : ∃ T, tyOf s n = T := ⟨_, rfl⟩
  have HT := hid hT
  rw [hT]
  have hTy : Hid (s.tyAt n = some i) := hid hat
  clear hat hT
  go_wp2_with (first
    | ((with_reducible refine K.atO (.alloc 62) ?_); refine wpL_alloc rfl _ rfl _ zeroTy _ rfl ?_; intro w4 HB4 HF4 HS4)
    | ((with_reducible refine K.atO (.store 62 _ _) ?_); refine wpL_store rfl _ _ _ rfl w3.heap.size 0 (tyV T) rfl rfl 62 _ HB4.out (by simp [tyV]) infoTy (oneTy _) ?_; intro w5 HB5 HF5 HS5; refine Hid.out ?_)
    | fail)
  have HF5' : Hid (Fr No w3 w5) := hid (HF4.out.trans HF5.out (fun k e => .inr (by have e : k = w3.heap.size := e; omega)))
  have HB5' : Hid (Blk w5 w3.heap.size 62 (tyV T)) := hid HB5.out
  obtain ⟨r, hr⟩ : ∃ r, w3.heap.size = r := ⟨_, rfl⟩
  rw [hr] at HB5' ⊢
  have c1 : w5.cell? ⟨r, 1, none⟩ = some (.int .i64 T.syn) := HB5'.out.cell 1
  obtain ⟨K, hK⟩ : ∃ K, T.syn = K := ⟨_, rfl⟩
  rw [hK] at c1
  have HK := hid hK
  clear hr HB4 HF4 HS4 HB5 HF5 HS5 hK
  refine hid ?_
  by_cases h3 : K = 3
  · have h3b : (K == 3) = true := by rw [beq_iff_eq]; exact h3
    have H3 := hid h3
    obtain ⟨m1, hm1⟩ := norm_num (v := x) hTy.out (by rw [HT.out, HK.out]; exact h3) HE1.out
    obtain ⟨m2, hm2⟩ := norm_num (v := y) hTy.out (by rw [HT.out, HK.out]; exact h3) HE2.out
    have HM1 := hid hm1; have HM2 := hid hm2
    clear h3 hm1 hm2
    go_wp2_with fail
    refine (readNumber_any (normE s n x).1 HSZ.out.1 w5 (HG3.out.no HF5'.out)).mono ?_
    rintro e w6 ⟨⟨k1, rfl, hk1⟩, f6⟩
    obtain rfl : k1 = m1 := hk1 m1 HM1.out
    have HF6 := hid (HF5'.out.trans' f6)
    clear f6 hk1 c1
    go_wp2_with fail
    refine (readNumber_any (normE s n y).1 HSZ.out.2 w6 (HG3.out.no HF6.out)).mono ?_
    rintro e w7 ⟨⟨k2, rfl, hk2⟩, f7⟩
    obtain rfl : k2 = m2 := hk2 m2 HM2.out
    have HF7 := hid (HF6.out.trans' f7)
    clear f7 hk2
    go_wp2_with fail
    refine (cmpC_any k1 k2 w7).mono ?_
    rintro e w8 ⟨rfl, rfl⟩
    go_wp2_with fail
    go_ret2
    refine ⟨?_, HS3.out.no HF7.out, HF3.out.trans' HF7.out.no⟩
    rw [HR.out, HSY.out, HT.out, HK.out, H3.out]
    unfold cmpV
    rw [if_pos rfl, HM1.out, HM2.out]
    rfl
  · have h3b : (K == 3) = false := by rw [beq_eq_false_iff_ne]; exact h3
    have H3 := hid h3
    clear h3
    go_wp2_with fail
    refine (DN.compare_any (normE s n x).1 (normE s n y).1 w5).mono ?_
    rintro e w6 ⟨rfl, rfl⟩
    go_wp2_with fail
    go_ret2
    refine ⟨?_, HS3.out.no HF5'.out, HF3.out.trans' HF5'.out.no⟩
    rw [HR.out, HSY.out, HT.out, HK.out]
    unfold cmpV
    rw [if_neg H3.out]
    rfl
end Go.Proofs.YtdkkpfeiaaffhaaGreatDoor.SC

namespace Go.Proofs.YtdkkpfeiaaffhaaGreatDoor.SC
set_option maxRecDepth 100000
open Go.Proofs.YtdkkpfeiaaffhaaGreatDoor.BE Go.Proofs.YtdkkpfeiaaffhaaGreatDoor.DN

def pos (s : Sch) (en : Ent) : List Nat := en.filterMap fun a => s.tyAt a.1
end Go.Proofs.YtdkkpfeiaaffhaaGreatDoor.SC

namespace Go.Proofs.YtdkkpfeiaaffhaaGreatDoor.SC
set_option maxRecDepth 100000
open Go.Proofs.YtdkkpfeiaaffhaaGreatDoor.BE Go.Proofs.YtdkkpfeiaaffhaaGreatDoor.DN

theorem cb_val : ∀ a b : B, Lib.compareBytes a b = -1 ∨ Lib.compareBytes a b = 0 ∨ Lib.compareBytes a b = 1
  | [], [] => .inr (.inl rfl)
  | [], _ :: _ => .inl rfl
  | _ :: _, [] => .inr (.inr rfl)
  | a :: r, b :: s => by
    unfold Lib.compareBytes
    split
    · exact .inl rfl
    · split
      · exact .inr (.inr rfl)
      · exact cb_val r s
theorem cb_zero : ∀ a b : B, Lib.compareBytes a b = 0 ↔ a = b
  | [], [] => by simp [Lib.compareBytes]
  | [], _ :: _ => by simp [Lib.compareBytes]
  | _ :: _, [] => by simp [Lib.compareBytes]
  | a :: r, b :: s => by
    have ih := cb_zero r s
    unfold Lib.compareBytes
    split
    · rename_i h
      refine iff_of_false (by decide) fun e => ?_
      cases e
      exact absurd h (UInt8.lt_irrefl _)
    · split
      · rename_i h
        refine iff_of_false (by decide) fun e => ?_
        cases e
        exact absurd h (UInt8.lt_irrefl _)
      · rename_i h1 h2
        have he : a = b := by
          rw [UInt8.lt_iff_toNat_lt] at h1 h2
          exact UInt8.toNat_inj.1 (by omega)
        subst he
        rw [ih]
        simp
end Go.Proofs.YtdkkpfeiaaffhaaGreatDoor.SC

namespace Go.Proofs.YtdkkpfeiaaffhaaGreatDoor.FT
set_option maxRecDepth 100000
open Go.Proofs.YtdkkpfeiaaffhaaGreatDoor.BE Go.Proofs.YtdkkpfeiaaffhaaGreatDoor.DN Go.Proofs.YtdkkpfeiaaffhaaGreatDoor.SC

/-- A filter. -/
inductive Fl where
  | mk (kind : Int) (kids : List Fl) (type value first : B) (any : List B) (last : B)
def Fl.kind : Fl → Int | .mk k _ _ _ _ _ _ => k
def Fl.kids : Fl → List Fl | .mk _ k _ _ _ _ _ => k
def Fl.type : Fl → B | .mk _ _ t _ _ _ _ => t
def Fl.value : Fl → B | .mk _ _ _ v _ _ _ => v
def Fl.first : Fl → B | .mk _ _ _ _ f _ _ => f
def Fl.any : Fl → List B | .mk _ _ _ _ _ a _ => a
def Fl.last : Fl → B | .mk _ _ _ _ _ _ l => l
/-! ### Three values -/
/-! ### Parts -/
/-- What the first occurrences leave. -/
def cutAll : B → List B → Option B
  | r, [] => some r
  | r, p :: t => if (Lib.cut r p).2.2 then cutAll (Lib.cut r p).2.1 t else none
/-! ### Leaves -/
/-! ### Three values are a logic -/
end Go.Proofs.YtdkkpfeiaaffhaaGreatDoor.FT

namespace Go.Proofs.YtdkkpfeiaaffhaaGreatDoor.SC
set_option maxRecDepth 100000
open Go.Proofs.YtdkkpfeiaaffhaaGreatDoor.BE Go.Proofs.YtdkkpfeiaaffhaaGreatDoor.DN

theorem idx_app {α : Type} (p r : List α) (q : α → Bool) : (∃ j, p.findIdx? q = some j ∧ j < p.length ∧ idxI (p ++ r) q = (j : Int)) ∨ (p.findIdx? q = none ∧ (idxI (p ++ r) q = -1 ∨ (p.length : Int) ≤ idxI (p ++ r) q)) := by
  unfold idxI
  rw [List.findIdx?_append]
  cases h : p.findIdx? q with
  | some j =>
    left
    obtain ⟨hl, -⟩ := List.findIdx?_eq_some_iff_getElem.1 h
    exact ⟨j, rfl, hl, rfl⟩
  | none =>
    right
    refine ⟨rfl, ?_⟩
    cases hr : r.findIdx? q with
    | none => left; rfl
    | some k => right; simp only [Option.map_some, Option.none_or]; omega
theorem fnd_ty (X : List Ty) (m : B) : fnd (X.map (·.nm)) m = X.findIdx? fun a => low a.nm == low m := by
  unfold fnd
  rw [List.findIdx?_map]
  rfl
theorem fnd_cl (X : List Cl) (m : B) : fnd (X.map (·.nm)) m = X.findIdx? fun a => low a.nm == low m := by
  unfold fnd
  rw [List.findIdx?_map]
  rfl
theorem new_at {α : Type} (p r : List α) (t : α) (q : α → Bool) (ht : q t = true) : (p.findIdx? q).isNone = decide (idxI (p ++ t :: r) q = (p.length : Int)) := by
  have h0 := idx_app p (t :: r) q
  cases hp : p.findIdx? q with
  | some j =>
    rw [hp] at h0
    rcases h0 with ⟨k, e, hl, h⟩ | ⟨h, -⟩
    · rw [h, decide_eq_false (by omega)]
      rfl
    · cases h
  | none =>
    have : idxI (p ++ t :: r) q = (p.length : Int) := by
      unfold idxI
      rw [List.findIdx?_append, hp, List.findIdx?_cons, if_pos ht]
      simp
    rw [this, decide_eq_true rfl]
    rfl
def rT (X : List Ty) (i : Nat) (t : Ty) : Bool := typ t.nm && decide (idxI X (fun a => low a.nm == low t.nm) = (i : Int)) && (decide (1 ≤ t.syn) && decide (t.syn ≤ 5))
def supI (X : List Cl) (i : Nat) (c : Cl) : Bool :=
  if c.sup = [] then true else
  decide (0 ≤ idxI X fun a => low a.nm == low c.sup) && decide ((idxI X fun a => low a.nm == low c.sup) < i) && (match X[(idxI X fun a => low a.nm == low c.sup).toNat]? with | none => false | some d => d.kind == 0 || d.kind == c.kind)
def isIn (X : List Ty) (l : List B) : Bool := l.all fun x => decide (0 ≤ idxI X fun a => low a.nm == low x)
def rC (T : List Ty) (X : List Cl) (i : Nat) (c : Cl) : Bool := typ c.nm && decide (idxI X (fun a => low a.nm == low c.nm) = (i : Int)) && (decide (0 ≤ c.kind) && decide (c.kind ≤ 2)) && isIn T c.must && isIn T c.may && supI X i c
theorem has_in (T : List Ty) (l : List B) : has (T.map (·.nm)) l = isIn T l := by
  unfold has isIn
  refine congrArg (fun f => l.all f) (funext fun m => ?_)
  rw [fnd_ty]
  unfold idxI
  cases T.findIdx? fun a => low a.nm == low m with
  | none => rfl
  | some j => simp
theorem rTy_iff (X : List Ty) : ∀ (r p : List Ty), X = p ++ r → (rTy (p.map (·.nm)) r = true ↔ ∀ j t, r[j]? = some t → rT X (p.length + j) t = true)
  | [], p, _ => ⟨fun _ j t h => by simp at h, fun _ => rfl⟩
  | t :: r, p, h => by
    have ih := rTy_iff X r (p ++ [t]) (by rw [h, List.append_assoc]; rfl)
    rw [List.map_append, List.map_singleton, List.length_append, List.length_singleton] at ih
    have hn : newN (p.map (·.nm)) t.nm = (typ t.nm && decide (idxI X (fun a => low a.nm == low t.nm) = (p.length : Int))) := by
      unfold newN
      rw [fnd_ty, h, new_at p r t (fun a => low a.nm == low t.nm) (beq_self_eq_true _)]
    have e : rTy (p.map (·.nm)) (t :: r) = (rT X p.length t && rTy (p.map (·.nm) ++ [t.nm]) r) := by
      show (newN (p.map (·.nm)) t.nm && (decide (1 ≤ t.syn) && decide (t.syn ≤ 5)) && rTy (p.map (·.nm) ++ [t.nm]) r) = _
      rw [hn]
      rfl
    rw [e, Bool.and_eq_true, ih]
    constructor
    · rintro ⟨h1, h2⟩ j x hx
      cases j with
      | zero => cases hx; exact h1
      | succ j =>
        have := h2 j x hx
        rwa [show p.length + 1 + j = p.length + (j + 1) by omega] at this
    · intro hh
      refine ⟨hh 0 t rfl, fun j x hx => ?_⟩
      have := hh (j + 1) x hx
      rwa [show p.length + (j + 1) = p.length + 1 + j by omega] at this
theorem sup_iff (X r p : List Cl) (h : X = p ++ r) (c : Cl) : supOk p c = supI X p.length c := by
  unfold supOk supI
  by_cases h0 : c.sup = []
  · rw [if_pos h0, if_pos h0]
  · rw [if_neg h0, if_neg h0, fnd_cl]
    have h1 := idx_app p r (fun a => low a.nm == low c.sup)
    rw [← h] at h1
    cases hp : p.findIdx? fun a => low a.nm == low c.sup with
    | none =>
      rw [hp] at h1
      rcases h1 with ⟨j, e, -⟩ | ⟨-, h1 | h1⟩
      · cases e
      · rw [h1, decide_eq_false (by decide)]
        rfl
      · rw [decide_eq_false (show ¬ (idxI X fun a => low a.nm == low c.sup) < (p.length : Int) by omega), Bool.and_false]
        rfl
    | some j =>
      rw [hp] at h1
      rcases h1 with ⟨k, e, hl, h1⟩ | ⟨e, -⟩
      · cases e
        rw [h1, decide_eq_true (by omega), decide_eq_true (by omega)]
        have : X[(j : Int).toNat]? = p[j]? := by rw [Int.toNat_natCast, h, List.getElem?_append_left hl]
        rw [this]
        rfl
      · cases e
theorem rCl_iff (T : List Ty) (X : List Cl) : ∀ (r p : List Cl), X = p ++ r → (rCl (T.map (·.nm)) p r = true ↔ ∀ j t, r[j]? = some t → rC T X (p.length + j) t = true)
  | [], p, _ => ⟨fun _ j t h => by simp at h, fun _ => rfl⟩
  | t :: r, p, h => by
    have ih := rCl_iff T X r (p ++ [t]) (by rw [h, List.append_assoc]; rfl)
    rw [List.length_append, List.length_singleton] at ih
    have hn : newN (p.map (·.nm)) t.nm = (typ t.nm && decide (idxI X (fun a => low a.nm == low t.nm) = (p.length : Int))) := by
      unfold newN
      rw [fnd_cl, h, new_at p r t (fun a => low a.nm == low t.nm) (beq_self_eq_true _)]
    have e : rCl (T.map (·.nm)) p (t :: r) = (rC T X p.length t && rCl (T.map (·.nm)) (p ++ [t]) r) := by
      show (newN (p.map (·.nm)) t.nm && (decide (0 ≤ t.kind) && decide (t.kind ≤ 2)) && supOk p t && has (T.map (·.nm)) t.must && has (T.map (·.nm)) t.may && rCl (T.map (·.nm)) (p ++ [t]) r) = _
      rw [hn, has_in, has_in, sup_iff X (t :: r) p h]
      unfold rC
      generalize typ t.nm = a
      generalize decide (idxI X (fun a => low a.nm == low t.nm) = (p.length : Int)) = b
      generalize (decide (0 ≤ t.kind) && decide (t.kind ≤ 2)) = d
      generalize isIn T t.must = f
      generalize isIn T t.may = g
      generalize supI X p.length t = k
      generalize rCl (T.map (·.nm)) (p ++ [t]) r = l
      revert a b d f g k l
      decide
    rw [e, Bool.and_eq_true, ih]
    constructor
    · rintro ⟨h1, h2⟩ j x hx
      cases j with
      | zero => cases hx; exact h1
      | succ j =>
        have := h2 j x hx
        rwa [show p.length + 1 + j = p.length + (j + 1) by omega] at this
    · intro hh
      refine ⟨hh 0 t rfl, fun j x hx => ?_⟩
      have := hh (j + 1) x hx
      rwa [show p.length + (j + 1) = p.length + 1 + j by omega] at this
/-- Which schemas may be: the bounds, the first type, each type, each class. -/
theorem okS_iff (s : Sch) : okS s = true ↔ (1 ≤ s.tys.length ∧ s.tys.length ≤ 40 ∧ s.cls.length ≤ 20) ∧ (∀ t, s.tys[0]? = some t → rFirst t = true) ∧ (∀ i t, s.tys[i]? = some t → rT s.tys i t = true) ∧ ∀ i c, s.cls[i]? = some c → rC s.tys s.cls i c = true := by
  have h1 := rTy_iff s.tys s.tys [] rfl
  have h2 := rCl_iff s.tys s.cls s.cls [] rfl
  simp only [List.map_nil, List.length_nil, Nat.zero_add] at h1 h2
  unfold okS Sch.tn
  simp only [Bool.and_eq_true, decide_eq_true_eq]
  rw [h1, h2]
  cases ht : s.tys with
  | nil =>
    constructor
    · rintro ⟨⟨⟨h, -⟩, -⟩, -⟩
      simp at h
    · rintro ⟨⟨h, -⟩, -⟩
      simp at h
  | cons t r =>
    constructor
    · rintro ⟨⟨⟨a, b⟩, c⟩, ⟨d, e⟩, f⟩
      exact ⟨⟨a, b, c⟩, fun x hx => by cases hx; exact d, e, f⟩
    · rintro ⟨⟨a, b, c⟩, d, e, f⟩
      exact ⟨⟨⟨a, b⟩, c⟩, ⟨d t rfl, e⟩, f⟩
end Go.Proofs.YtdkkpfeiaaffhaaGreatDoor.SC

namespace Go.Proofs.YtdkkpfeiaaffhaaGreatDoor.FT
set_option maxRecDepth 100000
open Go.Proofs.YtdkkpfeiaaffhaaGreatDoor.BE Go.Proofs.YtdkkpfeiaaffhaaGreatDoor.DN Go.Proofs.YtdkkpfeiaaffhaaGreatDoor.SC

/-! ### Parts -/
end Go.Proofs.YtdkkpfeiaaffhaaGreatDoor.FT

namespace Go.Proofs.YtdkkpfeiaaffhaaGreatDoor.FT
set_option maxRecDepth 100000
open Go.Proofs.YtdkkpfeiaaffhaaGreatDoor.BE Go.Proofs.YtdkkpfeiaaffhaaGreatDoor.DN Go.Proofs.YtdkkpfeiaaffhaaGreatDoor.SC

theorem joinB_cons (x : B) {L : List B} (h : L ≠ []) : joinB [32] (x :: L) = x ++ [32] ++ joinB [32] L := by
  cases L with
  | nil => exact absurd rfl h
  | cons b r => rfl
end Go.Proofs.YtdkkpfeiaaffhaaGreatDoor.FT

namespace Go.Proofs.YtdkkpfeiaaffhaaGreatDoor.FT
set_option maxRecDepth 100000
open Go.RowKit K Go.Proofs.YtdkkpfeiaaffhaaGreatDoor.BE Go.Proofs.YtdkkpfeiaaffhaaGreatDoor.DN Go.Proofs.YtdkkpfeiaaffhaaGreatDoor.SC

section
variable {P : Program} {ops : Array Oper} {rest : List Oper} {op : Oper} {a : Act} {w : World} {Q : Exit → Act → World → Prop}
end
/-! ### Filters in memory -/
def flV (f : Fl) (vk va : Value) : List Value := [.int .i64 f.kind, vk, .string (sb f.type), .string (sb f.value), .string (sb f.first), va, .string (sb f.last)]
def I64 (n : Int) : Prop := -9223372036854775808 ≤ n ∧ n ≤ 9223372036854775807
/-- A text that may be folded. -/
def Sm (s : B) : Prop := s.length ≤ 4294967000
def FlC : Nat → (Nat → Prop) → World → Fl → List Value → Prop
  | 0, _, _, _, _ => False
  | M + 1, S, w, f, cs => ∃ vk va, cs = flV f vk va ∧ I64 f.kind ∧ Sz f.type ∧ Sz f.value ∧ Sm f.first ∧ Sm f.last ∧ (LsIn S w va f.any ∧ (∀ x ∈ f.any, Sm x) ∧ f.any.length ≤ 4294967000) ∧ Sl 7 (FlC M S w) S w vk f.kids
theorem FlC.fr {S D : Nat → Prop} {w w' : World} (hf : Fr D w w') (hd : ∀ i, S i → i < w.heap.size → ¬ D i) : ∀ {M : Nat} {f : Fl} {cs : List Value}, FlC M S w f cs → FlC M S w' f cs
  | 0, _, _, h => h.elim
  | M + 1, f, cs, h => by
    obtain ⟨vk, va, h1, h2, h3, h4, h5, h6, h7, h8⟩ := h
    exact ⟨vk, va, h1, h2, h3, h4, h5, h6, ⟨h7.1.fr hf hd, h7.2⟩, h8.fr hf hd fun x c _ hx => FlC.fr hf hd hx⟩
theorem FlC.no {M : Nat} {S : Nat → Prop} {w w' : World} {f : Fl} {cs : List Value} (h : FlC M S w f cs) (hf : Fr No w w') : FlC M S w' f cs := h.fr hf fun _ _ _ e => e
theorem FlC.mono {S S' : Nat → Prop} {w : World} (hs : ∀ i, S i → i < w.heap.size → S' i) : ∀ {M : Nat} {f : Fl} {cs : List Value}, FlC M S w f cs → FlC M S' w f cs
  | 0, _, _, h => h.elim
  | M + 1, f, cs, h => by
    obtain ⟨vk, va, h1, h2, h3, h4, h5, h6, h7, h8⟩ := h
    exact ⟨vk, va, h1, h2, h3, h4, h5, h6, ⟨h7.1.mono hs, h7.2⟩, Sl.mono h8 hs fun x c _ hx => FlC.mono hs hx⟩
theorem FlC.up {S : Nat → Prop} {w : World} : ∀ {M : Nat} {f : Fl} {cs : List Value}, FlC M S w f cs → FlC (M + 1) S w f cs
  | 0, _, _, h => h.elim
  | M + 1, f, cs, h => by
    obtain ⟨vk, va, h1, h2, h3, h4, h5, h6, h7, h8⟩ := h
    exact ⟨vk, va, h1, h2, h3, h4, h5, h6, h7, h8.fr (Fr.refl No w) (fun _ _ _ e => e) fun x c _ hx => hx.up⟩
theorem _root_.Go.Proofs.YtdkkpfeiaaffhaaGreatDoor.SC.EnIn.no {S : Nat → Prop} {w w' : World} {v : Value} {en : Ent} (h : EnIn S w v en) (hf : Fr No w w') : EnIn S w' v en := h.fr hf fun _ _ _ e => e
/-- What the functions ask of the package-level variables: also that the library's bound of short texts is a number. -/
def Gm (w : World) : Prop := Gs w ∧ ∃ m, w.cell? ⟨0, 0, none⟩ = some (.int .i64 m)
def GM (X : Nat → Prop) : Prop := GX X ∧ X 0
theorem Gm.no {w w' : World} (h : Gm w) (hf : Fr No w w') : Gm w' := ⟨h.1.no hf, h.2.imp fun _ e => hf.cell e id⟩
theorem Gm.bb {X : Nat → Prop} {w w' : World} {b : Nat} (h : Gm w) (hf : Fr (fun k => k = b) w w') (hx : GM X) (hb : ¬ X b) : Gm w' :=
  ⟨h.1.bb hf hx.1 hb, h.2.imp fun _ e => hf.cell e (fun e => hb (by have e : 0 = b := e; rw [← e]; exact hx.2))⟩
theorem Gm.gx {w : World} (h : Gm w) : GM (fun k => k < w.heap.size) := ⟨h.1.gx, World.block_lt_of_cell? w _ h.2.choose_spec⟩
end Go.Proofs.YtdkkpfeiaaffhaaGreatDoor.FT

namespace Go.Proofs.YtdkkpfeiaaffhaaGreatDoor.FT
set_option maxRecDepth 100000
open Go.Shelf Go.RowKit K Go.Proofs.YtdkkpfeiaaffhaaGreatDoor.BE Go.Proofs.YtdkkpfeiaaffhaaGreatDoor.DN Go.Proofs.YtdkkpfeiaaffhaaGreatDoor.SC

end Go.Proofs.YtdkkpfeiaaffhaaGreatDoor.FT
