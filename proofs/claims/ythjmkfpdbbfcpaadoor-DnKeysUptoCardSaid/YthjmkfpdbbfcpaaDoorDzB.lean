/-
  Right; DnBack.
-/
import Derived.Test.YthjmkfpdbbfcpaaDoorDzA
import Derived.Test.YthjmkfpdbbfcpaaDoorDnLn
set_option linter.unusedVariables false
set_option linter.unusedSimpArgs false
namespace Go.Proofs.YthjmkfpdbbfcpaaDoor.DN
set_option maxRecDepth 100000
open Go.RowKit K Go.Proofs.YthjmkfpdbbfcpaaDoor.BE

theorem built_b {n : Nm} (h : built n = true) : n.length ≤ 16 ∧ (∀ r ∈ n, r.length ≤ 4) ∧ Short n := by
  have hb2 := h
  simp only [built, Bool.and_eq_true, decide_eq_true_eq] at hb2
  have h4 : ∀ r ∈ n, 1 ≤ r.length ∧ r.length ≤ 4 := fun r hr => by
    obtain ⟨h1, h2, -⟩ := built_step h r hr
    exact ⟨List.length_pos_iff.2 h1, h2⟩
  exact ⟨hb2.1, fun r hr => (h4 r hr).2, fun r hr => ⟨(h4 r hr).1, by have := (h4 r hr).2; omega⟩⟩
set_option maxHeartbeats 4000000 in
theorem right_any (E : Nat → Prop) (v : Value) (n : Nm) (w : World) (h : NmIn E w v n) (hb : NmB 1048576 n) : Calls Tryd.prog 9 #[v] w fun e w' => e = .returned (.bool (right n)) ∧ Fr No w w' := by
  have H1 := hid (isBuilt_any E v n w h)
  have HH := hid h
  have HB := hid hb
  obtain ⟨bu, hbu⟩ : ∃ bu, built n = bu := ⟨_, rfl⟩
  have HBU := hid hbu
  rw [hbu] at H1
  obtain ⟨a, cp, rfl, -, -⟩ := h.form
  clear h hb hbu
  cases bu with
  | false =>
    have hr : right n = false := by unfold right; rw [HBU.out]; rfl
    rw [hr]
    go_enter Tryd.func9, Tryd.ntmps9
    go_wp2_with fail
    refine H1.out.mono ?_
    rintro e w1 ⟨rfl, f1⟩
    have HF1 := hid f1
    clear f1
    go_wp2_with fail
    go_ret
    exact ⟨rfl, HF1.out⟩
  | true =>
    obtain ⟨h16, h4, -⟩ := built_b HBU.out
    have H2 := hid (fun W (hf : Fr No w W) => print_any E _ n W (HH.out.no hf) HB.out h16 h4)
    have hr : right n = decide ((printT n).length ≤ 400) := by unfold right; rw [HBU.out]; rfl
    rw [hr]
    obtain ⟨s, hs⟩ : ∃ s, printT n = s := ⟨_, rfl⟩
    rw [hs] at H2 ⊢
    obtain ⟨S, hS⟩ : ∃ S, sb s = S := ⟨_, rfl⟩
    have hz : (S.size : Int) = s.length := by rw [← hS, sb_size]
    rw [hS] at H2
    clear h16 h4 hr hs hS
    by_cases h4 : s.length ≤ 400
    · have h4i : (s.length : Int) ≤ 400 := by omega
      rw [decide_eq_true h4]
      go_enter Tryd.func9, Tryd.ntmps9
      go_wp2_with fail
      refine H1.out.mono ?_
      rintro e w1 ⟨rfl, f1⟩
      have HF1 := hid f1
      clear f1
      go_wp2_with fail
      refine (H2.out w1 HF1.out).mono ?_
      rintro e w2 ⟨rfl, f2⟩
      have HF2 := hid (HF1.out.trans' f2)
      clear f2
      go_wp2_with fail
      go_ret
      exact ⟨rfl, HF2.out⟩
    · have h4i : ¬ (s.length : Int) ≤ 400 := by omega
      rw [decide_eq_false h4]
      go_enter Tryd.func9, Tryd.ntmps9
      go_wp2_with fail
      refine H1.out.mono ?_
      rintro e w1 ⟨rfl, f1⟩
      have HF1 := hid f1
      clear f1
      go_wp2_with fail
      refine (H2.out w1 HF1.out).mono ?_
      rintro e w2 ⟨rfl, f2⟩
      have HF2 := hid (HF1.out.trans' f2)
      clear f2
      go_wp2_with fail
      go_ret
      exact ⟨congrArg (fun b => Ending.returned (Value.bool b)) (decide_eq_false (by omega)), HF2.out⟩
set_option maxHeartbeats 8000000 in
theorem dnBack_walk {E : Nat → Prop} (v : Value) (n : Nm) (w : World) (hG : Gl w) (hn : NmIn E w v n) (hb : NmB 1048576 n) : Calls Tryd.prog 3 #[v] w fun e w' => e = .returned (.bool true) ∧ Fr No w w' := by
  have HG := hid hG
  have HN := hid hn
  have HB := hid hb
  obtain ⟨a, cp, rfl, -, -⟩ := hn.form
  obtain ⟨R, hR⟩ : ∃ R, right n = R := ⟨_, rfl⟩
  have HR := hid hR
  clear hG hn hb hR
  go_enter Tryd.func3, Tryd.ntmps3
  go_wp2_with fail
  refine (awake_any w HG.out).mono ?_
  rintro e1 w1 ⟨rfl, f1⟩
  have HF1 := hid f1
  clear f1
  go_wp2_with fail
  have H2 := right_any E _ n w1 (HN.out.no HF1.out) HB.out
  rw [HR.out] at H2
  refine H2.mono ?_
  rintro e2 w2 ⟨rfl, f2⟩
  have HF2 := hid (HF1.out.trans' f2)
  clear f2 H2
  cases R with
  | false =>
    go_wp2_with fail
    go_ret
    exact ⟨rfl, HF2.out⟩
  | true =>
    have HBU : Hid (built n = true) := hid (by have h := HR.out; unfold right at h; rw [Bool.and_eq_true] at h; exact h.1)
    have HL : Hid ((printT n).length ≤ 400) := hid (by have h := HR.out; unfold right at h; rw [Bool.and_eq_true] at h; simpa using h.2)
    obtain ⟨s, hs⟩ : ∃ s, printT n = s := ⟨_, rfl⟩
    obtain ⟨S, hS⟩ : ∃ S, sb s = S := ⟨_, rfl⟩
    have HS := hid hS
    have HPS := hid hs
    have hz : (S.size : Int) = s.length := by rw [← hS, sb_size]
    have h4i : (s.length : Int) ≤ 400 := by have := HL.out; rw [hs] at this; omega
    have h16 := (built_b HBU.out).1
    have h4 := (built_b HBU.out).2.1
    have H3 := hid (fun W (hf : Fr No w W) => print_any E _ n W (HN.out.no hf) HB.out h16 h4)
    rw [hs, hS] at H3
    have hpp := parse_print HR.out
    rw [hs] at hpp
    have HPP := hid hpp
    clear hs hS h16 h4 hpp
    go_wp2_with fail
    refine (H3.out w2 HF2.out).mono ?_
    rintro e3 w3 ⟨rfl, f3⟩
    have HF3 := hid (HF2.out.trans' f3)
    clear f3
    go_wp2_with fail
    have H4 := parse_any s w3 (HG.out.fr HF3.out id)
    rw [HPP.out, HS.out] at H4
    refine H4.mono ?_
    rintro e4 w4 ⟨v4, rfl, hn4, f4⟩
    have HF4 := hid (HF3.out.trans' f4)
    have HN4 := hid hn4
    obtain ⟨a4, c4, rfl, -, -⟩ := hn4.form
    clear hn4 f4 H4
    go_wp2_with fail
    have H5 := one_any _ _ _ _ _ _ w4 (HN.out.no HF4.out) HN4.out
    rw [decide_eq_true rfl] at H5
    refine H5.mono ?_
    rintro e5 w5 ⟨rfl, f5⟩
    have HF5 := hid (HF4.out.trans' f5)
    clear f5 H5
    go_wp2_with fail
    go_ret
    exact ⟨rfl, HF5.out⟩
end Go.Proofs.YthjmkfpdbbfcpaaDoor.DN
