/-
  The laws' own first call: some of the chapter's examples.
-/
import Derived.Test.YthjmkfpdbbfcpaaGreatDoorDnKy
import Derived.Test.YthjmkfpdbbfcpaaGreatDoorDnOne
import Derived.Test.YthjmkfpdbbfcpaaGreatDoorDnRd
set_option linter.unusedVariables false
set_option linter.unusedSimpArgs false
namespace Go.Proofs.YthjmkfpdbbfcpaaGreatDoor.DN
set_option maxRecDepth 100000
open Go.RowKit K Go.Proofs.YthjmkfpdbbfcpaaGreatDoor.BE

theorem p1 : parse [99, 110, 61, 65, 108, 92, 44, 66, 111, 44, 100, 99, 61, 120] = ([[([99, 110], [65, 108, 44, 66, 111])], [([100, 99], [120])]], 0) := by decide +kernel
theorem p2 : parse [97, 61, 49, 43, 65, 61, 50] = ([], 120) := by decide +kernel
theorem p3 : parse [97, 61, 49, 32] = ([], 120) := by decide +kernel
theorem p4 : parse [97, 61, 92, 50, 48, 92, 52, 97] = ([[([97], [32, 74])]], 0) := by decide +kernel
theorem p5 : parse [99, 110, 61, 65, 44, 100, 99, 61, 88] = ([[([99, 110], [65])], [([100, 99], [88])]], 0) := by decide +kernel
theorem p6 : parse [68, 67, 61, 120] = ([[([68, 67], [120])]], 0) := by decide +kernel
theorem q1 : printT [[([97], [32, 74])]] = [97, 61, 92, 32, 74] := by decide +kernel
theorem q2 : fold [32, 65, 108, 32, 32, 66, 32] = [97, 108, 32, 98] := by decide +kernel
theorem q3 : key [[([99, 110], [65])], [([100, 99], [88])]] = [100, 99, 61, 120, 0, 99, 110, 61, 97, 0] := by decide +kernel
theorem q4 : under [[([99, 110], [65])], [([100, 99], [88])]] [[([68, 67], [120])]] = true := by decide +kernel
theorem q5 : under [[([68, 67], [120])]] [[([99, 110], [65])], [([100, 99], [88])]] = false := by decide +kernel
/-- A step of one, where it lies. -/
theorem rd1 {E : Nat → Prop} {w : World} {v : Value} {p : Av} (h : RdIn E w v [p]) : ∃ g o c, v = .slice (some ⟨g, o, none⟩) 1 c ∧ 1 ≤ c ∧ w.rangeAt g o [.string (sb p.1), .string (sb p.2)] := by
  obtain ⟨g, o, cq, c, e1, -, -, hrr, hc, hxa⟩ := h.get (j := 0) rfl
  obtain ⟨rfl, -, -⟩ := hxa
  obtain ⟨a, cap, e2, h2, -⟩ := h.form
  rw [e1] at e2
  simp only [Value.slice.injEq] at e2
  exact ⟨g, o, cq, e1, by rw [e2.2.2]; exact h2, by simpa using hrr⟩
/-- A name of two steps, each of one, where it lies. -/
theorem nm2 {E : Nat → Prop} {w : World} {v : Value} {p q : Av} (h : NmIn E w v [[p], [q]]) : ∃ g o c g1 o1 c1 g2 o2 c2, v = .slice (some ⟨g, o, none⟩) 2 c ∧ 2 ≤ c ∧ 1 ≤ c1 ∧ 1 ≤ c2 ∧ ∀ w', Fr No w w' →
    w'.cell? ⟨g, o, none⟩ = some (.slice (some ⟨g1, o1, none⟩) 1 c1) ∧ w'.cell? ⟨g, o + 1, none⟩ = some (.slice (some ⟨g2, o2, none⟩) 1 c2) ∧ w'.rangeAt g1 o1 [.string (sb p.1), .string (sb p.2)] ∧ w'.rangeAt g2 o2 [.string (sb q.1), .string (sb q.2)] := by
  obtain ⟨g, o, cq, c, e1, -, -, hrr, hc, v1, rfl, h1⟩ := h.get (j := 0) rfl
  obtain ⟨g', o', cq', c', e1', -, -, hrr', hc', v2, rfl, h2⟩ := h.get (j := 1) rfl
  obtain ⟨a, cap, e2, hcap, -⟩ := h.form
  rw [e1] at e1' e2
  simp only [Value.slice.injEq, true_and, Option.some.injEq, Addr.mk.injEq, and_true] at e1' e2
  obtain ⟨⟨rfl, rfl⟩, rfl⟩ := e1'
  obtain ⟨g1, o1, c1, rfl, k1, r1⟩ := rd1 h1
  obtain ⟨g2, o2, c2, rfl, k2, r2⟩ := rd1 h2
  have d1 := hrr 0 _ rfl
  have d2 := hrr' 0 _ rfl
  simp only [Nat.zero_mul, Nat.add_zero, Nat.one_mul] at d1 d2
  exact ⟨g, o, cq, g1, o1, c1, g2, o2, c2, e1, by rw [e2.2]; exact hcap, k1, k2, fun w' hf => ⟨hf.cell d1 id, hf.cell d2 id, hf.range r1 id, hf.range r2 id⟩⟩
theorem exec_eqT {op : Oper} {a : Act} (x y : Operand) (u : TypeId) (ho : op.op = .binOp .eql 9 x y u) (p q : B) (r : Bool) (hr : decide (p = q) = r) (hx : a.eval x = .string (sb p)) (hy : a.eval y = .string (sb q)) (w : World) :
    (execOp a.eval op).run Tryz.prog w = .ok (.value (.bool r)) w := by
  subst hr
  exact exec_eqS x y u ho p q hx hy w
set_option maxHeartbeats 16000000 in
theorem awake_any (w : World) (hG : Gl w) : Calls Tryz.prog 4 #[] w fun e w' => e = .returned (.bool true) ∧ Fr No w w' := by
  have HG := hid hG
  clear hG
  go_enter Tryz.func4, Tryz.ntmps4
  go_wp2_with fail
  have H1 := parse_any [99, 110, 61, 65, 108, 92, 44, 66, 111, 44, 100, 99, 61, 120] w HG.out
  rw [p1] at H1
  refine H1.mono ?_
  rintro e w1 ⟨v, rfl, hv, f1⟩
  obtain ⟨g, o, c, g1, o1, c1, g2, o2, c2, rfl, hc, hc1, hc2, hR⟩ := nm2 hv
  obtain ⟨d1, d2, -, -⟩ := hR w1 (Fr.refl _ _)
  have HF1 := hid f1; have HR := hid hR
  have HG := hid (HG.out.fr f1 id)
  clear H1 hv f1 hR
  go_wp2_with fail
  have H2 := parse_any [97, 61, 49, 43, 65, 61, 50] w1 HG.out
  rw [p2] at H2
  refine H2.mono ?_
  rintro e w2 ⟨v2, rfl, -, f2⟩
  have HF2 := hid f2
  clear H2 f2 d1 d2
  go_wp2_with fail
  have H3 := parse_any [97, 61, 49, 32] w2 (HG.out.fr HF2.out id)
  rw [p3] at H3
  refine H3.mono ?_
  rintro e w3 ⟨v3, rfl, -, f3⟩
  have HF3 := hid (HF2.out.trans' f3)
  clear H3 f3
  go_wp2_with fail
  have H4 := parse_any [97, 61, 92, 50, 48, 92, 52, 97] w3 (HG.out.fr HF3.out id)
  rw [p4] at H4
  refine H4.mono ?_
  rintro e w4 ⟨v4, rfl, hv4, f4⟩
  have HF4 := hid (HF3.out.trans' f4)
  clear H4 f4
  go_wp2_with fail
  have H5 := print_any _ v4 _ w4 hv4 (by unfold NmB RdB AvB; decide) (by decide) (by decide)
  rw [q1] at H5
  refine H5.mono ?_
  rintro e w5 ⟨rfl, f5⟩
  have HF5 := hid (HF4.out.trans' f5)
  clear H5 f5 hv4
  go_wp2_with fail
  have H6 := fold_any [32, 65, 108, 32, 32, 66, 32] (by decide) w5
  rw [q2] at H6
  refine H6.mono ?_
  rintro e w6 ⟨rfl, f6⟩
  have HF6 := hid (HF5.out.trans' f6)
  clear H6 f6
  go_wp2_with fail
  have H7 := parse_any [99, 110, 61, 65, 44, 100, 99, 61, 88] w6 (HG.out.fr HF6.out id)
  rw [p5] at H7
  refine H7.mono ?_
  rintro e w7 ⟨v7, rfl, hv7, f7⟩
  have HF7 := hid (HF6.out.trans' f7)
  have HV7 := hid hv7
  clear H7 f7 hv7
  go_wp2_with fail
  have H8 := parse_any [68, 67, 61, 120] w7 (HG.out.fr HF7.out id)
  rw [p6] at H8
  refine H8.mono ?_
  rintro e w8 ⟨v8, rfl, hv8, f8⟩
  have HF8 := hid (HF7.out.trans' f8)
  have HV8 := hid hv8
  have HV78 := hid (HV7.out.no f8)
  clear H8 f8 hv8
  go_wp2_with fail
  have hbx : NmB 1048576 [[(([99, 110] : B), ([65] : B))], [([100, 99], [88])]] := by unfold NmB RdB AvB; decide
  have hby : NmB 1048576 [[(([68, 67] : B), ([120] : B))]] := by unfold NmB RdB AvB; decide
  have hsx : Short [[(([99, 110] : B), ([65] : B))], [([100, 99], [88])]] := by unfold Short; decide
  have hsy : Short [[(([68, 67] : B), ([120] : B))]] := by unfold Short; decide
  have H9 := key_any _ v7 _ w8 HV78.out hbx hsx (by decide) (by decide)
  rw [q3] at H9
  refine H9.mono ?_
  rintro e w9 ⟨rfl, f9⟩
  have HF9 := hid (HF8.out.trans' f9)
  have HV79 := hid (HV78.out.no f9)
  have HV89 := hid (HV8.out.no f9)
  clear H9 f9
  go_wp2_with fail
  have H10 := under_any _ _ v7 v8 _ _ w9 HV79.out HV89.out hbx hby hsx hsy
  rw [q4] at H10
  refine H10.mono ?_
  rintro e w10 ⟨rfl, f10⟩
  have HF10 := hid (HF9.out.trans' f10)
  have HV710 := hid (HV79.out.no f10)
  have HV810 := hid (HV89.out.no f10)
  clear H10 f10
  go_wp2_with fail
  have H11 := under_any _ _ v8 v7 _ _ w10 HV810.out HV710.out hby hbx hsy hsx
  rw [q5] at H11
  refine H11.mono ?_
  rintro e w11 ⟨rfl, f11⟩
  have HF11 := hid (HF10.out.trans' f11)
  clear H11 f11 hbx hby hsx hsy
  obtain ⟨d1, d2, r1, r2⟩ := HR.out w11 HF11.out
  have HR1 := hid r1; have HR2 := hid r2
  clear r1 r2
  go_wp2_with (first
    | ((with_reducible refine K.atO (.load 35 _) ?_); refine wpL_valZ (by rfl) _ (exec_load _ _ rfl g1 o1 rfl _ _ rfl rfl infoAv _ HR1.out) ?_)
    | ((with_reducible refine K.atO (.load 35 _) ?_); refine wpL_valZ (by rfl) _ (exec_load _ _ rfl g2 o2 rfl _ _ rfl rfl infoAv _ HR2.out) ?_)
    | ((with_reducible refine K.atO (.binOp .eql 35 _ _ _) ?_); refine wpL_valZ (by rfl) (.bool true) (exec_eqAv _ _ _ rfl ([99, 110], [65, 108, 44, 66, 111]) ([99, 110], [65, 108, 44, 66, 111]) true (by decide) rfl rfl _) ?_)
    | ((with_reducible refine K.atO (.binOp .eql 35 _ _ _) ?_); refine wpL_valZ (by rfl) (.bool true) (exec_eqAv _ _ _ rfl ([100, 99], [120]) ([100, 99], [120]) true (by decide) rfl rfl _) ?_)
    | ((with_reducible refine K.atO (.binOp .eql 9 _ _ _) ?_); refine wpL_valZ (by rfl) (.bool true) (exec_eqT _ _ _ rfl [97, 61, 92, 32, 74] [97, 61, 92, 32, 74] true (by decide) rfl rfl _) ?_)
    | ((with_reducible refine K.atO (.binOp .eql 9 _ _ _) ?_); refine wpL_valZ (by rfl) (.bool true) (exec_eqT _ _ _ rfl [97, 108, 32, 98] [97, 108, 32, 98] true (by decide) rfl rfl _) ?_)
    | ((with_reducible refine K.atO (.binOp .eql 9 _ _ _) ?_); refine wpL_valZ (by rfl) (.bool true) (exec_eqT _ _ _ rfl [100, 99, 61, 120, 0, 99, 110, 61, 97, 0] [100, 99, 61, 120, 0, 99, 110, 61, 97, 0] true (by decide) rfl rfl _) ?_)
    | fail)
  go_ret
  exact ⟨rfl, HF1.out.trans' HF11.out⟩
end Go.Proofs.YthjmkfpdbbfcpaaGreatDoor.DN
