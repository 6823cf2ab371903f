/-
  DnJoins.
-/
import Derived.Test.YthjmkfpdbbfcpaaDoorDzA
import Derived.Test.YthjmkfpdbbfcpaaDoorDnLn
set_option linter.unusedVariables false
set_option linter.unusedSimpArgs false
namespace Go.Proofs.YthjmkfpdbbfcpaaDoor.DN
set_option maxRecDepth 100000
open Go.RowKit K Go.Proofs.YthjmkfpdbbfcpaaDoor.BE

theorem buildRdn0 : ∀ w, (Instr.buildSlice 23 0 #[]).run Tryd.prog w = .ok (.slice (some ⟨w.heap.size, 0, none⟩) 0 0) (w.alloc (.cells #[] 37)) := fun _ => by kernel_rfl
theorem nm_of_own {E : Nat → Prop} {base : Nat} {w : World} {v : Value} {N : Nm} {vs : List Value} {n : Nat} (hn : n = N.length) (ho : w.ownsRow base 37 1 v n vs) (hl : N.length ≤ 1048576) (hvl : vs.length = N.length) (hr : ∀ j r, N[j]? = some r → RdIn E w (vs.getD j undef) r) : NmIn (fun _ => True) w v N := by
  subst hn
  obtain ⟨a, cap, rfl, -, hp⟩ := own_form ho
  have hcap : N.length ≤ cap := by
    rcases ho.2 with ⟨h2, h0⟩ | ⟨g', cap', cur, h2, _, _, h3, _⟩
    · have h0 : N.length = 0 := h0
      omega
    · simp only [Value.slice.injEq] at h2
      omega
  refine ⟨a, cap, rfl, hcap, by omega, ?_⟩
  by_cases h0 : N.length = 0
  · exact .inl (List.eq_nil_of_length_eq_zero h0)
  · right
    obtain ⟨g, rfl⟩ := hp (by omega)
    have hg := own_ge ho g rfl
    refine ⟨g, 0, vs.map fun v => [v], rfl, trivial, hg.2, ?_, by simpa using hvl, fun c hc => ?_, fun j x c hx hc => ?_⟩
    · have e : ∀ vs : List Value, (vs.map fun v => [v]).flatten = vs := fun vs => by induction vs <;> simp_all
      rw [e vs]
      intro j u hj
      have := ho.cells (g := g) rfl j u hj
      rwa [Addr.add_mid] at this
    · obtain ⟨v, -, rfl⟩ := List.mem_map.1 hc
      rfl
    · rw [List.getElem?_map] at hc
      obtain ⟨v, hv, rfl⟩ := Option.map_eq_some_iff.1 hc
      have := hr j x hx
      rw [List.getD_eq_getElem?_getD, hv] at this
      exact ⟨v, rfl, this.mono fun _ _ => trivial⟩
theorem exec_addB {op : Oper} {a : Act} (x y : Operand) (u : TypeId) (ho : op.op = .binOp .add 9 x y u) (p q : B) {A C R : ByteArray} (hA : sb p = A) (hC : sb q = C) (hR : sb (p ++ q) = R) (hx : a.eval x = .string A) (hy : a.eval y = .string C) (h : p.length + q.length ≤ 9223372036854775807) (w : World) :
    (execOp a.eval op).run Tryd.prog w = .ok (.value (.string R)) w := by
  subst hA hC hR
  exact exec_addS x y u ho p q hx hy h _ rfl w
set_option maxHeartbeats 16000000 in
theorem dnJoins_walk (a b : B) (w : World) (hG : Gl w) (ha : a.length ≤ 140737488355328) (hb : b.length ≤ 140737488355328) : Calls Tryd.prog 7 #[.string (sb a), .string (sb b)] w fun e w' => e = .returned (.bool true) ∧ Fr No w w' := by
  have HG := hid hG
  have HA := hid ha; have HB := hid hb
  obtain ⟨SA, hSA⟩ : ∃ S, sb a = S := ⟨_, rfl⟩
  obtain ⟨SB, hSB⟩ : ∃ S, sb b = S := ⟨_, rfl⟩
  have HSA := hid hSA; have HSB := hid hSB
  have hza : (SA.size : Int) = a.length := by rw [← hSA, sb_size]
  have hzb : (SB.size : Int) = b.length := by rw [← hSB, sb_size]
  obtain ⟨x, e, hpa⟩ : ∃ x e, parse a = (x, e) := ⟨_, _, rfl⟩
  obtain ⟨y, f, hpb⟩ : ∃ y f, parse b = (y, f) := ⟨_, _, rfl⟩
  have HPA := hid hpa; have HPB := hid hpb
  have HP1 := hid (fun W (h : Gl W) => parse_any a W h)
  have HP2 := hid (fun W (h : Gl W) => parse_any b W h)
  rw [hpa, hSA] at HP1
  rw [hpb, hSB] at HP2
  rw [hSA, hSB]
  clear hG ha hb hpa hpb hSA hSB
  go_enter Tryd.func7, Tryd.ntmps7
  go_wp2_with fail
  refine (awake_any w HG.out).mono ?_
  rintro e1 w1 ⟨rfl, f1⟩
  have HG1 := hid (HG.out.fr f1 id)
  have HF1 := hid f1
  clear f1
  go_wp2_with fail
  refine (HP1.out w1 HG1.out).mono ?_
  rintro e2 w2 ⟨v2, rfl, hn2, f2⟩
  have HG2 := hid (HG1.out.fr f2 id)
  have HF2 := hid (HF1.out.trans' f2)
  have HN2 := hid hn2
  obtain ⟨xa, xc, rfl, -, -⟩ := hn2.form
  clear hn2 f2
  go_wp2_with fail
  refine (HP2.out w2 HG2.out).mono ?_
  rintro e3 w3 ⟨v3, rfl, hn3, f3⟩
  have HG3 := hid (HG2.out.fr f3 id)
  have HF3 := hid (HF2.out.trans' f3)
  have HN23 := hid (HN2.out.no f3)
  have HN3 := hid hn3
  obtain ⟨ya, yc, rfl, -, -⟩ := hn3.form
  clear hn3 f3
  obtain ⟨nx, hnx⟩ : ∃ n, x.length = n := ⟨_, rfl⟩
  obtain ⟨ny, hny⟩ : ∃ n, y.length = n := ⟨_, rfl⟩
  have HNX := hid hnx; have HNY := hid hny
  simp only [hnx, hny]
  clear hnx hny
  have hla : (a.length : Int) ≤ 140737488355328 := by have := HA.out; omega
  have hlb : (b.length : Int) ≤ 140737488355328 := by have := HB.out; omega
  have hnxi : (nx : Int) ≤ 140737488351232 := by have := HN23.out.form; rw [HNX.out] at this; obtain ⟨_, _, _, _, h⟩ := this; omega
  have hnyi : (ny : Int) ≤ 140737488351232 := by have := HN3.out.form; rw [HNY.out] at this; obtain ⟨_, _, _, _, h⟩ := this; omega
  obtain ⟨S1, hS1⟩ : ∃ S, sb (a ++ [44]) = S := ⟨_, rfl⟩
  obtain ⟨S2, hS2⟩ : ∃ S, sb (a ++ 44 :: b) = S := ⟨_, rfl⟩
  have HS1 := hid hS1; have HS2 := hid hS2
  clear hS1 hS2
  go_wp2_with (first
    | ((with_reducible refine K.atO (.binOp .add 9 _ _ _) ?_); refine wpL_valZ (by rfl) (.string S1) (exec_addB _ _ _ rfl a [44] HSA.out rfl HS1.out rfl rfl (by simp; omega) _) ?_)
    | ((with_reducible refine K.atO (.binOp .add 9 _ _ _) ?_); refine wpL_valZ (by rfl) (.string S2) (exec_addB _ _ _ rfl (a ++ [44]) b HS1.out HSB.out (by rw [List.append_assoc]; exact HS2.out) rfl rfl (by simp; omega) _) ?_)
    | fail)
  all_goals first | (go_ret; exact ⟨rfl, HF3.out⟩) | skip
  have hM : e = 0 ∧ f = 0 ∧ x ≠ [] ∧ y ≠ [] ∧ a.length + b.length ≤ 399 ∧ nx + ny ≤ 16 := by
    have h1 := HNX.out
    have h2 := HNY.out
    refine ⟨by assumption, by assumption, ?_, ?_, by omega, by omega⟩
    · rintro rfl
      simp at h1
      omega
    · rintro rfl
      simp at h2
      omega
  obtain ⟨rfl, rfl, hx0, hy0, hl, hn⟩ := hM
  have hpj := parse_join HPA.out HPB.out hx0 hy0 hl (by rw [HNX.out, HNY.out]; exact hn)
  have HPJ := hid hpj
  have H3 := parse_any (a ++ 44 :: b) w3 HG3.out
  rw [hpj, HS2.out] at H3
  refine hid ?_
  refine H3.mono ?_
  rintro e4 w4 ⟨v4, rfl, hn4, f4⟩
  have HF34 := hid f4
  have HN4 := hid hn4
  obtain ⟨za, zc, rfl, -, -⟩ := hn4.form
  have hX := HN23.out.no f4
  have hY := HN3.out.no f4
  obtain ⟨xa', xc', vsx, ex, hcx, hvx, hsx, hrx⟩ := nm_rows hX
  obtain ⟨ya', yc', vsy, ey, hcy, hvy, hsy, hry⟩ := nm_rows hY
  simp only [Value.slice.injEq, true_and] at ex ey
  obtain ⟨rfl, rfl⟩ := ex
  obtain ⟨rfl, rfl⟩ := ey
  have hxl0 : x.length ≠ 0 := fun e => hx0 (List.eq_nil_of_length_eq_zero e)
  have hyl0 : y.length ≠ 0 := fun e => hy0 (List.eq_nil_of_length_eq_zero e)
  obtain ⟨gx, ox, rfl, -, hgx, hRx⟩ := hsx.resolve_left hxl0
  obtain ⟨gy, oy, rfl, -, hgy, hRy⟩ := hsy.resolve_left hyl0
  have one_of : ∀ {E : Nat → Prop} {N : Nm} {vs : List Value}, vs.length = N.length → (∀ j r, N[j]? = some r → RdIn E w4 (vs.getD j undef) r) → ∀ u ∈ vs, u.oneCell' = true := fun hl hr u hu => by
    obtain ⟨j, hj, rfl⟩ := List.mem_iff_getElem.1 hu
    obtain ⟨a, c, h, -, -⟩ := (hr j _ (List.getElem?_eq_getElem (by omega))).form
    rw [List.getD_eq_getElem?_getD, List.getElem?_eq_getElem hj] at h
    simp only [Option.getD_some] at h
    rw [h]
    rfl
  have HX1 := hid (one_of hvx hrx); have HY1 := hid (one_of hvy hry)
  rw [HNX.out] at hvx hcx
  rw [HNY.out] at hvy hcy
  have HVX := hid hvx; have HVY := hid hvy
  have HRX := hid hRx; have HRY := hid hRy; have HRRX := hid hrx; have HRRY := hid hry
  have HBX := hid (parse_b HPB.out)
  have HBZ := hid (parse_b hpj)
  obtain ⟨ir, hi0, hz0, hs0, hb0⟩ := Go.info_parts infoRdn
  have HIS := hid hi0; have HZS := hid hz0; have HSS := hid hs0; have HBS := hid hb0
  have HNN := hid (show nx + ny ≤ 16 ∧ gx < w4.heap.size ∧ gy < w4.heap.size ∧ x.length = nx ∧ y.length = ny from ⟨hn, hgx, hgy, HNX.out, HNY.out⟩)
  have HYV := hid hY
  have hnxy : (nx : Int) + ny ≤ 16 := by omega
  obtain ⟨zn, hzn⟩ : ∃ n, (x ++ y).length = n := ⟨_, rfl⟩
  have HZN := hid hzn
  simp only [hzn, HNX.out, HNY.out] at hX hY ⊢
  clear H3 hpj hx0 hy0 hl hn hn4 f4 hX hY hcx hcy hvx hvy hsx hsy hrx hry hgx hgy hRx hRy one_of hi0 hz0 hs0 hb0 hxl0 hyl0 hzn
  refine hid ?_
  go_wp2_with (first
    | ((with_reducible refine K.atO (.buildSlice 23 _ _) ?_); refine wpL_buildNone rfl _ 37 rfl buildRdn0 ?_; intro w5 HB5 F5 HS5)
    | ((with_reducible refine K.atO (.call { callee := .builtin .append, args := _, argTypes := _ }) ?_); (fail_if_success (have := HO6)); refine wpL_appendNew rfl _ _ 23 rfl w4.heap.size 37 ir _ 1 24 Tryd.underlying23 HIS.out HZS.out HSS.out HBS.out rfl (by decide) (.slice (some ⟨w4.heap.size, 0, none⟩) 0 0) rfl (HB5.out.own (Nat.le_refl _) rfl (Nat.le_refl _) (by decide) rfl rfl) _ nx xc vsx rfl (by rw [HVX.out, Nat.mul_one]) (.inr ⟨_, rfl, fun j u hj => by rw [Addr.add_mid]; exact (F5.out.range HRX.out id) j u hj⟩) HX1.out (by unfold maxLen; have := HNN.out; omega) (by have := HNN.out; omega) F5.out.size ?_; intro a6 c6 w6 HO6 HG6 HA6;
        (have F6 : Hid (Fr No w4 w6) := hid (F5.out.trans (frown HG6.out) fun k e => .inr (by have e : some w4.heap.size = some k := e; have := Option.some.inj e; omega))))
    | ((with_reducible refine K.atO (.call { callee := .builtin .append, args := _, argTypes := _ }) ?_); refine wpL_append rfl _ _ 23 rfl w4.heap.size 37 ir _ 1 24 Tryd.underlying23 HIS.out HZS.out HSS.out HBS.out rfl (by decide) (.slice a6 nx c6) nx vsx rfl HO6.out _ ny yc vsy rfl (by rw [HVY.out, Nat.mul_one]) (.inr ⟨_, rfl, fun j u hj => by rw [Addr.add_mid]; exact (F6.out.range HRY.out id) j u hj⟩) HY1.out (by unfold maxLen; have := HNN.out; omega) (by have := HNN.out; omega) F6.out.size ?_; intro a7 c7 w7 HO7 HG7 HA7;
        (have F7 : Hid (Fr No w4 w7) := hid (F6.out.trans (frown HG7.out) fun k e => .inr (own_ge HO6.out k e).1)))
    | fail)
  have hboth : NmIn (fun _ => True) w7 (.slice a7 (nx + ny) c7) (x ++ y) := by
    have hn := HNN.out
    refine nm_of_own (E := fun _ => True) (by rw [List.length_append]; omega) HO7.out (by rw [List.length_append]; omega) (by rw [List.length_append, List.length_append, HVX.out, HVY.out]; omega) (fun j r hr => ?_)
    have hvx := HVX.out
    by_cases hj : j < nx
    · rw [List.getElem?_append_left (by omega)] at hr
      have h1 := (HRRX.out j r hr).no F7.out
      rw [List.getD_eq_getElem?_getD, List.getElem?_append_left (by omega), ← List.getD_eq_getElem?_getD]
      exact h1.mono fun _ _ => trivial
    · rw [List.getElem?_append_right (by omega), hn.2.2.2.1] at hr
      have h1 := (HRRY.out (j - nx) r hr).no F7.out
      rw [List.getD_eq_getElem?_getD, List.getElem?_append_right (by omega), hvx, ← List.getD_eq_getElem?_getD]
      exact h1.mono fun _ _ => trivial
  have hz := HN4.out.no F7.out
  have hy7 := HYV.out.no F7.out
  rw [HZN.out] at hz
  rw [HNY.out] at hy7
  have H5 := one_any _ _ _ _ _ _ w7 hz hboth
  rw [decide_eq_true rfl] at H5
  have HZ := hid hz; have HY7 := hid hy7
  clear hboth hz hy7
  refine H5.mono ?_
  rintro e8 w8 ⟨rfl, f8⟩
  have HF8 := hid f8
  clear f8 H5
  go_wp2_with fail
  have H6 := under_any _ _ _ _ _ _ w8 (HZ.out.no HF8.out) (HY7.out.no HF8.out) HBZ.out.1 HBX.out.1 HBZ.out.2.1 HBX.out.2.1
  rw [under_app] at H6
  refine H6.mono ?_
  rintro e9 w9 ⟨rfl, f9⟩
  have HF9 := hid f9
  clear f9 H6
  go_wp2_with fail
  go_ret
  exact ⟨rfl, (((HF3.out.trans' HF34.out).trans' F7.out).trans' HF8.out).trans' HF9.out⟩
end Go.Proofs.YthjmkfpdbbfcpaaDoor.DN
