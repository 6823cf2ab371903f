/-
  FilterTurnedUpto is proved: whatever the schema, the entry and the kids, the law returns true, and its arguments read behind it as they did. What the row lists is tied to the program's text.
-/
import Derived.Test.YtdkkpfeiaaffhaaGreatDoorFb18
import Derived.Test.YtdkkpfeiaaffhaaGreatDoorFb25
import Derived.Test.YtdkkpfeiaaffhaaGreatDoorFb00
set_option linter.unusedSimpArgs false
set_option linter.unusedVariables false
namespace Go.Proofs.YtdkkpfeiaaffhaaGreatDoor
set_option maxRecDepth 100000
open Go.ChangeShapes Go.WideShapes Go.ChangeAt Go.RowKit K Go.Proofs.YtdkkpfeiaaffhaaGreatDoor.BE Go.Proofs.YtdkkpfeiaaffhaaGreatDoor.DN Go.Proofs.YtdkkpfeiaaffhaaGreatDoor.SC Go.Proofs.YtdkkpfeiaaffhaaGreatDoor.FT

theorem filterTurned_met (os : Os) : laidMet Tryz.prog FT.laid ((FT.laidWorld os).forCall (fun _ _ => 0) ⟨#[], #[.agg #[.slice none 0 0, .slice none 0 0], .slice none 0 0, .slice none 0 0, .bool false], []⟩).memory :=
  laidMet_of_run' 8 (by kernel_rfl) (by kernel_rfl)
theorem filterTurned_reads (os : Os) {H : Type} (enc : TypeId × Value → H) : ∃ places, DataW.whole enc Tryz.prog ((FT.laidWorld os).forCall (fun _ _ => 0) ⟨#[], #[.agg #[.slice none 0 0, .slice none 0 0], .slice none 0 0, .slice none 0 0, .bool false], []⟩).memory Tryz.f8.params.toList Rows.filterTurnedSpec.vars false #[Value.agg #[.slice none 0 0, .slice none 0 0], .slice none 0 0, .slice none 0 0, .bool false].toList 8 = some ([.agg [.nil, .nil], .nil, .nil, .lit (.bool false)], [], places) :=
  ⟨[], by kernel_rfl⟩
set_option maxRecDepth 100000 in
theorem filterTurned_lifted (os : Os) (started : os.Started) (H : Type) (enc : TypeId × Value → H) (F : Stop.Interp) :
    ReturnsInHanded {} Tryz.checked os 8 .any ((Rows.OpenSpec.upto Rows.filterTurnedSpec).preRow enc Tryz.prog Tryz.f8 Rows.filterTurnedUptoRow.domain false Rows.filterTurnedUptoRow.laid) (((Rows.OpenSpec.upto Rows.filterTurnedSpec).at F).post enc Tryz.prog Tryz.f8 false true false false) := by
  obtain ⟨places, hx⟩ := filterTurned_reads os enc
  refine returnsInHanded_of_row (C := Tryz.checked) (s := (Rows.OpenSpec.upto Rows.filterTurnedSpec)) own started (by kernel_rfl) Tryz.func8
    (witness_row_at (enc := enc) (C := Tryz.checked) false (FT.laidWorld os) #[.agg #[.slice none 0 0, .slice none 0 0], .slice none 0 0, .slice none 0 0, .bool false] rfl (by kernel_rfl) (by kernel_rfl) (by kernel_rfl)
      (OpenSpec.preRow_of_cond 8 hx (by kernel_rfl) (fun k hk => by cases hk; kernel_rfl) (by kernel_rfl) (filterTurned_met os))) ?_
  intro W base args ds gs before hval0 hW _ hcond hsz0 hL0 hsh _
  have hL : laidMetH Tryz.prog FT.laid W := hL0
  have hval : ∀ (j : Nat) t v, Tryz.f8.params[j]? = some t → args[j]? = some v → Value.okWide Tryz.prog W .any base t v := hval0
  have hsz : (DataW.weightsEach Tryz.prog (Tryz.f8.params.toList ++ Rows.filterTurnedSpec.plain.varTypes Tryz.prog) (ds ++ gs)).all (· ≤ reachBytes) = true := hsz0
  have hW' : DataW.Whole enc Tryz.prog Tryz.f8.params.toList Rows.filterTurnedSpec.vars false W args.toList ds gs before := hW
  obtain ⟨p, q, hA0, hV, rfl, hfz, hnd⟩ := hW
  have hA : DataW.TrodAll enc Tryz.prog W 0 (fun _ => true) true Tryz.f8.params.toList args.toList ds p := hA0
  rw [Tryz.params8] at hA hval hsz
  obtain ⟨v0, vs0, d0, ds0, p0, q0, hargs, rfl, rfl, h0, r0⟩ := trodAll_cons hA
  obtain ⟨v1, vs1, d1, ds1, p1, q1, rfl, rfl, rfl, h1, r1⟩ := trodAll_cons r0
  obtain ⟨v2, vs2, d2, ds2, p2, q2, rfl, rfl, rfl, h2, r2⟩ := trodAll_cons r1
  obtain ⟨v3, vs3, d3, ds3, p3, q3, rfl, rfl, rfl, h3, r3⟩ := trodAll_cons r2
  obtain ⟨rfl, rfl, rfl⟩ := trodAll_nil r3
  obtain rfl : args = #[v0, v1, v2, v3] := by cases args; simp_all
  obtain ⟨rfl, rfl⟩ := trodVars_none hV
  have hb := bulks.bound (hcond _ rfl)
  simp only [Rows.uptoBulkAll, List.append_nil] at hb
  obtain ⟨vt0, vc0, s0, rfl, hv0, hc0, hb0⟩ := arg_sch h0 (okWide_struct Tryz.underlying25 (hval 0 _ v0 rfl rfl)) hsz 0 rfl rfl
  obtain ⟨n1, hn1, hb1, hl1⟩ := arg_en h1 (okWide_slice Tryz.underlying38 (hval 1 _ v1 rfl rfl)) hsz 1 rfl rfl
  obtain ⟨M2, k2, hk2, hb2⟩ := arg_fls (by omega) h2 (okWide_slice Tryz.underlying43 (hval 2 _ v2 rfl rfl)) hsz 2 rfl rfl
  obtain ⟨b3, rfl⟩ := okWide_bool Tryz.underlying4 (hval 3 _ v3 rfl rfl)
  clear hA0 hval0
  simp only [List.append_nil] at hW'
  refine (turnedLaw vt0 vc0 v1 v2 s0 n1 k2 b3 W hv0 hc0 (gm_of hL hsh) hn1 (ens_of hb1 (by omega)) hk2 (by omega)).mono fun e W' ⟨he, hfr⟩ => ?_
  subst he
  have bel : Below W.heap.size W W' := hfr.below (fun _ e => e.elim) (Nat.le_refl _)
  exact ⟨_, rfl, _, _, _, [], _, [], hW', trodAll_mk1 (shut_bool Tryz.underlying4 _), trodAll_cons_mk (again (by kernel_rfl) (of_decide_eq_true (by kernel_rfl)) h0 bel) (trodAll_cons_mk (again (by kernel_rfl) (of_decide_eq_true (by kernel_rfl)) h1 bel) (trodAll_cons_mk (again (by kernel_rfl) (of_decide_eq_true (by kernel_rfl)) h2 bel) (trodAll_cons_mk (again (by kernel_rfl) (of_decide_eq_true (by kernel_rfl)) h3 bel) trodAll_mk0))), rfl, bel.frame _, fun h => by cases h⟩
theorem filterTurned_ip : (Rows.filterTurnedUptoRow.inPlace == Tryz.pinned.checked.prog.inPlace 8) = true := by kernel_rfl
theorem filterTurned_un : (Rows.filterTurnedUptoRow.unfollowed == Tryz.pinned.checked.prog.unfollowed 8) = true := by kernel_rfl
theorem filterTurned_re : (Rows.filterTurnedUptoRow.recurses == Tryz.pinned.checked.prog.recurses 8) = true := by kernel_rfl
theorem filterTurned_vn : (Rows.filterTurnedUptoRow.named == Tryz.pinned.checked.prog.varsNamed 8) = true := by kernel_rfl
theorem filterTurned_facts : joinedFacts Tryz.pinned.checked.prog 8 Tryz.f8 (Rows.OpenSpec.upto Rows.filterTurnedSpec).bare Rows.filterTurnedUptoRow = true := by
  unfold joinedFacts
  rw [filterTurned_ip, filterTurned_un, filterTurned_re, filterTurned_vn]
  kernel_rfl
theorem filterTurned_said : Rows.FilterTurnedUptoSaid :=
  OpenClaim.holds_of_cond 8 Tryz.f8 rfl rfl rfl rfl rfl rfl rfl ⟨rfl, rfl, rfl, rfl, rfl⟩ rfl rfl rfl rfl rfl (by kernel_rfl) Tryz.func8 filterTurned_facts
    (of_decide_eq_true (by kernel_rfl)) (by unfold Func.isWrapper; first | (rw [if_pos (by decide +kernel)]; kernel_rfl) | (rw [if_neg (by decide +kernel)]; exact ⟨rfl, rfl⟩))
    (fun os started H enc _ F => by rw [OpenClaim.pre_eq_preRow]; exact filterTurned_lifted os started H enc F)
theorem filterTurned_plain (f : FuncId) (fn : Func) (hf : Tryz.pinned.checked.prog.funcNamed "palatine/palatinelaw14.FilterTurned" = some f) (hfn : Tryz.pinned.checked.prog.funcs[f]? = some fn) :
    true = Tryz.pinned.checked.prog.looks [] ∧ ∀ (j : Nat) t, fn.params[j]? = some t → Tryz.pinned.checked.prog.wantsStandIn t = false := by
  obtain rfl : f = 8 := Option.some.inj ((show Tryz.prog.funcNamed "palatine/palatinelaw14.FilterTurned" = some 8 by kernel_rfl).symm.trans hf) |>.symm
  obtain rfl : fn = Tryz.f8 := (Option.some.inj (Tryz.func8.symm.trans hfn)).symm
  refine ⟨by kernel_rfl, fun j t ht => ?_⟩
  rw [Tryz.params8] at ht
  have hm : t = 25 ∨ t = 38 ∨ t = 43 ∨ t = 4 := by simpa using Array.mem_of_getElem? ht
  rcases hm with rfl | rfl | rfl | rfl
  · exact (show Tryz.prog.wantsStandIn 25 = false by kernel_rfl)
  · exact (show Tryz.prog.wantsStandIn 38 = false by kernel_rfl)
  · exact (show Tryz.prog.wantsStandIn 43 = false by kernel_rfl)
  · exact (show Tryz.prog.wantsStandIn 4 = false by kernel_rfl)
/-- FilterTurned: the card. -/
theorem filterTurned_holds : Rows.FilterTurnedUptoCardSaid :=
  Claim7.holds_tied_plain_at .later [] _ _ _ _ filterTurned_said (fun _ h => by cases h) (by kernel_rfl) (fun _ h => by cases h) filterTurnedUpto_row_tie rfl ⟨rfl, rfl⟩ (by kernel_rfl) rfl filterTurned_plain (by kernel_rfl)
end Go.Proofs.YtdkkpfeiaaffhaaGreatDoor
