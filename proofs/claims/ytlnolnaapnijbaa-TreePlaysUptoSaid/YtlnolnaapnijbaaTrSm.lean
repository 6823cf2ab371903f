/-
  The laws' helpers: Same of like lists, short.
-/
import Derived.Test.YtlnolnaapnijbaaTrRow
import Derived.Test.YtlnolnaapnijbaaTrLa
import Derived.Test.YtlnolnaapnijbaaTrSa
namespace Go.Proofs.Ytlnolnaapnijbaa.TR
set_option maxRecDepth 100000
open Go.RowKit K

set_option maxHeartbeats 8000000 in
theorem same_eq (w : World) (v0 v1 : Value) (l : L) (h0 : PR w v0 l) (h1 : PR w v1 l) (hn : l.length ≤ 4398046511104) : Calls Try.prog 21 #[v0, v1] w fun e w' => e = .returned (.bool true) ∧ Fr No w w' := by
  obtain ⟨a0, c0, rfl, h0⟩ := h0
  obtain ⟨a1, c1, rfl, h1⟩ := h1
  have H0 := hid h0; have H1 := hid h1
  have hni : (l.length : Int) ≤ 4398046511104 := by omega
  clear h0 h1 hn
  go_enter Try.func21, Try.ntmps21
  go_wp2_with fail
  go_loopw [5] (fun i wr => ∃ j : Nat, j ≤ l.length ∧ i = .int .i64 (j : Int) ∧ Hid (Fr No w wr)) (fun i _ => l.length - (intOf i).toNat)
  case atStart => exact ⟨0, by omega, rfl, hid (Fr.refl _ _)⟩
  case round =>
    obtain ⟨j, hj, rfl, HF⟩ := hrel
    by_cases hlt : j < l.length
    · have hlt' : (j : Int) < (l.length : Int) := by omega
      obtain ⟨x, hx⟩ : ∃ x, l[j]? = some x := ⟨_, List.getElem?_eq_getElem hlt⟩
      obtain ⟨g0, o0, rfl, hr0⟩ : ∃ g0 o0, a0 = some ⟨g0, o0, none⟩ ∧ wr.rangeAt g0 o0 (pcs l) := by
        rcases H0.out with e | ⟨g0, o0, e, hr⟩
        · rw [e] at hlt; simp at hlt
        · exact ⟨g0, o0, e, HF.out.range hr id⟩
      obtain ⟨g1, o1, rfl, hr1⟩ : ∃ g1 o1, a1 = some ⟨g1, o1, none⟩ ∧ wr.rangeAt g1 o1 (pcs l) := by
        rcases H1.out with e | ⟨g1, o1, e, hr⟩
        · rw [e] at hlt; simp at hlt
        · exact ⟨g1, o1, e, HF.out.range hr id⟩
      have k0 := (pr_cells hr0 hx).1
      have k1 := (pr_cells hr1 hx).1
      have u0 := (pr_cells hr0 hx).2
      have u1 := (pr_cells hr1 hx).2
      have hnk := run_neqs x.1 x.1
      have hji : (j : Int) ≤ 4398046511104 := by omega
      clear hr0 hr1 hx
      go_wp2_with fail
      have hold : Facts.hold [(4, fun w' => w'.cell? ⟨g0, o0 + j * 2, none⟩ = some (.string x.1)), (9, fun w' => w'.cell? ⟨g1, o1 + j * 2, none⟩ = some (.string x.1)), (16, fun w' => w'.cell? ⟨g0, o0 + j * 2 + 1, none⟩ = some (.string x.2)), (21, fun w' => w'.cell? ⟨g1, o1 + j * 2 + 1, none⟩ = some (.string x.2))] wr.drew := Facts.cons_hold k0 (Facts.cons_hold k1 (Facts.cons_hold u0 (Facts.cons_hold u1 (Facts.nil_hold _))))
      refine wpD_region hold (by kernel_rfl) 24 rfl ?_
      (refine wpD_plain 0 (v := ?_) rfl (by kernel_rfl) (by kernel_rfl) (by kernel_rfl) (fun _ _ _ h => h) (by rfl) ?_ (by assumption) ?_; rotate_left; (intro _w; go_simp; try with_reducible rfl); simp only [Act.put, List.setIfInBounds_toArray, List.set_cons_zero, List.set_cons_succ])
      (refine wpD_plain 1 (v := ?_) rfl (by kernel_rfl) (by kernel_rfl) (by kernel_rfl) (fun _ _ _ h => h) (by rfl) ?_ (by assumption) ?_; rotate_left; (intro _w; go_simp; try with_reducible rfl); simp only [Act.put, List.setIfInBounds_toArray, List.set_cons_zero, List.set_cons_succ])
      (refine wpD_plain 2 (v := (.pointer (some ⟨g0, o0 + j * 2, none⟩))) rfl (by kernel_rfl) (by kernel_rfl) (by kernel_rfl) (fun _ _ _ h => h) (by rfl) ?_ (by assumption) ?_; (intro _w; go_simp; skip); simp only [Act.put, List.setIfInBounds_toArray, List.set_cons_zero, List.set_cons_succ])
      (refine wpD_plain 3 (v := ?_) rfl (by kernel_rfl) (by kernel_rfl) (by kernel_rfl) (fun _ _ _ h => h) (by rfl) ?_ (by assumption) ?_; rotate_left; (intro _w; go_simp; try with_reducible rfl); simp only [Act.put, List.setIfInBounds_toArray, List.set_cons_zero, List.set_cons_succ])
      (refine wpD_take 4 _ rfl (by kernel_rfl) (by kernel_rfl) (by kernel_rfl) (fun _ _ _ h => h) List.mem_cons_self (by rfl) (v := ?_) ?_ (by assumption) ?_; rotate_left; (intro _w _hw; go_simp; try with_reducible rfl); simp only [Act.put, List.setIfInBounds_toArray, List.set_cons_zero, List.set_cons_succ])
      (refine wpD_plain 5 (v := ?_) rfl (by kernel_rfl) (by kernel_rfl) (by kernel_rfl) (fun _ _ _ h => h) (by rfl) ?_ (by assumption) ?_; rotate_left; (intro _w; go_simp; try with_reducible rfl); simp only [Act.put, List.setIfInBounds_toArray, List.set_cons_zero, List.set_cons_succ])
      (refine wpD_plain 6 (v := ?_) rfl (by kernel_rfl) (by kernel_rfl) (by kernel_rfl) (fun _ _ _ h => h) (by rfl) ?_ (by assumption) ?_; rotate_left; (intro _w; go_simp; try with_reducible rfl); simp only [Act.put, List.setIfInBounds_toArray, List.set_cons_zero, List.set_cons_succ])
      (refine wpD_plain 7 (v := (.pointer (some ⟨g1, o1 + j * 2, none⟩))) rfl (by kernel_rfl) (by kernel_rfl) (by kernel_rfl) (fun _ _ _ h => h) (by rfl) ?_ (by assumption) ?_; (intro _w; go_simp; skip); simp only [Act.put, List.setIfInBounds_toArray, List.set_cons_zero, List.set_cons_succ])
      (refine wpD_plain 8 (v := ?_) rfl (by kernel_rfl) (by kernel_rfl) (by kernel_rfl) (fun _ _ _ h => h) (by rfl) ?_ (by assumption) ?_; rotate_left; (intro _w; go_simp; try with_reducible rfl); simp only [Act.put, List.setIfInBounds_toArray, List.set_cons_zero, List.set_cons_succ])
      (refine wpD_take 9 _ rfl (by kernel_rfl) (by kernel_rfl) (by kernel_rfl) (fun _ _ _ h => h) (List.mem_cons_of_mem _ List.mem_cons_self) (by rfl) (v := ?_) ?_ (by assumption) ?_; rotate_left; (intro _w _hw; go_simp; try with_reducible rfl); simp only [Act.put, List.setIfInBounds_toArray, List.set_cons_zero, List.set_cons_succ])
      (refine wpD_plain 10 (v := (.bool false)) rfl (by kernel_rfl) (by kernel_rfl) (by kernel_rfl) (fun _ _ _ h => h) (by rfl) ?_ (by assumption) ?_; (intro _w; go_simp; skip); simp only [Act.put, List.setIfInBounds_toArray, List.set_cons_zero, List.set_cons_succ])
      (refine wpD_plain 11 (v := ?_) rfl (by kernel_rfl) (by kernel_rfl) (by kernel_rfl) (fun _ _ _ h => h) (by rfl) ?_ (by assumption) ?_; rotate_left; (intro _w; go_simp; try with_reducible rfl); simp only [Act.put, List.setIfInBounds_toArray, List.set_cons_zero, List.set_cons_succ])
      (refine wpD_plain 12 (v := ?_) rfl (by kernel_rfl) (by kernel_rfl) (by kernel_rfl) (fun _ _ _ h => h) (by rfl) ?_ (by assumption) ?_; rotate_left; (intro _w; go_simp; try with_reducible rfl); simp only [Act.put, List.setIfInBounds_toArray, List.set_cons_zero, List.set_cons_succ])
      (refine wpD_plain 13 (v := ?_) rfl (by kernel_rfl) (by kernel_rfl) (by kernel_rfl) (fun _ _ _ h => h) (by rfl) ?_ (by assumption) ?_; rotate_left; (intro _w; go_simp; try with_reducible rfl); simp only [Act.put, List.setIfInBounds_toArray, List.set_cons_zero, List.set_cons_succ])
      (refine wpD_plain 14 (v := (.pointer (some ⟨g0, o0 + j * 2, none⟩))) rfl (by kernel_rfl) (by kernel_rfl) (by kernel_rfl) (fun _ _ _ h => h) (by rfl) ?_ (by assumption) ?_; (intro _w; go_simp; skip); simp only [Act.put, List.setIfInBounds_toArray, List.set_cons_zero, List.set_cons_succ])
      (refine wpD_plain 15 (v := ?_) rfl (by kernel_rfl) (by kernel_rfl) (by kernel_rfl) (fun _ _ _ h => h) (by rfl) ?_ (by assumption) ?_; rotate_left; (intro _w; go_simp; try with_reducible rfl); simp only [Act.put, List.setIfInBounds_toArray, List.set_cons_zero, List.set_cons_succ])
      (refine wpD_take 16 _ rfl (by kernel_rfl) (by kernel_rfl) (by kernel_rfl) (fun _ _ _ h => h) (List.mem_cons_of_mem _ (List.mem_cons_of_mem _ List.mem_cons_self)) (by rfl) (v := ?_) ?_ (by assumption) ?_; rotate_left; (intro _w _hw; go_simp; try with_reducible rfl); simp only [Act.put, List.setIfInBounds_toArray, List.set_cons_zero, List.set_cons_succ])
      (refine wpD_plain 17 (v := ?_) rfl (by kernel_rfl) (by kernel_rfl) (by kernel_rfl) (fun _ _ _ h => h) (by rfl) ?_ (by assumption) ?_; rotate_left; (intro _w; go_simp; try with_reducible rfl); simp only [Act.put, List.setIfInBounds_toArray, List.set_cons_zero, List.set_cons_succ])
      (refine wpD_plain 18 (v := ?_) rfl (by kernel_rfl) (by kernel_rfl) (by kernel_rfl) (fun _ _ _ h => h) (by rfl) ?_ (by assumption) ?_; rotate_left; (intro _w; go_simp; try with_reducible rfl); simp only [Act.put, List.setIfInBounds_toArray, List.set_cons_zero, List.set_cons_succ])
      (refine wpD_plain 19 (v := (.pointer (some ⟨g1, o1 + j * 2, none⟩))) rfl (by kernel_rfl) (by kernel_rfl) (by kernel_rfl) (fun _ _ _ h => h) (by rfl) ?_ (by assumption) ?_; (intro _w; go_simp; skip); simp only [Act.put, List.setIfInBounds_toArray, List.set_cons_zero, List.set_cons_succ])
      (refine wpD_plain 20 (v := ?_) rfl (by kernel_rfl) (by kernel_rfl) (by kernel_rfl) (fun _ _ _ h => h) (by rfl) ?_ (by assumption) ?_; rotate_left; (intro _w; go_simp; try with_reducible rfl); simp only [Act.put, List.setIfInBounds_toArray, List.set_cons_zero, List.set_cons_succ])
      (refine wpD_take 21 _ rfl (by kernel_rfl) (by kernel_rfl) (by kernel_rfl) (fun _ _ _ h => h) (List.mem_cons_of_mem _ (List.mem_cons_of_mem _ (List.mem_cons_of_mem _ List.mem_cons_self))) (by rfl) (v := ?_) ?_ (by assumption) ?_; rotate_left; (intro _w _hw; go_simp; try with_reducible rfl); simp only [Act.put, List.setIfInBounds_toArray, List.set_cons_zero, List.set_cons_succ])
      (refine wpD_plain 22 (v := (.bool false)) rfl (by kernel_rfl) (by kernel_rfl) (by kernel_rfl) (fun _ _ _ h => h) (by rfl) ?_ (by assumption) ?_; (intro _w; go_simp; skip); simp only [Act.put, List.setIfInBounds_toArray, List.set_cons_zero, List.set_cons_succ])
      (refine wpD_plain 23 (v := ?_) rfl (by kernel_rfl) (by kernel_rfl) (by kernel_rfl) (fun _ _ _ h => h) (by rfl) ?_ (by assumption) ?_; rotate_left; (intro _w; go_simp; try with_reducible rfl); simp only [Act.put, List.setIfInBounds_toArray, List.set_cons_zero, List.set_cons_succ])
      clear hold
      refine wpD_done (by kernel_rfl) ?_ _
      try simp only [Act.put, List.setIfInBounds_toArray, List.set_cons_zero, List.set_cons_succ]
      have HF' := hid HF.out.drew
      clear k0 k1 u0 u1
      go_wp2_with fail
      exact ⟨⟨j + 1, by omega, by go_num, HF'⟩, by simp [intOf]; omega⟩
    · have hge : ¬ ((j : Int) < (l.length : Int)) := by omega
      go_wp2_with fail
      go_ret
      exact ⟨rfl, HF.out⟩
set_option maxHeartbeats 8000000 in
theorem short_any {w0 w : World} {b : Nat} {T : TD} {l : L} (h : Lv w0 w b T l) (hn : l.length ≤ 4398046511104) : Calls Try.prog 19 #[pt b] w fun e w' => e = .returned (.bool true) ∧ Lv w0 w' b T l ∧ Fr No w w' := by
  have H := hid h; have HN := hid hn
  have hni : (l.length : Int) ≤ 4398046511104 := by omega
  obtain ⟨d, hd⟩ : ∃ d, T.d = d := ⟨_, rfl⟩
  have hd13 : d ≤ 13 := by rw [← hd]; exact h.at_.d_le hn
  have hlow : d = 0 ∨ 8 ^ d < l.length := by rw [← hd]; exact h.at_.low
  have HD := hid hd; have HLOW := hid hlow
  clear h hn hd hlow
  go_enter Try.func19, Try.ntmps19
  go_wp2_with fail
  refine (H.out.depth HN.out).mono ?_
  rintro e w2 ⟨rfl, t2, f2⟩
  have HT2 := hid t2; have HF2 := hid f2
  rw [HD.out]
  clear t2 f2
  go_wp2_with fail
  refine HT2.out.len.mono ?_
  rintro e w3 ⟨rfl, rfl⟩
  have hall : d = 0 ∨ d = 1 ∨ d = 2 ∨ d = 3 ∨ d = 4 ∨ d = 5 ∨ d = 6 ∨ d = 7 ∨ d = 8 ∨ d = 9 ∨ d = 10 ∨ d = 11 ∨ d = 12 ∨ d = 13 := by omega
  have hpw : ∀ k, d = k → k = 0 ∨ 8 ^ k < l.length := fun k e => by rw [← e]; exact HLOW.out
  have HPW := hid hpw
  clear hpw hd13
  rcases hall with e | e | e | e | e | e | e | e | e | e | e | e | e | e <;>
    (have hx := HPW.out _ e
     have hz : 2 ^ d ≤ 8192 := by rw [e]; decide
     subst e
     have hy : ¬ (l.length = 0) ∨ True := .inr trivial
     have hq : (1 : Int) ≤ (l.length : Int) ∨ True := .inr trivial
     clear hy hq
     simp at hx
     go_wp2_with fail
     go_ret
     exact ⟨by first | rfl | (simp; omega), HT2.out, HF2.out⟩)
end Go.Proofs.Ytlnolnaapnijbaa.TR
