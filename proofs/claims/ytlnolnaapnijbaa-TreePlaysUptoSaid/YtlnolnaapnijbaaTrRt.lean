/-
  The document's own tree: a row of pairs. Where a key stands.
-/
import Derived.Test.YtlnolnaapnijbaaTrSa
namespace Go.Proofs.Ytlnolnaapnijbaa.TR
set_option maxRecDepth 100000
open Go.RowKit K

/-- The document's tree: its block holds a row of its own. -/
structure Rt (w0 w : World) (b : Nat) (v : Value) (l : L) : Prop where
  blk : Blk w b 48 [v]
  row : w.ownsRow w0.heap.size 51 2 v l.length (pcs l)
  off : v.ownBlock ≠ some b
  ge : w0.heap.size ≤ b
  fr : Fr No w0 w
theorem Rt.no {w0 w w' : World} {b : Nat} {v : Value} {l : L} (h : Rt w0 w b v l) (hf : Fr No w w') : Rt w0 w' b v l :=
  ⟨h.blk.fr hf id, own_fr h.row hf (fun _ _ e => e), h.off, h.ge, h.fr.trans' hf⟩
theorem run_lsss (x y : S) (w : World) : (binOp .lss 9 (.string x) (.string y)).run Try.prog w = .ok (.bool (lt x y)) w := by rfl
/-- Where a key stands. -/
def Stands (l : L) (key : S) (j : Nat) : Prop := j ≤ l.length ∧ AllLt (l.take j) key ∧ ∀ x, l[j]? = some x → lt x.1 key = false
def isAt (l : L) (key : S) (j : Nat) : Bool := match l[j]? with | some x => decide (x.1 = key) | none => false
set_option maxHeartbeats 8000000 in
theorem rat_any (w0 w : World) (b : Nat) (v : Value) (l : L) (key : S) (h : Rt w0 w b v l) (hn : l.length ≤ 4398046511104) : Calls Try.prog 46 #[pt b, .string key] w fun e w' => Fr No w w' ∧ ∃ j, Stands l key j ∧ e = .returned (.tuple #[.int .i64 (j : Int), .bool (isAt l key j)]) := by
  have H := hid h
  have hni : (l.length : Int) ≤ 4398046511104 := by omega
  obtain ⟨a, c, rfl, hr⟩ := pr_new h.row
  have HR := hid hr
  clear h hn hr
  go_enter Try.func46, Try.ntmps46
  go_wp2_with fail
  go_loopw [6] (fun i wr => ∃ j : Nat, j ≤ l.length ∧ i = .int .i64 (j : Int) ∧ Hid (AllLt (l.take j) key) ∧ Hid (Fr No w wr)) (fun i _ => l.length - (intOf i).toNat)
  case atStart => exact ⟨0, by omega, rfl, hid (by intro x hx; simp at hx), hid (Fr.refl _ _)⟩
  case round =>
    obtain ⟨j, hj, rfl, HA, HF⟩ := hrel
    have c0 : wr.cell? ⟨b, 0, none⟩ = some (.slice a l.length c) := HF.out.cell (H.out.blk.cell 0) id
    by_cases hlt : j < l.length
    · have hlt' : (j : Int) < (l.length : Int) := by omega
      obtain ⟨x, hx⟩ : ∃ x, l[j]? = some x := ⟨_, List.getElem?_eq_getElem hlt⟩
      obtain ⟨g, rfl, hrg⟩ : ∃ g, a = some ⟨g, 0, none⟩ ∧ wr.rangeAt g 0 (pcs l) := by
        rcases HR.out with e | ⟨g, e, hr, _⟩
        · rw [e] at hlt; simp at hlt
        · exact ⟨g, e, HF.out.range hr id⟩
      have ck : wr.cell? ⟨g, j * 2, none⟩ = some (.string x.1) := by have := (pr_cells hrg hx).1; rwa [Nat.zero_add] at this
      have HX := hid hx
      have htk : l.take (j + 1) = l.take j ++ [x] := by rw [List.take_add_one, hx]; rfl
      have HTK := hid htk
      have hjl : lt x.1 key = true ∨ lt x.1 key = false := by cases lt x.1 key <;> simp
      clear hx hrg htk
      rcases hjl with hb | hb
      · have hl2 : Go.Op.bytesLess x.1.toList key.toList = true := hb
        have HN : Hid (AllLt (l.take (j + 1)) key) := hid (by
          rw [HTK.out]
          intro y hy
          rcases List.mem_append.1 hy with hy | hy
          · exact HA.out y hy
          · have e : y = x := by simpa using hy
            rw [e]; exact hb)
        clear hb
        go_wp2_with fail
        exact ⟨⟨j + 1, by omega, by go_num, HN, HF⟩, by simp [intOf]; omega⟩
      · have hl2 : Go.Op.bytesLess x.1.toList key.toList = false := hb
        have HB := hid hb
        clear hb
        have hb2 : decide ((j : Int) < (l.length : Int)) = true := decide_eq_true hlt'
        go_wp2_with fail
        have hold : Facts.hold [(5, fun w' => w'.cell? ⟨b, 0, none⟩ = some (.slice (some ⟨g, 0, none⟩) l.length c)), (12, fun w' => w'.cell? ⟨b, 0, none⟩ = some (.slice (some ⟨g, 0, none⟩) l.length c)), (16, fun w' => w'.cell? ⟨g, j * 2, none⟩ = some (.string x.1))] wr.drew := Facts.cons_hold c0 (Facts.cons_hold c0 (Facts.cons_hold ck (Facts.nil_hold _)))
        refine wpD_region hold (by kernel_rfl) 22 rfl ?_
        (refine wpD_plain 0 (v := ?_) rfl (by kernel_rfl) (by kernel_rfl) (by kernel_rfl) (fun _ _ _ h => h) (by rfl) ?_ (by assumption) ?_; rotate_left; (intro _w; go_simp; try with_reducible rfl); simp only [Act.put, List.setIfInBounds_toArray, List.set_cons_zero, List.set_cons_succ])
        (refine wpD_plain 1 (v := ?_) rfl (by kernel_rfl) (by kernel_rfl) (by kernel_rfl) (fun _ _ _ h => h) (by rfl) ?_ (by assumption) ?_; rotate_left; (intro _w; go_simp; try with_reducible rfl); simp only [Act.put, List.setIfInBounds_toArray, List.set_cons_zero, List.set_cons_succ])
        (refine wpD_plain 2 (v := ?_) rfl (by kernel_rfl) (by kernel_rfl) (by kernel_rfl) (fun _ _ _ h => h) (by rfl) ?_ (by assumption) ?_; rotate_left; (intro _w; go_simp; try with_reducible rfl); simp only [Act.put, List.setIfInBounds_toArray, List.set_cons_zero, List.set_cons_succ])
        (refine wpD_plain 3 (v := ?_) rfl (by kernel_rfl) (by kernel_rfl) (by kernel_rfl) (fun _ _ _ h => h) (by rfl) ?_ (by assumption) ?_; rotate_left; (intro _w; go_simp; try with_reducible rfl); simp only [Act.put, List.setIfInBounds_toArray, List.set_cons_zero, List.set_cons_succ])
        (refine wpD_plain 4 (v := ?_) rfl (by kernel_rfl) (by kernel_rfl) (by kernel_rfl) (fun _ _ _ h => h) (by rfl) ?_ (by assumption) ?_; rotate_left; (intro _w; go_simp; try with_reducible rfl); simp only [Act.put, List.setIfInBounds_toArray, List.set_cons_zero, List.set_cons_succ])
        (refine wpD_take 5 _ rfl (by kernel_rfl) (by kernel_rfl) (by kernel_rfl) (fun _ _ _ h => h) List.mem_cons_self (by rfl) (v := ?_) ?_ (by assumption) ?_; rotate_left; (intro _w _hw; go_simp; try with_reducible rfl); simp only [Act.put, List.setIfInBounds_toArray, List.set_cons_zero, List.set_cons_succ])
        (refine wpD_plain 6 (v := ?_) rfl (by kernel_rfl) (by kernel_rfl) (by kernel_rfl) (fun _ _ _ h => h) (by rfl) ?_ (by assumption) ?_; rotate_left; (intro _w; go_simp; try with_reducible rfl); simp only [Act.put, List.setIfInBounds_toArray, List.set_cons_zero, List.set_cons_succ])
        (refine wpD_plain 7 (v := (.bool true)) rfl (by kernel_rfl) (by kernel_rfl) (by kernel_rfl) (fun _ _ _ h => h) (by rfl) ?_ (by assumption) ?_; (intro _w; go_simp; skip); simp only [Act.put, List.setIfInBounds_toArray, List.set_cons_zero, List.set_cons_succ])
        (refine wpD_plain 8 (v := ?_) rfl (by kernel_rfl) (by kernel_rfl) (by kernel_rfl) (fun _ _ _ h => h) (by rfl) ?_ (by assumption) ?_; rotate_left; (intro _w; go_simp; try with_reducible rfl); simp only [Act.put, List.setIfInBounds_toArray, List.set_cons_zero, List.set_cons_succ])
        (refine wpD_plain 9 (v := ?_) rfl (by kernel_rfl) (by kernel_rfl) (by kernel_rfl) (fun _ _ _ h => h) (by rfl) ?_ (by assumption) ?_; rotate_left; (intro _w; go_simp; try with_reducible rfl); simp only [Act.put, List.setIfInBounds_toArray, List.set_cons_zero, List.set_cons_succ])
        (refine wpD_plain 10 (v := ?_) rfl (by kernel_rfl) (by kernel_rfl) (by kernel_rfl) (fun _ _ _ h => h) (by rfl) ?_ (by assumption) ?_; rotate_left; (intro _w; go_simp; try with_reducible rfl); simp only [Act.put, List.setIfInBounds_toArray, List.set_cons_zero, List.set_cons_succ])
        (refine wpD_plain 11 (v := ?_) rfl (by kernel_rfl) (by kernel_rfl) (by kernel_rfl) (fun _ _ _ h => h) (by rfl) ?_ (by assumption) ?_; rotate_left; (intro _w; go_simp; try with_reducible rfl); simp only [Act.put, List.setIfInBounds_toArray, List.set_cons_zero, List.set_cons_succ])
        (refine wpD_take 12 _ rfl (by kernel_rfl) (by kernel_rfl) (by kernel_rfl) (fun _ _ _ h => h) (List.mem_cons_of_mem _ List.mem_cons_self) (by rfl) (v := ?_) ?_ (by assumption) ?_; rotate_left; (intro _w _hw; go_simp; try with_reducible rfl); simp only [Act.put, List.setIfInBounds_toArray, List.set_cons_zero, List.set_cons_succ])
        (refine wpD_plain 13 (v := ?_) rfl (by kernel_rfl) (by kernel_rfl) (by kernel_rfl) (fun _ _ _ h => h) (by rfl) ?_ (by assumption) ?_; rotate_left; (intro _w; go_simp; try with_reducible rfl); simp only [Act.put, List.setIfInBounds_toArray, List.set_cons_zero, List.set_cons_succ])
        (refine wpD_plain 14 (v := (.pointer (some ⟨g, j * 2, none⟩))) rfl (by kernel_rfl) (by kernel_rfl) (by kernel_rfl) (fun _ _ _ h => h) (by rfl) ?_ (by assumption) ?_; (intro _w; go_simp; skip); simp only [Act.put, List.setIfInBounds_toArray, List.set_cons_zero, List.set_cons_succ])
        (refine wpD_plain 15 (v := ?_) rfl (by kernel_rfl) (by kernel_rfl) (by kernel_rfl) (fun _ _ _ h => h) (by rfl) ?_ (by assumption) ?_; rotate_left; (intro _w; go_simp; try with_reducible rfl); simp only [Act.put, List.setIfInBounds_toArray, List.set_cons_zero, List.set_cons_succ])
        (refine wpD_take 16 _ rfl (by kernel_rfl) (by kernel_rfl) (by kernel_rfl) (fun _ _ _ h => h) (List.mem_cons_of_mem _ (List.mem_cons_of_mem _ List.mem_cons_self)) (by rfl) (v := ?_) ?_ (by assumption) ?_; rotate_left; (intro _w _hw; go_simp; try with_reducible rfl); simp only [Act.put, List.setIfInBounds_toArray, List.set_cons_zero, List.set_cons_succ])
        (refine wpD_plain 17 (v := ?_) rfl (by kernel_rfl) (by kernel_rfl) (by kernel_rfl) (fun _ _ _ h => h) (by rfl) ?_ (by assumption) ?_; rotate_left; (intro _w; go_simp; try with_reducible rfl); simp only [Act.put, List.setIfInBounds_toArray, List.set_cons_zero, List.set_cons_succ])
        (refine wpD_plain 18 (v := (.bool (decide (x.1 = key)))) rfl (by kernel_rfl) (by kernel_rfl) (by kernel_rfl) (fun _ _ _ h => h) (by rfl) ?_ (by assumption) ?_; (intro _w; go_simp; exact eq_beq x.1 key); simp only [Act.put, List.setIfInBounds_toArray, List.set_cons_zero, List.set_cons_succ])
        (refine wpD_plain 19 (v := ?_) rfl (by kernel_rfl) (by kernel_rfl) (by kernel_rfl) (fun _ _ _ h => h) (by rfl) ?_ (by assumption) ?_; rotate_left; (intro _w; go_simp; try with_reducible rfl); simp only [Act.put, List.setIfInBounds_toArray, List.set_cons_zero, List.set_cons_succ])
        (refine wpD_plain 20 (v := ?_) rfl (by kernel_rfl) (by kernel_rfl) (by kernel_rfl) (fun _ _ _ h => h) (by rfl) ?_ (by assumption) ?_; rotate_left; (intro _w; go_simp; try with_reducible rfl); simp only [Act.put, List.setIfInBounds_toArray, List.set_cons_zero, List.set_cons_succ])
        (refine wpD_plain 21 (v := ?_) rfl (by kernel_rfl) (by kernel_rfl) (by kernel_rfl) (fun _ _ _ h => h) (by rfl) ?_ (by assumption) ?_; rotate_left; (intro _w; go_simp; try with_reducible rfl); simp only [Act.put, List.setIfInBounds_toArray, List.set_cons_zero, List.set_cons_succ])
        clear hold
        refine wpD_done (by kernel_rfl) ?_ _
        try simp only [Act.put, List.setIfInBounds_toArray, List.set_cons_zero, List.set_cons_succ]
        go_wp2_with fail
        go_ret2
        refine ⟨HF.out.drew, j, ⟨by omega, HA.out, fun y hy => ?_⟩, ?_⟩
        · have : y = x := by rw [HX.out] at hy; simpa using hy.symm
          rw [this]; exact HB.out
        · unfold isAt; rw [HX.out]; rfl
    · have hge : ¬ ((j : Int) < (l.length : Int)) := by omega
      have hnone : l[j]? = none := List.getElem?_eq_none (by omega)
      have HNO := hid hnone
      clear hnone
      go_wp2_with fail
      have hold : Facts.hold [(5, fun w' => w'.cell? ⟨b, 0, none⟩ = some (.slice a l.length c))] wr.drew := Facts.cons_hold c0 (Facts.nil_hold _)
      refine wpD_region hold (by kernel_rfl) 22 rfl ?_
      (refine wpD_plain 0 (v := ?_) rfl (by kernel_rfl) (by kernel_rfl) (by kernel_rfl) (fun _ _ _ h => h) (by rfl) ?_ (by assumption) ?_; rotate_left; (intro _w; go_simp; try with_reducible rfl); simp only [Act.put, List.setIfInBounds_toArray, List.set_cons_zero, List.set_cons_succ])
      (refine wpD_plain 1 (v := ?_) rfl (by kernel_rfl) (by kernel_rfl) (by kernel_rfl) (fun _ _ _ h => h) (by rfl) ?_ (by assumption) ?_; rotate_left; (intro _w; go_simp; try with_reducible rfl); simp only [Act.put, List.setIfInBounds_toArray, List.set_cons_zero, List.set_cons_succ])
      (refine wpD_plain 2 (v := ?_) rfl (by kernel_rfl) (by kernel_rfl) (by kernel_rfl) (fun _ _ _ h => h) (by rfl) ?_ (by assumption) ?_; rotate_left; (intro _w; go_simp; try with_reducible rfl); simp only [Act.put, List.setIfInBounds_toArray, List.set_cons_zero, List.set_cons_succ])
      (refine wpD_plain 3 (v := ?_) rfl (by kernel_rfl) (by kernel_rfl) (by kernel_rfl) (fun _ _ _ h => h) (by rfl) ?_ (by assumption) ?_; rotate_left; (intro _w; go_simp; try with_reducible rfl); simp only [Act.put, List.setIfInBounds_toArray, List.set_cons_zero, List.set_cons_succ])
      (refine wpD_plain 4 (v := ?_) rfl (by kernel_rfl) (by kernel_rfl) (by kernel_rfl) (fun _ _ _ h => h) (by rfl) ?_ (by assumption) ?_; rotate_left; (intro _w; go_simp; try with_reducible rfl); simp only [Act.put, List.setIfInBounds_toArray, List.set_cons_zero, List.set_cons_succ])
      (refine wpD_take 5 _ rfl (by kernel_rfl) (by kernel_rfl) (by kernel_rfl) (fun _ _ _ h => h) List.mem_cons_self (by rfl) (v := ?_) ?_ (by assumption) ?_; rotate_left; (intro _w _hw; go_simp; try with_reducible rfl); simp only [Act.put, List.setIfInBounds_toArray, List.set_cons_zero, List.set_cons_succ])
      (refine wpD_plain 6 (v := ?_) rfl (by kernel_rfl) (by kernel_rfl) (by kernel_rfl) (fun _ _ _ h => h) (by rfl) ?_ (by assumption) ?_; rotate_left; (intro _w; go_simp; try with_reducible rfl); simp only [Act.put, List.setIfInBounds_toArray, List.set_cons_zero, List.set_cons_succ])
      (refine wpD_plain 7 (v := (.bool false)) rfl (by kernel_rfl) (by kernel_rfl) (by kernel_rfl) (fun _ _ _ h => h) (by rfl) ?_ (by assumption) ?_; (intro _w; go_simp; skip); simp only [Act.put, List.setIfInBounds_toArray, List.set_cons_zero, List.set_cons_succ])
      (refine wpD_plain 8 (v := ?_) rfl (by kernel_rfl) (by kernel_rfl) (by kernel_rfl) (fun _ _ _ h => h) (by rfl) ?_ (by assumption) ?_; rotate_left; (intro _w; go_simp; try with_reducible rfl); simp only [Act.put, List.setIfInBounds_toArray, List.set_cons_zero, List.set_cons_succ])
      (refine wpD_skip 9 rfl (by kernel_rfl) (by kernel_rfl) (by kernel_rfl) (fun _ _ _ h => h) (by rfl) (by assumption) ?_; simp only [Act.put, List.setIfInBounds_toArray, List.set_cons_zero, List.set_cons_succ])
      (refine wpD_skip 10 rfl (by kernel_rfl) (by kernel_rfl) (by kernel_rfl) (fun _ _ _ h => h) (by rfl) (by assumption) ?_; simp only [Act.put, List.setIfInBounds_toArray, List.set_cons_zero, List.set_cons_succ])
      (refine wpD_skip 11 rfl (by kernel_rfl) (by kernel_rfl) (by kernel_rfl) (fun _ _ _ h => h) (by rfl) (by assumption) ?_; simp only [Act.put, List.setIfInBounds_toArray, List.set_cons_zero, List.set_cons_succ])
      (refine wpD_skip 12 rfl (by kernel_rfl) (by kernel_rfl) (by kernel_rfl) (fun _ _ _ h => h) (by rfl) (by assumption) ?_; simp only [Act.put, List.setIfInBounds_toArray, List.set_cons_zero, List.set_cons_succ])
      (refine wpD_skip 13 rfl (by kernel_rfl) (by kernel_rfl) (by kernel_rfl) (fun _ _ _ h => h) (by rfl) (by assumption) ?_; simp only [Act.put, List.setIfInBounds_toArray, List.set_cons_zero, List.set_cons_succ])
      (refine wpD_skip 14 rfl (by kernel_rfl) (by kernel_rfl) (by kernel_rfl) (fun _ _ _ h => h) (by rfl) (by assumption) ?_; simp only [Act.put, List.setIfInBounds_toArray, List.set_cons_zero, List.set_cons_succ])
      (refine wpD_skip 15 rfl (by kernel_rfl) (by kernel_rfl) (by kernel_rfl) (fun _ _ _ h => h) (by rfl) (by assumption) ?_; simp only [Act.put, List.setIfInBounds_toArray, List.set_cons_zero, List.set_cons_succ])
      (refine wpD_skip 16 rfl (by kernel_rfl) (by kernel_rfl) (by kernel_rfl) (fun _ _ _ h => h) (by rfl) (by assumption) ?_; simp only [Act.put, List.setIfInBounds_toArray, List.set_cons_zero, List.set_cons_succ])
      (refine wpD_skip 17 rfl (by kernel_rfl) (by kernel_rfl) (by kernel_rfl) (fun _ _ _ h => h) (by rfl) (by assumption) ?_; simp only [Act.put, List.setIfInBounds_toArray, List.set_cons_zero, List.set_cons_succ])
      (refine wpD_skip 18 rfl (by kernel_rfl) (by kernel_rfl) (by kernel_rfl) (fun _ _ _ h => h) (by rfl) (by assumption) ?_; simp only [Act.put, List.setIfInBounds_toArray, List.set_cons_zero, List.set_cons_succ])
      (refine wpD_plain 19 (v := ?_) rfl (by kernel_rfl) (by kernel_rfl) (by kernel_rfl) (fun _ _ _ h => h) (by rfl) ?_ (by assumption) ?_; rotate_left; (intro _w; go_simp; try with_reducible rfl); simp only [Act.put, List.setIfInBounds_toArray, List.set_cons_zero, List.set_cons_succ])
      (refine wpD_plain 20 (v := ?_) rfl (by kernel_rfl) (by kernel_rfl) (by kernel_rfl) (fun _ _ _ h => h) (by rfl) ?_ (by assumption) ?_; rotate_left; (intro _w; go_simp; try with_reducible rfl); simp only [Act.put, List.setIfInBounds_toArray, List.set_cons_zero, List.set_cons_succ])
      (refine wpD_plain 21 (v := ?_) rfl (by kernel_rfl) (by kernel_rfl) (by kernel_rfl) (fun _ _ _ h => h) (by rfl) ?_ (by assumption) ?_; rotate_left; (intro _w; go_simp; try with_reducible rfl); simp only [Act.put, List.setIfInBounds_toArray, List.set_cons_zero, List.set_cons_succ])
      clear hold
      refine wpD_done (by kernel_rfl) ?_ _
      try simp only [Act.put, List.setIfInBounds_toArray, List.set_cons_zero, List.set_cons_succ]
      go_wp2_with fail
      go_ret2
      refine ⟨HF.out.drew, j, ⟨hj, HA.out, fun y hy => ?_⟩, ?_⟩
      · rw [HNO.out] at hy; cases hy
      · unfold isAt; rw [HNO.out]; rfl

theorem sorted_le {l : L} (hs : Sorted l) {i j : Nat} {x y : S × S} (hij : i ≤ j) (hx : l[i]? = some x) (hy : l[j]? = some y) : lt y.1 x.1 = false := by
  rcases Nat.lt_or_ge i j with h | h
  · obtain ⟨h1, e1⟩ := List.getElem?_eq_some_iff.1 hx
    obtain ⟨h2, e2⟩ := List.getElem?_eq_some_iff.1 hy
    have := List.pairwise_iff_getElem.1 hs i j h1 h2 h
    rw [e1, e2] at this
    exact lt_asymm this
  · have e : i = j := by omega
    subst e
    rw [hx] at hy
    have : x = y := by simpa using hy
    rw [this]; exact lt_irr _
theorem Stands.part {l : L} {key : S} {j : Nat} (h : Stands l key j) (hs : Sorted l) : Part l key j := by
  obtain ⟨h1, h2, h3⟩ := h
  refine ⟨h1, fun i x hi hx => h2 x (List.mem_of_getElem? (i := i) (by rw [List.getElem?_take, if_pos hi]; exact hx)), fun i x hi hx => ?_⟩
  have hil := (List.getElem?_eq_some_iff.1 hx).1
  obtain ⟨y, hy⟩ : ∃ y, l[j]? = some y := ⟨_, List.getElem?_eq_getElem (by omega)⟩
  exact le_trans (h3 y hy) (sorted_le hs hi hy hx)
theorem isAt_true {l : L} {key : S} {j : Nat} (h : isAt l key j = true) : ∃ x, l[j]? = some x ∧ x.1 = key := by
  unfold isAt at h
  cases hx : l[j]? with
  | none => rw [hx] at h; cases h
  | some x => rw [hx] at h; exact ⟨x, rfl, by simpa using h⟩
theorem isAt_false {l : L} {key : S} {j : Nat} (h : isAt l key j = false) : ∀ x, l[j]? = some x → x.1 ≠ key := by
  intro x hx e
  unfold isAt at h
  rw [hx] at h
  simp [e] at h
set_option maxHeartbeats 8000000 in
theorem rget_any (w0 w : World) (b : Nat) (v : Value) (l : L) (key : S) (h : Rt w0 w b v l) (hs : Sorted l) (hn : l.length ≤ 4398046511104) : Calls Try.prog 53 #[pt b, .string key] w fun e w' => e = .returned (getV (get key l)) ∧ Fr No w w' := by
  have H := hid h; have HS := hid hs; have HN := hid hn
  obtain ⟨a, c, rfl, hr⟩ := pr_new h.row
  have HR := hid hr
  clear h hs hr hn
  go_enter Try.func53, Try.ntmps53
  go_wp2_with fail
  refine (rat_any w0 w b _ l key H.out HN.out).mono ?_
  rintro e w2 ⟨f2, j, hst, rfl⟩
  have F2 := hid f2; have HP := hid (hst.part HS.out)
  clear f2 hst
  cases hq : isAt l key j with
  | false =>
    have hg := (HP.out.miss_del HS.out (isAt_false hq)).2
    have HG := hid hg
    clear hq hg
    go_wp2_with fail
    go_ret2
    exact ⟨by rw [HG.out]; rfl, F2.out⟩
  | true =>
    obtain ⟨x, hx, hk⟩ := isAt_true hq
    have hg := (HP.out.hit hx hk key).2.2
    have HG := hid hg
    have hjl : j < l.length := (List.getElem?_eq_some_iff.1 hx).1
    have hji : (j : Int) < (l.length : Int) := by omega
    obtain ⟨g, rfl, hrg⟩ : ∃ g, a = some ⟨g, 0, none⟩ ∧ w2.rangeAt g 0 (pcs l) := by
      rcases HR.out with e | ⟨g, e, hr, _⟩
      · rw [e] at hjl; simp at hjl
      · exact ⟨g, e, F2.out.range hr id⟩
    have cv : w2.cell? ⟨g, j * 2 + 1, none⟩ = some (.string x.2) := by have := (pr_cells hrg hx).2; rwa [Nat.zero_add] at this
    have c0 : w2.cell? ⟨b, 0, none⟩ = some (.slice (some ⟨g, 0, none⟩) l.length c) := F2.out.cell (H.out.blk.cell 0) id
    clear hq hg hx hk hrg
    go_wp2_with fail
    go_ret2
    exact ⟨by rw [HG.out]; rfl, F2.out⟩

theorem pcs_takeDrop (l : L) (i : Nat) : pcs (l.take i) ++ pcs (l.drop i) = pcs l := by rw [← pcs_append, List.take_append_drop]
theorem range_take {w : World} {g o : Nat} {l : L} (h : w.rangeAt g o (pcs l)) (i : Nat) : w.rangeAt g o (pcs (l.take i)) := fun j u hu => by
  refine h j u ?_
  rw [← pcs_takeDrop l i, List.getElem?_append_left (List.getElem?_eq_some_iff.1 hu).1]
  exact hu
theorem range_drop {w : World} {g o : Nat} {l : L} (h : w.rangeAt g o (pcs l)) {i : Nat} (hi : i ≤ l.length) : w.rangeAt g (o + i * 2) (pcs (l.drop i)) := fun j u hu => by
  have hl : (pcs (l.take i)).length = i * 2 := by rw [pcs_length, List.length_take, Nat.min_eq_left hi]
  have := h (i * 2 + j) u (by
    rw [← pcs_takeDrop l i, List.getElem?_append_right (by omega), hl, show i * 2 + j - i * 2 = j by omega]
    exact hu)
  rwa [show o + (i * 2 + j) = o + i * 2 + j by omega] at this
/-- What a call that turns the document's tree leaves. -/
def RPost (w0 w : World) (b : Nat) (v : Value) (r : Bool) (l' : L) (e : Ending) (w' : World) : Prop :=
  e = .returned (.bool r) ∧ ∃ v', Rt w0 w' b v' l' ∧ Fr (fun k => k = b ∨ v.ownBlock = some k) w w' ∧ ∀ g, v'.ownBlock = some g → v.ownBlock = some g ∨ w.heap.size ≤ g
/-- A row that was made since. -/
structure Nw (w0 w2 w : World) (v : Value) (n : Nat) (l : L) : Prop where
  own : w.ownsRow w0.heap.size 51 2 v n (pcs l)
  fr : Fr No w2 w
  ge : ∀ g, v.ownBlock = some g → w2.heap.size ≤ g
  hb : w0.heap.size ≤ w2.heap.size
theorem Nw.no {w0 w2 w w' : World} {v : Value} {n : Nat} {l : L} (h : Nw w0 w2 w v n l) (hf : Fr No w w') : Nw w0 w2 w' v n l :=
  ⟨own_fr h.own hf (fun _ _ e => e), h.fr.trans' hf, h.ge, h.hb⟩
theorem Nw.next {w0 w2 w w' : World} {v v' : Value} {n n' : Nat} {l l' : L} (h : Nw w0 w2 w v n l) (ho : w'.ownsRow w0.heap.size 51 2 v' n' (pcs l')) (hg : w.grownBy w' v.ownBlock) (ha : v'.ownBlock = v.ownBlock ∨ v'.ownBlock = some w.heap.size) : Nw w0 w2 w' v' n' l' :=
  ⟨ho, Fr.grown h.fr hg (fun k hk => .inr (h.ge k hk)), fun g e => by
    rcases ha with e2 | e2
    · exact h.ge g (by rw [← e2]; exact e)
    · rw [e2] at e; cases e; exact h.fr.size, h.hb⟩
theorem app_nw {ops : Array Oper} {rest : List Oper} {op : Oper} {a : Act} {w : World} {Q : Exit → Act → World → Prop} (hgd : op.guard = none) (s x : Operand) (ho : op.op = .call { callee := .builtin .append, args := #[s, x], argTypes := #[42, 42] })
    (w0 w2 : World) (v : Value) (n : Nat) (l : L) (hv : a.eval s = v) (h : Nw w0 w2 w v n l)
    (sp : Option Addr) (m c : Nat) (k : L) (hx : a.eval x = .slice sp m c) (hl : k.length = m) (hsrc : m = 0 ∨ ∃ ad, sp = some ad ∧ ∀ j u, (pcs k)[j]? = some u → w.cell? (ad.add j) = some u)
    (hb : n + m ≤ 4398046511104)
    (hh : ∀ a' cap' w', Hid (Nw w0 w2 w' (.slice a' (n + m) cap') (n + m) (l ++ k)) → wpList Try.prog ops Q rest (a.put op.dst (.slice a' (n + m) cap')) w') : wpList Try.prog ops Q (op :: rest) a w :=
  app_pr hgd s x ho w0.heap.size v n (pcs l) hv h.own sp m c (pcs k) hx (by rw [pcs_length, hl]) hsrc (pcs_one _) hb (Nat.le_trans h.hb h.fr.size) (fun a' cap' w' h1 h2 h3 => hh a' cap' w' (hid (h.next (by rw [pcs_append]; exact h1.out) h2.out h3.out)))
theorem app_nw0 {ops : Array Oper} {rest : List Oper} {op : Oper} {a : Act} {w : World} {Q : Exit → Act → World → Prop} (hgd : op.guard = none) (s x : Operand) (ho : op.op = .call { callee := .builtin .append, args := #[s, x], argTypes := #[42, 42] })
    (w0 w2 : World) (v : Value) (hv : a.eval s = v) (h : Nw w0 w2 w v 0 [])
    (sp : Option Addr) (m c : Nat) (k : L) (hx : a.eval x = .slice sp m c) (hl : k.length = m) (hsrc : m = 0 ∨ ∃ ad, sp = some ad ∧ ∀ j u, (pcs k)[j]? = some u → w.cell? (ad.add j) = some u)
    (hb : m ≤ 4398046511104)
    (hh : ∀ a' cap' w', Hid (Nw w0 w2 w' (.slice a' m cap') m k) → wpList Try.prog ops Q rest (a.put op.dst (.slice a' m cap')) w') : wpList Try.prog ops Q (op :: rest) a w :=
  app_new hgd s x ho w0.heap.size v hv h.own sp m c (pcs k) hx (by rw [pcs_length, hl]) hsrc (pcs_one _) hb (Nat.le_trans h.hb h.fr.size) (fun a' cap' w' h1 h2 h3 => hh a' cap' w' (hid (h.next h1.out h2.out h3.out)))
theorem Nw.begin {w0 w2 w3 : World} (hB : Blk w3 w2.heap.size 51 []) (hf : Fr No w2 w3) (hb : w0.heap.size ≤ w2.heap.size) : Nw w0 w2 w3 (.slice (some ⟨w2.heap.size, 0, none⟩) 0 0) 0 [] :=
  ⟨hB.own (n := 0) (cap := 0) hb rfl (Nat.le_refl _) (by decide) rfl rfl, hf, fun g e => by cases e; exact Nat.le_refl _, hb⟩
/-- The tree takes a new row. -/
theorem Rt.take {w0 w w2 w6 w7 : World} {b : Nat} {v v' : Value} {l l' : L} (h : Rt w0 w2 b v l) (hn : Nw w0 w2 w6 v' l'.length l') (hB : Blk w7 b 48 [v']) (hf : Fr (fun k => k = b) w6 w7) (h0 : Fr No w w2) :
    Rt w0 w7 b v' l' ∧ Fr (fun k => k = b ∨ v.ownBlock = some k) w w7 ∧ ∀ g, v'.ownBlock = some g → v.ownBlock = some g ∨ w.heap.size ≤ g := by
  have hlb : b < w2.heap.size := h.blk.lt
  have hnb : v'.ownBlock ≠ some b := fun e => by have := hn.ge b e; omega
  refine ⟨⟨hB, own_fr hn.own hf (fun k hk e => by have e' : k = b := e; rw [e'] at hk; exact hnb hk), hnb, h.ge, ?_⟩, ?_⟩
  · exact (h.fr.trans' hn.fr).trans hf (fun k e => .inr (by have e' : k = b := e; rw [e']; exact h.ge))
  · exact ⟨(h0.trans' hn.fr).no.trans' (hf.mono (fun k e => .inl e)), fun g e => .inr (Nat.le_trans h0.size (hn.ge g e))⟩
theorem pcs_set {l : L} {j : Nat} {x : S × S} (hx : l[j]? = some x) (v : S) : (pcs l).set (j * 2 + 1) (.string v) = pcs (l.set j (x.1, v)) := by
  induction l generalizing j with
  | nil => simp at hx
  | cons y r ih =>
    cases j with
    | zero =>
      have e : y = x := by simpa using hx
      subst e; rfl
    | succ j =>
      have := ih (j := j) (by simpa using hx)
      rw [List.set_cons_succ]
      show ((pc y) ++ pcs r).set _ _ = pc y ++ pcs _
      rw [← this, List.set_append_right _ _ (by show 2 ≤ _; omega)]
      congr 2
      show (j + 1) * 2 + 1 - 2 = _; omega
theorem set_mid {l : L} {j : Nat} {x : S × S} (hx : l[j]? = some x) (v : S × S) : l.take j ++ v :: l.drop (j + 1) = l.set j v := by
  induction l generalizing j with
  | nil => simp at hx
  | cons y r ih =>
    cases j with
    | zero => rfl
    | succ j => simp only [List.take_succ_cons, List.drop_succ_cons, List.set_cons_succ, List.cons_append]; rw [ih (by simpa using hx)]
theorem own_set1 {w w' : World} {base g n cap : Nat} {xs : List Value} (h : w.ownsRow base 51 2 (.slice (some ⟨g, 0, none⟩) n cap) n xs) {k : Nat} (hk : k < n * 2) (v : Value) (hB : ∀ cur, Blk w g 51 cur → Blk w' g 51 (cur.set k v)) : w'.ownsRow base 51 2 (.slice (some ⟨g, 0, none⟩) n cap) n (xs.set k v) := by
  refine ⟨by simpa using h.1, .inr ?_⟩
  rcases h.2 with ⟨h0, _⟩ | ⟨g', cap', cur, hv, hb, hg, h1, h2, h3, h4⟩
  · cases h0
  · simp only [Value.slice.injEq, Option.some.injEq, Addr.mk.injEq] at hv
    obtain ⟨⟨rfl, _⟩, _, rfl⟩ := hv
    have := hB cur.toList (by simpa [Blk] using hg)
    refine ⟨g, cap, (cur.toList.set k v).toArray, rfl, hb, this, h1, h2, by simpa using h3, ?_⟩
    rw [List.toList_toArray, List.take_set, h4]
end Go.Proofs.Ytlnolnaapnijbaa.TR
