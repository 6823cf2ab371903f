/-
  The walk of TreeOrder.
-/
import Derived.Test.YtmcminejnknliaaTrRow
import Derived.Test.YtmcminejnknliaaTrLa
namespace Go.Proofs.Ytmcminejnknliaa.TR
set_option maxRecDepth 100000
open Go.RowKit K

theorem get_put_same (k v : S) (l : L) : get k (put k v l) = some v := by
  induction l with
  | nil => simp [put, get, lt_irr]
  | cons x r ih =>
    unfold put
    split
    · rename_i h
      unfold get
      rw [if_pos h]; exact ih
    · rename_i h
      split
      · rename_i e
        simp [get, h, e, lt_irr]
      · simp [get, lt_irr]
theorem get_put_other {k k' : S} (v : S) (hne : k' ≠ k) (l : L) : get k (put k' v l) = get k l := by
  induction l with
  | nil => simp [put, get, hne]
  | cons x r ih =>
    unfold put
    split
    · rename_i h
      simp only [get]
      rw [ih]
    · rename_i h
      split
      · rename_i e
        have h2 : x.1 ≠ k := by rw [e]; exact hne
        simp [get, h2]
      · rename_i e
        have h1 : lt k' x.1 = true := by
          cases hc : lt k' x.1
          · exact absurd (lt_tot (by simpa using h) hc) e
          · rfl
        have h0 : get k ((k', v) :: x :: r) = if lt k' k then get k (x :: r) else if k' = k then some v else none := rfl
        rw [h0]
        split
        · rfl
        · rename_i h3
          have h4 : lt k k' = true := by
            cases hc : lt k k'
            · exact absurd (lt_tot (by simpa using h3) hc) hne
            · rfl
          have h5 : lt k x.1 = true := lt_trans h4 h1
          have h6 : ¬ x.1 = k := fun e => lt_ne h5 e.symm
          simp [get, lt_asymm h5, h6]
/-- The value that a key got last. -/
def lastO (k : S) (l : L) : Option S := l.foldl (fun a x => if x.1 = k then some x.2 else a) none
theorem lastO_snoc (k : S) (l : L) (x : S × S) : lastO k (l ++ [x]) = if x.1 = k then some x.2 else lastO k l := by simp [lastO]
theorem get_of (k : S) (l : L) : get k (ofL l) = lastO k l := by
  have : ∀ n, ∀ l : L, l.length = n → get k (ofL l) = lastO k l := by
    intro n
    induction n with
    | zero =>
      intro l h
      have : l = [] := List.eq_nil_of_length_eq_zero h
      subst this; rfl
    | succ n ih =>
      intro l h
      have hne : l ≠ [] := fun e => by rw [e] at h; simp at h
      have hs := List.dropLast_concat_getLast hne
      rw [← hs, ofL_snoc, lastO_snoc]
      have h2 := ih l.dropLast (by rw [List.length_dropLast]; omega)
      split
      · rename_i e
        rw [e]; exact get_put_same _ _ _
      · rename_i e
        rw [get_put_other _ e]; exact h2
  exact this _ l rfl
theorem get_mem {l : L} (hs : Sorted l) {j : Nat} {x : S × S} (hx : l[j]? = some x) : get x.1 l = some x.2 := by
  induction l generalizing j with
  | nil => simp at hx
  | cons y r ih =>
    have h1 : ∀ z ∈ r, lt y.1 z.1 = true := (List.pairwise_cons.1 hs).1
    have h2 : Sorted r := (List.pairwise_cons.1 hs).2
    cases j with
    | zero =>
      have e : y = x := by simpa using hx
      subst e
      simp [get, lt_irr]
    | succ j =>
      have hx' : r[j]? = some x := by simpa using hx
      have := h1 x (List.mem_of_getElem? hx')
      unfold get
      rw [if_pos this]
      exact ih h2 hx'
theorem lastO_mem {k : S} (l : L) : (∃ x ∈ l, x.1 = k) → (lastO k l).isSome = true := by
  have : ∀ (l : L) (a : Option S), (a.isSome = true ∨ ∃ x ∈ l, x.1 = k) → (l.foldl (fun a x => if x.1 = k then some x.2 else a) a).isSome = true := by
    intro l
    induction l with
    | nil => intro a h; exact h.elim id (fun ⟨x, hx, _⟩ => by cases hx)
    | cons y r ih =>
      intro a h
      simp only [List.foldl_cons]
      refine ih _ ?_
      by_cases e : y.1 = k
      · rw [if_pos e]; exact .inl rfl
      · rw [if_neg e]
        rcases h with h | ⟨x, hx, hk⟩
        · exact .inl h
        · rcases List.mem_cons.1 hx with rfl | hx
          · exact absurd hk e
          · exact .inr ⟨x, hx, hk⟩
  exact fun h => this l none (.inr h)
theorem ofL_sorted (l : L) : Sorted (ofL l) := by
  have : ∀ (l a : L), Sorted a → Sorted (l.foldl (fun a x => put x.1 x.2 a) a) := by
    intro l
    induction l with
    | nil => exact fun a h => h
    | cons x r ih => exact fun a h => ih _ (put_sorted _ _ h)
  exact this l [] List.Pairwise.nil
theorem sorted_step {l : L} (hs : Sorted l) {j : Nat} {x y : S × S} (hx : l[j]? = some x) (hy : l[j + 1]? = some y) : lt x.1 y.1 = true := by
  obtain ⟨h1, e1⟩ := List.getElem?_eq_some_iff.1 hx
  obtain ⟨h2, e2⟩ := List.getElem?_eq_some_iff.1 hy
  have := List.pairwise_iff_getElem.1 hs j (j + 1) h1 h2 (by omega)
  rwa [e1, e2] at this
theorem pr_key {w : World} {g o : Nat} {l : L} (h : w.rangeAt g o (pcs l)) {j : Nat} {x : S × S} (hx : l[j]? = some x) : w.cell? ⟨g, o + j * 2, none⟩ = some (.string x.1) ∧ w.cell? ⟨g, o + j * 2 + 1, none⟩ = some (.string x.2) :=
  ⟨range_pr h hx 0 _ rfl, range_pr h hx 1 _ rfl⟩
set_option maxHeartbeats 8000000 in
theorem treeOrder_walk (W : World) (v0 : Value) (x0 : L) (h0 : PrAt W v0 x0) : Calls Try.prog 4 #[v0] W fun e W' => e = .returned (.bool true) ∧ Fr No W W' := by
  have H0 := hid h0
  obtain ⟨a0, c0, rfl, hn0, h1⟩ := h0
  have H1 := hid h1
  have hni : (x0.length : Int) ≤ 4398046511000 := by omega
  have hol := ofL_length x0
  have HOL : Hid ((ofL x0).length ≤ x0.length ∧ x0.length ≤ 4398046511000) := hid ⟨hol, hn0⟩
  clear h1 hn0 hol
  obtain ⟨l, hl⟩ : ∃ l, ofL x0 = l := ⟨_, rfl⟩
  have HL := hid hl
  have HS : Hid (Sorted l) := hid (hl ▸ ofL_sorted x0)
  have HG : Hid (∀ k, get k l = lastO k x0) := hid (fun k => by rw [← hl]; exact get_of k x0)
  have HLN : Hid (l.length ≤ 4398046511000) := hid (by have := HOL.out; rw [hl] at this; omega)
  go_enter Try.func4, Try.ntmps4
  go_wp2_with fail
  refine (awake_any W).mono ?_
  rintro e w1 ⟨rfl, f1⟩
  have F1 := hid f1
  clear f1
  go_wp2_with fail
  refine (of_any w1 _ x0 (H0.out.no F1.out)).mono ?_
  rintro e w2 ⟨b, T, rfl, t2⟩
  rw [hl] at t2
  have HT := hid (t2.pre F1.out)
  clear t2
  go_wp2_with fail
  refine (HT.out.all (by have := HLN.out; omega)).mono ?_
  rintro e w3 ⟨pv, rfl, ⟨a3, c3, rfl, h3⟩, t3, -⟩
  have HT3 := hid t3; have H3 := hid h3
  clear t3 h3
  go_wp2_with fail
  refine HT3.out.len.mono ?_
  rintro e w4 ⟨rfl, rfl⟩
  have hli : (l.length : Int) ≤ 4398046511000 := by have := HLN.out; omega
  clear hl
  go_wp2_with fail
  go_loopw [7] (fun i wr => ∃ j : Nat, j ≤ l.length ∧ i = .int .i64 (j : Int) ∧ Hid (Fr No w4 wr)) (fun i _ => l.length - (intOf i).toNat)
  case atStart => exact ⟨0, by omega, rfl, hid (Fr.refl _ _)⟩
  case round =>
    obtain ⟨j, hj, rfl, HF⟩ := hrel
    by_cases hlt : j < l.length
    · have hlt' : (j : Int) < (l.length : Int) := by omega
      obtain ⟨x, hx⟩ : ∃ x, l[j]? = some x := ⟨_, List.getElem?_eq_getElem hlt⟩
      have HX := hid hx
      obtain ⟨g, rfl, hr⟩ : ∃ g, a3 = some ⟨g, 0, none⟩ ∧ wr.rangeAt g 0 (pcs l) := by
        rcases H3.out with e | ⟨g, e, hr, _⟩
        · rw [e] at hlt; simp at hlt
        · exact ⟨g, e, HF.out.range hr id⟩
      have HR := hid hr
      have hk0 := pr_key hr hx
      clear hr hx
      have ck : wr.cell? ⟨g, j * 2, none⟩ = some (.string x.1) := by have := hk0.1; rwa [Nat.zero_add] at this
      have cv : wr.cell? ⟨g, j * 2 + 1, none⟩ = some (.string x.2) := by have := hk0.2; rwa [Nat.zero_add] at this
      clear hk0
      have HCK := hid ck
      by_cases hz : 0 < j
      · obtain ⟨i, hi⟩ : ∃ i, j = i + 1 := ⟨j - 1, by omega⟩
        have hi1 : i < l.length := by omega
        obtain ⟨y, hy⟩ : ∃ y, l[i]? = some y := ⟨_, List.getElem?_eq_getElem hi1⟩
        have hky := (pr_key HR.out hy).1
        have cy : wr.cell? ⟨g, i * 2, none⟩ = some (.string y.1) := by rwa [Nat.zero_add] at hky
        have hlty : lt y.1 x.1 = true := sorted_step HS.out hy (hi ▸ HX.out)
        have HLT := hid hlty
        have hpos : (0 : Int) < (j : Int) := by omega
        have hwr : Hid (IntKind.i64.wrap ((j : Int) - 1) = (i : Int)) := hid (by rw [IntKind.wrap_i64]; omega)
        have hil : (i : Int) < (l.length : Int) := by omega
        have HPOS := hid hpos
        have HII := hid hi
        clear hky hy hlty hpos hi
        go_wp2_with fail
        have hold : Facts.hold [(8, fun w' => w'.cell? ⟨g, i * 2, none⟩ = some (.string y.1)), (13, fun w' => w'.cell? ⟨g, j * 2, none⟩ = some (.string x.1))] wr.drew := Facts.cons_hold cy (Facts.cons_hold ck (Facts.nil_hold _))
        refine wpD_region hold (by kernel_rfl) 16 rfl ?_
        (refine wpD_plain 0 (v := ?_) rfl (by kernel_rfl) (by kernel_rfl) (by kernel_rfl) (fun _ _ _ h => h) (by rfl) ?_ (by assumption) ?_; rotate_left; (intro _w; go_simp; try with_reducible rfl); simp only [Act.put, List.setIfInBounds_toArray, List.set_cons_zero, List.set_cons_succ])
        (refine wpD_plain 1 (v := (.bool true)) rfl (by kernel_rfl) (by kernel_rfl) (by kernel_rfl) (fun _ _ _ h => h) (by rfl) ?_ (by assumption) ?_; (intro _w; go_simp; (have := HPOS.out; simp; try omega)); simp only [Act.put, List.setIfInBounds_toArray, List.set_cons_zero, List.set_cons_succ])
        (refine wpD_plain 2 (v := ?_) rfl (by kernel_rfl) (by kernel_rfl) (by kernel_rfl) (fun _ _ _ h => h) (by rfl) ?_ (by assumption) ?_; rotate_left; (intro _w; go_simp; try with_reducible rfl); simp only [Act.put, List.setIfInBounds_toArray, List.set_cons_zero, List.set_cons_succ])
        (refine wpD_plain 3 (v := ?_) rfl (by kernel_rfl) (by kernel_rfl) (by kernel_rfl) (fun _ _ _ h => h) (by rfl) ?_ (by assumption) ?_; rotate_left; (intro _w; go_simp; try with_reducible rfl); simp only [Act.put, List.setIfInBounds_toArray, List.set_cons_zero, List.set_cons_succ])
        (refine wpD_plain 4 (v := ?_) rfl (by kernel_rfl) (by kernel_rfl) (by kernel_rfl) (fun _ _ _ h => h) (by rfl) ?_ (by assumption) ?_; rotate_left; (intro _w; go_simp; try with_reducible rfl); simp only [Act.put, List.setIfInBounds_toArray, List.set_cons_zero, List.set_cons_succ])
        (refine wpD_plain 5 (v := (.int .i64 (i : Int))) rfl (by kernel_rfl) (by kernel_rfl) (by kernel_rfl) (fun _ _ _ h => h) (by rfl) ?_ (by assumption) ?_; (intro _w; go_simp; (exact hwr.out)); simp only [Act.put, List.setIfInBounds_toArray, List.set_cons_zero, List.set_cons_succ])
        (refine wpD_plain 6 (v := (.pointer (some ⟨g, i * 2, none⟩))) rfl (by kernel_rfl) (by kernel_rfl) (by kernel_rfl) (fun _ _ _ h => h) (by rfl) ?_ (by assumption) ?_; (intro _w; go_simp; skip); simp only [Act.put, List.setIfInBounds_toArray, List.set_cons_zero, List.set_cons_succ])
        (refine wpD_plain 7 (v := ?_) rfl (by kernel_rfl) (by kernel_rfl) (by kernel_rfl) (fun _ _ _ h => h) (by rfl) ?_ (by assumption) ?_; rotate_left; (intro _w; go_simp; try with_reducible rfl); simp only [Act.put, List.setIfInBounds_toArray, List.set_cons_zero, List.set_cons_succ])
        (refine wpD_take 8 _ rfl (by kernel_rfl) (by kernel_rfl) (by kernel_rfl) (fun _ _ _ h => h) List.mem_cons_self (by rfl) (v := ?_) ?_ (by assumption) ?_; rotate_left; (intro _w _hw; go_simp; try with_reducible rfl); simp only [Act.put, List.setIfInBounds_toArray, List.set_cons_zero, List.set_cons_succ])
        (refine wpD_plain 9 (v := ?_) rfl (by kernel_rfl) (by kernel_rfl) (by kernel_rfl) (fun _ _ _ h => h) (by rfl) ?_ (by assumption) ?_; rotate_left; (intro _w; go_simp; try with_reducible rfl); simp only [Act.put, List.setIfInBounds_toArray, List.set_cons_zero, List.set_cons_succ])
        (refine wpD_plain 10 (v := ?_) rfl (by kernel_rfl) (by kernel_rfl) (by kernel_rfl) (fun _ _ _ h => h) (by rfl) ?_ (by assumption) ?_; rotate_left; (intro _w; go_simp; try with_reducible rfl); simp only [Act.put, List.setIfInBounds_toArray, List.set_cons_zero, List.set_cons_succ])
        (refine wpD_plain 11 (v := (.pointer (some ⟨g, j * 2, none⟩))) rfl (by kernel_rfl) (by kernel_rfl) (by kernel_rfl) (fun _ _ _ h => h) (by rfl) ?_ (by assumption) ?_; (intro _w; go_simp; skip); simp only [Act.put, List.setIfInBounds_toArray, List.set_cons_zero, List.set_cons_succ])
        (refine wpD_plain 12 (v := ?_) rfl (by kernel_rfl) (by kernel_rfl) (by kernel_rfl) (fun _ _ _ h => h) (by rfl) ?_ (by assumption) ?_; rotate_left; (intro _w; go_simp; try with_reducible rfl); simp only [Act.put, List.setIfInBounds_toArray, List.set_cons_zero, List.set_cons_succ])
        (refine wpD_take 13 _ rfl (by kernel_rfl) (by kernel_rfl) (by kernel_rfl) (fun _ _ _ h => h) (List.mem_cons_of_mem _ List.mem_cons_self) (by rfl) (v := ?_) ?_ (by assumption) ?_; rotate_left; (intro _w _hw; go_simp; try with_reducible rfl); simp only [Act.put, List.setIfInBounds_toArray, List.set_cons_zero, List.set_cons_succ])
        (refine wpD_plain 14 (v := (.bool (!lt y.1 x.1))) rfl (by kernel_rfl) (by kernel_rfl) (by kernel_rfl) (fun _ _ _ h => h) (by rfl) ?_ (by assumption) ?_; (intro _w; go_simp; rfl); simp only [Act.put, List.setIfInBounds_toArray, List.set_cons_zero, List.set_cons_succ])
        rw [HLT.out]
        (refine wpD_plain 15 (v := ?_) rfl (by kernel_rfl) (by kernel_rfl) (by kernel_rfl) (fun _ _ _ h => h) (by rfl) ?_ (by assumption) ?_; rotate_left; (intro _w; go_simp; try with_reducible rfl); simp only [Act.put, List.setIfInBounds_toArray, List.set_cons_zero, List.set_cons_succ])
        clear hold
        refine wpD_done (by kernel_rfl) ?_ _
        try simp only [Act.put, List.setIfInBounds_toArray, List.set_cons_zero, List.set_cons_succ]
        go_wp2_with fail
        go_loopw [8, 9, 10] (fun v8 v9 v10 wk => ∃ k : Nat, k ≤ x0.length ∧ v8 = .string ((lastO x.1 (x0.take k)).getD ⟨#[]⟩) ∧ v9 = .bool (lastO x.1 (x0.take k)).isSome ∧ v10 = .int .i64 (k : Int) ∧ Hid (Fr No wr wk)) (fun _ _ v10 _ => x0.length - (intOf v10).toNat)
        case atStart => exact ⟨0, by omega, rfl, rfl, rfl, hid (Fr.refl _ _).drew⟩
        case round =>
          obtain ⟨k, hk, rfl, rfl, rfl, HK⟩ := hrel
          have ck' : wr.cell? ⟨g, j * 2, none⟩ = some (.string x.1) := HK.out.cell ck id
          have cv' : wr.cell? ⟨g, j * 2 + 1, none⟩ = some (.string x.2) := HK.out.cell cv id
          by_cases hkl : k < x0.length
          · have hkl' : (k : Int) < (x0.length : Int) := by omega
            obtain ⟨z, hz⟩ : ∃ z, x0[k]? = some z := ⟨_, List.getElem?_eq_getElem hkl⟩
            have htk : x0.take (k + 1) = x0.take k ++ [z] := by rw [List.take_add_one, hz]; rfl
            obtain ⟨g0, o0, rfl, hr0⟩ : ∃ g0 o0, a0 = some ⟨g0, o0, none⟩ ∧ wr.rangeAt g0 o0 (pcs x0) := by
              rcases H1.out with e | ⟨g0, o0, e, hr, _⟩
              · rw [e] at hkl; simp at hkl
              · exact ⟨g0, o0, e, HK.out.range (HF.out.range (HT3.out.fr.range hr id) id) id⟩
            have hcz := pr_key hr0 hz
            have cz := hcz.1
            have czv := hcz.2
            have HTK := hid htk
            clear hz htk hr0 hcz
            go_wp2_with fail
            have hold : Facts.hold [(4, fun w' => w'.cell? ⟨g0, o0 + k * 2, none⟩ = some (.string z.1)), (9, fun w' => w'.cell? ⟨g, j * 2, none⟩ = some (.string x.1))] wr.drew := Facts.cons_hold cz (Facts.cons_hold ck' (Facts.nil_hold _))
            refine wpD_region hold (by kernel_rfl) 11 rfl ?_
            (refine wpD_plain 0 (v := ?_) rfl (by kernel_rfl) (by kernel_rfl) (by kernel_rfl) (fun _ _ _ h => h) (by rfl) ?_ (by assumption) ?_; rotate_left; (intro _w; go_simp; try with_reducible rfl); simp only [Act.put, List.setIfInBounds_toArray, List.set_cons_zero, List.set_cons_succ])
            (refine wpD_plain 1 (v := ?_) rfl (by kernel_rfl) (by kernel_rfl) (by kernel_rfl) (fun _ _ _ h => h) (by rfl) ?_ (by assumption) ?_; rotate_left; (intro _w; go_simp; try with_reducible rfl); simp only [Act.put, List.setIfInBounds_toArray, List.set_cons_zero, List.set_cons_succ])
            (refine wpD_plain 2 (v := (.pointer (some ⟨g0, o0 + k * 2, none⟩))) rfl (by kernel_rfl) (by kernel_rfl) (by kernel_rfl) (fun _ _ _ h => h) (by rfl) ?_ (by assumption) ?_; (intro _w; go_simp; skip); simp only [Act.put, List.setIfInBounds_toArray, List.set_cons_zero, List.set_cons_succ])
            (refine wpD_plain 3 (v := ?_) rfl (by kernel_rfl) (by kernel_rfl) (by kernel_rfl) (fun _ _ _ h => h) (by rfl) ?_ (by assumption) ?_; rotate_left; (intro _w; go_simp; try with_reducible rfl); simp only [Act.put, List.setIfInBounds_toArray, List.set_cons_zero, List.set_cons_succ])
            (refine wpD_take 4 _ rfl (by kernel_rfl) (by kernel_rfl) (by kernel_rfl) (fun _ _ _ h => h) List.mem_cons_self (by rfl) (v := ?_) ?_ (by assumption) ?_; rotate_left; (intro _w _hw; go_simp; try with_reducible rfl); simp only [Act.put, List.setIfInBounds_toArray, List.set_cons_zero, List.set_cons_succ])
            (refine wpD_plain 5 (v := ?_) rfl (by kernel_rfl) (by kernel_rfl) (by kernel_rfl) (fun _ _ _ h => h) (by rfl) ?_ (by assumption) ?_; rotate_left; (intro _w; go_simp; try with_reducible rfl); simp only [Act.put, List.setIfInBounds_toArray, List.set_cons_zero, List.set_cons_succ])
            (refine wpD_plain 6 (v := ?_) rfl (by kernel_rfl) (by kernel_rfl) (by kernel_rfl) (fun _ _ _ h => h) (by rfl) ?_ (by assumption) ?_; rotate_left; (intro _w; go_simp; try with_reducible rfl); simp only [Act.put, List.setIfInBounds_toArray, List.set_cons_zero, List.set_cons_succ])
            (refine wpD_plain 7 (v := (.pointer (some ⟨g, j * 2, none⟩))) rfl (by kernel_rfl) (by kernel_rfl) (by kernel_rfl) (fun _ _ _ h => h) (by rfl) ?_ (by assumption) ?_; (intro _w; go_simp; skip); simp only [Act.put, List.setIfInBounds_toArray, List.set_cons_zero, List.set_cons_succ])
            (refine wpD_plain 8 (v := ?_) rfl (by kernel_rfl) (by kernel_rfl) (by kernel_rfl) (fun _ _ _ h => h) (by rfl) ?_ (by assumption) ?_; rotate_left; (intro _w; go_simp; try with_reducible rfl); simp only [Act.put, List.setIfInBounds_toArray, List.set_cons_zero, List.set_cons_succ])
            (refine wpD_take 9 _ rfl (by kernel_rfl) (by kernel_rfl) (by kernel_rfl) (fun _ _ _ h => h) (List.mem_cons_of_mem _ List.mem_cons_self) (by rfl) (v := ?_) ?_ (by assumption) ?_; rotate_left; (intro _w _hw; go_simp; try with_reducible rfl); simp only [Act.put, List.setIfInBounds_toArray, List.set_cons_zero, List.set_cons_succ])
            (refine wpD_plain 10 (v := (.bool (decide (z.1 = x.1)))) rfl (by kernel_rfl) (by kernel_rfl) (by kernel_rfl) (fun _ _ _ h => h) (by rfl) ?_ (by assumption) ?_; (intro _w; go_simp; exact eq_beq z.1 x.1); simp only [Act.put, List.setIfInBounds_toArray, List.set_cons_zero, List.set_cons_succ])
            clear hold
            refine wpD_done (by kernel_rfl) ?_ _
            try simp only [Act.put, List.setIfInBounds_toArray, List.set_cons_zero, List.set_cons_succ]
            have czv' : wr.drew.cell? ⟨g0, o0 + k * 2 + 1, none⟩ = some (.string z.2) := czv
            have HK' := hid HK.out.drew
            have hki : (k : Int) ≤ 4398046511000 := by omega
            clear cz czv ck' cv'
            by_cases hzx : z.1 = x.1
            · have hn : lastO x.1 (x0.take (k + 1)) = some z.2 := by rw [HTK.out, lastO_snoc, if_pos hzx]
              have HN := hid hn
              have hb : decide (z.1 = x.1) = true := decide_eq_true hzx
              rw [hb]
              clear hn hzx hb
              go_wp2_with fail
              exact ⟨⟨k + 1, by omega, by rw [HN.out]; rfl, by rw [HN.out]; rfl, by go_num, HK'⟩, by simp [intOf]; omega⟩
            · have hn : lastO x.1 (x0.take (k + 1)) = lastO x.1 (x0.take k) := by rw [HTK.out, lastO_snoc, if_neg hzx]
              have HN := hid hn
              have hb : decide (z.1 = x.1) = false := decide_eq_false hzx
              rw [hb]
              clear hn hzx hb
              go_wp2_with fail
              exact ⟨⟨k + 1, by omega, by rw [HN.out], by rw [HN.out], by go_num, HK'⟩, by simp [intOf]; omega⟩
          · have hkl' : ¬ ((k : Int) < (x0.length : Int)) := by omega
            have hke : x0.take k = x0 := List.take_of_length_le (by omega)
            have hlo : lastO x.1 x0 = some x.2 := by rw [← HG.out, get_mem HS.out HX.out]
            rw [hke, hlo]
            have HK' := hid (HF.out.trans' HK.out)
            have hji : (j : Int) ≤ 4398046511000 := by omega
            clear hke hlo
            show _
            simp only [Option.getD_some, Option.isSome_some]
            go_wp2_with fail
            exact ⟨⟨j + 1, by omega, by go_num, HK'⟩, by simp [intOf]; omega⟩
      · go_wp2_with fail
        have hold := Facts.nil_hold wr.drew
        refine wpD_region hold (by kernel_rfl) 16 rfl ?_
        (refine wpD_plain 0 (v := ?_) rfl (by kernel_rfl) (by kernel_rfl) (by kernel_rfl) (fun _ _ _ h => h) (by rfl) ?_ (by assumption) ?_; rotate_left; (intro _w; go_simp; try with_reducible rfl); simp only [Act.put, List.setIfInBounds_toArray, List.set_cons_zero, List.set_cons_succ])
        (refine wpD_plain 1 (v := (.bool false)) rfl (by kernel_rfl) (by kernel_rfl) (by kernel_rfl) (fun _ _ _ h => h) (by rfl) ?_ (by assumption) ?_; (intro _w; go_simp; (simp; try omega)); simp only [Act.put, List.setIfInBounds_toArray, List.set_cons_zero, List.set_cons_succ])
        (refine wpD_plain 2 (v := ?_) rfl (by kernel_rfl) (by kernel_rfl) (by kernel_rfl) (fun _ _ _ h => h) (by rfl) ?_ (by assumption) ?_; rotate_left; (intro _w; go_simp; try with_reducible rfl); simp only [Act.put, List.setIfInBounds_toArray, List.set_cons_zero, List.set_cons_succ])
        (refine wpD_skip 3 rfl (by kernel_rfl) (by kernel_rfl) (by kernel_rfl) (fun _ _ _ h => h) (by rfl) (by assumption) ?_; simp only [Act.put, List.setIfInBounds_toArray, List.set_cons_zero, List.set_cons_succ])
        (refine wpD_skip 4 rfl (by kernel_rfl) (by kernel_rfl) (by kernel_rfl) (fun _ _ _ h => h) (by rfl) (by assumption) ?_; simp only [Act.put, List.setIfInBounds_toArray, List.set_cons_zero, List.set_cons_succ])
        (refine wpD_skip 5 rfl (by kernel_rfl) (by kernel_rfl) (by kernel_rfl) (fun _ _ _ h => h) (by rfl) (by assumption) ?_; simp only [Act.put, List.setIfInBounds_toArray, List.set_cons_zero, List.set_cons_succ])
        (refine wpD_skip 6 rfl (by kernel_rfl) (by kernel_rfl) (by kernel_rfl) (fun _ _ _ h => h) (by rfl) (by assumption) ?_; simp only [Act.put, List.setIfInBounds_toArray, List.set_cons_zero, List.set_cons_succ])
        (refine wpD_skip 7 rfl (by kernel_rfl) (by kernel_rfl) (by kernel_rfl) (fun _ _ _ h => h) (by rfl) (by assumption) ?_; simp only [Act.put, List.setIfInBounds_toArray, List.set_cons_zero, List.set_cons_succ])
        (refine wpD_skip 8 rfl (by kernel_rfl) (by kernel_rfl) (by kernel_rfl) (fun _ _ _ h => h) (by rfl) (by assumption) ?_; simp only [Act.put, List.setIfInBounds_toArray, List.set_cons_zero, List.set_cons_succ])
        (refine wpD_skip 9 rfl (by kernel_rfl) (by kernel_rfl) (by kernel_rfl) (fun _ _ _ h => h) (by rfl) (by assumption) ?_; simp only [Act.put, List.setIfInBounds_toArray, List.set_cons_zero, List.set_cons_succ])
        (refine wpD_skip 10 rfl (by kernel_rfl) (by kernel_rfl) (by kernel_rfl) (fun _ _ _ h => h) (by rfl) (by assumption) ?_; simp only [Act.put, List.setIfInBounds_toArray, List.set_cons_zero, List.set_cons_succ])
        (refine wpD_skip 11 rfl (by kernel_rfl) (by kernel_rfl) (by kernel_rfl) (fun _ _ _ h => h) (by rfl) (by assumption) ?_; simp only [Act.put, List.setIfInBounds_toArray, List.set_cons_zero, List.set_cons_succ])
        (refine wpD_skip 12 rfl (by kernel_rfl) (by kernel_rfl) (by kernel_rfl) (fun _ _ _ h => h) (by rfl) (by assumption) ?_; simp only [Act.put, List.setIfInBounds_toArray, List.set_cons_zero, List.set_cons_succ])
        (refine wpD_skip 13 rfl (by kernel_rfl) (by kernel_rfl) (by kernel_rfl) (fun _ _ _ h => h) (by rfl) (by assumption) ?_; simp only [Act.put, List.setIfInBounds_toArray, List.set_cons_zero, List.set_cons_succ])
        (refine wpD_skip 14 rfl (by kernel_rfl) (by kernel_rfl) (by kernel_rfl) (fun _ _ _ h => h) (by rfl) (by assumption) ?_; simp only [Act.put, List.setIfInBounds_toArray, List.set_cons_zero, List.set_cons_succ])
        (refine wpD_plain 15 (v := ?_) rfl (by kernel_rfl) (by kernel_rfl) (by kernel_rfl) (fun _ _ _ h => h) (by rfl) ?_ (by assumption) ?_; rotate_left; (intro _w; go_simp; try with_reducible rfl); simp only [Act.put, List.setIfInBounds_toArray, List.set_cons_zero, List.set_cons_succ])
        clear hold
        refine wpD_done (by kernel_rfl) ?_ _
        try simp only [Act.put, List.setIfInBounds_toArray, List.set_cons_zero, List.set_cons_succ]
        go_wp2_with fail
        go_loopw [8, 9, 10] (fun v8 v9 v10 wk => ∃ k : Nat, k ≤ x0.length ∧ v8 = .string ((lastO x.1 (x0.take k)).getD ⟨#[]⟩) ∧ v9 = .bool (lastO x.1 (x0.take k)).isSome ∧ v10 = .int .i64 (k : Int) ∧ Hid (Fr No wr wk)) (fun _ _ v10 _ => x0.length - (intOf v10).toNat)
        case atStart => exact ⟨0, by omega, rfl, rfl, rfl, hid (Fr.refl _ _).drew⟩
        case round =>
          obtain ⟨k, hk, rfl, rfl, rfl, HK⟩ := hrel
          have ck' : wr.cell? ⟨g, j * 2, none⟩ = some (.string x.1) := HK.out.cell ck id
          have cv' : wr.cell? ⟨g, j * 2 + 1, none⟩ = some (.string x.2) := HK.out.cell cv id
          by_cases hkl : k < x0.length
          · have hkl' : (k : Int) < (x0.length : Int) := by omega
            obtain ⟨z, hz⟩ : ∃ z, x0[k]? = some z := ⟨_, List.getElem?_eq_getElem hkl⟩
            have htk : x0.take (k + 1) = x0.take k ++ [z] := by rw [List.take_add_one, hz]; rfl
            obtain ⟨g0, o0, rfl, hr0⟩ : ∃ g0 o0, a0 = some ⟨g0, o0, none⟩ ∧ wr.rangeAt g0 o0 (pcs x0) := by
              rcases H1.out with e | ⟨g0, o0, e, hr, _⟩
              · rw [e] at hkl; simp at hkl
              · exact ⟨g0, o0, e, HK.out.range (HF.out.range (HT3.out.fr.range hr id) id) id⟩
            have hcz := pr_key hr0 hz
            have cz := hcz.1
            have czv := hcz.2
            have HTK := hid htk
            clear hz htk hr0 hcz
            go_wp2_with fail
            have hold : Facts.hold [(4, fun w' => w'.cell? ⟨g0, o0 + k * 2, none⟩ = some (.string z.1)), (9, fun w' => w'.cell? ⟨g, j * 2, none⟩ = some (.string x.1))] wr.drew := Facts.cons_hold cz (Facts.cons_hold ck' (Facts.nil_hold _))
            refine wpD_region hold (by kernel_rfl) 11 rfl ?_
            (refine wpD_plain 0 (v := ?_) rfl (by kernel_rfl) (by kernel_rfl) (by kernel_rfl) (fun _ _ _ h => h) (by rfl) ?_ (by assumption) ?_; rotate_left; (intro _w; go_simp; try with_reducible rfl); simp only [Act.put, List.setIfInBounds_toArray, List.set_cons_zero, List.set_cons_succ])
            (refine wpD_plain 1 (v := ?_) rfl (by kernel_rfl) (by kernel_rfl) (by kernel_rfl) (fun _ _ _ h => h) (by rfl) ?_ (by assumption) ?_; rotate_left; (intro _w; go_simp; try with_reducible rfl); simp only [Act.put, List.setIfInBounds_toArray, List.set_cons_zero, List.set_cons_succ])
            (refine wpD_plain 2 (v := (.pointer (some ⟨g0, o0 + k * 2, none⟩))) rfl (by kernel_rfl) (by kernel_rfl) (by kernel_rfl) (fun _ _ _ h => h) (by rfl) ?_ (by assumption) ?_; (intro _w; go_simp; skip); simp only [Act.put, List.setIfInBounds_toArray, List.set_cons_zero, List.set_cons_succ])
            (refine wpD_plain 3 (v := ?_) rfl (by kernel_rfl) (by kernel_rfl) (by kernel_rfl) (fun _ _ _ h => h) (by rfl) ?_ (by assumption) ?_; rotate_left; (intro _w; go_simp; try with_reducible rfl); simp only [Act.put, List.setIfInBounds_toArray, List.set_cons_zero, List.set_cons_succ])
            (refine wpD_take 4 _ rfl (by kernel_rfl) (by kernel_rfl) (by kernel_rfl) (fun _ _ _ h => h) List.mem_cons_self (by rfl) (v := ?_) ?_ (by assumption) ?_; rotate_left; (intro _w _hw; go_simp; try with_reducible rfl); simp only [Act.put, List.setIfInBounds_toArray, List.set_cons_zero, List.set_cons_succ])
            (refine wpD_plain 5 (v := ?_) rfl (by kernel_rfl) (by kernel_rfl) (by kernel_rfl) (fun _ _ _ h => h) (by rfl) ?_ (by assumption) ?_; rotate_left; (intro _w; go_simp; try with_reducible rfl); simp only [Act.put, List.setIfInBounds_toArray, List.set_cons_zero, List.set_cons_succ])
            (refine wpD_plain 6 (v := ?_) rfl (by kernel_rfl) (by kernel_rfl) (by kernel_rfl) (fun _ _ _ h => h) (by rfl) ?_ (by assumption) ?_; rotate_left; (intro _w; go_simp; try with_reducible rfl); simp only [Act.put, List.setIfInBounds_toArray, List.set_cons_zero, List.set_cons_succ])
            (refine wpD_plain 7 (v := (.pointer (some ⟨g, j * 2, none⟩))) rfl (by kernel_rfl) (by kernel_rfl) (by kernel_rfl) (fun _ _ _ h => h) (by rfl) ?_ (by assumption) ?_; (intro _w; go_simp; skip); simp only [Act.put, List.setIfInBounds_toArray, List.set_cons_zero, List.set_cons_succ])
            (refine wpD_plain 8 (v := ?_) rfl (by kernel_rfl) (by kernel_rfl) (by kernel_rfl) (fun _ _ _ h => h) (by rfl) ?_ (by assumption) ?_; rotate_left; (intro _w; go_simp; try with_reducible rfl); simp only [Act.put, List.setIfInBounds_toArray, List.set_cons_zero, List.set_cons_succ])
            (refine wpD_take 9 _ rfl (by kernel_rfl) (by kernel_rfl) (by kernel_rfl) (fun _ _ _ h => h) (List.mem_cons_of_mem _ List.mem_cons_self) (by rfl) (v := ?_) ?_ (by assumption) ?_; rotate_left; (intro _w _hw; go_simp; try with_reducible rfl); simp only [Act.put, List.setIfInBounds_toArray, List.set_cons_zero, List.set_cons_succ])
            (refine wpD_plain 10 (v := (.bool (decide (z.1 = x.1)))) rfl (by kernel_rfl) (by kernel_rfl) (by kernel_rfl) (fun _ _ _ h => h) (by rfl) ?_ (by assumption) ?_; (intro _w; go_simp; exact eq_beq z.1 x.1); simp only [Act.put, List.setIfInBounds_toArray, List.set_cons_zero, List.set_cons_succ])
            clear hold
            refine wpD_done (by kernel_rfl) ?_ _
            try simp only [Act.put, List.setIfInBounds_toArray, List.set_cons_zero, List.set_cons_succ]
            have czv' : wr.drew.cell? ⟨g0, o0 + k * 2 + 1, none⟩ = some (.string z.2) := czv
            have HK' := hid HK.out.drew
            have hki : (k : Int) ≤ 4398046511000 := by omega
            clear cz czv ck' cv'
            by_cases hzx : z.1 = x.1
            · have hn : lastO x.1 (x0.take (k + 1)) = some z.2 := by rw [HTK.out, lastO_snoc, if_pos hzx]
              have HN := hid hn
              have hb : decide (z.1 = x.1) = true := decide_eq_true hzx
              rw [hb]
              clear hn hzx hb
              go_wp2_with fail
              exact ⟨⟨k + 1, by omega, by rw [HN.out]; rfl, by rw [HN.out]; rfl, by go_num, HK'⟩, by simp [intOf]; omega⟩
            · have hn : lastO x.1 (x0.take (k + 1)) = lastO x.1 (x0.take k) := by rw [HTK.out, lastO_snoc, if_neg hzx]
              have HN := hid hn
              have hb : decide (z.1 = x.1) = false := decide_eq_false hzx
              rw [hb]
              clear hn hzx hb
              go_wp2_with fail
              exact ⟨⟨k + 1, by omega, by rw [HN.out], by rw [HN.out], by go_num, HK'⟩, by simp [intOf]; omega⟩
          · have hkl' : ¬ ((k : Int) < (x0.length : Int)) := by omega
            have hke : x0.take k = x0 := List.take_of_length_le (by omega)
            have hlo : lastO x.1 x0 = some x.2 := by rw [← HG.out, get_mem HS.out HX.out]
            rw [hke, hlo]
            have HK' := hid (HF.out.trans' HK.out)
            have hji : (j : Int) ≤ 4398046511000 := by omega
            clear hke hlo
            show _
            simp only [Option.getD_some, Option.isSome_some]
            go_wp2_with fail
            exact ⟨⟨j + 1, by omega, by go_num, HK'⟩, by simp [intOf]; omega⟩
    · have hge : ¬ ((j : Int) < (l.length : Int)) := by omega
      have HTr := hid (HT3.out.no HF.out)
      clear hlt
      go_wp2_with fail
      go_loopw [11] (fun i wk => ∃ k : Nat, k ≤ x0.length ∧ i = .int .i64 (k : Int) ∧ Hid (Lv W wk b T l)) (fun i _ => x0.length - (intOf i).toNat)
      case atStart => exact ⟨0, by omega, rfl, HTr⟩
      case round =>
        obtain ⟨k, hk, rfl, HK⟩ := hrel
        by_cases hkl : k < x0.length
        · have hkl' : (k : Int) < (x0.length : Int) := by omega
          obtain ⟨z, hz⟩ : ∃ z, x0[k]? = some z := ⟨_, List.getElem?_eq_getElem hkl⟩
          obtain ⟨g0, o0, rfl, hr0⟩ : ∃ g0 o0, a0 = some ⟨g0, o0, none⟩ ∧ wr.rangeAt g0 o0 (pcs x0) := by
            rcases H1.out with e | ⟨g0, o0, e, hr, _⟩
            · rw [e] at hkl; simp at hkl
            · exact ⟨g0, o0, e, HK.out.fr.range hr id⟩
          have cz := (pr_key hr0 hz).1
          have hsome : (get z.1 l).isSome = true := by
            rw [HG.out]
            exact lastO_mem x0 ⟨z, List.mem_of_getElem? hz, rfl⟩
          have HSM := hid hsome
          have hki : (k : Int) ≤ 4398046511000 := by omega
          clear hz hr0 hsome
          go_wp2_with fail
          refine (HK.out.get (by have := HLN.out; omega) _).mono ?_
          rintro e w5 ⟨rfl, t5, -⟩
          have HT5 := hid t5
          unfold getV
          rw [HSM.out]
          clear t5 cz
          go_wp2_with fail
          exact ⟨⟨k + 1, by omega, by go_num, HT5⟩, by simp [intOf]; omega⟩
        · have hkl' : ¬ ((k : Int) < (x0.length : Int)) := by omega
          go_wp2_with fail
          go_ret
          exact ⟨rfl, HK.out.fr⟩
end Go.Proofs.Ytmcminejnknliaa.TR
