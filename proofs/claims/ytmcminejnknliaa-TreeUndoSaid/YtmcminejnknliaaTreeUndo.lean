/-
  The walk of TreeUndo.
-/
import Derived.Test.YtmcminejnknliaaTrSm
import Derived.Test.YtmcminejnknliaaTreeOrder
namespace Go.Proofs.Ytmcminejnknliaa.TR
set_option maxRecDepth 100000
open Go.RowKit K

theorem put_back (k v : S) (l : L) (o : S) (h : get k l = some o) : put k o (put k v l) = l := by
  induction l with
  | nil => simp [get] at h
  | cons x r ih =>
    unfold get at h
    by_cases h1 : lt x.1 k = true
    · rw [if_pos h1] at h
      simp only [put, h1, if_true]
      rw [ih h]
    · rw [if_neg h1] at h
      by_cases h2 : x.1 = k
      · rw [if_pos h2] at h
        have h3 : x.2 = o := by simpa using h
        subst h2 h3
        simp [put, h1]
      · rw [if_neg h2] at h; cases h
theorem del_put (k v : S) (l : L) (h : get k l = none) (hs : Sorted l) : del k (put k v l) = l := by
  induction l with
  | nil => simp [put, del, lt_irr]
  | cons x r ih =>
    have h2' : Sorted r := (List.pairwise_cons.1 hs).2
    unfold get at h
    by_cases h1 : lt x.1 k = true
    · rw [if_pos h1] at h
      simp only [put, h1, if_true, del]
      rw [ih h h2']
    · rw [if_neg h1] at h
      by_cases h2 : x.1 = k
      · rw [if_pos h2] at h; cases h
      · simp [put, h1, h2, del, lt_irr]
set_option maxHeartbeats 8000000 in
theorem treeUndo_walk (W : World) (v0 : Value) (x0 : L) (key v : S) (h0 : PrAt W v0 x0) : Calls Try.prog 6 #[v0, .string key, .string v] W fun e W' => e = .returned (.bool true) ∧ Fr No W W' := by
  have H0 := hid h0
  obtain ⟨a0, c0, rfl, hn0, -⟩ := h0
  have hol := ofL_length x0
  obtain ⟨l, hl⟩ : ∃ l, ofL x0 = l := ⟨_, rfl⟩
  have HS : Hid (Sorted l) := hid (hl ▸ ofL_sorted x0)
  have HLN : Hid (l.length ≤ 4398046511000) := hid (by rw [hl] at hol; omega)
  clear hn0 hol
  go_enter Try.func6, Try.ntmps6
  go_wp2_with fail
  refine (awake_any W).mono ?_
  rintro e w1 ⟨rfl, f1⟩
  have F1 := hid f1
  clear f1
  go_wp2_with fail
  refine (of_any w1 _ x0 (H0.out.no F1.out)).mono ?_
  rintro e w2 ⟨b, T, rfl, t2⟩
  rw [hl] at t2
  have HT := hid (t2.pre F1.out)
  clear t2 hl
  go_wp2_with fail
  refine (HT.out.all (by have := HLN.out; omega)).mono ?_
  rintro e w3 ⟨pv, rfl, p3, t3, -⟩
  obtain ⟨a3, c3, rfl, h3⟩ := p3
  have HT3 := hid t3; have H3 := hid h3
  clear t3 h3
  go_wp2_with fail
  refine (HT3.out.get (by have := HLN.out; omega) _).mono ?_
  rintro e w4 ⟨rfl, t4, f4⟩
  have HT4 := hid t4; have F4 := hid f4
  clear t4 f4
  unfold getV
  go_wp2_with fail
  refine (HT4.out.put HLN.out _ _).mono ?_
  rintro e w5 ⟨rfl, T5, t5, f5, g5⟩
  have HT5 := hid t5; have F5 := hid f5; have G5 := hid g5
  clear t5 f5 g5
  have HP1 : Hid ((put key v l).length ≤ 4398046511001) := hid (by have := put_length key v l; have := HLN.out; split at * <;> omega)
  go_wp2_with fail
  refine (HT5.out.get (by have := HP1.out; omega) _).mono ?_
  rintro e w6 ⟨rfl, t6, f6⟩
  have HT6 := hid t6; have F6 := hid f6
  clear t6 f6
  rw [get_put_same]
  unfold getV
  have HNF : Hid (∀ g, w2.heap.size ≤ g → g < w3.heap.size → ¬ T.fp g ∧ ¬ T5.fp g) := hid (fun g lo hi => by
    have h1 : ¬ T.fp g := fun h => by have := HT.out.at_.lt g h; omega
    exact ⟨h1, fun h => (G5.out g h).elim h1 (fun e => by have := F4.out.size; omega)⟩)
  have hh : has key l = (get key l).isSome := rfl
  rw [hh]
  cases ho : get key l with
  | none =>
      have hdl : has key (put key v l) = true := by unfold has; rw [get_put_same]; rfl
      have HB := hid (del_put key v l ho HS.out)
      simp only [Option.getD_none, Option.isSome_none, Option.getD_some, Option.isSome_some]
      clear hh
      go_wp2_with fail
      refine (HT6.out.del (by have := HP1.out; omega) _).mono ?_
      rintro e w7 ⟨rfl, T7, t7, f7, -⟩
      rw [HB.out] at t7
      rw [hdl]
      have HT7 := hid t7; have F7 := hid f7
      clear t7 f7 hdl
      go_wp2_with fail
      refine (HT7.out.all (by have := HLN.out; omega)).mono ?_
      rintro e w8 ⟨pv, rfl, p8, t8, f8⟩
      have HT8 := hid t8; have F8 := hid f8
      have HP8 := hid p8.pr
      obtain ⟨a8, c8, rfl, -⟩ := p8
      clear t8 f8
      have HP3 : Hid (PR w8 (.slice a3 l.length c3) l) := hid ⟨a3, c3, rfl, H3.out.imp id fun ⟨g, e, r, lo, hi⟩ =>
        ⟨g, 0, e, F8.out.range (F7.out.range (F6.out.range (F5.out.range (F4.out.range r id) (HNF.out g lo hi).1) id) (HNF.out g lo hi).2) id⟩⟩
      go_wp2_with fail
      refine (same_eq w8 _ _ l HP3.out HP8.out (by have := HLN.out; omega)).mono ?_
      rintro e w9 ⟨rfl, f9⟩
      have HT9 := hid (HT8.out.no f9)
      clear f9
      go_wp2_with fail
      refine (short_any HT9.out (by have := HLN.out; omega)).mono ?_
      rintro e w10 ⟨rfl, t10, -⟩
      have HT10 := hid t10
      clear t10
      go_wp2_with fail
      go_ret
      exact ⟨rfl, HT10.out.fr⟩
  | some o =>
      have HB := hid (put_back key v l o ho)
      simp only [Option.getD_some, Option.isSome_some]
      clear hh
      go_wp2_with fail
      refine (HT6.out.put (by have := put_length key v l; have h2 : has key l = true := by unfold has; rw [ho]; rfl
                              rw [h2] at this; have := HLN.out; simp at *; omega) _ _).mono ?_
      rintro e w7 ⟨rfl, T7, t7, f7, -⟩
      rw [HB.out] at t7
      have HT7 := hid t7; have F7 := hid f7
      clear t7 f7
      go_wp2_with fail
      refine (HT7.out.all (by have := HLN.out; omega)).mono ?_
      rintro e w8 ⟨pv, rfl, p8, t8, f8⟩
      have HT8 := hid t8; have F8 := hid f8
      have HP8 := hid p8.pr
      obtain ⟨a8, c8, rfl, -⟩ := p8
      clear t8 f8
      have HP3 : Hid (PR w8 (.slice a3 l.length c3) l) := hid ⟨a3, c3, rfl, H3.out.imp id fun ⟨g, e, r, lo, hi⟩ =>
        ⟨g, 0, e, F8.out.range (F7.out.range (F6.out.range (F5.out.range (F4.out.range r id) (HNF.out g lo hi).1) id) (HNF.out g lo hi).2) id⟩⟩
      go_wp2_with fail
      refine (same_eq w8 _ _ l HP3.out HP8.out (by have := HLN.out; omega)).mono ?_
      rintro e w9 ⟨rfl, f9⟩
      have HT9 := hid (HT8.out.no f9)
      clear f9
      go_wp2_with fail
      refine (short_any HT9.out (by have := HLN.out; omega)).mono ?_
      rintro e w10 ⟨rfl, t10, -⟩
      have HT10 := hid t10
      clear t10
      go_wp2_with fail
      go_ret
      exact ⟨rfl, HT10.out.fr⟩
end Go.Proofs.Ytmcminejnknliaa.TR
