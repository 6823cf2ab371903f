/-
  The walk of TreeLen.
-/
import Derived.Test.YtmcminejnknliaaTrRow
import Derived.Test.YtmcminejnknliaaTrLa
namespace Go.Proofs.Ytmcminejnknliaa.TR
set_option maxRecDepth 100000
open Go.RowKit K

theorem get_del (k : S) (l : L) (hs : Sorted l) : get k (del k l) = none := by
  induction l with
  | nil => rfl
  | cons x r ih =>
    have h1 : ∀ y ∈ r, lt x.1 y.1 = true := (List.pairwise_cons.1 hs).1
    have h2 : Sorted r := (List.pairwise_cons.1 hs).2
    unfold del
    split
    · rename_i h
      unfold get
      rw [if_pos h]
      exact ih h2
    · rename_i h
      split
      · rename_i e
        exact get_gt (fun y hy => by rw [← e]; exact h1 y hy)
      · rename_i e
        unfold get
        rw [if_neg h, if_neg e]
theorem StAt.cell {w : World} {l : List S} {a : Option Addr} (h : l = [] ∨ ∃ g o, a = some ⟨g, o, none⟩ ∧ g < w.heap.size ∧ w.rangeAt g o (l.map Value.string)) {j : Nat} {k : S} (hk : l[j]? = some k) : ∃ g o, a = some ⟨g, o, none⟩ ∧ w.cell? ⟨g, o + j, none⟩ = some (.string k) := by
  rcases h with rfl | ⟨g, o, e, _, hr⟩
  · simp at hk
  · exact ⟨g, o, e, hr j _ (by rw [List.getElem?_map, hk]; rfl)⟩
set_option maxHeartbeats 8000000 in
theorem treeLen_walk (W : World) (v0 v1 : Value) (x0 : L) (x1 : List S) (h0 : PrAt W v0 x0) (h1 : StAt W v1 x1) : Calls Try.prog 9 #[v0, v1] W fun e W' => e = .returned (.bool true) ∧ Fr No W W' := by
  have H0 := hid h0
  obtain ⟨a0, c0, rfl, hn0, -⟩ := h0
  obtain ⟨a1, c1, rfl, hn1, h1⟩ := h1
  have H1 := hid h1
  have hni : (x0.length : Int) ≤ 4398046511000 := by omega
  have hn1i : (x1.length : Int) ≤ 140737488351232 := by omega
  have hol := ofL_length x0
  have HOL : Hid ((ofL x0).length ≤ x0.length ∧ x0.length ≤ 4398046511000) := hid ⟨hol, hn0⟩
  clear h1 hn0 hn1 hol
  go_enter Try.func9, Try.ntmps9
  go_wp2_with fail
  refine (awake_any W).mono ?_
  rintro e w1 ⟨rfl, f1⟩
  have F1 := hid f1
  clear f1
  go_wp2_with fail
  refine (of_any w1 _ x0 (H0.out.no F1.out)).mono ?_
  rintro e w2 ⟨b, T, rfl, t2⟩
  have HT := hid (t2.pre F1.out)
  clear t2
  go_wp2_with fail
  go_loopw [7] (fun i wr => ∃ (j : Nat) (T : TD) (l : L), j ≤ x1.length ∧ j ≤ 200 ∧ i = .int .i64 (j : Int) ∧ Hid (Lv W wr b T l) ∧ Hid (l.length ≤ x0.length)) (fun i _ => 200 - (intOf i).toNat)
  case atStart => exact ⟨0, T, _, by omega, by omega, rfl, HT, hid HOL.out.1⟩
  case round =>
    obtain ⟨j, T, l, hj, hj2, rfl, HT, HL⟩ := hrel
    by_cases hlt : j < x1.length ∧ j < 200
    · obtain ⟨hlt1, hlt2⟩ := hlt
      have hlt1' : (j : Int) < (x1.length : Int) := by omega
      have hlt2' : (j : Int) < 200 := by omega
      have hln : l.length ≤ 4398046511104 := by have := HL.out; have := HOL.out; omega
      have HLN := hid hln
      obtain ⟨k, hk⟩ : ∃ k, x1[j]? = some k := ⟨_, List.getElem?_eq_getElem hlt1⟩
      obtain ⟨g, o, rfl, hc⟩ := StAt.cell H1.out hk
      have HC := hid hc
      have HK := hid hk
      clear hc hk hln
      go_wp2_with fail
      refine HT.out.len.mono ?_
      rintro e w3 ⟨rfl, rfl⟩
      have cc : w3.cell? ⟨g, o + j, none⟩ = some (.string k) := HT.out.fr.cell HC.out id
      go_wp2_with fail
      refine (HT.out.get HLN.out _).mono ?_
      rintro e w4 ⟨rfl, t4, f4⟩
      have HT4 := hid t4
      have cc4 : w4.cell? ⟨g, o + j, none⟩ = some (.string k) := HT4.out.fr.cell HC.out id
      clear t4 f4 cc
      unfold getV
      go_wp2_with fail
      refine (HT4.out.del HLN.out _).mono ?_
      rintro e w5 ⟨rfl, T5, t5, f5, g5⟩
      have HT5 := hid t5
      have cc5 : w5.cell? ⟨g, o + j, none⟩ = some (.string k) := HT5.out.fr.cell HC.out id
      clear t5 f5 g5 cc4
      have hdl := del_length k l
      have HDL := hid hdl
      have HLD : Hid ((del k l).length ≤ x0.length) := hid (by have := HL.out; split at hdl <;> omega)
      clear hdl
      go_wp2_with fail
      refine HT5.out.len.mono ?_
      rintro e w6 ⟨rfl, rfl⟩
      go_wp2_with fail
      refine (HT5.out.get (by have := HLD.out; have := HOL.out; omega) _).mono ?_
      rintro e w7 ⟨rfl, t7, f7⟩
      have HT7 := hid t7
      rw [get_del k l HT.out.at_.sorted]
      clear t7 f7 cc5
      unfold getV
      have HLV : Hid (Lv W w7 b T5 (del k l)) := HT7
      have hbd : (l.length : Int) ≤ 4398046511104 := by have := HLN.out; omega
      have hnx : ∀ P : Prop, (Hid (Lv W w7 b T5 (del k l)) → Hid ((del k l).length ≤ x0.length) → P) → P := fun P hp => hp HLV HLD
      cases hh : has k l with
      | false =>
        have hd : (del k l).length = l.length := by have := HDL.out; rw [hh] at this; simpa using this
        rw [hd]
        rw [show (get k l).isSome = false from hh]
        clear hd hbd hnx
        go_wp2_with fail
        exact ⟨⟨j + 1, T5, _, by omega, by omega, by go_num, HLV, HLD⟩, by simp [intOf]; omega⟩
      | true =>
        obtain ⟨m, hm⟩ : ∃ m, (del k l).length = m := ⟨_, rfl⟩
        have hl : l.length = m + 1 := by have := HDL.out; rw [hh, hm] at this; simpa using this.symm
        rw [hm, hl]
        rw [hl] at hbd
        have hbm : (m : Int) ≤ 4398046511104 := by omega
        rw [show (get k l).isSome = true from hh]
        clear hm hl hbd hnx
        go_wp2_with fail
        exact ⟨⟨j + 1, T5, _, by omega, by omega, by go_num, HLV, HLD⟩, by simp [intOf]; omega⟩
    · have HX : Hid (¬ (j < x1.length ∧ j < 200)) := hid hlt
      clear hlt
      have hln : l.length ≤ 4398046511104 := by have := HL.out; have := HOL.out; omega
      have HLN := hid hln
      clear hln
      have fin : ∀ (K : Prop), True := fun _ => trivial
      clear fin
      by_cases hlt1 : j < x1.length
      · have hlt1' : (j : Int) < (x1.length : Int) := by omega
        have hlt2' : ¬ ((j : Int) < 200) := by have := HX.out; omega
        go_wp2_with fail
        refine HT.out.len.mono ?_
        rintro e w3 ⟨rfl, rfl⟩
        go_wp2_with fail
        refine (HT.out.all HLN.out).mono ?_
        rintro e w4 ⟨pv, rfl, ⟨a4, c4, rfl, -⟩, t4, -⟩
        have HT4 := hid t4
        have hle : (l.length : Int) ≤ (x0.length : Int) := by have := HL.out; omega
        clear t4
        go_wp2_with fail
        go_ret
        exact ⟨rfl, HT4.out.fr⟩
      · have hlt1' : ¬ ((j : Int) < (x1.length : Int)) := by omega
        go_wp2_with fail
        refine HT.out.len.mono ?_
        rintro e w3 ⟨rfl, rfl⟩
        go_wp2_with fail
        refine (HT.out.all HLN.out).mono ?_
        rintro e w4 ⟨pv, rfl, ⟨a4, c4, rfl, -⟩, t4, -⟩
        have HT4 := hid t4
        have hle : (l.length : Int) ≤ (x0.length : Int) := by have := HL.out; omega
        clear t4
        go_wp2_with fail
        go_ret
        exact ⟨rfl, HT4.out.fr⟩
end Go.Proofs.Ytmcminejnknliaa.TR
