/-
  What each row's proof of stage 10 needs of its arguments: lists of texts.
-/
import Derived.Test.YtoikiokcpakokaaBeRow
import Derived.Test.YtoikiokcpakokaaFrM
set_option linter.unusedVariables false
set_option linter.unusedSimpArgs false
namespace Go.Proofs.Ytoikiokcpakokaa.FR
set_option maxRecDepth 100000
open Go.ChangeShapes Go.WideShapes Go.ChangeAt Go.RowKit K Go.Proofs.Ytoikiokcpakokaa.BE

theorem mem_bulk {H : Type} : ∀ {l : List (DataW H)} {d : DataW H}, d ∈ l → Rows.uptoBulk d ≤ Rows.uptoBulkAll l
  | a :: r, d, h => by
    simp only [Rows.uptoBulkAll]
    rcases List.mem_cons.1 h with rfl | h
    · omega
    · have := mem_bulk h; omega
section
variable {H : Type} {enc : TypeId × Value → H} {W W' : World} {v : Value} {d : DataW H} {p : List MemPlace} {ts : List TypeId} {ds : List (DataW H)}
theorem cellsTx : Try.prog.cellsOf 9 = 1 := by kernel_rfl
theorem arg_tx (h : DataW.Trod enc Try.prog W 0 (fun _ => true) true 22 v d p) (hv : ∃ a l c, v = .slice a l c) (hsz : (DataW.weightsEach Try.prog ts ds).all (· ≤ reachBytes) = true) (j : Nat) (ht : ts[j]? = some 22) (hd : ds[j]? = some d) :
    ∃ xs, TxIn W (fun k => k < W.heap.size) v xs ∧ (∀ x ∈ xs, x.length ≤ 140737488351232) ∧ ∀ x ∈ xs, x.length ≤ Rows.uptoBulk d := by
  obtain ⟨fuel, h⟩ := h
  have hw : ∀ n ∈ d.weights Try.prog 22, n ≤ reachBytes := fun n hn => by simpa using List.all_eq_true.1 hsz n (DataW.weights_mem_each ht hd n hn)
  obtain ⟨a', l', c', rfl⟩ := hv
  rcases DataW.trod_slice Try.underlying22 h with ⟨r, _⟩ | ⟨a, len, cap, elems, rest, n, _, r1, r2, _, hl, hm, hlen, hel, hsp, _⟩
  · simp [Value.cells] at r
    obtain ⟨rfl, rfl, rfl⟩ := r
    exact ⟨[], tx_nil _ _ _ _, fun x hx => (by cases hx), fun x hx => (by cases hx)⟩
  · simp [Value.cells] at r1
    obtain ⟨rfl, rfl, rfl⟩ := r1
    have hde : d = .slice (elems.map (·.1)) (rest.map (·.1)) := congrArg Prod.fst r2
    obtain ⟨xs, hxl, hxs⟩ := list_of (p := fun i (x : B) => W.cell? (a.add i) = some (.string (sb x)) ∧ x.length ≤ 140737488351232 ∧ x.length ≤ Rows.uptoBulk d) l' (fun i hi => by
      have h3 := hel i hi
      rw [List.getElem?_eq_getElem (by omega), cellsTx] at h3
      obtain ⟨cs', hc, ht'⟩ := Option.bind_eq_some_iff.1 h3
      obtain ⟨hcl, hcc⟩ := cells_of hc
      obtain ⟨s, q1, q2, _⟩ := DataW.trod_string Try.underlying9 ht'
      subst q1
      have hmem : elems[i].1 ∈ elems.map (·.1) := List.mem_map_of_mem (List.getElem_mem (by omega))
      have q2' : elems[i].1 = .lit (.string s.data.toList) := congrArg Prod.fst q2
      refine ⟨s.data.toList, ?_, ?_, ?_⟩
      · have := hcc 0 _ rfl
        rw [Nat.mul_one] at this
        rw [sb_of]
        have e : (a.add i).add 0 = a.add i := by rw [addr_add]; rfl
        rwa [e] at this
      · refine hw _ ?_
        rw [hde]
        simp only [DataW.weights, Try.underlying22]
        refine List.mem_cons_of_mem _ (List.mem_append.2 (.inl (mem_weightsAll hmem ?_)))
        rw [q2']
        simp [DataW.weights]
      · have hb := mem_bulk hmem
        rw [q2'] at hb
        rw [hde]
        simp only [Rows.uptoBulk] at hb ⊢
        omega)
    refine ⟨xs, ⟨_, _, _, rfl, hxl, hl, ?_⟩, fun x hx => ?_, fun x hx => ?_⟩
    · by_cases h0 : l' = 0
      · exact .inl h0
      · right
        obtain ⟨x0, hx0⟩ : ∃ x, xs[0]? = some x := ⟨xs[0]'(by omega), List.getElem?_eq_getElem _⟩
        obtain ⟨g, o, rfl, hg⟩ := addr_of (hxs 0 x0 hx0).1
        refine ⟨g, o, rfl, hg, hg, fun j v hj => ?_⟩
        unfold strs at hj
        rw [List.getElem?_map] at hj
        obtain ⟨x, hx, rfl⟩ := Option.map_eq_some_iff.1 hj
        have := (hxs j x hx).1
        rwa [Addr.add_mid] at this
    · obtain ⟨i, hi, rfl⟩ := List.mem_iff_getElem.1 hx
      exact (hxs i _ (List.getElem?_eq_getElem hi)).2.1
    · obtain ⟨i, hi, rfl⟩ := List.mem_iff_getElem.1 hx
      exact (hxs i _ (List.getElem?_eq_getElem hi)).2.2
end
end Go.Proofs.Ytoikiokcpakokaa.FR
