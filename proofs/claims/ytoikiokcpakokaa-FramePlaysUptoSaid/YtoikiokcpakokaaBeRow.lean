/-
  What each row's proof needs of the program and of its arguments: elements and texts.
-/
import Derived.Test.YtoikiokcpakokaaRows
import Derived.Test.YtoikiokcpakokaaBytes
import Derived.Test.YtoikiokcpakokaaBeN
import Derived.WalkKit
import Derived.ProofKit
import Derived.OpenShut
import Derived.ChangeOld
import Derived.Below
import Derived.SizedLaws
set_option linter.unusedVariables false
set_option linter.unusedSimpArgs false
namespace Go.Proofs.Ytoikiokcpakokaa.BE
set_option maxRecDepth 100000
open Go.ChangeShapes Go.WideShapes Go.ChangeAt Go.RowKit K

theorem own : ownKnob Try.prog.godebug = none := by kernel_rfl
theorem laidOut : laidOutB Try.prog = true := by kernel_rfl
theorem i64_of {n : Int} (h : (Lit.int .i64 n).wf = true) : -9223372036854775808 ≤ n ∧ n ≤ 9223372036854775807 := by
  simpa [Lit.wf, IntKind.min, IntKind.signed, IntKind.bits] using h
section
variable {H : Type} {enc : TypeId × Value → H} {W W' : World} {v : Value} {d : DataW H} {p : List MemPlace} {ts : List TypeId} {ds : List (DataW H)}
theorem arg_sb {t : TypeId} (hu : Try.prog.underlying t = some .string) (h : DataW.Trod enc Try.prog W 0 (fun _ => true) true t v d p) (hv : ∃ s, v = .string s) (hsz : (DataW.weightsEach Try.prog ts ds).all (· ≤ reachBytes) = true) (j : Nat) (ht : ts[j]? = some t) (hd : ds[j]? = some d) :
    ∃ l : B, v = .string (sb l) ∧ l.length ≤ 140737488351232 := by
  obtain ⟨s, e, hs⟩ := (reads_of h hsz j ht hd).string hu
  obtain ⟨s', rfl⟩ := hv
  simp [Value.cells] at e
  subst e
  exact ⟨s'.data.toList, by rw [sb_of], by rw [size_list]; exact hs⟩
/-- What was there reads behind the call as before. -/
theorem again {t : TypeId} (hr : Try.prog.readableRec t = true) (hrow : t < Try.prog.types.size) (h : DataW.Trod enc Try.prog W 0 (fun _ => true) true t v d p) (hb : Go.RowKit.Below W.heap.size W W') : DataW.Trod enc Try.prog W' 0 (fun b => decide (b < W.heap.size)) true t v d p :=
  Go.RowKit.Below.trod laidOut hr hrow h hb (by obtain ⟨m, hm⟩ := h; exact DataW.trod_lt m _ _ _ hm)
end
/-- These cells read, within so many levels. -/
def ReadsF (fuel : Nat) (w : World) (t : TypeId) (cs : List Value) : Prop :=
  ∃ (H : Type) (enc : TypeId × Value → H) (x : DataW H × List MemPlace), DataW.trod enc Try.prog w 0 (fun _ => true) true fuel t cs = some x ∧ ∀ n ∈ x.1.weights Try.prog t, n ≤ reachBytes
theorem ReadsF.reads {fuel : Nat} {w : World} {t : TypeId} {cs : List Value} (h : ReadsF fuel w t cs) : Reads Try.prog w t cs := by
  obtain ⟨H, enc, x, h1, h2⟩ := h
  exact ⟨H, enc, fuel, x, h1, h2⟩
theorem ReadsF.struct {fuel : Nat} {w : World} {t : TypeId} {fs : Array Field} {cs : List Value} (hu : Try.prog.underlying t = some (.struct fs)) (h : ReadsF fuel w t cs) :
    ∃ f1, fuel = f1 + 1 ∧ cs.length = Try.prog.cellsOf t ∧ ∀ (i : Nat) (f : Field), fs[i]? = some f → ReadsF f1 w f.type ((cs.drop f.offset).take (Try.prog.cellsOf f.type)) := by
  obtain ⟨H, enc, x, h1, h2⟩ := h
  obtain ⟨xs, n, hn, r2, r3, r4, r5⟩ := DataW.trod_struct hu h1
  refine ⟨n, hn, r3, fun i f hf => ?_⟩
  have hi : i < xs.length := by rw [r4]; exact (Array.getElem?_eq_some_iff.1 hf).1
  have := r5 i f hf
  rw [List.getElem?_eq_getElem hi] at this
  refine ⟨H, enc, _, this, fun m hm => h2 m ?_⟩
  rw [r2]
  simp only [DataW.weights, hu]
  exact DataW.weights_mem_each (j := i) (t := f.type) (d := xs[i].1) (by rw [List.getElem?_map]; simp [hf]) (by simp [hi]) m hm
theorem ReadsF.slice {fuel : Nat} {w : World} {t e : TypeId} {cs : List Value} (hu : Try.prog.underlying t = some (.slice e)) (h : ReadsF fuel w t cs) :
    cs = [.slice none 0 0] ∨ ∃ a len cap f1, fuel = f1 + 1 ∧ cs = [.slice (some a) len cap] ∧ len ≤ cap ∧ len * Try.prog.bytesOf e ≤ reachBytes ∧
      ∀ i, i < len → ∃ cs', cs'.length = Try.prog.cellsOf e ∧ (∀ j v, cs'[j]? = some v → w.cell? (a.add (i * Try.prog.cellsOf e + j)) = some v) ∧ ReadsF f1 w e cs' := by
  obtain ⟨H, enc, x, h1, h2⟩ := h
  rcases DataW.trod_slice hu h1 with ⟨r, _⟩ | ⟨a, len, cap, elems, rest, n, hn, r1, r2, _, hl, hm, hlen, hel, hsp, _⟩
  · exact .inl r
  · right
    obtain ⟨hrl, hsp⟩ := hsp rfl
    have hw : ∀ m ∈ (elems.length + rest.length) * Try.prog.bytesOf e :: (DataW.weightsAll Try.prog e (elems.map (·.1)) ++ DataW.weightsAll Try.prog e (rest.map (·.1))), m ≤ reachBytes := by
      intro m hm'
      refine h2 m ?_
      rw [r2]
      simpa [DataW.weights, hu] using hm'
    refine ⟨a, len, cap, n, hn, r1, hl, ?_, fun i hi => ?_⟩
    · have := hw _ List.mem_cons_self
      refine Nat.le_trans (Nat.mul_le_mul_right _ ?_) this
      omega
    · have h3 := hel i hi
      rw [List.getElem?_eq_getElem (by omega)] at h3
      obtain ⟨cs', hc, ht⟩ := Option.bind_eq_some_iff.1 h3
      obtain ⟨hcl, hcc⟩ := cells_of hc
      refine ⟨cs', hcl, fun j v hj => ?_, H, enc, _, ht, fun m hm' => hw m ?_⟩
      · have := hcc j v hj
        rwa [addr_add] at this
      · exact List.mem_cons_of_mem _ (List.mem_append.2 (.inl (mem_weightsAll (List.mem_map_of_mem (List.getElem_mem (by omega))) hm')))
theorem cellsI : Try.prog.cellsOf 3 = 1 := by kernel_rfl
theorem cellsS : Try.prog.cellsOf 9 = 1 := by kernel_rfl
theorem cellsNs : Try.prog.cellsOf 38 = 1 := by kernel_rfl
theorem cellsN : Try.prog.cellsOf 40 = 3 := by kernel_rfl
theorem bytesN : Try.prog.bytesOf 40 = 48 := by kernel_rfl
/-- Cells that read as an element are one. -/
theorem node_of : ∀ (fuel : Nat) (w : World) (cs : List Value), ReadsF fuel w 40 cs → ∃ n, NdAt fuel (Lo w.heap.size) w n cs := by
  intro fuel
  induction fuel using Nat.strongRecOn with
  | ind fuel ih =>
    intro w cs h
    obtain ⟨f1, rfl, hl, hf⟩ := h.struct Try.underlying40
    rw [cellsN] at hl
    obtain ⟨c0, c1, c2, rfl⟩ : ∃ c0 c1 c2, cs = [c0, c1, c2] := by
      match cs, hl with
      | [c0, c1, c2], _ => exact ⟨c0, c1, c2, rfl⟩
    have k0 : ReadsF f1 w 3 (([c0, c1, c2].drop 0).take (Try.prog.cellsOf 3)) := hf 0 _ rfl
    have k1 : ReadsF f1 w 9 (([c0, c1, c2].drop 1).take (Try.prog.cellsOf 9)) := hf 1 _ rfl
    have k2 : ReadsF f1 w 38 (([c0, c1, c2].drop 2).take (Try.prog.cellsOf 38)) := hf 2 _ rfl
    rw [cellsI] at k0
    rw [cellsS] at k1
    rw [cellsNs] at k2
    obtain ⟨t, e0, ht⟩ := k0.reads.int Try.underlying3
    obtain ⟨s, e1, hs⟩ := k1.reads.string Try.underlying9
    have hti := i64_of ht
    have hr : reachBytes = 140737488351232 := rfl
    simp only [List.drop_zero, List.drop_succ_cons, List.take_succ_cons, List.take_zero, List.cons.injEq, and_true] at e0 e1 k2
    subst e0 e1
    have hsb : s.data.toList.length ≤ 140737488351232 := by rw [size_list]; exact hs
    rcases k2.slice Try.underlying38 with e2 | ⟨a, len, cap, f2, rfl, e2, hlc, hb, hel⟩
    · simp only [List.cons.injEq, and_true] at e2
      subst e2
      exact ⟨.mk t s.data.toList [], none, 0, by show [Value.int .i64 t, Value.string s, Value.slice none 0 0] = [Value.int .i64 t, Value.string (sb s.data.toList), Value.slice none 0 0]; rw [sb_of], hti, hsb, Nat.zero_le _, .inl rfl⟩
    · simp only [List.cons.injEq, and_true] at e2
      subst e2
      rw [bytesN, hr] at hb
      rw [cellsN] at hel
      obtain ⟨ns, hnl, hns⟩ := list_of (p := fun i (x : Nd) => ∃ c : List Value, c.length = 3 ∧ (∀ j v, c[j]? = some v → w.cell? (a.add (i * 3 + j)) = some v) ∧ NdAt (f2 + 1) (Lo w.heap.size) w x c) len (fun i hi => by
        obtain ⟨c, g1, g2, g3⟩ := hel i hi
        obtain ⟨n, hn⟩ := ih f2 (by omega) w c g3
        exact ⟨n, c, g1, g2, hn.more⟩)
      obtain ⟨L, hLl, hL⟩ := list_of (p := fun i (c : List Value) => c.length = 3 ∧ (∀ j v, c[j]? = some v → w.cell? (a.add (i * 3 + j)) = some v) ∧ ∀ x, ns[i]? = some x → NdAt (f2 + 1) (Lo w.heap.size) w x c) len (fun i hi => by
        obtain ⟨x, hx⟩ : ∃ x, ns[i]? = some x := ⟨_, List.getElem?_eq_getElem (by omega)⟩
        obtain ⟨c, g1, g2, g3⟩ := hns i x hx
        exact ⟨c, g1, g2, fun y hy => by rw [hx] at hy; cases hy; exact g3⟩)
      refine ⟨.mk t s.data.toList ns, some a, cap, by show [Value.int .i64 t, Value.string s, Value.slice (some a) len cap] = [Value.int .i64 t, Value.string (sb s.data.toList), Value.slice (some a) ns.length cap]; rw [sb_of, hnl], hti, hsb, by show ns.length ≤ _; omega, ?_⟩
      cases hx : ns with
      | nil => exact .inl rfl
      | cons y r =>
        have hlen : 0 < len := by rw [← hnl, hx]; simp
        obtain ⟨k0, hL0⟩ : ∃ c, L[0]? = some c := ⟨L[0]'(by omega), List.getElem?_eq_getElem _⟩
        obtain ⟨g1, g2, -⟩ := hL 0 _ hL0
        obtain ⟨z0, hz0⟩ : ∃ z0, k0[0]? = some z0 := ⟨k0[0]'(by omega), List.getElem?_eq_getElem _⟩
        have hc0 := g2 0 z0 hz0
        rw [Nat.zero_mul, Nat.add_zero] at hc0
        obtain ⟨g, o, rfl, hg⟩ := addr_of hc0
        refine .inr ⟨g, o, L, rfl, hg, hg, ?_, by show L.length = (y :: r).length; rw [hLl, ← hnl, hx], fun j x c hx' hc => (hL j c hc).2.2 x (by rw [hx]; exact hx')⟩
        intro j v hj
        have hall : ∀ c ∈ L, c.length = 3 := fun c hc => by
          obtain ⟨i, hi, rfl⟩ := List.mem_iff_getElem.1 hc
          exact (hL i _ (List.getElem?_eq_getElem hi)).1
        have hjl : j < L.flatten.length := (List.getElem?_eq_some_iff.1 hj).1
        rw [flat_length L hall] at hjl
        have hLj : L[j / 3]? = some (L[j / 3]'(by omega)) := List.getElem?_eq_getElem _
        have hfg := flat_get L (j / 3) _ hall hLj
        have hv : (L[j / 3]'(by omega))[j % 3]? = some v := by
          rw [← hfg, List.getElem?_take, if_pos (Nat.mod_lt _ (by omega)), List.getElem?_drop, show j / 3 * 3 + j % 3 = j by omega]
          exact hj
        have := (hL (j / 3) _ hLj).2.1 (j % 3) v hv
        rw [show j / 3 * 3 + j % 3 = j by omega] at this
        rwa [Addr.add_mid] at this
section
variable {H : Type} {enc : TypeId × Value → H} {W W' : World} {v : Value} {d : DataW H} {p : List MemPlace} {ts : List TypeId} {ds : List (DataW H)}
theorem arg_node (h : DataW.Trod enc Try.prog W 0 (fun _ => true) true 40 v d p) (hv : ∃ cs, v = .agg cs ∧ cs.size = Try.prog.cellsOf 40) (hsz : (DataW.weightsEach Try.prog ts ds).all (· ≤ reachBytes) = true) (j : Nat) (ht : ts[j]? = some 40) (hd : ds[j]? = some d) :
    ∃ M n cs, v = .agg cs.toArray ∧ NdAt M (Lo W.heap.size) W n cs := by
  obtain ⟨fuel, hr⟩ := h
  obtain ⟨cs, rfl, -⟩ := hv
  obtain ⟨n, hn⟩ := node_of fuel W cs.toList ⟨H, enc, _, by simpa [Value.cells] using hr, fun n hn => by simpa using List.all_eq_true.1 hsz n (DataW.weights_mem_each ht hd n hn)⟩
  exact ⟨fuel, n, cs.toList, by simp, hn⟩
end
end Go.Proofs.Ytoikiokcpakokaa.BE
