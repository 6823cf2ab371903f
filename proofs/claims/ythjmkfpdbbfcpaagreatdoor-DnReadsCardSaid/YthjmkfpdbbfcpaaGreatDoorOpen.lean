/-
  What an argument's reading says of the cells in memory, whatever its type. Over any program.
-/
import Derived.Test.YthjmkfpdbbfcpaaGreatDoorKit
import Derived.SizedLaws
import Derived.ChangeOld
import Derived.Carry
import Derived.OpenShut
set_option linter.unusedVariables false
set_option linter.unusedSimpArgs false
namespace Go.Proofs.YthjmkfpdbbfcpaaGreatDoor.K
set_option maxRecDepth 100000
open Go.RowKit
section
variable {P : Program} {w : World}

/-- These cells read as a value of type t, and nothing that is read takes more than the reach. -/
def Reads (P : Program) (w : World) (t : TypeId) (cs : List Value) : Prop :=
  ∃ (H : Type) (enc : TypeId × Value → H) (fuel : Nat) (x : DataW H × List MemPlace), DataW.trod enc P w 0 (fun _ => true) true fuel t cs = some x ∧ ∀ n ∈ x.1.weights P t, n ≤ reachBytes

theorem Reads.int {t : TypeId} {k : IntKind} {cs : List Value} (hu : P.underlying t = some (.int k)) (h : Reads P w t cs) : ∃ n, cs = [.int k n] ∧ (Lit.int k n).wf = true := by
  obtain ⟨H, enc, fuel, x, h1, _⟩ := h
  obtain ⟨n, r1, _, r2⟩ := DataW.trod_int hu h1
  exact ⟨n, r1, r2⟩
theorem Reads.bool {t : TypeId} {cs : List Value} (hu : P.underlying t = some .bool) (h : Reads P w t cs) : ∃ b, cs = [.bool b] := by
  obtain ⟨H, enc, fuel, x, h1, _⟩ := h
  obtain ⟨b, r1, _⟩ := DataW.trod_bool hu h1
  exact ⟨b, r1⟩
theorem Reads.string {t : TypeId} {cs : List Value} (hu : P.underlying t = some .string) (h : Reads P w t cs) : ∃ s : ByteArray, cs = [.string s] ∧ s.size ≤ reachBytes := by
  obtain ⟨H, enc, fuel, x, h1, h2⟩ := h
  obtain ⟨s, r1, r2, _⟩ := DataW.trod_string hu h1
  refine ⟨s, r1, ?_⟩
  have := h2 s.data.toList.length (by rw [r2]; simp [DataW.weights])
  simpa using this
theorem mem_weightsAll {H : Type} {e : TypeId} {n : Nat} : ∀ {ds : List (DataW H)} {d : DataW H}, d ∈ ds → n ∈ d.weights P e → n ∈ DataW.weightsAll P e ds
  | a :: r, d, hd, hn => by
    simp only [DataW.weightsAll, List.mem_append]
    rcases List.mem_cons.1 hd with rfl | hd
    · exact .inl hn
    · exact .inr (mem_weightsAll hd hn)
theorem cells_of {a : Addr} {n : Nat} {cs : List Value} (h : w.cells? 0 a n = some cs) : cs.length = n ∧ ∀ j v, cs[j]? = some v → w.cell? (a.add j) = some v := by
  obtain ⟨_, h2, h3⟩ := World.cells?_some h
  refine ⟨h2, fun j v hj => ?_⟩
  rw [h3 j (by have := (List.getElem?_eq_some_iff.1 hj).1; omega)]
  exact hj
theorem addr_add (a : Addr) (i j : Nat) : (a.add i).add j = a.add (i + j) := by
  unfold Addr.add
  by_cases hi : i = 0 <;> by_cases hj : j = 0 <;> simp [hi, hj, Nat.add_assoc]
/-- A slice: nil; or each element, up to the capacity, reads. -/
theorem Reads.slice {t e : TypeId} {cs : List Value} (hu : P.underlying t = some (.slice e)) (h : Reads P w t cs) :
    cs = [.slice none 0 0] ∨ ∃ a len cap, cs = [.slice (some a) len cap] ∧ len ≤ cap ∧ cap ≤ maxLen ∧ cap * P.bytesOf e ≤ reachBytes ∧
      ∀ i, i < cap → ∃ cs', cs'.length = P.cellsOf e ∧ (∀ j v, cs'[j]? = some v → w.cell? (a.add (i * P.cellsOf e + j)) = some v) ∧ Reads P w e cs' := by
  obtain ⟨H, enc, fuel, x, h1, h2⟩ := h
  rcases DataW.trod_slice hu h1 with ⟨r, _⟩ | ⟨a, len, cap, elems, rest, n, _, r1, r2, _, hl, hm, hlen, hel, hsp, _⟩
  · exact .inl r
  · right
    obtain ⟨hrl, hsp⟩ := hsp rfl
    have hw : ∀ m ∈ (elems.length + rest.length) * P.bytesOf e :: (DataW.weightsAll P e (elems.map (·.1)) ++ DataW.weightsAll P e (rest.map (·.1))), m ≤ reachBytes := by
      intro m hm'
      refine h2 m ?_
      rw [r2]
      simpa [DataW.weights, hu] using hm'
    refine ⟨a, len, cap, r1, hl, hm, ?_, fun i hi => ?_⟩
    · have := hw _ List.mem_cons_self
      rwa [hlen, hrl, show len + (cap - len) = cap by omega] at this
    · have key : ∃ y, (w.cells? 0 (a.add (i * P.cellsOf e)) (P.cellsOf e)).bind (DataW.trod enc P w 0 (fun _ => true) true n e) = some y ∧ (y ∈ elems ∨ y ∈ rest) := by
        by_cases hil : i < len
        · rw [hel i hil, List.getElem?_eq_getElem (by omega)]
          exact ⟨_, rfl, .inl (List.getElem_mem _)⟩
        · have := hsp (i - len) (by omega)
          rw [show len + (i - len) = i by omega] at this
          rw [this, List.getElem?_eq_getElem (by omega)]
          exact ⟨_, rfl, .inr (List.getElem_mem _)⟩
      obtain ⟨y, hy, hmem⟩ := key
      obtain ⟨cs', hc, ht⟩ := Option.bind_eq_some_iff.1 hy
      obtain ⟨hcl, hcc⟩ := cells_of hc
      refine ⟨cs', hcl, fun j v hj => ?_, H, enc, n, y, ht, fun m hm' => hw m ?_⟩
      · have := hcc j v hj
        rwa [addr_add] at this
      · refine List.mem_cons_of_mem _ (List.mem_append.2 ?_)
        rcases hmem with hmem | hmem
        · exact .inl (mem_weightsAll (List.mem_map_of_mem hmem) hm')
        · exact .inr (mem_weightsAll (List.mem_map_of_mem hmem) hm')
/-- A struct: each field reads. -/
theorem Reads.struct {t : TypeId} {fs : Array Field} {cs : List Value} (hu : P.underlying t = some (.struct fs)) (h : Reads P w t cs) :
    cs.length = P.cellsOf t ∧ ∀ (i : Nat) (f : Field), fs[i]? = some f → Reads P w f.type ((cs.drop f.offset).take (P.cellsOf f.type)) := by
  obtain ⟨H, enc, fuel, x, h1, h2⟩ := h
  obtain ⟨xs, n, _, r2, r3, r4, r5⟩ := DataW.trod_struct hu h1
  refine ⟨r3, fun i f hf => ?_⟩
  have hi : i < xs.length := by rw [r4]; exact (Array.getElem?_eq_some_iff.1 hf).1
  have := r5 i f hf
  rw [List.getElem?_eq_getElem hi] at this
  refine ⟨H, enc, n, _, this, fun m hm => h2 m ?_⟩
  rw [r2]
  simp only [DataW.weights, hu]
  exact DataW.weights_mem_each (j := i) (t := f.type) (d := xs[i].1) (by rw [List.getElem?_map]; simp [hf]) (by simp [hi]) m hm
/-- An array: each element reads. -/
theorem Reads.array {t e : TypeId} {n : Nat} {cs : List Value} (hu : P.underlying t = some (.array n e)) (h : Reads P w t cs) :
    cs.length = P.cellsOf t ∧ ∀ i, i < n → Reads P w e ((cs.drop (i * P.cellsOf e)).take (P.cellsOf e)) := by
  obtain ⟨H, enc, fuel, x, h1, h2⟩ := h
  cases fuel with
  | zero => simp [DataW.trod] at h1
  | succ m =>
    unfold DataW.trod at h1
    rw [hu] at h1
    split at h1 <;> simp_all
    obtain ⟨hl, xs, hp, hd⟩ := h1
    intro i hi
    have hg := mapM_some_get hp i i (by simp [hi])
    have hlen := mapM_some_length hp
    have hil : i < xs.length := by rw [hlen]; simpa using hi
    rw [List.getElem?_eq_getElem hil] at hg
    refine ⟨H, enc, m, _, hg, fun q hq => h2 q ?_⟩
    rw [← hd]
    simp only [DataW.weights, hu]
    exact mem_weightsAll (List.mem_map_of_mem (List.getElem_mem hil)) hq
/-- From 'for each place there is an x' to a list. -/
theorem list_of {α : Type} {p : Nat → α → Prop} : ∀ (n : Nat), (∀ i, i < n → ∃ x, p i x) → ∃ xs : List α, xs.length = n ∧ ∀ i x, xs[i]? = some x → p i x
  | 0, _ => ⟨[], rfl, fun i x h => by simp at h⟩
  | n + 1, h => by
    obtain ⟨xs, hl, hx⟩ := list_of n (fun i hi => h i (by omega))
    obtain ⟨x, hp⟩ := h n (by omega)
    refine ⟨xs ++ [x], by simp [hl], fun i y hi => ?_⟩
    rcases Nat.lt_or_ge i xs.length with hlt | hge
    · rw [List.getElem?_append_left hlt] at hi; exact hx i y hi
    · rw [List.getElem?_append_right hge] at hi
      have h0 : i - xs.length = 0 := by have := (List.getElem?_eq_some_iff.1 hi).1; simpa using this
      rw [h0] at hi
      obtain rfl : x = y := by simpa using hi
      rwa [show i = n by omega]
/-- The address of a slice that has an element. -/
theorem addr_of {a : Addr} {v : Value} (h : w.cell? (a.add 0) = some v) : ∃ g o, a = ⟨g, o, none⟩ ∧ g < w.heap.size := by
  obtain ⟨g, o, sp⟩ := a
  have e : (⟨g, o, sp⟩ : Addr).add 0 = ⟨g, o, sp⟩ := by simp [Addr.add]
  rw [e] at h
  obtain rfl := World.cell?_spot h
  exact ⟨g, o, rfl, World.block_lt_of_cell? w _ h⟩
/-- A slice of elements of one cell: the cells, as a row. -/
theorem Reads.row {t e : TypeId} {cs : List Value} {α : Type} (f : α → Value) (hu : P.underlying t = some (.slice e)) (hc : P.cellsOf e = 1) (hf : ∀ cs', Reads P w e cs' → ∃ x, cs' = [f x]) (h : Reads P w t cs) :
    ∃ (a : Option Addr) (len cap : Nat) (xs : List α), cs = [.slice a len cap] ∧ xs.length = len ∧ len * P.bytesOf e ≤ reachBytes ∧ len ≤ maxLen ∧ (len = 0 ∨ ∃ g o, a = some ⟨g, o, none⟩ ∧ g < w.heap.size ∧ w.rangeAt g o (xs.map f)) := by
  rcases h.slice hu with rfl | ⟨a, len, cap, rfl, hl, hm, hb, hel⟩
  · exact ⟨none, 0, 0, [], rfl, rfl, by simp, by decide, .inl rfl⟩
  · obtain ⟨xs, hxl, hxs⟩ := list_of (p := fun i (x : α) => w.cell? (a.add i) = some (f x)) len (fun i hi => by
      obtain ⟨cs', _, h2, h3⟩ := hel i (by omega)
      obtain ⟨x, rfl⟩ := hf cs' h3
      exact ⟨x, by have := h2 0 _ rfl; rwa [hc, Nat.mul_one, Nat.add_zero] at this⟩)
    refine ⟨some a, len, cap, xs, rfl, hxl, Nat.le_trans (Nat.mul_le_mul_right _ hl) hb, by omega, ?_⟩
    by_cases h0 : len = 0
    · exact .inl h0
    · right
      obtain ⟨x0, hx0⟩ : ∃ x, xs[0]? = some x := ⟨xs[0]'(by omega), List.getElem?_eq_getElem _⟩
      obtain ⟨g, o, rfl, hg⟩ := addr_of (hxs 0 x0 hx0)
      refine ⟨g, o, rfl, hg, fun j v hj => ?_⟩
      rw [List.getElem?_map] at hj
      obtain ⟨x, hx, rfl⟩ := Option.map_eq_some_iff.1 hj
      have := hxs j x hx
      rwa [Addr.add_mid] at this
end
end Go.Proofs.YthjmkfpdbbfcpaaGreatDoor.K
