/-
  An argument that is a slice of slices of bytes; how much it holds.
-/
import Derived.Test.YtejbanlhgnlliaaDoorSumRow
import Derived.Test.YtejbanlhgnlliaaDoorBulk
namespace Go.Proofs.YtejbanlhgnlliaaDoor.R
set_option maxRecDepth 100000
open Go.ChangeShapes Go.WideShapes Go.ChangeAt Go.RowKit K

/-- The value is a slice of slices of these bytes. -/
def RowsOf (W : World) (v : Value) (ps : List (List UInt8)) : Prop :=
  ∃ a len cap, v = .slice a len cap ∧ ps.length = len ∧ (len = 0 ∨ ∃ g o, a = some ⟨g, o, none⟩ ∧ g < W.heap.size ∧ ∀ (i : Nat) (b : List UInt8), ps[i]? = some b → ∃ vi, W.cell? ⟨g, o + i, none⟩ = some vi ∧ BytesIn W (fun k => k < W.heap.size) vi b)
theorem RowsOf.at {W W' : World} {a : Option Addr} {len cap : Nat} {ps : List (List UInt8)} (h : RowsOf W (.slice a len cap) ps) (hf : Fr No W W') {i : Nat} (hi : i < ps.length) : ∃ g o vi, a = some ⟨g, o, none⟩ ∧ W'.cell? ⟨g, o + i, none⟩ = some vi ∧ BytesIn W' (fun k => k < W.heap.size) vi ps[i] := by
  obtain ⟨a', len', cap', e, hl, h1⟩ := h
  simp only [Value.slice.injEq] at e
  obtain ⟨rfl, rfl, rfl⟩ := e
  obtain ⟨g, o, rfl, hg, h2⟩ := h1.resolve_left (by omega)
  obtain ⟨vi, h3, h4⟩ := h2 i ps[i] (List.getElem?_eq_getElem hi)
  exact ⟨g, o, vi, rfl, hf.cell h3 id, h4.no hf⟩
theorem sum_le {H : Type} : ∀ (ps : List (List UInt8)) (ys : List (DataW H)), ps.length = ys.length → (∀ (i : Nat) b y, ps[i]? = some b → ys[i]? = some y → b.length ≤ Rows.uptoBulk y) → (ps.map List.length).sum ≤ Rows.uptoBulkAll ys
  | [], _, _, _ => by simp
  | b :: ps, [], h, _ => by simp at h
  | b :: ps, y :: ys, h, hb => by
    have h0 := hb 0 b y rfl rfl
    have h1 := sum_le ps ys (by simpa using h) fun i b' y' e1 e2 => hb (i + 1) b' y' (by simpa using e1) (by simpa using e2)
    simp only [List.map_cons, List.sum_cons, Rows.uptoBulkAll]
    omega
section
variable {H : Type} {enc : TypeId × Value → H} {W : World} {v : Value} {d : DataW H} {p : List MemPlace} {ts : List TypeId} {ds : List (DataW H)}
theorem arg_rows (h : DataW.Trod enc Tryd.prog W 0 (fun _ => true) true 31 v d p) (hv : ∃ a l c, v = .slice a l c) (hsz : (DataW.weightsEach Tryd.prog ts ds).all (· ≤ reachBytes) = true) (j : Nat) (ht : ts[j]? = some 31) (hd : ds[j]? = some d) :
    ∃ ps, RowsOf W v ps ∧ (ps.map List.length).sum + ps.length ≤ 2 * Rows.uptoBulk d := by
  have hc1 : Tryd.prog.cellsOf 22 = 1 := by kernel_rfl
  have hr := reads_of h hsz j ht hd
  obtain ⟨a0, l0, c0, rfl⟩ := hv
  have hr' := hr
  rcases hr.slice Tryd.underlying31 with e | ⟨a, len, cap, e, hl, hm, hb, hel⟩
  · simp [Value.cells] at e
    obtain ⟨rfl, rfl, rfl⟩ := e
    exact ⟨[], ⟨_, _, _, rfl, rfl, .inl rfl⟩, by simp⟩
  · simp [Value.cells] at e
    obtain ⟨rfl, rfl, rfl⟩ := e
    obtain ⟨ps, hpl, hps⟩ := list_of (p := fun i (b : List UInt8) => ∃ vi, W.cell? (a.add i) = some vi ∧ BytesIn W (fun k => k < W.heap.size) vi b) l0 (fun i hi => by
      obtain ⟨cs', _, h2, h3⟩ := hel i (by omega)
      obtain ⟨vi, bs, rfl, hB, -⟩ := h3.u8s Tryd.underlying22 Tryd.underlying5 (by kernel_rfl) (by kernel_rfl)
      exact ⟨bs, vi, by have := h2 0 _ rfl; rwa [hc1, Nat.mul_one, Nat.add_zero] at this, hB⟩)
    have hP : RowsOf W (.slice (some a) l0 c0) ps := by
      refine ⟨_, _, _, rfl, hpl, ?_⟩
      by_cases h0 : l0 = 0
      · exact .inl h0
      · right
        obtain ⟨v0, hv0, -⟩ := hps 0 (ps[0]'(by omega)) (List.getElem?_eq_getElem _)
        obtain ⟨g, o, rfl, hg⟩ := addr_of hv0
        refine ⟨g, o, rfl, hg, fun i b hi => ?_⟩
        obtain ⟨vi, h1, h2⟩ := hps i b hi
        rw [Addr.add_mid] at h1
        exact ⟨vi, h1, h2⟩
    refine ⟨ps, hP, ?_⟩
    obtain ⟨fuel, h⟩ := h
    rcases DataW.trod_slice Tryd.underlying31 h with ⟨r, _⟩ | ⟨a', len', cap', elems, rest, n, _, r1, r2, _, _, _, hlen, helm, _⟩
    · simp [Value.cells] at r
    · simp [Value.cells] at r1
      obtain ⟨rfl, rfl, rfl⟩ := r1
      have hd' : d = .slice (elems.map (·.1)) (rest.map (·.1)) := congrArg Prod.fst r2
      have hs := sum_le ps (elems.map (·.1)) (by rw [hpl, List.length_map]; omega) fun i b y hb hy => by
        have hi : i < l0 := by rw [← hpl]; exact (List.getElem?_eq_some_iff.1 hb).1
        obtain ⟨vi, h1, h2⟩ := hps i b hb
        have h3 := helm i hi
        rw [List.getElem?_map] at hy
        obtain ⟨z, hz, rfl⟩ := Option.map_eq_some_iff.1 hy
        rw [hz] at h3
        obtain ⟨cs', hc, ht⟩ := Option.bind_eq_some_iff.1 h3
        obtain ⟨hcl, hcc⟩ := cells_of hc
        rw [hc1] at hcl
        match cs', hcl with
        | [u], _ =>
          have hu := hcc 0 u rfl
          rw [hc1, Nat.mul_one, addr_add, Nat.add_zero, h1] at hu
          obtain rfl := Option.some.inj hu
          obtain ⟨a2, len2, cap2, rfl, hl2, _, _⟩ := h2
          rcases DataW.trod_slice Tryd.underlying22 ht with ⟨r, _⟩ | ⟨a3, len3, cap3, elems3, rest3, n3, _, q1, q2, _, _, _, hlen3, _⟩
          · simp at r
            omega
          · simp at q1
            have hz1 : z.1 = .slice (elems3.map (·.1)) (rest3.map (·.1)) := congrArg Prod.fst q2
            rw [hz1]
            simp only [Rows.uptoBulk]
            have := bulks.length_le (elems3.map (·.1))
            simp at this
            omega
      have hk := bulks.length_le (elems.map (·.1))
      rw [List.length_map] at hk
      rw [hd']
      simp only [Rows.uptoBulk]
      omega
end
end Go.Proofs.YtejbanlhgnlliaaDoor.R
