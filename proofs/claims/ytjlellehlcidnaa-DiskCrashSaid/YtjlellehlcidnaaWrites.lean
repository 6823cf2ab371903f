/-
  An argument that is a slice of slices of bytes, as data.
-/
import Derived.Test.YtjlellehlcidnaaRow
namespace Go.Proofs.Ytjlellehlcidnaa.D
open Go.RowKit K

/-- A slice of slices of bytes. -/
def ListsIn (w : World) (v : Value) (bss : List (List Int)) : Prop :=
  ∃ a len cap, v = .slice a len cap ∧ bss.length = len ∧ len ≤ 140737488351232 ∧ ∀ (i : Nat) (b : List Int), bss[i]? = some b → ∃ g o u, a = some ⟨g, o, none⟩ ∧ g < w.heap.size ∧ w.cell? ⟨g, o + i, none⟩ = some u ∧ BytesIn w (fun k => k < w.heap.size) u b
theorem rows_of {w : World} {cs : List Value} (h : Reads Try.prog w 45 cs) : ∃ v xs, cs = [v] ∧ ListsIn w v xs := by
  rcases h.slice Try.underlying45 with rfl | ⟨a, len, cap, rfl, hl, _, hb, hel⟩
  · exact ⟨_, [], rfl, none, 0, 0, rfl, rfl, by decide, fun i x hi => by simp at hi⟩
  · rw [reach] at hb
    have hcap : cap ≤ 140737488351232 := Nat.le_trans (Nat.le_mul_of_pos_right _ by32) hb
    rw [one32] at hel
    obtain ⟨xs, hxl, hxs⟩ := list_of (p := fun i (x : Value × List Int) => w.cell? (a.add i) = some x.1 ∧ BytesIn w (fun k => k < w.heap.size) x.1 x.2) len (fun i hi => by
      obtain ⟨cs', _, h2, h3⟩ := hel i (by omega)
      obtain ⟨v, bs, rfl, hx, _⟩ := bytes_of h3
      exact ⟨(v, bs), by have := h2 0 _ rfl; rwa [Nat.mul_one, Nat.add_zero] at this, hx⟩)
    refine ⟨_, xs.map (·.2), rfl, some a, len, cap, rfl, by simpa using hxl, by omega, fun i x hi => ?_⟩
    rw [List.getElem?_map] at hi
    obtain ⟨⟨u, y⟩, hy, rfl⟩ := Option.map_eq_some_iff.1 hi
    obtain ⟨h1, h2⟩ := hxs i _ hy
    have hil : 0 < xs.length := by have := (List.getElem?_eq_some_iff.1 hy).1; omega
    obtain ⟨g, o, rfl, hg⟩ := addr_of ((hxs 0 _ (List.getElem?_eq_getElem hil)).1)
    exact ⟨g, o, u, rfl, hg, by rwa [Addr.add_mid] at h1, h2⟩
end Go.Proofs.Ytjlellehlcidnaa.D
namespace Go.Proofs.Ytjlellehlcidnaa.R
open Go.ChangeShapes Go.WideShapes Go.ChangeAt Go.RowKit K D
section
variable {H : Type} {enc : TypeId × Value → H} {W W' : World} {v : Value} {d : DataW H} {p : List MemPlace} {ts : List TypeId} {ds : List (DataW H)}
theorem arg_rows (h : DataW.Trod enc Try.prog W 0 (fun _ => true) true 45 v d p) (hv : ∃ a l c, v = .slice a l c) (hsz : (DataW.weightsEach Try.prog ts ds).all (· ≤ reachBytes) = true) (j : Nat) (ht : ts[j]? = some 45) (hd : ds[j]? = some d) :
    ∃ xs, ListsIn W v xs := by
  obtain ⟨v', xs, e, hx⟩ := rows_of (reads_of h hsz j ht hd)
  obtain ⟨a, l, c, rfl⟩ := hv
  simp [Value.cells] at e
  subst e
  exact ⟨xs, hx⟩
theorem again_rows (h : DataW.Trod enc Try.prog W 0 (fun _ => true) true 45 v d p) (hb : Below W.heap.size W W') : DataW.Trod enc Try.prog W' 0 (fun b => decide (b < W.heap.size)) true 45 v d p :=
  Below.trod laidOut (by kernel_rfl) (of_decide_eq_true (by kernel_rfl)) h hb (by obtain ⟨m, hm⟩ := h; exact DataW.trod_lt m _ _ _ hm)
end
end Go.Proofs.Ytjlellehlcidnaa.R
