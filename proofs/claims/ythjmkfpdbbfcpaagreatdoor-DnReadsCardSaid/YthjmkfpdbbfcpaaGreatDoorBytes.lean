/-
  Bytes in memory, as a list of UInt8. Over any program.
-/
import Derived.Test.YthjmkfpdbbfcpaaGreatDoorOpen
set_option linter.unusedVariables false
set_option linter.unusedSimpArgs false
namespace Go.Proofs.YthjmkfpdbbfcpaaGreatDoor.K
set_option maxRecDepth 100000
open Go.RowKit

def u8s (l : List UInt8) : List Value := l.map fun c => .int .u8 (c.toNat : Int)
theorem u8s_length (l : List UInt8) : (u8s l).length = l.length := by simp [u8s]
theorem u8s_get (l : List UInt8) (k : Nat) (h : k < l.length) : (u8s l)[k]? = some (.int .u8 (l[k].toNat : Int)) := by simp [u8s, h]
theorem u8s_one (l : List UInt8) : ∀ v ∈ u8s l, v.oneCell' = true := by
  intro v hv; obtain ⟨n, _, rfl⟩ := List.mem_map.1 hv; rfl
theorem u8s_append (a b : List UInt8) : u8s (a ++ b) = u8s a ++ u8s b := by simp [u8s]
theorem u8s_set (l : List UInt8) (k : Nat) (c : UInt8) : (u8s l).set k (.int .u8 (c.toNat : Int)) = u8s (l.set k c) := by simp [u8s, List.map_set]

/-- The value is a slice of these bytes; they lie in a block of E. -/
def BytesIn (w : World) (E : Nat → Prop) (v : Value) (bs : List UInt8) : Prop :=
  ∃ a len cap, v = .slice a len cap ∧ bs.length = len ∧ len ≤ cap ∧ (len = 0 ∨ ∃ g o, a = some ⟨g, o, none⟩ ∧ E g ∧ g < w.heap.size ∧ w.rangeAt g o (u8s bs))
theorem BytesIn.mono {w : World} {E E' : Nat → Prop} {v : Value} {bs : List UInt8} (h : BytesIn w E v bs) (he : ∀ k, E k → E' k) : BytesIn w E' v bs := by
  obtain ⟨a, len, cap, h1, h2, h0, h3⟩ := h
  exact ⟨a, len, cap, h1, h2, h0, h3.imp id fun ⟨g, o, r1, r2, r3⟩ => ⟨g, o, r1, he g r2, r3⟩⟩
theorem BytesIn.fr {w w' : World} {E D : Nat → Prop} {v : Value} {bs : List UInt8} (h : BytesIn w E v bs) (hf : Fr D w w') (hd : ∀ k, E k → k < w.heap.size → ¬ D k) : BytesIn w' E v bs := by
  obtain ⟨a, len, cap, h1, h2, h0, h3⟩ := h
  exact ⟨a, len, cap, h1, h2, h0, h3.imp id fun ⟨g, o, r1, r2, r3, r4⟩ => ⟨g, o, r1, r2, Nat.lt_of_lt_of_le r3 hf.size, hf.range r4 (hd g r2 r3)⟩⟩
/-- Whatever is only made anew leaves bytes as they are. -/
theorem BytesIn.no {w w' : World} {E : Nat → Prop} {v : Value} {bs : List UInt8} (h : BytesIn w E v bs) (hf : Fr No w w') : BytesIn w' E v bs := h.fr hf fun _ _ _ e => e
/-- What is new in w. -/
def New (w : World) : Nat → Prop := fun k => w.heap.size ≤ k
/-- Any block. -/
def Any : Nat → Prop := fun _ => True
theorem BytesIn.any {w : World} {E : Nat → Prop} {v : Value} {bs : List UInt8} (h : BytesIn w E v bs) : BytesIn w Any v bs := h.mono fun _ _ => trivial
theorem bytes_nil (w : World) (E : Nat → Prop) (a : Option Addr) (c : Nat) : BytesIn w E (.slice a 0 c) [] := ⟨a, 0, c, rfl, rfl, Nat.zero_le _, .inl rfl⟩
/-- A whole block of bytes. -/
theorem Blk.bytes {w : World} {E : Nat → Prop} {b : Nat} {t : TypeId} {l : List UInt8} {c : Nat} (h : Blk w b t (u8s l)) (he : E b) (hc : l.length ≤ c) : BytesIn w E (.slice (some ⟨b, 0, none⟩) l.length c) l :=
  ⟨_, _, _, rfl, rfl, hc, .inr ⟨b, 0, rfl, he, h.lt, h.range 0 _ (by rw [List.drop_zero, List.take_length])⟩⟩
/-- An owned row lies where the call's own begins. -/
theorem own_low {w : World} {base : Nat} {e : TypeId} {size : Nat} {v : Value} {n : Nat} {xs : List Value} (h : w.ownsRow base e size v n xs) (g : Nat) (hg : v.ownBlock = some g) : base ≤ g := by
  rcases h.2 with ⟨rfl, _⟩ | ⟨g', cap, cur, rfl, hb, _⟩
  · cases hg
  · cases hg; exact hb
/-- An owned row of bytes. -/
theorem own_bytes {w : World} {base : Nat} {e : TypeId} {v : Value} {n : Nat} {l : List UInt8} (h : w.ownsRow base e 1 v n (u8s l)) : BytesIn w (fun k => base ≤ k) v l := by
  have hn : l.length = n := by have := h.1; rw [u8s_length, Nat.mul_one] at this; exact this
  rcases h.2 with ⟨rfl, h0⟩ | ⟨g, cap, cur, rfl, hb, hg, h1, h2, h3, h4⟩
  · have : l = [] := by
      have h00 : n = 0 := h0
      rw [h00] at hn
      exact List.eq_nil_of_length_eq_zero hn
    subst this
    exact bytes_nil _ _ _ _
  · subst hn
    refine ⟨_, _, _, rfl, rfl, h1, .inr ⟨g, 0, rfl, hb, (Array.getElem?_eq_some_iff.1 hg).1, ?_⟩⟩
    exact Blk.range (t := e) (cs := cur.toList) (by simpa [Blk] using hg) 0 _ (by rw [List.drop_zero, u8s_length, ← Nat.mul_one l.length]; exact h4)

section
variable {P : Program} {w : World}
theorem u8_of {t : TypeId} {cs : List Value} (hu : P.underlying t = some (.int .u8)) (h : Reads P w t cs) : ∃ c : UInt8, cs = [.int .u8 (c.toNat : Int)] := by
  obtain ⟨n, rfl, hw⟩ := h.int hu
  have hb : 0 ≤ n ∧ n ≤ 255 := by simpa [Lit.wf, IntKind.min, IntKind.max, IntKind.signed, IntKind.bits] using hw
  refine ⟨UInt8.ofNat n.toNat, ?_⟩
  rw [UInt8.toNat_ofNat', Nat.mod_eq_of_lt (by omega), Int.toNat_of_nonneg hb.1]
/-- An argument that is a slice of bytes. -/
theorem Reads.u8s {t e : TypeId} {cs : List Value} (hu : P.underlying t = some (.slice e)) (he : P.underlying e = some (.int .u8)) (hc : P.cellsOf e = 1) (hb : P.bytesOf e = 1) (h : Reads P w t cs) :
    ∃ v bs, cs = [v] ∧ BytesIn w (fun k => k < w.heap.size) v bs ∧ bs.length ≤ 140737488351232 := by
  obtain ⟨a, len, cap, xs, rfl, hl, hbb, _, hr⟩ := h.row (fun c : UInt8 => Value.int .u8 (c.toNat : Int)) hu hc (fun cs' h' => u8_of he h')
  rw [hb, show reachBytes = 140737488351232 from rfl, Nat.mul_one] at hbb
  have hle : len ≤ cap := by
    rcases h.slice hu with r | ⟨a', len', cap', r, hle, _⟩
    · simp only [List.cons.injEq, Value.slice.injEq] at r
      omega
    · simp only [List.cons.injEq, Value.slice.injEq] at r
      omega
  exact ⟨_, xs, rfl, ⟨a, len, cap, rfl, hl, hle, hr.imp id fun ⟨g, o, h1, h2, h3⟩ => ⟨g, o, h1, h2, h2, h3⟩⟩, by omega⟩
theorem reads_of {H : Type} {enc : TypeId × Value → H} {W : World} {t : TypeId} {v : Value} {d : DataW H} {p : List MemPlace} {ts : List TypeId} {ds : List (DataW H)}
    (h : DataW.Trod enc P W 0 (fun _ => true) true t v d p) (hsz : (DataW.weightsEach P ts ds).all (· ≤ reachBytes) = true) (j : Nat) (ht : ts[j]? = some t) (hd : ds[j]? = some d) : Reads P W t v.cells.toList := by
  obtain ⟨fuel, h⟩ := h
  exact ⟨H, enc, fuel, _, h, fun n hn => by simpa using List.all_eq_true.1 hsz n (DataW.weights_mem_each ht hd n hn)⟩
end
end Go.Proofs.YthjmkfpdbbfcpaaGreatDoor.K
