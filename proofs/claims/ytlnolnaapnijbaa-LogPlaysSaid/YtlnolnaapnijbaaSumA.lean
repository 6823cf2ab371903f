/-
  Package sum: Add, Sum.
-/
import Derived.Test.YtlnolnaapnijbaaSumD
import Derived.Test.YtlnolnaapnijbaaBytes
namespace Go.Proofs.Ytlnolnaapnijbaa.S
set_option maxRecDepth 100000
open Go.RowKit K

theorem through_take (r : Nat) (l : List UInt8) (k : Nat) (h : k < l.length) : through r (l.take (k + 1)) = steps 8 (through r (l.take k) ^^^ l[k].toNat) := by
  rw [List.take_succ_eq_append_getElem h, through_append]
  rfl
theorem inv_walk {x : Nat} (h : x < 4294967296) : bits .xor .u32 IntKind.u32.max (x : Int) = ((inv x : Nat) : Int) := by
  rw [show IntKind.u32.max = ((4294967295 : Nat) : Int) by decide, inv_eq]
  exact xor32 (a := 4294967295) (by decide) h

theorem u8_mod (c : UInt8) : (c.toNat : Int) % 4294967296 = (c.toNat : Int) := by have := c.toNat_lt; omega
/-- The bytes of a slice, as the walk asks for them. -/
def At (w : World) (a : Option Addr) (l : List UInt8) : Prop := ∀ k (h : k < l.length), ∃ g o, a = some ⟨g, o, none⟩ ∧ w.cell? ⟨g, o + k, none⟩ = some (.int .u8 (l[k].toNat : Int))
theorem at_of {w : World} {E : Nat → Prop} {v : Value} {l : List UInt8} (h : BytesIn w E v l) : ∃ a cap, v = .slice a l.length cap ∧ l.length ≤ cap ∧ At w a l := by
  obtain ⟨a, len, cap, rfl, rfl, h0, h3⟩ := h
  refine ⟨a, cap, rfl, h0, fun k hk => ?_⟩
  obtain ⟨g, o, h4, _, _, h5⟩ := h3.resolve_left (by omega)
  exact ⟨g, o, h4, h5 k _ (u8s_get l k hk)⟩
theorem At.no {w w' : World} {a : Option Addr} {l : List UInt8} (h : At w a l) (hf : Fr No w w') : At w' a l := fun k hk => by
  obtain ⟨g, o, h1, h2⟩ := h k hk
  exact ⟨g, o, h1, hf.cell h2 (fun e => e)⟩
theorem At.lt {w : World} {a : Option Addr} {l : List UInt8} (h : At w a l) (hl : 0 < l.length) {g o : Nat} (e : a = some ⟨g, o, none⟩) : g < w.heap.size := by
  obtain ⟨g', o', h1, h2⟩ := h 0 hl
  rw [h1] at e
  cases e
  exact World.block_lt_of_cell? w _ h2
theorem At.take {w : World} {a : Option Addr} {l : List UInt8} (h : At w a l) (n : Nat) : At w a (l.take n) := fun k hk => by
  obtain ⟨g, o, h1, h2⟩ := h k (by simp at hk; omega)
  exact ⟨g, o, h1, by rw [List.getElem_take]; exact h2⟩

set_option maxRecDepth 100000 in
theorem add_at (s : Nat) (l : List UInt8) (a : Option Addr) (cap : Nat) (w : World) (hs : s < 4294967296) (hr : At w a l) (hl : l.length ≤ 9223372036854775807) : Calls Try.prog 111 #[.int .u32 (s : Int), .slice a l.length cap] w fun e w' =>
    e = .returned (.int .u32 (add s l : Nat)) ∧ w = w' := by
  have HS := hid hs
  have HI := hid (inv_walk hs)
  have HR := hid hr
  clear hs hr
  go_enter Try.func111, Try.ntmps111
  go_wp2_with fail
  rw [HI.out]
  go_loop [5, 12] (fun x k => ∃ n : Nat, n ≤ l.length ∧ k = .int .i64 n ∧ x = .int .u32 (through (inv s) (l.take n) : Nat)) (fun _ k => l.length - (intOf k).toNat)
  case atStart => exact ⟨0, by omega, rfl, rfl⟩
  case round =>
    obtain ⟨n, hn, rfl, rfl⟩ := hrel
    by_cases hlt : n < l.length
    · obtain ⟨g, o, rfl, hc⟩ := HR.out n hlt
      have HT : Hid (through (inv s) (l.take n) < 4294967296) := hid (through_lt (inv_lt HS.out) _)
      have HX := hid (xor32 HT.out (u8_lt l[n]))
      have HXl := hid (xor_lt HT.out (u8_lt l[n]))
      have HE := hid (through_take (inv s) l n hlt)
      have HM := hid (u8_mod l[n])
      go_wp2_with fail
      rw [HM.out, HX.out]
      refine (divide_any _ w HXl.out).mono ?_
      rintro e w' ⟨rfl, rfl⟩
      go_wp2
      go_round
      case rel => exact ⟨n + 1, by omega, by go_num, by rw [HE.out]⟩
      case measure => simp [intOf]; omega
    · obtain rfl : n = l.length := by omega
      have HT : Hid (inv (through (inv s) l) = add s l) := hid rfl
      have HI2 := hid (inv_walk (through_lt (inv_lt HS.out) l))
      rw [List.take_length]
      go_wp2
      go_ret
      exact ⟨by rw [HI2.out]; rfl, rfl⟩

theorem add_any (s : Nat) (l : List UInt8) (v : Value) (w : World) {E : Nat → Prop} (hs : s < 4294967296) (hb : BytesIn w E v l) (hl : l.length ≤ 9223372036854775807) : Calls Try.prog 111 #[.int .u32 (s : Int), v] w fun e w' =>
    e = .returned (.int .u32 (add s l : Nat)) ∧ w = w' := by
  obtain ⟨a, cap, rfl, _, h⟩ := at_of hb
  exact add_at s l a cap w hs h hl
theorem sum_at (l : List UInt8) (a : Option Addr) (cap : Nat) (w : World) (hr : At w a l) (hl : l.length ≤ 9223372036854775807) : Calls Try.prog 89 #[.slice a l.length cap] w fun e w' =>
    e = .returned (.int .u32 (add 0 l : Nat)) ∧ w = w' := by
  have HA := hid (add_at 0 l a cap w (by decide) hr hl)
  clear hr
  go_enter Try.func89, Try.ntmps89
  go_wp2_with (go_at_call 111; refine HA.out.mono ?_; rintro e w' ⟨rfl, rfl⟩)
  go_ret
  exact ⟨rfl, rfl⟩
theorem sum_any (l : List UInt8) (v : Value) (w : World) {E : Nat → Prop} (hb : BytesIn w E v l) (hl : l.length ≤ 9223372036854775807) : Calls Try.prog 89 #[v] w fun e w' =>
    e = .returned (.int .u32 (add 0 l : Nat)) ∧ w = w' := by
  obtain ⟨a, cap, rfl, _, h⟩ := at_of hb
  exact sum_at l a cap w h hl
end Go.Proofs.Ytlnolnaapnijbaa.S
