/-
  SumIs: the walk.
-/
import Derived.Test.YtehnffcdnokijaaRefT
namespace Go.Proofs.Ytehnffcdnokijaa.S
open Go.RowKit K

set_option maxRecDepth 100000 in
theorem is_walk (w : World) (s : Nat) (l : List UInt8) (v : Value) (t : ByteArray) {E : Nat → Prop} (hs : s < 4294967296) (hb : BytesIn w E v l) (hl : l.length ≤ 140737488351232) (ht : t.size ≤ 140737488351232) :
    Calls Try.prog 3 #[.int .u32 (s : Int), v, .string t] w fun e w' => e = .returned (.bool true) ∧ Fr No w w' := by
  have HB := hid hb; clear hb
  go_enter Try.func3, Try.ntmps3
  go_wp2_with fail
  refine (add_any s l v w hs HB.out (by omega)).mono ?_
  rintro e w' ⟨rfl, rfl⟩
  have HR := hid (fun w1 hb => radd_any (E := E) s l v w1 hs hb (by omega))
  generalize add s l = x at HR ⊢
  go_wp2_with fail
  refine (sum_any l v w HB.out (by omega)).mono ?_
  rintro e w' ⟨rfl, rfl⟩
  have HR2 := hid (fun w1 hb => rsum_any (E := E) l v w1 hb (by omega))
  generalize add 0 l = y at HR2 ⊢
  go_wp2_with fail
  refine (text_any t w (by omega)).mono ?_
  rintro e w1 ⟨rfl, hf⟩
  have HF1 := hid hf; clear hf
  have HB1 := hid (HB.out.no HF1.out)
  have HR3 := hid (rtext_any t w1 (by omega))
  generalize add 0 t.data.toList = z at HR3 ⊢
  go_wp2_with fail
  refine (HR.out w1 HB1.out).mono ?_
  rintro e w' ⟨rfl, rfl⟩
  go_wp2_with fail
  refine (HR2.out w1 HB1.out).mono ?_
  rintro e w' ⟨rfl, rfl⟩
  go_wp2_with fail
  refine HR3.out.mono ?_
  rintro e w3 ⟨rfl, hf⟩
  have HF3 := hid (HF1.out.trans' hf); clear hf
  go_wp2
  go_ret
  exact ⟨rfl, HF3.out⟩
end Go.Proofs.Ytehnffcdnokijaa.S
