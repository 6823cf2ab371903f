/-
  awake: the chapter's examples hold.
-/
import Derived.Test.YtehnffcdnokijaaSumT
namespace Go.Proofs.Ytehnffcdnokijaa.S
open Go.RowKit K

def t9 : ByteArray := ⟨#[49, 50, 51, 52, 53, 54, 55, 56, 57]⟩
def t4 : ByteArray := ⟨#[49, 50, 51, 52]⟩
theorem ex9 : add 0 t9.data.toList = 3421780262 := by decide +kernel
theorem ex45 : add (add 0 t4.data.toList) [53, 54, 55, 56, 57] = 3421780262 := by decide +kernel
theorem ex0 : add 0 [0] = 3523407757 := by decide +kernel
theorem build5 (w : World) : (Instr.buildSlice 23 5 #[(0, .int .u8 53), (1, .int .u8 54), (2, .int .u8 55), (3, .int .u8 56), (4, .int .u8 57)]).run Try.prog w = .ok (.slice (some ⟨w.heap.size, 0, none⟩) 5 5) (w.alloc (.cells #[.int .u8 53, .int .u8 54, .int .u8 55, .int .u8 56, .int .u8 57] 5)) := by kernel_rfl

set_option maxRecDepth 100000 in
theorem awake_any (w : World) : Calls Try.prog 13 #[] w fun e w' => e = .returned (.bool true) ∧ Fr No w w' := by
  obtain ⟨i5, hi5, hz5, hs5, hb5⟩ := info_parts info5z
  have Hi := hid hi5; have Hz := hid hz5; have Hs := hid hs5
  clear hi5 hz5 hs5 hb5
  go_enter Try.func13, Try.ntmps13
  go_wp2_with fail
  refine (sum_any [] (.slice none 0 0) w (bytes_nil w Any none 0) (by decide)).mono ?_
  rintro e w' ⟨rfl, rfl⟩
  rw [add_nil]
  go_wp2_with fail
  refine (text_any ⟨#[]⟩ w (by decide)).mono ?_
  rintro e w1 ⟨rfl, hf⟩
  have HF1 := hid hf; clear hf
  rw [show (⟨#[]⟩ : ByteArray).data.toList = [] from rfl, add_nil]
  go_wp2_with fail
  refine (text_any t9 w1 (by decide)).mono ?_
  rintro e w2 ⟨rfl, hf⟩
  have HF2 := hid (HF1.out.trans' hf); clear hf
  rw [ex9]
  go_wp2_with fail
  refine (text_any t4 w2 (by decide)).mono ?_
  rintro e w3 ⟨rfl, hf⟩
  have HF3 := hid (HF2.out.trans' hf); clear hf
  have H4 := hid (add_lt (s := 0) (by decide) t4.data.toList)
  have H45 := hid ex45
  generalize add 0 t4.data.toList = m at H4 H45 ⊢
  go_wp2_with ((with_reducible show wpList _ _ _ ({ dst := _, op := .buildSlice 23 _ _, type := _, pos := _, after := _, guard := _ } :: _) _ _); refine wpL_buildSlice rfl _ 5 5 [(0, .const (.int .u8 53)), (1, .const (.int .u8 54)), (2, .const (.int .u8 55)), (3, .const (.int .u8 56)), (4, .const (.int .u8 57))] rfl [.int .u8 53, .int .u8 54, .int .u8 55, .int .u8 56, .int .u8 57] (build5 _) ?_; intro w4 HB4 HF4 HS4)
  refine (add_any m [53, 54, 55, 56, 57] _ w4 H4.out (Blk.bytes (E := Any) (l := [53, 54, 55, 56, 57]) HB4.out trivial (by decide)) (by decide)).mono ?_
  rintro e w' ⟨rfl, rfl⟩
  rw [H45.out]
  have HF5 := hid (HF3.out.trans' HF4.out)
  go_wp2_with ((with_reducible show wpList _ _ _ ({ dst := _, op := .buildSlice 23 _ _, type := _, pos := _, after := _, guard := _ } :: _) _ _); refine wpL_buildOne rfl _ 5 _ rfl i5 _ rfl Hi.out Hz.out (by rw [Hs.out]; decide) (by rw [Hs.out]; decide) _ [.int .u8 0] rfl rfl (by rw [Hs.out]; rfl) ?_; intro w6 HB6 HF6 HS6)
  refine (sum_any [0] _ w6 (Blk.bytes (E := Any) (l := [0]) HB6.out trivial (by decide)) (by decide)).mono ?_
  rintro e w' ⟨rfl, rfl⟩
  rw [ex0]
  have HF7 := hid (HF5.out.trans' HF6.out)
  go_wp2
  go_ret
  exact ⟨rfl, HF7.out⟩
end Go.Proofs.Ytehnffcdnokijaa.S
