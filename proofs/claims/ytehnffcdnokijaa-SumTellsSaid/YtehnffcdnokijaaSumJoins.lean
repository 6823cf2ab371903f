/-
  SumJoins: the walk.
-/
import Derived.Test.YtehnffcdnokijaaSumAw
import Derived.Test.YtehnffcdnokijaaConv
namespace Go.Proofs.Ytehnffcdnokijaa.S
open Go.RowKit K

theorem none8 (w : World) : (Instr.buildSlice 23 0 #[]).run Try.prog w = .ok (.slice (some ⟨w.heap.size, 0, none⟩) 0 0) (w.alloc (.cells #[] 5)) := by kernel_rfl
/-- What append asks of the bytes that it takes over. -/
theorem src_of {w : World} {E : Nat → Prop} {a : Option Addr} {c : Nat} {l : List UInt8} (h : BytesIn w E (.slice a l.length c) l) : l.length = 0 ∨ ∃ ad, a = some ad ∧ ∀ (j : Nat) u, (u8s l)[j]? = some u → w.cell? (ad.add j) = some u := by
  obtain ⟨a', len, cap, e, _, _, h3⟩ := h
  simp only [Value.slice.injEq] at e
  obtain ⟨rfl, rfl, rfl⟩ := e
  exact h3.imp id fun ⟨g, o, r1, _, _, r4⟩ => ⟨_, r1, fun j u hj => by rw [Addr.add_mid]; exact r4 j u hj⟩
theorem form_of {w : World} {E : Nat → Prop} {v : Value} {l : List UInt8} (h : BytesIn w E v l) : ∃ a c, v = .slice a l.length c := by
  obtain ⟨a, len, cap, rfl, rfl, _⟩ := h
  exact ⟨_, _, rfl⟩

set_option maxRecDepth 100000 in
theorem joins_walk (w : World) (s : Nat) (x y : List UInt8) (v1 v2 : Value) {E : Nat → Prop} (hs : s < 4294967296) (hx : BytesIn w E v1 x) (hy : BytesIn w E v2 y) (hl : x.length + y.length ≤ 140737488351232) :
    Calls Try.prog 4 #[.int .u32 (s : Int), v1, v2] w fun e w' => e = .returned (.bool true) ∧ Fr No w w' := by
  obtain ⟨a1, c1, rfl⟩ := form_of hx
  obtain ⟨a2, c2, rfl⟩ := form_of hy
  have HX := hid hx; have HY := hid hy
  clear hx hy
  obtain ⟨i5, hi5, hz5, hs5, hb5⟩ := info_parts info5z
  have Hi := hid hi5; have Hz := hid hz5; have Hs := hid hs5; have Hb := hid hb5
  clear hi5 hz5 hs5 hb5
  have HS := hid hs; clear hs
  go_enter Try.func4, Try.ntmps4
  go_wp2_with fail
  refine (awake_any w).mono ?_
  rintro e w1 ⟨rfl, hf⟩
  have HF1 := hid hf; clear hf
  have hsz1 : w.heap.size ≤ w1.heap.size := HF1.out.size
  go_wp2_with (first
    | ((with_reducible show wpList _ _ _ ({ dst := _, op := .buildSlice 23 _ _, type := _, pos := _, after := _, guard := _ } :: _) _ _); refine wpL_buildNone rfl _ 5 rfl none8 ?_; intro w2 HB2 HF2 HS2)
    | ((with_reducible show wpList _ _ _ ({ dst := _, op := .call { callee := .builtin .append, args := _, argTypes := _ }, type := _, pos := _, after := _, guard := _ } :: _) _ _); refine wpL_appendNew rfl _ _ _ rfl w.heap.size 5 i5 _ 1 1 rfl Hi.out Hz.out Hs.out Hb.out rfl (by decide) (.slice (some ⟨w1.heap.size, 0, none⟩) 0 0) rfl (HB2.out.own hsz1 rfl (Nat.le_refl _) (by decide) rfl rfl) a1 x.length c1 (u8s x) rfl (by simp [u8s_length]) (src_of ((HX.out.no HF1.out).no HF2.out)) (u8s_one x) (by unfold maxLen; omega) (by omega) (by have := HS2.out; omega) ?_; intro a3 c3 w3 HO3 HG3 HW3
       have HF3 : Hid (Fr No w w3) := hid ((HF1.out.trans' HF2.out).grown HG3.out (fun j hj => .inr (by cases hj; exact hsz1))))
    | ((with_reducible show wpList _ _ _ ({ dst := _, op := .call { callee := .builtin .append, args := _, argTypes := _ }, type := _, pos := _, after := _, guard := _ } :: _) _ _); refine wpL_append rfl _ _ _ rfl w.heap.size 5 i5 _ 1 1 rfl Hi.out Hz.out Hs.out Hb.out rfl (by decide) (.slice a3 x.length c3) x.length (u8s x) rfl HO3.out a2 y.length c2 (u8s y) rfl (by simp [u8s_length]) (src_of (HY.out.no HF3.out)) (u8s_one y) (by unfold maxLen; omega) (by omega) HF3.out.size ?_; intro a4 c4 w4 HO4 HG4 HW4
       have HF4 : Hid (Fr No w w4) := hid (HF3.out.grown HG4.out (fun j hj => .inr (own_low HO3.out j hj)))
       have HB4 : Hid (BytesIn w4 (fun k => w.heap.size ≤ k) (.slice a4 (x.length + y.length) c4) (x ++ y)) := hid (own_bytes (by rw [u8s_append]; exact HO4.out)))
    | (fail))
  have HLl : Hid ((x ++ y).length ≤ 9223372036854775807) := hid (by simp; omega)
  refine (add_any s x (.slice a1 x.length c1) w4 HS.out (HX.out.no HF4.out) (by omega)).mono ?_
  rintro e w' ⟨rfl, rfl⟩
  have HA := hid (add_lt HS.out x)
  have HJ := hid (add_append s x y)
  generalize add s x = m at HA HJ ⊢
  go_wp2_with fail
  refine (add_any m y (.slice a2 y.length c2) w4 HA.out (HY.out.no HF4.out) (by omega)).mono ?_
  rintro e w' ⟨rfl, rfl⟩
  rw [← HJ.out]
  go_wp2_with fail
  refine (add_any s (x ++ y) _ w4 HS.out HB4.out HLl.out).mono ?_
  rintro e w' ⟨rfl, rfl⟩
  generalize add s (x ++ y) = n
  go_wp2_with ((with_reducible show wpList _ _ _ ({ dst := _, op := .convert _ 9 _, type := _, pos := _, after := _, guard := _ } :: _) _ _); refine wpL_stringOf rfl _ _ 5 _ rfl _ _ (x ++ y) rfl HB4.out Try.underlying23 Try.underlying5 Try.underlying9 ?_)
  have HT := hid (text_any ⟨(x ++ y).toArray⟩ w4 (by show (x ++ y).toArray.size ≤ _; simpa using HLl.out))
  rw [show (⟨(x ++ y).toArray⟩ : ByteArray).data.toList = x ++ y by simp] at HT
  refine HT.out.mono ?_
  rintro e w5 ⟨rfl, hf⟩
  have HF5 := hid hf; clear hf HT
  have HS5 := hid (sum_any (x ++ y) _ w5 (HB4.out.no HF5.out) HLl.out)
  generalize add 0 (x ++ y) = k at HS5 ⊢
  go_wp2_with fail
  refine HS5.out.mono ?_
  rintro e w' ⟨rfl, rfl⟩
  go_wp2
  go_ret
  exact ⟨rfl, HF4.out.trans' HF5.out⟩
end Go.Proofs.Ytehnffcdnokijaa.S
