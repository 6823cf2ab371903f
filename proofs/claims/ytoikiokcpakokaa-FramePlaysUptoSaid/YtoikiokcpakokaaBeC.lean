/-
  Package ber: tags and lengths.
-/
import Derived.Test.YtoikiokcpakokaaBeN
import Derived.Test.YtoikiokcpakokaaConv
set_option linter.unusedVariables false
set_option linter.unusedSimpArgs false
namespace Go.Proofs.Ytoikiokcpakokaa.BE
set_option maxRecDepth 100000
open Go.RowKit K

theorem and31 : ∀ m : Fin 256, (bits BinOp.and IntKind.i64 ((m.val : Nat) : Int) 31 != 31) = tagB ((m.val : Nat) : Int) := by decide +kernel
theorem and32 : ∀ m : Fin 256, (bits BinOp.and IntKind.i64 ((m.val : Nat) : Int) 32 != 0) = conB ((m.val : Nat) : Int) := by decide +kernel
theorem isTag_any (t : Int) (w : World) : Calls Try.prog 40 #[.int .i64 t] w fun e w' => e = .returned (.bool (tagB t)) ∧ w' = w := by
  by_cases h0 : 0 ≤ t
  · by_cases h1 : t ≤ 255
    · obtain ⟨m, rfl⟩ : ∃ m : Nat, t = m := ⟨t.toNat, by omega⟩
      have ha := and31 ⟨m, by omega⟩
      simp only at ha
      go_enter Try.func40, Try.ntmps40
      go_wp2
      go_ret
      exact ⟨rfl, rfl⟩
    · have : tagB t = false := by simp [tagB, h1]
      rw [this]
      go_enter Try.func40, Try.ntmps40
      go_wp2
      go_ret
      exact ⟨rfl, rfl⟩
  · have : tagB t = false := by simp [tagB, h0]
    rw [this]
    go_enter Try.func40, Try.ntmps40
    go_wp2
    go_ret
    exact ⟨rfl, rfl⟩
theorem isCon_any (t : Int) (ht : tagB t = true) (w : World) : Calls Try.prog 41 #[.int .i64 t] w fun e w' => e = .returned (.bool (conB t)) ∧ w' = w := by
  have h2 : 0 ≤ t ∧ t ≤ 255 := by simp [tagB] at ht; omega
  obtain ⟨m, rfl⟩ : ∃ m : Nat, t = m := ⟨t.toNat, by omega⟩
  have ha := and32 ⟨m, by omega⟩
  simp only at ha
  clear ht h2
  go_enter Try.func41, Try.ntmps41
  go_wp2
  go_ret
  exact ⟨rfl, rfl⟩
theorem bytes_lit (w : World) (l : B) (vs : Array Value) (n : Nat) (h : vs = (u8s l).toArray) (hn : l.length = n) : BytesIn (w.alloc (.cells vs 5)) Any (.slice (some ⟨w.heap.size, 0, none⟩) n n) l := by
  subst h; subst hn
  exact Blk.bytes (Blk.new w 5 (u8s l)) trivial (Nat.le_refl _)
theorem wpL_stringS {ops : Array Oper} {rest : List Oper} {op : Oper} {a : Act} {w : World} {Q : Exit → Act → World → Prop} (hgd : op.guard = none) (x : Operand) (ho : op.op = .convert 50 9 x) (v : Value) (E : Nat → Prop) (l : List UInt8) (hx : a.eval x = v) (hb : BytesIn w E v l)
    (h : wpList Try.prog ops Q rest (a.put op.dst (.string (sb l))) w) : wpList Try.prog ops Q (op :: rest) a w :=
  wpL_stringOf hgd _ _ 5 x ho v E l hx hb Try.underlying50 Try.underlying5 Try.underlying9 h
theorem int_ofNat {c : Nat} (h : c < 256) : (Value.int .u8 (c : Int)) = .int .u8 ((UInt8.ofNat c).toNat : Int) := by rw [ofNat_lt h]
set_option maxHeartbeats 1000000 in
theorem length_any (c : Nat) (hc : c ≤ 65535) (w : World) : Calls Try.prog 27 #[.int .i64 c] w fun e w' => e = .returned (.string (sb (lenB c))) ∧ Fr No w w' := by
  by_cases h1 : c < 128
  · have h1i : (c : Int) < 128 := by omega
    have hb : BytesIn (w.alloc (.cells #[.int .u8 (c : Int)] 5)) Any (.slice (some ⟨w.heap.size, 0, none⟩) 1 1) [UInt8.ofNat c] := bytes_lit w _ _ _ (by simp [u8s, int_ofNat (show c < 256 by omega)]) rfl
    have HB := hid hb
    have he : lenB c = [UInt8.ofNat c] := by unfold lenB; rw [if_pos h1]
    have HE := hid he
    clear hb he
    go_enter Try.func27, Try.ntmps27
    go_wp2_with ((with_reducible show wpList _ _ _ (⟨_, .convert _ 9 _, _, _, _, _⟩ :: _) _ _); refine wpL_stringS rfl _ rfl _ Any _ rfl HB.out ?_)
    go_ret
    rw [HE.out]
    exact ⟨rfl, (Fr.refl No w).alloc _⟩
  · by_cases h2 : c < 256
    · have h1i : ¬ (c : Int) < 128 := by omega
      have h2i : (c : Int) ≤ 255 := by omega
      have hb : BytesIn (w.alloc (.cells #[.int .u8 129, .int .u8 (c : Int)] 5)) Any (.slice (some ⟨w.heap.size, 0, none⟩) 2 2) [129, UInt8.ofNat c] := bytes_lit w _ _ _ (by simp [u8s, int_ofNat h2]) rfl
      have HB := hid hb
      have he : lenB c = [129, UInt8.ofNat c] := by unfold lenB; rw [if_neg h1, if_pos h2]
      have HE := hid he
      clear hb he
      go_enter Try.func27, Try.ntmps27
      go_wp2_with ((with_reducible show wpList _ _ _ (⟨_, .convert _ 9 _, _, _, _, _⟩ :: _) _ _); refine wpL_stringS rfl _ rfl _ Any _ rfl HB.out ?_)
      go_ret
      rw [HE.out]
      exact ⟨rfl, (Fr.refl No w).alloc _⟩
    · have h1i : ¬ (c : Int) < 128 := by omega
      have h2i : ¬ (c : Int) ≤ 255 := by omega
      have h3i : (c : Int) ≤ 65535 := by omega
      have hb : BytesIn (w.alloc (.cells #[.int .u8 130, .int .u8 ((c : Int) / 256), .int .u8 ((c : Int) % 256)] 5)) Any (.slice (some ⟨w.heap.size, 0, none⟩) 3 3) [130, UInt8.ofNat (c / 256), UInt8.ofNat (c % 256)] := bytes_lit w _ _ _ (by
        simp only [u8s, List.map_cons, List.map_nil]
        rw [ofNat_lt (c := c / 256) (by omega), ofNat_lt (c := c % 256) (by omega)]
        rfl) rfl
      have HB := hid hb
      have he : lenB c = [130, UInt8.ofNat (c / 256), UInt8.ofNat (c % 256)] := by unfold lenB; rw [if_neg h1, if_neg h2]
      have HE := hid he
      clear hb he
      go_enter Try.func27, Try.ntmps27
      go_wp2_with ((with_reducible show wpList _ _ _ (⟨_, .convert _ 9 _, _, _, _, _⟩ :: _) _ _); refine wpL_stringS rfl _ rfl _ Any _ rfl HB.out ?_)
      go_ret
      rw [HE.out]
      exact ⟨rfl, (Fr.refl No w).alloc _⟩
end Go.Proofs.Ytoikiokcpakokaa.BE
