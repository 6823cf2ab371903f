/-
  Laws for single operations on texts; package ber: signed and joined.
-/
import Derived.Test.YtoikiokcpakokaaBeC
set_option linter.unusedVariables false
set_option linter.unusedSimpArgs false
namespace Go.Proofs.Ytoikiokcpakokaa.BE
set_option maxRecDepth 100000
open Go.RowKit K

theorem index_str (l : B) (i : Nat) (b : UInt8) (h : l[i]? = some b) (w : World) : (Instr.index 9 (.string (sb l)) (.int .i64 (i : Int))).run Try.prog w = .ok (.int .u8 (b.toNat : Int)) w := by
  rw [Go.run_index_string (P := Try.prog) w 9 (sb l) .i64 (i : Int) Try.underlying9]
  obtain ⟨hl, hb⟩ := List.getElem?_eq_some_iff.1 h
  have hz : (sb l).size = l.length := sb_size l
  have h1 : (0 : Int) ≤ (i : Int) ∧ (i : Int) < (sb l).size := ⟨by omega, by omega⟩
  rw [dif_pos h1]
  have h2 : ((sb l)[(i : Int).toNat]'(by omega)) = b := hb
  rw [h2]
theorem exec_idx {op : Oper} {a : Act} (x y : Operand) (ho : op.op = .index 9 x y) (l : B) (i : Nat) (b : UInt8) (hi : l[i]? = some b) (n : Int) (hn : n = (i : Int)) (hx : a.eval x = .string (sb l)) (hy : a.eval y = .int .i64 n) (w : World) : (execOp a.eval op).run Try.prog w = .ok (.value (.int .u8 (b.toNat : Int))) w := by
  have h := index_str l i b hi w
  subst hn
  simp [execOp, ho, hx, hy, h]
theorem slice_two (l : B) (m k : Nat) (h1 : m ≤ k) (h2 : k ≤ l.length) (w : World) : (Instr.slice 9 (.string (sb l)) (some (.int .i64 (m : Int))) (some (.int .i64 (k : Int))) none).run Try.prog w = .ok (.string (sb ((l.drop m).take (k - m)))) w := by
  rw [← ext_sb]
  have hz : (sb l).size = l.length := sb_size l
  have hj : (k : Int) ≤ ((sb l).size : Int) := by omega
  simp [Instr.slice, Instr.sliceBounds, Instr.sliceBound, asIntOf, run_underlying Try.underlying9, hj, h1]
  intro hc
  omega
theorem slice_to (l : B) (k : Nat) (h2 : k ≤ l.length) (w : World) : (Instr.slice 9 (.string (sb l)) none (some (.int .i64 (k : Int))) none).run Try.prog w = .ok (.string (sb (l.take k))) w := by
  rw [show sb (l.take k) = (sb l).extract 0 k by rw [ext_sb, List.drop_zero, Nat.sub_zero]]
  have hz : (sb l).size = l.length := sb_size l
  have hj : (k : Int) ≤ ((sb l).size : Int) := by omega
  simp [Instr.slice, Instr.sliceBounds, Instr.sliceBound, asIntOf, run_underlying Try.underlying9, hj]
  intro hc
  omega
theorem slice_from (l : B) (m : Nat) (h2 : m ≤ l.length) (w : World) : (Instr.slice 9 (.string (sb l)) (some (.int .i64 (m : Int))) none none).run Try.prog w = .ok (.string (sb (l.drop m))) w := by
  have hz : (sb l).size = l.length := sb_size l
  rw [show sb (l.drop m) = (sb l).extract m (sb l).size by rw [ext_sb, List.take_of_length_le (by rw [List.length_drop, hz]; exact Nat.le_refl _)]]
  have hj : (m : Int) ≤ ((sb l).size : Int) := by omega
  simp [Instr.slice, Instr.sliceBounds, Instr.sliceBound, asIntOf, run_underlying Try.underlying9, hj]
  intro hc
  omega
theorem exec_two {op : Oper} {a : Act} (x g h : Operand) (ho : op.op = .slice 9 x (some g) (some h) none) (l : B) (m k : Nat) (hx : a.eval x = .string (sb l)) (hg : a.eval g = .int .i64 (m : Int)) (hh : a.eval h = .int .i64 (k : Int)) (h1 : m ≤ k) (h2 : k ≤ l.length) (r : B) (hr : (l.drop m).take (k - m) = r) (w : World) :
    (execOp a.eval op).run Try.prog w = .ok (.value (.string (sb r))) w := by
  subst hr
  unfold execOp
  simp only [ho, Option.map_none, Option.map_some, hx, hg, hh]
  simp [Instr.sliceAt, slice_two l m k h1 h2 w, Result.andThen]
theorem exec_to {op : Oper} {a : Act} (x h : Operand) (ho : op.op = .slice 9 x none (some h) none) (l : B) (k : Nat) (hx : a.eval x = .string (sb l)) (hh : a.eval h = .int .i64 (k : Int)) (h2 : k ≤ l.length) (r : B) (hr : l.take k = r) (w : World) :
    (execOp a.eval op).run Try.prog w = .ok (.value (.string (sb r))) w := by
  subst hr
  unfold execOp
  simp only [ho, Option.map_none, Option.map_some, hx, hh]
  simp [Instr.sliceAt, slice_to l k h2 w, Result.andThen]
theorem exec_from {op : Oper} {a : Act} (x h : Operand) (ho : op.op = .slice 9 x (some h) none none) (l : B) (k : Nat) (hx : a.eval x = .string (sb l)) (hh : a.eval h = .int .i64 (k : Int)) (h2 : k ≤ l.length) (r : B) (hr : l.drop k = r) (w : World) :
    (execOp a.eval op).run Try.prog w = .ok (.value (.string (sb r))) w := by
  subst hr
  unfold execOp
  simp only [ho, Option.map_none, Option.map_some, hx, hh]
  simp [Instr.sliceAt, slice_from l k h2 w, Result.andThen]
theorem neq_sb (a b : B) : ((sb a).toList == (sb b).toList) = decide (a = b) := by
  rw [ByteArray.toList_eq, ByteArray.toList_eq, sb_list, sb_list]
  by_cases h : a = b
  · subst h; simp
  · rw [decide_eq_false h]; exact beq_false_of_ne h
theorem exec_eqS {op : Oper} {a : Act} (x y : Operand) (u : TypeId) (ho : op.op = .binOp .eql 9 x y u) (p q : B) (hx : a.eval x = .string (sb p)) (hy : a.eval y = .string (sb q)) (w : World) :
    (execOp a.eval op).run Try.prog w = .ok (.value (.bool (decide (p = q)))) w := by
  unfold execOp
  simp only [ho, hx, hy]
  rw [← neq_sb]
  simp [go_sem, eqGuard, Result.andThen]
theorem exec_neS {op : Oper} {a : Act} (x y : Operand) (u : TypeId) (ho : op.op = .binOp .neq 9 x y u) (p q : B) (hx : a.eval x = .string (sb p)) (hy : a.eval y = .string (sb q)) (w : World) :
    (execOp a.eval op).run Try.prog w = .ok (.value (.bool (!decide (p = q)))) w := by
  unfold execOp
  simp only [ho, hx, hy]
  rw [← neq_sb]
  simp [go_sem, eqGuard, Result.andThen, bne]
theorem run_add_str {a b : ByteArray} (h : a.size + b.size ≤ 9223372036854775807) {w : World} : (binOp .add 9 (.string a) (.string b)).run Try.prog w = .ok (.string (a ++ b)) w := by
  simp [binOp, run_string_add_sum w a b h]
theorem exec_addS {op : Oper} {a : Act} (x y : Operand) (u : TypeId) (ho : op.op = .binOp .add 9 x y u) (p q : B) (hx : a.eval x = .string (sb p)) (hy : a.eval y = .string (sb q)) (h : p.length + q.length ≤ 9223372036854775807) (r : B) (hr : p ++ q = r) (w : World) :
    (execOp a.eval op).run Try.prog w = .ok (.value (.string (sb r))) w := by
  subst hr
  unfold execOp
  simp only [ho, hx, hy]
  simp [run_add_str (a := sb p) (b := sb q) (by rw [sb_size, sb_size]; exact h), sb_append, eqGuard, Result.andThen]
/-- The number that a byte alone is. -/
def sgn (b : UInt8) : Int := if b.toNat < 128 then b.toNat else (b.toNat : Int) - 256
theorem or8 (h : Int) (b : Nat) (hh : -1099511627776 ≤ h ∧ h < 1099511627776) (hb : b < 256) : bits BinOp.or IntKind.i64 (h * 256) (b : Int) = h * 256 + b := by
  have hA : (BitVec.ofInt 64 (h * 256)).toNat = ((h * 256) % 18446744073709551616).toNat := by rw [BitVec.toNat_ofInt]; rfl
  have hB : (BitVec.ofInt 64 (b : Int)).toNat = b := by rw [BitVec.ofInt_natCast, BitVec.toNat_ofNat]; omega
  have e : bits BinOp.or IntKind.i64 (h * 256) (b : Int) = IntKind.i64.wrap (((BitVec.ofInt 64 (h * 256)) ||| (BitVec.ofInt 64 (b : Int))).toNat : Int) := rfl
  rw [e, BitVec.toNat_or, hA, hB]
  generalize hq : ((h * 256) % 18446744073709551616).toNat = A
  have hq2 : A = 256 * (A / 256) := by omega
  have ho : A ||| b = A + b := by
    have := Nat.two_pow_add_eq_or_of_lt (i := 8) (b := b) (by omega) (A / 256)
    rw [hq2]
    exact this.symm
  rw [ho, IntKind.wrap_i64]
  omega
/-- What joined answers. -/
def joinI : Int → B → Int
  | h, [] => h
  | h, b :: r => joinI (h * 256 + b.toNat) r
theorem joinI_snoc (h : Int) : ∀ (l : B) (b : UInt8), joinI h (l ++ [b]) = joinI h l * 256 + b.toNat := by
  intro l
  induction l generalizing h with
  | nil => intro b; rfl
  | cons x r ih => intro b; exact ih _ b
def Bd (k : Nat) (v : Int) : Prop := (k = 0 → -128 ≤ v ∧ v < 128) ∧ (k = 1 → -32768 ≤ v ∧ v < 32768) ∧ (k = 2 → -8388608 ≤ v ∧ v < 8388608) ∧ (k = 3 → -2147483648 ≤ v ∧ v < 2147483648)
set_option maxHeartbeats 2000000 in
theorem joined_any (h : Int) (l : B) (hh : -128 ≤ h ∧ h < 128) (hl : l.length ≤ 3) (w : World) : Calls Try.prog 42 #[.int .i64 h, .string (sb l)] w fun e w' => e = .returned (.int .i64 (joinI h l)) ∧ w' = w := by
  have hsz := sb_size l
  have HH := hid hh
  obtain ⟨ll, hll⟩ : ∃ ll, l.length = ll := ⟨_, rfl⟩
  rw [hll] at hsz hl
  have hszi : ((sb l).size : Int) = ll := by omega
  have HL := hid hll
  clear hll hh hsz
  go_enter Try.func42, Try.ntmps42
  go_wp2_with fail
  go_loopw [0, 8] (fun hv iv wr => ∃ (k : Nat) (v : Int), hv = .int .i64 v ∧ iv = .int .i64 k ∧ k ≤ ll ∧ Hid (v = joinI h (l.take k)) ∧ Hid (Bd k v) ∧ wr = w) (fun _ iv _ => ll - (intOf iv).toNat)
  case atStart => exact ⟨0, h, rfl, rfl, Nat.zero_le _, hid rfl, hid ⟨fun _ => HH.out, fun h => by omega, fun h => by omega, fun h => by omega⟩, rfl⟩
  case round =>
    obtain ⟨k, v, rfl, rfl, hk, HV, HBd, rfl⟩ := hrel
    by_cases hlt : k < ll
    · have hlti : (k : Int) < ll := by omega
      have hg : l[k]? = some (l[k]'(by rw [HL.out]; exact hlt)) := List.getElem?_eq_getElem _
      obtain ⟨b, hb⟩ : ∃ b, l[k]? = some b := ⟨_, hg⟩
      have HG := hid hb
      have hbl := lt256 b
      obtain ⟨bn, hbn⟩ : ∃ bn, b.toNat = bn := ⟨_, rfl⟩
      rw [hbn] at hbl
      have HBN := hid hbn
      have hvb : -2147483648 ≤ v ∧ v < 2147483648 := by have h := HBd.out; unfold Bd at h; omega
      have hbd' : Bd (k + 1) (v * 256 + bn) := by have h := HBd.out; unfold Bd at h ⊢; omega
      have HBD' := hid hbd'
      have hor := or8 v bn (by omega) hbl
      clear hg hb hbd' hbn
      go_wp2_with ((with_reducible show wpList _ _ _ (⟨_, .index 9 _ _, _, _, _, _⟩ :: _) _ _); refine wpL_valZ rfl (.int .u8 (bn : Int)) (by rw [← HBN.out]; exact exec_idx _ _ rfl l k b HG.out _ rfl rfl rfl _) ?_)
      refine ⟨⟨k + 1, v * 256 + bn, rfl, by rw [show ((k + 1 : Nat) : Int) = (k : Int) + 1 from by omega], by omega, hid ?_, HBD', trivial⟩, by simp [intOf]; omega⟩
      rw [List.take_add_one, HG.out, HV.out, ← HBN.out]
      exact (joinI_snoc h _ b).symm
    · obtain rfl : k = ll := by omega
      have HFin : Hid (v = joinI h l) := hid (by have h := HV.out; rwa [← HL.out, List.take_length] at h)
      go_wp2_with fail
      go_ret
      exact ⟨by rw [HFin.out]; rfl, rfl⟩
end Go.Proofs.Ytoikiokcpakokaa.BE
