/-
  Part 2 of the proof: BeC, BeX, BeI, BeJ, MeD, Tx, MeM.
-/
import Derived.Test.YthjmkfpdbbfcpaaMw01
set_option linter.unusedSimpArgs false
set_option linter.unusedVariables false
namespace Go.Proofs.Ythjmkfpdbbfcpaa.BE
set_option maxRecDepth 100000
open Go.RowKit K

theorem and31 : ∀ m : Fin 256, (bits BinOp.and IntKind.i64 ((m.val : Nat) : Int) 31 != 31) = tagB ((m.val : Nat) : Int) := by decide +kernel
theorem and32 : ∀ m : Fin 256, (bits BinOp.and IntKind.i64 ((m.val : Nat) : Int) 32 != 0) = conB ((m.val : Nat) : Int) := by decide +kernel
theorem isTag_any (t : Int) (w : World) : Calls Try.prog 81 #[.int .i64 t] w fun e w' => e = .returned (.bool (tagB t)) ∧ w' = w := by
  by_cases h0 : 0 ≤ t
  · by_cases h1 : t ≤ 255
    · obtain ⟨m, rfl⟩ : ∃ m : Nat, t = m := ⟨t.toNat, by omega⟩
      have ha := and31 ⟨m, by omega⟩
      simp only at ha
      go_enter Try.func81, Try.ntmps81
      go_wp2
      go_ret
      exact ⟨rfl, rfl⟩
    · have : tagB t = false := by simp [tagB, h1]
      rw [this]
      go_enter Try.func81, Try.ntmps81
      go_wp2
      go_ret
      exact ⟨rfl, rfl⟩
  · have : tagB t = false := by simp [tagB, h0]
    rw [this]
    go_enter Try.func81, Try.ntmps81
    go_wp2
    go_ret
    exact ⟨rfl, rfl⟩
theorem isCon_any (t : Int) (ht : tagB t = true) (w : World) : Calls Try.prog 51 #[.int .i64 t] w fun e w' => e = .returned (.bool (conB t)) ∧ w' = w := by
  have h2 : 0 ≤ t ∧ t ≤ 255 := by simp [tagB] at ht; omega
  obtain ⟨m, rfl⟩ : ∃ m : Nat, t = m := ⟨t.toNat, by omega⟩
  have ha := and32 ⟨m, by omega⟩
  simp only at ha
  clear ht h2
  go_enter Try.func51, Try.ntmps51
  go_wp2
  go_ret
  exact ⟨rfl, rfl⟩
theorem bytes_lit (w : World) (l : B) (vs : Array Value) (n : Nat) (h : vs = (u8s l).toArray) (hn : l.length = n) : BytesIn (w.alloc (.cells vs 5)) Any (.slice (some ⟨w.heap.size, 0, none⟩) n n) l := by
  subst h; subst hn
  exact Blk.bytes (Blk.new w 5 (u8s l)) trivial (Nat.le_refl _)
theorem wpL_stringS {ops : Array Oper} {rest : List Oper} {op : Oper} {a : Act} {w : World} {Q : Exit → Act → World → Prop} (hgd : op.guard = none) (x : Operand) (ho : op.op = .convert 58 9 x) (v : Value) (E : Nat → Prop) (l : List UInt8) (hx : a.eval x = v) (hb : BytesIn w E v l)
    (h : wpList Try.prog ops Q rest (a.put op.dst (.string (sb l))) w) : wpList Try.prog ops Q (op :: rest) a w :=
  wpL_stringOf hgd _ _ 5 x ho v E l hx hb Try.underlying58 Try.underlying5 Try.underlying9 h
theorem int_ofNat {c : Nat} (h : c < 256) : (Value.int .u8 (c : Int)) = .int .u8 ((UInt8.ofNat c).toNat : Int) := by rw [ofNat_lt h]
set_option maxHeartbeats 1000000 in
theorem length_any (c : Nat) (hc : c ≤ 65535) (w : World) : Calls Try.prog 41 #[.int .i64 c] w fun e w' => e = .returned (.string (sb (lenB c))) ∧ Fr No w w' := by
  by_cases h1 : c < 128
  · have h1i : (c : Int) < 128 := by omega
    have hb : BytesIn (w.alloc (.cells #[.int .u8 (c : Int)] 5)) Any (.slice (some ⟨w.heap.size, 0, none⟩) 1 1) [UInt8.ofNat c] := bytes_lit w _ _ _ (by simp [u8s, int_ofNat (show c < 256 by omega)]) rfl
    have HB := hid hb
    have he : lenB c = [UInt8.ofNat c] := by unfold lenB; rw [if_pos h1]
    have HE := hid he
    clear hb he
    go_enter Try.func41, Try.ntmps41
    go_wp2_with ((with_reducible refine K.atO (.convert _ 9 _) ?_); refine wpL_stringS rfl _ rfl _ Any _ rfl HB.out ?_)
    go_ret
    rw [HE.out]
    exact ⟨rfl, (Fr.refl No w).alloc _⟩
  · by_cases h2 : c < 256
    · have h1i : ¬ (c : Int) < 128 := by omega
      have h2i : (c : Int) ≤ 255 := by omega
      have hb : BytesIn (w.alloc (.cells #[.int .u8 129, .int .u8 (c : Int)] 5)) Any (.slice (some ⟨w.heap.size, 0, none⟩) 2 2) [129, UInt8.ofNat c] := bytes_lit w _ _ _ (by simp [u8s, int_ofNat h2]) rfl
      have HB := hid hb
      have he : lenB c = [129, UInt8.ofNat c] := by unfold lenB; rw [if_neg h1, if_pos h2]
      have HE := hid he
      clear hb he
      go_enter Try.func41, Try.ntmps41
      go_wp2_with ((with_reducible refine K.atO (.convert _ 9 _) ?_); refine wpL_stringS rfl _ rfl _ Any _ rfl HB.out ?_)
      go_ret
      rw [HE.out]
      exact ⟨rfl, (Fr.refl No w).alloc _⟩
    · have h1i : ¬ (c : Int) < 128 := by omega
      have h2i : ¬ (c : Int) ≤ 255 := by omega
      have h3i : (c : Int) ≤ 65535 := by omega
      have hb : BytesIn (w.alloc (.cells #[.int .u8 130, .int .u8 ((c : Int) / 256), .int .u8 ((c : Int) % 256)] 5)) Any (.slice (some ⟨w.heap.size, 0, none⟩) 3 3) [130, UInt8.ofNat (c / 256), UInt8.ofNat (c % 256)] := bytes_lit w _ _ _ (by
        simp only [u8s, List.map_cons, List.map_nil]
        rw [ofNat_lt (c := c / 256) (by omega), ofNat_lt (c := c % 256) (by omega)]
        rfl) rfl
      have HB := hid hb
      have he : lenB c = [130, UInt8.ofNat (c / 256), UInt8.ofNat (c % 256)] := by unfold lenB; rw [if_neg h1, if_neg h2]
      have HE := hid he
      clear hb he
      go_enter Try.func41, Try.ntmps41
      go_wp2_with ((with_reducible refine K.atO (.convert _ 9 _) ?_); refine wpL_stringS rfl _ rfl _ Any _ rfl HB.out ?_)
      go_ret
      rw [HE.out]
      exact ⟨rfl, (Fr.refl No w).alloc _⟩
end Go.Proofs.Ythjmkfpdbbfcpaa.BE

namespace Go.Proofs.Ythjmkfpdbbfcpaa.BE
set_option maxRecDepth 100000
open Go.RowKit K

theorem index_str (l : B) (i : Nat) (b : UInt8) (h : l[i]? = some b) (w : World) : (Instr.index 9 (.string (sb l)) (.int .i64 (i : Int))).run Try.prog w = .ok (.int .u8 (b.toNat : Int)) w := by
  rw [Go.run_index_string (P := Try.prog) w 9 (sb l) .i64 (i : Int) Try.underlying9]
  obtain ⟨hl, hb⟩ := List.getElem?_eq_some_iff.1 h
  have hz : (sb l).size = l.length := sb_size l
  have h1 : (0 : Int) ≤ (i : Int) ∧ (i : Int) < (sb l).size := ⟨by omega, by omega⟩
  rw [dif_pos h1]
  have h2 : ((sb l)[(i : Int).toNat]'(by omega)) = b := hb
  rw [h2]
theorem exec_idx {op : Oper} {a : Act} (x y : Operand) (ho : op.op = .index 9 x y) (l : B) (i : Nat) (b : UInt8) (hi : l[i]? = some b) (n : Int) (hn : n = (i : Int)) (hx : a.eval x = .string (sb l)) (hy : a.eval y = .int .i64 n) (w : World) : (execOp a.eval op).run Try.prog w = .ok (.value (.int .u8 (b.toNat : Int))) w := by
  have h := index_str l i b hi w
  subst hn
  simp [execOp, ho, hx, hy, h]
theorem slice_two (l : B) (m k : Nat) (h1 : m ≤ k) (h2 : k ≤ l.length) (w : World) : (Instr.slice 9 (.string (sb l)) (some (.int .i64 (m : Int))) (some (.int .i64 (k : Int))) none).run Try.prog w = .ok (.string (sb ((l.drop m).take (k - m)))) w := by
  rw [← ext_sb]
  have hz : (sb l).size = l.length := sb_size l
  have hj : (k : Int) ≤ ((sb l).size : Int) := by omega
  simp [Instr.slice, Instr.sliceBounds, Instr.sliceBound, asIntOf, run_underlying Try.underlying9, hj, h1]
  intro hc
  omega
theorem slice_to (l : B) (k : Nat) (h2 : k ≤ l.length) (w : World) : (Instr.slice 9 (.string (sb l)) none (some (.int .i64 (k : Int))) none).run Try.prog w = .ok (.string (sb (l.take k))) w := by
  rw [show sb (l.take k) = (sb l).extract 0 k by rw [ext_sb, List.drop_zero, Nat.sub_zero]]
  have hz : (sb l).size = l.length := sb_size l
  have hj : (k : Int) ≤ ((sb l).size : Int) := by omega
  simp [Instr.slice, Instr.sliceBounds, Instr.sliceBound, asIntOf, run_underlying Try.underlying9, hj]
  intro hc
  omega
theorem slice_from (l : B) (m : Nat) (h2 : m ≤ l.length) (w : World) : (Instr.slice 9 (.string (sb l)) (some (.int .i64 (m : Int))) none none).run Try.prog w = .ok (.string (sb (l.drop m))) w := by
  have hz : (sb l).size = l.length := sb_size l
  rw [show sb (l.drop m) = (sb l).extract m (sb l).size by rw [ext_sb, List.take_of_length_le (by rw [List.length_drop, hz]; exact Nat.le_refl _)]]
  have hj : (m : Int) ≤ ((sb l).size : Int) := by omega
  simp [Instr.slice, Instr.sliceBounds, Instr.sliceBound, asIntOf, run_underlying Try.underlying9, hj]
  intro hc
  omega
theorem exec_two {op : Oper} {a : Act} (x g h : Operand) (ho : op.op = .slice 9 x (some g) (some h) none) (l : B) (m k : Nat) (hx : a.eval x = .string (sb l)) (hg : a.eval g = .int .i64 (m : Int)) (hh : a.eval h = .int .i64 (k : Int)) (h1 : m ≤ k) (h2 : k ≤ l.length) (r : B) (hr : (l.drop m).take (k - m) = r) (w : World) :
    (execOp a.eval op).run Try.prog w = .ok (.value (.string (sb r))) w := by
  subst hr
  unfold execOp
  simp only [ho, Option.map_none, Option.map_some, hx, hg, hh]
  simp [Instr.sliceAt, slice_two l m k h1 h2 w, Result.andThen]
theorem exec_to {op : Oper} {a : Act} (x h : Operand) (ho : op.op = .slice 9 x none (some h) none) (l : B) (k : Nat) (hx : a.eval x = .string (sb l)) (hh : a.eval h = .int .i64 (k : Int)) (h2 : k ≤ l.length) (r : B) (hr : l.take k = r) (w : World) :
    (execOp a.eval op).run Try.prog w = .ok (.value (.string (sb r))) w := by
  subst hr
  unfold execOp
  simp only [ho, Option.map_none, Option.map_some, hx, hh]
  simp [Instr.sliceAt, slice_to l k h2 w, Result.andThen]
theorem exec_from {op : Oper} {a : Act} (x h : Operand) (ho : op.op = .slice 9 x (some h) none none) (l : B) (k : Nat) (hx : a.eval x = .string (sb l)) (hh : a.eval h = .int .i64 (k : Int)) (h2 : k ≤ l.length) (r : B) (hr : l.drop k = r) (w : World) :
    (execOp a.eval op).run Try.prog w = .ok (.value (.string (sb r))) w := by
  subst hr
  unfold execOp
  simp only [ho, Option.map_none, Option.map_some, hx, hh]
  simp [Instr.sliceAt, slice_from l k h2 w, Result.andThen]
theorem neq_sb (a b : B) : ((sb a).toList == (sb b).toList) = decide (a = b) := by
  rw [ByteArray.toList_eq, ByteArray.toList_eq, sb_list, sb_list]
  by_cases h : a = b
  · subst h; simp
  · rw [decide_eq_false h]; exact beq_false_of_ne h
theorem exec_eqS {op : Oper} {a : Act} (x y : Operand) (u : TypeId) (ho : op.op = .binOp .eql 9 x y u) (p q : B) (hx : a.eval x = .string (sb p)) (hy : a.eval y = .string (sb q)) (w : World) :
    (execOp a.eval op).run Try.prog w = .ok (.value (.bool (decide (p = q)))) w := by
  unfold execOp
  simp only [ho, hx, hy]
  rw [← neq_sb]
  simp [go_sem, eqGuard, Result.andThen]
theorem exec_neS {op : Oper} {a : Act} (x y : Operand) (u : TypeId) (ho : op.op = .binOp .neq 9 x y u) (p q : B) (hx : a.eval x = .string (sb p)) (hy : a.eval y = .string (sb q)) (w : World) :
    (execOp a.eval op).run Try.prog w = .ok (.value (.bool (!decide (p = q)))) w := by
  unfold execOp
  simp only [ho, hx, hy]
  rw [← neq_sb]
  simp [go_sem, eqGuard, Result.andThen, bne]
theorem run_add_str {a b : ByteArray} (h : a.size + b.size ≤ 9223372036854775807) {w : World} : (binOp .add 9 (.string a) (.string b)).run Try.prog w = .ok (.string (a ++ b)) w := by
  simp [binOp, run_string_add_sum w a b h]
theorem exec_addS {op : Oper} {a : Act} (x y : Operand) (u : TypeId) (ho : op.op = .binOp .add 9 x y u) (p q : B) (hx : a.eval x = .string (sb p)) (hy : a.eval y = .string (sb q)) (h : p.length + q.length ≤ 9223372036854775807) (r : B) (hr : p ++ q = r) (w : World) :
    (execOp a.eval op).run Try.prog w = .ok (.value (.string (sb r))) w := by
  subst hr
  unfold execOp
  simp only [ho, hx, hy]
  simp [run_add_str (a := sb p) (b := sb q) (by rw [sb_size, sb_size]; exact h), sb_append, eqGuard, Result.andThen]
/-- The number that a byte alone is. -/
def sgn (b : UInt8) : Int := if b.toNat < 128 then b.toNat else (b.toNat : Int) - 256
theorem signed_any (b : UInt8) (w : World) : Calls Try.prog 70 #[.int .u8 (b.toNat : Int)] w fun e w' => e = .returned (.int .i64 (sgn b)) ∧ w' = w := by
  have hb := lt256 b
  obtain ⟨m, hm⟩ : ∃ m, b.toNat = m := ⟨_, rfl⟩
  have HS : Hid (sgn b = if m < 128 then (m : Int) else (m : Int) - 256) := hid (by unfold sgn; rw [hm])
  rw [hm] at hb ⊢
  rw [HS.out]
  clear hm HS
  by_cases h : m < 128
  · rw [if_pos h]
    go_enter Try.func70, Try.ntmps70
    go_wp2
    go_ret
    exact ⟨rfl, rfl⟩
  · rw [if_neg h]
    have hm1 : ¬ (m : Int) < 128 := by omega
    have hw1 : IntKind.i8.wrap (m : Int) = (m : Int) - 256 := by
      simp [IntKind.wrap, IntKind.bits, IntKind.signed]
      omega
    have hw2 : wrap64 ((m : Int) - 256) = (m : Int) - 256 := by unfold wrap64; omega
    have HW1 := hid hw1; have HW2 := hid hw2
    clear hw1 hw2
    go_enter Try.func70, Try.ntmps70
    go_wp2
    go_ret
    refine ⟨?_, rfl⟩
    show Ending.returned (.int .i64 (wrap64 (IntKind.i8.wrap (m : Int)))) = _
    rw [HW1.out, HW2.out]
theorem or8 (h : Int) (b : Nat) (hh : -1099511627776 ≤ h ∧ h < 1099511627776) (hb : b < 256) : bits BinOp.or IntKind.i64 (h * 256) (b : Int) = h * 256 + b := by
  have hA : (BitVec.ofInt 64 (h * 256)).toNat = ((h * 256) % 18446744073709551616).toNat := by rw [BitVec.toNat_ofInt]; rfl
  have hB : (BitVec.ofInt 64 (b : Int)).toNat = b := by rw [BitVec.ofInt_natCast, BitVec.toNat_ofNat]; omega
  have e : bits BinOp.or IntKind.i64 (h * 256) (b : Int) = IntKind.i64.wrap (((BitVec.ofInt 64 (h * 256)) ||| (BitVec.ofInt 64 (b : Int))).toNat : Int) := rfl
  rw [e, BitVec.toNat_or, hA, hB]
  generalize hq : ((h * 256) % 18446744073709551616).toNat = A
  have hq2 : A = 256 * (A / 256) := by omega
  have ho : A ||| b = A + b := by
    have := Nat.two_pow_add_eq_or_of_lt (i := 8) (b := b) (by omega) (A / 256)
    rw [hq2]
    exact this.symm
  rw [ho, IntKind.wrap_i64]
  omega
/-- What joined answers. -/
def joinI : Int → B → Int
  | h, [] => h
  | h, b :: r => joinI (h * 256 + b.toNat) r
theorem joinI_snoc (h : Int) : ∀ (l : B) (b : UInt8), joinI h (l ++ [b]) = joinI h l * 256 + b.toNat := by
  intro l
  induction l generalizing h with
  | nil => intro b; rfl
  | cons x r ih => intro b; exact ih _ b
def Bd (k : Nat) (v : Int) : Prop := (k = 0 → -128 ≤ v ∧ v < 128) ∧ (k = 1 → -32768 ≤ v ∧ v < 32768) ∧ (k = 2 → -8388608 ≤ v ∧ v < 8388608) ∧ (k = 3 → -2147483648 ≤ v ∧ v < 2147483648)
set_option maxHeartbeats 2000000 in
theorem joined_any (h : Int) (l : B) (hh : -128 ≤ h ∧ h < 128) (hl : l.length ≤ 3) (w : World) : Calls Try.prog 82 #[.int .i64 h, .string (sb l)] w fun e w' => e = .returned (.int .i64 (joinI h l)) ∧ w' = w := by
  have hsz := sb_size l
  have HH := hid hh
  obtain ⟨ll, hll⟩ : ∃ ll, l.length = ll := ⟨_, rfl⟩
  rw [hll] at hsz hl
  have hszi : ((sb l).size : Int) = ll := by omega
  have HL := hid hll
  clear hll hh hsz
  go_enter Try.func82, Try.ntmps82
  go_wp2_with fail
  go_loopw [0, 8] (fun hv iv wr => ∃ (k : Nat) (v : Int), hv = .int .i64 v ∧ iv = .int .i64 k ∧ k ≤ ll ∧ Hid (v = joinI h (l.take k)) ∧ Hid (Bd k v) ∧ wr = w) (fun _ iv _ => ll - (intOf iv).toNat)
  case atStart => exact ⟨0, h, rfl, rfl, Nat.zero_le _, hid rfl, hid ⟨fun _ => HH.out, fun h => by omega, fun h => by omega, fun h => by omega⟩, rfl⟩
  case round =>
    obtain ⟨k, v, rfl, rfl, hk, HV, HBd, rfl⟩ := hrel
    by_cases hlt : k < ll
    · have hlti : (k : Int) < ll := by omega
      have hg : l[k]? = some (l[k]'(by rw [HL.out]; exact hlt)) := List.getElem?_eq_getElem _
      obtain ⟨b, hb⟩ : ∃ b, l[k]? = some b := ⟨_, hg⟩
      have HG := hid hb
      have hbl := lt256 b
      obtain ⟨bn, hbn⟩ : ∃ bn, b.toNat = bn := ⟨_, rfl⟩
      rw [hbn] at hbl
      have HBN := hid hbn
      have hvb : -2147483648 ≤ v ∧ v < 2147483648 := by have h := HBd.out; unfold Bd at h; omega
      have hbd' : Bd (k + 1) (v * 256 + bn) := by have h := HBd.out; unfold Bd at h ⊢; omega
      have HBD' := hid hbd'
      have hor := or8 v bn (by omega) hbl
      clear hg hb hbd' hbn
      go_wp2_with ((with_reducible refine K.atO (.index 9 _ _) ?_); refine wpL_valZ rfl (.int .u8 (bn : Int)) (by rw [← HBN.out]; exact exec_idx _ _ rfl l k b HG.out _ rfl rfl rfl _) ?_)
      refine ⟨⟨k + 1, v * 256 + bn, rfl, by rw [show ((k + 1 : Nat) : Int) = (k : Int) + 1 from by omega], by omega, hid ?_, HBD', trivial⟩, by simp [intOf]; omega⟩
      rw [List.take_add_one, HG.out, HV.out, ← HBN.out]
      exact (joinI_snoc h _ b).symm
    · obtain rfl : k = ll := by omega
      have HFin : Hid (v = joinI h l) := hid (by have h := HV.out; rwa [← HL.out, List.take_length] at h)
      go_wp2_with fail
      go_ret
      exact ⟨by rw [HFin.out]; rfl, rfl⟩
end Go.Proofs.Ythjmkfpdbbfcpaa.BE

namespace Go.Proofs.Ythjmkfpdbbfcpaa.BE
set_option maxRecDepth 100000
open Go.RowKit K

def byt (n : Int) : UInt8 := UInt8.ofNat (n % 256).toNat
theorem byt_nat (n : Int) : ((byt n).toNat : Int) = n % 256 := by
  unfold byt
  rw [ofNat_lt (by omega)]
  omega
/-- The bytes of a number of at most f + 1 bytes. -/
def intG : Nat → Int → B
  | 0, n => [byt n]
  | f + 1, n => if n = sgn (byt n) then [byt n] else intG f (n / 256) ++ [byt n]
def intS (n : Int) : B := intG 7 n
theorem intG_len : ∀ (f : Nat) (n : Int), 1 ≤ (intG f n).length ∧ (intG f n).length ≤ f + 1
  | 0, n => by simp [intG]
  | f + 1, n => by
    unfold intG
    split
    · simp
    · have := intG_len f (n / 256)
      simp; omega
theorem sgn_byt (n : Int) : sgn (byt n) = if n % 256 < 128 then n % 256 else n % 256 - 256 := by
  have h := byt_nat n
  unfold sgn
  have : ((byt n).toNat < 128) = (n % 256 < 128) := by simp; omega
  by_cases h1 : n % 256 < 128
  · rw [if_pos (by omega), if_pos h1]; exact h
  · rw [if_neg (by omega), if_neg h1, h]
set_option maxHeartbeats 4000000 in
theorem int_any : ∀ (f : Nat) (n : Int) (w : World), f ≤ 7 → -(128 * 256 ^ f) ≤ n → n < 128 * 256 ^ f → (-9223372036854775808 ≤ n ∧ n ≤ 9223372036854775807) → Calls Try.prog 46 #[.int .i64 n] w fun e w' => e = .returned (.string (sb (intG f n))) ∧ Fr No w w' := by
  intro f
  induction f with
  | zero =>
    intro n w _ h1 h2 hb
    have heq : n = sgn (byt n) := by rw [sgn_byt]; split <;> omega
    have HEQ := hid heq
    have hby : BytesIn (w.alloc (.cells #[.int .u8 (n % 256)] 5)) Any (.slice (some ⟨w.heap.size, 0, none⟩) 1 1) [byt n] := bytes_lit w _ _ _ (by simp [u8s, byt_nat]) rfl
    have HBY := hid hby
    have HI : Hid (([byt n] : B)[0]? = some (byt n)) := hid rfl
    clear heq hby
    obtain ⟨bb, hbb⟩ : ∃ bb, byt n = bb := ⟨_, rfl⟩
    rw [hbb] at HEQ HBY HI
    have HBB := hid hbb
    have HG : Hid (intG 0 n = [bb]) := hid (by show [byt n] = [bb]; rw [hbb])
    clear hbb h1 h2
    go_enter Try.func46, Try.ntmps46
    go_wp2_with (first
      | ((with_reducible refine K.atO (.convert _ 9 _) ?_); refine wpL_stringS rfl _ rfl _ Any _ rfl HBY.out ?_)
      | ((with_reducible refine K.atO (.index 9 _ _) ?_); refine wpL_valZ rfl (.int .u8 (bb.toNat : Int)) (exec_idx _ _ rfl [bb] 0 bb HI.out _ rfl rfl rfl _) ?_))
    refine (signed_any bb _).mono ?_
    rintro e w1 ⟨rfl, rfl⟩
    rw [← HEQ.out]
    go_wp2_with fail
    go_ret
    rw [HG.out]
    exact ⟨rfl, (Fr.refl No w).alloc _⟩
  | succ f ih =>
    intro n w hf h1 h2 hb
    have hby : BytesIn (w.alloc (.cells #[.int .u8 (n % 256)] 5)) Any (.slice (some ⟨w.heap.size, 0, none⟩) 1 1) [byt n] := bytes_lit w _ _ _ (by simp [u8s, byt_nat]) rfl
    have HBY := hid hby
    have HI : Hid (([byt n] : B)[0]? = some (byt n)) := hid rfl
    have HIH := hid ih
    have HP := hid (show -(128 * 256 ^ f) ≤ n / 256 ∧ n / 256 < 128 * 256 ^ f by
      rw [Int.pow_succ] at h1 h2
      omega)
    have HG0 : intG (f + 1) n = if n = sgn (byt n) then [byt n] else intG f (n / 256) ++ [byt n] := rfl
    obtain ⟨bb, hbb⟩ : ∃ bb, byt n = bb := ⟨_, rfl⟩
    rw [hbb] at HBY HI HG0
    have HG := hid HG0
    have HFL := hid hf
    have HSG : Hid (-128 ≤ sgn bb ∧ sgn bb ≤ 127) := hid (by unfold sgn; have := lt256 bb; split <;> omega)
    clear hbb h1 h2 hby ih HG0 hf
    obtain ⟨sg, hsg⟩ : ∃ sg, sgn bb = sg := ⟨_, rfl⟩
    rw [hsg] at HG HSG
    have HSE := hid hsg
    clear hsg
    by_cases hq : n = sg
    · have hG : intG (f + 1) n = [bb] := by rw [HG.out, if_pos hq]
      have HGG := hid hG
      have HQ := hid hq
      clear hG hq
      go_enter Try.func46, Try.ntmps46
      go_wp2_with (first
        | ((with_reducible refine K.atO (.convert _ 9 _) ?_); refine wpL_stringS rfl _ rfl _ Any _ rfl HBY.out ?_)
        | ((with_reducible refine K.atO (.index 9 _ _) ?_); refine wpL_valZ rfl (.int .u8 (bb.toNat : Int)) (exec_idx _ _ rfl [bb] 0 bb HI.out _ rfl rfl rfl _) ?_))
      refine (signed_any bb _).mono ?_
      rintro e w1 ⟨rfl, rfl⟩
      rw [HSE.out, ← HQ.out]
      go_wp2_with fail
      go_ret
      rw [HGG.out]
      exact ⟨rfl, (Fr.refl No w).alloc _⟩
    · have hG : intG (f + 1) n = intG f (n / 256) ++ [bb] := by rw [HG.out, if_neg hq]
      have HGG := hid hG
      clear hG
      go_enter Try.func46, Try.ntmps46
      go_wp2_with (first
        | ((with_reducible refine K.atO (.convert _ 9 _) ?_); refine wpL_stringS rfl _ rfl _ Any _ rfl HBY.out ?_)
        | ((with_reducible refine K.atO (.index 9 _ _) ?_); refine wpL_valZ rfl (.int .u8 (bb.toNat : Int)) (exec_idx _ _ rfl [bb] 0 bb HI.out _ rfl rfl rfl _) ?_))
      refine (signed_any bb _).mono ?_
      rintro e w1 ⟨rfl, rfl⟩
      rw [HSE.out]
      go_wp2_with fail
      refine (HIH.out (n / 256) _ (by have := HFL.out; omega) HP.out.1 HP.out.2 (by omega)).mono ?_
      rintro e w2 ⟨rfl, f2⟩
      have hl := (intG_len f (n / 256)).2
      have hfl := HFL.out
      have HF2 := hid (((Fr.refl No w).alloc _).trans' f2)
      obtain ⟨G, hG⟩ : ∃ G, intG f (n / 256) = G := ⟨_, rfl⟩
      rw [hG] at hl ⊢
      have HGE := hid hG
      have HLE := hid (show G.length + [bb].length ≤ 9223372036854775807 by simp; omega)
      clear f2 hG hl
      go_wp2_with ((with_reducible refine K.atO (.binOp .add 9 _ _ _) ?_); refine wpL_valZ rfl (.string (sb (G ++ [bb]))) (exec_addS _ _ _ rfl G [bb] rfl rfl HLE.out _ rfl _) ?_)
      go_ret
      rw [HGG.out, HGE.out]
      exact ⟨rfl, HF2.out⟩
end Go.Proofs.Ythjmkfpdbbfcpaa.BE

namespace Go.Proofs.Ythjmkfpdbbfcpaa.BE
set_option maxRecDepth 100000
open Go.RowKit K

/-- What Number tells. -/
def numS (s : B) : Int × Bool := match s with
  | [] => (0, false)
  | b :: r => if 4 < s.length then (0, false) else if intS (joinI (sgn b) r) = s then (joinI (sgn b) r, true) else (0, false)

/-! ### Mathematics -/
theorem sgn_lim (b : UInt8) : -128 ≤ sgn b ∧ sgn b < 128 := by unfold sgn; have := lt256 b; split <;> omega
/-- The bytes of a number are read as it. -/
theorem join_int : ∀ (f : Nat) (n : Int), -(128 * 256 ^ f) ≤ n → n < 128 * 256 ^ f → ∃ b r, intG f n = b :: r ∧ joinI (sgn b) r = n
  | 0, n, h1, h2 => ⟨byt n, [], rfl, by
      show sgn (byt n) = n
      rw [sgn_byt]
      split <;> omega⟩
  | f + 1, n, h1, h2 => by
    by_cases he : n = sgn (byt n)
    · exact ⟨byt n, [], by unfold intG; rw [if_pos he], he.symm⟩
    · rw [Int.pow_succ] at h1 h2
      obtain ⟨b, r, e1, e2⟩ := join_int f (n / 256) (by omega) (by omega)
      refine ⟨b, r ++ [byt n], by unfold intG; rw [if_neg he, e1]; rfl, ?_⟩
      rw [joinI_snoc, e2, byt_nat]
      omega
theorem int_short : ∀ (j f : Nat) (n : Int), -(128 * 256 ^ j) ≤ n → n < 128 * 256 ^ j → (intG f n).length ≤ j + 1
  | 0, f, n, h1, h2 => by
    have he : n = sgn (byt n) := by rw [sgn_byt]; split <;> omega
    cases f with
    | zero => simp [intG]
    | succ f => unfold intG; rw [if_pos he]; simp
  | j + 1, f, n, h1, h2 => by
    cases f with
    | zero => simp [intG]
    | succ f =>
      unfold intG
      split
      · simp
      · rw [Int.pow_succ] at h1 h2
        have := int_short j f (n / 256) (by omega) (by omega)
        simp; omega
theorem join_lim : ∀ (l : B) (h : Int) (k : Nat), -(k : Int) ≤ h → h < k → -((k : Int) * 256 ^ l.length) ≤ joinI h l ∧ joinI h l < (k : Int) * 256 ^ l.length
  | [], h, k, h1, h2 => by simp [joinI]; omega
  | b :: r, h, k, h1, h2 => by
    have hb := lt256 b
    have := join_lim r (h * 256 + b.toNat) (k * 256) (by push_cast; omega) (by push_cast; omega)
    rw [List.length_cons, Int.pow_succ]
    have e : (k : Int) * (256 ^ r.length * 256) = ((k * 256 : Nat) : Int) * 256 ^ r.length := by
      rw [Int.natCast_mul, Int.mul_assoc, Int.mul_comm (256 ^ r.length) 256]; rfl
    rw [e]
    exact this
theorem num_int {n : Int} (h : -9223372036854775808 ≤ n ∧ n ≤ 9223372036854775807) : numS (intS n) = if -2147483648 ≤ n ∧ n < 2147483648 then (n, true) else (0, false) := by
  obtain ⟨b, r, e1, e2⟩ := join_int 7 n (by have : (128 : Int) * 256 ^ 7 = 9223372036854775808 := by decide
                                            omega) (by have : (128 : Int) * 256 ^ 7 = 9223372036854775808 := by decide
                                                       omega)
  have e1' : intS n = b :: r := e1
  by_cases hs : -2147483648 ≤ n ∧ n < 2147483648
  · have hl := int_short 3 7 n (by have : (128 : Int) * 256 ^ 3 = 2147483648 := by decide
                                   omega) (by have : (128 : Int) * 256 ^ 3 = 2147483648 := by decide
                                              omega)
    rw [if_pos hs]
    rw [e1'] 
    unfold numS
    simp only
    rw [e1] at hl
    rw [if_neg (by omega), e2, if_pos e1']
  · rw [if_neg hs, e1']
    unfold numS
    simp only
    by_cases h4 : 4 < (b :: r).length
    · rw [if_pos h4]
    · exfalso
      have hb := sgn_lim b
      have hl := join_lim r (sgn b) 128 (by omega) (by omega)
      rw [e2] at hl
      simp only [List.length_cons] at h4
      match r, h4 with
      | [], _ => simp at hl; omega
      | [_], _ => simp at hl; omega
      | [_, _], _ => simp at hl; omega
      | [_, _, _], _ => simp at hl; omega
      | _ :: _ :: _ :: _ :: _, h4 => simp only [List.length_cons] at h4; omega
end Go.Proofs.Ythjmkfpdbbfcpaa.BE

namespace Go.Proofs.Ythjmkfpdbbfcpaa.ME
set_option maxRecDepth 100000
open Go.Proofs.Ythjmkfpdbbfcpaa.BE

/-- A filter. -/
inductive Fl where
  | mk (kind : Int) (kids : List Fl) (type value first : B) (any : List B) (last : B)
def Fl.kind : Fl → Int | .mk k _ _ _ _ _ _ => k
def Fl.kids : Fl → List Fl | .mk _ k _ _ _ _ _ => k
def Fl.type : Fl → B | .mk _ _ t _ _ _ _ => t
def Fl.value : Fl → B | .mk _ _ _ v _ _ _ => v
def Fl.first : Fl → B | .mk _ _ _ _ f _ _ => f
def Fl.any : Fl → List B | .mk _ _ _ _ _ a _ => a
def Fl.last : Fl → B | .mk _ _ _ _ _ _ l => l
def fl0 : Fl := .mk 0 [] [] [] [] [] []
structure At where
  type : B
  values : List B
structure Mo where
  doing : Int
  attr : At
/-- A message. -/
structure Msg where
  id : Int
  op : Int
  ver : Int
  name : B
  pw : B
  scope : Int
  deref : Int
  size : Int
  time : Int
  typesOnly : Bool
  filter : Fl
  wants : List B
  list : List At
  mods : List Mo
  rdn : B
  dropOld : Bool
  moves : Bool
  sup : B
  type : B
  value : B
  target : Int
  code : Int
  matched : B
  text : B
def msg0 (id op : Int) : Msg := ⟨id, op, 0, [], [], 0, 0, 0, 0, false, fl0, [], [], [], [], false, false, [], [], [], 0, 0, [], []⟩

theorem errN_zero {n : Nd} (h : errN n = 0) : deep 8 n = true ∧ shaped 8 n = true ∧ fits 8 n = true := by
  unfold errN at h
  split at h
  · cases h
  · split at h
    · cases h
    · split at h
      · cases h
      · rename_i h1 h2 h3
        exact ⟨by simpa using h1, by simpa using h2, by simpa using h3⟩
/-! ### What may be -/
def kidsK (k : Int) : Bool := decide (k = 0) || decide (k = 1) || decide (k = 2)
def valK (k : Int) : Bool := decide (k = 3) || decide (k = 5) || decide (k = 6)
def rightF : Nat → Fl → Bool
  | 0, _ => false
  | d + 1, f => (kidsK f.kind || valK f.kind || decide (f.kind = 4) || decide (f.kind = 7)) &&
      (if kidsK f.kind then f.type.isEmpty && !f.kids.isEmpty && (!decide (f.kind = 2) || decide (f.kids.length = 1)) else f.kids.isEmpty) &&
      (valK f.kind || f.value.isEmpty) && (decide (f.kind = 4) || f.first.isEmpty && f.last.isEmpty && f.any.isEmpty) &&
      !(decide (f.kind = 4) && f.first.isEmpty && f.last.isEmpty && f.any.isEmpty) && f.any.all (fun a => !a.isEmpty) && f.kids.all (rightF d)
def ansO (op : Int) : Bool := decide (op = 97) || decide (op = 101) || decide (op = 103) || decide (op = 105) || decide (op = 107) || decide (op = 109) || decide (op = 111) || decide (op = 120)
def namO (op : Int) : Bool := ansO op || decide (op = 96) || decide (op = 66) || decide (op = 99) || decide (op = 102) || decide (op = 104) || decide (op = 100) || decide (op = 74) || decide (op = 108) || decide (op = 110) || decide (op = 80)
def inI (n a b : Int) : Bool := decide (a ≤ n) && decide (n ≤ b)
def emptyF (f : Fl) : Bool := decide (f.kind = 0) && f.kids.isEmpty && f.type.isEmpty && f.value.isEmpty && f.first.isEmpty && f.any.isEmpty && f.last.isEmpty
def rightM (m : Msg) : Bool :=
  namO m.op && inI m.id 0 2147483647 &&
  (if m.op = 96 then inI m.ver 1 127 else decide (m.ver = 0) && m.pw.isEmpty) &&
  (!(decide (m.op = 66) || decide (m.op = 80) || ansO m.op && !decide (m.op = 120)) || m.name.isEmpty) &&
  (if m.op = 99 then rightF 6 m.filter && inI m.scope 0 2 && inI m.deref 0 3 && inI m.size 0 2147483647 && inI m.time 0 2147483647
    else decide (m.scope = 0) && decide (m.deref = 0) && decide (m.size = 0) && decide (m.time = 0) && !m.typesOnly && emptyF m.filter && m.wants.isEmpty) &&
  (decide (m.op = 104) || decide (m.op = 100) || m.list.isEmpty) && (decide (m.op = 102) || m.mods.isEmpty) &&
  m.mods.all (fun x => inI x.doing 0 2) &&
  (decide (m.op = 108) || m.rdn.isEmpty && !m.dropOld && !m.moves) && (m.moves || m.sup.isEmpty) &&
  (decide (m.op = 110) || m.type.isEmpty && m.value.isEmpty) &&
  (if m.op = 80 then inI m.target 0 2147483647 else decide (m.target = 0)) &&
  (if ansO m.op then inI m.code 0 127 else decide (m.code = 0) && m.matched.isEmpty && m.text.isEmpty)

/-! ### Pieces -/
def txN (s : B) : Nd := .mk 4 s []
def nuN (tag n : Int) : Nd := .mk tag (intS n) []
def trN (b : Bool) : Nd := .mk 1 (if b then [255] else [0]) []
def txsN (tag : Int) (l : List B) : Nd := .mk tag [] (l.map txN)
def atN (a : At) : Nd := .mk 48 [] [txN a.type, txsN 49 a.values]
def moN (x : Mo) : Nd := .mk 48 [] [nuN 10 x.doing, atN x.attr]
def partsN (f : Fl) : List Nd := (if f.first.isEmpty then [] else [.mk 128 f.first []]) ++ f.any.map (fun a => .mk 129 a []) ++ (if f.last.isEmpty then [] else [.mk 130 f.last []])
def pieceF : Nat → Fl → Nd
  | 0, _ => .mk 0 [] []
  | d + 1, f => if kidsK f.kind then .mk (160 + f.kind) [] (f.kids.map (pieceF d))
    else if f.kind = 4 then .mk 164 [] [txN f.type, .mk 48 [] (partsN f)]
    else if f.kind = 7 then .mk 135 f.type []
    else .mk (160 + f.kind) [] [txN f.type, txN f.value]
def opN (m : Msg) : Nd :=
  if m.op = 96 then .mk 96 [] [nuN 2 m.ver, txN m.name, .mk 128 m.pw []]
  else if m.op = 66 then .mk 66 [] []
  else if m.op = 99 then .mk 99 [] [txN m.name, nuN 10 m.scope, nuN 10 m.deref, nuN 2 m.size, nuN 2 m.time, trN m.typesOnly, pieceF 6 m.filter, txsN 48 m.wants]
  else if m.op = 102 then .mk 102 [] [txN m.name, .mk 48 [] (m.mods.map moN)]
  else if m.op = 104 ∨ m.op = 100 then .mk m.op [] [txN m.name, .mk 48 [] (m.list.map atN)]
  else if m.op = 74 then .mk 74 m.name []
  else if m.op = 108 then .mk 108 [] ([txN m.name, txN m.rdn, trN m.dropOld] ++ if m.moves then [.mk 128 m.sup []] else [])
  else if m.op = 110 then .mk 110 [] [txN m.name, .mk 48 [] [txN m.type, txN m.value]]
  else if m.op = 80 then .mk 80 (intS m.target) []
  else .mk m.op [] ([nuN 10 m.code, txN m.matched, txN m.text] ++ if m.op = 120 then [.mk 138 m.name []] else [])
def pieceM (m : Msg) : Nd := .mk 48 [] [nuN 2 m.id, opN m]

/-! ### What a piece might say -/
def nd0 : Nd := .mk 0 [] []
def kidN (n : Nd) (i : Nat) : Nd := n.kids.getD i nd0
def valN (n : Nd) : Int := (numS n.body).1
def bodiesN (n : Nd) : List B := n.kids.map Nd.body
def atOf (n : Nd) : At := ⟨(kidN n 0).body, bodiesN (kidN n 1)⟩
def moOf (n : Nd) : Mo := ⟨valN (kidN n 0), atOf (kidN n 1)⟩
/-- The parts, one behind the other. -/
def partOf (x : B × List B × B) (n : Nd) : B × List B × B := if n.tag = 128 then (n.body, x.2.1, x.2.2) else if n.tag = 130 then (x.1, x.2.1, n.body) else (x.1, x.2.1 ++ [n.body], x.2.2)
def partsOf (l : List Nd) : B × List B × B := l.foldl partOf ([], [], [])
def filterOf : Nat → Nd → Fl
  | 0, _ => fl0
  | d + 1, n => if kidsK (n.tag % 32) then .mk (n.tag % 32) (n.kids.map (filterOf d)) [] [] [] [] []
    else if n.tag % 32 = 7 then .mk 7 [] n.body [] [] [] []
    else if n.tag % 32 = 4 then .mk 4 [] (kidN n 0).body [] (partsOf (kidN n 1).kids).1 (partsOf (kidN n 1).kids).2.1 (partsOf (kidN n 1).kids).2.2
    else .mk (n.tag % 32) [] (kidN n 0).body (kidN n 1).body [] [] []
def msgO (id : Int) (n : Nd) : Msg :=
  if n.tag = 96 then { msg0 id 96 with ver := valN (kidN n 0), name := (kidN n 1).body, pw := (kidN n 2).body }
  else if n.tag = 99 then { msg0 id 99 with name := (kidN n 0).body, scope := valN (kidN n 1), deref := valN (kidN n 2), size := valN (kidN n 3), time := valN (kidN n 4), typesOnly := decide ((kidN n 5).body = [255]), filter := filterOf 6 (kidN n 6), wants := bodiesN (kidN n 7) }
  else if n.tag = 102 then { msg0 id 102 with name := (kidN n 0).body, mods := (kidN n 1).kids.map moOf }
  else if n.tag = 104 ∨ n.tag = 100 then { msg0 id n.tag with name := (kidN n 0).body, list := (kidN n 1).kids.map atOf }
  else if n.tag = 74 then { msg0 id 74 with name := n.body }
  else if n.tag = 108 then { msg0 id 108 with name := (kidN n 0).body, rdn := (kidN n 1).body, dropOld := decide ((kidN n 2).body = [255]), moves := decide (3 < n.kids.length), sup := (kidN n 3).body }
  else if n.tag = 110 then { msg0 id 110 with name := (kidN n 0).body, type := (kidN (kidN n 1) 0).body, value := (kidN (kidN n 1) 1).body }
  else if n.tag = 80 then { msg0 id 80 with target := valN n }
  else if ansO n.tag then { msg0 id n.tag with code := valN (kidN n 0), matched := (kidN n 1).body, text := (kidN n 2).body, name := if n.tag = 120 then (kidN n 3).body else [] }
  else msg0 id n.tag
def msgOf (p : Nd) : Msg := msgO (valN (kidN p 0)) (kidN p 1)
/-- What Encode tells. -/
def encM (m : Msg) : B × Nat := if rightM m then (encS (pieceM m), errN (pieceM m)) else ([], 110)
/-! ### What was written is read -/
theorem val_nu {tag n : Int} (h : -2147483648 ≤ n ∧ n ≤ 2147483647) : valN (nuN tag n) = n := by
  unfold valN nuN
  show (numS (intS n)).1 = n
  rw [num_int ⟨by omega, by omega⟩, if_pos ⟨h.1, by omega⟩]
theorem bodies_txs (tag : Int) (l : List B) : bodiesN (txsN tag l) = l := by
  unfold bodiesN txsN
  show (l.map txN).map Nd.body = l
  rw [List.map_map]
  exact List.map_id l
theorem at_back (a : At) : atOf (atN a) = a := by
  unfold atOf
  have e : bodiesN (kidN (atN a) 1) = a.values := bodies_txs 49 a.values
  rw [e]
  rfl
theorem mo_back {x : Mo} (h : inI x.doing 0 2 = true) : moOf (moN x) = x := by
  unfold moOf
  simp only [inI, Bool.and_eq_true, decide_eq_true_eq] at h
  have e1 : valN (kidN (moN x) 0) = x.doing := val_nu (by omega)
  have e2 : atOf (kidN (moN x) 1) = x.attr := at_back x.attr
  rw [e1, e2]
theorem map_back {α β : Type} {f : α → β} {g : β → α} : ∀ (l : List α), (∀ x ∈ l, g (f x) = x) → (l.map f).map g = l
  | [], _ => rfl
  | x :: r, h => by
    rw [List.map_cons, List.map_cons, h x (by simp), map_back r fun y hy => h y (by simp [hy])]
theorem parts_any (x : B) (ys : List B) (z : B) (l : List B) : (l.map (fun a => Nd.mk 129 a [])).foldl partOf (x, ys, z) = (x, ys ++ l, z) := by
  induction l generalizing ys with
  | nil => simp
  | cons a r ih =>
    rw [List.map_cons, List.foldl_cons]
    show List.foldl partOf (x, ys ++ [a], z) _ = _
    rw [ih]
    simp
theorem parts_back (f : Fl) : partsOf (partsN f) = (f.first, f.any, f.last) := by
  unfold partsOf partsN
  rw [List.foldl_append, List.foldl_append]
  have h1 : (if f.first.isEmpty then [] else [Nd.mk 128 f.first []]).foldl partOf ([], [], []) = (f.first, [], []) := by
    cases hf : f.first with
    | nil => rfl
    | cons a r => rfl
  rw [h1, parts_any]
  cases hl : f.last with
  | nil => rfl
  | cons a r => rfl
theorem filter_back : ∀ (d : Nat) (f : Fl), rightF d f = true → filterOf d (pieceF d f) = f
  | 0, f, h => by cases h
  | d + 1, f, h => by
    obtain ⟨k, ks, t, v, fi, an, la⟩ := f
    simp only [rightF, Fl.kind, Fl.kids, Fl.type, Fl.value, Fl.first, Fl.any, Fl.last, Bool.and_eq_true, List.all_eq_true] at h
    obtain ⟨⟨⟨⟨⟨⟨h1, h2⟩, h3⟩, h4⟩, h5⟩, h6⟩, h7⟩ := h
    by_cases hk : kidsK k = true
    · simp only [hk, if_true, Bool.and_eq_true, List.isEmpty_iff] at h2
      obtain ⟨⟨rfl, -⟩, -⟩ := h2
      have hkk : k = 0 ∨ k = 1 ∨ k = 2 := by simpa [kidsK, or_assoc] using hk
      have hv : v = [] := by
        rcases hkk with rfl | rfl | rfl <;> simpa [valK] using h3
      have hr : fi = [] ∧ la = [] ∧ an = [] := by
        rcases hkk with rfl | rfl | rfl <;> simpa [and_assoc] using h4
      obtain ⟨rfl, rfl, rfl⟩ := hr
      subst hv
      have hm : (160 + k) % 32 = k := by omega
      show filterOf (d + 1) (if kidsK k then .mk (160 + k) [] (ks.map (pieceF d)) else _) = _
      rw [if_pos hk]
      show (if kidsK ((160 + k) % 32) = true then Fl.mk ((160 + k) % 32) ((ks.map (pieceF d)).map (filterOf d)) [] [] [] [] [] else _) = _
      have hkt : kidsK ((160 + k) % 32) = true := by rw [hm]; exact hk
      rw [if_pos hkt, hm, map_back ks fun x hx => filter_back d x (h7 x hx)]
    · have hkf : kidsK k = false := by simpa using hk
      have hks : ks = [] := by simpa [hkf] using h2
      subst hks
      by_cases h4k : k = 4
      · subst h4k
        have hv : v = [] := by simpa [valK] using h3
        subst hv
        show filterOf (d + 1) (.mk 164 [] [txN t, .mk 48 [] (partsN (.mk 4 [] t [] fi an la))]) = _
        have hp := parts_back (.mk 4 [] t [] fi an la)
        show Fl.mk 4 [] t [] (partsOf (partsN (.mk 4 [] t [] fi an la))).1 (partsOf (partsN (.mk 4 [] t [] fi an la))).2.1 (partsOf (partsN (.mk 4 [] t [] fi an la))).2.2 = _
        rw [hp]
        rfl
      · have hr : fi = [] ∧ la = [] ∧ an = [] := by simpa [h4k, and_assoc] using h4
        obtain ⟨rfl, rfl, rfl⟩ := hr
        by_cases h7k : k = 7
        · subst h7k
          have hv : v = [] := by simpa [valK] using h3
          subst hv
          rfl
        · have hvk : k = 3 ∨ k = 5 ∨ k = 6 := by
            simpa [hkf, h4k, h7k, valK, or_assoc] using h1
          rcases hvk with rfl | rfl | rfl <;> rfl

theorem all_back {l : List Mo} (h : l.all (fun x => inI x.doing 0 2) = true) : (l.map moN).map moOf = l := map_back l fun x hx => mo_back (by simpa using (List.all_eq_true.1 h) x hx)
theorem in_val {tag n a b : Int} (h : inI n a b = true) (ha : -2147483648 ≤ a) (hb : b ≤ 2147483647) : valN (nuN tag n) = n := by
  simp only [inI, Bool.and_eq_true, decide_eq_true_eq] at h
  exact val_nu (by omega)
theorem tr_back (b : Bool) : decide ((trN b).body = [255]) = b := by cases b <;> rfl
theorem fl_empty {f : Fl} (h : emptyF f = true) : f = fl0 := by
  obtain ⟨k, ks, t, v, fi, an, la⟩ := f
  simp only [emptyF, Fl.kind, Fl.kids, Fl.type, Fl.value, Fl.first, Fl.any, Fl.last, Bool.and_eq_true, decide_eq_true_eq, List.isEmpty_iff] at h
  obtain ⟨⟨⟨⟨⟨⟨h0, rfl⟩, rfl⟩, rfl⟩, rfl⟩, rfl⟩, rfl⟩ := h
  obtain rfl : k = 0 := of_decide_eq_true h0
  rfl
set_option maxHeartbeats 4000000 in
theorem msg_back (m : Msg) (h : rightM m = true) : msgOf (pieceM m) = m := by
  obtain ⟨id, op, ver, name, pw, scope, deref, size, time, typesOnly, filter, wants, list, mods, rdn, dropOld, moves, sup, type, value, target, code, matched, text⟩ := m
  simp only [rightM, Bool.and_eq_true] at h
  obtain ⟨⟨⟨⟨⟨⟨⟨⟨⟨⟨⟨⟨h1, h2⟩, h3⟩, h4⟩, h5⟩, h6⟩, h7⟩, h8⟩, h9⟩, h10⟩, h11⟩, h12⟩, h13⟩ := h
  have hid : valN (nuN 2 id) = id := in_val h2 (by decide) (by decide)
  have hop : op = 97 ∨ op = 101 ∨ op = 103 ∨ op = 105 ∨ op = 107 ∨ op = 109 ∨ op = 111 ∨ op = 120 ∨ op = 96 ∨ op = 66 ∨ op = 99 ∨ op = 102 ∨ op = 104 ∨ op = 100 ∨ op = 74 ∨ op = 108 ∨ op = 110 ∨ op = 80 := by
    simpa [namO, ansO, or_assoc] using h1
  have hst : ∀ x y : Msg, msgOf (pieceM x) = y ↔ msgO (valN (nuN 2 x.id)) (opN x) = y := fun _ _ => Iff.rfl
  rw [hst]
  show msgO (valN (nuN 2 id)) _ = _
  rw [hid]
  rcases hop with rfl | rfl | rfl | rfl | rfl | rfl | rfl | rfl | rfl | rfl | rfl | rfl | rfl | rfl | rfl | rfl | rfl | rfl
  all_goals simp [ansO, and_assoc] at h3 h4 h5 h6 h7 h9 h10 h11 h12 h13
  · have hc := in_val (tag := 10) h13 (by decide) (by decide)
    obtain ⟨rfl, rfl⟩ := h3
    obtain ⟨rfl, rfl, rfl, rfl, rfl, hf, rfl⟩ := h5
    obtain rfl := fl_empty hf
    obtain ⟨rfl, rfl, rfl⟩ := h9
    obtain ⟨rfl, rfl⟩ := h11
    subst h4 h6 h7 h12
    obtain rfl : sup = [] := by simpa using h10
    simp [opN, msgO, msg0, ansO, Nd.tag, Nd.kids, Nd.body, kidN, txN, hc]
  · have hc := in_val (tag := 10) h13 (by decide) (by decide)
    obtain ⟨rfl, rfl⟩ := h3
    obtain ⟨rfl, rfl, rfl, rfl, rfl, hf, rfl⟩ := h5
    obtain rfl := fl_empty hf
    obtain ⟨rfl, rfl, rfl⟩ := h9
    obtain ⟨rfl, rfl⟩ := h11
    subst h4 h6 h7 h12
    obtain rfl : sup = [] := by simpa using h10
    simp [opN, msgO, msg0, ansO, Nd.tag, Nd.kids, Nd.body, kidN, txN, hc]
  · have hc := in_val (tag := 10) h13 (by decide) (by decide)
    obtain ⟨rfl, rfl⟩ := h3
    obtain ⟨rfl, rfl, rfl, rfl, rfl, hf, rfl⟩ := h5
    obtain rfl := fl_empty hf
    obtain ⟨rfl, rfl, rfl⟩ := h9
    obtain ⟨rfl, rfl⟩ := h11
    subst h4 h6 h7 h12
    obtain rfl : sup = [] := by simpa using h10
    simp [opN, msgO, msg0, ansO, Nd.tag, Nd.kids, Nd.body, kidN, txN, hc]
  · have hc := in_val (tag := 10) h13 (by decide) (by decide)
    obtain ⟨rfl, rfl⟩ := h3
    obtain ⟨rfl, rfl, rfl, rfl, rfl, hf, rfl⟩ := h5
    obtain rfl := fl_empty hf
    obtain ⟨rfl, rfl, rfl⟩ := h9
    obtain ⟨rfl, rfl⟩ := h11
    subst h4 h6 h7 h12
    obtain rfl : sup = [] := by simpa using h10
    simp [opN, msgO, msg0, ansO, Nd.tag, Nd.kids, Nd.body, kidN, txN, hc]
  · have hc := in_val (tag := 10) h13 (by decide) (by decide)
    obtain ⟨rfl, rfl⟩ := h3
    obtain ⟨rfl, rfl, rfl, rfl, rfl, hf, rfl⟩ := h5
    obtain rfl := fl_empty hf
    obtain ⟨rfl, rfl, rfl⟩ := h9
    obtain ⟨rfl, rfl⟩ := h11
    subst h4 h6 h7 h12
    obtain rfl : sup = [] := by simpa using h10
    simp [opN, msgO, msg0, ansO, Nd.tag, Nd.kids, Nd.body, kidN, txN, hc]
  · have hc := in_val (tag := 10) h13 (by decide) (by decide)
    obtain ⟨rfl, rfl⟩ := h3
    obtain ⟨rfl, rfl, rfl, rfl, rfl, hf, rfl⟩ := h5
    obtain rfl := fl_empty hf
    obtain ⟨rfl, rfl, rfl⟩ := h9
    obtain ⟨rfl, rfl⟩ := h11
    subst h4 h6 h7 h12
    obtain rfl : sup = [] := by simpa using h10
    simp [opN, msgO, msg0, ansO, Nd.tag, Nd.kids, Nd.body, kidN, txN, hc]
  · have hc := in_val (tag := 10) h13 (by decide) (by decide)
    obtain ⟨rfl, rfl⟩ := h3
    obtain ⟨rfl, rfl, rfl, rfl, rfl, hf, rfl⟩ := h5
    obtain rfl := fl_empty hf
    obtain ⟨rfl, rfl, rfl⟩ := h9
    obtain ⟨rfl, rfl⟩ := h11
    subst h4 h6 h7 h12
    obtain rfl : sup = [] := by simpa using h10
    simp [opN, msgO, msg0, ansO, Nd.tag, Nd.kids, Nd.body, kidN, txN, hc]
  · have hc := in_val (tag := 10) h13 (by decide) (by decide)
    obtain ⟨rfl, rfl⟩ := h3
    obtain ⟨rfl, rfl, rfl, rfl, rfl, hf, rfl⟩ := h5
    obtain rfl := fl_empty hf
    obtain ⟨rfl, rfl, rfl⟩ := h9
    obtain ⟨rfl, rfl⟩ := h11
    subst h6 h7 h12
    obtain rfl : sup = [] := by simpa using h10
    simp [opN, msgO, msg0, ansO, Nd.tag, Nd.kids, Nd.body, kidN, txN, hc]
  · have hv := in_val (tag := 2) h3 (by decide) (by decide)
    obtain ⟨rfl, rfl, rfl, rfl, rfl, hf, rfl⟩ := h5
    obtain rfl := fl_empty hf
    obtain ⟨rfl, rfl, rfl⟩ := h9
    obtain ⟨rfl, rfl⟩ := h11
    obtain ⟨rfl, rfl, rfl⟩ := h13
    subst h6 h7 h12
    obtain rfl : sup = [] := by simpa using h10
    simp [opN, msgO, msg0, ansO, Nd.tag, Nd.kids, Nd.body, kidN, txN, hv]
  · obtain ⟨rfl, rfl⟩ := h3
    obtain ⟨rfl, rfl, rfl, rfl, rfl, hf, rfl⟩ := h5
    obtain rfl := fl_empty hf
    obtain ⟨rfl, rfl, rfl⟩ := h9
    obtain ⟨rfl, rfl⟩ := h11
    obtain ⟨rfl, rfl, rfl⟩ := h13
    subst h4 h6 h7 h12
    obtain rfl : sup = [] := by simpa using h10
    simp [opN, msgO, msg0, ansO, Nd.tag, Nd.kids, Nd.body, kidN, txN]
  · obtain ⟨hf, hs1, hs2, hs3, hs4⟩ := h5
    have e1 := in_val (tag := 10) hs1 (by decide) (by decide)
    have e2 := in_val (tag := 10) hs2 (by decide) (by decide)
    have e3 := in_val (tag := 2) hs3 (by decide) (by decide)
    have e4 := in_val (tag := 2) hs4 (by decide) (by decide)
    have e5 := filter_back 6 filter hf
    have e6 := bodies_txs 48 wants
    have e7 := tr_back typesOnly
    obtain ⟨rfl, rfl⟩ := h3
    obtain ⟨rfl, rfl, rfl⟩ := h9
    obtain ⟨rfl, rfl⟩ := h11
    obtain ⟨rfl, rfl, rfl⟩ := h13
    subst h6 h7 h12
    obtain rfl : sup = [] := by simpa using h10
    simp [opN, msgO, msg0, ansO, Nd.tag, Nd.kids, Nd.body, kidN, txN, e1, e2, e3, e4, e5, e6]
    exact e7
  · have e1 := all_back h8
    obtain ⟨rfl, rfl⟩ := h3
    obtain ⟨rfl, rfl, rfl, rfl, rfl, hf, rfl⟩ := h5
    obtain rfl := fl_empty hf
    obtain ⟨rfl, rfl, rfl⟩ := h9
    obtain ⟨rfl, rfl⟩ := h11
    obtain ⟨rfl, rfl, rfl⟩ := h13
    subst h6 h12
    obtain rfl : sup = [] := by simpa using h10
    simp [opN, msgO, msg0, ansO, Nd.tag, Nd.kids, Nd.body, kidN, txN, e1]
  · have e1 := map_back list fun x _ => at_back x
    obtain ⟨rfl, rfl⟩ := h3
    obtain ⟨rfl, rfl, rfl, rfl, rfl, hf, rfl⟩ := h5
    obtain rfl := fl_empty hf
    obtain ⟨rfl, rfl, rfl⟩ := h9
    obtain ⟨rfl, rfl⟩ := h11
    obtain ⟨rfl, rfl, rfl⟩ := h13
    subst h7 h12
    obtain rfl : sup = [] := by simpa using h10
    simp [opN, msgO, msg0, ansO, Nd.tag, Nd.kids, Nd.body, kidN, txN, e1]
  · have e1 := map_back list fun x _ => at_back x
    obtain ⟨rfl, rfl⟩ := h3
    obtain ⟨rfl, rfl, rfl, rfl, rfl, hf, rfl⟩ := h5
    obtain rfl := fl_empty hf
    obtain ⟨rfl, rfl, rfl⟩ := h9
    obtain ⟨rfl, rfl⟩ := h11
    obtain ⟨rfl, rfl, rfl⟩ := h13
    subst h7 h12
    obtain rfl : sup = [] := by simpa using h10
    simp [opN, msgO, msg0, ansO, Nd.tag, Nd.kids, Nd.body, kidN, txN, e1]
  · obtain ⟨rfl, rfl⟩ := h3
    obtain ⟨rfl, rfl, rfl, rfl, rfl, hf, rfl⟩ := h5
    obtain rfl := fl_empty hf
    obtain ⟨rfl, rfl, rfl⟩ := h9
    obtain ⟨rfl, rfl⟩ := h11
    obtain ⟨rfl, rfl, rfl⟩ := h13
    subst h6 h7 h12
    obtain rfl : sup = [] := by simpa using h10
    simp [opN, msgO, msg0, ansO, Nd.tag, Nd.kids, Nd.body, kidN, txN]
  · obtain ⟨rfl, rfl⟩ := h3
    obtain ⟨rfl, rfl, rfl, rfl, rfl, hf, rfl⟩ := h5
    obtain rfl := fl_empty hf
    obtain ⟨rfl, rfl⟩ := h11
    obtain ⟨rfl, rfl, rfl⟩ := h13
    subst h6 h7 h12
    have e7 := tr_back dropOld
    cases moves with
    | true => simp [opN, msgO, msg0, ansO, Nd.tag, Nd.kids, Nd.body, kidN, txN]; exact e7
    | false =>
      obtain rfl : sup = [] := by simpa using h10
      simp [opN, msgO, msg0, ansO, Nd.tag, Nd.kids, Nd.body, kidN, txN]
      exact ⟨e7, rfl⟩
  · obtain ⟨rfl, rfl⟩ := h3
    obtain ⟨rfl, rfl, rfl, rfl, rfl, hf, rfl⟩ := h5
    obtain rfl := fl_empty hf
    obtain ⟨rfl, rfl, rfl⟩ := h9
    obtain ⟨rfl, rfl, rfl⟩ := h13
    subst h6 h7 h12
    obtain rfl : sup = [] := by simpa using h10
    simp [opN, msgO, msg0, ansO, Nd.tag, Nd.kids, Nd.body, kidN, txN]
  · have e1 : valN (.mk 80 (intS target) []) = target := in_val (tag := 80) h12 (by decide) (by decide)
    obtain ⟨rfl, rfl⟩ := h3
    obtain ⟨rfl, rfl, rfl, rfl, rfl, hf, rfl⟩ := h5
    obtain rfl := fl_empty hf
    obtain ⟨rfl, rfl, rfl⟩ := h9
    obtain ⟨rfl, rfl⟩ := h11
    obtain ⟨rfl, rfl, rfl⟩ := h13
    subst h4 h6 h7
    obtain rfl : sup = [] := by simpa using h10
    simp [opN, msgO, msg0, ansO, Nd.tag, Nd.kids, Nd.body, kidN, txN, e1]

/-! ### Encode and Decode -/
end Go.Proofs.Ythjmkfpdbbfcpaa.ME

namespace Go.Proofs.Ythjmkfpdbbfcpaa.FR
set_option maxRecDepth 100000
open Go.RowKit K Go.Proofs.Ythjmkfpdbbfcpaa.BE

/-- Texts as cells. -/
def strs (L : List B) : List Value := L.map fun l => .string (sb l)
@[simp] theorem strs_length (L : List B) : (strs L).length = L.length := by simp [strs]
/-- The value is a slice of these texts; they lie in a block of E. -/
def TxIn (w : World) (E : Nat → Prop) (v : Value) (L : List B) : Prop :=
  ∃ a len cap, v = .slice a len cap ∧ L.length = len ∧ len ≤ cap ∧ (len = 0 ∨ ∃ g o, a = some ⟨g, o, none⟩ ∧ E g ∧ g < w.heap.size ∧ w.rangeAt g o (strs L))
theorem TxIn.mono {w : World} {E E' : Nat → Prop} {v : Value} {L : List B} (h : TxIn w E v L) (he : ∀ k, E k → E' k) : TxIn w E' v L := by
  obtain ⟨a, len, cap, h1, h2, h0, h3⟩ := h
  exact ⟨a, len, cap, h1, h2, h0, h3.imp id fun ⟨g, o, r1, r2, r3⟩ => ⟨g, o, r1, he g r2, r3⟩⟩
theorem TxIn.fr {w w' : World} {E D : Nat → Prop} {v : Value} {L : List B} (h : TxIn w E v L) (hf : Fr D w w') (hd : ∀ k, E k → k < w.heap.size → ¬ D k) : TxIn w' E v L := by
  obtain ⟨a, len, cap, h1, h2, h0, h3⟩ := h
  exact ⟨a, len, cap, h1, h2, h0, h3.imp id fun ⟨g, o, r1, r2, r3, r4⟩ => ⟨g, o, r1, r2, Nat.lt_of_lt_of_le r3 hf.size, hf.range r4 (hd g r2 r3)⟩⟩
theorem TxIn.no {w w' : World} {E : Nat → Prop} {v : Value} {L : List B} (h : TxIn w E v L) (hf : Fr No w w') : TxIn w' E v L := h.fr hf fun _ _ _ e => e
theorem tx_nil (w : World) (E : Nat → Prop) (a : Option Addr) (c : Nat) : TxIn w E (.slice a 0 c) [] := ⟨a, 0, c, rfl, rfl, Nat.zero_le _, .inl rfl⟩
theorem infoS3 : (Try.prog.info? 9).map (fun i => (i.zero, i.size, i.bytes)) = some (some (.string ⟨#[]⟩), 1, 16) := by kernel_rfl
theorem infoS : (Try.prog.info? 9).map (·.size) = some 1 := by kernel_rfl
theorem infoSs : (Try.prog.info? 23).map (·.size) = some 1 := by kernel_rfl
end Go.Proofs.Ythjmkfpdbbfcpaa.FR

namespace Go.Proofs.Ythjmkfpdbbfcpaa.ME
set_option maxRecDepth 100000
open Go.RowKit K Go.Proofs.Ythjmkfpdbbfcpaa.BE Go.Proofs.Ythjmkfpdbbfcpaa.FR

/-- A slice of elements of k cells each; they lie in a block of S. -/
def Sl {α : Type} (k : Nat) (p : α → List Value → Prop) (S : Nat → Prop) (w : World) (v : Value) (xs : List α) : Prop :=
  ∃ a cap, v = .slice a xs.length cap ∧ xs.length ≤ cap ∧ xs.length ≤ 140737488351232 ∧
    (xs = [] ∨ ∃ g o, ∃ L : List (List Value), a = some ⟨g, o, none⟩ ∧ S g ∧ g < w.heap.size ∧ w.rangeAt g o L.flatten ∧ L.length = xs.length ∧ (∀ c ∈ L, c.length = k) ∧ ∀ (j : Nat) (x : α) (c : List Value), xs[j]? = some x → L[j]? = some c → p x c)
theorem Sl.form {α : Type} {k : Nat} {p : α → List Value → Prop} {S : Nat → Prop} {w : World} {v : Value} {xs : List α} (h : Sl k p S w v xs) : ∃ a cap, v = .slice a xs.length cap ∧ xs.length ≤ cap ∧ xs.length ≤ 140737488351232 := by
  obtain ⟨a, cap, h1, h2, h3, -⟩ := h
  exact ⟨a, cap, h1, h2, h3⟩
theorem Sl.get {α : Type} {k : Nat} {p : α → List Value → Prop} {S : Nat → Prop} {w : World} {v : Value} {xs : List α} (h : Sl k p S w v xs) {j : Nat} {x : α} (hx : xs[j]? = some x) :
    ∃ g o cap c, v = .slice (some ⟨g, o, none⟩) xs.length cap ∧ S g ∧ g < w.heap.size ∧ w.rangeAt g (o + j * k) c ∧ c.length = k ∧ p x c := by
  obtain ⟨a, cap, h1, h2, h3, h4⟩ := h
  have hj := (List.getElem?_eq_some_iff.1 hx).1
  have hne : xs ≠ [] := fun e => by subst e; simp at hj
  obtain ⟨g, o, L, rfl, hS, hg, hr, hL, hc, hp⟩ := h4.resolve_left hne
  have hLj : L[j]? = some (L[j]'(by omega)) := List.getElem?_eq_getElem _
  have hfg := flat_get L j _ hc hLj
  have hck := hc _ (List.getElem_mem (by omega : j < L.length))
  refine ⟨g, o, cap, L[j]'(by omega), h1, hS, hg, ?_, hck, hp j x _ hx hLj⟩
  intro i u hi
  have hik : i < k := by rw [← hck]; exact (List.getElem?_eq_some_iff.1 hi).1
  rw [← hfg, List.getElem?_take, if_pos hik, List.getElem?_drop] at hi
  have := hr (j * k + i) u hi
  rwa [← Nat.add_assoc] at this
theorem Sl.fr {α : Type} {k : Nat} {p p' : α → List Value → Prop} {S D : Nat → Prop} {w w' : World} {v : Value} {xs : List α} (h : Sl k p S w v xs) (hf : Fr D w w') (hd : ∀ i, S i → i < w.heap.size → ¬ D i) (hp : ∀ x c, x ∈ xs → p x c → p' x c) : Sl k p' S w' v xs := by
  obtain ⟨a, cap, h1, h2, h3, h4⟩ := h
  refine ⟨a, cap, h1, h2, h3, h4.imp id ?_⟩
  rintro ⟨g, o, L, e, hS, hg, hr, hL, hc, hpp⟩
  exact ⟨g, o, L, e, hS, Nat.lt_of_lt_of_le hg hf.size, hf.range hr (hd g hS hg), hL, hc, fun j x c hx hcj => hp x c (List.mem_of_getElem? hx) (hpp j x c hx hcj)⟩
/-- A list of texts none of which is too long. -/
def Tx (S : Nat → Prop) (w : World) (v : Value) (xs : List B) : Prop := TxIn w S v xs ∧ xs.length ≤ 140737488351232 ∧ ∀ x ∈ xs, x.length ≤ 140737488351232
theorem Tx.fr {S D : Nat → Prop} {w w' : World} {v : Value} {xs : List B} (h : Tx S w v xs) (hf : Fr D w w') (hd : ∀ i, S i → i < w.heap.size → ¬ D i) : Tx S w' v xs := ⟨h.1.fr hf hd, h.2⟩
def I64 (n : Int) : Prop := -9223372036854775808 ≤ n ∧ n ≤ 9223372036854775807
def Sz (s : B) : Prop := s.length ≤ 140737488351232
theorem i64z : I64 0 := ⟨by decide, by decide⟩
def AtC (S : Nat → Prop) (w : World) (x : At) (cs : List Value) : Prop := ∃ v, cs = [.string (sb x.type), v] ∧ Sz x.type ∧ Tx S w v x.values
def MoC (S : Nat → Prop) (w : World) (x : Mo) (cs : List Value) : Prop := ∃ v, cs = [.int .i64 x.doing, .string (sb x.attr.type), v] ∧ I64 x.doing ∧ Sz x.attr.type ∧ Tx S w v x.attr.values
def FlC : Nat → (Nat → Prop) → World → Fl → List Value → Prop
  | 0, _, _, _, _ => False
  | M + 1, S, w, f, cs => ∃ vk va, cs = [.int .i64 f.kind, vk, .string (sb f.type), .string (sb f.value), .string (sb f.first), va, .string (sb f.last)] ∧
      I64 f.kind ∧ Sz f.type ∧ Sz f.value ∧ Sz f.first ∧ Sz f.last ∧ Tx S w va f.any ∧ Sl 7 (FlC M S w) S w vk f.kids
/-- A message's cells. -/
def mcs (m : Msg) (vk va vw vl vm : Value) : List Value :=
  [.int .i64 m.id, .int .i64 m.op, .int .i64 m.ver, .string (sb m.name), .string (sb m.pw), .int .i64 m.scope, .int .i64 m.deref, .int .i64 m.size, .int .i64 m.time, .bool m.typesOnly,
   .int .i64 m.filter.kind, vk, .string (sb m.filter.type), .string (sb m.filter.value), .string (sb m.filter.first), va, .string (sb m.filter.last),
   vw, vl, vm, .string (sb m.rdn), .bool m.dropOld, .bool m.moves, .string (sb m.sup), .string (sb m.type), .string (sb m.value), .int .i64 m.target, .int .i64 m.code, .string (sb m.matched), .string (sb m.text)]
structure MsgC (M : Nat) (S : Nat → Prop) (w : World) (m : Msg) (vk va vw vl vm : Value) : Prop where
  ints : I64 m.id ∧ I64 m.op ∧ I64 m.ver ∧ I64 m.scope ∧ I64 m.deref ∧ I64 m.size ∧ I64 m.time ∧ I64 m.target ∧ I64 m.code
  texts : Sz m.name ∧ Sz m.pw ∧ Sz m.rdn ∧ Sz m.sup ∧ Sz m.type ∧ Sz m.value ∧ Sz m.matched ∧ Sz m.text
  filter : FlC M S w m.filter [.int .i64 m.filter.kind, vk, .string (sb m.filter.type), .string (sb m.filter.value), .string (sb m.filter.first), va, .string (sb m.filter.last)]
  wants : Tx S w vw m.wants
  list : Sl 2 (AtC S w) S w vl m.list
  mods : Sl 3 (MoC S w) S w vm m.mods
theorem AtC.fr {S D : Nat → Prop} {w w' : World} {x : At} {cs : List Value} (h : AtC S w x cs) (hf : Fr D w w') (hd : ∀ i, S i → i < w.heap.size → ¬ D i) : AtC S w' x cs := by
  obtain ⟨v, h1, h2, h3⟩ := h
  exact ⟨v, h1, h2, h3.fr hf hd⟩
theorem MoC.fr {S D : Nat → Prop} {w w' : World} {x : Mo} {cs : List Value} (h : MoC S w x cs) (hf : Fr D w w') (hd : ∀ i, S i → i < w.heap.size → ¬ D i) : MoC S w' x cs := by
  obtain ⟨v, h1, h2, h3, h4⟩ := h
  exact ⟨v, h1, h2, h3, h4.fr hf hd⟩
theorem FlC.fr {S D : Nat → Prop} {w w' : World} (hf : Fr D w w') (hd : ∀ i, S i → i < w.heap.size → ¬ D i) : ∀ {M : Nat} {f : Fl} {cs : List Value}, FlC M S w f cs → FlC M S w' f cs
  | 0, _, _, h => h.elim
  | M + 1, f, cs, h => by
    obtain ⟨vk, va, h1, h2, h3, h4, h5, h6, h7, h8⟩ := h
    exact ⟨vk, va, h1, h2, h3, h4, h5, h6, h7.fr hf hd, h8.fr hf hd fun x c _ hx => FlC.fr hf hd hx⟩
theorem MsgC.fr {M : Nat} {S D : Nat → Prop} {w w' : World} {m : Msg} {vk va vw vl vm : Value} (h : MsgC M S w m vk va vw vl vm) (hf : Fr D w w') (hd : ∀ i, S i → i < w.heap.size → ¬ D i) : MsgC M S w' m vk va vw vl vm :=
  ⟨h.ints, h.texts, h.filter.fr hf hd, h.wants.fr hf hd, h.list.fr hf hd fun _ _ _ hx => hx.fr hf hd, h.mods.fr hf hd fun _ _ _ hx => hx.fr hf hd⟩
theorem MsgC.no {M : Nat} {S : Nat → Prop} {w w' : World} {m : Msg} {vk va vw vl vm : Value} (h : MsgC M S w m vk va vw vl vm) (hf : Fr No w w') : MsgC M S w' m vk va vw vl vm := h.fr hf fun _ _ _ e => e
theorem FlC.no {M : Nat} {S : Nat → Prop} {w w' : World} {f : Fl} {cs : List Value} (h : FlC M S w f cs) (hf : Fr No w w') : FlC M S w' f cs := h.fr hf fun _ _ _ e => e
theorem Tx.no {S : Nat → Prop} {w w' : World} {v : Value} {xs : List B} (h : Tx S w v xs) (hf : Fr No w w') : Tx S w' v xs := h.fr hf fun _ _ _ e => e
theorem AtC.no {S : Nat → Prop} {w w' : World} {x : At} {cs : List Value} (h : AtC S w x cs) (hf : Fr No w w') : AtC S w' x cs := h.fr hf fun _ _ _ e => e
theorem MoC.no {S : Nat → Prop} {w w' : World} {x : Mo} {cs : List Value} (h : MoC S w x cs) (hf : Fr No w w') : MoC S w' x cs := h.fr hf fun _ _ _ e => e
theorem Sl.noA {S : Nat → Prop} {w w' : World} {v : Value} {xs : List At} (h : Sl 2 (AtC S w) S w v xs) (hf : Fr No w w') : Sl 2 (AtC S w') S w' v xs := h.fr hf (fun _ _ _ e => e) fun _ _ _ hx => hx.no hf
theorem Sl.noM {S : Nat → Prop} {w w' : World} {v : Value} {xs : List Mo} (h : Sl 3 (MoC S w) S w v xs) (hf : Fr No w w') : Sl 3 (MoC S w') S w' v xs := h.fr hf (fun _ _ _ e => e) fun _ _ _ hx => hx.no hf
theorem Sl.noF {M : Nat} {S : Nat → Prop} {w w' : World} {v : Value} {xs : List Fl} (h : Sl 7 (FlC M S w) S w v xs) (hf : Fr No w w') : Sl 7 (FlC M S w') S w' v xs := h.fr hf (fun _ _ _ e => e) fun _ _ _ hx => hx.no hf
theorem Tx.form {S : Nat → Prop} {w : World} {v : Value} {xs : List B} (h : Tx S w v xs) : ∃ a cap, v = .slice a xs.length cap ∧ xs.length ≤ cap ∧ xs.length ≤ 140737488351232 := by
  obtain ⟨⟨a, len, cap, h1, h2, h3, -⟩, h4, -⟩ := h
  subst h2
  exact ⟨a, cap, h1, h3, h4⟩

theorem infoFl : (Try.prog.info? 25).map (·.size) = some 7 := by kernel_rfl
theorem infoAt : (Try.prog.info? 54).map (·.size) = some 2 := by kernel_rfl
theorem infoMo : (Try.prog.info? 56).map (·.size) = some 3 := by kernel_rfl
theorem infoMsg : (Try.prog.info? 29).map (·.size) = some 30 := by kernel_rfl
end Go.Proofs.Ythjmkfpdbbfcpaa.ME
