/-
  Arrays of bytes are compared; the law's 'rising' and 'awake'.
-/
import Derived.Test.YtgbcddhgeepjgaaAesZ
import Derived.Test.YtgbcddhgeepjgaaAesQ
import Derived.DeepKeys
import Derived.Laws.StructEq
namespace Go.Proofs.Ytgbcddhgeepjgaa.AE
set_option maxRecDepth 100000
open Go.RowKit K

def eqB (f g : Nat → Nat) (n : Nat) : Bool := (List.range n).all fun i => f i == g i
theorem eqB_iff {f g : Nat → Nat} {n : Nat} : eqB f g n = true ↔ ∀ i, i < n → f i = g i := by
  simp [eqB]
theorem eqB_E {f g : Nat → Nat} : eqB f g 16 = true ↔ E f g := eqB_iff
theorem eqB_self (f : Nat → Nat) (n : Nat) : eqB f f n = true := eqB_iff.2 fun _ _ => rfl
section
variable {P : Program} {w : World}
theorem run_items {e : TypeId} {k : IntKind} (hu : P.underlying e = some (.int k)) (d : Nat) (f g : Nat → Nat) (n : Nat) : ∀ is : List Nat, (∀ i ∈ is, i < n) →
    (Op.eqItems (d + 1) e 1 (b8 f n).toArray (b8 g n).toArray is).run P w = .ok (is.all fun i => f i == g i) w
  | [], _ => by simp [Op.eqItems]
  | i :: is, h => by
    have hi := h i (by simp)
    have hp : ∀ q : Nat → Nat, (part e (b8 q n).toArray (i * 1)).run P w = .ok (.int .u8 (q i : Int)) w := fun q => by
      have : (b8 q n).toArray[i]? = some (.int .u8 (q i : Int)) := by simpa using b8_get q hi
      simp [part, isAgg, run_underlying hu, this]
    have he := run_equalIn_int w d e .u8 k (f i : Int) (g i : Int) hu
    have ih := run_items hu d f g n is (fun j hj => h j (by simp [hj]))
    simp only [Op.eqItems, Sem.run_bind, hp, he, Result.andThen_ok, List.all_cons]
    have hb : (((f i : Nat) : Int) == ((g i : Nat) : Int)) = (f i == g i) := by
      by_cases hh : f i = g i
      · simp [hh]
      · have : ¬ ((f i : Nat) : Int) = ((g i : Nat) : Int) := by omega
        rw [beq_eq_false_iff_ne.2 this, beq_eq_false_iff_ne.2 hh]
    rw [hb]
    cases hfg : (f i == g i)
    · rfl
    · exact ih
theorem run_eq_row {t e : TypeId} {k : IntKind} {n : Nat} {i : TypeInfo} (hu : P.underlying t = some (.array n e)) (he : P.underlying e = some (.int k)) (hi : P.info? e = some i) (hc : P.cellsOf e = 1) (d : Nat) (f g : Nat → Nat) :
    (Op.equalIn (d + 2) t (bk f n) (bk g n)).run P w = .ok (eqB f g n) w := by
  unfold bk
  rw [show d + 2 = (d + 1) + 1 from rfl, run_equalIn_array w (d + 1) _ _ hu hi, hc, run_items he d f g n (List.range n) (fun i hi => List.mem_range.1 hi)]
  rfl
theorem run_rows {t e : TypeId} {k : IntKind} {m : Nat} {i : TypeInfo} (hu : P.underlying t = some (.array m e)) (hz : (P.info? t).map (·.size) = some m) (he : P.underlying e = some (.int k)) (hi : P.info? e = some i) (hc : P.cellsOf e = 1) (d : Nat) (f g : Nat → Nat) (n : Nat) : ∀ is : List Nat, (∀ i ∈ is, i * m + m ≤ n) →
    (Op.eqItems (d + 2) t m (b8 f n).toArray (b8 g n).toArray is).run P w = .ok (is.all fun i => eqB (fun j => f (i * m + j)) (fun j => g (i * m + j)) m) w
  | [], _ => by simp [Op.eqItems]
  | i' :: is, h => by
    have hi' := h i' (by simp)
    have hp : ∀ q : Nat → Nat, (part t (b8 q n).toArray (i' * m)).run P w = .ok (bk (fun j => q (i' * m + j)) m) w := fun q => by
      cases hq : P.info? t with
      | none => simp [hq] at hz
      | some ti =>
        have hs : ti.size = m := by simpa [hq] using hz
        simp [part, isAgg, run_underlying hu, sizeOf, typeInfo, hq, hs, bk]
        rw [b8_part q hi']
    have he' := run_eq_row (w := w) hu he hi hc d (fun j => f (i' * m + j)) (fun j => g (i' * m + j))
    have ih := run_rows hu hz he hi hc d f g n is (fun j hj => h j (by simp [hj]))
    simp only [Op.eqItems, Sem.run_bind, hp, he', Result.andThen_ok, List.all_cons]
    cases hfg : eqB (fun j => f (i' * m + j)) (fun j => g (i' * m + j)) m
    · rfl
    · exact ih
end
theorem i1 : ∃ i, Try.prog.info? 5 = some i := by
  cases h : Try.prog.info? 5 with
  | none => have := info1; rw [h] at this; cases this
  | some i => exact ⟨i, rfl⟩
theorem c1 : Try.prog.cellsOf 5 = 1 := by kernel_rfl
theorem c16 : Try.prog.cellsOf 27 = 16 := by kernel_rfl
theorem i16 : ∃ i, Try.prog.info? 27 = some i := by
  cases h : Try.prog.info? 27 with
  | none => have := info16; rw [h] at this; cases this
  | some i => exact ⟨i, rfl⟩
theorem run_eq16 (f g : Nat → Nat) (w : World) : (binOp .eql 27 (bk f 16) (bk g 16)).run Try.prog w = .ok (.bool (eqB f g 16)) w := by
  obtain ⟨i, hi⟩ := i1
  have h := run_eq_row (P := Try.prog) (w := w) (t := 27) (e := 5) Try.underlying27 Try.underlying5 hi c1 9998 f g
  unfold bk at h ⊢
  rw [run_eql_struct, h]
  rfl
theorem eqB_rows (f g : Nat → Nat) (n : Nat) : ((List.range n).all fun i => eqB (fun j => f (i * 16 + j)) (fun j => g (i * 16 + j)) 16) = eqB f g (n * 16) := by
  rw [Bool.eq_iff_iff, eqB_iff, List.all_eq_true]
  constructor
  · intro h i hi
    have := eqB_iff.1 (h (i / 16) (List.mem_range.2 (by omega))) (i % 16) (Nat.mod_lt _ (by decide))
    rwa [show i / 16 * 16 + i % 16 = i by omega] at this
  · intro h i hi
    exact eqB_iff.2 fun j hj => h _ (by have := List.mem_range.1 hi; omega)
theorem run_eq176 (f g : Nat → Nat) (w : World) : (binOp .eql 28 (bk f 176) (bk g 176)).run Try.prog w = .ok (.bool (eqB f g 176)) w := by
  obtain ⟨i, hi⟩ := i1
  obtain ⟨i', hi'⟩ := i16
  have h := run_rows (P := Try.prog) (w := w) (t := 27) (e := 5) Try.underlying27 info16 Try.underlying5 hi c1 9997 f g 176 (List.range 11) (fun j hj => by have := List.mem_range.1 hj; omega)
  unfold bk at ⊢
  rw [run_eql_struct, show (10000 : Nat) = 9999 + 1 from rfl, run_equalIn_array w 9999 _ _ Try.underlying28 hi', c16, h, eqB_rows f g 11]
  rfl
/-- '==' of blocks, as an operation. -/
theorem exec_eq16 {op : Oper} {a : Act} (x y : Operand) (t2 : TypeId) (ho : op.op = .binOp .eql 27 x y t2) (f g : Nat → Nat) (r : Bool) (hr : eqB f g 16 = r) (hx : a.eval x = bk f 16) (hy : a.eval y = bk g 16) (w : World) : (execOp a.eval op).run Try.prog w = .ok (.value (.bool r)) w := by
  have h := run_eq16 f g w
  have hg : (eqGuard .eql 27 x y (bk f 16) (bk g 16)).run Try.prog w = .ok () w := by kernel_rfl
  unfold execOp
  simp only [ho, hx, hy, Sem.run_bind, hg, h, Result.andThen_ok, hr, Sem.run_pure]
theorem exec_eq176 {op : Oper} {a : Act} (x y : Operand) (t2 : TypeId) (ho : op.op = .binOp .eql 28 x y t2) (f g : Nat → Nat) (r : Bool) (hr : eqB f g 176 = r) (hx : a.eval x = bk f 176) (hy : a.eval y = bk g 176) (w : World) : (execOp a.eval op).run Try.prog w = .ok (.value (.bool r)) w := by
  have h := run_eq176 f g w
  have hg : (eqGuard .eql 28 x y (bk f 176) (bk g 176)).run Try.prog w = .ok () w := by kernel_rfl
  unfold execOp
  simp only [ho, hx, hy, Sem.run_bind, hg, h, Result.andThen_ok, hr, Sem.run_pure]
/-- A row of bytes is read, as an operation. -/
theorem exec_row {P : Program} {op : Oper} {a : Act} {w : World} (ty : TypeId) (x : Operand) (ho : op.op = .load ty x) (b : Nat) (hx : a.eval x = .pointer (some ⟨b, 0, none⟩)) (t : TypeId) (f : Nat → Nat) (n : Nat) (d : TypeDesc)
    (hB : Blk w b t (b8 f n)) (hu : P.underlying ty = some d) (hd : d.isRow = true) (hi : (P.info? ty).map (·.size) = some n) : (execOp a.eval op).run P w = .ok (.value (bk f n)) w :=
  exec_load ty x ho b 0 hx (b8 f n) d hu hd (by simpa using hi) w (hB.range 0 _ (by rw [b8_length, List.drop_zero, List.take_of_length_le (by simp)]))
/-- An operation that is wanted and has a value. -/
theorem wpL_val {P : Program} {ops : Array Oper} {rest : List Oper} {op : Oper} {a : Act} {w : World} {Q : Exit → Act → World → Prop} (hw : Region.wanted op (yielded ops a.tmps) = true) (v : Value) (hrun : (execOp a.eval op).run P w = .ok (.value v) w)
    (h : wpList P ops Q rest (a.put op.dst v) w) : wpList P ops Q (op :: rest) a w :=
  wpList_step fun K hK => by
    simp only [hw, if_true]
    unfold Oper.wp
    rw [hrun]
    exact hK _ _ h

theorem rising_any (s : Nat) (w : World) (hs : s < 256) : Calls Try.prog 25 #[.int .u8 (s : Int)] w fun e w' =>
    e = .returned (bk (ris s) 16) ∧ Fr No w w' := by
  have HS := hid hs; clear hs
  go_enter Try.func25, Try.ntmps25
  go_wp2_with (first
    | ((with_reducible show wpList _ _ _ ({ dst := _, op := .alloc 27, type := _, pos := _, after := _, guard := _ } :: _) _ _); have := HB1; refine wpL_alloc rfl _ rfl _ zero16 (b8 (fun _ => 0) 16) rfl ?_; intro w2 HB2 HF2 HS2)
    | ((with_reducible show wpList _ _ _ ({ dst := _, op := .alloc 27, type := _, pos := _, after := _, guard := _ } :: _) _ _); refine wpL_alloc rfl _ rfl _ zero16 (b8 (fun _ => 0) 16) rfl ?_; intro w1 HB1 HF1 HS1))
  have hB1 := HB1.out.fr HF2.out id
  have hB2 := HB2.out
  have hf3 := HF1.out.trans' HF2.out
  obtain ⟨b1, hb1⟩ : ∃ b, w.heap.size = b := ⟨_, rfl⟩
  obtain ⟨b2, hb2⟩ : ∃ b, w1.heap.size = b := ⟨_, rfl⟩
  have hs1 := HS1.out
  rw [hb1, hb2] at hs1
  rw [hb1] at hB1; rw [hb2] at hB2
  rw [hb1, hb2]
  have HW := hid (show w.heap.size ≤ b1 ∧ w.heap.size ≤ b2 by omega); have HN := hid (show b1 ≠ b2 by omega)
  have HR := hid (show Blk w2 b1 27 (b8 (fun _ => 0) 16) ∧ Blk w2 b2 27 (b8 (upto 0 (ris s) fun _ => 0) 16) ∧ Fr No w w2 by rw [upto_zero]; exact ⟨hB1, hB2, hf3⟩)
  clear HB1 HB2 HF1 HF2 HS1 HS2 this hB1 hB2 hf3 hb1 hb2 hs1
  go_loopw [4] (fun i wr => ∃ n : Nat, n ≤ 16 ∧ i = .int .i64 n ∧ Hid (Blk wr b1 27 (b8 (fun _ => 0) 16) ∧ Blk wr b2 27 (b8 (upto n (ris s) fun _ => 0) 16) ∧ Fr No w wr)) (fun i _ => 16 - (intOf i).toNat)
  case atStart => exact ⟨0, by omega, rfl, HR⟩
  case round =>
    clear HR
    obtain ⟨n, hn, rfl, HR⟩ := hrel
    by_cases hlt : n < 16
    · have hv : ((s : Int) * (n : Int) % 256) = ((ris s n : Nat) : Int) := by show _ = ((s * n % 256 : Nat) : Int); simp
      have hv2 : ((s : Int) * ((n : Int) % 256) % 256) = ((ris s n : Nat) : Int) := by rw [show (n : Int) % 256 = n by omega]; exact hv
      have HV := hid hv; have HV2 := hid hv2
      clear hv hv2
      go_wp2_with (first
        | ((with_reducible show wpList _ _ _ ({ dst := _, op := .store 5 _ _, type := _, pos := _, after := _, guard := _ } :: _) _ _); refine wpL_put rfl _ _ _ rfl b2 n (ris s n) rfl (by first | exact congrArg (Value.int .u8) HV.out | exact congrArg (Value.int .u8) HV2.out) _ _ 16 HR.out.2.1 hlt info1 ?_; intro w5 HB5 HF5 HS5)
        | fail)
      have HR' := hid (show Blk w5 b1 27 (b8 (fun _ => 0) 16) ∧ Blk w5 b2 27 (b8 (upto (n + 1) (ris s) fun _ => 0) 16) ∧ Fr No w w5 by
        rw [← upto_set]
        exact ⟨HR.out.1.fr HF5.out HN.out, HB5.out, HR.out.2.2.trans HF5.out fun i e => .inr (by have := HW.out; have : i = b2 := e; omega)⟩)
      clear HR HB5 HF5 HS5
      go_wp2_with fail
      go_roundw
      case rel => exact ⟨n + 1, by omega, by go_num, HR'⟩
      case measure => simp [intOf]; omega
    · obtain rfl : n = 16 := by omega
      go_wp2_with (first
        | ((with_reducible show wpList _ _ _ ({ dst := _, op := .load 27 _, type := _, pos := _, after := _, guard := _ } :: _) _ _); refine wpL_all rfl _ _ rfl b2 rfl _ (upto 16 (ris s) fun _ => 0) 16 _ HR.out.2.1 rfl rfl info16 ?_)
        | ((with_reducible show wpList _ _ _ ({ dst := _, op := .store 27 _ _, type := _, pos := _, after := _, guard := _ } :: _) _ _); refine wpL_whole rfl _ _ _ rfl b1 (upto 16 (ris s) fun _ => 0) 16 rfl rfl _ _ HR.out.1 info16 ?_; intro w5 HB5 HF5 HS5)
        | fail)
      have hB5 := HB5.out
      rw [upto_all] at hB5
      refine ret_cell rfl _ rfl hB5 rfl rfl (by simpa using info16) rfl ?_
      exact ⟨rfl, HR.out.2.2.trans HF5.out fun i e => .inr (by have := HW.out; have : i = b1 := e; omega)⟩
end Go.Proofs.Ytgbcddhgeepjgaa.AE
