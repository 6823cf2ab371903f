/-
  Digests are compared.
-/
import Derived.Test.YtejbanlhgnlliaaDoorShaW
import Derived.DeepKeys
import Derived.Laws.StructEq
namespace Go.Proofs.YtejbanlhgnlliaaDoor.SH
set_option maxRecDepth 100000
open Go.RowKit K AR

def eqB (f g : Nat → Nat) (n : Nat) : Bool := (List.range n).all fun i => f i == g i
theorem eqB_iff {f g : Nat → Nat} {n : Nat} : eqB f g n = true ↔ ∀ i, i < n → f i = g i := by
  simp [eqB]
theorem eqB_self (f : Nat → Nat) (n : Nat) : eqB f f n = true := eqB_iff.2 fun _ _ => rfl
section
variable {P : Program} {w : World}
theorem run_items {e : TypeId} {k : IntKind} (hu : P.underlying e = some (.int k)) (d : Nat) (f g : Nat → Nat) (n : Nat) : ∀ is : List Nat, (∀ i ∈ is, i < n) →
    (Op.eqItems (d + 1) e 1 (bw .u8 f n).toArray (bw .u8 g n).toArray is).run P w = .ok (is.all fun i => f i == g i) w
  | [], _ => by simp [Op.eqItems]
  | i :: is, h => by
    have hi := h i (by simp)
    have hp : ∀ q : Nat → Nat, (part e (bw .u8 q n).toArray (i * 1)).run P w = .ok (.int .u8 (q i : Int)) w := fun q => by
      have : (bw .u8 q n).toArray[i]? = some (.int .u8 (q i : Int)) := by simpa using bw_get q hi
      simp [part, isAgg, run_underlying hu, this]
    have he := run_equalIn_int w d e .u8 k (f i : Int) (g i : Int) hu
    have ih := run_items hu d f g n is (fun j hj => h j (by simp [hj]))
    simp only [Op.eqItems, Sem.run_bind, hp, he, Result.andThen_ok, List.all_cons]
    have hb : (((f i : Nat) : Int) == ((g i : Nat) : Int)) = (f i == g i) := by
      by_cases hh : f i = g i
      · simp [hh]
      · have : ¬ ((f i : Nat) : Int) = ((g i : Nat) : Int) := by omega
        rw [beq_eq_false_iff_ne.2 this, beq_eq_false_iff_ne.2 hh]
    rw [hb]
    cases hfg : (f i == g i)
    · rfl
    · exact ih
theorem run_eq_row {t e : TypeId} {k : IntKind} {n : Nat} {i : TypeInfo} (hu : P.underlying t = some (.array n e)) (he : P.underlying e = some (.int k)) (hi : P.info? e = some i) (hc : P.cellsOf e = 1) (d : Nat) (f g : Nat → Nat) :
    (Op.equalIn (d + 2) t (ba .u8 f n) (ba .u8 g n)).run P w = .ok (eqB f g n) w := by
  unfold ba
  rw [show d + 2 = (d + 1) + 1 from rfl, run_equalIn_array w (d + 1) _ _ hu hi, hc, run_items he d f g n (List.range n) (fun i hi => List.mem_range.1 hi)]
  rfl
end
theorem i1 : ∃ i, Tryd.prog.info? 5 = some i := by
  cases h : Tryd.prog.info? 5 with
  | none => have := infoU8; rw [h] at this; cases this
  | some i => exact ⟨i, rfl⟩
theorem c1 : Tryd.prog.cellsOf 5 = 1 := by kernel_rfl
theorem run_eq32 (f : Nat → Nat) (w : World) : (binOp .eql 24 (ba .u8 f 32) (ba .u8 f 32)).run Tryd.prog w = .ok (.bool true) w := by
  obtain ⟨i, hi⟩ := i1
  have h := run_eq_row (P := Tryd.prog) (w := w) (t := 24) (e := 5) Tryd.underlying24 Tryd.underlying5 hi c1 9998 f f
  unfold ba at h ⊢
  rw [run_eql_struct, h, eqB_self]
  rfl
theorem run_neq32 (f : Nat → Nat) (w : World) : (binOp .neq 24 (ba .u8 f 32) (ba .u8 f 32)).run Tryd.prog w = .ok (.bool false) w := by
  obtain ⟨i, hi⟩ := i1
  have h := run_eq_row (P := Tryd.prog) (w := w) (t := 24) (e := 5) Tryd.underlying24 Tryd.underlying5 hi c1 9998 f f
  unfold ba at h ⊢
  rw [run_neq_struct, h, eqB_self]
  rfl
theorem exec_eq32 {op : Oper} {a : Act} (x y : Operand) (t2 : TypeId) (ho : op.op = .binOp .eql 24 x y t2) (f : Nat → Nat) (hx : a.eval x = ba .u8 f 32) (hy : a.eval y = ba .u8 f 32) (w : World) : (execOp a.eval op).run Tryd.prog w = .ok (.value (.bool true)) w := by
  have h := run_eq32 f w
  have hg : (eqGuard .eql 24 x y (ba .u8 f 32) (ba .u8 f 32)).run Tryd.prog w = .ok () w := by kernel_rfl
  unfold execOp
  simp only [ho, hx, hy, Sem.run_bind, hg, h, Result.andThen_ok, Sem.run_pure]
theorem exec_neq32 {op : Oper} {a : Act} (x y : Operand) (t2 : TypeId) (ho : op.op = .binOp .neq 24 x y t2) (f : Nat → Nat) (hx : a.eval x = ba .u8 f 32) (hy : a.eval y = ba .u8 f 32) (w : World) : (execOp a.eval op).run Tryd.prog w = .ok (.value (.bool false)) w := by
  have h := run_neq32 f w
  have hg : (eqGuard .neq 24 x y (ba .u8 f 32) (ba .u8 f 32)).run Tryd.prog w = .ok () w := by kernel_rfl
  unfold execOp
  simp only [ho, hx, hy, Sem.run_bind, hg, h, Result.andThen_ok, Sem.run_pure]
theorem blk_whole {w : World} {b : Nat} {t : TypeId} {f : Nat → Nat} {n : Nat} (h : Blk w b t (bw .u8 f n)) : w.rangeAt b 0 (bw .u8 f n) := h.range 0 _ (by rw [List.drop_zero, List.take_length])
end Go.Proofs.YtejbanlhgnlliaaDoor.SH
