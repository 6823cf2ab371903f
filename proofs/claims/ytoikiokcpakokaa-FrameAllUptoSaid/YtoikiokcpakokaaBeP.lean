/-
  Package ber's failures: must, and caught, which hands a failure on as an error.
-/
import Derived.Test.YtoikiokcpakokaaBeO
import Derived.Test.YtoikiokcpakokaaChecked
import Derived.Test.YtoikiokcpakokaaCall
import Derived.Defers
import Derived.Recover
set_option linter.unusedVariables false
set_option linter.unusedSimpArgs false
namespace Go.Proofs.Ytoikiokcpakokaa.BE
set_option maxRecDepth 100000
open Go.RowKit K

/-- What the package panics with. -/
abbrev fl (e : Nat) : PanicEntry := { v := .iface 63 (.agg #[.int .i64 e]), recovered := false }
/-- It does what D says, or fails with an error. -/
def Musts (b : Bool) (e : Nat) (w : World) (en : Ending) (w' : World) : Prop := w' = w ∧ ((b = true ∧ en = .returned (.tuple #[])) ∨ (b = false ∧ en = .panicked [fl e]))
theorem must_any (b : Bool) (e : Nat) (w : World) : Calls Try.prog 36 #[.bool b, .int .i64 e] w (Musts b e w) := by
  cases b with
  | true =>
    go_enter Try.func36, Try.ntmps36
    go_wp2
    go_end0
    exact ⟨rfl, .inl ⟨rfl, rfl⟩⟩
  | false =>
    go_enter Try.func36, Try.ntmps36
    go_wp2
    exact ⟨rfl, rfl, .inr ⟨rfl, rfl⟩⟩
theorem zeroF : ∀ w, (zeroValue 63).run Try.prog w = .ok (.agg #[.int .i64 0]) w := fun _ => by kernel_rfl
theorem infoF : (Try.prog.info? 63).map (·.size) = some 1 := by kernel_rfl
theorem infoE : (Try.prog.info? 29).map (·.size) = some 1 := by kernel_rfl
theorem ta_fail (v : Value) (w : World) : (Instr.typeAssert (.iface 63 v) 20 63 true).run Try.prog w = .ok (.tuple #[v, .bool true]) w := by
  unfold Instr.typeAssert
  simp [run_underlying Try.underlying63]
set_option maxHeartbeats 400000 in
theorem catch_panicking (p : Nat) (e : Nat) (w : World) (hB : Blk w p 29 [.int .i64 0]) :
    CallsD Try.prog 32 #[.pointer (some ⟨p, 0, none⟩)] (.panicking [fl e]) w fun en u' w' =>
      en = .returned (.tuple #[]) ∧ u' = .panicking [{ fl e with recovered := true }] ∧ Blk w' p 29 [.int .i64 e] ∧ Fr (fun k => k = p) w w' := by
  have hlt := hB.lt
  have HB := hid hB; have HLT := hid hlt
  clear hB hlt
  refine callsD_of_wpS Try.func32 rfl fun c₀ cs hu => ?_
  apply wpS_seq
  apply wpS_region
  simp [wpOpsS, go_sem, recoverD, hu, Try.ntmps32, Exit.thenS]
  refine wpS_of_wp ?_
  change Code.wp _ _ _ { tmps := #[.pointer (some ⟨p, 0, none⟩), undef, undef, undef, .iface 63 (.agg #[.int .i64 e]), undef, undef, undef, undef, undef, undef, undef], defers := [] } w
  have hta := ta_fail (.agg #[.int .i64 e])
  go_wp2_with (first
    | ((with_reducible show wpList _ _ _ (⟨_, .alloc 63, _, _, _, _⟩ :: _) _ _); refine wpL_alloc rfl _ rfl _ zeroF [.int .i64 0] rfl ?_; intro w1 HB1 F1 HS1)
    | ((with_reducible show wpList _ _ _ (⟨_, .store 63 _ _, _, _, _, _⟩ :: _) _ _); refine wpL_storeV rfl _ _ _ rfl w.heap.size 0 (.agg #[.int .i64 e]) [.int .i64 e] rfl rfl rfl _ _ HB1.out (by simp) infoF (by intro u hu; simp at hu; rcases hu with rfl; rfl) ?_; intro w2 HB2 F2 HS2; have c0 : w2.cell? ⟨w.heap.size, 0, none⟩ = some (.int .i64 e) := HB2.out.cell 0; have HP2 : Hid (Blk w2 p 29 [.int .i64 0]) := hid ((HB.out.fr F1.out id).fr F2.out (fun h => by have := HLT.out; omega)))
    | ((with_reducible show wpList _ _ _ (⟨_, .store 29 _ _, _, _, _, _⟩ :: _) _ _); refine wpL_setV rfl _ _ _ rfl p 0 (.int .i64 e) rfl rfl rfl rfl _ _ HP2.out (by simp) infoE ?_; intro w3 HB3 F3 HS3))
  have f3 : Fr (fun k => k = p) w w3 := ((F1.out.no (D := fun k => k = p)).trans F2.out (fun i e => .inr (by have e : i = w.heap.size := e; omega))).trans' F3.out
  exact ⟨rfl, _, rfl, _, by simp [results, Try.results32], rfl, rfl, HB3.out, f3⟩
theorem catch_idle (p : Addr) (w : World) :
    CallsD Try.prog 32 #[.pointer (some p)] .returning w fun e u' w' => e = .returned (.tuple #[]) ∧ u' = .returning ∧ w' = w := by
  refine callsD_of_wpS Try.func32 rfl fun c₀ cs hu => ?_
  apply wpS_seq
  apply wpS_region
  simp [wpOpsS, go_sem, recoverD, hu, Try.ntmps32, Exit.thenS]
  refine wpS_of_wp ?_
  go_wp2_with fail
  cases c₀
  simp_all [bodyPostS, results, Try.results32]
theorem zeroE : ∀ w, (zeroValue 29).run Try.prog w = .ok (.int .i64 0) w := fun _ => by kernel_rfl
/-- What caught leaves: the error, or none; what was done began in w1 and ended in w2. -/
def Caught (P : Option Nat → World → World → Prop) (w : World) (e : Ending) (w' : World) : Prop :=
  ∃ o w1 w2, e = .returned (.int .i64 ((o.getD 0 : Nat) : Int)) ∧ Fr No w w1 ∧ w1.heap.size = w.heap.size + 1 ∧ P o w1 w2 ∧ Fr (fun k => k = w.heap.size) w2 w'
set_option maxHeartbeats 1000000 in
theorem caught_any (f : FuncId) (cap : List Value) (P : Option Nat → World → World → Prop) (D : Nat → Prop) (w : World) (hD : ¬ D w.heap.size) (hent : ∀ (vs : Array Value) (w : World), (callFunc f vs).run Try.prog w = .ok (.enter f vs) w)
    (hP : ∀ o w1 w2, P o w1 w2 → Fr D w1 w2)
    (hf : ∀ w1, Fr No w w1 → w1.heap.size = w.heap.size + 1 → Calls Try.prog f cap.toArray w1 fun e w2 => (e = .returned (.tuple #[]) ∧ P none w1 w2) ∨ ∃ c, e = .panicked [fl c] ∧ P (some c) w1 w2) :
    Calls Try.prog 24 #[.func (.func f) #[] cap.toArray] w (Caught P w) := by
  have hmf : ∀ (fn : Fn) (first cap : Array Value) (w : World), (Instr.makeFunc fn first cap).run Try.prog w = .ok (.func fn first cap) w := fun _ _ _ _ => rfl
  have HD := hid hD; have HE := hid hent; have HP := hid hP; have HF := hid hf
  clear hD hent hP hf
  go_enter_defers Try.func24, Try.ntmps24
  go_wp2_with (first
    | ((with_reducible show wpList _ _ _ (⟨_, .alloc 29, _, _, _, _⟩ :: _) _ _); refine wpL_alloc rfl _ rfl _ zeroE [.int .i64 0] rfl ?_; intro w1 HB1 F1 HS1)
    | ((with_reducible show wpList _ _ _ (⟨_, .call { callee := .value _, args := _, argTypes := _ }, _, _, _, _⟩ :: _) _ _); refine wpL_callP rfl _ [] _ rfl f cap rfl HE.out cap rfl ?_))
  refine (HF.out w1 F1.out HS1.out).mono ?_
  rintro e w2 (⟨rfl, hp⟩ | ⟨c, rfl, hp⟩)
  · have HP2 := hid hp
    have HB2 := hid (HB1.out.fr (HP.out _ _ _ hp) HD.out)
    refine .inl ⟨_, rfl, ?_⟩
    clear hp
    go_wp2_with (first
      | ((with_reducible show wpList _ _ _ (⟨_, .store 29 _ _, _, _, _, _⟩ :: _) _ _); refine wpL_setV rfl _ _ _ rfl w.heap.size 0 (.int .i64 0) rfl rfl rfl rfl _ _ HB2.out (by simp) infoE ?_; intro w3 HB3 F3 HS3))
    have c3 : w3.cell? ⟨w.heap.size, 0, none⟩ = some (.int .i64 0) := HB3.out.cell 0
    refine leaves_cons (f := 32) (args := #[.pointer (some ⟨w.heap.size, 0, none⟩)]) (by simp) (by simp [go_sem]) ?_
    refine (catch_idle _ _).mono ?_
    rintro e u' w'' ⟨rfl, rfl, rfl⟩
    refine ⟨.int .i64 0, ?_, none, w1, w2, rfl, F1.out, HS1.out, HP2.out, F3.out⟩
    simp [results, Try.results24, go_sem, c3]
  · have HP2 := hid hp
    have hB2 := HB1.out.fr (HP.out _ _ _ hp) HD.out
    refine .inr ⟨_, rfl, ?_⟩
    refine leaves_cons (f := 32) (args := #[.pointer (some ⟨w.heap.size, 0, none⟩)]) (by simp) (by simp [go_sem]) ?_
    refine (catch_panicking w.heap.size c w2 hB2).mono ?_
    rintro e u' w3 ⟨rfl, rfl, hB3, hf3⟩
    have c3 : w3.cell? ⟨w.heap.size, 0, none⟩ = some (.int .i64 c) := hB3.cell 0
    refine ⟨.int .i64 c, ?_, some c, w1, w2, rfl, F1.out, HS1.out, HP2.out, hf3⟩
    simp [results, Try.results24, go_sem, c3]
end Go.Proofs.Ytoikiokcpakokaa.BE
