/-
  Part 3 of the proof: ShaR, ThaG, ThaU.
-/
import Derived.RangeFuncNested
import Derived.RangeFuncBound
import Derived.RangeFuncCalls
import Derived.RangeFuncLeaves
import Derived.RangeFuncWrites
import Derived.TacticsInMore
import Derived.OwnWalkIn
import Derived.LoopNIn
import Derived.LoopIn
import Derived.Test.YtakmeipmngeilaaSe802
set_option linter.unusedVariables false
set_option linter.unusedSimpArgs false
namespace Go.Proofs.Ytakmeipmngeilaa.K
set_option maxRecDepth 100000
open Go.RowKit

section
variable {P : Program} {n l : Nat} {ops : Array Oper} {Q : Exit → Act → World → Prop} {a : Act} {w : World}
theorem rowsIn_wide {row : String} {args : Array Value} {R : Value → World → Prop} (h : Rows P row args w R) : RowsIn Fence.wide n P row args w R :=
  fun c cs _ => let ⟨v, w', r, s⟩ := h c cs; ⟨v, w', r, stepsIn_wide.2 s⟩
/-- An operation that is no 'defer', in a round. -/
theorem wpIn_of_wp {o : Oper} {next : Act → World → Prop} (hd : ∀ c, o.op ≠ .defer c) (h : o.wp P a w next Q) : o.wpIn (Fence.wide.inRound l) n P a w next Q := by
  refine ⟨fun _ _ => trivial, ?_⟩
  rw [show o.semAt (Fence.wide.inRound l).round a.eval = execOp a.eval o from Oper.semAt_some l _ _ hd]
  unfold Oper.wp at h
  generalize hg : (execOp a.eval o).run P w = r at h ⊢
  cases r with
  | ok x w' =>
    cases x with
    | value v => exact h
    | skip => exact h
    | defer d => exact h
    | enter f args => exact ⟨fun e => (by cases e), callsIn_wide.2 h⟩
    | row r args => exact ⟨fun e => (by cases e), rowsIn_wide h⟩
    | _ => exact h.elim
  | halt x w' =>
    cases x with
    | panic v => exact h
    | _ => exact h.elim
def noDefer (l : List Oper) : Bool := l.all fun o => match o.op with | .defer _ => false | _ => true
theorem noDefer_spec {l : List Oper} (h : noDefer l = true) {o : Oper} (ho : o ∈ l) : ∀ c, o.op ≠ .defer c := by
  intro c e
  have := List.all_eq_true.1 h o ho
  rw [e] at this
  cases this
theorem wpListIn_of {ls : List Oper} (hd : noDefer ls = true) (hQ : ¬ LetsOut Q) : ∀ (r : List Oper), (∀ o ∈ r, o ∈ ls) → ∀ (a : Act) (w : World), wpList P ops Q r a w → wpListIn (Fence.wide.inRound l) n P ops Q r a w
  | [], _, _, _, h => h
  | o :: r, hs, a, w, h => by
    unfold wpList at h
    unfold wpListIn
    split
    · rename_i hw
      rw [if_pos hw] at h
      rcases h with h | h
      · exact Oper.wpIn_mono (fun a w => wpListIn_of hd hQ r (fun o ho => hs o (List.mem_cons_of_mem _ ho)) a w) (wpIn_of_wp (noDefer_spec hd (hs o List.mem_cons_self)) h)
      · exact absurd h.2 hQ
    · rename_i hw
      rw [if_neg hw] at h
      exact ⟨fun _ _ => trivial, wpListIn_of hd hQ r (fun o ho => hs o (List.mem_cons_of_mem _ ho)) _ w h⟩
/-- A plain region in a round. -/
theorem wpIn_region_plain {id : Nat} {ls : List Oper} (hd : noDefer ls = true) (hQ : ¬ LetsOut Q) (h : wpList P ls.toArray Q ls a w) : (Code.region id ls.toArray false).wpIn (Fence.wide.inRound l) n P Q a w :=
  wpIn_region_lit (wpListIn_of hd hQ ls (fun _ h => h) a w h)
theorem wpAnyIn_of {md : Region.Mode} (hd : noDefer ops.toList = true) (hQ : ¬ LetsOut Q) : ∀ (fuel : Nat) (listed : Array Bool) (a : Act) (w : World), wpAny P md ops Q fuel listed a w → wpAnyIn (Fence.wide.inRound l) n P md ops Q fuel listed a w
  | 0, _, _, _, h => h
  | fuel + 1, listed, a, w, h => by
    refine ⟨h.1, fun i hi => ?_⟩
    have h1 := h.2 i hi
    unfold wpOp at h1
    unfold wpOpIn
    cases ho : ops[i]? with
    | none => simp only [ho] at h1; exact wpAnyIn_of hd hQ fuel _ a w h1
    | some o =>
      simp only [ho] at h1 ⊢
      split
      · rename_i hw
        rw [if_pos hw] at h1
        rcases h1 with h1 | h1
        · refine Oper.wpIn_mono (fun a w => wpAnyIn_of hd hQ fuel _ a w) (wpIn_of_wp (noDefer_spec hd ?_) h1)
          exact Array.mem_toList_iff.2 (Array.mem_of_getElem? ho)
        · exact absurd h1.2 hQ
      · rename_i hw
        rw [if_neg hw] at h1
        exact ⟨fun _ _ => trivial, wpAnyIn_of hd hQ fuel _ _ w h1⟩
/-- A region that draws its order, in a round. -/
theorem wpDIn_region {id : Nat} {R : Facts} (hd : noDefer ops.toList = true) (hQ : ¬ LetsOut Q) (_hold : R.hold w.drew) (hm : P.follows .mixedOrders = true) (m : Nat) (hn : ops.size = m)
    (h : wpD P .any ops Q R m (Array.replicate m false) a w.drew) : (Code.region id ops true).wpIn (Fence.wide.inRound l) n P Q a w := by
  subst hn
  exact wpIn_region_any hm (wpAnyIn_of hd hQ _ _ _ _ (wpD_any _ _ _ _ _ h))
/-- What a round may not turn for the iterator's sake: one block. -/
def Kx (b : Nat) (A B : World) : Prop := B.heap[b]? = A.heap[b]?
/-- What a round may leave. -/
theorem keepsFrom_fr {D : Nat → Prop} {B : Nat} {W W' : World} (h : Fr D W W') (hD : ∀ k, D k → k < B) : KeepsFrom B W W' :=
  ⟨h.size, fun k o hB hk _ => (h.block k (Array.getElem?_eq_some_iff.1 hk).1 (fun e => by have := hD k e; omega)).trans hk⟩
/-- A range over a function whose rounds all go on. -/
theorem wp_range {α : Type} {g : Operand} {ps : Array Tmp} {assign body : Code} {gf : Nat} {lb : Array Value} (hg : a.eval g = .func (.func gf) #[] lb) (eg : ∀ args w, (callFunc gf args).run P w = .ok (.enter gf args) w)
    {encs : α → Array Value} {bx : Nat} (hbx : bx < w.heap.size) {S : List α → Prop} {N : Nat} (hseq : SeqStopsK Fence.wide 2 P gf lb encs (Kx bx) S (fun _ => True) N w) (hps : ∀ x, (encs x).size = ps.size)
    (I : List α → World → Prop) (hI : OwnFrom w.heap.size I) (h0 : I [] w) (a₁ : α → Act)
    (hassign : ∀ (l : Nat) (x : α) (W : World) (K : Act → World → Prop), K (a₁ x) W →
      assign.wpIn (Fence.wide.inRound l) 1 P (Exit.then K (fun _ _ _ => False)) { tmps := (ps.zip (encs x)).foldl (fun t (p, v) => t.setIfInBounds p v) a.tmps, defers := [] } W)
    (hbody : ∀ (l : Nat) (pre : List α) (x : α) (W : World), I pre W → pre.length < N → body.wpIn (Fence.wide.inRound l) 1 P (ownPostG w.heap.size (Kx bx) I (fun _ _ _ => False) (pre ++ [x]) W) (a₁ x) W)
    (hdone : ∀ (D : Nat) (xs : List α) (W : World), w.heap.size ≤ D → S xs → I xs W → W.heap[D]? = some (.deferred (some [])) → Q .normal { a with defers := { target := .collected D, args := #[] } :: a.defers } W) :
    (Code.rangeFunc g ps assign body).wp P Q a w := by
  refine (wpIn_wide (n := 3)).1 (wpIn_rangeFunc_ownG (F := Fence.wide) (n := 3) rfl (by decide) hg trivial eg hseq (fun h k => ?_) (fun W l o o' hl _ _ _ => ?_) (Below.refl _ _) hps I (fun _ _ _ => False) hI (fun _ _ _ _ _ h => h.elim) h0 a₁ hassign hbody hdone (fun _ _ _ _ _ _ h => h.elim))
  · exact k.trans h
  · exact World.putObj_heap_other (fun e => by omega)
/-- The same with one variable, which is assigned plainly. -/
theorem wp_range1 {α : Type} {g : Operand} {p d id : Nat} {ty : TypeId} {ps : String} {body : Code} {gf : Nat} {lb : Array Value} (hg : a.eval g = .func (.func gf) #[] lb) (eg : ∀ args w, (callFunc gf args).run P w = .ok (.enter gf args) w)
    (enc : α → Value) {bx : Nat} (hbx : bx < w.heap.size) {S : List α → Prop} {N : Nat} (hseq : SeqStopsK Fence.wide 2 P gf lb (fun x => #[enc x]) (Kx bx) S (fun _ => True) N w) (hp : p < a.tmps.size)
    (I : List α → World → Prop) (hI : OwnFrom w.heap.size I) (h0 : I [] w)
    (hbody : ∀ (l : Nat) (pre : List α) (x : α) (W : World), I pre W → pre.length < N → body.wpIn (Fence.wide.inRound l) 1 P (ownPostG w.heap.size (Kx bx) I (fun _ _ _ => False) (pre ++ [x]) W) { tmps := (a.tmps.setIfInBounds p (enc x)).setIfInBounds d (enc x), defers := [] } W)
    (hdone : ∀ (D : Nat) (xs : List α) (W : World), w.heap.size ≤ D → S xs → I xs W → W.heap[D]? = some (.deferred (some [])) → Q .normal { a with defers := { target := .collected D, args := #[] } :: a.defers } W) :
    (Code.rangeFunc g #[p] (Code.region id #[{ dst := some d, op := .assign (.tmp p), type := ty, pos := ps, after := #[], guard := none }] false) body).wp P Q a w := by
  refine wp_range hg eg hbx hseq (fun _ => rfl) I hI h0 (fun x => { tmps := (a.tmps.setIfInBounds p (enc x)).setIfInBounds d (enc x), defers := [] }) (fun l x W K hK => ?_) hbody hdone
  refine wpIn_region_plain (ls := [{ dst := some d, op := .assign (.tmp p), type := ty, pos := ps, after := #[], guard := none }]) rfl (fun ⟨_, _, h⟩ => h) ?_
  refine wpList_plain rfl fun K' hK' => ?_
  unfold Oper.wp execOp
  have he : (({ tmps := (Array.zip #[p] #[enc x]).foldl (fun t (p, v) => t.setIfInBounds p v) a.tmps, defers := [] } : Act).eval (.tmp p)) = enc x := by
    simp [Act.eval, hp]
  simp only [he, Sem.run_pure]
  refine hK' _ _ (wpList_nil ?_)
  simpa [Act.put, Exit.then] using hK
theorem noOut_ownPostG {α : Type} {B : Nat} {Kp : World → World → Prop} {I : List α → World → Prop} {Ix : Code → List α → World → Prop} {xs : List α} {W : World} : ¬ LetsOut (ownPostG B Kp I Ix xs W) := fun ⟨_, _, h⟩ => h
/-- What the book-keeping of a loop leaves. -/
theorem fr_row {D : Nat → Prop} {w0 A B : World} {row : Option Nat} (h : Fr D w0 A) (hg : A.grownBy B row) (hr : ∀ r, row = some r → w0.heap.size ≤ r) : Fr D w0 B :=
  h.trans (D' := fun k => row = some k) ⟨hg.os, hg.tape, hg.output, hg.size, fun k hk hn => hg.block k hk (fun e => hn e.symm)⟩ fun k e => .inr (hr k e)
/-- The function with such a loop. -/
theorem calls_marks {f : FuncId} {fn : Func} {c : Code} {args : Array Value} {R : Ending → World → Prop} (hf : P.funcs[f]? = some fn) (hb : fn.body = some c)
    (h : c.wp P (bodyPostM Fence.wide 3 P fn R) { tmps := args ++ Array.replicate (fn.ntmps - args.size) undef, defers := [] } w) : Calls P f args w R :=
  (callsIn_wide (n := 3)).1 (callsIn_of_wp_marks hf hb trivial ((wpIn_wide (n := 3)).2 h))
theorem fr_put (D : Nat) (o : Obj) : Fr (fun k => k = D) w (w.putObj D o) := ⟨rfl, rfl, rfl, by simp, fun k _ hn => World.putObj_heap_other (fun e => hn e)⟩
theorem marks_ret {fn : Func} {R : Ending → World → Prop} {D p : Nat} {ty : TypeId} {b : Nat} {t : TypeId} {cs : List Value} (hd : a.defers = [{ target := .collected D, args := #[] }]) (hK : w.heap[D]? = some (.deferred (some []))) (hr : fn.results = #[.cell p ty])
    (d : TypeDesc) (hp : a.tmps.getD p undef = .pointer (some ⟨b, 0, none⟩)) (hB : Blk w b t cs) (hu : P.underlying ty = some d) (hdd : (match d with | .struct _ | .array _ _ => true | _ => false) = true) (hi : (P.info? ty).map (·.size) = some cs.length)
    (h : ∀ w', Fr (fun k => k = D) w w' → R (.returned (.agg cs.toArray)) w') : bodyPostM Fence.wide 3 P fn R .ret a w := by
  show LeavesInM Fence.wide 3 P fn a.tmps R a.defers .returning w
  rw [hd]
  refine ⟨by simp, .inl ⟨D, _, rfl, run_takeDeferred hK, ?_⟩⟩
  have hf := fr_put (w := w) D (.deferred none)
  have hne : ¬ b = D := fun e => by
    subst e
    unfold Blk at hB
    rw [hB] at hK
    cases hK
  exact ⟨_, results_cell_row hr _ _ b t cs.toArray (0, 0) d hp (hB.fr hf hne) hu hdd (by simpa using hi), h _ hf⟩
theorem marks_none {fn : Func} {R : Ending → World → Prop} {D : Nat} (hd : a.defers = [{ target := .collected D, args := #[] }]) (hK : w.heap[D]? = some (.deferred (some []))) (hr : fn.results = #[])
    (h : ∀ w', Fr (fun k => k = D) w w' → R (.returned (.tuple #[])) w') : bodyPostM Fence.wide 3 P fn R .normal a w := by
  show LeavesInM Fence.wide 3 P fn a.tmps R a.defers .returning w
  rw [hd]
  refine ⟨by simp, .inl ⟨D, _, rfl, run_takeDeferred hK, ?_⟩⟩
  exact ⟨_, results_none hr _ _ _, h _ (fr_put D (.deferred none))⟩
/-- One value is stored into a block that is known. -/
theorem wpL_storeU {rest : List Oper} {op : Oper} (hgd : op.guard = none) (ty : TypeId) (x y : Operand) (ho : op.op = .store ty x y) (b o : Nat) (v : Value) (vs : List Value) (hx : a.eval x = .pointer (some ⟨b, o, none⟩)) (hy : a.eval y = v) (hvs : v.cells = vs.toArray)
    (t : TypeId) (cs : List Value) (hB : Blk w b t cs) (hle : o + vs.length ≤ cs.length) (hi : (P.info? ty).map (·.size) = some vs.length) (h1 : ∀ u ∈ vs, u.oneCell' = true)
    (h : ∀ w', Hid (Blk w' b t (spl cs o vs)) → Hid (Fr (fun k => k = b) w w') → Hid (w'.heap.size = w.heap.size) → wpList P ops Q rest (a.put op.dst undef) w') : wpList P ops Q (op :: rest) a w := by
  refine wpList_plain hgd fun K hK => ?_
  have hth := hB.there o vs.length hle
  have hrun := run_storeCells_cells (P := P) b o vs 0 w (fun j hj => by simpa using (hth j hj).1) (fun j hj => by simpa using (hth j hj).2) h1
  have hst : (storeVar ty ⟨b, o, none⟩ v).run P w = .ok () (w.setCells b o vs) := by
    cases hq : P.info? ty with
    | none => simp [hq] at hi
    | some i =>
      have hi' : i.size = vs.length := by simpa [hq] using hi
      simp only [Nat.add_zero] at hrun
      simp [storeVar, sizeOf, typeInfo, hq, hi', hvs, hrun]
  unfold Oper.wp execOp
  simp only [ho, hx, hy, Instr.storeAt, Instr.sureAddr, Sem.run_bind, Sem.run_pure, Result.andThen_ok, hst]
  exact hK _ _ (h _ (hid (by simpa using hB.sets vs o hle)) (hid (by simpa using (Fr.refl (fun k => k = b) w).setCells b o vs (.inl rfl))) (hid (by simp)))
end
end Go.Proofs.Ytakmeipmngeilaa.K

set_option linter.unusedVariables false
set_option linter.unusedSimpArgs false
set_option linter.unusedSectionVars false
namespace Go.Proofs.Ytakmeipmngeilaa.SH
set_option maxRecDepth 100000
open Go.RowKit K AR
variable [Tab]

/-- The two tables lie as they were laid. -/
def Gl (w : World) : Prop := w.rangeAt 0 0 (bw .u32 h0 8) ∧ w.rangeAt 1 0 (bw .u32 kc 64)
/-- No table. -/
def NoG (D : Nat → Prop) : Prop := ¬ D 0 ∧ ¬ D 1
theorem Gl.fr {D : Nat → Prop} {w w' : World} (h : Gl w) (hf : Fr D w w') (hd : NoG D) : Gl w' := ⟨hf.range h.1 hd.1, hf.range h.2 hd.2⟩
theorem Gl.no {w w' : World} (h : Gl w) (hf : Fr No w w') : Gl w' := h.fr hf ⟨id, id⟩
theorem Gl.drew {w : World} (h : Gl w) : Gl w.drew := h
theorem Gl.size {w : World} (h : Gl w) : 0 < w.heap.size ∧ 1 < w.heap.size :=
  ⟨World.block_lt_of_cell? w _ (h.1 0 _ (bw_get h0 (by decide))), World.block_lt_of_cell? w _ (h.2 0 _ (bw_get kc (by decide)))⟩
theorem Gl.one {w : World} (h : Gl w) {b : Nat} (hb : 0 ≠ b ∧ 1 ≠ b) : NoG (fun k => k = b) := hb
theorem Gl.kc {w : World} (h : Gl w) {i : Nat} (hi : i < 64) : w.cell? ⟨1, i, none⟩ = some (.int .u32 (kc i : Int)) := by
  have := h.2 i _ (bw_get SH.kc hi)
  rwa [Nat.zero_add] at this

theorem R_eq' {x n : Nat} (hx : x < 4294967296) : bits .or .u32 ((x : Int) * 2 ^ (32 - n) % 4294967296) ((x : Int) / 2 ^ n) = ((R n x : Nat) : Int) := by
  have e1 : ((x : Int) / 2 ^ n) = ((x / 2 ^ n : Nat) : Int) := by simp
  have e2 : ((x : Int) * 2 ^ (32 - n) % 4294967296) = ((x * 2 ^ (32 - n) % 4294967296 : Nat) : Int) := by simp
  rw [e1, e2, or32 (Nat.mod_lt _ (by decide)) (Nat.lt_of_le_of_lt (Nat.div_le_self _ _) hx), Nat.or_comm]
  rfl
theorem turn_bits : ∀ n : Nat, n < 32 → 0 < n → bits .and .u64 (IntKind.u64.wrap (-(n : Int))) 31 = ((32 - n : Nat) : Int) := by decide +kernel
theorem turn_any (x n : Nat) (w : World) (hx : x < 4294967296) (h0 : 0 < n) (hn : n < 32) : Calls Try.prog 91 #[.int .u32 (x : Int), .int .i64 (-(n : Int))] w fun e w' =>
    e = .returned (.int .u32 (R n x : Nat)) ∧ w' = w := by
  have HX := hid hx; clear hx
  have hb := turn_bits n hn h0
  obtain ⟨m, hm⟩ : ∃ m, 32 - n = m := ⟨_, rfl⟩
  rw [hm] at hb
  have HM := hid hm
  have hm32 : m ≤ 31 := by omega
  have hs : ((32 : Int) - (m : Int)) = (n : Int) := by omega
  have HR : Hid (bits .or .u32 ((x : Int) * 2 ^ m % 4294967296) ((x : Int) / 2 ^ n) = ((R n x : Nat) : Int)) := by
    have := R_eq' (n := n) HX.out
    rw [hm] at this
    exact hid this
  clear hm
  go_enter Try.func91, Try.ntmps91
  go_wp2
  go_ret
  refine ⟨?_, rfl⟩
  exact congrArg (fun v => Ending.returned (.int .u32 v)) HR.out
theorem right_any (x n : Nat) (w : World) (hx : x < 4294967296) (h0 : 0 < n) (hn : n < 32) : Calls Try.prog 90 #[.int .u32 (x : Int), .int .i64 (n : Int)] w fun e w' =>
    e = .returned (.int .u32 (R n x : Nat)) ∧ w' = w := by
  have HX := hid hx; clear hx
  go_enter Try.func90, Try.ntmps90
  go_wp2_with fail
  refine (turn_any x n _ HX.out h0 hn).mono ?_
  rintro e w1 ⟨rfl, rfl⟩
  go_wp2_with fail
  go_ret
  exact ⟨rfl, rfl⟩
end Go.Proofs.Ytakmeipmngeilaa.SH

set_option linter.unusedVariables false
set_option linter.unusedSimpArgs false
set_option linter.unusedSectionVars false
namespace Go.Proofs.Ytakmeipmngeilaa.SH
set_option maxRecDepth 100000
open Go.RowKit K AR
variable [Tab]

theorem upto_w' (m : Nat → Nat) (j : Nat) : AR.upd (upto (16 + j) (wS m j) fun _ => 0) (16 + j) (wS m (j + 1) (j + 16)) = upto (16 + (j + 1)) (wS m (j + 1)) fun _ => 0 := by
  funext i
  unfold AR.upd AR.upto
  by_cases h : i = 16 + j
  · subst h; rw [if_pos rfl, if_pos (by omega), show j + 16 = 16 + j by omega]
  · rw [if_neg h]
    by_cases h2 : i < 16 + j
    · rw [if_pos h2, if_pos (by omega), wS_low m j (by omega)]
    · rw [if_neg h2, if_neg (by omega)]
/-- The bytes of a block, put together k at a time. -/
def pw (B : Nat → Nat) (j : Nat) : Nat → Nat
  | 0 => 0
  | k + 1 => pw B j k * 256 + B (4 * j + k)
def ps (B : Nat → Nat) (i : Nat) : Nat → Nat := fun j => pw B j (min (i - 4 * j) 4)
def mB (B : Nat → Nat) : Nat → Nat := fun j => B (4 * j) * 16777216 + B (4 * j + 1) * 65536 + B (4 * j + 2) * 256 + B (4 * j + 3)
def B8 (B : Nat → Nat) : Prop := ∀ i, B i < 256
theorem pw_four (B : Nat → Nat) (j : Nat) : pw B j 4 = mB B j := by
  simp only [pw, mB]
  simp only [Nat.add_zero]
  omega
theorem mB_lt {B : Nat → Nat} (h : B8 B) : B32 (mB B) := fun j => by
  unfold mB
  have := h (4 * j); have := h (4 * j + 1); have := h (4 * j + 2); have := h (4 * j + 3)
  omega
theorem pw_lt {B : Nat → Nat} (h : B8 B) (j : Nat) {k : Nat} (hk : k < 4) : pw B j k < 16777216 := by
  have h0 := h (4 * j); have h1 := h (4 * j + 1); have h2 := h (4 * j + 2)
  have : k = 0 ∨ k = 1 ∨ k = 2 ∨ k = 3 := by omega
  rcases this with rfl | rfl | rfl | rfl <;> simp only [pw, Nat.add_zero] <;> omega
theorem ps_zero (B : Nat → Nat) : ps B 0 = fun _ => 0 := by
  funext j
  unfold ps
  rw [Nat.zero_sub, Nat.zero_min]
  rfl
theorem ps_next (B : Nat → Nat) (i : Nat) : AR.upd (ps B i) (i / 4) (ps B i (i / 4) * 256 + B i) = ps B (i + 1) := by
  funext j
  unfold AR.upd
  by_cases h : j = i / 4
  · rw [if_pos h]
    subst h
    unfold ps
    rw [show min (i - 4 * (i / 4)) 4 = i % 4 by omega, show min (i + 1 - 4 * (i / 4)) 4 = i % 4 + 1 by omega]
    show _ = pw B (i / 4) (i % 4) * 256 + B (4 * (i / 4) + i % 4)
    rw [show 4 * (i / 4) + i % 4 = i by omega]
  · rw [if_neg h]
    unfold ps
    congr 1
    omega
theorem ps_lt {B : Nat → Nat} (h : B8 B) (i : Nat) : ps B i (i / 4) < 16777216 := by
  unfold ps
  rw [show min (i - 4 * (i / 4)) 4 = i % 4 by omega]
  exact pw_lt h _ (by omega)
theorem ps_all (B : Nat → Nat) : bw .u32 (ps B 64) 64 = bw .u32 (upto (16 + 0) (wS (mB B) 0) fun _ => 0) 64 := bw_congr fun j hj => by
  unfold ps AR.upto
  by_cases h : j < 16
  · rw [if_pos h, show min (64 - 4 * j) 4 = 4 by omega, pw_four]
    rfl
  · rw [if_neg h, show min (64 - 4 * j) 4 = 0 by omega]
    rfl
theorem or_byte {x c : Nat} (hx : x < 16777216) (hc : c < 256) : bits .or .u32 ((x : Int) * 256 % 4294967296) ((c : Int) % 4294967296) = ((x * 256 + c : Nat) : Int) := by
  have e : ((x : Int) * 256 % 4294967296) = ((x * 256 : Nat) : Int) := by omega
  have e2 : ((c : Int) % 4294967296) = (c : Int) := by omega
  rw [e, e2, or32 (by omega) (by omega)]
  congr 1
  rw [Nat.mul_comm x 256]
  exact (Nat.two_pow_add_eq_or_of_lt (i := 8) hc x).symm
set_option maxHeartbeats 4000000 in
theorem schedule_any (B : Nat → Nat) (hB : B8 B) (g o c : Nat) (w : World) (hs : ∀ i, i < 64 → w.cell? ⟨g, o + i, none⟩ = some (.int .u8 (B i : Int))) : Calls Try.prog 89 #[.slice (some ⟨g, o, none⟩) 64 c] w fun e w' =>
    e = .returned (ba .u32 (wS (mB B) 48) 64) ∧ Fr No w w' := by
  have hs0 := hs 0 (by decide)
  have hgw : g < w.heap.size := World.block_lt_of_cell? w _ hs0
  have HS := hid hs
  clear hs hs0
  go_enter Try.func89, Try.ntmps89
  go_wp2_with (first
    | ((with_reducible show wpList _ _ _ (⟨_, .alloc 94, _, _, _, _⟩ :: _) _ _); have := HB1; refine wpL_alloc rfl _ rfl _ zero64w (bw .u32 (fun _ => 0) 64) rfl ?_; intro w2 HB2 HF2 HS2)
    | ((with_reducible show wpList _ _ _ (⟨_, .alloc 94, _, _, _, _⟩ :: _) _ _); refine wpL_alloc rfl _ rfl _ zero64w (bw .u32 (fun _ => 0) 64) rfl ?_; intro w1 HB1 HF1 HS1)
    | fail)
  obtain ⟨b2, hb2⟩ : ∃ b, w.heap.size = b := ⟨_, rfl⟩
  obtain ⟨b3, hb3⟩ : ∃ b, w1.heap.size = b := ⟨_, rfl⟩
  have hlt23 : b2 < b3 := by have := HS1.out; omega
  have HR := hid (show Blk w2 b2 94 (bw .u32 (fun _ => 0) 64) ∧ (∀ i, i < 64 → w2.cell? ⟨g, o + i, none⟩ = some (.int .u8 (B i : Int))) ∧ Blk w2 b3 94 (bw .u32 (ps B 0) 64) ∧ Fr No w w2 by
    rw [ps_zero, ← hb2, ← hb3]
    exact ⟨HB1.out.fr HF2.out id, fun i hi => HF2.out.cell (HF1.out.cell (HS.out i hi) id) id, HB2.out, HF1.out.trans' HF2.out⟩)
  have HN := hid (show w.heap.size = b2 ∧ g < b2 ∧ b2 < b3 from ⟨hb2, by omega, hlt23⟩)
  rw [hb2, hb3]
  clear HB1 HF1 HS1 HB2 HF2 HS2 hb2 hb3 hlt23 hgw HS this
  go_wp2_with fail
  go_loopw [11] (fun i wr => ∃ j : Nat, j ≤ 64 ∧ i = .int .i64 j ∧ Hid (Blk wr b2 94 (bw .u32 (fun _ => 0) 64) ∧ (∀ i, i < 64 → wr.cell? ⟨g, o + i, none⟩ = some (.int .u8 (B i : Int))) ∧ Blk wr b3 94 (bw .u32 (ps B j) 64) ∧ Fr No w wr)) (fun i _ => 64 - (intOf i).toNat)
  case atStart => exact ⟨0, by omega, rfl, HR⟩
  case round =>
    clear HR
    obtain ⟨j, hj, rfl, HR⟩ := hrel
    by_cases hlt : j < 64
    · have c1 := HR.out.2.1 j hlt
      have c2 := blk_at HR.out.2.2.1 (i := j / 4) (by omega)
      have ho := or_byte (ps_lt hB j) (hB j)
      have hn := ps_next B j
      obtain ⟨x, hx⟩ : ∃ x, ps B j (j / 4) = x := ⟨_, rfl⟩
      obtain ⟨y, hy⟩ : ∃ y, B j = y := ⟨_, rfl⟩
      rw [hy] at c1 ho hn
      rw [hx] at c2 ho hn
      have HO := hid ho; have HNX := hid hn
      obtain ⟨q, hq⟩ : ∃ q, j / 4 = q := ⟨_, rfl⟩
      have hq2 : (j : Int) / 4 = (q : Int) := by omega
      have hq3 : (q : Int) < 64 := by omega
      rw [hq] at c2
      have HQ := hid hq
      clear ho hn hx hy hq
      go_wp2_with (first
        | ((with_reducible show wpList _ _ _ (⟨_, .store 91 _ _, _, _, _, _⟩ :: _) _ _); refine wpL_put rfl _ _ _ rfl b3 q (x * 256 + y) rfl (by first | exact congrArg (Value.int .u32) HO.out | rfl) _ _ 64 HR.out.2.2.1 (by omega) infoW ?_; intro w5 HB5 HF5 HS5)
        | fail)
      have HR' := hid (show Blk w5 b2 94 (bw .u32 (fun _ => 0) 64) ∧ (∀ i, i < 64 → w5.cell? ⟨g, o + i, none⟩ = some (.int .u8 (B i : Int))) ∧ Blk w5 b3 94 (bw .u32 (ps B (j + 1)) 64) ∧ Fr No w w5 by
        have hn := HN.out
        have h5 := HB5.out
        rw [← HQ.out, HNX.out] at h5
        exact ⟨HR.out.1.fr HF5.out (by omega), fun i hi => HF5.out.cell (HR.out.2.1 i hi) (fun e => by have : g = b3 := e; omega), h5, HR.out.2.2.2.trans HF5.out fun i e => .inr (by have : i = b3 := e; omega)⟩)
      clear HR HB5 HF5 HS5 c1 c2
      go_wp2_with fail
      go_roundw
      case rel => exact ⟨j + 1, by omega, by go_num, HR'⟩
      case measure => simp [intOf]; omega
    · obtain rfl : j = 64 := by omega
      have hr := HR.out
      rw [ps_all] at hr
      have HR2 := hid hr
      clear HR hr hlt hj
      go_wp2_with fail
      go_loopw [6] (fun i wr => ∃ j : Nat, j ≤ 48 ∧ i = .int .i64 (16 + j : Nat) ∧ Hid (Blk wr b2 94 (bw .u32 (fun _ => 0) 64) ∧ Blk wr b3 94 (bw .u32 (upto (16 + j) (wS (mB B) j) fun _ => 0) 64) ∧ Fr No w wr)) (fun i _ => 64 - (intOf i).toNat)
      case atStart => exact ⟨0, by omega, rfl, hid ⟨HR2.out.1, HR2.out.2.2.1, HR2.out.2.2.2⟩⟩
      case round =>
        clear HR2
        obtain ⟨j, hj, rfl, HR⟩ := hrel
        by_cases hlt3 : j < 48
        · as_aux_lemma =>
          obtain ⟨I, hI⟩ : ∃ I, 16 + j = I := ⟨_, rfl⟩
          have hIi : (I : Int) < 64 := by omega
          have hI16 : (16 : Int) ≤ (I : Int) := by omega
          have HI := hid hI
          have up : ∀ x, x < 16 + j → upto (16 + j) (wS (mB B) j) (fun _ => 0) x = wS (mB B) j x := fun x hx => by unfold AR.upto; rw [if_pos hx]
          have c0 := blk_at HR.out.2.1 (i := j) (by omega)
          have c1 := blk_at HR.out.2.1 (i := j + 9) (by omega)
          have c2 := blk_at HR.out.2.1 (i := j + 1) (by omega)
          have c3 := blk_at HR.out.2.1 (i := j + 14) (by omega)
          rw [up _ (by omega)] at c0 c1 c2 c3
          have hnew := wS_new (mB B) j
          have HXa := hid (wS_lt (mB_lt hB) j j); have HXb := hid (wS_lt (mB_lt hB) j (j + 9)); have HXp := hid (wS_lt (mB_lt hB) j (j + 1)); have HXq := hid (wS_lt (mB_lt hB) j (j + 14))
          obtain ⟨wa, ea⟩ : ∃ x, wS (mB B) j j = x := ⟨_, rfl⟩
          obtain ⟨wb, eb⟩ : ∃ x, wS (mB B) j (j + 9) = x := ⟨_, rfl⟩
          obtain ⟨wp, ep⟩ : ∃ x, wS (mB B) j (j + 1) = x := ⟨_, rfl⟩
          obtain ⟨wq, eq⟩ : ∃ x, wS (mB B) j (j + 14) = x := ⟨_, rfl⟩
          rw [ea] at c0 HXa hnew; rw [eb] at c1 HXb hnew; rw [ep] at c2 HXp hnew; rw [eq] at c3 HXq hnew
          have d2 : wr.cell? ⟨b3, I - 15, none⟩ = some (.int .u32 (wp : Int)) := by rw [show I - 15 = j + 1 by omega]; exact c2
          have d3 : wr.cell? ⟨b3, I - 2, none⟩ = some (.int .u32 (wq : Int)) := by rw [show I - 2 = j + 14 by omega]; exact c3
          rw [hI]
          obtain ⟨J9, hJ9⟩ : ∃ x, j + 9 = x := ⟨_, rfl⟩
          rw [hJ9] at c1
          have HJ9 := hid hJ9
          have hji : (j : Int) < 64 := by omega
          have hJ9i : (J9 : Int) < 64 := by omega
          have lp7 := R_lt (n := 7) HXp.out; have lp18 := R_lt (n := 18) HXp.out; have lq17 := R_lt (n := 17) HXq.out; have lq19 := R_lt (n := 19) HXq.out
          have lp8 : wp / 8 < 4294967296 := Nat.lt_of_le_of_lt (Nat.div_le_self _ _) HXp.out
          have lq8 : wq / 1024 < 4294967296 := Nat.lt_of_le_of_lt (Nat.div_le_self _ _) HXq.out
          have hg0 : g0 wp = R 7 wp ^^^ R 18 wp ^^^ wp / 8 := rfl
          have hg1 : g1 wq = R 17 wq ^^^ R 19 wq ^^^ wq / 1024 := rfl
          obtain ⟨r7, hr7⟩ : ∃ x, R 7 wp = x := ⟨_, rfl⟩
          obtain ⟨r18, hr18⟩ : ∃ x, R 18 wp = x := ⟨_, rfl⟩
          obtain ⟨r17, hr17⟩ : ∃ x, R 17 wq = x := ⟨_, rfl⟩
          obtain ⟨r19, hr19⟩ : ∃ x, R 19 wq = x := ⟨_, rfl⟩
          obtain ⟨p8, hp8⟩ : ∃ x, wp / 8 = x := ⟨_, rfl⟩
          obtain ⟨q8, hq8⟩ : ∃ x, wq / 1024 = x := ⟨_, rfl⟩
          rw [hr7] at lp7 hg0; rw [hr18] at lp18 hg0; rw [hr17] at lq17 hg1; rw [hr19] at lq19 hg1; rw [hp8] at lp8 hg0; rw [hq8] at lq8 hg1
          have x1 := xor32 lp7 lp18
          have x2 := xor32 (xor_lt lp7 lp18) lp8
          have x3 := xor32 lq17 lq19
          have x4 := xor32 (xor_lt lq17 lq19) lq8
          rw [← hg0] at x2; rw [← hg1] at x4
          have lg0 : g0 wp < 4294967296 := by rw [hg0]; exact xor_lt (xor_lt lp7 lp18) lp8
          have lg1 : g1 wq < 4294967296 := by rw [hg1]; exact xor_lt (xor_lt lq17 lq19) lq8
          obtain ⟨y1, hy1⟩ : ∃ x, r7 ^^^ r18 = x := ⟨_, rfl⟩
          obtain ⟨y3, hy3⟩ : ∃ x, r17 ^^^ r19 = x := ⟨_, rfl⟩
          rw [hy1] at x1 x2; rw [hy3] at x3 x4
          obtain ⟨G0, hG0⟩ : ∃ x, g0 wp = x := ⟨_, rfl⟩
          obtain ⟨G1, hG1⟩ : ∃ x, g1 wq = x := ⟨_, rfl⟩
          rw [hG0] at x2 lg0 hnew; rw [hG1] at x4 lg1 hnew
          obtain ⟨V, hV⟩ : ∃ x, wS (mB B) (j + 1) (j + 16) = x := ⟨_, rfl⟩
          rw [hV] at hnew
          have HV := hid hV
          have HNW := hid hnew
          have HR7 := hid hr7; have HR18 := hid hr18; have HR17 := hid hr17; have HR19 := hid hr19; have HP8 := hid hp8; have HQ8 := hid hq8
          have HLG := hid (And.intro lg0 lg1)
          clear up ea eb ep eq hnew hI c2 c3 hJ9 hV hr7 hr18 hr17 hr19 hp8 hq8 lp7 lp18 lq17 lq19 lp8 lq8 hg0 hg1 hy1 hy3 hG0 hG1 lg0 lg1
          go_wp2_with fail
          go_quiet (fail)
          go_wp2_with fail
          generalize hw1 : wr.drewN _ = w1
          have HR1 := hid (show Blk w1 b2 94 (bw .u32 (fun _ => 0) 64) ∧ Blk w1 b3 94 (bw .u32 (upto (16 + j) (wS (mB B) j) fun _ => 0) 64) ∧ Fr No w w1 by
            rw [← hw1]
            exact ⟨HR.out.1, HR.out.2.1, HR.out.2.2.drewN _⟩)
          replace c0 : w1.cell? ⟨b3, j, none⟩ = some (.int .u32 (wa : Int)) := by rw [← hw1]; exact c0
          replace c1 : w1.cell? ⟨b3, J9, none⟩ = some (.int .u32 (wb : Int)) := by rw [← hw1]; exact c1
          clear HR hw1
          have hold : Facts.hold [(4, fun w' => w'.cell? ⟨b3, j, none⟩ = some (.int .u32 (wa : Int))), (8, fun w' => w'.cell? ⟨b3, J9, none⟩ = some (.int .u32 (wb : Int)))] w1.drew := (Facts.cons_hold c0 (Facts.cons_hold c1 (Facts.nil_hold _)))
          refine wpD_region hold (by kernel_rfl) 30 rfl ?_
          (refine wpD_plain 0 (v := ?_) rfl (by kernel_rfl) (by kernel_rfl) (by kernel_rfl) (fun _ _ _ h => h) (by rfl) ?_ (by assumption) ?_; rotate_left; (intro _w; go_simp; try with_reducible rfl); simp only [Act.put, List.setIfInBounds_toArray, List.set_cons_zero, List.set_cons_succ])
          (refine wpD_plain 1 (v := ?_) rfl (by kernel_rfl) (by kernel_rfl) (by kernel_rfl) (fun _ _ _ h => h) (by rfl) ?_ (by assumption) ?_; rotate_left; (intro _w; go_simp; try with_reducible rfl); simp only [Act.put, List.setIfInBounds_toArray, List.set_cons_zero, List.set_cons_succ])
          (refine wpD_plain 2 (v := (.int .i64 (j : Int))) rfl (by kernel_rfl) (by kernel_rfl) (by kernel_rfl) (fun _ _ _ h => h) (by rfl) ?_ (by assumption) ?_; (intro _w; go_simp; (have := HI.out; rw [IntKind.wrap_i64]; omega)); simp only [Act.put, List.setIfInBounds_toArray, List.set_cons_zero, List.set_cons_succ])
          (refine wpD_plain 3 (v := ?_) rfl (by kernel_rfl) (by kernel_rfl) (by kernel_rfl) (fun _ _ _ h => h) (by rfl) ?_ (by assumption) ?_; rotate_left; (intro _w; go_simp; try with_reducible rfl); simp only [Act.put, List.setIfInBounds_toArray, List.set_cons_zero, List.set_cons_succ])
          (refine wpD_take 4 _ rfl (by kernel_rfl) (by kernel_rfl) (by kernel_rfl) (fun _ _ _ h => h) List.mem_cons_self (by rfl) (v := ?_) ?_ (by assumption) ?_; rotate_left; (intro _w _hw; go_simp; try with_reducible rfl); simp only [Act.put, List.setIfInBounds_toArray, List.set_cons_zero, List.set_cons_succ])
          (refine wpD_plain 5 (v := ?_) rfl (by kernel_rfl) (by kernel_rfl) (by kernel_rfl) (fun _ _ _ h => h) (by rfl) ?_ (by assumption) ?_; rotate_left; (intro _w; go_simp; try with_reducible rfl); simp only [Act.put, List.setIfInBounds_toArray, List.set_cons_zero, List.set_cons_succ])
          (refine wpD_plain 6 (v := (.int .i64 (J9 : Int))) rfl (by kernel_rfl) (by kernel_rfl) (by kernel_rfl) (fun _ _ _ h => h) (by rfl) ?_ (by assumption) ?_; (intro _w; go_simp; (have := HI.out; have := HJ9.out; rw [IntKind.wrap_i64]; omega)); simp only [Act.put, List.setIfInBounds_toArray, List.set_cons_zero, List.set_cons_succ])
          (refine wpD_plain 7 (v := ?_) rfl (by kernel_rfl) (by kernel_rfl) (by kernel_rfl) (fun _ _ _ h => h) (by rfl) ?_ (by assumption) ?_; rotate_left; (intro _w; go_simp; try with_reducible rfl); simp only [Act.put, List.setIfInBounds_toArray, List.set_cons_zero, List.set_cons_succ])
          (refine wpD_take 8 _ rfl (by kernel_rfl) (by kernel_rfl) (by kernel_rfl) (fun _ _ _ h => h) (List.mem_cons_of_mem _ List.mem_cons_self) (by rfl) (v := ?_) ?_ (by assumption) ?_; rotate_left; (intro _w _hw; go_simp; try with_reducible rfl); simp only [Act.put, List.setIfInBounds_toArray, List.set_cons_zero, List.set_cons_succ])
          (refine wpD_plain 9 (v := (.int .u32 (((wa + wb) % 4294967296 : Nat) : Int))) rfl (by kernel_rfl) (by kernel_rfl) (by kernel_rfl) (fun _ _ _ h => h) (by rfl) ?_ (by assumption) ?_; (intro _w; go_simp; (first | omega | (rw [IntKind.wrap_u32']; omega) | rfl)); simp only [Act.put, List.setIfInBounds_toArray, List.set_cons_zero, List.set_cons_succ])
          (refine wpD_plain 10 (v := ?_) rfl (by kernel_rfl) (by kernel_rfl) (by kernel_rfl) (fun _ _ _ h => h) (by rfl) ?_ (by assumption) ?_; rotate_left; (intro _w; go_simp; try with_reducible rfl); simp only [Act.put, List.setIfInBounds_toArray, List.set_cons_zero, List.set_cons_succ])
          (refine wpD_plain 12 (v := ?_) rfl (by kernel_rfl) (by kernel_rfl) (by kernel_rfl) (fun _ _ _ h => h) (by rfl) ?_ (by assumption) ?_; rotate_left; (intro _w; go_simp; try with_reducible rfl); simp only [Act.put, List.setIfInBounds_toArray, List.set_cons_zero, List.set_cons_succ])
          (refine wpD_plain 15 (v := ?_) rfl (by kernel_rfl) (by kernel_rfl) (by kernel_rfl) (fun _ _ _ h => h) (by rfl) ?_ (by assumption) ?_; rotate_left; (intro _w; go_simp; try with_reducible rfl); simp only [Act.put, List.setIfInBounds_toArray, List.set_cons_zero, List.set_cons_succ])
          (refine wpD_plain 16 (v := (.int .u32 (p8 : Int))) rfl (by kernel_rfl) (by kernel_rfl) (by kernel_rfl) (fun _ _ _ h => h) (by rfl) ?_ (by assumption) ?_; (intro _w; go_simp; (have := HP8.out; first | omega | (rw [IntKind.wrap_u32']; omega))); simp only [Act.put, List.setIfInBounds_toArray, List.set_cons_zero, List.set_cons_succ])
          (refine wpD_plain 19 (v := ?_) rfl (by kernel_rfl) (by kernel_rfl) (by kernel_rfl) (fun _ _ _ h => h) (by rfl) ?_ (by assumption) ?_; rotate_left; (intro _w; go_simp; try with_reducible rfl); simp only [Act.put, List.setIfInBounds_toArray, List.set_cons_zero, List.set_cons_succ])
          (refine wpD_plain 21 (v := ?_) rfl (by kernel_rfl) (by kernel_rfl) (by kernel_rfl) (fun _ _ _ h => h) (by rfl) ?_ (by assumption) ?_; rotate_left; (intro _w; go_simp; try with_reducible rfl); simp only [Act.put, List.setIfInBounds_toArray, List.set_cons_zero, List.set_cons_succ])
          (refine wpD_plain 24 (v := ?_) rfl (by kernel_rfl) (by kernel_rfl) (by kernel_rfl) (fun _ _ _ h => h) (by rfl) ?_ (by assumption) ?_; rotate_left; (intro _w; go_simp; try with_reducible rfl); simp only [Act.put, List.setIfInBounds_toArray, List.set_cons_zero, List.set_cons_succ])
          (refine wpD_plain 25 (v := (.int .u32 (q8 : Int))) rfl (by kernel_rfl) (by kernel_rfl) (by kernel_rfl) (fun _ _ _ h => h) (by rfl) ?_ (by assumption) ?_; (intro _w; go_simp; (have := HQ8.out; first | omega | (rw [IntKind.wrap_u32']; omega))); simp only [Act.put, List.setIfInBounds_toArray, List.set_cons_zero, List.set_cons_succ])
          refine wpD_only 11 [(4, fun w' => w'.cell? ⟨b3, j, none⟩ = some (.int .u32 (wa : Int))), (8, fun w' => w'.cell? ⟨b3, J9, none⟩ = some (.int .u32 (wb : Int)))] rfl (by kernel_rfl) (by kernel_rfl) (by rfl) (fun K11 hK11 => ?_)
          refine wp_call _ [_, _] _ rfl _ [] rfl (fun _ _ => by kernel_rfl) [.int .u32 (wp : Int), .int .i64 7] rfl ?_
          refine (right_any wp 7 _ HXp.out (by decide) (by decide)).mono ?_
          rintro e w' ⟨rfl, rfl⟩
          rw [HR7.out]
          refine ⟨_, rfl, hK11 _ _ (Facts.cons_hold c0 (Facts.cons_hold c1 (Facts.nil_hold _))) ?_⟩
          clear hK11 K11
          simp only [Act.put, List.setIfInBounds_toArray, List.set_cons_zero, List.set_cons_succ]
          replace hold : Facts.hold [(4, fun w' => w'.cell? ⟨b3, j, none⟩ = some (.int .u32 (wa : Int))), (8, fun w' => w'.cell? ⟨b3, J9, none⟩ = some (.int .u32 (wb : Int)))] w1.drew := (Facts.cons_hold c0 (Facts.cons_hold c1 (Facts.nil_hold _)))
          refine wpD_only 13 [(4, fun w' => w'.cell? ⟨b3, j, none⟩ = some (.int .u32 (wa : Int))), (8, fun w' => w'.cell? ⟨b3, J9, none⟩ = some (.int .u32 (wb : Int)))] rfl (by kernel_rfl) (by kernel_rfl) (by rfl) (fun K13 hK13 => ?_)
          refine wp_call _ [_, _] _ rfl _ [] rfl (fun _ _ => by kernel_rfl) [.int .u32 (wp : Int), .int .i64 18] rfl ?_
          refine (right_any wp 18 _ HXp.out (by decide) (by decide)).mono ?_
          rintro e w' ⟨rfl, rfl⟩
          rw [HR18.out]
          refine ⟨_, rfl, hK13 _ _ (Facts.cons_hold c0 (Facts.cons_hold c1 (Facts.nil_hold _))) ?_⟩
          clear hK13 K13
          simp only [Act.put, List.setIfInBounds_toArray, List.set_cons_zero, List.set_cons_succ]
          replace hold : Facts.hold [(4, fun w' => w'.cell? ⟨b3, j, none⟩ = some (.int .u32 (wa : Int))), (8, fun w' => w'.cell? ⟨b3, J9, none⟩ = some (.int .u32 (wb : Int)))] w1.drew := (Facts.cons_hold c0 (Facts.cons_hold c1 (Facts.nil_hold _)))
          (refine wpD_plain 14 (v := ?_) rfl (by kernel_rfl) (by kernel_rfl) (by kernel_rfl) (fun _ _ _ h => h) (by rfl) ?_ (by assumption) ?_; rotate_left; (intro _w; go_simp; try with_reducible rfl); simp only [Act.put, List.setIfInBounds_toArray, List.set_cons_zero, List.set_cons_succ])
          (refine wpD_plain 17 (v := ?_) rfl (by kernel_rfl) (by kernel_rfl) (by kernel_rfl) (fun _ _ _ h => h) (by rfl) ?_ (by assumption) ?_; rotate_left; (intro _w; go_simp; try with_reducible rfl); simp only [Act.put, List.setIfInBounds_toArray, List.set_cons_zero, List.set_cons_succ])
          (refine wpD_plain 18 (v := (.int .u32 (((wa + wb + G0) % 4294967296 : Nat) : Int))) rfl (by kernel_rfl) (by kernel_rfl) (by kernel_rfl) (fun _ _ _ h => h) (by rfl) ?_ (by assumption) ?_; (intro _w; go_simp; (first | omega | (rw [IntKind.wrap_u32']; omega) | rfl)); simp only [Act.put, List.setIfInBounds_toArray, List.set_cons_zero, List.set_cons_succ])
          refine wpD_only 20 [(4, fun w' => w'.cell? ⟨b3, j, none⟩ = some (.int .u32 (wa : Int))), (8, fun w' => w'.cell? ⟨b3, J9, none⟩ = some (.int .u32 (wb : Int)))] rfl (by kernel_rfl) (by kernel_rfl) (by rfl) (fun K20 hK20 => ?_)
          refine wp_call _ [_, _] _ rfl _ [] rfl (fun _ _ => by kernel_rfl) [.int .u32 (wq : Int), .int .i64 17] rfl ?_
          refine (right_any wq 17 _ HXq.out (by decide) (by decide)).mono ?_
          rintro e w' ⟨rfl, rfl⟩
          rw [HR17.out]
          refine ⟨_, rfl, hK20 _ _ (Facts.cons_hold c0 (Facts.cons_hold c1 (Facts.nil_hold _))) ?_⟩
          clear hK20 K20
          simp only [Act.put, List.setIfInBounds_toArray, List.set_cons_zero, List.set_cons_succ]
          replace hold : Facts.hold [(4, fun w' => w'.cell? ⟨b3, j, none⟩ = some (.int .u32 (wa : Int))), (8, fun w' => w'.cell? ⟨b3, J9, none⟩ = some (.int .u32 (wb : Int)))] w1.drew := (Facts.cons_hold c0 (Facts.cons_hold c1 (Facts.nil_hold _)))
          refine wpD_only 22 [(4, fun w' => w'.cell? ⟨b3, j, none⟩ = some (.int .u32 (wa : Int))), (8, fun w' => w'.cell? ⟨b3, J9, none⟩ = some (.int .u32 (wb : Int)))] rfl (by kernel_rfl) (by kernel_rfl) (by rfl) (fun K22 hK22 => ?_)
          refine wp_call _ [_, _] _ rfl _ [] rfl (fun _ _ => by kernel_rfl) [.int .u32 (wq : Int), .int .i64 19] rfl ?_
          refine (right_any wq 19 _ HXq.out (by decide) (by decide)).mono ?_
          rintro e w' ⟨rfl, rfl⟩
          rw [HR19.out]
          refine ⟨_, rfl, hK22 _ _ (Facts.cons_hold c0 (Facts.cons_hold c1 (Facts.nil_hold _))) ?_⟩
          clear hK22 K22
          simp only [Act.put, List.setIfInBounds_toArray, List.set_cons_zero, List.set_cons_succ]
          replace hold : Facts.hold [(4, fun w' => w'.cell? ⟨b3, j, none⟩ = some (.int .u32 (wa : Int))), (8, fun w' => w'.cell? ⟨b3, J9, none⟩ = some (.int .u32 (wb : Int)))] w1.drew := (Facts.cons_hold c0 (Facts.cons_hold c1 (Facts.nil_hold _)))
          (refine wpD_plain 23 (v := ?_) rfl (by kernel_rfl) (by kernel_rfl) (by kernel_rfl) (fun _ _ _ h => h) (by rfl) ?_ (by assumption) ?_; rotate_left; (intro _w; go_simp; try with_reducible rfl); simp only [Act.put, List.setIfInBounds_toArray, List.set_cons_zero, List.set_cons_succ])
          (refine wpD_plain 26 (v := ?_) rfl (by kernel_rfl) (by kernel_rfl) (by kernel_rfl) (fun _ _ _ h => h) (by rfl) ?_ (by assumption) ?_; rotate_left; (intro _w; go_simp; try with_reducible rfl); simp only [Act.put, List.setIfInBounds_toArray, List.set_cons_zero, List.set_cons_succ])
          (refine wpD_plain 27 (v := (.int .u32 (V : Int))) rfl (by kernel_rfl) (by kernel_rfl) (by kernel_rfl) (fun _ _ _ h => h) (by rfl) ?_ (by assumption) ?_; (intro _w; go_simp; (have := HNW.out; first | omega | (rw [IntKind.wrap_u32']; omega))); simp only [Act.put, List.setIfInBounds_toArray, List.set_cons_zero, List.set_cons_succ])
          (refine wpD_plain 28 (v := ?_) rfl (by kernel_rfl) (by kernel_rfl) (by kernel_rfl) (fun _ _ _ h => h) (by rfl) ?_ (by assumption) ?_; rotate_left; (intro _w; go_simp; try with_reducible rfl); simp only [Act.put, List.setIfInBounds_toArray, List.set_cons_zero, List.set_cons_succ])
          refine wpD_only 29 [] rfl (by kernel_rfl) (by kernel_rfl) (by rfl) (fun KS hKS => ?_)
          refine wp_put _ _ _ rfl b3 I V rfl rfl _ _ 64 HR1.out.2.1 (by omega) infoW ?_
          intro w5 HB5 HF5 HS5
          refine hKS _ _ (Facts.nil_hold _) ?_
          clear hKS KS
          simp only [Act.put, List.setIfInBounds_toArray, List.set_cons_zero, List.set_cons_succ]
          refine wpD_done (by kernel_rfl) ?_ _
          have hb5 := HB5.out
          rw [← HV.out, ← HI.out, upto_w'] at hb5
          have hf5 := ((Fr.refl (fun k => k = b3) w1).drew).trans' HF5.out
          have HR' := hid (show Blk w5 b2 94 (bw .u32 (fun _ => 0) 64) ∧ Blk w5 b3 94 (bw .u32 (upto (16 + (j + 1)) (wS (mB B) (j + 1)) fun _ => 0) 64) ∧ Fr No w w5 by
            have hn := HN.out
            exact ⟨HR1.out.1.fr hf5 (by omega), hb5, HR1.out.2.2.trans hf5 fun i e => .inr (by have : i = b3 := e; omega)⟩)
          have hI1 : ((I : Int) + 1) = ((16 + (j + 1) : Nat) : Int) := by have := HI.out; omega
          clear HR1 HB5 HF5 HS5 hold hb5 hf5 c0 c1 x1 x2 x3 x4 d2 d3
          go_wp2_with fail
          go_roundw
          case rel => exact ⟨j + 1, by omega, by first | rw [hI1] | rfl, HR'⟩
          case measure => simp [intOf]; omega
        · obtain rfl : j = 48 := by omega
          go_wp2_with (first
            | ((with_reducible show wpList _ _ _ (⟨_, .load 94 _, _, _, _, _⟩ :: _) _ _); refine wpL_all rfl _ _ rfl b3 rfl _ (upto (16 + 48) (wS (mB B) 48) fun _ => 0) 64 _ HR.out.2.1 rfl rfl info64w ?_)
            | ((with_reducible show wpList _ _ _ (⟨_, .store 94 _ _, _, _, _, _⟩ :: _) _ _); refine wpL_whole rfl _ _ _ rfl b2 (upto (16 + 48) (wS (mB B) 48) fun _ => 0) 64 rfl rfl _ _ HR.out.1 info64w ?_; intro w5 HB5 HF5 HS5)
            | fail)
          have hB5 := HB5.out
          rw [show bw .u32 (upto (16 + 48) (wS (mB B) 48) fun _ => 0) 64 = bw .u32 (wS (mB B) 48) 64 from upto_all _ _ 64] at hB5
          refine ret_cell rfl _ rfl hB5 rfl rfl (by simpa using info64w) rfl ?_
          exact ⟨rfl, HR.out.2.2.trans HF5.out fun i e => .inr (by have := HN.out; have : i = b2 := e; omega)⟩
end Go.Proofs.Ytakmeipmngeilaa.SH
