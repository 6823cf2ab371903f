/-
  Part 4 of the proof: DnV, DnTie, ScD, ScN, ScX.
-/
import Derived.Test.YtdkkpfeiaaffhaaGreatDoorFa03
import Derived.Test.YtdkkpfeiaaffhaaGreatDoorCards
import Derived.Test.YtdkkpfeiaaffhaaGreatDoorTie
import Derived.Test.YtdkkpfeiaaffhaaGreatDoorFa02
import Derived.WalkKit
import Derived.ProofKit
import Derived.OpenShut
import Derived.Deep.DeepHandedRow
import Derived.RowKitTokens
import Derived.Stop.ErrReads
import Derived.Stop.LaidErr
import Derived.Lib.Bytealg
import Derived.Lib.AtoiAll
import Derived.Lib.ItoaNum
import Derived.Maps.OwnSet
set_option linter.unusedSimpArgs false
set_option linter.unusedVariables false
namespace Go.Proofs.YtdkkpfeiaaffhaaGreatDoor.DN
set_option maxRecDepth 100000
open Go.RowKit K Go.Proofs.YtdkkpfeiaaffhaaGreatDoor.BE

/-- The library's error of syntax lies where it was laid. -/
def Gl (w : World) : Prop := ∃ t u, w.cell? ⟨1, 0, none⟩ = some (.iface t u)
theorem Gl.fr {D : Nat → Prop} {w w' : World} (h : Gl w) (hf : Fr D w w') (hd : ¬ D 1) : Gl w' := by
  obtain ⟨t, u, h⟩ := h
  exact ⟨t, u, hf.cell h hd⟩
theorem Gl.no {w w' : World} (h : Gl w) (hf : Fr No w w') : Gl w' := h.fr hf id
theorem Gl.lt {w : World} (h : Gl w) : 1 < w.heap.size := by
  obtain ⟨t, u, h⟩ := h
  exact World.block_lt_of_cell? w _ h
section
variable {P : Program} {Q : Exit → Act → World → Prop} {op : Oper} {a : Act} {w : World} {K : Act → World → Prop}
theorem wp_boxD (t : TypeId) (x : Operand) (ho : op.op = .box t x) (v : Value) (hv : a.eval x = v) (cs : List Value) (hcs : v.cells = cs.toArray)
    (h : ∀ w', Hid (Blk w' w.heap.size t cs) → Hid (Fr No w w') → Hid (w'.heap.size = w.heap.size + 1) → K (a.put op.dst (.pointer (some ⟨w.heap.size, 0, none⟩))) w') : op.wp P a w K Q := by
  unfold Oper.wp
  have h1 := h (w.alloc (.cells v.cells t)) (hid (by rw [hcs]; exact Blk.new w t cs)) (hid ((Fr.refl _ _).alloc _)) (hid (by simp))
  simp [execOp, ho, Instr.box, hv, newVar, newRow, Result.andThen]
  exact h1
theorem wp_valD (v : Value) (hy : (execOp a.eval op).run P w = .ok (.value v) w) (h : K (a.put op.dst v) w) : op.wp P a w K Q := by
  unfold Oper.wp
  rw [hy]
  exact h
end
theorem syntaxError_any (f s : B) (hs : Sz s) (w : World) (hG : Gl w) : Calls Tryz.prog 164 #[.string (sb f), .string (sb s)] w fun e w' => (∃ b, e = .returned (.pointer (some ⟨b, 0, none⟩))) ∧ Fr No w w' := by
  obtain ⟨t, u, hc⟩ := hG
  have HC := hid hc
  have HS := hid hs
  clear hs hc
  go_enter Tryz.func164, Tryz.ntmps164
  go_wp2_with fail
  have hold : Facts.hold [(3, fun w' => w'.cell? ⟨1, 0, none⟩ = some (.iface t u))] w.drew := Facts.cons_hold HC.out (Facts.nil_hold _)
  refine wpD_region hold (by kernel_rfl) 7 rfl ?_
  (refine wpD_plain 0 (v := ?_) rfl (by kernel_rfl) (by kernel_rfl) (by kernel_rfl) (fun _ _ _ h => h) (by rfl) ?_ (by assumption) ?_; rotate_left; (intro _w; go_simp; try with_reducible rfl); simp only [Act.put, K.put3])
  (refine wpD_plain 1 (v := ?_) rfl (by kernel_rfl) (by kernel_rfl) (by kernel_rfl) (fun _ _ _ h => h) (by rfl) ?_ (by assumption) ?_; rotate_left; (intro _w; go_simp; try with_reducible rfl); simp only [Act.put, K.put3])
  clear hold
  refine wpD_two 2 3 [(3, fun w' => w'.cell? ⟨1, 0, none⟩ = some (.iface t u))] [] rfl rfl (by kernel_rfl) (by kernel_rfl) (by kernel_rfl) (by rfl) (by rfl) ?_ ?_
  · intro K hK
    refine wp_call (.func 197) _ _ rfl 197 [] rfl (fun vs w => by kernel_rfl) [.string (sb s)] (by rfl) ?_
    refine (cloneL_any s w.drew (by have := HS.out; unfold Sz at this; omega)).mono ?_
    rintro e w7 ⟨rfl, f7⟩
    have c7 : w7.cell? ⟨1, 0, none⟩ = some (.iface t u) := f7.cell (show w.drew.cell? _ = _ from HC.out) id
    have HFR := hid ((Fr.refl No w).drew.trans' f7)
    refine ⟨_, rfl, hK _ _ (Facts.cons_hold c7 (Facts.nil_hold _)) ?_⟩
    clear hK K
    · simp only [Act.put, K.put3]
      refine wpD_only 3 [] rfl (by kernel_rfl) (by kernel_rfl) (by rfl) (fun K3 hK3 => ?_)
      refine wp_valD (.iface t u) (by go_simp) ?_
      refine hK3 _ _ (Facts.nil_hold _) ?_
      clear hK3 K3
      clear c7 f7
      try (simp only [Act.put, K.put3])
      have hold : Facts.hold [] w7 := Facts.nil_hold _
      (refine wpD_plain 4 (v := (.agg #[.string (sb f), .string (sb s), .iface t u])) rfl (by kernel_rfl) (by kernel_rfl) (by kernel_rfl) (fun _ _ _ h => h) (by rfl) ?_ (by assumption) ?_; (intro _w; go_simp; skip); simp only [Act.put, K.put3])
      clear hold
      refine wpD_only 5 [] rfl (by kernel_rfl) (by kernel_rfl) (by rfl) (fun K5 hK5 => ?_)
      refine wp_boxD _ _ rfl (.agg #[.string (sb f), .string (sb s), .iface t u]) rfl [.string (sb f), .string (sb s), .iface t u] rfl ?_
      intro w8 HB8 HF8 HS8
      refine hK5 _ _ (Facts.nil_hold _) ?_
      clear hK5 K5
      simp only [Act.put, K.put3]
      have hold : Facts.hold [] w8 := Facts.nil_hold _
      (refine wpD_plain 6 (v := ?_) rfl (by kernel_rfl) (by kernel_rfl) (by kernel_rfl) (fun _ _ _ h => h) (by rfl) ?_ (by assumption) ?_; rotate_left; (intro _w; go_simp; try with_reducible rfl); simp only [Act.put, K.put3])
      clear hold
      refine wpD_done (by kernel_rfl) ?_ _
      go_wp2_with fail
      go_ret
      exact ⟨⟨_, rfl⟩, HFR.out.trans' HF8.out⟩
  · intro K hK
    refine wp_valD (.iface t u) (by have c0 : w.drew.cell? ⟨1, 0, none⟩ = some (.iface t u) := HC.out; go_simp) ?_
    refine hK _ _ (Facts.nil_hold _) ?_
    clear hK K
    simp only [Act.put, K.put3]
    refine wpD_only 2 [] rfl (by kernel_rfl) (by kernel_rfl) (by rfl) (fun K2 hK2 => ?_)
    refine wp_call (.func 197) _ _ rfl 197 [] rfl (fun vs w => by kernel_rfl) [.string (sb s)] (by rfl) ?_
    refine (cloneL_any s w.drew (by have := HS.out; unfold Sz at this; omega)).mono ?_
    rintro e w7 ⟨rfl, f7⟩
    have HFR := hid ((Fr.refl No w).drew.trans' f7)
    refine ⟨_, rfl, hK2 _ _ (Facts.nil_hold _) ?_⟩
    clear hK2 K2
    · try (simp only [Act.put, K.put3])
      have hold : Facts.hold [] w7 := Facts.nil_hold _
      (refine wpD_plain 4 (v := (.agg #[.string (sb f), .string (sb s), .iface t u])) rfl (by kernel_rfl) (by kernel_rfl) (by kernel_rfl) (fun _ _ _ h => h) (by rfl) ?_ (by assumption) ?_; (intro _w; go_simp; skip); simp only [Act.put, K.put3])
      clear hold
      refine wpD_only 5 [] rfl (by kernel_rfl) (by kernel_rfl) (by rfl) (fun K5 hK5 => ?_)
      refine wp_boxD _ _ rfl (.agg #[.string (sb f), .string (sb s), .iface t u]) rfl [.string (sb f), .string (sb s), .iface t u] rfl ?_
      intro w8 HB8 HF8 HS8
      refine hK5 _ _ (Facts.nil_hold _) ?_
      clear hK5 K5
      simp only [Act.put, K.put3]
      have hold : Facts.hold [] w8 := Facts.nil_hold _
      (refine wpD_plain 6 (v := ?_) rfl (by kernel_rfl) (by kernel_rfl) (by kernel_rfl) (fun _ _ _ h => h) (by rfl) ?_ (by assumption) ?_; rotate_left; (intro _w; go_simp; try with_reducible rfl); simp only [Act.put, K.put3])
      clear hold
      refine wpD_done (by kernel_rfl) ?_ _
      go_wp2_with fail
      go_ret
      exact ⟨⟨_, rfl⟩, HFR.out.trans' HF8.out⟩
/-- What is told of two digits: an error is never nil. -/
def ToldU (l : B) (e : Ending) : Prop := match hexs 0 l with
  | some n => e = .returned (.tuple #[.int .u64 (n : Int), .nilIface])
  | none => ∃ t u, e = .returned (.tuple #[.int .u64 0, .iface t u])
set_option maxHeartbeats 4000000 in
theorem toError_any (f s : B) (hs : Sz s) (w : World) (hG : Gl w) : Calls Tryz.prog 123 #[.string (sb f), .string (sb s), .int .i64 16, .int .i64 8, .iface 214 (.int .i64 2)] w fun e w' => (∃ t u, e = .returned (.iface t u)) ∧ Fr No w w' := by
  have H := hid (syntaxError_any f s hs w hG)
  clear hs hG
  go_enter Tryz.func123, Tryz.ntmps123
  go_wp2_with (first | ((with_reducible refine K.atO (.binOp .eql 131 _ _ _) ?_); refine wpL_valZ rfl (.bool true) (by kernel_rfl) ?_) | fail)
  refine H.out.mono ?_
  rintro e w1 ⟨⟨b, rfl⟩, f1⟩
  have HF := hid f1
  clear f1
  go_wp2_with fail
  go_ret
  exact ⟨⟨_, _, rfl⟩, HF.out⟩
set_option maxHeartbeats 4000000 in
theorem parseUint_any (x y : UInt8) (w : World) (hG : Gl w) : Calls Tryz.prog 243 #[.string (sb [x, y]), .int .i64 16, .int .i64 8] w fun e w' => ToldU [x, y] e ∧ Fr No w w' := by
  have H := hid (iparse_any x y w)
  have HG := hid hG
  have HZ : Hid (Sz [x, y]) := hid (by unfold Sz; simp)
  unfold ToldU
  clear hG
  cases hr : hexs 0 [x, y] with
  | some n =>
    rw [hr] at H
    clear hr
    go_enter Tryz.func243, Tryz.ntmps243
    go_wp2_with fail
    refine H.out.mono ?_
    rintro e w1 ⟨rfl, f1⟩
    have HF := hid f1
    clear f1
    unfold puR
    go_wp2_with fail
    go_ret2
    exact ⟨rfl, HF.out⟩
  | none =>
    rw [hr] at H
    clear hr
    go_enter Tryz.func243, Tryz.ntmps243
    go_wp2_with fail
    refine H.out.mono ?_
    rintro e w1 ⟨rfl, f1⟩
    have HF := hid f1
    clear f1
    unfold puR
    go_wp2_with fail
    refine (toError_any [80, 97, 114, 115, 101, 85, 105, 110, 116] [x, y] HZ.out w1 (HG.out.no HF.out)).mono ?_
    rintro e w2 ⟨⟨t, u, rfl⟩, f2⟩
    have HF2 := hid (HF.out.trans' f2)
    clear f2
    go_wp2_with fail
    go_ret2
    exact ⟨⟨_, _, rfl⟩, HF2.out⟩
end Go.Proofs.YtdkkpfeiaaffhaaGreatDoor.DN

namespace Go.Proofs.YtdkkpfeiaaffhaaGreatDoor.DN
set_option maxRecDepth 100000
open Go.ChangeShapes Go.WideShapes Go.ChangeAt Go.RowKit K Go.Proofs.YtdkkpfeiaaffhaaGreatDoor.BE

def laid : List (String × DataW Unit) := [("math/bits.deBruijn32tab", Rows.laid_math_bits_deBruijn32tab), ("math/bits.deBruijn64tab", Rows.laid_math_bits_deBruijn64tab), ("internal/strconv.uint64pow10", Rows.laid_internal_strconv_uint64pow10), ("strconv.ErrRange", Rows.laid_strconv_ErrRange), ("strconv.ErrSyntax", Rows.laid_strconv_ErrSyntax)]
theorem gSyn : Tryz.prog.globalNamed "strconv.ErrSyntax" = some 1 := by kernel_rfl
theorem gSynT : (Tryz.prog.globals[1]?).map (·.type) = some 131 := by kernel_rfl
theorem starE : "*" ++ "errors.errorString" = "*errors.errorString" := by decide
theorem rowES (u : TypeId) (h : Tryz.prog.typeName? 3 u = some "*errors.errorString") : u = 269 :=
  typeName_ptr_named (nm := "errors.errorString") (by rw [starE]; kernel_rfl) (by kernel_rfl) (by decide) u (by rw [starE]; exact h)
theorem cES : Tryz.prog.cellsOf 271 = 1 := by kernel_rfl
theorem gl_of {W : World} (h : laidMetH Tryz.prog laid W) : Gl W := by
  have h0 : laidMet Tryz.prog laid W := h
  obtain ⟨a, s, hv, -⟩ := laid_sentinel (r := []) (nm := "*errors.errorString") h0.tail.tail.tail.tail gSyn gSynT Tryz.underlying131 rowES Tryz.underlying269 Tryz.underlying271 rfl rfl Tryz.underlying9 cES cS
  exact ⟨_, _, by simpa using World.var?_cell gSyn hv 0⟩
def cellsD : DataW Unit → Array Value
  | .agg xs => (xs.map fun
    | .lit (.int k n) => Value.int k n
    | _ => undef).toArray
  | _ => #[]
def lay (cs : Array Value) : Obj → Obj
  | .cells _ t frozen => .cells cs t frozen
  | o => o
noncomputable def lowG : Nat := (World.holding Tryz.prog default ⟨#[], #[], []⟩).heap.size
noncomputable def laidWorld (os : Os) : World :=
  let w0 := World.holding Tryz.prog os ⟨#[.cells #[.string (sb [118, 97, 108, 117, 101, 32, 111, 117, 116, 32, 111, 102, 32, 114, 97, 110, 103, 101])] 271, .cells #[.string (sb [105, 110, 118, 97, 108, 105, 100, 32, 115, 121, 110, 116, 97, 120])] 271], #[], []⟩
  { w0 with heap := ((((w0.heap.modify 4 (lay (cellsD Rows.laid_math_bits_deBruijn32tab))).modify 5 (lay (cellsD Rows.laid_math_bits_deBruijn64tab))).modify 3 (lay (cellsD Rows.laid_internal_strconv_uint64pow10))).modify 2 (lay #[.iface 269 (.pointer (some ⟨lowG, 0, none⟩))])).modify 1 (lay #[.iface 269 (.pointer (some ⟨lowG + 1, 0, none⟩))]) }
theorem laid_met (os : Os) : laidMet Tryz.prog laid ((laidWorld os).forCall (fun _ _ => 0) ⟨#[], #[.string ⟨#[]⟩, .string ⟨#[]⟩], []⟩).memory :=
  laidMet_of_run' 8 (by kernel_rfl) (by kernel_rfl)
end Go.Proofs.YtdkkpfeiaaffhaaGreatDoor.DN

namespace Go.Proofs.YtdkkpfeiaaffhaaGreatDoor.SC
set_option maxRecDepth 100000
open Go.Proofs.YtdkkpfeiaaffhaaGreatDoor.BE Go.Proofs.YtdkkpfeiaaffhaaGreatDoor.DN

/-- A type: its name, its syntax, the four marks. -/
structure Ty where
  nm : B
  syn : Int
  one : Bool
  shut : Bool
  sys : Bool
  share : Bool
  deriving DecidableEq
/-- A class. -/
structure Cl where
  nm : B
  kind : Int
  sup : B
  must : List B
  may : List B
  deriving DecidableEq
structure Sch where
  tys : List Ty
  cls : List Cl
abbrev Atr := B × List B
abbrev Ent := List Atr
/-! ### Names -/
/-- The first place of a name, whatever its letters' case. -/
def fnd (L : List B) (s : B) : Option Nat := L.findIdx? fun n => low n == low s
def Sch.tn (s : Sch) : List B := s.tys.map (·.nm)
def Sch.cn (s : Sch) : List B := s.cls.map (·.nm)
def Sch.tyAt (s : Sch) (n : B) : Option Nat := fnd s.tn n
def Sch.clAt (s : Sch) (n : B) : Option Nat := fnd s.cn n
/-! ### Which may be -/
def newN (seen : List B) (n : B) : Bool := typ n && (fnd seen n).isNone
def rTy : List B → List Ty → Bool
  | _, [] => true
  | seen, t :: r => newN seen t.nm && (decide (1 ≤ t.syn) && decide (t.syn ≤ 5)) && rTy (seen ++ [t.nm]) r
def supOk (seen : List Cl) (c : Cl) : Bool :=
  if c.sup = [] then true else
  match fnd (seen.map (·.nm)) c.sup with
  | none => false
  | some i => match seen[i]? with
    | none => false
    | some d => d.kind == 0 || d.kind == c.kind
def has (tn : List B) (l : List B) : Bool := l.all fun m => (fnd tn m).isSome
def rCl (tn : List B) : List Cl → List Cl → Bool
  | _, [] => true
  | seen, c :: r => newN (seen.map (·.nm)) c.nm && (decide (0 ≤ c.kind) && decide (c.kind ≤ 2)) && supOk seen c && has tn c.must && has tn c.may && rCl tn (seen ++ [c]) r
/-- "objectclass". -/
def oc : B := [111, 98, 106, 101, 99, 116, 99, 108, 97, 115, 115]
def rFirst (t : Ty) : Bool := decide (low t.nm = oc) && (t.syn == 1 && !t.one && !t.shut && !t.sys && !t.share)
def okS (s : Sch) : Bool :=
  decide (1 ≤ s.tys.length) && decide (s.tys.length ≤ 40) && decide (s.cls.length ≤ 20) && ((match s.tys with | [] => false | t :: _ => rFirst t) && rTy [] s.tys && rCl s.tn [] s.cls)
/-! ### Values -/
def isD (c : UInt8) : Bool := decide (48 ≤ c.toNat) && decide (c.toNat ≤ 57)
/-- What digits are worth, behind some. -/
def valD (n : Nat) (l : B) : Nat := l.foldl (fun n c => 10 * n + (c.toNat - 48)) n
/-- One to nine digits, the first of which is not 0. -/
def isDs (l : B) : Bool := l.all isD && decide (1 ≤ l.length) && decide (l.length ≤ 9) && decide (l.head? ≠ some 48)
def numV (v : B) : Option Int :=
  if v = [48] then some 0 else
  match v with
  | [] => none
  | c :: r => if c.toNat = 45 then (if isDs r then some (-(valD 0 r : Int)) else none) else (if isDs (c :: r) then some (valD 0 (c :: r) : Int) else none)
def tTrue : B := [116, 114, 117, 101]
def tFalse : B := [102, 97, 108, 115, 101]
def truth (v : B) : Option B := if low v = tTrue then some [84, 82, 85, 69] else if low v = tFalse then some [70, 65, 76, 83, 69] else none
def normV (syn : Int) (v : B) : Option B :=
  if 200 < v.length then none
  else if syn = 1 then (if fold v = [] then none else some (fold v))
  else if syn = 2 then some v
  else if syn = 3 then (numV v).map fun _ => v
  else if syn = 4 then (if (parse v).2 = 0 then some (key (parse v).1) else none)
  else truth v
/-- What a lookup by a type's name tells: the norm, or an error. -/
def normE (s : Sch) (n v : B) : B × Int :=
  match (s.tyAt n).bind fun i => s.tys[i]? with
  | none => ([], 131)
  | some t => match normV t.syn v with
    | none => ([], 132)
    | some x => (x, 0)
def sgn (m n : Int) : Int := if m < n then -1 else if n < m then 1 else 0
def cmpV (syn : Int) (x y : B) : Int := if syn = 3 then sgn ((numV x).getD 0) ((numV y).getD 0) else Lib.compareBytes x y
def synOf (s : Sch) (n : B) : Int := ((s.tyAt n).bind fun i => s.tys[i]?).elim 0 (·.syn)
def cmpE (s : Sch) (n a b : B) : Int × Int :=
  if (normE s n a).2 = 0 then (if (normE s n b).2 = 0 then (cmpV (synOf s n) (normE s n a).1 (normE s n b).1, 0) else (0, (normE s n b).2)) else (0, (normE s n a).2)
/-! ### Entries -/
/-- All values have norms, unlike, and unlike those that were seen. -/
def okVals (syn : Int) : List B → List B → Bool
  | _, [] => true
  | seen, v :: r => match normV syn v with
    | none => false
    | some n => !(seen.contains n) && okVals syn (seen ++ [n]) r
def chkVals (t : Ty) (vs : List B) : Int :=
  if vs = [] then 132 else if okVals t.syn [] vs then (if t.one ∧ 1 < vs.length then 136 else 0) else 132
abbrev Set := Nat → Bool
def none_ : Set := fun _ => false
def put (f : Set) (i : Nat) : Set := fun j => f j || decide (j = i)
def puts (f : Set) (l : List Nat) : Set := l.foldl put f
def chkAts (s : Sch) : Set → Ent → Set × Int
  | f, [] => (f, 0)
  | f, a :: r =>
    match s.tyAt a.1 with
    | none => (none_, 131)
    | some i => if f i then (none_, 131) else
      match s.tys[i]? with
      | none => (none_, 131)
      | some t => if chkVals t a.2 = 0 then chkAts s (put f i) r else (none_, chkVals t a.2)
/-- A class's Sup. -/
def supAt (s : Sch) (k : Nat) : Option Nat := s.cls[k]?.bind fun c => s.clAt c.sup
def lineF (s : Sch) : Nat → Nat → List Nat
  | 0, k => [k]
  | f + 1, k => k :: match supAt s k with
    | none => []
    | some j => lineF s f j
/-- A class and all above it. -/
def line (s : Sch) (k : Nat) : List Nat := lineF s k k
/-- One more value of objectClass. -/
def clStep (s : Sch) (f : Set) (all : Bool) (v : B) : Set × Bool :=
  match (normV 1 v).bind s.clAt with
  | none => (f, false)
  | some k => (puts f (line s k), all)
def clVals (s : Sch) : Set → Bool → List B → Set × Bool
  | f, all, [] => (f, all)
  | f, all, v :: r => clVals s (clStep s f all v).1 (clStep s f all v).2 r
def classesOf (s : Sch) (en : Ent) : Set × Bool :=
  match en.find? fun a => decide (s.tyAt a.1 = some 0) with
  | none => (none_, true)
  | some a => clVals s none_ true a.2
/-- The structural ones of a set of classes. -/
def strs1 (s : Sch) (f : Set) : List Nat := (List.range s.cls.length).filter fun k => f k && decide (s.cls[k]?.map (·.kind) = some 1)
def chain (s : Sch) (f : Set) : Bool :=
  match (strs1 s f).getLast? with
  | none => false
  | some k => (strs1 s f).all fun j => puts none_ (line s k) j
def ats (s : Sch) (l : List B) : List Nat := l.map fun n => (s.tyAt n).getD 0
/-- What the classes of a set, the first n of them, ask for. -/
def mustF (s : Sch) (f : Set) : Nat → Set
  | 0 => none_
  | n + 1 => if f n then puts (mustF s f n) (ats s ((s.cls[n]?.map (·.must)).getD [])) else mustF s f n
def mayF (s : Sch) (f : Set) : Nat → Set
  | 0 => none_
  | n + 1 => if f n then puts (mayF s f n) (ats s ((s.cls[n]?.map (·.may)).getD [])) else mayF s f n
def okMust (s : Sch) (pr f : Set) : Bool := (List.range 40).all fun i => !(mustF s f s.cls.length i && !pr i)
def okMay1 (s : Sch) (pr f : Set) (i : Nat) (t : Ty) : Bool := !(pr i && !t.sys && !decide (i = 0) && !mustF s f s.cls.length i && !mayF s f s.cls.length i)
def okMayF (s : Sch) (pr f : Set) : Nat → List Ty → Bool
  | _, [] => true
  | i, t :: r => okMay1 s pr f i t && okMayF s pr f (i + 1) r
def chkTys (s : Sch) (pr f : Set) : Int := if okMust s pr f then (if okMayF s pr f 0 s.tys then 0 else 135) else 134
def check (s : Sch) (en : Ent) : Int :=
  if (chkAts s none_ en).2 = 0 then
    if (classesOf s en).2 && chain s (classesOf s en).1 then chkTys s (chkAts s none_ en).1 (classesOf s en).1 else 133
  else (chkAts s none_ en).2
def isA (s : Sch) (en : Ent) (c : B) : Bool :=
  match s.clAt c with
  | none => false
  | some k => (classesOf s en).1 k
end Go.Proofs.YtdkkpfeiaaffhaaGreatDoor.SC

namespace Go.Proofs.YtdkkpfeiaaffhaaGreatDoor.SC
set_option maxRecDepth 100000
open Go.Proofs.YtdkkpfeiaaffhaaGreatDoor.BE Go.Proofs.YtdkkpfeiaaffhaaGreatDoor.DN

theorem valD_snoc (n : Nat) (l : B) (c : UInt8) : valD n (l ++ [c]) = 10 * valD n l + (c.toNat - 48) := by simp [valD]
theorem valD_lt : ∀ (l : B) (n : Nat), (∀ c ∈ l, c.toNat ≤ 57) → valD n l < (n + 1) * 10 ^ l.length
  | [], n, _ => by simp [valD]
  | c :: r, n, h => by
    have h1 := h c List.mem_cons_self
    have ih := valD_lt r (10 * n + (c.toNat - 48)) (fun d hd => h d (List.mem_cons_of_mem _ hd))
    have : valD n (c :: r) = valD (10 * n + (c.toNat - 48)) r := rfl
    rw [this, List.length_cons, Nat.pow_succ]
    refine Nat.lt_of_lt_of_le ih ?_
    have h2 : 10 * n + (c.toNat - 48) + 1 ≤ (n + 1) * 10 := by omega
    calc _ ≤ (n + 1) * 10 * 10 ^ r.length := Nat.mul_le_mul_right _ h2
      _ = _ := by rw [Nat.mul_assoc, Nat.mul_comm 10]
theorem isD_of {c : UInt8} (h : isD c = true) : 48 ≤ c.toNat ∧ c.toNat ≤ 57 := by
  simpa [isD] using h
theorem isDs_of {l : B} (h : isDs l = true) : (∀ c ∈ l, 48 ≤ c.toNat ∧ c.toNat ≤ 57) ∧ 1 ≤ l.length ∧ l.length ≤ 9 ∧ l.head? ≠ some 48 := by
  simp only [isDs, Bool.and_eq_true, List.all_eq_true, decide_eq_true_eq] at h
  exact ⟨fun c hc => isD_of (h.1.1.1 c hc), h.1.1.2, h.1.2, h.2⟩
theorem valD_b {l : B} (h : isDs l = true) : valD 0 l ≤ 999999999 := by
  obtain ⟨h1, h2, h3, -⟩ := isDs_of h
  have := valD_lt l 0 (fun c hc => (h1 c hc).2)
  have h4 : 10 ^ l.length ≤ 10 ^ 9 := Nat.pow_le_pow_right (by decide) h3
  have h5 : (10 : Nat) ^ 9 = 1000000000 := by decide
  omega
/-- What Atoi reads of digits. -/
theorem parse10 : ∀ (l : B) (acc : Nat), (∀ c ∈ l, 48 ≤ c.toNat ∧ c.toNat ≤ 57) → (acc + 1) * 10 ^ l.length ≤ 1000000000 → Lib.parseUint10 acc l = .ok (valD acc l)
  | [], acc, _, _ => rfl
  | c :: r, acc, h, hb => by
    obtain ⟨h1, h2⟩ := h c List.mem_cons_self
    rw [List.length_cons, Nat.pow_succ] at hb
    have hp : 1 ≤ 10 ^ r.length := Nat.one_le_pow _ _ (by decide)
    have hle : (acc + 1) * 10 ≤ 1000000000 := by
      refine Nat.le_trans ?_ hb
      rw [Nat.mul_comm (10 ^ r.length) 10, ← Nat.mul_assoc]
      exact Nat.le_mul_of_pos_right _ hp
    have hb' : (acc * 10 + (c.toNat - 48) + 1) * 10 ^ r.length ≤ 1000000000 := by
      refine Nat.le_trans ?_ hb
      rw [Nat.mul_comm (10 ^ r.length) 10, ← Nat.mul_assoc]
      exact Nat.mul_le_mul_right _ (by omega)
    unfold Lib.parseUint10
    rw [if_pos ⟨h1, h2⟩, if_neg (by omega), if_neg (by omega), parse10 r _ (fun d hd => h d (List.mem_cons_of_mem _ hd)) hb']
    show _ = Lib.NumEnd.ok (valD (10 * acc + (c.toNat - 48)) r)
    rw [Nat.mul_comm acc 10]
theorem mag {l : B} (h : isDs l = true) : Lib.parseMag l = .ok (valD 0 l) := by
  obtain ⟨h1, h2, h3, -⟩ := isDs_of h
  unfold Lib.parseMag
  rw [if_neg (by intro e; subst e; simp at h2)]
  refine parse10 l 0 h1 ?_
  have : 10 ^ l.length ≤ 10 ^ 9 := Nat.pow_le_pow_right (by decide) h3
  have h5 : (10 : Nat) ^ 9 = 1000000000 := by decide
  omega
theorem dgt_of {c : UInt8} {u : Nat} (h : c.toNat = 48 + u) : UInt8.ofNat (48 + u) = c := by rw [← h]; exact UInt8.ofNat_toNat
/-- Digits of which the first is not 0 are what Itoa writes of what they are worth. -/
theorem dec_val : ∀ (n : Nat) (l : B), l.length = n → (∀ c ∈ l, 48 ≤ c.toNat ∧ c.toNat ≤ 57) → 1 ≤ n → l.head? ≠ some 48 → Lib.decDigits (valD 0 l) = l ∧ 0 < valD 0 l
  | 0, _, _, _, h, _ => by omega
  | n + 1, l, hl, hd, _, h0 => by
    obtain ⟨r, c, rfl⟩ : ∃ r c, l = r ++ [c] := ⟨l.dropLast, l.getLast (by intro e; subst e; simp at hl), (List.dropLast_concat_getLast _).symm⟩
    have hc := hd c (by simp)
    have hrl : r.length = n := by simpa using hl
    rw [valD_snoc]
    by_cases hr : r = []
    · subst hr
      have hne : c.toNat ≠ 48 := fun e => h0 (by simp; exact UInt8.toNat_inj.1 (by rw [e]; rfl))
      have hv : 10 * valD 0 [] + (c.toNat - 48) = c.toNat - 48 := by simp [valD]
      rw [hv]
      refine ⟨?_, by omega⟩
      rw [Lib.decDigits, dif_pos (by omega)]
      exact congrArg (· :: []) (dgt_of (by omega))
    · have hn : 1 ≤ n := by rw [← hrl]; exact List.length_pos_iff.2 hr
      have hh : r.head? ≠ some 48 := by
        intro e
        apply h0
        cases r with
        | nil => cases e
        | cons a r => simpa using e
      obtain ⟨i1, i2⟩ := dec_val n r hrl (fun d hdm => hd d (by simp [hdm])) hn hh
      refine ⟨?_, by omega⟩
      rw [Lib.decDigits, dif_neg (by omega), show (10 * valD 0 r + (c.toNat - 48)) / 10 = valD 0 r by omega, i1, show (10 * valD 0 r + (c.toNat - 48)) % 10 = c.toNat - 48 by omega, dgt_of (c := c) (by omega)]
/-- What Itoa writes of a number with at most k digits. -/
theorem dec_is : ∀ (k u : Nat), u < 10 ^ k → 1 ≤ k → (∀ c ∈ Lib.decDigits u, isD c = true) ∧ 1 ≤ (Lib.decDigits u).length ∧ (Lib.decDigits u).length ≤ k ∧ (0 < u → (Lib.decDigits u).head? ≠ some 48)
  | 0, _, _, h => by omega
  | k + 1, u, hu, _ => by
    rw [Lib.decDigits]
    have hdig : ∀ x, x < 10 → isD (UInt8.ofNat (48 + x)) = true := fun x hx => by
      have : (UInt8.ofNat (48 + x)).toNat = 48 + x := by rw [UInt8.toNat_ofNat']; omega
      unfold isD
      rw [this]
      simp
      omega
    have hne : ∀ x, 0 < x → x < 10 → UInt8.ofNat (48 + x) ≠ 48 := fun x h0 hx e => by
      have : (UInt8.ofNat (48 + x)).toNat = 48 + x := by rw [UInt8.toNat_ofNat']; omega
      rw [e] at this
      have e2 : (48 : UInt8).toNat = 48 := rfl
      omega
    split
    · rename_i h
      refine ⟨fun c hc => ?_, by simp, by simp, fun h0 => ?_⟩
      · rw [List.mem_singleton] at hc
        subst hc
        exact hdig u h
      · simpa using hne u h0 h
    · rename_i h
      have hk : 1 ≤ k := by
        rcases Nat.eq_zero_or_pos k with rfl | hk
        · simp at hu; omega
        · exact hk
      obtain ⟨i1, i2, i3, i4⟩ := dec_is k (u / 10) (by rw [Nat.pow_succ] at hu; omega) hk
      refine ⟨fun c hc => ?_, by simp, by simp; exact i3, fun _ => ?_⟩
      · rcases List.mem_append.1 hc with hc | hc
        · exact i1 c hc
        · rw [List.mem_singleton] at hc
          subst hc
          exact hdig _ (Nat.mod_lt _ (by decide))
      · have := i4 (by omega)
        cases hd : Lib.decDigits (u / 10) with
        | nil => rw [hd] at i2; simp at i2
        | cons a r => rw [hd] at this; simpa using this
theorem dec_ds {u : Nat} (h0 : 0 < u) (hu : u ≤ 999999999) : isDs (Lib.decDigits u) = true := by
  have h5 : (10 : Nat) ^ 9 = 1000000000 := by decide
  obtain ⟨h1, h2, h3, h4⟩ := dec_is 9 u (by rw [h5]; omega) (by decide)
  unfold isDs
  simp only [Bool.and_eq_true, List.all_eq_true, decide_eq_true_eq]
  exact ⟨⟨⟨h1, h2⟩, h3⟩, h4 h0⟩
theorem dec_zero : Lib.decDigits 0 = [48] := by rw [Lib.decDigits]; rfl
/-- The tie. -/
theorem num_ok {v : B} {n : Int} (h : Lib.atoiAll v = .ok n) (hi : Lib.itoa n = v) (h1 : -999999999 ≤ n) (h2 : n ≤ 999999999) : numV v = some n := by
  unfold Lib.itoa at hi
  by_cases hn : n < 0
  · rw [if_pos hn] at hi
    have hds := dec_ds (u := n.natAbs) (by omega) (by omega)
    obtain ⟨hd, hl, -, hh⟩ := isDs_of hds
    obtain ⟨e1, -⟩ := dec_val _ _ rfl hd hl hh
    have hval : valD 0 (Lib.decDigits n.natAbs) = n.natAbs := by
      have ha : Lib.atoiAll v = .ok (-(valD 0 (Lib.decDigits n.natAbs) : Int)) := by
        rw [← hi]
        unfold Lib.atoiAll
        have := valD_b hds
        simp only [show (45 : UInt8).toNat = 45 from rfl, or_true, if_true, mag hds, not_true, false_and, if_false, true_and]
        rw [if_neg (by omega)]
      rw [h] at ha
      injection ha with ha
      omega
    rw [← hi]
    unfold numV
    rw [if_neg (by intro e; cases e)]
    simp only [show (45 : UInt8).toNat = 45 from rfl, if_true, hds, hval]
    congr 1
    omega
  · rw [if_neg hn] at hi
    by_cases h0 : n = 0
    · subst h0
      rw [show (0 : Int).toNat = 0 from rfl, dec_zero] at hi
      subst hi
      rfl
    · have hds := dec_ds (u := n.toNat) (by omega) (by omega)
      obtain ⟨hd, hl, -, hh⟩ := isDs_of hds
      rw [hi] at hds hd hl hh
      cases v with
      | nil => simp at hl
      | cons c r =>
        have hc := hd c List.mem_cons_self
        have hc48 : c ≠ 48 := fun e => hh (by rw [e]; rfl)
        have hval : (valD 0 (c :: r) : Int) = n := by
          have ha : Lib.atoiAll (c :: r) = .ok (valD 0 (c :: r) : Int) := by
            unfold Lib.atoiAll
            have := valD_b hds
            simp only []
            rw [if_neg (by omega), mag hds]
            simp only []
            rw [if_neg (by omega), if_neg (by omega), if_neg (by omega)]
          rw [h] at ha
          injection ha with ha
          exact ha.symm
        unfold numV
        rw [if_neg (by intro e; cases e; exact hc48 rfl)]
        simp only []
        rw [if_neg (by omega), if_pos hds, hval]
theorem num_back {v : B} {n : Int} (h : numV v = some n) : Lib.atoiAll v = .ok n ∧ Lib.itoa n = v ∧ -999999999 ≤ n ∧ n ≤ 999999999 := by
  unfold numV at h
  split at h
  · rename_i e
    subst e
    cases h
    exact ⟨rfl, by unfold Lib.itoa; rw [if_neg (by decide)]; exact dec_zero, by decide, by decide⟩
  · split at h
    · cases h
    · rename_i c r hne
      split at h
      · rename_i hc
        split at h
        · rename_i hds
          cases h
          have hb := valD_b hds
          obtain ⟨hd, hl, -, hh⟩ := isDs_of hds
          obtain ⟨e1, e2⟩ := dec_val _ _ rfl hd hl hh
          have hcc : c = 45 := UInt8.toNat_inj.1 hc
          subst hcc
          refine ⟨?_, ?_, by omega, by omega⟩
          · unfold Lib.atoiAll
            simp only [show (45 : UInt8).toNat = 45 from rfl, or_true, if_true, mag hds, not_true, false_and, if_false, true_and]
            rw [if_neg (by omega)]
          · unfold Lib.itoa
            rw [if_pos (by omega), show (-(valD 0 r : Int)).natAbs = valD 0 r by omega, e1]
        · cases h
      · rename_i hc
        split at h
        · rename_i hds
          cases h
          have hb := valD_b hds
          obtain ⟨hd, hl, -, hh⟩ := isDs_of hds
          obtain ⟨e1, e2⟩ := dec_val _ _ rfl hd hl hh
          have hcd := hd c List.mem_cons_self
          refine ⟨?_, ?_, by omega, by omega⟩
          · unfold Lib.atoiAll
            simp only []
            rw [if_neg (by omega), mag hds]
            simp only []
            rw [if_neg (by omega), if_neg (by omega), if_neg hc]
          · unfold Lib.itoa
            rw [if_neg (by omega), Int.toNat_natCast, e1]
        · cases h
end Go.Proofs.YtdkkpfeiaaffhaaGreatDoor.SC

namespace Go.Proofs.YtdkkpfeiaaffhaaGreatDoor.SC
set_option maxRecDepth 100000
open Go.RowKit K Go.Proofs.YtdkkpfeiaaffhaaGreatDoor.BE Go.Proofs.YtdkkpfeiaaffhaaGreatDoor.DN

/-! ### Rows -/
def StC (x : B) (cs : List Value) : Prop := cs = [.string (sb x)] ∧ Sz x
def LsIn (S : Nat → Prop) (w : World) (v : Value) (l : List B) : Prop := Sl 1 StC S w v l
def tyV (t : Ty) : List Value := [.string (sb t.nm), .int .i64 t.syn, .bool t.one, .bool t.shut, .bool t.sys, .bool t.share]
def TyC (t : Ty) (cs : List Value) : Prop := cs = tyV t ∧ Sz t.nm
def TysIn (S : Nat → Prop) (w : World) (v : Value) (l : List Ty) : Prop := Sl 6 TyC S w v l
/-- Its lists take no more bytes than there may be. -/
def LB (c : Cl) : Prop := c.must.length * 16 ≤ 140737488351232 ∧ c.may.length * 16 ≤ 140737488351232
def ClC (S : Nat → Prop) (w : World) (c : Cl) (cs : List Value) : Prop := ∃ v1 v2, cs = [.string (sb c.nm), .int .i64 c.kind, .string (sb c.sup), v1, v2] ∧ Sz c.nm ∧ Sz c.sup ∧ LsIn S w v1 c.must ∧ LsIn S w v2 c.may ∧ LB c
def ClsIn (S : Nat → Prop) (w : World) (v : Value) (l : List Cl) : Prop := Sl 5 (ClC S w) S w v l
def AtC (S : Nat → Prop) (w : World) (a : Atr) (cs : List Value) : Prop := ∃ v, cs = [.string (sb a.1), v] ∧ Sz a.1 ∧ LsIn S w v a.2
def EnIn (S : Nat → Prop) (w : World) (v : Value) (en : Ent) : Prop := Sl 2 (AtC S w) S w v en
section
variable {S S' D : Nat → Prop} {w w' : World} {v : Value}
theorem LsIn.fr {l : List B} (h : LsIn S w v l) (hf : Fr D w w') (hd : ∀ i, S i → i < w.heap.size → ¬ D i) : LsIn S w' v l := Sl.fr h hf hd fun _ _ _ h => h
theorem TysIn.fr {l : List Ty} (h : TysIn S w v l) (hf : Fr D w w') (hd : ∀ i, S i → i < w.heap.size → ¬ D i) : TysIn S w' v l := Sl.fr h hf hd fun _ _ _ h => h
theorem ClC.fr {c : Cl} {cs : List Value} (h : ClC S w c cs) (hf : Fr D w w') (hd : ∀ i, S i → i < w.heap.size → ¬ D i) : ClC S w' c cs := by
  obtain ⟨v1, v2, e, h1, h2, h3, h4, h5⟩ := h
  exact ⟨v1, v2, e, h1, h2, h3.fr hf hd, h4.fr hf hd, h5⟩
theorem ClsIn.fr {l : List Cl} (h : ClsIn S w v l) (hf : Fr D w w') (hd : ∀ i, S i → i < w.heap.size → ¬ D i) : ClsIn S w' v l := Sl.fr h hf hd fun _ _ _ h => h.fr hf hd
theorem AtC.fr {a : Atr} {cs : List Value} (h : AtC S w a cs) (hf : Fr D w w') (hd : ∀ i, S i → i < w.heap.size → ¬ D i) : AtC S w' a cs := by
  obtain ⟨v, e, h1, h2⟩ := h
  exact ⟨v, e, h1, h2.fr hf hd⟩
theorem EnIn.fr {l : Ent} (h : EnIn S w v l) (hf : Fr D w w') (hd : ∀ i, S i → i < w.heap.size → ¬ D i) : EnIn S w' v l := Sl.fr h hf hd fun _ _ _ h => h.fr hf hd
theorem Sl.mono {α : Type} {k : Nat} {p p' : α → List Value → Prop} {xs : List α} (h : Sl k p S w v xs) (hs : ∀ i, S i → i < w.heap.size → S' i) (hp : ∀ x c, x ∈ xs → p x c → p' x c) : Sl k p' S' w v xs := by
  obtain ⟨a, cap, h1, h2, h3, h4⟩ := h
  exact ⟨a, cap, h1, h2, h3, h4.imp id fun ⟨g, o, L, e, hS, h5, h6, h7, h8, h9⟩ => ⟨g, o, L, e, hs g hS h5, h5, h6, h7, h8, fun j x c hx hc => hp x c (List.mem_of_getElem? hx) (h9 j x c hx hc)⟩⟩
theorem LsIn.mono {l : List B} (h : LsIn S w v l) (hs : ∀ i, S i → i < w.heap.size → S' i) : LsIn S' w v l := Sl.mono h hs fun _ _ _ h => h
theorem TysIn.mono {l : List Ty} (h : TysIn S w v l) (hs : ∀ i, S i → i < w.heap.size → S' i) : TysIn S' w v l := Sl.mono h hs fun _ _ _ h => h
theorem ClC.mono {c : Cl} {cs : List Value} (h : ClC S w c cs) (hs : ∀ i, S i → i < w.heap.size → S' i) : ClC S' w c cs := by
  obtain ⟨v1, v2, e, h1, h2, h3, h4, h5⟩ := h
  exact ⟨v1, v2, e, h1, h2, h3.mono hs, h4.mono hs, h5⟩
theorem ClsIn.mono {l : List Cl} (h : ClsIn S w v l) (hs : ∀ i, S i → i < w.heap.size → S' i) : ClsIn S' w v l := Sl.mono h hs fun _ _ _ h => h.mono hs
theorem AtC.mono {a : Atr} {cs : List Value} (h : AtC S w a cs) (hs : ∀ i, S i → i < w.heap.size → S' i) : AtC S' w a cs := by
  obtain ⟨v, e, h1, h2⟩ := h
  exact ⟨v, e, h1, h2.mono hs⟩
theorem EnIn.mono {l : Ent} (h : EnIn S w v l) (hs : ∀ i, S i → i < w.heap.size → S' i) : EnIn S' w v l := Sl.mono h hs fun _ _ _ h => h.mono hs
end
/-- What a call made is a slice of elements. -/
theorem own_sl {α : Type} {k base : Nat} {p : α → List Value → Prop} {w : World} {e : TypeId} {v : Value} {n : Nat} {cells : List Value} {xs : List α} (h : w.ownsRow base e k v n cells) (L : List (List Value)) (hL : L.flatten = cells) (hn : xs.length = n) (hLx : L.length = n) (hk : ∀ c ∈ L, c.length = k) (hp : ∀ (j : Nat) (x : α) (c : List Value), xs[j]? = some x → L[j]? = some c → p x c) (hb : n ≤ 140737488351232) :
    Sl k p (fun i => base ≤ i) w v xs := by
  rcases h.2 with ⟨rfl, rfl⟩ | ⟨g, cap, cur, rfl, hbg, hg, h1, h2, h3, h4⟩
  · obtain rfl : xs = [] := List.eq_nil_of_length_eq_zero hn
    exact ⟨none, 0, rfl, Nat.le_refl _, by simp, .inl rfl⟩
  · refine ⟨_, cap, by rw [hn], by rw [hn]; exact h1, by rw [hn]; exact hb, ?_⟩
    by_cases hx : xs = []
    · exact .inl hx
    · right
      refine ⟨g, 0, L, rfl, hbg, (Array.getElem?_eq_some_iff.1 hg).1, ?_, by rw [hLx, hn], hk, hp⟩
      intro j u hj
      rw [hL] at hj
      have := h.cells (g := g) rfl j u hj
      rwa [Addr.add_mid] at this
theorem own_block_of_sl {α : Type} {k : Nat} {p : α → List Value → Prop} {S : Nat → Prop} {w : World} {a : Option Addr} {n c : Nat} {xs : List α} (h : Sl k p S w (.slice a n c) xs) : n = xs.length := by
  obtain ⟨a', c', e, -⟩ := h
  cases e
  rfl
/-! ### Maps from texts to numbers -/
def RV : Value → Option (DataW Unit × List MemPlace)
  | .int .i64 n => some (.lit (.int .i64 n), [])
  | _ => none
theorem RV_mk (n : Int) : RV (.int .i64 n) = some (.lit (.int .i64 n), []) := rfl
theorem RV_inv {v : Value} {n : Int} {ps : List MemPlace} (h : RV v = some (.lit (.int .i64 n), ps)) : v = .int .i64 n := by
  unfold RV at h
  split at h
  · cases h; rfl
  · cases h
abbrev kstr : Go.Maps.Keyed Tryz.prog 9 := Go.Maps.string_keyed Tryz.underlying9
/-- Block b is a map of at most n entries that says f. -/
def MpI (w : World) (b n : Nat) (f : B → Option Int) : Prop :=
  ∃ D, w.ownsMap Tryz.prog 9 RV b n D ∧ ∀ s : B, Sz s → Go.Maps.has D (.string s) = (f s).isSome ∧ ∀ p, f s = some p → D.atKey (.string s) (.lit (.int .i64 0)) = .lit (.int .i64 p)
def updM (f : B → Option Int) (s : B) (p : Int) : B → Option Int := fun t => if t = s then some p else f t
theorem MpI.lt {w : World} {b n : Nat} {f : B → Option Int} (h : MpI w b n f) : b < w.heap.size := h.elim fun _ h => h.1.lt
theorem MpI.fr {D : Nat → Prop} {w w' : World} {b n : Nat} {f : B → Option Int} (h : MpI w b n f) (hf : Fr D w w') (hn : ¬ D b) : MpI w' b n f := by
  obtain ⟨E, ⟨es, clock, hb, r⟩, h2⟩ := h
  exact ⟨E, ⟨es, clock, (hf.block b (Array.getElem?_eq_some_iff.1 hb).1 hn).trans hb, r⟩, h2⟩
theorem keyOf_s (s : B) (h : Sz s) : keyOf Tryz.prog 9 (.string (sb s)) = some (.string s) := by
  rw [keyOf_string Tryz.underlying9]
  unfold mapKey
  rw [Tryz.underlying9]
  have h1 : (sb s).size ≤ maxLen := by rw [sb_size]; unfold Sz at h; unfold maxLen; omega
  have h2 : (sb s).data.toList = s := sb_list s
  simp [h1, h2]
theorem zeroInt (w : World) : (zeroValue 3).run Tryz.prog w = .ok (.int .i64 0) w := by kernel_rfl
theorem RV_zero : RV (.int .i64 0) = some (.lit (.int .i64 0), []) := rfl
/-- What a key that is not there tells is 0. -/
theorem MpI.run_look {w : World} {b n : Nat} {f : B → Option Int} (h : MpI w b n f) (s : B) (hs : Sz s) :
    ∃ v : Value, (Instr.lookup 85 (.map (some b)) (.string (sb s)) true).run Tryz.prog w = .ok (.tuple #[v, .bool (f s).isSome]) w ∧ (Instr.lookup 85 (.map (some b)) (.string (sb s)) false).run Tryz.prog w = .ok v w ∧ v = .int .i64 ((f s).getD 0) := by
  obtain ⟨D, hD, h2⟩ := h
  obtain ⟨h3, h4⟩ := h2 s hs
  obtain ⟨v, ps, hr, hv⟩ := hD.look_ok kstr Tryz.underlying85 (zeroInt w) RV_zero (keyOf_s s hs)
  obtain ⟨v', ps', hr', hv'⟩ := hD.lookup kstr Tryz.underlying85 (zeroInt w) RV_zero (keyOf_s s hs)
  have hval : ∀ u qs, RV u = some (D.atKey (.string s) (.lit (.int .i64 0)), qs) → u = .int .i64 ((f s).getD 0) := fun u qs hu => by
    cases hf : f s with
    | some p =>
      rw [h4 p hf] at hu
      exact RV_inv hu
    | none =>
      rw [hf] at h3
      rw [Go.Maps.atKey_of_not_has h3] at hu
      exact RV_inv hu
  have e1 := hval v ps hv
  have e2 := hval v' ps' hv'
  rw [h3] at hr
  refine ⟨v, hr, ?_, e1⟩
  rw [hr', e2, e1]
theorem frGrown {w w' : World} {b : Nat} (hg : w.grownBy w' (some b)) : Fr (fun k => k = b) w w' :=
  ⟨hg.os, hg.tape, hg.output, hg.size, fun k hk hn => hg.block k hk (fun e => hn (Option.some.inj e))⟩
theorem MpI.run_upd {w : World} {b n : Nat} {f : B → Option Int} (h : MpI w b n f) (s : B) (p : Int) (hs : Sz s) (hn : n < 281474976710655) :
    ∃ w', (Instr.mapUpdate 85 (.map (some b)) (.string (sb s)) (.int .i64 p)).run Tryz.prog w = .ok () w' ∧ MpI w' b (n + 1) (updM f s p) ∧ Fr (fun k => k = b) w w' := by
  obtain ⟨D, hD, h2⟩ := h
  have hk : WideAt.IsKeyLit (Lit.string s) := trivial
  obtain ⟨w', hr, ho, hg⟩ := hD.update kstr Tryz.underlying85 (by unfold maxLen; omega) (keyOf_s s hs) (RV_mk p)
  refine ⟨w', hr, ⟨_, ho, fun t ht => ?_⟩, frGrown hg⟩
  unfold updM
  by_cases he : t = s
  · subst he
    rw [if_pos rfl]
    exact ⟨Go.Maps.has_put_same hD.isMap hk _, fun q hq => by rw [Go.Maps.atKey_put_same hD.isMap hk]; cases hq; rfl⟩
  · rw [if_neg he]
    have hne : (Lit.string t) ≠ Lit.string s := fun e => he (Lit.string.inj e)
    rw [Go.Maps.has_put_other hne]
    refine ⟨(h2 t ht).1, fun q hq => ?_⟩
    rw [Go.Maps.atKey_put_other hne]
    exact (h2 t ht).2 q hq
theorem MpI.made (w : World) : MpI (w.alloc (.map #[] 0)) w.heap.size 0 fun _ => none :=
  ⟨.map [], World.ownsMap_made w _ _ _, fun s _ => ⟨rfl, fun p hp => by cases hp⟩⟩
section
variable {ops : Array Oper} {rest : List Oper} {op : Oper} {a : Act} {w : World} {Q : Exit → Act → World → Prop}
theorem exec_look2 (x y : Operand) (ho : op.op = .lookup 85 x y true) (b n : Nat) (f : B → Option Int) (hx : a.eval x = .map (some b)) (s : B) (hy : a.eval y = .string (sb s)) (h : MpI w b n f) (hs : Sz s) :
    (execOp a.eval op).run Tryz.prog w = .ok (.value (.tuple #[.int .i64 ((f s).getD 0), .bool (f s).isSome])) w := by
  obtain ⟨v, hr, -, rfl⟩ := h.run_look s hs
  simp [execOp, ho, hx, hy, hr, Result.andThen]
theorem exec_look1 (x y : Operand) (ho : op.op = .lookup 85 x y false) (b n : Nat) (f : B → Option Int) (hx : a.eval x = .map (some b)) (s : B) (hy : a.eval y = .string (sb s)) (h : MpI w b n f) (hs : Sz s) :
    (execOp a.eval op).run Tryz.prog w = .ok (.value (.int .i64 ((f s).getD 0))) w := by
  obtain ⟨v, -, hr, rfl⟩ := h.run_look s hs
  simp [execOp, ho, hx, hy, hr, Result.andThen]
theorem wpL_upd (hgd : op.guard = none) (x y z : Operand) (ho : op.op = .mapUpdate 85 x y z) (b n : Nat) (f : B → Option Int) (hx : a.eval x = .map (some b)) (s : B) (p : Int) (hy : a.eval y = .string (sb s)) (hz : a.eval z = .int .i64 p) (h : MpI w b n f) (hs : Sz s) (hn : n < 281474976710655)
    (hK : ∀ w', Hid (MpI w' b (n + 1) (updM f s p)) → Hid (Fr (fun k => k = b) w w') → wpList Tryz.prog ops Q rest (a.put op.dst undef) w') : wpList Tryz.prog ops Q (op :: rest) a w := by
  refine wpList_plain hgd fun K hK' => ?_
  obtain ⟨w', hr, h1, h2⟩ := h.run_upd s p hs hn
  have h3 := hK w' (hid h1) (hid h2)
  unfold Oper.wp
  simp [execOp, ho, hx, hy, hz, hr, Result.andThen]
  exact hK' _ _ h3
theorem wpL_makeMap (hgd : op.guard = none) (t : TypeId) (ho : op.op = .makeMap t none)
    (hK : ∀ w', Hid (MpI w' w.heap.size 0 fun _ => none) → Hid (Fr No w w') → Hid (w'.heap.size = w.heap.size + 1) → wpList Tryz.prog ops Q rest (a.put op.dst (.map (some w.heap.size))) w') : wpList Tryz.prog ops Q (op :: rest) a w := by
  refine wpList_plain hgd fun K hK' => ?_
  have h3 := hK _ (hid (MpI.made w)) (hid ((Fr.refl No w).alloc _)) (hid (by simp))
  unfold Oper.wp
  simp [execOp, ho, run_makeMap, Result.andThen]
  exact hK' _ _ h3
end
/-! ### A schema in memory -/
def Out (X : Nat → Prop) (b : Nat) : Nat → Prop := fun k => ¬ X k ∧ k ≠ b
/-- The places of names, the last one of each. -/
def posM : Nat → List B → (B → Option Int) → B → Option Int
  | _, [], f => f
  | i, n :: r, f => posM (i + 1) r (updM f (low n) i)
def posF (L : List B) : B → Option Int := posM 0 L fun _ => none
/-- The maps of names: not yet made, or made. -/
def Mps (w : World) (X : Nat → Prop) (b : Nat) (s : Sch) (d : Int) (tm cm : Value) : Prop :=
  (d = 0 ∧ tm = .map none ∧ cm = .map none) ∨ (d = 1 ∧ ∃ bt bc n m, tm = .map (some bt) ∧ cm = .map (some bc) ∧ Out X b bt ∧ Out X b bc ∧ MpI w bt n (posF s.tn) ∧ MpI w bc m (posF s.cn))
def schV (vt vc : Value) (d m : Int) (tm cm : Value) : List Value := [vt, vc, .int .u32 d, .int .i32 m, .int .u32 0, tm, cm]
/-- Block b holds the schema s; nothing of it lies in X. -/
def Sx (w : World) (X : Nat → Prop) (b : Nat) (s : Sch) : Prop :=
  ∃ vt vc d tm cm, Blk w b 87 (schV vt vc d 0 tm cm) ∧ ¬ X b ∧ TysIn (Out X b) w vt s.tys ∧ ClsIn (Out X b) w vc s.cls ∧ okS s = true ∧ Mps w X b s d tm cm
theorem Mps.fr {X D : Nat → Prop} {w w' : World} {b : Nat} {s : Sch} {d : Int} {tm cm : Value} (h : Mps w X b s d tm cm) (hf : Fr D w w') (hd : ∀ k, D k → X k ∨ k = b ∨ w.heap.size ≤ k) : Mps w' X b s d tm cm := by
  have hno : ∀ k, Out X b k → k < w.heap.size → ¬ D k := fun k ⟨h1, h2⟩ hk hD => by
    rcases hd k hD with h | h | h
    · exact h1 h
    · exact h2 h
    · omega
  refine h.imp id ?_
  rintro ⟨e, bt, bc, n, m, e1, e2, h1, h2, h3, h4⟩
  exact ⟨e, bt, bc, n, m, e1, e2, h1, h2, h3.fr hf (hno _ h1 h3.lt), h4.fr hf (hno _ h2 h4.lt)⟩
theorem Sx.fr {X D : Nat → Prop} {w w' : World} {b : Nat} {s : Sch} (h : Sx w X b s) (hf : Fr D w w') (hd : ∀ k, D k → X k ∨ w.heap.size ≤ k) : Sx w' X b s := by
  obtain ⟨vt, vc, d, tm, cm, h1, h2, h3, h4, h5, h6⟩ := h
  have hno : ∀ k, Out X b k → k < w.heap.size → ¬ D k := fun k ⟨h1, _⟩ hk hD => by
    rcases hd k hD with h | h
    · exact h1 h
    · omega
  refine ⟨vt, vc, d, tm, cm, h1.fr hf (fun hD => ?_), h2, h3.fr hf hno, h4.fr hf hno, h5, h6.fr hf fun k hk => (hd k hk).imp id .inr⟩
  rcases hd b hD with h | h
  · exact h2 h
  · have := h1.lt; omega
theorem Sx.no {X : Nat → Prop} {w w' : World} {b : Nat} {s : Sch} (h : Sx w X b s) (hf : Fr No w w') : Sx w' X b s := h.fr hf fun _ e => e.elim
theorem Sx.more {X Y : Nat → Prop} {w : World} {b : Nat} {s : Sch} (h : Sx w X b s) (hy : ∀ k, Y k → X k ∨ w.heap.size ≤ k) : Sx w Y b s := by
  obtain ⟨vt, vc, d, tm, cm, h1, h2, h3, h4, h5, h6⟩ := h
  have hno : ∀ k, Out X b k → k < w.heap.size → Out Y b k := fun k ⟨h1, h2⟩ hk => ⟨fun hY => by
    rcases hy k hY with h | h
    · exact h1 h
    · omega, h2⟩
  refine ⟨vt, vc, d, tm, cm, h1, fun hY => ?_, h3.mono hno, h4.mono hno, h5, h6.imp id ?_⟩
  · rcases hy b hY with h | h
    · exact h2 h
    · have := h1.lt; omega
  · rintro ⟨e, bt, bc, n, m, e1, e2, g1, g2, g3, g4⟩
    exact ⟨e, bt, bc, n, m, e1, e2, hno _ g1 g3.lt, hno _ g2 g4.lt, g3, g4⟩
theorem Sx.lt {X : Nat → Prop} {w : World} {b : Nat} {s : Sch} (h : Sx w X b s) : b < w.heap.size := by
  obtain ⟨vt, vc, d, tm, cm, h1, -⟩ := h
  exact h1.lt
theorem Sx.nx {X : Nat → Prop} {w : World} {b : Nat} {s : Sch} (h : Sx w X b s) : ¬ X b := by
  obtain ⟨vt, vc, d, tm, cm, -, h2, -⟩ := h
  exact h2
theorem Sx.ok {X : Nat → Prop} {w : World} {b : Nat} {s : Sch} (h : Sx w X b s) : okS s = true := by
  obtain ⟨vt, vc, d, tm, cm, -, -, -, -, h5, -⟩ := h
  exact h5
theorem infoTy : (Tryz.prog.info? 62).map (·.size) = some 6 := by kernel_rfl
theorem infoCl : (Tryz.prog.info? 71).map (·.size) = some 5 := by kernel_rfl
theorem infoAt : (Tryz.prog.info? 60).map (·.size) = some 2 := by kernel_rfl
theorem infoSc : (Tryz.prog.info? 25).map (·.size) = some 2 := by kernel_rfl
end Go.Proofs.YtdkkpfeiaaffhaaGreatDoor.SC
