/-
  Part 4 of the proof: DnV, DnTie, DnO, DnN, DnW.
-/
import Derived.Test.YtnjemnmhkhkpeaaDoorDo03
import Derived.Test.YtnjemnmhkhkpeaaDoorCards
import Derived.Test.YtnjemnmhkhkpeaaDoorTie
import Derived.Test.YtnjemnmhkhkpeaaDoorDo02
import Derived.WalkKit
import Derived.ProofKit
import Derived.OpenShut
import Derived.Deep.DeepHandedRow
import Derived.RowKitTokens
import Derived.Stop.ErrReads
import Derived.Stop.LaidErr
import Derived.Lib.FieldsP
import Derived.Laws.RangeAny
import Derived.Lib.SpaceUEq
import Derived.Lib.Join
set_option linter.unusedSimpArgs false
set_option linter.unusedVariables false
namespace Go.Proofs.YtnjemnmhkhkpeaaDoor.DN
set_option maxRecDepth 100000
open Go.RowKit K Go.Proofs.YtnjemnmhkhkpeaaDoor.BE
/-- The library's error of syntax lies where it was laid. -/
def Gl (w : World) : Prop := ∃ t u, w.cell? ⟨1, 0, none⟩ = some (.iface t u)
theorem Gl.fr {D : Nat → Prop} {w w' : World} (h : Gl w) (hf : Fr D w w') (hd : ¬ D 1) : Gl w' := by
  obtain ⟨t, u, h⟩ := h
  exact ⟨t, u, hf.cell h hd⟩
theorem Gl.no {w w' : World} (h : Gl w) (hf : Fr No w w') : Gl w' := h.fr hf id
theorem Gl.lt {w : World} (h : Gl w) : 1 < w.heap.size := by
  obtain ⟨t, u, h⟩ := h
  exact World.block_lt_of_cell? w _ h
section
variable {P : Program} {Q : Exit → Act → World → Prop} {op : Oper} {a : Act} {w : World} {K : Act → World → Prop}
theorem wp_boxD (t : TypeId) (x : Operand) (ho : op.op = .box t x) (v : Value) (hv : a.eval x = v) (cs : List Value) (hcs : v.cells = cs.toArray)
    (h : ∀ w', Hid (Blk w' w.heap.size t cs) → Hid (Fr No w w') → Hid (w'.heap.size = w.heap.size + 1) → K (a.put op.dst (.pointer (some ⟨w.heap.size, 0, none⟩))) w') : op.wp P a w K Q := by
  unfold Oper.wp
  have h1 := h (w.alloc (.cells v.cells t)) (hid (by rw [hcs]; exact Blk.new w t cs)) (hid ((Fr.refl _ _).alloc _)) (hid (by simp))
  simp [execOp, ho, Instr.box, hv, newVar, newRow, Result.andThen]
  exact h1
theorem wp_valD (v : Value) (hy : (execOp a.eval op).run P w = .ok (.value v) w) (h : K (a.put op.dst v) w) : op.wp P a w K Q := by
  unfold Oper.wp
  rw [hy]
  exact h
end
theorem syntaxError_any (f s : B) (hs : Sz s) (w : World) (hG : Gl w) : Calls Tryd.prog 75 #[.string (sb f), .string (sb s)] w fun e w' => (∃ b, e = .returned (.pointer (some ⟨b, 0, none⟩))) ∧ Fr No w w' := by
  obtain ⟨t, u, hc⟩ := hG
  have HC := hid hc
  have HS := hid hs
  clear hs hc
  go_enter Tryd.func75, Tryd.ntmps75
  go_wp2_with fail
  have hold : Facts.hold [(3, fun w' => w'.cell? ⟨1, 0, none⟩ = some (.iface t u))] w.drew := Facts.cons_hold HC.out (Facts.nil_hold _)
  refine wpD_region hold (by kernel_rfl) 7 rfl ?_
  (refine K.pl 0 (v := ?_) rfl ?_ ?_; rotate_left; (intro _w; go_simp; try with_reducible rfl); simp only [Act.put, K.put3])
  (refine K.pl 1 (v := ?_) rfl ?_ ?_; rotate_left; (intro _w; go_simp; try with_reducible rfl); simp only [Act.put, K.put3])
  clear hold
  refine wpD_two 2 3 [(3, fun w' => w'.cell? ⟨1, 0, none⟩ = some (.iface t u))] [] rfl rfl (by kernel_rfl) (by kernel_rfl) (by kernel_rfl) (by rfl) (by rfl) ?_ ?_
  · intro K hK
    refine wp_call (.func 79) _ _ rfl 79 [] rfl (fun vs w => by kernel_rfl) [.string (sb s)] (by rfl) ?_
    refine (cloneL_any s w.drew (by have := HS.out; unfold Sz at this; omega)).mono ?_
    rintro e w7 ⟨rfl, f7⟩
    have c7 : w7.cell? ⟨1, 0, none⟩ = some (.iface t u) := f7.cell (show w.drew.cell? _ = _ from HC.out) id
    have HFR := hid ((Fr.refl No w).drew.trans' f7)
    refine ⟨_, rfl, hK _ _ (Facts.cons_hold c7 (Facts.nil_hold _)) ?_⟩
    clear hK K
    · simp only [Act.put, K.put3]
      refine K.on 3 [] rfl (fun K3 hK3 => ?_)
      refine wp_valD (.iface t u) (by go_simp) ?_
      refine hK3 _ _ (Facts.nil_hold _) ?_
      clear hK3 K3
      clear c7 f7
      try (simp only [Act.put, K.put3])
      have hold : Facts.hold [] w7 := Facts.nil_hold _
      (refine K.pl 4 (v := (.agg #[.string (sb f), .string (sb s), .iface t u])) rfl ?_ ?_; (intro _w; go_simp; skip); simp only [Act.put, K.put3])
      clear hold
      refine K.on 5 [] rfl (fun K5 hK5 => ?_)
      refine wp_boxD _ _ rfl (.agg #[.string (sb f), .string (sb s), .iface t u]) rfl [.string (sb f), .string (sb s), .iface t u] rfl ?_
      intro w8 HB8 HF8 HS8
      refine hK5 _ _ (Facts.nil_hold _) ?_
      clear hK5 K5
      simp only [Act.put, K.put3]
      have hold : Facts.hold [] w8 := Facts.nil_hold _
      (refine K.pl 6 (v := ?_) rfl ?_ ?_; rotate_left; (intro _w; go_simp; try with_reducible rfl); simp only [Act.put, K.put3])
      clear hold
      refine wpD_done (by kernel_rfl) ?_ _
      go_wp2_with fail
      go_ret
      exact ⟨⟨_, rfl⟩, HFR.out.trans' HF8.out⟩
  · intro K hK
    refine wp_valD (.iface t u) (by have c0 : w.drew.cell? ⟨1, 0, none⟩ = some (.iface t u) := HC.out; go_simp) ?_
    refine hK _ _ (Facts.nil_hold _) ?_
    clear hK K
    simp only [Act.put, K.put3]
    refine K.on 2 [] rfl (fun K2 hK2 => ?_)
    refine wp_call (.func 79) _ _ rfl 79 [] rfl (fun vs w => by kernel_rfl) [.string (sb s)] (by rfl) ?_
    refine (cloneL_any s w.drew (by have := HS.out; unfold Sz at this; omega)).mono ?_
    rintro e w7 ⟨rfl, f7⟩
    have HFR := hid ((Fr.refl No w).drew.trans' f7)
    refine ⟨_, rfl, hK2 _ _ (Facts.nil_hold _) ?_⟩
    clear hK2 K2
    · try (simp only [Act.put, K.put3])
      have hold : Facts.hold [] w7 := Facts.nil_hold _
      (refine K.pl 4 (v := (.agg #[.string (sb f), .string (sb s), .iface t u])) rfl ?_ ?_; (intro _w; go_simp; skip); simp only [Act.put, K.put3])
      clear hold
      refine K.on 5 [] rfl (fun K5 hK5 => ?_)
      refine wp_boxD _ _ rfl (.agg #[.string (sb f), .string (sb s), .iface t u]) rfl [.string (sb f), .string (sb s), .iface t u] rfl ?_
      intro w8 HB8 HF8 HS8
      refine hK5 _ _ (Facts.nil_hold _) ?_
      clear hK5 K5
      simp only [Act.put, K.put3]
      have hold : Facts.hold [] w8 := Facts.nil_hold _
      (refine K.pl 6 (v := ?_) rfl ?_ ?_; rotate_left; (intro _w; go_simp; try with_reducible rfl); simp only [Act.put, K.put3])
      clear hold
      refine wpD_done (by kernel_rfl) ?_ _
      go_wp2_with fail
      go_ret
      exact ⟨⟨_, rfl⟩, HFR.out.trans' HF8.out⟩
/-- What is told of two digits: an error is never nil. -/
def ToldU (l : B) (e : Ending) : Prop := match hexs 0 l with
  | some n => e = .returned (.tuple #[.int .u64 (n : Int), .nilIface])
  | none => ∃ t u, e = .returned (.tuple #[.int .u64 0, .iface t u])
set_option maxHeartbeats 4000000 in
theorem toError_any (f s : B) (hs : Sz s) (w : World) (hG : Gl w) : Calls Tryd.prog 70 #[.string (sb f), .string (sb s), .int .i64 16, .int .i64 8, .iface 104 (.int .i64 2)] w fun e w' => (∃ t u, e = .returned (.iface t u)) ∧ Fr No w w' := by
  have H := hid (syntaxError_any f s hs w hG)
  clear hs hG
  go_enter Tryd.func70, Tryd.ntmps70
  go_wp2_with (first | ((with_reducible refine K.atO (.binOp .eql 58 _ _ _) ?_); refine wpL_valZ rfl (.bool true) (by kernel_rfl) ?_) | fail)
  refine H.out.mono ?_
  rintro e w1 ⟨⟨b, rfl⟩, f1⟩
  have HF := hid f1
  clear f1
  go_wp2_with fail
  go_ret
  exact ⟨⟨_, _, rfl⟩, HF.out⟩
set_option maxHeartbeats 4000000 in
theorem parseUint_any (x y : UInt8) (w : World) (hG : Gl w) : Calls Tryd.prog 63 #[.string (sb [x, y]), .int .i64 16, .int .i64 8] w fun e w' => ToldU [x, y] e ∧ Fr No w w' := by
  have H := hid (iparse_any x y w)
  have HG := hid hG
  have HZ : Hid (Sz [x, y]) := hid (by unfold Sz; simp)
  unfold ToldU
  clear hG
  cases hr : hexs 0 [x, y] with
  | some n =>
    rw [hr] at H
    clear hr
    go_enter Tryd.func63, Tryd.ntmps63
    go_wp2_with fail
    refine H.out.mono ?_
    rintro e w1 ⟨rfl, f1⟩
    have HF := hid f1
    clear f1
    unfold puR
    go_wp2_with fail
    go_ret2
    exact ⟨rfl, HF.out⟩
  | none =>
    rw [hr] at H
    clear hr
    go_enter Tryd.func63, Tryd.ntmps63
    go_wp2_with fail
    refine H.out.mono ?_
    rintro e w1 ⟨rfl, f1⟩
    have HF := hid f1
    clear f1
    unfold puR
    go_wp2_with fail
    refine (toError_any [80, 97, 114, 115, 101, 85, 105, 110, 116] [x, y] HZ.out w1 (HG.out.no HF.out)).mono ?_
    rintro e w2 ⟨⟨t, u, rfl⟩, f2⟩
    have HF2 := hid (HF.out.trans' f2)
    clear f2
    go_wp2_with fail
    go_ret2
    exact ⟨⟨_, _, rfl⟩, HF2.out⟩
end Go.Proofs.YtnjemnmhkhkpeaaDoor.DN
namespace Go.Proofs.YtnjemnmhkhkpeaaDoor.DN
set_option maxRecDepth 100000
open Go.ChangeShapes Go.WideShapes Go.ChangeAt Go.RowKit K Go.Proofs.YtnjemnmhkhkpeaaDoor.BE
def laid : List (String × DataW Unit) := [("math/bits.deBruijn32tab", Rows.laid_math_bits_deBruijn32tab), ("math/bits.deBruijn64tab", Rows.laid_math_bits_deBruijn64tab), ("internal/strconv.uint64pow10", Rows.laid_internal_strconv_uint64pow10), ("strconv.ErrRange", Rows.laid_strconv_ErrRange), ("strconv.ErrSyntax", Rows.laid_strconv_ErrSyntax)]
theorem gSyn : Tryd.prog.globalNamed "strconv.ErrSyntax" = some 1 := by kernel_rfl
theorem gSynT : (Tryd.prog.globals[1]?).map (·.type) = some 58 := by kernel_rfl
theorem starE : "*" ++ "errors.errorString" = "*errors.errorString" := by decide
theorem rowES (u : TypeId) (h : Tryd.prog.typeName? 3 u = some "*errors.errorString") : u = 113 :=
  typeName_ptr_named (nm := "errors.errorString") (by rw [starE]; kernel_rfl) (by kernel_rfl) (by decide) u (by rw [starE]; exact h)
theorem cES : Tryd.prog.cellsOf 115 = 1 := by kernel_rfl
theorem gl_of {W : World} (h : laidMetH Tryd.prog laid W) : Gl W := by
  have h0 : laidMet Tryd.prog laid W := h
  obtain ⟨a, s, hv, -⟩ := laid_sentinel (r := []) (nm := "*errors.errorString") h0.tail.tail.tail.tail gSyn gSynT Tryd.underlying58 rowES Tryd.underlying113 Tryd.underlying115 rfl rfl Tryd.underlying9 cES cS
  exact ⟨_, _, by simpa using World.var?_cell gSyn hv 0⟩
def cellsD : DataW Unit → Array Value
  | .agg xs => (xs.map fun
    | .lit (.int k n) => Value.int k n
    | _ => undef).toArray
  | _ => #[]
def lay (cs : Array Value) : Obj → Obj
  | .cells _ t frozen => .cells cs t frozen
  | o => o
noncomputable def lowG : Nat := (World.holding Tryd.prog default ⟨#[], #[], []⟩).heap.size
noncomputable def laidWorld (os : Os) : World :=
  let w0 := World.holding Tryd.prog os ⟨#[.cells #[.string (sb [118, 97, 108, 117, 101, 32, 111, 117, 116, 32, 111, 102, 32, 114, 97, 110, 103, 101])] 115, .cells #[.string (sb [105, 110, 118, 97, 108, 105, 100, 32, 115, 121, 110, 116, 97, 120])] 115], #[], []⟩
  { w0 with heap := ((((w0.heap.modify 4 (lay (cellsD Rows.laid_math_bits_deBruijn32tab))).modify 5 (lay (cellsD Rows.laid_math_bits_deBruijn64tab))).modify 3 (lay (cellsD Rows.laid_internal_strconv_uint64pow10))).modify 2 (lay #[.iface 113 (.pointer (some ⟨lowG, 0, none⟩))])).modify 1 (lay #[.iface 113 (.pointer (some ⟨lowG + 1, 0, none⟩))]) }
theorem laid_met (os : Os) : laidMet Tryd.prog laid ((laidWorld os).forCall (fun _ _ => 0) ⟨#[], #[.string ⟨#[]⟩, .string ⟨#[]⟩], []⟩).memory :=
  laidMet_of_run' 8 (by kernel_rfl) (by kernel_rfl)
end Go.Proofs.YtnjemnmhkhkpeaaDoor.DN
namespace Go.Proofs.YtnjemnmhkhkpeaaDoor.DN
set_option maxRecDepth 100000
open Go.RowKit K Go.Proofs.YtnjemnmhkhkpeaaDoor.BE
/-- The value is a slice of n elements of e, k cells each: these; it has been made since w0; nothing that was there has turned. -/
def OwR (e : TypeId) (k : Nat) (w0 w : World) (v : Value) (n : Nat) (cs : List Value) : Prop := (∃ a c, v = .slice a n c) ∧ w.ownsRow w0.heap.size e k v n cs ∧ Fr No w0 w
def Info (e : TypeId) (z : Value) (k bytes : Nat) : Prop := (Tryd.prog.info? e).map (fun i => (i.zero, i.size, i.bytes)) = some (some z, k, bytes)
section
variable {e : TypeId} {k : Nat} {w0 w w' : World} {v : Value} {n : Nat} {cs : List Value}
theorem OwR.no (h : OwR e k w0 w v n cs) (hf : Fr No w w') : OwR e k w0 w' v n cs := ⟨h.1, own_fr h.2.1 hf (fun _ _ e => e), h.2.2.trans' hf⟩
theorem OwR.fr (h : OwR e k w0 w v n cs) : Fr No w0 w := h.2.2
theorem OwR.ge (h : OwR e k w0 w v n cs) (g : Nat) (hg : v.ownBlock = some g) : w0.heap.size ≤ g ∧ g < w.heap.size := own_ge h.2.1 g hg
/-- Whatever leaves the row alone. -/
theorem OwR.later {D : Nat → Prop} (h : OwR e k w0 w v n cs) (hf : Fr D w w') (hn : ∀ g, v.ownBlock = some g → ¬ D g) (hd : ∀ g, D g → w0.heap.size ≤ g) : OwR e k w0 w' v n cs :=
  ⟨h.1, own_fr h.2.1 hf hn, h.2.2.trans hf fun g e => .inr (hd g e)⟩
theorem owR_nil (h : Fr No w0 w) : OwR e k w0 w (.slice none 0 0) 0 [] := ⟨⟨_, _, rfl⟩, ⟨by simp, .inl ⟨rfl, rfl⟩⟩, h⟩
/-- It reads so. -/
theorem OwR.reads (h : OwR e k w0 w v n cs) : ∃ a cap, v = .slice a n cap ∧ n ≤ cap ∧ (n = 0 ∨ ∃ g, a = some ⟨g, 0, none⟩ ∧ w0.heap.size ≤ g ∧ g < w.heap.size ∧ w.rangeAt g 0 cs) := by
  obtain ⟨⟨a, c, rfl⟩, h1, -⟩ := h
  have hc : n ≤ c := by
    rcases h1.2 with ⟨h2, h0⟩ | ⟨g', cap', cur, h2, _, _, h3, _⟩
    · have h0 : n = 0 := h0
      omega
    · simp only [Value.slice.injEq] at h2
      omega
  refine ⟨a, c, rfl, hc, ?_⟩
  rcases Nat.eq_zero_or_pos n with h0 | h0
  · exact .inl h0
  · right
    obtain ⟨a', c', e1, -, h2⟩ := own_form h1
    simp only [Value.slice.injEq, true_and] at e1
    obtain ⟨rfl, rfl⟩ := e1
    obtain ⟨g, rfl⟩ := h2 h0
    have hg := own_ge h1 g rfl
    refine ⟨g, rfl, hg.1, hg.2, ?_⟩
    intro j u hj
    have := h1.cells (g := g) rfl j u hj
    rwa [Addr.add_mid] at this
end
section
variable {ops : Array Oper} {rest : List Oper} {op o1 o2 : Oper} {a : Act} {w : World} {Q : Exit → Act → World → Prop} {K : Act → World → Prop}
theorem wp_appR (s x : Operand) (t e : TypeId) (ho : op.op = .call { callee := .builtin .append, args := #[s, x], argTypes := #[t, t] }) (hu : Tryd.prog.underlying t = some (.slice e)) {z : Value} {k bytes : Nat} (hi : Info e z k bytes) (hz : z.cells.size = k) (hk : 0 < k)
    {w0 : World} {v : Value} {n : Nat} {cs : List Value} (hown : OwR e k w0 w v n cs) (hv : a.eval s = v) (b : Nat) (m c : Nat) (news : List Value) (hx : a.eval x = .slice (some ⟨b, 0, none⟩) m c) (hl : news.length = m * k) (hB : Blk w b e news) (h1 : ∀ u ∈ news, u.oneCell' = true)
    (hb : (n + m) * bytes ≤ 140737488355328) (h63 : n + m ≤ 140737488355328)
    (h : ∀ a' cap' w', Hid (OwR e k w0 w' (.slice a' (n + m) cap') (n + m) (cs ++ news)) → Hid (Fr (fun j => v.ownBlock = some j) w w') → K (a.put op.dst (.slice a' (n + m) cap')) w') : op.wp Tryd.prog a w K Q := by
  obtain ⟨i, hi0, hz0, hs, hbb⟩ := Go.info_parts hi
  refine BE.wp_append s x t ho w0.heap.size e i z k bytes hu hi0 hz0 hs hbb hz hk v n cs hv hown.2.1 (some ⟨b, 0, none⟩) m c news hx hl (.inr ⟨_, rfl, hB.news⟩) h1 (by unfold maxLen; omega) hb hown.2.2.size ?_
  intro a' cap' w' p q r
  exact h a' cap' w' (hid ⟨⟨_, _, rfl⟩, p.out, hown.2.2.trans (frown q.out) fun g e => .inr (hown.ge g e).1⟩) (hid (frown q.out))
/-- 'append(s, x)', in a plain region: the literal and the append together. -/
theorem wpL_app1 (hg1 : o1.guard = none) (hg2 : o2.guard = none) (x s y : Operand) (t e : TypeId) (ho1 : o1.op = .buildSlice t 1 #[(0, x)]) (ho2 : o2.op = .call { callee := .builtin .append, args := #[s, y], argTypes := #[t, t] }) (hu : Tryd.prog.underlying t = some (.slice e))
    {z : Value} {k bytes : Nat} (hi : Info e z k bytes) (hz : z.cells.size = k) (hk : 0 < k) (hk2 : k ≤ 16777216) {w0 : World} {v : Value} {n : Nat} {cs : List Value} (hown : OwR e k w0 w v n cs) (u : Value) (us : List Value) (hx : a.eval x = u) (hus : u.cells = us.toArray) (hl : us.length = k) (h1 : ∀ q ∈ us, q.oneCell' = true)
    (hs : ∀ q, (a.put o1.dst q).eval s = v) (hy : ∀ q, (a.put o1.dst q).eval y = q) (hb : (n + 1) * bytes ≤ 140737488355328) (h63 : n + 1 ≤ 140737488355328)
    (h : ∀ q a' cap' w', Hid (OwR e k w0 w' (.slice a' (n + 1) cap') (n + 1) (cs ++ us)) → Hid (Fr (fun j => v.ownBlock = some j) w w') → wpList Tryd.prog ops Q rest ((a.put o1.dst q).put o2.dst (.slice a' (n + 1) cap')) w') : wpList Tryd.prog ops Q (o1 :: o2 :: rest) a w := by
  obtain ⟨i, hi0, hz0, hsz, hbb⟩ := Go.info_parts hi
  refine wpL_buildOne hg1 t e x ho1 i z hu hi0 hz0 (by rw [hsz]; exact hk) (by rw [hsz]; exact hk2) u us hx hus (by rw [hsz]; exact hl) ?_
  intro w1 HB HF HS
  refine wpList_plain hg2 fun K hK => ?_
  have hown1 : OwR e k w0 w1 v n cs := hown.no HF.out
  refine wp_appR s y t e ho2 hu hi hz hk hown1 (hs _) w.heap.size 1 1 us (hy _) (by rw [hl, Nat.one_mul]) HB.out h1 hb h63 ?_
  intro a' cap' w' p q
  exact hK _ _ (h _ a' cap' w' p (hid (HF.out.no.trans' q.out)))
/-- One byte more. -/
theorem wpL_appU {x s y : Operand} (ho1 : o1.op = .buildSlice 51 1 #[(0, x)]) (ho2 : o2.op = .call { callee := .builtin .append, args := #[s, y], argTypes := #[51, 51] }) {w0 : World} {v : Value} {n : Nat} {cs : List Value} (hown : OwR 5 1 w0 w v n cs) (c : Int) (hx : a.eval x = .int .u8 c)
    (h : ∀ q a' cap' w', Hid (OwR 5 1 w0 w' (.slice a' (n + 1) cap') (n + 1) (cs ++ [.int .u8 c])) → Hid (Fr (fun j => v.ownBlock = some j) w w') → wpList Tryd.prog ops Q rest ((a.put o1.dst q).put o2.dst (.slice a' (n + 1) cap')) w')
    (hg1 : o1.guard = none := by rfl) (hg2 : o2.guard = none := by rfl) (hs : ∀ q, (a.put o1.dst q).eval s = v := by exact fun _ => rfl) (hy : ∀ q, (a.put o1.dst q).eval y = q := by exact fun _ => rfl) (hb : (n + 1) * 1 ≤ 140737488355328 := by omega) (h63 : n + 1 ≤ 140737488355328 := by omega) : wpList Tryd.prog ops Q (o1 :: o2 :: rest) a w :=
  wpL_app1 hg1 hg2 x s y 51 5 ho1 ho2 Tryd.underlying51 (show Info 5 (.int .u8 0) 1 1 from by unfold Info; kernel_rfl) rfl (by decide) (by decide) hown (.int .u8 c) [.int .u8 c] hx rfl rfl (by simp [Value.oneCell']) hs hy hb h63 h
/-- The same, and where the row lies behind it. -/
theorem wpL_app1o (hg1 : o1.guard = none) (hg2 : o2.guard = none) (x s y : Operand) (t e : TypeId) (ho1 : o1.op = .buildSlice t 1 #[(0, x)]) (ho2 : o2.op = .call { callee := .builtin .append, args := #[s, y], argTypes := #[t, t] }) (hu : Tryd.prog.underlying t = some (.slice e))
    {z : Value} {k bytes : Nat} (hi : Info e z k bytes) (hz : z.cells.size = k) (hk : 0 < k) (hk2 : k ≤ 16777216) {w0 : World} {v : Value} {n : Nat} {cs : List Value} (hown : OwR e k w0 w v n cs) (u : Value) (us : List Value) (hx : a.eval x = u) (hus : u.cells = us.toArray) (hl : us.length = k) (h1 : ∀ q ∈ us, q.oneCell' = true)
    (hs : ∀ q, (a.put o1.dst q).eval s = v) (hy : ∀ q, (a.put o1.dst q).eval y = q) (hb : (n + 1) * bytes ≤ 140737488355328) (h63 : n + 1 ≤ 140737488355328)
    (h : ∀ q a' cap' w', Hid (OwR e k w0 w' (.slice a' (n + 1) cap') (n + 1) (cs ++ us)) → Hid (Fr (fun j => v.ownBlock = some j) w w') → Hid ((Value.slice a' (n + 1) cap').ownBlock = v.ownBlock ∨ ∃ g, (Value.slice a' (n + 1) cap').ownBlock = some g ∧ w.heap.size ≤ g) → wpList Tryd.prog ops Q rest ((a.put o1.dst q).put o2.dst (.slice a' (n + 1) cap')) w') : wpList Tryd.prog ops Q (o1 :: o2 :: rest) a w := by
  obtain ⟨i, hi0, hz0, hsz, hbb⟩ := Go.info_parts hi
  refine wpL_buildOne hg1 t e x ho1 i z hu hi0 hz0 (by rw [hsz]; exact hk) (by rw [hsz]; exact hk2) u us hx hus (by rw [hsz]; exact hl) ?_
  intro w1 HB HF HS
  refine wpList_plain hg2 fun K hK => ?_
  have hown1 : OwR e k w0 w1 v n cs := hown.no HF.out
  refine BE.wp_append s y t ho2 w0.heap.size e i z k bytes hu hi0 hz0 hsz hbb hz hk v n cs (hs _) hown1.2.1 (some ⟨w.heap.size, 0, none⟩) 1 1 us (hy _) (by rw [hl, Nat.one_mul]) (.inr ⟨_, rfl, HB.out.news⟩) h1 (by unfold maxLen; omega) hb hown1.2.2.size ?_
  intro a' cap' w' p q r
  refine hK _ _ (h _ a' cap' w' (hid ⟨⟨_, _, rfl⟩, p.out, hown1.2.2.trans (frown q.out) fun g e => .inr (hown1.ge g e).1⟩) (hid (HF.out.no.trans' (frown q.out))) (hid ?_))
  exact r.out.imp id fun e => ⟨_, e, by have := HF.out.size; exact this⟩
end
theorem infoU : Info 5 (.int .u8 0) 1 1 := by unfold Info; kernel_rfl
theorem infoStr : Info 9 (.string ⟨#[]⟩) 1 16 := by unfold Info; kernel_rfl
theorem infoAva : Info 37 (.agg #[.string ⟨#[]⟩, .string ⟨#[]⟩]) 2 32 := by unfold Info; kernel_rfl
theorem infoRdn : Info 34 (.slice none 0 0) 1 24 := by unfold Info; kernel_rfl
def avs (r : Rd) : List Value := r.flatMap fun x => [.string (sb x.1), .string (sb x.2)]
theorem avs_app (r s : Rd) : avs (r ++ s) = avs r ++ avs s := by simp [avs]
theorem avs_cons (x : Av) (r : Rd) : avs (x :: r) = .string (sb x.1) :: .string (sb x.2) :: avs r := by simp [avs]
theorem avs_len (r : Rd) : (avs r).length = r.length * 2 := by
  induction r with
  | nil => rfl
  | cons x r ih => rw [avs_cons]; simp [ih]; omega
theorem cmp_any (x y : Av) (w : World) : Calls Tryd.prog 31 #[.agg #[.string (sb x.1), .string (sb x.2)], .agg #[.string (sb y.1), .string (sb y.2)]] w fun e w' => e = .returned (.int .i64 (Lib.compareBytes x.1 y.1)) ∧ Fr No w w' := by
  obtain ⟨t, u⟩ := x
  obtain ⟨p, q⟩ := y
  simp only
  obtain ⟨g, hg⟩ : ∃ g, w.heap.size = g := ⟨_, rfl⟩
  have HG := hid hg
  clear hg
  go_enter Tryd.func31, Tryd.ntmps31
  go_wp2_with (first
    | ((with_reducible refine K.atO (.box 37 _) ?_); (fail_if_success (have := HB1)); refine wpL_box rfl _ _ rfl _ rfl [.string (sb t), .string (sb u)] rfl ?_; intro w1 HB1 HF1 HS1; rw [HG.out] at HB1 ⊢)
    | ((with_reducible refine K.atO (.box 37 _) ?_); refine wpL_box rfl _ _ rfl _ rfl [.string (sb p), .string (sb q)] rfl ?_; intro w2 HB2 HF2 HS2; rw [HS1.out, HG.out] at HB2 ⊢;
        (have hc1 : w2.cell? ⟨g, 0, none⟩ = some (.string (sb t)) := (HB1.out.fr HF2.out id).cell 0);
        (have hc2 : w2.cell? ⟨g + 1, 0, none⟩ = some (.string (sb p)) := HB2.out.cell 0))
    | fail)
  refine (compare_any t p w2).mono ?_
  rintro e w3 ⟨rfl, rfl⟩
  go_wp2_with fail
  go_ret
  exact ⟨rfl, HF1.out.trans' HF2.out⟩
/-! ### Insertion, as data -/
theorem insR_mid {x : Av} : ∀ {A C : Rd}, (∀ a ∈ A, ltB x.1 a.1 = false) → (∀ c ∈ C, ltB x.1 c.1 = true) → insR x (A ++ C) = A ++ x :: C
  | [], [], _, _ => rfl
  | [], c :: C, _, h => by
    show insR x (c :: C) = _
    unfold insR
    rw [if_pos (h c (by simp))]
    rfl
  | a :: A, C, h, h2 => by
    rw [List.cons_append]
    unfold insR
    rw [if_neg (by simp [h a (by simp)]), insR_mid (fun b hb => h b (by simp [hb])) h2]
    rfl
theorem srt_snoc (r : Rd) (x : Av) : srt (r ++ [x]) = insR x (srt r) := by simp [srt]
theorem all_le {x l : Av} {A : Rd} (hs : Sd (A ++ [l])) (h : ltB x.1 l.1 = false) : ∀ a ∈ A ++ [l], ltB x.1 a.1 = false := by
  intro a ha
  rcases List.mem_append.1 ha with ha | ha
  · have h1 := (List.pairwise_append.1 hs).2.2 a ha l (by simp)
    exact le_trans h1 h
  · obtain rfl := List.mem_singleton.1 ha
    exact h
/-- Two neighbours change places, as cells. -/
theorem swap_cells {A C : Rd} {l x : Av} {z : List Value} : spl (spl (avs (A ++ l :: x :: C) ++ z) ((A.length + 1) * 2) [.string (sb l.1), .string (sb l.2)]) (A.length * 2) [.string (sb x.1), .string (sb x.2)] = avs (A ++ x :: l :: C) ++ z := by
  have e1 : avs (A ++ l :: x :: C) ++ z = avs A ++ (Value.string (sb l.1) :: .string (sb l.2) :: .string (sb x.1) :: .string (sb x.2) :: (avs C ++ z)) := by rw [avs_app, avs_cons, avs_cons]; simp
  have e2 : avs (A ++ x :: l :: C) ++ z = avs A ++ (Value.string (sb x.1) :: .string (sb x.2) :: .string (sb l.1) :: .string (sb l.2) :: (avs C ++ z)) := by rw [avs_app, avs_cons, avs_cons]; simp
  rw [e1, e2]
  have hl := avs_len A
  obtain ⟨V, hV⟩ : ∃ V, avs A = V := ⟨_, rfl⟩
  rw [hV] at hl ⊢
  have s1 : spl (V ++ (Value.string (sb l.1) :: .string (sb l.2) :: .string (sb x.1) :: .string (sb x.2) :: (avs C ++ z))) ((A.length + 1) * 2) [.string (sb l.1), .string (sb l.2)] = V ++ (Value.string (sb l.1) :: .string (sb l.2) :: .string (sb l.1) :: .string (sb l.2) :: (avs C ++ z)) := by
    unfold spl
    rw [show (A.length + 1) * 2 = V.length + 2 by omega, List.take_length_add_append, show V.length + 2 + [Value.string (sb l.1), .string (sb l.2)].length = V.length + 4 by simp, List.drop_length_add_append]
    simp
  rw [s1]
  unfold spl
  rw [show A.length * 2 = V.length by omega, List.take_left, List.drop_length_add_append]
  simp
theorem avs_range {w : World} {g : Nat} {A C : Rd} {x : Av} {z : List Value} (hB : Blk w g 37 (avs (A ++ x :: C) ++ z)) : w.rangeAt g (A.length * 2) [.string (sb x.1), .string (sb x.2)] := by
  refine hB.range _ _ ?_
  have hl := avs_len A
  rw [avs_app, avs_cons, ← hl, List.append_assoc, List.drop_left]
  rfl
theorem exec_gtrI {op : Oper} {a : Act} (x y : Operand) (t u : TypeId) (ho : op.op = .binOp .gtr t x y u) (k : IntKind) (m n : Int) (hx : a.eval x = .int k m) (hy : a.eval y = .int k n) (b : Bool) (hb : decide (n < m) = b) (w : World) :
    (execOp a.eval op).run Tryd.prog w = .ok (.value (.bool b)) w := by
  subst hb
  unfold execOp
  simp only [ho, hx, hy]
  simp [go_sem, eqGuard, Result.andThen]
theorem exec_lssI {op : Oper} {a : Act} (x y : Operand) (t u : TypeId) (ho : op.op = .binOp .lss t x y u) (k : IntKind) (m n : Int) (hx : a.eval x = .int k m) (hy : a.eval y = .int k n) (b : Bool) (hb : decide (m < n) = b) (w : World) :
    (execOp a.eval op).run Tryd.prog w = .ok (.value (.bool b)) w := by
  subst hb
  unfold execOp
  simp only [ho, hx, hy]
  simp [go_sem, eqGuard, Result.andThen]
theorem exec_subI {op : Oper} {a : Act} (x y : Operand) (t u : TypeId) (ho : op.op = .binOp .sub t x y u) (m n : Int) (hx : a.eval x = .int .i64 m) (hy : a.eval y = .int .i64 n) (r : Int) (hr : IntKind.i64.wrap (m - n) = r) (w : World) :
    (execOp a.eval op).run Tryd.prog w = .ok (.value (.int .i64 r)) w := by
  subst hr
  unfold execOp
  simp only [ho, hx, hy]
  simp [go_sem, eqGuard, Result.andThen]
set_option maxHeartbeats 16000000 in
theorem insertion_any (g n cap : Nat) (r : Rd) (z : List Value) (w : World) (hn : r.length = n) (hc : n ≤ cap) (hB : Blk w g 37 (avs r ++ z)) (hl : n ≤ 1048576) :
    Calls Tryd.prog 52 #[.slice (some ⟨g, 0, none⟩) n cap, .int .i64 0, .int .i64 (n : Int), .func (.func 31) #[] #[]] w fun e w' => (∃ v, e = .returned v) ∧ Blk w' g 37 (avs (srt r) ++ z) ∧ Fr (fun k => k = g) w w' := by
  have HNN := hid hn
  have HB0 := hid hB
  have hni : (n : Int) ≤ 1048576 := by omega
  have HC := hid hc
  clear hB hn hl hc
  go_enter Tryd.func52, Tryd.ntmps52
  go_wp2_with fail
  go_loopw [8] (fun iv wr => ∃ (i : Nat), iv = .int .i64 i ∧ 1 ≤ i ∧ (n = 0 ∨ i ≤ n ∨ i = 1) ∧ Hid (Blk wr g 37 (avs (srt (r.take i) ++ r.drop i) ++ z) ∧ Fr (fun k => k = g) w wr)) (fun iv _ => n - (intOf iv).toNat)
  case atStart =>
    refine ⟨1, rfl, Nat.le_refl _, .inr (.inr rfl), hid ⟨?_, Fr.refl _ _⟩⟩
    have h1 : srt (r.take 1) = r.take 1 := by
      cases r with
      | nil => rfl
      | cons a q => rfl
    rw [h1, List.take_append_drop]
    exact HB0.out
  case round =>
    obtain ⟨i, rfl, hi1, hin, HI⟩ := hrel
    by_cases hlt : i < n
    · have hlti : (i : Int) < n := by omega
      have hi0 : (0 : Int) ≤ i := by omega
      obtain ⟨x, hx⟩ : ∃ x, r[i]? = some x := ⟨_, List.getElem?_eq_getElem (by rw [HNN.out]; exact hlt)⟩
      have hsplit : r.drop i = x :: r.drop (i + 1) := by
        have hl : i < r.length := by rw [HNN.out]; exact hlt
        rw [List.drop_eq_getElem_cons hl]
        rw [List.getElem?_eq_getElem hl] at hx
        rw [Option.some.inj hx]
      have htake : r.take (i + 1) = r.take i ++ [x] := by rw [List.take_add_one, hx]; rfl
      have hsl : (srt (r.take i)).length = i := by rw [srt_len, List.length_take, HNN.out]; omega
      have HFIN : Hid (srt (r.take (i + 1)) = insR x (srt (r.take i))) := hid (by rw [htake, srt_snoc])
      have HSD := hid (srt_sorted (r.take i))
      obtain ⟨P, hP⟩ : ∃ P, srt (r.take i) = P := ⟨_, rfl⟩
      obtain ⟨D, hD⟩ : ∃ D, r.drop (i + 1) = D := ⟨_, rfl⟩
      rw [hsplit, hP, hD] at HI
      rw [hP] at HSD HFIN hsl
      have HDD := hid hD; have HLT := hid hlt; have HSL := hid hsl
      clear hsplit htake hx hP hD hlt hin hsl
      go_wp2_with fail
      go_loopw [9] (fun jv wr2 => ∃ (j : Nat) (A C : Rd), jv = .int .i64 (j : Int) ∧ Hid (A.length = j) ∧ Hid (A ++ C = P ∧ (∀ c ∈ C, ltB x.1 c.1 = true)) ∧ Hid (Blk wr2 g 37 (avs (A ++ x :: (C ++ D)) ++ z) ∧ Fr (fun k => k = g) w wr2)) (fun jv _ => (intOf jv).toNat)
      case atStart => exact ⟨i, P, [], rfl, HSL, hid ⟨by simp, fun c hc => by cases hc⟩, HI⟩
      case round =>
        obtain ⟨j, A, C, rfl, HJA, HAC, HJ⟩ := hrel
        rcases List.eq_nil_or_concat A with rfl | ⟨A', l, rfl⟩
        · have hfin : srt (r.take (i + 1)) = x :: C := by
            rw [HFIN.out, ← HAC.out.1]
            exact insR_mid (A := []) (fun a ha => by cases ha) HAC.out.2
          have HB2 : Hid (Blk wr g 37 (avs (srt (r.take (i + 1)) ++ r.drop (i + 1)) ++ z) ∧ Fr (fun k => k = g) w wr) := hid ⟨by rw [hfin, HDD.out]; exact HJ.out.1, HJ.out.2⟩
          clear hfin
          obtain rfl : 0 = j := HJA.out
          go_wp2_with fail
          have hold : Facts.hold [] wr.drew := Facts.nil_hold _
          refine wpD_region hold (by kernel_rfl) 17 rfl ?_
          (refine K.pl 0 (v := ?_) rfl ?_ ?_; rotate_left; (intro _w; go_simp; try with_reducible rfl); simp only [Act.put, K.put3])
          (refine K.pl 1 (v := ?_) rfl ?_ ?_; rotate_left; (intro _w; go_simp; try with_reducible rfl); simp only [Act.put, K.put3])
          (refine K.pl 2 (v := (.bool false)) rfl ?_ ?_; (intro _w; exact exec_gtrI _ _ _ _ rfl .i64 0 0 rfl rfl _ rfl _w); simp only [Act.put, K.put3])
          (refine K.pl 3 (v := ?_) rfl ?_ ?_; rotate_left; (intro _w; go_simp; try with_reducible rfl); simp only [Act.put, K.put3])
          (refine wpD_skip 4 rfl (by kernel_rfl) (by kernel_rfl) (by kernel_rfl) (fun _ _ _ h => h) (by rfl) (by assumption) ?_; simp only [Act.put, K.put3])
          (refine wpD_skip 5 rfl (by kernel_rfl) (by kernel_rfl) (by kernel_rfl) (fun _ _ _ h => h) (by rfl) (by assumption) ?_; simp only [Act.put, K.put3])
          (refine wpD_skip 6 rfl (by kernel_rfl) (by kernel_rfl) (by kernel_rfl) (fun _ _ _ h => h) (by rfl) (by assumption) ?_; simp only [Act.put, K.put3])
          (refine wpD_skip 7 rfl (by kernel_rfl) (by kernel_rfl) (by kernel_rfl) (fun _ _ _ h => h) (by rfl) (by assumption) ?_; simp only [Act.put, K.put3])
          (refine wpD_skip 8 rfl (by kernel_rfl) (by kernel_rfl) (by kernel_rfl) (fun _ _ _ h => h) (by rfl) (by assumption) ?_; simp only [Act.put, K.put3])
          (refine wpD_skip 9 rfl (by kernel_rfl) (by kernel_rfl) (by kernel_rfl) (fun _ _ _ h => h) (by rfl) (by assumption) ?_; simp only [Act.put, K.put3])
          (refine wpD_skip 10 rfl (by kernel_rfl) (by kernel_rfl) (by kernel_rfl) (fun _ _ _ h => h) (by rfl) (by assumption) ?_; simp only [Act.put, K.put3])
          (refine wpD_skip 11 rfl (by kernel_rfl) (by kernel_rfl) (by kernel_rfl) (fun _ _ _ h => h) (by rfl) (by assumption) ?_; simp only [Act.put, K.put3])
          (refine wpD_skip 12 rfl (by kernel_rfl) (by kernel_rfl) (by kernel_rfl) (fun _ _ _ h => h) (by rfl) (by assumption) ?_; simp only [Act.put, K.put3])
          (refine wpD_skip 13 rfl (by kernel_rfl) (by kernel_rfl) (by kernel_rfl) (fun _ _ _ h => h) (by rfl) (by assumption) ?_; simp only [Act.put, K.put3])
          (refine wpD_skip 14 rfl (by kernel_rfl) (by kernel_rfl) (by kernel_rfl) (fun _ _ _ h => h) (by rfl) (by assumption) ?_; simp only [Act.put, K.put3])
          (refine wpD_skip 15 rfl (by kernel_rfl) (by kernel_rfl) (by kernel_rfl) (fun _ _ _ h => h) (by rfl) (by assumption) ?_; simp only [Act.put, K.put3])
          (refine K.pl 16 (v := ?_) rfl ?_ ?_; rotate_left; (intro _w; go_simp; try with_reducible rfl); simp only [Act.put, K.put3])
          clear hold
          refine wpD_done (by kernel_rfl) ?_ _
          go_wp2_with fail
          refine ⟨⟨i + 1, by go_num, by omega, by have := HLT.out; omega, hid ⟨HB2.out.1, HB2.out.2.drew⟩⟩, by have := HLT.out; simp [intOf]; omega⟩
        · rw [List.concat_eq_append] at HJA HAC HJ
          obtain ⟨m, hm⟩ : ∃ m, A'.length = m := ⟨_, rfl⟩
          have HM := hid hm
          have hlen : m + 1 + C.length = i := by have h := congrArg List.length HAC.out.1; rw [HSL.out] at h; simp at h; omega
          have hj1 : (m : Int) + 1 < n := by have := HLT.out; omega
          have hj0 : (0 : Int) ≤ (m : Int) + 1 := by omega
          have hm1 : (m : Int) < n := by omega
          have hm0 : (0 : Int) ≤ (m : Int) := by omega
          have HJB : Hid (Blk wr g 37 (avs (A' ++ l :: x :: (C ++ D)) ++ z)) := hid (by have h := HJ.out.1; simpa using h)
          have hr1 : wr.rangeAt g ((m + 1) * 2) [.string (sb x.1), .string (sb x.2)] := by
            have h : Blk wr g 37 (avs ((A' ++ [l]) ++ x :: (C ++ D)) ++ z) := by have h := HJB.out; simpa using h
            have := avs_range h
            rwa [List.length_append, hm] at this
          have hr2 : wr.rangeAt g (m * 2) [.string (sb l.1), .string (sb l.2)] := by
            have := avs_range HJB.out
            rwa [hm] at this
          have HFJ := hid HJ.out.2
          have HCMP := hid (fun w => cmp_any x l w)
          have hcl := cmp_lt x.1 l.1
          obtain ⟨q, hq⟩ : ∃ q : Int, Lib.compareBytes x.1 l.1 = q := ⟨_, rfl⟩
          rw [hq] at hcl HCMP
          obtain rfl : m + 1 = j := by have h := HJA.out; rw [List.length_append, hm] at h; exact h
          have hjl : ((m + 1 : Nat) : Int) = (m : Int) + 1 := by omega
          rw [hjl]
          clear hlen hq hjl HJ hm
          go_wp2_with fail
          cases hlb : ltB x.1 l.1 with
          | false =>
            have HCL : Hid (decide (q < 0) = false) := hid (by rw [hcl, hlb])
            have hfin : srt (r.take (i + 1)) = A' ++ l :: x :: C := by
              have hP : P = (A' ++ [l]) ++ C := HAC.out.1.symm
              have hsd : Sd (A' ++ [l]) := by have h := HSD.out; rw [hP] at h; exact (List.pairwise_append.1 h).1
              rw [HFIN.out, hP, insR_mid (all_le hsd hlb) HAC.out.2]
              simp
            have HFI := hid hfin
            clear hcl hlb hfin
            have hold : Facts.hold [(8, fun w' => w'.rangeAt g ((m + 1) * 2) [.string (sb x.1), .string (sb x.2)]), (13, fun w' => w'.rangeAt g (m * 2) [.string (sb l.1), .string (sb l.2)])] wr.drew := Facts.cons_hold hr1 (Facts.cons_hold hr2 (Facts.nil_hold _))
            refine wpD_region hold (by kernel_rfl) 17 rfl ?_
            (refine K.pl 0 (v := ?_) rfl ?_ ?_; rotate_left; (intro _w; go_simp; try with_reducible rfl); simp only [Act.put, K.put3])
            (refine K.pl 1 (v := ?_) rfl ?_ ?_; rotate_left; (intro _w; go_simp; try with_reducible rfl); simp only [Act.put, K.put3])
            (refine K.pl 2 (v := (.bool true)) rfl ?_ ?_; (intro _w; exact exec_gtrI _ _ _ _ rfl .i64 ((m : Int) + 1) 0 rfl rfl _ (decide_eq_true (by omega)) _w); simp only [Act.put, K.put3])
            (refine K.pl 3 (v := ?_) rfl ?_ ?_; rotate_left; (intro _w; go_simp; try with_reducible rfl); simp only [Act.put, K.put3])
            (refine K.pl 4 (v := ?_) rfl ?_ ?_; rotate_left; (intro _w; go_simp; try with_reducible rfl); simp only [Act.put, K.put3])
            (refine K.pl 5 (v := ?_) rfl ?_ ?_; rotate_left; (intro _w; go_simp; try with_reducible rfl); simp only [Act.put, K.put3])
            (refine K.pl 6 (v := ?_) rfl ?_ ?_; rotate_left; (intro _w; go_simp; try with_reducible rfl); simp only [Act.put, K.put3])
            (refine K.pl 7 (v := (.pointer (some ⟨g, (m + 1) * 2, none⟩))) rfl ?_ ?_; (intro _w; go_simp; skip); simp only [Act.put, K.put3])
            (refine K.tk 8 _ rfl K.m0 (exec_load _ _ rfl g ((m + 1) * 2) rfl _ _ rfl rfl infoAv) ?_; simp only [Act.put, K.put3])
            (refine K.pl 9 (v := ?_) rfl ?_ ?_; rotate_left; (intro _w; go_simp; try with_reducible rfl); simp only [Act.put, K.put3])
            (refine K.pl 10 (v := ?_) rfl ?_ ?_; rotate_left; (intro _w; go_simp; try with_reducible rfl); simp only [Act.put, K.put3])
            (refine K.pl 11 (v := (.int .i64 (m : Int))) rfl ?_ ?_; (intro _w; exact exec_subI _ _ _ _ rfl ((m : Int) + 1) 1 rfl rfl _ (by rw [IntKind.wrap_i64]; omega) _w); simp only [Act.put, K.put3])
            (refine K.pl 12 (v := (.pointer (some ⟨g, m * 2, none⟩))) rfl ?_ ?_; (intro _w; go_simp; skip); simp only [Act.put, K.put3])
            (refine K.tk 13 _ rfl K.m1 (exec_load _ _ rfl g (m * 2) rfl _ _ rfl rfl infoAv) ?_; simp only [Act.put, K.put3])
            clear hold
            refine K.on 14 [] rfl (fun K14 hK14 => ?_)
            refine wp_call _ _ _ rfl 31 [] rfl (fun vs w => by kernel_rfl) [.agg #[.string (sb x.1), .string (sb x.2)], .agg #[.string (sb l.1), .string (sb l.2)]] (by rfl) ?_
            refine (HCMP.out wr.drew).mono ?_
            rintro e w3 ⟨rfl, f3⟩
            have HF3 := hid ((Fr.refl No wr).drew.trans' f3)
            have HB3 := hid (HJB.out.fr HF3.out id)
            refine ⟨_, rfl, hK14 _ _ (Facts.nil_hold _) ?_⟩
            clear hK14 K14 f3
            simp only [Act.put, K.put3]
            have hold : Facts.hold [] w3 := Facts.nil_hold _
            (refine K.pl 15 (v := (.bool false)) rfl ?_ ?_; (intro _w; exact exec_lssI _ _ _ _ rfl .i64 q 0 rfl rfl _ HCL.out _w); simp only [Act.put, K.put3])
            (refine K.pl 16 (v := ?_) rfl ?_ ?_; rotate_left; (intro _w; go_simp; try with_reducible rfl); simp only [Act.put, K.put3])
            clear hold
            refine wpD_done (by kernel_rfl) ?_ _
            go_wp2_with fail
            refine ⟨⟨i + 1, by go_num, by omega, by have := HLT.out; omega, hid ⟨?_, HFJ.out.trans HF3.out fun k e => e.elim⟩⟩, by have := HLT.out; simp [intOf]; omega⟩
            rw [HFI.out, HDD.out]
            have h := HB3.out
            simpa using h
          | true =>
            have HCL : Hid (decide (q < 0) = true) := hid (by rw [hcl, hlb])
            have HLB := hid hlb
            clear hcl hlb
            have hold : Facts.hold [(8, fun w' => w'.rangeAt g ((m + 1) * 2) [.string (sb x.1), .string (sb x.2)]), (13, fun w' => w'.rangeAt g (m * 2) [.string (sb l.1), .string (sb l.2)])] wr.drew := Facts.cons_hold hr1 (Facts.cons_hold hr2 (Facts.nil_hold _))
            refine wpD_region hold (by kernel_rfl) 17 rfl ?_
            (refine K.pl 0 (v := ?_) rfl ?_ ?_; rotate_left; (intro _w; go_simp; try with_reducible rfl); simp only [Act.put, K.put3])
            (refine K.pl 1 (v := ?_) rfl ?_ ?_; rotate_left; (intro _w; go_simp; try with_reducible rfl); simp only [Act.put, K.put3])
            (refine K.pl 2 (v := (.bool true)) rfl ?_ ?_; (intro _w; exact exec_gtrI _ _ _ _ rfl .i64 ((m : Int) + 1) 0 rfl rfl _ (decide_eq_true (by omega)) _w); simp only [Act.put, K.put3])
            (refine K.pl 3 (v := ?_) rfl ?_ ?_; rotate_left; (intro _w; go_simp; try with_reducible rfl); simp only [Act.put, K.put3])
            (refine K.pl 4 (v := ?_) rfl ?_ ?_; rotate_left; (intro _w; go_simp; try with_reducible rfl); simp only [Act.put, K.put3])
            (refine K.pl 5 (v := ?_) rfl ?_ ?_; rotate_left; (intro _w; go_simp; try with_reducible rfl); simp only [Act.put, K.put3])
            (refine K.pl 6 (v := ?_) rfl ?_ ?_; rotate_left; (intro _w; go_simp; try with_reducible rfl); simp only [Act.put, K.put3])
            (refine K.pl 7 (v := (.pointer (some ⟨g, (m + 1) * 2, none⟩))) rfl ?_ ?_; (intro _w; go_simp; skip); simp only [Act.put, K.put3])
            (refine K.tk 8 _ rfl K.m0 (exec_load _ _ rfl g ((m + 1) * 2) rfl _ _ rfl rfl infoAv) ?_; simp only [Act.put, K.put3])
            (refine K.pl 9 (v := ?_) rfl ?_ ?_; rotate_left; (intro _w; go_simp; try with_reducible rfl); simp only [Act.put, K.put3])
            (refine K.pl 10 (v := ?_) rfl ?_ ?_; rotate_left; (intro _w; go_simp; try with_reducible rfl); simp only [Act.put, K.put3])
            (refine K.pl 11 (v := (.int .i64 (m : Int))) rfl ?_ ?_; (intro _w; exact exec_subI _ _ _ _ rfl ((m : Int) + 1) 1 rfl rfl _ (by rw [IntKind.wrap_i64]; omega) _w); simp only [Act.put, K.put3])
            (refine K.pl 12 (v := (.pointer (some ⟨g, m * 2, none⟩))) rfl ?_ ?_; (intro _w; go_simp; skip); simp only [Act.put, K.put3])
            (refine K.tk 13 _ rfl K.m1 (exec_load _ _ rfl g (m * 2) rfl _ _ rfl rfl infoAv) ?_; simp only [Act.put, K.put3])
            clear hold
            refine K.on 14 [] rfl (fun K14 hK14 => ?_)
            refine wp_call _ _ _ rfl 31 [] rfl (fun vs w => by kernel_rfl) [.agg #[.string (sb x.1), .string (sb x.2)], .agg #[.string (sb l.1), .string (sb l.2)]] (by rfl) ?_
            refine (HCMP.out wr.drew).mono ?_
            rintro e w3 ⟨rfl, f3⟩
            have HF3 := hid ((Fr.refl No wr).drew.trans' f3)
            have HB3 := hid (HJB.out.fr HF3.out id)
            refine ⟨_, rfl, hK14 _ _ (Facts.nil_hold _) ?_⟩
            clear hK14 K14 f3
            simp only [Act.put, K.put3]
            have hold : Facts.hold [] w3 := Facts.nil_hold _
            (refine K.pl 15 (v := (.bool true)) rfl ?_ ?_; (intro _w; exact exec_lssI _ _ _ _ rfl .i64 q 0 rfl rfl _ HCL.out _w); simp only [Act.put, K.put3])
            (refine K.pl 16 (v := ?_) rfl ?_ ?_; rotate_left; (intro _w; go_simp; try with_reducible rfl); simp only [Act.put, K.put3])
            clear hold
            refine wpD_done (by kernel_rfl) ?_ _
            go_wp2_with fail
            have hr3 : w3.rangeAt g (m * 2) [.string (sb l.1), .string (sb l.2)] := HF3.out.range hr2 id
            have hr4 : w3.rangeAt g ((m + 1) * 2) [.string (sb x.1), .string (sb x.2)] := HF3.out.range hr1 id
            have hold : Facts.hold [(9, fun w' => w'.rangeAt g (m * 2) [.string (sb l.1), .string (sb l.2)]), (13, fun w' => w'.rangeAt g ((m + 1) * 2) [.string (sb x.1), .string (sb x.2)])] w3.drew := Facts.cons_hold hr3 (Facts.cons_hold hr4 (Facts.nil_hold _))
            refine wpD_region hold (by kernel_rfl) 18 rfl ?_
            (refine K.pl 0 (v := ?_) rfl ?_ ?_; rotate_left; (intro _w; go_simp; try with_reducible rfl); simp only [Act.put, K.put3])
            (refine K.pl 1 (v := ?_) rfl ?_ ?_; rotate_left; (intro _w; go_simp; try with_reducible rfl); simp only [Act.put, K.put3])
            (refine K.pl 2 (v := ?_) rfl ?_ ?_; rotate_left; (intro _w; go_simp; try with_reducible rfl); simp only [Act.put, K.put3])
            (refine K.pl 3 (v := ?_) rfl ?_ ?_; rotate_left; (intro _w; go_simp; try with_reducible rfl); simp only [Act.put, K.put3])
            (refine K.pl 4 (v := (.int .i64 (m : Int))) rfl ?_ ?_; (intro _w; exact exec_subI _ _ _ _ rfl ((m : Int) + 1) 1 rfl rfl _ (by rw [IntKind.wrap_i64]; omega) _w); simp only [Act.put, K.put3])
            (refine K.pl 5 (v := ?_) rfl ?_ ?_; rotate_left; (intro _w; go_simp; try with_reducible rfl); simp only [Act.put, K.put3])
            (refine K.pl 6 (v := ?_) rfl ?_ ?_; rotate_left; (intro _w; go_simp; try with_reducible rfl); simp only [Act.put, K.put3])
            (refine K.pl 7 (v := (.int .i64 (m : Int))) rfl ?_ ?_; (intro _w; exact exec_subI _ _ _ _ rfl ((m : Int) + 1) 1 rfl rfl _ (by rw [IntKind.wrap_i64]; omega) _w); simp only [Act.put, K.put3])
            (refine K.pl 8 (v := (.pointer (some ⟨g, m * 2, none⟩))) rfl ?_ ?_; (intro _w; go_simp; skip); simp only [Act.put, K.put3])
            (refine K.tk 9 _ rfl K.m0 (exec_load _ _ rfl g (m * 2) rfl _ _ rfl rfl infoAv) ?_; simp only [Act.put, K.put3])
            (refine K.pl 10 (v := ?_) rfl ?_ ?_; rotate_left; (intro _w; go_simp; try with_reducible rfl); simp only [Act.put, K.put3])
            (refine K.pl 11 (v := ?_) rfl ?_ ?_; rotate_left; (intro _w; go_simp; try with_reducible rfl); simp only [Act.put, K.put3])
            (refine K.pl 12 (v := (.pointer (some ⟨g, (m + 1) * 2, none⟩))) rfl ?_ ?_; (intro _w; go_simp; skip); simp only [Act.put, K.put3])
            (refine K.tk 13 _ rfl K.m1 (exec_load _ _ rfl g ((m + 1) * 2) rfl _ _ rfl rfl infoAv) ?_; simp only [Act.put, K.put3])
            (refine K.pl 14 (v := (.pointer (some ⟨g, (m + 1) * 2, none⟩))) rfl ?_ ?_; (intro _w; go_simp; skip); simp only [Act.put, K.put3])
            clear hold
            have hlenB : (m + 1) * 2 + 2 ≤ (avs (A' ++ l :: x :: (C ++ D)) ++ z).length := by
              rw [List.length_append, avs_len]
              have := HM.out
              simp
              omega
            have HLB2 := hid hlenB
            clear hlenB
            refine K.on 15 [] rfl (fun K15 hK15 => ?_)
            refine wp_storeV _ _ _ rfl g ((m + 1) * 2) (.agg #[.string (sb l.1), .string (sb l.2)]) [.string (sb l.1), .string (sb l.2)] rfl rfl rfl 37 _ (show Blk w3.drew g _ _ from HB3.out) (by have := HLB2.out; simpa using this) infoAv (by simp [Value.oneCell']) ?_
            intro w5 HB5 HF5 HS5
            refine hK15 _ _ (Facts.nil_hold _) ?_
            clear hK15 K15
            simp only [Act.put, K.put3]
            have hold : Facts.hold [] w5 := Facts.nil_hold _
            (refine K.pl 16 (v := (.pointer (some ⟨g, m * 2, none⟩))) rfl ?_ ?_; (intro _w; go_simp; skip); simp only [Act.put, K.put3])
            clear hold
            refine K.on 17 [] rfl (fun K17 hK17 => ?_)
            refine wp_storeV _ _ _ rfl g (m * 2) (.agg #[.string (sb x.1), .string (sb x.2)]) [.string (sb x.1), .string (sb x.2)] rfl rfl rfl 37 _ HB5.out (by rw [spl_length _ _ _ (by have := HLB2.out; simpa using this)]; have := HLB2.out; simp at *; omega) infoAv (by simp [Value.oneCell']) ?_
            intro w6 HB6 HF6 HS6
            refine hK17 _ _ (Facts.nil_hold _) ?_
            clear hK17 K17
            simp only [Act.put, K.put3]
            refine wpD_done (by kernel_rfl) ?_ _
            go_wp2_with fail
            refine ⟨⟨m, A', l :: C, by go_num, HM, hid ⟨by have h := HAC.out.1; simpa using h, fun c hc => ?_⟩, hid ⟨?_, ?_⟩⟩, by simp [intOf]⟩
            · rcases List.mem_cons.1 hc with rfl | hc
              · exact HLB.out
              · exact HAC.out.2 c hc
            · have h := HB6.out
              rw [← HM.out, swap_cells] at h
              exact h
            · exact (HFJ.out.trans HF3.out fun k e => e.elim).trans ((Fr.refl (fun k => k = g) w3).drew.trans' (HF5.out.trans' HF6.out)) fun k e => .inl e
    · have hd : i = 1 ∨ i = n ∨ n = 0 := by omega
      have hfin : srt (r.take i) ++ r.drop i = srt r := by
        rcases Nat.lt_or_ge r.length i with hri | hri
        · rw [List.take_of_length_le (by omega), List.drop_of_length_le (by omega), List.append_nil]
        · have : r.length = i := by have := HNN.out; omega
          rw [← this, List.take_length, List.drop_length, List.append_nil]
      have HBF := HI.out.1
      rw [hfin] at HBF
      have HBG := hid HBF
      clear HBF hfin
      go_wp2_with fail
      go_end0
      exact ⟨⟨_, rfl⟩, HBG.out, HI.out.2⟩
end Go.Proofs.YtnjemnmhkhkpeaaDoor.DN
namespace Go.Proofs.YtnjemnmhkhkpeaaDoor.DN
set_option maxRecDepth 100000
open Go.Proofs.YtnjemnmhkhkpeaaDoor.BE Go.Lib
theorem extract_piece (s : ByteArray) (a b : Nat) : (s.extract a b).data.toList = pieceU s.data.toList a b := by
  unfold pieceU
  rw [ByteArray.data_extract, Array.toList_extract, List.extract_eq_take_drop]
theorem dec_facts (s : ByteArray) (pos : Nat) (h : pos < s.size) : 1 ≤ (Utf8.decode s pos).2 ∧ pos + (Utf8.decode s pos).2 ≤ s.size ∧ ((Utf8.decode s pos).1 = 32 → s.data.toList[pos]? = some 32 ∧ (Utf8.decode s pos).2 = 1) ∧
    ((Utf8.decode s pos).1 ≠ 32 → ∀ c ∈ (s.data.toList.drop pos).take (Utf8.decode s pos).2, c ≠ 32) := by
  have hl : s.data.toList.length = s.size := by simp
  have hw := width_pos s pos
  have hN := decode_N s pos
  have hle := decodeN_le_n' (s.data.toList.length - pos) (s.data.toList.getD pos 0).toNat (s.data.toList.getD (pos + 1) 0).toNat (s.data.toList.getD (pos + 2) 0).toNat (s.data.toList.getD (pos + 3) 0).toNat (by omega)
  have hc := decodeN_conts (s.data.toList.length - pos) (s.data.toList.getD pos 0).toNat (s.data.toList.getD (pos + 1) 0).toNat (s.data.toList.getD (pos + 2) 0).toNat (s.data.toList.getD (pos + 3) 0).toNat
  rw [← hN] at hle hc
  have hget : s.data.toList[pos]? = some (s.data.toList.getD pos 0) := by
    rw [List.getD_eq_getElem?_getD, List.getElem?_eq_getElem (by omega)]; rfl
  have hsp : s[pos]'h = s.data.toList.getD pos 0 := by
    rw [List.getD_eq_getElem?_getD, List.getElem?_eq_getElem (by omega)]
    rfl
  refine ⟨hw, by omega, ?_, ?_⟩
  · intro h32
    by_cases hb : (s.data.toList.getD pos 0).toNat < 128
    · rw [decodeN_ascii _ _ _ _ _ hb] at hN
      rw [hN] at h32 ⊢
      have : s.data.toList.getD pos 0 = 32 := UInt8.toNat_inj.1 h32
      rw [hget, this]
      exact ⟨rfl, rfl⟩
    · have := (decode_high s pos h (by rw [hsp]; omega)).1
      omega
  · intro h32 c hcm
    obtain ⟨j, hj⟩ := List.mem_iff_getElem?.1 hcm
    have hjk : j < (Utf8.decode s pos).2 := by
      have := (List.getElem?_eq_some_iff.1 hj).1
      rw [List.length_take] at this
      omega
    rw [List.getElem?_take, if_pos hjk, List.getElem?_drop] at hj
    have hd : s.data.toList.getD (pos + j) 0 = c := by rw [List.getD_eq_getElem?_getD, hj]; rfl
    intro e
    subst e
    obtain ⟨c1, c2, c3, c4⟩ := hc
    have h3 : j = 0 ∨ j = 1 ∨ j = 2 ∨ j = 3 := by omega
    rcases h3 with rfl | rfl | rfl | rfl
    · rw [Nat.add_zero] at hd
      rw [hd] at hN
      rw [decodeN_ascii _ _ _ _ _ (by decide)] at hN
      rw [hN] at h32
      exact h32 rfl
    · have := (c1 (by omega)).1
      rw [hd] at this
      exact absurd this (by decide)
    · have := (c2 (by omega)).1
      rw [hd] at this
      exact absurd this (by decide)
    · have := (c3 (by omega)).1
      rw [hd] at this
      exact absurd this (by decide)
theorem words_end (cur : B) : words cur [] = if cur.isEmpty then [] else [cur] := rfl
theorem words_sp (cur r : B) : words cur (32 :: r) = if cur.isEmpty then words [] r else cur :: words [] r := rfl
theorem close_words (s : ByteArray) (st : Option Nat) (acc : List (Nat × Nat)) (hst : ∀ a, st = some a → a < s.size) :
    (closeSpans s (acc, st)).map (fun x => pieceU s.data.toList x.1 x.2) = acc.map (fun x => pieceU s.data.toList x.1 x.2) ++ words (openPiece s.data.toList st s.size) [] := by
  have hl : s.data.toList.length = s.size := by simp
  cases st with
  | none => simp [closeSpans, openPiece, words_end]
  | some a =>
    have hne := pieceU_ne s.data.toList a s.size (hst a rfl) (by omega)
    rw [words_end]
    show _ = _ ++ if (pieceU s.data.toList a s.size).isEmpty = true then [] else [pieceU s.data.toList a s.size]
    rw [if_neg (by rw [List.isEmpty_iff]; exact hne)]
    simp [closeSpans]
theorem spans_words (s : ByteArray) : ∀ (f pos : Nat) (st : Option Nat) (acc : List (Nat × Nat)), s.size ≤ pos + f → pos ≤ s.size → (∀ a, st = some a → a < pos) →
    (closeSpans s (spansFromP (fun x => x == 32) s f pos st acc)).map (fun x => pieceU s.data.toList x.1 x.2) = acc.map (fun x => pieceU s.data.toList x.1 x.2) ++ words (openPiece s.data.toList st pos) (s.data.toList.drop pos)
  | 0, pos, st, acc, hf, hp, hst => by
    have hl : s.data.toList.length = s.size := by simp
    obtain rfl : pos = s.size := by omega
    rw [List.drop_of_length_le (by omega)]
    exact close_words s st acc hst
  | f + 1, pos, st, acc, hf, hp, hst => by
    have hl : s.data.toList.length = s.size := by simp
    by_cases hlt : pos < s.size
    · obtain ⟨h1, h2, h3, h4⟩ := dec_facts s pos hlt
      unfold spansFromP
      rw [if_pos hlt]
      by_cases h32 : (Utf8.decode s pos).1 = 32
      · obtain ⟨hb, hk⟩ := h3 h32
        have hdrop : s.data.toList.drop pos = 32 :: s.data.toList.drop (pos + 1) := by
          rw [List.drop_eq_getElem_cons (by omega)]
          rw [List.getElem?_eq_getElem (by omega)] at hb
          rw [Option.some.inj hb]
        rw [h32, if_pos (by decide), hk, hdrop, words_sp]
        cases st with
        | none =>
          simp only
          rw [spans_words s f (pos + 1) none acc (by omega) (by omega) (fun a h => by cases h)]
          rfl
        | some a =>
          have hne := pieceU_ne s.data.toList a pos (hst a rfl) (by omega)
          simp only
          rw [spans_words s f (pos + 1) none (acc ++ [(a, pos)]) (by omega) (by omega) (fun a h => by cases h)]
          show _ = _ ++ if (pieceU s.data.toList a pos).isEmpty = true then _ else pieceU s.data.toList a pos :: _
          rw [if_neg (by rw [List.isEmpty_iff]; exact hne)]
          simp [openPiece]
      · have hr : words (openPiece s.data.toList st pos) (s.data.toList.drop pos) = words (openPiece s.data.toList st pos ++ (s.data.toList.drop pos).take (Utf8.decode s pos).2) (s.data.toList.drop (pos + (Utf8.decode s pos).2)) := by
          rw [← List.drop_drop, ← words_run _ _ _ (h4 h32), List.take_append_drop]
        rw [if_neg (by simp [h32]), hr]
        cases st with
        | none =>
          simp only
          rw [spans_words s f _ (some pos) acc (by omega) (by omega) (fun a h => by cases h; omega)]
          simp only [openPiece, List.nil_append, pieceU, Nat.add_sub_cancel_left]
        | some a =>
          have := hst a rfl
          simp only
          rw [spans_words s f _ (some a) acc (by omega) (by omega) (fun b h => by cases h; omega)]
          simp only [openPiece]
          rw [pieceU_grow _ _ _ _ (by omega)]
    · obtain rfl : pos = s.size := by omega
      rw [spansFromP_end _ _ _ _ _ _ hlt, List.drop_of_length_le (by omega)]
      exact close_words s st acc hst
theorem fields_words (s : ByteArray) : (goFieldsP (fun x => x == 32) s).map (·.data.toList) = words [] s.data.toList := by
  have h := spans_words s s.size 0 none [] (by omega) (by omega) (fun a h => by cases h)
  unfold goFieldsP spansOfP
  rw [List.map_map]
  have e : ((fun x : ByteArray => x.data.toList) ∘ fun x : Nat × Nat => s.extract x.1 x.2) = fun x => pieceU s.data.toList x.1 x.2 := by
    funext x
    exact extract_piece s x.1 x.2
  rw [e, h]
  rfl
theorem joinB_eq (sep : B) : ∀ L : List B, Lib.join L sep = joinB sep L
  | [] => rfl
  | [a] => by rw [Lib.join_one]; rfl
  | a :: b :: r => by
    have ih := joinB_eq sep (b :: r)
    rw [Lib.join_cons] at ih ⊢
    simp only [joinB]
    rw [← ih]
    simp [Lib.joinTail]
end Go.Proofs.YtnjemnmhkhkpeaaDoor.DN
