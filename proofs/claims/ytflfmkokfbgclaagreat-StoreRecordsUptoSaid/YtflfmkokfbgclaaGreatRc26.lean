/-
  Part 26 of the proof: OwB.
-/
import Derived.Test.YtflfmkokfbgclaaGreatChecked
import Derived.Test.YtflfmkokfbgclaaGreatRc01
set_option linter.unusedSimpArgs false
set_option linter.unusedVariables false
namespace Go.Proofs.YtflfmkokfbgclaaGreat.K
set_option maxRecDepth 100000
open Go.RowKit

theorem infoB : (Tryz.prog.info? 5).map (fun i => (i.zero, i.size, i.bytes)) = some (some (.int .u8 0), 1, 1) := by kernel_rfl
/-- The value is a slice of these bytes, which has been made since w0; nothing that was there has turned. -/
def OwB (w0 w : World) (v : Value) (l : List UInt8) : Prop := (∃ a c, v = .slice a l.length c) ∧ w.ownsRow w0.heap.size 5 1 v l.length (u8s l) ∧ Fr No w0 w
theorem frGrown {w w' : World} {row : Option Nat} (h : w.grownBy w' row) : Fr (fun k => row = some k) w w' := ⟨h.os, h.tape, h.output, h.size, fun k hk hn => h.block k hk (fun e => hn e.symm)⟩
section
variable {w0 w w' : World} {v : Value} {l : List UInt8}
theorem OwB.fr (h : OwB w0 w v l) : Fr No w0 w := h.2.2
theorem OwB.bytes (h : OwB w0 w v l) : BytesIn w (fun k => w0.heap.size ≤ k) v l := own_bytes h.2.1
theorem OwB.ge (h : OwB w0 w v l) (g : Nat) (hg : v.ownBlock = some g) : w0.heap.size ≤ g := own_low h.2.1 g hg
theorem OwB.lt (h : OwB w0 w v l) (g : Nat) (hg : v.ownBlock = some g) : g < w.heap.size := (h.2.1.lt g hg).2
/-- Whatever leaves the row alone, and what was there. -/
theorem OwB.later {D : Nat → Prop} (h : OwB w0 w v l) (hf : Fr D w w') (hn : ∀ k, v.ownBlock = some k → ¬ D k) (hd : ∀ k, D k → w0.heap.size ≤ k) : OwB w0 w' v l :=
  ⟨h.1, own_fr h.2.1 hf hn, h.2.2.trans hf fun k e => .inr (hd k e)⟩
theorem OwB.no (h : OwB w0 w v l) (hf : Fr No w w') : OwB w0 w' v l := h.later hf (fun _ _ e => e) (fun _ e => e.elim)
theorem owB_nil (h : Fr No w0 w) : OwB w0 w (.slice none 0 0) [] := ⟨⟨_, _, rfl⟩, ⟨rfl, .inl ⟨rfl, rfl⟩⟩, h⟩
end
section
variable {ops : Array Oper} {rest : List Oper} {op : Oper} {a : Act} {w : World} {Q : Exit → Act → World → Prop}
/-- 'append(v, x...)' to such a row. -/
theorem wpL_appB (hgd : op.guard = none) (s x : Operand) (ho : op.op = .call { callee := .builtin .append, args := #[s, x], argTypes := #[40, 40] }) {w0 : World} {v : Value} {l : List UInt8} (hown : OwB w0 w v l) (hv : a.eval s = v)
    (sp : Option Addr) (m c : Nat) (news : List UInt8) (hx : a.eval x = .slice sp m c) (hl : news.length = m) (hsrc : m = 0 ∨ ∃ ad, sp = some ad ∧ ∀ (j : Nat) (u : Value), (u8s news)[j]? = some u → w.cell? (ad.add j) = some u)
    (n : Nat) (hn : l.length + m = n) (r : List UInt8) (hr : l ++ news = r) (hb : n ≤ 140737488355328)
    (h : ∀ a' cap' w', Hid (OwB w0 w' (.slice a' n cap') r) → Hid (Fr (fun k => v.ownBlock = some k) w w') → Hid ((Value.slice a' n cap').ownBlock = v.ownBlock ∨ (Value.slice a' n cap').ownBlock = some w.heap.size) →
      wpList Tryz.prog ops Q rest (a.put op.dst (.slice a' n cap')) w') : wpList Tryz.prog ops Q (op :: rest) a w := by
  obtain ⟨i, hi, hz, hs, hbb⟩ := Go.info_parts infoB
  subst hn
  refine wpL_append hgd s x 40 ho w0.heap.size 5 i _ 1 1 Tryz.underlying40 hi hz hs hbb rfl (by decide) v l.length (u8s l) hv hown.2.1 sp m c (u8s news) hx (by rw [u8s_length, hl, Nat.mul_one]) hsrc (u8s_one _) (by unfold maxLen; omega) (by omega) hown.2.2.size ?_
  intro a' cap' w' p q r'
  refine h a' cap' w' (hid ⟨⟨a', cap', by rw [← hr, List.length_append, hl]⟩, ?_, ?_⟩) (hid (frGrown q.out)) r'
  · rw [← hr, List.length_append, hl, u8s_append]
    exact p.out
  · exact hown.2.2.trans (frGrown q.out) fun k e => .inr (own_low hown.2.1 k e)
end
end Go.Proofs.YtflfmkokfbgclaaGreat.K
