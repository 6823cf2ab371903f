/-
  Rows of whatever elements that a call has made itself; one element more.
-/
import Derived.Test.YthjmkfpdbbfcpaaGreatDoorDnX
set_option linter.unusedVariables false
set_option linter.unusedSimpArgs false
namespace Go.Proofs.YthjmkfpdbbfcpaaGreatDoor.DN
set_option maxRecDepth 100000
open Go.RowKit K Go.Proofs.YthjmkfpdbbfcpaaGreatDoor.BE

/-- The value is a slice of n elements of e, k cells each: these; it has been made since w0; nothing that was there has turned. -/
def OwR (e : TypeId) (k : Nat) (w0 w : World) (v : Value) (n : Nat) (cs : List Value) : Prop := (∃ a c, v = .slice a n c) ∧ w.ownsRow w0.heap.size e k v n cs ∧ Fr No w0 w
def Info (e : TypeId) (z : Value) (k bytes : Nat) : Prop := (Tryz.prog.info? e).map (fun i => (i.zero, i.size, i.bytes)) = some (some z, k, bytes)
section
variable {e : TypeId} {k : Nat} {w0 w w' : World} {v : Value} {n : Nat} {cs : List Value}
theorem OwR.no (h : OwR e k w0 w v n cs) (hf : Fr No w w') : OwR e k w0 w' v n cs := ⟨h.1, own_fr h.2.1 hf (fun _ _ e => e), h.2.2.trans' hf⟩
theorem OwR.fr (h : OwR e k w0 w v n cs) : Fr No w0 w := h.2.2
theorem OwR.ge (h : OwR e k w0 w v n cs) (g : Nat) (hg : v.ownBlock = some g) : w0.heap.size ≤ g ∧ g < w.heap.size := own_ge h.2.1 g hg
/-- Whatever leaves the row alone. -/
theorem OwR.later {D : Nat → Prop} (h : OwR e k w0 w v n cs) (hf : Fr D w w') (hn : ∀ g, v.ownBlock = some g → ¬ D g) (hd : ∀ g, D g → w0.heap.size ≤ g) : OwR e k w0 w' v n cs :=
  ⟨h.1, own_fr h.2.1 hf hn, h.2.2.trans hf fun g e => .inr (hd g e)⟩
theorem owR_nil (h : Fr No w0 w) : OwR e k w0 w (.slice none 0 0) 0 [] := ⟨⟨_, _, rfl⟩, ⟨by simp, .inl ⟨rfl, rfl⟩⟩, h⟩
/-- It reads so. -/
theorem OwR.reads (h : OwR e k w0 w v n cs) : ∃ a cap, v = .slice a n cap ∧ n ≤ cap ∧ (n = 0 ∨ ∃ g, a = some ⟨g, 0, none⟩ ∧ w0.heap.size ≤ g ∧ g < w.heap.size ∧ w.rangeAt g 0 cs) := by
  obtain ⟨⟨a, c, rfl⟩, h1, -⟩ := h
  have hc : n ≤ c := by
    rcases h1.2 with ⟨h2, h0⟩ | ⟨g', cap', cur, h2, _, _, h3, _⟩
    · have h0 : n = 0 := h0
      omega
    · simp only [Value.slice.injEq] at h2
      omega
  refine ⟨a, c, rfl, hc, ?_⟩
  rcases Nat.eq_zero_or_pos n with h0 | h0
  · exact .inl h0
  · right
    obtain ⟨a', c', e1, -, h2⟩ := own_form h1
    simp only [Value.slice.injEq, true_and] at e1
    obtain ⟨rfl, rfl⟩ := e1
    obtain ⟨g, rfl⟩ := h2 h0
    have hg := own_ge h1 g rfl
    refine ⟨g, rfl, hg.1, hg.2, ?_⟩
    intro j u hj
    have := h1.cells (g := g) rfl j u hj
    rwa [Addr.add_mid] at this
end
section
variable {ops : Array Oper} {rest : List Oper} {op o1 o2 : Oper} {a : Act} {w : World} {Q : Exit → Act → World → Prop} {K : Act → World → Prop}
theorem wp_appR (s x : Operand) (t e : TypeId) (ho : op.op = .call { callee := .builtin .append, args := #[s, x], argTypes := #[t, t] }) (hu : Tryz.prog.underlying t = some (.slice e)) {z : Value} {k bytes : Nat} (hi : Info e z k bytes) (hz : z.cells.size = k) (hk : 0 < k)
    {w0 : World} {v : Value} {n : Nat} {cs : List Value} (hown : OwR e k w0 w v n cs) (hv : a.eval s = v) (b : Nat) (m c : Nat) (news : List Value) (hx : a.eval x = .slice (some ⟨b, 0, none⟩) m c) (hl : news.length = m * k) (hB : Blk w b e news) (h1 : ∀ u ∈ news, u.oneCell' = true)
    (hb : (n + m) * bytes ≤ 140737488355328) (h63 : n + m ≤ 140737488355328)
    (h : ∀ a' cap' w', Hid (OwR e k w0 w' (.slice a' (n + m) cap') (n + m) (cs ++ news)) → Hid (Fr (fun j => v.ownBlock = some j) w w') → K (a.put op.dst (.slice a' (n + m) cap')) w') : op.wp Tryz.prog a w K Q := by
  obtain ⟨i, hi0, hz0, hs, hbb⟩ := Go.info_parts hi
  refine BE.wp_append s x t ho w0.heap.size e i z k bytes hu hi0 hz0 hs hbb hz hk v n cs hv hown.2.1 (some ⟨b, 0, none⟩) m c news hx hl (.inr ⟨_, rfl, hB.news⟩) h1 (by unfold maxLen; omega) hb hown.2.2.size ?_
  intro a' cap' w' p q r
  exact h a' cap' w' (hid ⟨⟨_, _, rfl⟩, p.out, hown.2.2.trans (frown q.out) fun g e => .inr (hown.ge g e).1⟩) (hid (frown q.out))
/-- 'append(s, x)', in a plain region: the literal and the append together. -/
theorem wpL_app1 (hg1 : o1.guard = none) (hg2 : o2.guard = none) (x s y : Operand) (t e : TypeId) (ho1 : o1.op = .buildSlice t 1 #[(0, x)]) (ho2 : o2.op = .call { callee := .builtin .append, args := #[s, y], argTypes := #[t, t] }) (hu : Tryz.prog.underlying t = some (.slice e))
    {z : Value} {k bytes : Nat} (hi : Info e z k bytes) (hz : z.cells.size = k) (hk : 0 < k) (hk2 : k ≤ 16777216) {w0 : World} {v : Value} {n : Nat} {cs : List Value} (hown : OwR e k w0 w v n cs) (u : Value) (us : List Value) (hx : a.eval x = u) (hus : u.cells = us.toArray) (hl : us.length = k) (h1 : ∀ q ∈ us, q.oneCell' = true)
    (hs : ∀ q, (a.put o1.dst q).eval s = v) (hy : ∀ q, (a.put o1.dst q).eval y = q) (hb : (n + 1) * bytes ≤ 140737488355328) (h63 : n + 1 ≤ 140737488355328)
    (h : ∀ q a' cap' w', Hid (OwR e k w0 w' (.slice a' (n + 1) cap') (n + 1) (cs ++ us)) → Hid (Fr (fun j => v.ownBlock = some j) w w') → wpList Tryz.prog ops Q rest ((a.put o1.dst q).put o2.dst (.slice a' (n + 1) cap')) w') : wpList Tryz.prog ops Q (o1 :: o2 :: rest) a w := by
  obtain ⟨i, hi0, hz0, hsz, hbb⟩ := Go.info_parts hi
  refine wpL_buildOne hg1 t e x ho1 i z hu hi0 hz0 (by rw [hsz]; exact hk) (by rw [hsz]; exact hk2) u us hx hus (by rw [hsz]; exact hl) ?_
  intro w1 HB HF HS
  refine wpList_plain hg2 fun K hK => ?_
  have hown1 : OwR e k w0 w1 v n cs := hown.no HF.out
  refine wp_appR s y t e ho2 hu hi hz hk hown1 (hs _) w.heap.size 1 1 us (hy _) (by rw [hl, Nat.one_mul]) HB.out h1 hb h63 ?_
  intro a' cap' w' p q
  exact hK _ _ (h _ a' cap' w' p (hid (HF.out.no.trans' q.out)))
/-- The same, and where the row lies behind it. -/
theorem wpL_app1o (hg1 : o1.guard = none) (hg2 : o2.guard = none) (x s y : Operand) (t e : TypeId) (ho1 : o1.op = .buildSlice t 1 #[(0, x)]) (ho2 : o2.op = .call { callee := .builtin .append, args := #[s, y], argTypes := #[t, t] }) (hu : Tryz.prog.underlying t = some (.slice e))
    {z : Value} {k bytes : Nat} (hi : Info e z k bytes) (hz : z.cells.size = k) (hk : 0 < k) (hk2 : k ≤ 16777216) {w0 : World} {v : Value} {n : Nat} {cs : List Value} (hown : OwR e k w0 w v n cs) (u : Value) (us : List Value) (hx : a.eval x = u) (hus : u.cells = us.toArray) (hl : us.length = k) (h1 : ∀ q ∈ us, q.oneCell' = true)
    (hs : ∀ q, (a.put o1.dst q).eval s = v) (hy : ∀ q, (a.put o1.dst q).eval y = q) (hb : (n + 1) * bytes ≤ 140737488355328) (h63 : n + 1 ≤ 140737488355328)
    (h : ∀ q a' cap' w', Hid (OwR e k w0 w' (.slice a' (n + 1) cap') (n + 1) (cs ++ us)) → Hid (Fr (fun j => v.ownBlock = some j) w w') → Hid ((Value.slice a' (n + 1) cap').ownBlock = v.ownBlock ∨ ∃ g, (Value.slice a' (n + 1) cap').ownBlock = some g ∧ w.heap.size ≤ g) → wpList Tryz.prog ops Q rest ((a.put o1.dst q).put o2.dst (.slice a' (n + 1) cap')) w') : wpList Tryz.prog ops Q (o1 :: o2 :: rest) a w := by
  obtain ⟨i, hi0, hz0, hsz, hbb⟩ := Go.info_parts hi
  refine wpL_buildOne hg1 t e x ho1 i z hu hi0 hz0 (by rw [hsz]; exact hk) (by rw [hsz]; exact hk2) u us hx hus (by rw [hsz]; exact hl) ?_
  intro w1 HB HF HS
  refine wpList_plain hg2 fun K hK => ?_
  have hown1 : OwR e k w0 w1 v n cs := hown.no HF.out
  refine BE.wp_append s y t ho2 w0.heap.size e i z k bytes hu hi0 hz0 hsz hbb hz hk v n cs (hs _) hown1.2.1 (some ⟨w.heap.size, 0, none⟩) 1 1 us (hy _) (by rw [hl, Nat.one_mul]) (.inr ⟨_, rfl, HB.out.news⟩) h1 (by unfold maxLen; omega) hb hown1.2.2.size ?_
  intro a' cap' w' p q r
  refine hK _ _ (h _ a' cap' w' (hid ⟨⟨_, _, rfl⟩, p.out, hown1.2.2.trans (frown q.out) fun g e => .inr (hown1.ge g e).1⟩) (hid (HF.out.no.trans' (frown q.out))) (hid ?_))
  exact r.out.imp id fun e => ⟨_, e, by have := HF.out.size; exact this⟩
end
theorem infoU : Info 5 (.int .u8 0) 1 1 := by unfold Info; kernel_rfl
theorem infoStr : Info 9 (.string ⟨#[]⟩) 1 16 := by unfold Info; kernel_rfl
theorem infoAva : Info 35 (.agg #[.string ⟨#[]⟩, .string ⟨#[]⟩]) 2 32 := by unfold Info; kernel_rfl
theorem infoRdn : Info 31 (.slice none 0 0) 1 24 := by unfold Info; kernel_rfl
end Go.Proofs.YthjmkfpdbbfcpaaGreatDoor.DN
