/-
  Part 5 of the proof: DrA, DnO, DrB, ScI.
-/
import Derived.Test.YtdkkpfeiaaffhaaGreatDoorGa04
import Derived.Test.YtdkkpfeiaaffhaaGreatDoorGa01
import Derived.Test.YtdkkpfeiaaffhaaGreatDoorGa03
set_option linter.unusedSimpArgs false
set_option linter.unusedVariables false
namespace Go.Proofs.YtdkkpfeiaaffhaaGreatDoor.DN
set_option maxRecDepth 100000
open Go.RowKit K Go.Proofs.YtdkkpfeiaaffhaaGreatDoor.BE

theorem let_n (c : UInt8) : isLet c = decide ((97 ≤ c.toNat ∧ c.toNat ≤ 122) ∨ (65 ≤ c.toNat ∧ c.toNat ≤ 90)) := by
  have := u8_all (fun c => isLet c == decide ((97 ≤ c.toNat ∧ c.toNat ≤ 122) ∨ (65 ≤ c.toNat ∧ c.toNat ≤ 90))) (by decide +kernel) c
  simpa using this
theorem dig_n (c : UInt8) : isDig c = decide (48 ≤ c.toNat ∧ c.toNat ≤ 57) := by
  have := u8_all (fun c => isDig c == decide (48 ≤ c.toNat ∧ c.toNat ≤ 57)) (by decide +kernel) c
  simpa using this
theorem sign_n (c : UInt8) : sign c = decide (c.toNat = 34 ∨ c.toNat = 43 ∨ c.toNat = 44 ∨ c.toNat = 59 ∨ c.toNat = 60 ∨ c.toNat = 62 ∨ c.toNat = 92) := by
  have := u8_all (fun c => sign c == decide (c.toNat = 34 ∨ c.toNat = 43 ∨ c.toNat = 44 ∨ c.toNat = 59 ∨ c.toNat = 60 ∨ c.toNat = 62 ∨ c.toNat = 92)) (by decide +kernel) c
  simpa using this
/-- The document's number of a digit: 16: it is none. -/
def hexN (c : UInt8) : Nat := match hexv c with
  | some x => x.toNat
  | none => 16
theorem hex_n (c : UInt8) : hexN c = if 48 ≤ c.toNat ∧ c.toNat ≤ 57 then c.toNat - 48 else if 97 ≤ c.toNat ∧ c.toNat ≤ 102 then c.toNat - 87 else if 65 ≤ c.toNat ∧ c.toNat ≤ 70 then c.toNat - 55 else 16 := by
  have := u8_all (fun c => hexN c == if 48 ≤ c.toNat ∧ c.toNat ≤ 57 then c.toNat - 48 else if 97 ≤ c.toNat ∧ c.toNat ≤ 102 then c.toNat - 87 else if 65 ≤ c.toNat ∧ c.toNat ≤ 70 then c.toNat - 55 else 16) (by decide +kernel) c
  simpa using this
theorem letter_any (c : UInt8) (w : World) : Calls Tryz.prog 193 #[.int .u8 (c.toNat : Int)] w fun e w' => e = .returned (.bool (isLet c)) ∧ w' = w := by
  rw [let_n]
  generalize c.toNat = n
  have hc : n < 65 ∨ (65 ≤ n ∧ n ≤ 90) ∨ (90 < n ∧ n < 97) ∨ (97 ≤ n ∧ n ≤ 122) ∨ 122 < n := by omega
  rcases hc with h | h | h | h | h
  · have h1 : ¬ (97 : Int) ≤ n := by omega
    have h2 : ¬ (65 : Int) ≤ n := by omega
    rw [decide_eq_false (by omega)]
    clear h
    go_enter Tryz.func193, Tryz.ntmps193
    go_wp2
    go_ret
    exact ⟨rfl, rfl⟩
  · have h1 : ¬ (97 : Int) ≤ n := by omega
    have h2 : (65 : Int) ≤ n := by omega
    have h3 : (n : Int) ≤ 90 := by omega
    rw [decide_eq_true (by omega)]
    clear h
    go_enter Tryz.func193, Tryz.ntmps193
    go_wp2
    go_ret
    exact ⟨rfl, rfl⟩
  · have h1 : ¬ (97 : Int) ≤ n := by omega
    have h2 : (65 : Int) ≤ n := by omega
    have h3 : ¬ (n : Int) ≤ 90 := by omega
    rw [decide_eq_false (by omega)]
    clear h
    go_enter Tryz.func193, Tryz.ntmps193
    go_wp2
    go_ret
    exact ⟨rfl, rfl⟩
  · have h1 : (97 : Int) ≤ n := by omega
    have h2 : (n : Int) ≤ 122 := by omega
    rw [decide_eq_true (by omega)]
    clear h
    go_enter Tryz.func193, Tryz.ntmps193
    go_wp2
    go_ret
    exact ⟨rfl, rfl⟩
  · have h1 : (97 : Int) ≤ n := by omega
    have h2 : ¬ (n : Int) ≤ 122 := by omega
    have h3 : (65 : Int) ≤ n := by omega
    have h4 : ¬ (n : Int) ≤ 90 := by omega
    rw [decide_eq_false (by omega)]
    clear h
    go_enter Tryz.func193, Tryz.ntmps193
    go_wp2
    go_ret
    exact ⟨rfl, rfl⟩
theorem digit_any (c : UInt8) (w : World) : Calls Tryz.prog 194 #[.int .u8 (c.toNat : Int)] w fun e w' => e = .returned (.bool (isDig c)) ∧ w' = w := by
  rw [dig_n]
  generalize c.toNat = n
  by_cases h1 : 48 ≤ n
  · have h1i : (48 : Int) ≤ n := by omega
    by_cases h2 : n ≤ 57
    · have h2i : (n : Int) ≤ 57 := by omega
      rw [decide_eq_true (by omega)]
      clear h1 h2
      go_enter Tryz.func194, Tryz.ntmps194
      go_wp2
      go_ret
      exact ⟨rfl, rfl⟩
    · have h2i : ¬ (n : Int) ≤ 57 := by omega
      rw [decide_eq_false (by omega)]
      clear h1 h2
      go_enter Tryz.func194, Tryz.ntmps194
      go_wp2
      go_ret
      exact ⟨rfl, rfl⟩
  · have h1i : ¬ (48 : Int) ≤ n := by omega
    rw [decide_eq_false (by omega)]
    clear h1
    go_enter Tryz.func194, Tryz.ntmps194
    go_wp2
    go_ret
    exact ⟨rfl, rfl⟩
theorem signs_any (c : UInt8) (w : World) : Calls Tryz.prog 159 #[.int .u8 (c.toNat : Int)] w fun e w' => e = .returned (.bool (sign c)) ∧ w' = w := by
  rw [sign_n]
  generalize c.toNat = n
  obtain ⟨R, hR⟩ : ∃ R, decide (n = 34 ∨ n = 43 ∨ n = 44 ∨ n = 59 ∨ n = 60 ∨ n = 62 ∨ n = 92) = R := ⟨_, rfl⟩
  rw [hR]
  have HR := hid hR
  clear hR
  go_enter Tryz.func159, Tryz.ntmps159
  go_wp2
  all_goals go_ret
  all_goals refine ⟨?_, rfl⟩
  all_goals have h := HR.out
  all_goals first
    | (rw [decide_eq_true (by omega)] at h; subst h; rfl)
    | (subst h; refine congrArg (fun b => Ending.returned (Value.bool b)) ?_; rw [Bool.eq_iff_iff]; simp; omega)
theorem hex_any (c : UInt8) (w : World) : Calls Tryz.prog 160 #[.int .u8 (c.toNat : Int)] w fun e w' => e = .returned (.int .i64 (hexN c : Int)) ∧ w' = w := by
  obtain ⟨H, hH⟩ : ∃ H, hexN c = H := ⟨_, rfl⟩
  have h0 := hex_n c
  have hc := c.toNat_lt
  rw [hH] at h0 ⊢
  generalize c.toNat = n at h0 hc
  have hn0 : (0 : Int) ≤ n := by omega
  have hn1 : (n : Int) < 256 := by omega
  have HH := hid h0
  clear h0 hH hc
  go_enter Tryz.func160, Tryz.ntmps160
  go_wp2
  all_goals go_ret
  all_goals refine ⟨congrArg (fun x : Int => Ending.returned (Value.int .i64 x)) ?_, rfl⟩
  all_goals have h := HH.out
  all_goals (repeat' split at h) <;> omega
theorem hexv_lt16 {c x : UInt8} (h : hexv c = some x) : x.toNat < 16 := by
  have := u8_all (fun c => match hexv c with | some x => decide (x.toNat < 16) | none => true) (by decide +kernel) c
  rw [h] at this
  simpa using this
theorem hex_join {x y : UInt8} (hx : x.toNat < 16) (hy : y.toNat < 16) : (16 * x + y).toNat = 16 * x.toNat + y.toNat := by
  rw [UInt8.toNat_add, UInt8.toNat_mul]
  have : (16 : UInt8).toNat = 16 := rfl
  rw [this]
  omega
theorem one_bare (den : B) (r : B) {c : UInt8} (h92 : c ≠ 92) (h44 : c ≠ 44) (h43 : c ≠ 43) : one den c r = if c = 0 ∨ sign c = true ∨ (den = [] ∧ (c = 35 ∨ c = 32)) then none else some (c, c == 32, r) := by
  unfold one sign
  rw [if_neg h92]
  by_cases k0 : c = 0 <;> by_cases k1 : c = 34 <;> by_cases k2 : c = 59 <;> by_cases k3 : c = 60 <;> by_cases k4 : c = 62 <;> by_cases k5 : c = 35 <;> by_cases k6 : c = 32 <;> by_cases k7 : den = [] <;> simp_all
theorem esc_ok {d : UInt8} {r : B} (h : (sign d || d == 35 || d == 61 || d == 32) = true) : esc (d :: r) = some (d, r) := by
  unfold esc
  simp only [h, if_true]
theorem esc_no {d : UInt8} {r : B} (h : ¬ (sign d || d == 35 || d == 61 || d == 32) = true) : esc (d :: r) = match r with
    | [] => none
    | d2 :: r' => match hexv d, hexv d2 with
      | some x, some y => some (16 * x + y, r')
      | _, _ => none := by
  unfold esc
  simp only [h, Bool.false_eq_true, if_false]
  cases r <;> rfl
end Go.Proofs.YtdkkpfeiaaffhaaGreatDoor.DN

namespace Go.Proofs.YtdkkpfeiaaffhaaGreatDoor.DN
set_option maxRecDepth 100000
open Go.RowKit K Go.Proofs.YtdkkpfeiaaffhaaGreatDoor.BE

/-- The value is a slice of n elements of e, k cells each: these; it has been made since w0; nothing that was there has turned. -/
def OwR (e : TypeId) (k : Nat) (w0 w : World) (v : Value) (n : Nat) (cs : List Value) : Prop := (∃ a c, v = .slice a n c) ∧ w.ownsRow w0.heap.size e k v n cs ∧ Fr No w0 w
def Info (e : TypeId) (z : Value) (k bytes : Nat) : Prop := (Tryz.prog.info? e).map (fun i => (i.zero, i.size, i.bytes)) = some (some z, k, bytes)
section
variable {e : TypeId} {k : Nat} {w0 w w' : World} {v : Value} {n : Nat} {cs : List Value}
theorem OwR.no (h : OwR e k w0 w v n cs) (hf : Fr No w w') : OwR e k w0 w' v n cs := ⟨h.1, own_fr h.2.1 hf (fun _ _ e => e), h.2.2.trans' hf⟩
theorem OwR.fr (h : OwR e k w0 w v n cs) : Fr No w0 w := h.2.2
theorem OwR.ge (h : OwR e k w0 w v n cs) (g : Nat) (hg : v.ownBlock = some g) : w0.heap.size ≤ g ∧ g < w.heap.size := own_ge h.2.1 g hg
/-- Whatever leaves the row alone. -/
theorem OwR.later {D : Nat → Prop} (h : OwR e k w0 w v n cs) (hf : Fr D w w') (hn : ∀ g, v.ownBlock = some g → ¬ D g) (hd : ∀ g, D g → w0.heap.size ≤ g) : OwR e k w0 w' v n cs :=
  ⟨h.1, own_fr h.2.1 hf hn, h.2.2.trans hf fun g e => .inr (hd g e)⟩
theorem owR_nil (h : Fr No w0 w) : OwR e k w0 w (.slice none 0 0) 0 [] := ⟨⟨_, _, rfl⟩, ⟨by simp, .inl ⟨rfl, rfl⟩⟩, h⟩
/-- It reads so. -/
theorem OwR.reads (h : OwR e k w0 w v n cs) : ∃ a cap, v = .slice a n cap ∧ n ≤ cap ∧ (n = 0 ∨ ∃ g, a = some ⟨g, 0, none⟩ ∧ w0.heap.size ≤ g ∧ g < w.heap.size ∧ w.rangeAt g 0 cs) := by
  obtain ⟨⟨a, c, rfl⟩, h1, -⟩ := h
  have hc : n ≤ c := by
    rcases h1.2 with ⟨h2, h0⟩ | ⟨g', cap', cur, h2, _, _, h3, _⟩
    · have h0 : n = 0 := h0
      omega
    · simp only [Value.slice.injEq] at h2
      omega
  refine ⟨a, c, rfl, hc, ?_⟩
  rcases Nat.eq_zero_or_pos n with h0 | h0
  · exact .inl h0
  · right
    obtain ⟨a', c', e1, -, h2⟩ := own_form h1
    simp only [Value.slice.injEq, true_and] at e1
    obtain ⟨rfl, rfl⟩ := e1
    obtain ⟨g, rfl⟩ := h2 h0
    have hg := own_ge h1 g rfl
    refine ⟨g, rfl, hg.1, hg.2, ?_⟩
    intro j u hj
    have := h1.cells (g := g) rfl j u hj
    rwa [Addr.add_mid] at this
end
section
variable {ops : Array Oper} {rest : List Oper} {op o1 o2 : Oper} {a : Act} {w : World} {Q : Exit → Act → World → Prop} {K : Act → World → Prop}
theorem wp_appR (s x : Operand) (t e : TypeId) (ho : op.op = .call { callee := .builtin .append, args := #[s, x], argTypes := #[t, t] }) (hu : Tryz.prog.underlying t = some (.slice e)) {z : Value} {k bytes : Nat} (hi : Info e z k bytes) (hz : z.cells.size = k) (hk : 0 < k)
    {w0 : World} {v : Value} {n : Nat} {cs : List Value} (hown : OwR e k w0 w v n cs) (hv : a.eval s = v) (b : Nat) (m c : Nat) (news : List Value) (hx : a.eval x = .slice (some ⟨b, 0, none⟩) m c) (hl : news.length = m * k) (hB : Blk w b e news) (h1 : ∀ u ∈ news, u.oneCell' = true)
    (hb : (n + m) * bytes ≤ 140737488355328) (h63 : n + m ≤ 140737488355328)
    (h : ∀ a' cap' w', Hid (OwR e k w0 w' (.slice a' (n + m) cap') (n + m) (cs ++ news)) → Hid (Fr (fun j => v.ownBlock = some j) w w') → K (a.put op.dst (.slice a' (n + m) cap')) w') : op.wp Tryz.prog a w K Q := by
  obtain ⟨i, hi0, hz0, hs, hbb⟩ := Go.info_parts hi
  refine BE.wp_append s x t ho w0.heap.size e i z k bytes hu hi0 hz0 hs hbb hz hk v n cs hv hown.2.1 (some ⟨b, 0, none⟩) m c news hx hl (.inr ⟨_, rfl, hB.news⟩) h1 (by unfold maxLen; omega) hb hown.2.2.size ?_
  intro a' cap' w' p q r
  exact h a' cap' w' (hid ⟨⟨_, _, rfl⟩, p.out, hown.2.2.trans (frown q.out) fun g e => .inr (hown.ge g e).1⟩) (hid (frown q.out))
/-- 'append(s, x)', in a plain region: the literal and the append together. -/
theorem wpL_app1 (hg1 : o1.guard = none) (hg2 : o2.guard = none) (x s y : Operand) (t e : TypeId) (ho1 : o1.op = .buildSlice t 1 #[(0, x)]) (ho2 : o2.op = .call { callee := .builtin .append, args := #[s, y], argTypes := #[t, t] }) (hu : Tryz.prog.underlying t = some (.slice e))
    {z : Value} {k bytes : Nat} (hi : Info e z k bytes) (hz : z.cells.size = k) (hk : 0 < k) (hk2 : k ≤ 16777216) {w0 : World} {v : Value} {n : Nat} {cs : List Value} (hown : OwR e k w0 w v n cs) (u : Value) (us : List Value) (hx : a.eval x = u) (hus : u.cells = us.toArray) (hl : us.length = k) (h1 : ∀ q ∈ us, q.oneCell' = true)
    (hs : ∀ q, (a.put o1.dst q).eval s = v) (hy : ∀ q, (a.put o1.dst q).eval y = q) (hb : (n + 1) * bytes ≤ 140737488355328) (h63 : n + 1 ≤ 140737488355328)
    (h : ∀ q a' cap' w', Hid (OwR e k w0 w' (.slice a' (n + 1) cap') (n + 1) (cs ++ us)) → Hid (Fr (fun j => v.ownBlock = some j) w w') → wpList Tryz.prog ops Q rest ((a.put o1.dst q).put o2.dst (.slice a' (n + 1) cap')) w') : wpList Tryz.prog ops Q (o1 :: o2 :: rest) a w := by
  obtain ⟨i, hi0, hz0, hsz, hbb⟩ := Go.info_parts hi
  refine wpL_buildOne hg1 t e x ho1 i z hu hi0 hz0 (by rw [hsz]; exact hk) (by rw [hsz]; exact hk2) u us hx hus (by rw [hsz]; exact hl) ?_
  intro w1 HB HF HS
  refine wpList_plain hg2 fun K hK => ?_
  have hown1 : OwR e k w0 w1 v n cs := hown.no HF.out
  refine wp_appR s y t e ho2 hu hi hz hk hown1 (hs _) w.heap.size 1 1 us (hy _) (by rw [hl, Nat.one_mul]) HB.out h1 hb h63 ?_
  intro a' cap' w' p q
  exact hK _ _ (h _ a' cap' w' p (hid (HF.out.no.trans' q.out)))
/-- The same, and where the row lies behind it. -/
theorem wpL_app1o (hg1 : o1.guard = none) (hg2 : o2.guard = none) (x s y : Operand) (t e : TypeId) (ho1 : o1.op = .buildSlice t 1 #[(0, x)]) (ho2 : o2.op = .call { callee := .builtin .append, args := #[s, y], argTypes := #[t, t] }) (hu : Tryz.prog.underlying t = some (.slice e))
    {z : Value} {k bytes : Nat} (hi : Info e z k bytes) (hz : z.cells.size = k) (hk : 0 < k) (hk2 : k ≤ 16777216) {w0 : World} {v : Value} {n : Nat} {cs : List Value} (hown : OwR e k w0 w v n cs) (u : Value) (us : List Value) (hx : a.eval x = u) (hus : u.cells = us.toArray) (hl : us.length = k) (h1 : ∀ q ∈ us, q.oneCell' = true)
    (hs : ∀ q, (a.put o1.dst q).eval s = v) (hy : ∀ q, (a.put o1.dst q).eval y = q) (hb : (n + 1) * bytes ≤ 140737488355328) (h63 : n + 1 ≤ 140737488355328)
    (h : ∀ q a' cap' w', Hid (OwR e k w0 w' (.slice a' (n + 1) cap') (n + 1) (cs ++ us)) → Hid (Fr (fun j => v.ownBlock = some j) w w') → Hid ((Value.slice a' (n + 1) cap').ownBlock = v.ownBlock ∨ ∃ g, (Value.slice a' (n + 1) cap').ownBlock = some g ∧ w.heap.size ≤ g) → wpList Tryz.prog ops Q rest ((a.put o1.dst q).put o2.dst (.slice a' (n + 1) cap')) w') : wpList Tryz.prog ops Q (o1 :: o2 :: rest) a w := by
  obtain ⟨i, hi0, hz0, hsz, hbb⟩ := Go.info_parts hi
  refine wpL_buildOne hg1 t e x ho1 i z hu hi0 hz0 (by rw [hsz]; exact hk) (by rw [hsz]; exact hk2) u us hx hus (by rw [hsz]; exact hl) ?_
  intro w1 HB HF HS
  refine wpList_plain hg2 fun K hK => ?_
  have hown1 : OwR e k w0 w1 v n cs := hown.no HF.out
  refine BE.wp_append s y t ho2 w0.heap.size e i z k bytes hu hi0 hz0 hsz hbb hz hk v n cs (hs _) hown1.2.1 (some ⟨w.heap.size, 0, none⟩) 1 1 us (hy _) (by rw [hl, Nat.one_mul]) (.inr ⟨_, rfl, HB.out.news⟩) h1 (by unfold maxLen; omega) hb hown1.2.2.size ?_
  intro a' cap' w' p q r
  refine hK _ _ (h _ a' cap' w' (hid ⟨⟨_, _, rfl⟩, p.out, hown1.2.2.trans (frown q.out) fun g e => .inr (hown1.ge g e).1⟩) (hid (HF.out.no.trans' (frown q.out))) (hid ?_))
  exact r.out.imp id fun e => ⟨_, e, by have := HF.out.size; exact this⟩
end
theorem infoU : Info 5 (.int .u8 0) 1 1 := by unfold Info; kernel_rfl
theorem infoStr : Info 9 (.string ⟨#[]⟩) 1 16 := by unfold Info; kernel_rfl
theorem infoAva : Info 179 (.agg #[.string ⟨#[]⟩, .string ⟨#[]⟩]) 2 32 := by unfold Info; kernel_rfl
theorem infoRdn : Info 171 (.slice none 0 0) 1 24 := by unfold Info; kernel_rfl
end Go.Proofs.YtdkkpfeiaaffhaaGreatDoor.DN

namespace Go.Proofs.YtdkkpfeiaaffhaaGreatDoor.DN
set_option maxRecDepth 100000
open Go.RowKit K Go.Proofs.YtdkkpfeiaaffhaaGreatDoor.BE

theorem exec_idxB {op : Oper} {a : Act} (x y : Operand) (ho : op.op = .index 9 x y) (l : B) {S : ByteArray} (hS : sb l = S) (i : Nat) (b : UInt8) (hi : l[i]? = some b) (n : Int) (hn : n = (i : Int)) (hx : a.eval x = .string S) (hy : a.eval y = .int .i64 n) (w : World) : (execOp a.eval op).run Tryz.prog w = .ok (.value (.int .u8 (b.toNat : Int))) w := by
  subst hS
  exact exec_idx x y ho l i b hi n hn hx hy w
theorem ok_n (c : UInt8) (f : Bool) : okAt f c = (isLet c || (!f && (isDig c || decide (c.toNat = 45)))) := by
  have h : (c == 45) = decide (c.toNat = 45) := by
    have := u8_all (fun c => (c == 45) == decide (c.toNat = 45)) (by decide +kernel) c
    simpa using this
  unfold okAt
  rw [h]
theorem typ_at {s : B} : typ s = true ↔ 1 ≤ s.length ∧ s.length ≤ 20 ∧ ∀ j c, s[j]? = some c → okAt (j == 0) c = true := by
  unfold typ
  cases s with
  | nil => simp
  | cons d r =>
    simp only [Bool.and_eq_true, decide_eq_true_eq, List.all_eq_true]
    constructor
    · rintro ⟨⟨h1, h2⟩, h3, h4⟩
      refine ⟨h1, h2, fun j c hj => ?_⟩
      cases j with
      | zero =>
        obtain rfl : d = c := by simpa using hj
        exact h3
      | succ j =>
        have hj : r[j]? = some c := by simpa using hj
        exact h4 c (List.mem_of_getElem? hj)
    · rintro ⟨h1, h2, h3⟩
      refine ⟨⟨h1, h2⟩, h3 0 d rfl, fun c hc => ?_⟩
      obtain ⟨j, hj, rfl⟩ := List.mem_iff_getElem.1 hc
      exact h3 (j + 1) r[j] (by simp [hj])
set_option maxHeartbeats 8000000 in
theorem rType_any (s : B) (hs : Sz s) (w : World) : Calls Tryz.prog 161 #[.string (sb s)] w fun e w' => e = .returned (.bool (typ s)) ∧ w' = w := by
  obtain ⟨S, hS⟩ : ∃ S, sb s = S := ⟨_, rfl⟩
  obtain ⟨n, hn⟩ : ∃ n, s.length = n := ⟨_, rfl⟩
  obtain ⟨R, hR⟩ : ∃ R, typ s = R := ⟨_, rfl⟩
  have hsz : (S.size : Int) = n := by rw [← hS, sb_size, hn]
  have hni : (n : Int) ≤ 140737488351232 := by have := hs; unfold Sz at this; omega
  have HS := hid hS; have HN := hid hn; have HR := hid hR
  rw [hS, hR]
  clear hS hn hR hs
  go_enter Tryz.func161, Tryz.ntmps161
  go_wp2_with fail
  go_loopw [3] (fun iv wr => ∃ (i : Nat), iv = .int .i64 i ∧ i ≤ n ∧ wr = w ∧ Hid (∀ j c, j < i → s[j]? = some c → okAt (j == 0) c = true)) (fun iv _ => n - (intOf iv).toNat)
  case atStart => exact ⟨0, rfl, Nat.zero_le _, rfl, hid fun j c hj _ => by omega⟩
  case round =>
    obtain ⟨i, rfl, hi, rfl, HA⟩ := hrel
    by_cases hlt : i < n
    · obtain ⟨c, hc⟩ : ∃ c, s[i]? = some c := ⟨_, List.getElem?_eq_getElem (by rw [HN.out]; exact hlt)⟩
      have hlti : (i : Int) < n := by omega
      have hi0 : (0 : Int) ≤ i := by omega
      have HC := hid hc
      have HLT := hid hlt
      have HOK := hid (ok_n c (i == 0))
      have HBAD : Hid (okAt (i == 0) c = false → R = false) := hid (fun h => by
        rw [← HR.out]
        cases ht : typ s with
        | false => rfl
        | true => rw [(typ_at.1 ht).2.2 i c HC.out] at h; cases h)
      have HGOOD : Hid (okAt (i == 0) c = true → ∀ j c, j < i + 1 → s[j]? = some c → okAt (j == 0) c = true) := hid (fun h j d hj hd => by
        by_cases hji : j = i
        · subst hji
          rw [HC.out] at hd
          obtain rfl := Option.some.inj hd
          exact h
        · exact HA.out j d (by omega) hd)
      obtain ⟨L, hL⟩ : ∃ L, isLet c = L := ⟨_, rfl⟩
      obtain ⟨D, hD⟩ : ∃ D, isDig c = D := ⟨_, rfl⟩
      have HLA := hid (letter_any c); have HDA := hid (digit_any c)
      rw [hL] at HLA HOK
      rw [hD] at HDA HOK
      obtain ⟨cn, hcn⟩ : ∃ cn, c.toNat = cn := ⟨_, rfl⟩
      have HCN := hid hcn
      rw [hcn] at HOK
      clear hlt hc hL hD hcn
      go_wp2_with (first
        | ((with_reducible refine K.atO (.index 9 _ _) ?_); refine wpL_valZ (by rfl) (.int .u8 (c.toNat : Int)) (exec_idxB _ _ rfl s HS.out i c HC.out _ rfl rfl rfl _) ?_)
        | fail)
      refine (HLA.out _).mono ?_
      rintro e w1 ⟨rfl, rfl⟩
      go_wp2_with (first
        | ((with_reducible refine K.atO (.index 9 _ _) ?_); refine wpL_valZ (by rfl) (.int .u8 (c.toNat : Int)) (exec_idxB _ _ rfl s HS.out i c HC.out _ rfl rfl rfl _) ?_)
        | fail)
      refine (HDA.out _).mono ?_
      rintro e w1 ⟨rfl, rfl⟩
      have hidx : ∀ w, (Instr.index 9 (.string S) (.int .i64 (i : Int))).run Tryz.prog w = .ok (.int .u8 (cn : Int)) w := fun w => by rw [← HS.out, ← HCN.out]; exact index_str s i c HC.out w
      have hcase : (i = 0 ∨ i ≠ 0) ∧ (cn = 45 ∨ cn ≠ 45) := ⟨by omega, by omega⟩
      cases L with
      | true =>
        go_wp2_with fail
        refine ⟨⟨i + 1, by go_num, HLT.out, trivial, hid (HGOOD.out (by rw [HOK.out]; rfl))⟩, ?_⟩
        have := HLT.out
        simp [intOf]; omega
      | false =>
        by_cases hi00 : i = 0
        · subst hi00
          obtain rfl := HBAD.out (by rw [HOK.out]; rfl)
          go_wp2_with fail
          go_ret
          exact ⟨rfl, rfl⟩
        · have hi1 : ¬ (i : Int) = 0 := by omega
          have hb : (i == 0) = false := by simp [hi00]
          cases D with
          | true =>
            go_wp2_with fail
            refine ⟨⟨i + 1, by go_num, HLT.out, trivial, hid (HGOOD.out (by rw [HOK.out, hb]; rfl))⟩, ?_⟩
            have := HLT.out
            simp [intOf]; omega
          | false =>
            by_cases h45 : cn = 45
            · subst h45
              go_wp2_with fail
              refine ⟨⟨i + 1, by go_num, HLT.out, trivial, hid (HGOOD.out (by rw [HOK.out, hb]; rfl))⟩, ?_⟩
              have := HLT.out
              simp [intOf]; omega
            · have h45i : ((cn : Int) != 45) = true := by simp; omega
              obtain rfl := HBAD.out (by rw [HOK.out, hb, decide_eq_false h45]; rfl)
              go_wp2_with fail
              go_ret
              exact ⟨rfl, rfl⟩
    · obtain rfl : i = n := by omega
      have hR : R = (decide (1 ≤ i) && decide (i ≤ 20)) := by
        rw [← HR.out, Bool.eq_iff_iff, typ_at, HN.out]
        simp only [Bool.and_eq_true, decide_eq_true_eq]
        constructor
        · rintro ⟨h1, h2, -⟩; exact ⟨h1, h2⟩
        · rintro ⟨h1, h2⟩
          exact ⟨h1, h2, fun j c hj => HA.out j c (by have := (List.getElem?_eq_some_iff.1 hj).1; rw [HN.out] at this; exact this) hj⟩
      by_cases h1 : 1 ≤ i
      · have h1i : (1 : Int) ≤ i := by omega
        by_cases h2 : i ≤ 20
        · have h2i : (i : Int) ≤ 20 := by omega
          rw [decide_eq_true h1, decide_eq_true h2] at hR
          subst hR
          clear hlt
          go_wp2_with fail
          go_ret
          exact ⟨rfl, rfl⟩
        · have h2i : ¬ (i : Int) ≤ 20 := by omega
          rw [decide_eq_true h1, decide_eq_false h2] at hR
          subst hR
          clear hlt
          go_wp2_with fail
          go_ret
          exact ⟨rfl, rfl⟩
      · have h1i : ¬ (1 : Int) ≤ i := by omega
        rw [decide_eq_false h1] at hR
        subst hR
        clear hlt
        go_wp2_with fail
        go_ret
        exact ⟨rfl, rfl⟩
end Go.Proofs.YtdkkpfeiaaffhaaGreatDoor.DN

namespace Go.Proofs.YtdkkpfeiaaffhaaGreatDoor.SC
set_option maxRecDepth 100000
open Go.RowKit K Go.Proofs.YtdkkpfeiaaffhaaGreatDoor.BE Go.Proofs.YtdkkpfeiaaffhaaGreatDoor.DN

/-- The first place, or -1. -/
def idxI {α : Type} (X : List α) (q : α → Bool) : Int := match X.findIdx? q with | some i => (i : Int) | none => -1
theorem idx_at {α : Type} {X : List α} {q : α → Bool} {i : Nat} {x : α} (h0 : (X.take i).any q = false) (hx : X[i]? = some x) (hq : q x = true) : idxI X q = i := by
  have : X.findIdx? q = some i := by
    obtain ⟨hl, e⟩ := List.getElem?_eq_some_iff.1 hx
    rw [List.findIdx?_eq_some_iff_getElem]
    refine ⟨hl, by rw [e]; exact hq, fun j hj => ?_⟩
    have h1 := List.any_eq_false.1 h0 X[j] (List.mem_take_iff_getElem.2 ⟨j, by omega, rfl⟩)
    exact h1
  unfold idxI
  rw [this]
theorem idx_none {α : Type} {X : List α} {q : α → Bool} (h0 : X.any q = false) : idxI X q = -1 := by
  have : X.findIdx? q = none := List.findIdx?_eq_none_iff.2 fun x hx => by
    have := List.any_eq_false.1 h0 x hx
    simpa using this
  unfold idxI
  rw [this]
theorem idx_any {α : Type} (X : List α) (q : α → Bool) : decide (0 ≤ idxI X q) = X.any q := by
  unfold idxI
  cases h : X.findIdx? q with
  | none =>
    rw [List.findIdx?_eq_none_iff] at h
    rw [List.any_eq_false.2 fun x hx => by rw [h x hx]; decide]
    rfl
  | some i =>
    rw [List.findIdx?_eq_some_iff_getElem] at h
    obtain ⟨hl, e, -⟩ := h
    rw [List.any_eq_true.2 ⟨_, List.getElem_mem hl, e⟩]
    simp
set_option maxHeartbeats 8000000 in
theorem indexTy {α : Type} (f : FuncId) (cap : List Value) (q : α → Bool) (p : World → α → List Value → Prop) (D : Nat → Prop) (I : World → Prop) (E : Nat → Prop) (v0 : Value) (X : List α) (w : World) (hp : ∀ w w' x c, p w x c → Fr D w w' → p w' x c) (hD : ∀ i, E i → i < w.heap.size → ¬ D i) (hI : I w)
    (h0 : Sl 6 (p w) E w v0 X) (hent : ∀ (vs : Array Value) (w : World), (callFunc f vs).run Tryz.prog w = .ok (.enter f vs) w)
    (hf : ∀ x ∈ X, ∀ c wv, p wv x c → I wv → Fr D w wv → Calls Tryz.prog f (Value.agg c.toArray :: cap).toArray wv fun e w' => e = .returned (.bool (q x)) ∧ I w' ∧ Fr D wv w') :
    Calls Tryz.prog 147 #[v0, .func (.func f) #[] cap.toArray] w fun e w' => e = .returned (.int .i64 (idxI X q)) ∧ I w' ∧ Fr D w w' := by
  obtain ⟨a, c, rfl, -, hl0⟩ := h0.form
  have HX0 := hid h0
  obtain ⟨n, hn⟩ : ∃ n, X.length = n := ⟨_, rfl⟩
  rw [hn] at HX0 hl0 ⊢
  have HNN := hid hn; have HP := hid hp; have HE := hid hent; have HF := hid hf; have HD := hid hD; have HI0 := hid hI
  obtain ⟨R, hR⟩ : ∃ R, idxI X q = R := ⟨_, rfl⟩
  rw [hR]
  have HR := hid hR
  have hni : (n : Int) ≤ 140737488351232 := by omega
  clear hp h0 hent hf hn hR hD hI
  go_enter Tryz.func147, Tryz.ntmps147
  go_wp2_with fail
  go_loopw [8] (fun iv wr => ∃ (i : Nat), iv = .int .i64 i ∧ i ≤ n ∧ Hid ((X.take i).any q = false ∧ I wr ∧ Fr D w wr)) (fun iv _ => n - (intOf iv).toNat)
  case atStart => exact ⟨0, rfl, Nat.zero_le _, hid ⟨rfl, HI0.out, Fr.refl _ _⟩⟩
  case round =>
    obtain ⟨i, rfl, hi, HI⟩ := hrel
    by_cases hlt : i < n
    · have hiX : i < X.length := by rw [HNN.out]; exact hlt
      obtain ⟨x, hx⟩ : ∃ x, X[i]? = some x := ⟨_, List.getElem?_eq_getElem hiX⟩
      have HXM := hid (List.mem_of_getElem? hx)
      have HXX := hid hx
      have HNX : Hid ((X.take (i + 1)).any q = (q x || false)) := hid (by
        have hxx : X[i] = x := by rw [List.getElem?_eq_getElem hiX] at hx; exact Option.some.inj hx
        rw [List.take_succ_eq_append_getElem hiX, List.any_append, HI.out.1, hxx]; simp)
      have hlti : (i : Int) < n := by omega
      have hi0 : (0 : Int) ≤ i := by omega
      obtain ⟨g, o, cp, c, e1, hEg, hgw, hr, hc, hxa⟩ := (HX0.out.fr HI.out.2.2 HD.out (fun x c _ h => HP.out _ _ x c h HI.out.2.2)).get hx
      rw [HNN.out] at e1
      simp only [Value.slice.injEq, true_and] at e1
      obtain ⟨rfl, rfl⟩ := e1
      have HXA := hid hxa; have HC := hid hc; have HRR := hid hr
      have HI3 : Hid ((Tryz.prog.info? 62).map (·.size) = some c.length) := hid (by rw [hc]; exact infoTy)
      clear hc hEg hgw hr hxa hx
      go_wp2_with (first
        | ((with_reducible refine K.atO (.load 62 _) ?_); refine wpL_load rfl _ _ rfl g (o + i * 6) rfl c _ HRR.out rfl rfl HI3.out ?_)
        | ((with_reducible refine K.atO (.call { callee := .value _, args := _, argTypes := _ }) ?_); refine wpL_callP rfl _ [_] _ rfl f cap rfl HE.out (Value.agg c.toArray :: cap) rfl ?_)
        | fail)
      refine (HF.out x HXM.out c wr HXA.out HI.out.2.1 HI.out.2.2).mono ?_
      rintro e w4 ⟨rfl, i4, f4⟩
      refine .inl ⟨_, rfl, ?_⟩
      have HF4 := hid (HI.out.2.2.trans' f4)
      have HI4 := hid i4
      have HLT := hid hlt
      clear f4 i4 hlt
      cases hq : q x with
      | true =>
        have HQ := hid hq
        clear hq
        go_wp2_with fail
        go_ret
        exact ⟨by rw [← HR.out, idx_at HI.out.1 HXX.out HQ.out]; rfl, HI4.out, HF4.out⟩
      | false =>
        have HQ := hid hq
        clear hq
        go_wp2_with fail
        go_roundw
        case rel => exact ⟨i + 1, by go_num, HLT.out, hid ⟨by rw [HNX.out, HQ.out]; rfl, HI4.out, HF4.out⟩⟩
        case measure => have := HLT.out; simp [intOf]; omega
    · obtain rfl : i = n := by omega
      go_wp2_with fail
      go_ret
      refine ⟨?_, HI.out.2.1, HI.out.2.2⟩
      have h1 := HI.out.1
      rw [List.take_of_length_le (by rw [HNN.out]; exact Nat.le_refl _)] at h1
      rw [← HR.out, idx_none h1]
      rfl
set_option maxHeartbeats 8000000 in
theorem indexCl {α : Type} (f : FuncId) (cap : List Value) (q : α → Bool) (p : World → α → List Value → Prop) (D : Nat → Prop) (I : World → Prop) (E : Nat → Prop) (v0 : Value) (X : List α) (w : World) (hp : ∀ w w' x c, p w x c → Fr D w w' → p w' x c) (hD : ∀ i, E i → i < w.heap.size → ¬ D i) (hI : I w)
    (h0 : Sl 5 (p w) E w v0 X) (hent : ∀ (vs : Array Value) (w : World), (callFunc f vs).run Tryz.prog w = .ok (.enter f vs) w)
    (hf : ∀ x ∈ X, ∀ c wv, p wv x c → I wv → Fr D w wv → Calls Tryz.prog f (Value.agg c.toArray :: cap).toArray wv fun e w' => e = .returned (.bool (q x)) ∧ I w' ∧ Fr D wv w') :
    Calls Tryz.prog 183 #[v0, .func (.func f) #[] cap.toArray] w fun e w' => e = .returned (.int .i64 (idxI X q)) ∧ I w' ∧ Fr D w w' := by
  obtain ⟨a, c, rfl, -, hl0⟩ := h0.form
  have HX0 := hid h0
  obtain ⟨n, hn⟩ : ∃ n, X.length = n := ⟨_, rfl⟩
  rw [hn] at HX0 hl0 ⊢
  have HNN := hid hn; have HP := hid hp; have HE := hid hent; have HF := hid hf; have HD := hid hD; have HI0 := hid hI
  obtain ⟨R, hR⟩ : ∃ R, idxI X q = R := ⟨_, rfl⟩
  rw [hR]
  have HR := hid hR
  have hni : (n : Int) ≤ 140737488351232 := by omega
  clear hp h0 hent hf hn hR hD hI
  go_enter Tryz.func183, Tryz.ntmps183
  go_wp2_with fail
  go_loopw [8] (fun iv wr => ∃ (i : Nat), iv = .int .i64 i ∧ i ≤ n ∧ Hid ((X.take i).any q = false ∧ I wr ∧ Fr D w wr)) (fun iv _ => n - (intOf iv).toNat)
  case atStart => exact ⟨0, rfl, Nat.zero_le _, hid ⟨rfl, HI0.out, Fr.refl _ _⟩⟩
  case round =>
    obtain ⟨i, rfl, hi, HI⟩ := hrel
    by_cases hlt : i < n
    · have hiX : i < X.length := by rw [HNN.out]; exact hlt
      obtain ⟨x, hx⟩ : ∃ x, X[i]? = some x := ⟨_, List.getElem?_eq_getElem hiX⟩
      have HXM := hid (List.mem_of_getElem? hx)
      have HXX := hid hx
      have HNX : Hid ((X.take (i + 1)).any q = (q x || false)) := hid (by
        have hxx : X[i] = x := by rw [List.getElem?_eq_getElem hiX] at hx; exact Option.some.inj hx
        rw [List.take_succ_eq_append_getElem hiX, List.any_append, HI.out.1, hxx]; simp)
      have hlti : (i : Int) < n := by omega
      have hi0 : (0 : Int) ≤ i := by omega
      obtain ⟨g, o, cp, c, e1, hEg, hgw, hr, hc, hxa⟩ := (HX0.out.fr HI.out.2.2 HD.out (fun x c _ h => HP.out _ _ x c h HI.out.2.2)).get hx
      rw [HNN.out] at e1
      simp only [Value.slice.injEq, true_and] at e1
      obtain ⟨rfl, rfl⟩ := e1
      have HXA := hid hxa; have HC := hid hc; have HRR := hid hr
      have HI3 : Hid ((Tryz.prog.info? 71).map (·.size) = some c.length) := hid (by rw [hc]; exact infoCl)
      clear hc hEg hgw hr hxa hx
      go_wp2_with (first
        | ((with_reducible refine K.atO (.load 71 _) ?_); refine wpL_load rfl _ _ rfl g (o + i * 5) rfl c _ HRR.out rfl rfl HI3.out ?_)
        | ((with_reducible refine K.atO (.call { callee := .value _, args := _, argTypes := _ }) ?_); refine wpL_callP rfl _ [_] _ rfl f cap rfl HE.out (Value.agg c.toArray :: cap) rfl ?_)
        | fail)
      refine (HF.out x HXM.out c wr HXA.out HI.out.2.1 HI.out.2.2).mono ?_
      rintro e w4 ⟨rfl, i4, f4⟩
      refine .inl ⟨_, rfl, ?_⟩
      have HF4 := hid (HI.out.2.2.trans' f4)
      have HI4 := hid i4
      have HLT := hid hlt
      clear f4 i4 hlt
      cases hq : q x with
      | true =>
        have HQ := hid hq
        clear hq
        go_wp2_with fail
        go_ret
        exact ⟨by rw [← HR.out, idx_at HI.out.1 HXX.out HQ.out]; rfl, HI4.out, HF4.out⟩
      | false =>
        have HQ := hid hq
        clear hq
        go_wp2_with fail
        go_roundw
        case rel => exact ⟨i + 1, by go_num, HLT.out, hid ⟨by rw [HNX.out, HQ.out]; rfl, HI4.out, HF4.out⟩⟩
        case measure => have := HLT.out; simp [intOf]; omega
    · obtain rfl : i = n := by omega
      go_wp2_with fail
      go_ret
      refine ⟨?_, HI.out.2.1, HI.out.2.2⟩
      have h1 := HI.out.1
      rw [List.take_of_length_le (by rw [HNN.out]; exact Nat.le_refl _)] at h1
      rw [← HR.out, idx_none h1]
      rfl
set_option maxHeartbeats 8000000 in
theorem indexAt {α : Type} (f : FuncId) (cap : List Value) (q : α → Bool) (p : World → α → List Value → Prop) (D : Nat → Prop) (I : World → Prop) (E : Nat → Prop) (v0 : Value) (X : List α) (w : World) (hp : ∀ w w' x c, p w x c → Fr D w w' → p w' x c) (hD : ∀ i, E i → i < w.heap.size → ¬ D i) (hI : I w)
    (h0 : Sl 2 (p w) E w v0 X) (hent : ∀ (vs : Array Value) (w : World), (callFunc f vs).run Tryz.prog w = .ok (.enter f vs) w)
    (hf : ∀ x ∈ X, ∀ c wv, p wv x c → I wv → Fr D w wv → Calls Tryz.prog f (Value.agg c.toArray :: cap).toArray wv fun e w' => e = .returned (.bool (q x)) ∧ I w' ∧ Fr D wv w') :
    Calls Tryz.prog 80 #[v0, .func (.func f) #[] cap.toArray] w fun e w' => e = .returned (.int .i64 (idxI X q)) ∧ I w' ∧ Fr D w w' := by
  obtain ⟨a, c, rfl, -, hl0⟩ := h0.form
  have HX0 := hid h0
  obtain ⟨n, hn⟩ : ∃ n, X.length = n := ⟨_, rfl⟩
  rw [hn] at HX0 hl0 ⊢
  have HNN := hid hn; have HP := hid hp; have HE := hid hent; have HF := hid hf; have HD := hid hD; have HI0 := hid hI
  obtain ⟨R, hR⟩ : ∃ R, idxI X q = R := ⟨_, rfl⟩
  rw [hR]
  have HR := hid hR
  have hni : (n : Int) ≤ 140737488351232 := by omega
  clear hp h0 hent hf hn hR hD hI
  go_enter Tryz.func80, Tryz.ntmps80
  go_wp2_with fail
  go_loopw [8] (fun iv wr => ∃ (i : Nat), iv = .int .i64 i ∧ i ≤ n ∧ Hid ((X.take i).any q = false ∧ I wr ∧ Fr D w wr)) (fun iv _ => n - (intOf iv).toNat)
  case atStart => exact ⟨0, rfl, Nat.zero_le _, hid ⟨rfl, HI0.out, Fr.refl _ _⟩⟩
  case round =>
    obtain ⟨i, rfl, hi, HI⟩ := hrel
    by_cases hlt : i < n
    · have hiX : i < X.length := by rw [HNN.out]; exact hlt
      obtain ⟨x, hx⟩ : ∃ x, X[i]? = some x := ⟨_, List.getElem?_eq_getElem hiX⟩
      have HXM := hid (List.mem_of_getElem? hx)
      have HXX := hid hx
      have HNX : Hid ((X.take (i + 1)).any q = (q x || false)) := hid (by
        have hxx : X[i] = x := by rw [List.getElem?_eq_getElem hiX] at hx; exact Option.some.inj hx
        rw [List.take_succ_eq_append_getElem hiX, List.any_append, HI.out.1, hxx]; simp)
      have hlti : (i : Int) < n := by omega
      have hi0 : (0 : Int) ≤ i := by omega
      obtain ⟨g, o, cp, c, e1, hEg, hgw, hr, hc, hxa⟩ := (HX0.out.fr HI.out.2.2 HD.out (fun x c _ h => HP.out _ _ x c h HI.out.2.2)).get hx
      rw [HNN.out] at e1
      simp only [Value.slice.injEq, true_and] at e1
      obtain ⟨rfl, rfl⟩ := e1
      have HXA := hid hxa; have HC := hid hc; have HRR := hid hr
      have HI3 : Hid ((Tryz.prog.info? 60).map (·.size) = some c.length) := hid (by rw [hc]; exact infoAt)
      clear hc hEg hgw hr hxa hx
      go_wp2_with (first
        | ((with_reducible refine K.atO (.load 60 _) ?_); refine wpL_load rfl _ _ rfl g (o + i * 2) rfl c _ HRR.out rfl rfl HI3.out ?_)
        | ((with_reducible refine K.atO (.call { callee := .value _, args := _, argTypes := _ }) ?_); refine wpL_callP rfl _ [_] _ rfl f cap rfl HE.out (Value.agg c.toArray :: cap) rfl ?_)
        | fail)
      refine (HF.out x HXM.out c wr HXA.out HI.out.2.1 HI.out.2.2).mono ?_
      rintro e w4 ⟨rfl, i4, f4⟩
      refine .inl ⟨_, rfl, ?_⟩
      have HF4 := hid (HI.out.2.2.trans' f4)
      have HI4 := hid i4
      have HLT := hid hlt
      clear f4 i4 hlt
      cases hq : q x with
      | true =>
        have HQ := hid hq
        clear hq
        go_wp2_with fail
        go_ret
        exact ⟨by rw [← HR.out, idx_at HI.out.1 HXX.out HQ.out]; rfl, HI4.out, HF4.out⟩
      | false =>
        have HQ := hid hq
        clear hq
        go_wp2_with fail
        go_roundw
        case rel => exact ⟨i + 1, by go_num, HLT.out, hid ⟨by rw [HNX.out, HQ.out]; rfl, HI4.out, HF4.out⟩⟩
        case measure => have := HLT.out; simp [intOf]; omega
    · obtain rfl : i = n := by omega
      go_wp2_with fail
      go_ret
      refine ⟨?_, HI.out.2.1, HI.out.2.2⟩
      have h1 := HI.out.1
      rw [List.take_of_length_le (by rw [HNN.out]; exact Nat.le_refl _)] at h1
      rw [← HR.out, idx_none h1]
      rfl
set_option maxHeartbeats 8000000 in
theorem indexS {α : Type} (f : FuncId) (cap : List Value) (q : α → Bool) (p : World → α → Value → Prop) (D : Nat → Prop) (I : World → Prop) (E : Nat → Prop) (v0 : Value) (X : List α) (w : World) (hp : ∀ w w' x c, p w x c → Fr D w w' → p w' x c) (hD : ∀ i, E i → i < w.heap.size → ¬ D i) (hI : I w)
    (h0 : Sl 1 (fun x c => ∃ v, c = [v] ∧ p w x v) E w v0 X) (hent : ∀ (vs : Array Value) (w : World), (callFunc f vs).run Tryz.prog w = .ok (.enter f vs) w)
    (hf : ∀ x ∈ X, ∀ c wv, p wv x c → I wv → Fr D w wv → Calls Tryz.prog f (c :: cap).toArray wv fun e w' => e = .returned (.bool (q x)) ∧ I w' ∧ Fr D wv w') :
    Calls Tryz.prog 150 #[v0, .func (.func f) #[] cap.toArray] w fun e w' => e = .returned (.int .i64 (idxI X q)) ∧ I w' ∧ Fr D w w' := by
  obtain ⟨a, c, rfl, -, hl0⟩ := h0.form
  have HX0 := hid h0
  obtain ⟨n, hn⟩ : ∃ n, X.length = n := ⟨_, rfl⟩
  rw [hn] at HX0 hl0 ⊢
  have HNN := hid hn; have HP := hid hp; have HE := hid hent; have HF := hid hf; have HD := hid hD; have HI0 := hid hI
  obtain ⟨R, hR⟩ : ∃ R, idxI X q = R := ⟨_, rfl⟩
  rw [hR]
  have HR := hid hR
  have hni : (n : Int) ≤ 140737488351232 := by omega
  clear hp h0 hent hf hn hR hD hI
  go_enter Tryz.func150, Tryz.ntmps150
  go_wp2_with fail
  go_loopw [8] (fun iv wr => ∃ (i : Nat), iv = .int .i64 i ∧ i ≤ n ∧ Hid ((X.take i).any q = false ∧ I wr ∧ Fr D w wr)) (fun iv _ => n - (intOf iv).toNat)
  case atStart => exact ⟨0, rfl, Nat.zero_le _, hid ⟨rfl, HI0.out, Fr.refl _ _⟩⟩
  case round =>
    obtain ⟨i, rfl, hi, HI⟩ := hrel
    by_cases hlt : i < n
    · have hiX : i < X.length := by rw [HNN.out]; exact hlt
      obtain ⟨x, hx⟩ : ∃ x, X[i]? = some x := ⟨_, List.getElem?_eq_getElem hiX⟩
      have HXM := hid (List.mem_of_getElem? hx)
      have HXX := hid hx
      have HNX : Hid ((X.take (i + 1)).any q = (q x || false)) := hid (by
        have hxx : X[i] = x := by rw [List.getElem?_eq_getElem hiX] at hx; exact Option.some.inj hx
        rw [List.take_succ_eq_append_getElem hiX, List.any_append, HI.out.1, hxx]; simp)
      have hlti : (i : Int) < n := by omega
      have hi0 : (0 : Int) ≤ i := by omega
      obtain ⟨g, o, cp, c, e1, hEg, hgw, hr, hc, hxa⟩ := (Sl.fr (p' := fun x c => ∃ v, c = [v] ∧ p wr x v) HX0.out HI.out.2.2 HD.out (fun x c _ h => ⟨h.choose, h.choose_spec.1, HP.out _ _ x _ h.choose_spec.2 HI.out.2.2⟩)).get hx
      rw [HNN.out] at e1
      simp only [Value.slice.injEq, true_and] at e1
      obtain ⟨rfl, rfl⟩ := e1
      obtain ⟨c, rfl, hxa⟩ := hxa
      have hcell : wr.cell? ⟨g, o + i, none⟩ = some c := by have := hr 0 c rfl; simpa using this
      have HXA := hid hxa
      clear hc hEg hgw hr hxa hx
      go_wp2_with (first
        | ((with_reducible refine K.atO (.call { callee := .value _, args := _, argTypes := _ }) ?_); refine wpL_callP rfl _ [_] _ rfl f cap rfl HE.out (c :: cap) rfl ?_)
        | fail)
      refine (HF.out x HXM.out c wr HXA.out HI.out.2.1 HI.out.2.2).mono ?_
      rintro e w4 ⟨rfl, i4, f4⟩
      refine .inl ⟨_, rfl, ?_⟩
      have HF4 := hid (HI.out.2.2.trans' f4)
      have HI4 := hid i4
      have HLT := hid hlt
      clear f4 i4 hlt
      cases hq : q x with
      | true =>
        have HQ := hid hq
        clear hq
        go_wp2_with fail
        go_ret
        exact ⟨by rw [← HR.out, idx_at HI.out.1 HXX.out HQ.out]; rfl, HI4.out, HF4.out⟩
      | false =>
        have HQ := hid hq
        clear hq
        go_wp2_with fail
        go_roundw
        case rel => exact ⟨i + 1, by go_num, HLT.out, hid ⟨by rw [HNX.out, HQ.out]; rfl, HI4.out, HF4.out⟩⟩
        case measure => have := HLT.out; simp [intOf]; omega
    · obtain rfl : i = n := by omega
      go_wp2_with fail
      go_ret
      refine ⟨?_, HI.out.2.1, HI.out.2.2⟩
      have h1 := HI.out.1
      rw [List.take_of_length_le (by rw [HNN.out]; exact Nat.le_refl _)] at h1
      rw [← HR.out, idx_none h1]
      rfl
theorem containsS {α : Type} (f : FuncId) (cap : List Value) (q : α → Bool) (p : World → α → Value → Prop) (D : Nat → Prop) (I : World → Prop) (E : Nat → Prop) (v0 : Value) (X : List α) (w : World) (hp : ∀ w w' x c, p w x c → Fr D w w' → p w' x c) (hD : ∀ i, E i → i < w.heap.size → ¬ D i) (hI : I w)
    (h0 : Sl 1 (fun x c => ∃ v, c = [v] ∧ p w x v) E w v0 X) (hent : ∀ (vs : Array Value) (w : World), (callFunc f vs).run Tryz.prog w = .ok (.enter f vs) w)
    (hf : ∀ x ∈ X, ∀ c wv, p wv x c → I wv → Fr D w wv → Calls Tryz.prog f (c :: cap).toArray wv fun e w' => e = .returned (.bool (q x)) ∧ I w' ∧ Fr D wv w') :
    Calls Tryz.prog 109 #[v0, .func (.func f) #[] cap.toArray] w fun e w' => e = .returned (.bool (X.any q)) ∧ I w' ∧ Fr D w w' := by
  have H := hid (indexS f cap q p D I E v0 X w hp hD hI h0 hent hf)
  obtain ⟨a, c, rfl, -, -⟩ := h0.form
  obtain ⟨R, hR⟩ : ∃ R, X.any q = R := ⟨_, rfl⟩
  obtain ⟨m, hm⟩ : ∃ m, idxI X q = m := ⟨_, rfl⟩
  have HM : Hid (decide (0 ≤ m) = R) := hid (by rw [← hm, ← hR]; exact idx_any X q)
  obtain ⟨n, hn⟩ : ∃ n, X.length = n := ⟨_, rfl⟩
  rw [hm, hn] at H
  rw [hR, hn]
  clear hp h0 hent hf hR hn hm hD hI
  go_enter Tryz.func109, Tryz.ntmps109
  go_wp2_with fail
  refine H.out.mono ?_
  rintro e w2 ⟨rfl, i2, f2⟩
  have HF := hid f2; have HI2 := hid i2
  clear f2 i2
  go_wp2_with fail
  go_ret
  exact ⟨by rw [← HM.out]; rfl, HI2.out, HF.out⟩
set_option maxHeartbeats 8000000 in
theorem indexN {α : Type} (f : FuncId) (cap : List Value) (q : α → Bool) (p : World → α → Value → Prop) (D : Nat → Prop) (I : World → Prop) (E : Nat → Prop) (v0 : Value) (X : List α) (w : World) (hp : ∀ w w' x c, p w x c → Fr D w w' → p w' x c) (hD : ∀ i, E i → i < w.heap.size → ¬ D i) (hI : I w)
    (h0 : Sl 1 (fun x c => ∃ v, c = [v] ∧ p w x v) E w v0 X) (hent : ∀ (vs : Array Value) (w : World), (callFunc f vs).run Tryz.prog w = .ok (.enter f vs) w)
    (hf : ∀ x ∈ X, ∀ c wv, p wv x c → I wv → Fr D w wv → Calls Tryz.prog f (c :: cap).toArray wv fun e w' => e = .returned (.bool (q x)) ∧ I w' ∧ Fr D wv w') :
    Calls Tryz.prog 126 #[v0, .func (.func f) #[] cap.toArray] w fun e w' => e = .returned (.int .i64 (idxI X q)) ∧ I w' ∧ Fr D w w' := by
  obtain ⟨a, c, rfl, -, hl0⟩ := h0.form
  have HX0 := hid h0
  obtain ⟨n, hn⟩ : ∃ n, X.length = n := ⟨_, rfl⟩
  rw [hn] at HX0 hl0 ⊢
  have HNN := hid hn; have HP := hid hp; have HE := hid hent; have HF := hid hf; have HD := hid hD; have HI0 := hid hI
  obtain ⟨R, hR⟩ : ∃ R, idxI X q = R := ⟨_, rfl⟩
  rw [hR]
  have HR := hid hR
  have hni : (n : Int) ≤ 140737488351232 := by omega
  clear hp h0 hent hf hn hR hD hI
  go_enter Tryz.func126, Tryz.ntmps126
  go_wp2_with fail
  go_loopw [8] (fun iv wr => ∃ (i : Nat), iv = .int .i64 i ∧ i ≤ n ∧ Hid ((X.take i).any q = false ∧ I wr ∧ Fr D w wr)) (fun iv _ => n - (intOf iv).toNat)
  case atStart => exact ⟨0, rfl, Nat.zero_le _, hid ⟨rfl, HI0.out, Fr.refl _ _⟩⟩
  case round =>
    obtain ⟨i, rfl, hi, HI⟩ := hrel
    by_cases hlt : i < n
    · have hiX : i < X.length := by rw [HNN.out]; exact hlt
      obtain ⟨x, hx⟩ : ∃ x, X[i]? = some x := ⟨_, List.getElem?_eq_getElem hiX⟩
      have HXM := hid (List.mem_of_getElem? hx)
      have HXX := hid hx
      have HNX : Hid ((X.take (i + 1)).any q = (q x || false)) := hid (by
        have hxx : X[i] = x := by rw [List.getElem?_eq_getElem hiX] at hx; exact Option.some.inj hx
        rw [List.take_succ_eq_append_getElem hiX, List.any_append, HI.out.1, hxx]; simp)
      have hlti : (i : Int) < n := by omega
      have hi0 : (0 : Int) ≤ i := by omega
      obtain ⟨g, o, cp, c, e1, hEg, hgw, hr, hc, hxa⟩ := (Sl.fr (p' := fun x c => ∃ v, c = [v] ∧ p wr x v) HX0.out HI.out.2.2 HD.out (fun x c _ h => ⟨h.choose, h.choose_spec.1, HP.out _ _ x _ h.choose_spec.2 HI.out.2.2⟩)).get hx
      rw [HNN.out] at e1
      simp only [Value.slice.injEq, true_and] at e1
      obtain ⟨rfl, rfl⟩ := e1
      obtain ⟨c, rfl, hxa⟩ := hxa
      have hcell : wr.cell? ⟨g, o + i, none⟩ = some c := by have := hr 0 c rfl; simpa using this
      have HXA := hid hxa
      clear hc hEg hgw hr hxa hx
      go_wp2_with (first
        | ((with_reducible refine K.atO (.call { callee := .value _, args := _, argTypes := _ }) ?_); refine wpL_callP rfl _ [_] _ rfl f cap rfl HE.out (c :: cap) rfl ?_)
        | fail)
      refine (HF.out x HXM.out c wr HXA.out HI.out.2.1 HI.out.2.2).mono ?_
      rintro e w4 ⟨rfl, i4, f4⟩
      refine .inl ⟨_, rfl, ?_⟩
      have HF4 := hid (HI.out.2.2.trans' f4)
      have HI4 := hid i4
      have HLT := hid hlt
      clear f4 i4 hlt
      cases hq : q x with
      | true =>
        have HQ := hid hq
        clear hq
        go_wp2_with fail
        go_ret
        exact ⟨by rw [← HR.out, idx_at HI.out.1 HXX.out HQ.out]; rfl, HI4.out, HF4.out⟩
      | false =>
        have HQ := hid hq
        clear hq
        go_wp2_with fail
        go_roundw
        case rel => exact ⟨i + 1, by go_num, HLT.out, hid ⟨by rw [HNX.out, HQ.out]; rfl, HI4.out, HF4.out⟩⟩
        case measure => have := HLT.out; simp [intOf]; omega
    · obtain rfl : i = n := by omega
      go_wp2_with fail
      go_ret
      refine ⟨?_, HI.out.2.1, HI.out.2.2⟩
      have h1 := HI.out.1
      rw [List.take_of_length_le (by rw [HNN.out]; exact Nat.le_refl _)] at h1
      rw [← HR.out, idx_none h1]
      rfl
theorem containsN {α : Type} (f : FuncId) (cap : List Value) (q : α → Bool) (p : World → α → Value → Prop) (D : Nat → Prop) (I : World → Prop) (E : Nat → Prop) (v0 : Value) (X : List α) (w : World) (hp : ∀ w w' x c, p w x c → Fr D w w' → p w' x c) (hD : ∀ i, E i → i < w.heap.size → ¬ D i) (hI : I w)
    (h0 : Sl 1 (fun x c => ∃ v, c = [v] ∧ p w x v) E w v0 X) (hent : ∀ (vs : Array Value) (w : World), (callFunc f vs).run Tryz.prog w = .ok (.enter f vs) w)
    (hf : ∀ x ∈ X, ∀ c wv, p wv x c → I wv → Fr D w wv → Calls Tryz.prog f (c :: cap).toArray wv fun e w' => e = .returned (.bool (q x)) ∧ I w' ∧ Fr D wv w') :
    Calls Tryz.prog 82 #[v0, .func (.func f) #[] cap.toArray] w fun e w' => e = .returned (.bool (X.any q)) ∧ I w' ∧ Fr D w w' := by
  have H := hid (indexN f cap q p D I E v0 X w hp hD hI h0 hent hf)
  obtain ⟨a, c, rfl, -, -⟩ := h0.form
  obtain ⟨R, hR⟩ : ∃ R, X.any q = R := ⟨_, rfl⟩
  obtain ⟨m, hm⟩ : ∃ m, idxI X q = m := ⟨_, rfl⟩
  have HM : Hid (decide (0 ≤ m) = R) := hid (by rw [← hm, ← hR]; exact idx_any X q)
  obtain ⟨n, hn⟩ : ∃ n, X.length = n := ⟨_, rfl⟩
  rw [hm, hn] at H
  rw [hR, hn]
  clear hp h0 hent hf hR hn hm hD hI
  go_enter Tryz.func82, Tryz.ntmps82
  go_wp2_with fail
  refine H.out.mono ?_
  rintro e w2 ⟨rfl, i2, f2⟩
  have HF := hid f2; have HI2 := hid i2
  clear f2 i2
  go_wp2_with fail
  go_ret
  exact ⟨by rw [← HM.out]; rfl, HI2.out, HF.out⟩
end Go.Proofs.YtdkkpfeiaaffhaaGreatDoor.SC
