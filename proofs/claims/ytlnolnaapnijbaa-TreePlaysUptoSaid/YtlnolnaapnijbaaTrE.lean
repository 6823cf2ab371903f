/-
  Scans: the visitor.
-/
import Derived.Test.YtlnolnaapnijbaaTrKk
namespace Go.Proofs.Ytlnolnaapnijbaa.TR
set_option maxRecDepth 100000
open Go.RowKit K

def stopB (to k : S) : Bool := !decide (to = ⟨#[]⟩) && !lt k to
def runS (to : S) (most : Int) : L → L → Bool × L
  | acc, [] => (true, acc)
  | acc, x :: r => if stopB to x.1 then (false, acc) else if (acc.length : Int) + 1 < most then runS to most (acc ++ [x]) r else (false, acc ++ [x])
theorem runS_append (to : S) (most : Int) (A B acc : L) : runS to most acc (A ++ B) = if (runS to most acc A).1 then runS to most (runS to most acc A).2 B else runS to most acc A := by
  induction A generalizing acc with
  | nil => simp [runS]
  | cons x r ih =>
    simp only [List.cons_append, runS]
    split
    · simp
    · split
      · exact ih _
      · simp
theorem runS_length (to : S) (most : Int) (A acc : L) : (runS to most acc A).2.length ≤ acc.length + A.length := by
  induction A generalizing acc with
  | nil => simp [runS]
  | cons x r ih =>
    simp only [runS]
    split
    · simp
    · split
      · have := ih (acc ++ [x]); simp at this ⊢; omega
      · simp
def pc (x : S × S) : List Value := [.string x.1, .string x.2]
def pcs (l : L) : List Value := l.flatMap pc
theorem pcs_length (l : L) : (pcs l).length = l.length * 2 := by
  induction l with
  | nil => rfl
  | cons x r ih => simp [pcs, pc] at ih ⊢; rw [ih]; omega
theorem pcs_append (a b : L) : pcs (a ++ b) = pcs a ++ pcs b := by simp [pcs]
theorem pcs_one (l : L) : ∀ u ∈ pcs l, u.oneCell' = true := by
  intro u hu
  obtain ⟨x, -, hx⟩ := List.mem_flatMap.1 hu
  simp [pc] at hx
  rcases hx with rfl | rfl <;> rfl
/-- What the visitor may turn. -/
def Vs (bp : Nat) (pv : Value) : Nat → Prop := fun g => g = bp ∨ pv.ownBlock = some g
/-- The visitor's variables: the bound, the pairs so far, the number. -/
structure PS (base bt bp bm : Nat) (to : S) (most : Int) (acc : L) (pv : Value) (w : World) : Prop where
  t : Blk w bt 9 [.string to]
  m : Blk w bm 3 [.int .i64 most]
  p : Blk w bp 42 [pv]
  r : w.ownsRow base 51 2 pv acc.length (pcs acc)
  n : ∀ g, pv.ownBlock = some g → g ≠ bt ∧ g ≠ bp ∧ g ≠ bm
  ne1 : bt ≠ bp
  ne2 : bm ≠ bp
  b1 : base ≤ bt
  b2 : base ≤ bp
  b3 : base ≤ bm
theorem infom_pair : (Try.prog.info? 51).map (fun i => (i.zero, i.size, i.bytes)) = some (some (.agg #[.string ⟨#[]⟩, .string ⟨#[]⟩]), 2, 32) := by kernel_rfl
theorem infoz_pair : ∃ i, Try.prog.info? 51 = some i ∧ i.zero = some (.agg #[.string ⟨#[]⟩, .string ⟨#[]⟩]) ∧ i.size = 2 ∧ i.bytes = 32 := by
  have h := infom_pair
  cases hq : Try.prog.info? 51 with
  | none => rw [hq] at h; cases h
  | some i =>
    rw [hq] at h
    simp only [Option.map_some, Option.some.injEq, Prod.mk.injEq] at h
    exact ⟨i, rfl, h.1, h.2.1, h.2.2⟩
theorem info_pr : (Try.prog.info? 51).map (·.size) = some 2 := by kernel_rfl
theorem info_prs : (Try.prog.info? 42).map (·.size) = some 1 := by kernel_rfl
theorem build_pair (x y : S) (w : World) : (Instr.build 51 #[(0, .string x), (1, .string y)]).run Try.prog w = .ok (.agg #[.string x, .string y]) w := by kernel_rfl
set_option maxHeartbeats 4000000 in
theorem visit_stop (base bt bp bm : Nat) (to : S) (most : Int) (acc : L) (pv : Value) (k v : S) (w : World) (h : PS base bt bp bm to most acc pv w) (hs : stopB to k = true) :
    Calls Try.prog 72 #[.string k, .string v, .pointer (some ⟨bt, 0, none⟩), .pointer (some ⟨bp, 0, none⟩), .pointer (some ⟨bm, 0, none⟩)] w fun e w' => e = .returned (.bool false) ∧ w = w' := by
  have c0 : w.cell? ⟨bt, 0, none⟩ = some (.string to) := h.t.cell 0
  simp only [stopB, Bool.and_eq_true] at hs
  have h1 : ¬ (to.toList = []) := fun e => by
    have : to = ⟨#[]⟩ := toList_inj (by rw [e, ByteArray.toList_eq])
    simp [this] at hs
  have h3 : (!to.toList.isEmpty) = true := by cases hl : to.toList with
    | nil => exact absurd hl h1
    | cons a r => rfl
  have hg := run_geq k to
  rw [show (!lt k to) = true from hs.2] at hg
  clear h hs
  go_enter Try.func72, Try.ntmps72
  go_wp2
  go_ret
  exact ⟨rfl, rfl⟩
theorem app_pr {ops : Array Oper} {rest : List Oper} {op : Oper} {a : Act} {w : World} {Q : Exit → Act → World → Prop} (hgd : op.guard = none) (s x : Operand) (ho : op.op = .call { callee := .builtin .append, args := #[s, x], argTypes := #[42, 42] })
    (base : Nat) (v : Value) (n : Nat) (xs : List Value) (hv : a.eval s = v) (hown : w.ownsRow base 51 2 v n xs)
    (sp : Option Addr) (m c : Nat) (news : List Value) (hx : a.eval x = .slice sp m c) (hl : news.length = m * 2) (hsrc : m = 0 ∨ ∃ ad, sp = some ad ∧ ∀ j u, news[j]? = some u → w.cell? (ad.add j) = some u) (h1 : ∀ u ∈ news, u.oneCell' = true)
    (hb : n + m ≤ 4398046511104) (hbase : base ≤ w.heap.size)
    (h : ∀ a' cap' w', Hid (w'.ownsRow base 51 2 (.slice a' (n + m) cap') (n + m) (xs ++ news)) → Hid (w.grownBy w' v.ownBlock) → Hid ((Value.slice a' (n + m) cap').ownBlock = v.ownBlock ∨ (Value.slice a' (n + m) cap').ownBlock = some w.heap.size) →
      wpList Try.prog ops Q rest (a.put op.dst (.slice a' (n + m) cap')) w') : wpList Try.prog ops Q (op :: rest) a w := by
  obtain ⟨i, hi, hz, hs, hby⟩ := infoz_pair
  exact wpL_append hgd s x 42 ho base 51 i _ 2 32 rfl hi hz hs hby rfl (by decide) v n xs hv hown sp m c news hx hl hsrc h1 (by unfold maxLen; omega) (by omega) hbase h
set_option maxHeartbeats 4000000 in
theorem visit_go (base bt bp bm : Nat) (to : S) (most : Int) (acc : L) (pv : Value) (k v : S) (w : World) (h : PS base bt bp bm to most acc pv w) (hs : stopB to k = false) (hn : acc.length + 1 ≤ 4398046511104) (hbs : base ≤ w.heap.size) :
    Calls Try.prog 72 #[.string k, .string v, .pointer (some ⟨bt, 0, none⟩), .pointer (some ⟨bp, 0, none⟩), .pointer (some ⟨bm, 0, none⟩)] w fun e w' => e = .returned (.bool (decide ((acc.length : Int) + 1 < most))) ∧ ∃ pv', PS base bt bp bm to most (acc ++ [(k, v)]) pv' w' ∧ Fr (Vs bp pv) w w' ∧ ∀ g, pv'.ownBlock = some g → pv.ownBlock = some g ∨ w.heap.size ≤ g := by
  have c0 : w.cell? ⟨bt, 0, none⟩ = some (.string to) := h.t.cell 0
  have ho := h.r
  obtain ⟨pa, pcap, rfl, -, -⟩ := own_form ho
  have hB := h.p; have hne := h.n
  have c1 : w.cell? ⟨bp, 0, none⟩ = some (.slice pa acc.length pcap) := hB.cell 0
  have H := hid h; have HO := hid ho; have HBP := hid hB; have HNE := hid hne; have HN := hid hn; have HBS := hid hbs
  clear h hB ho hne hn hbs
  obtain ⟨ip, I9, Z9, S9, B9⟩ := infoz_pair
  have JI := hid I9; have JZ := hid Z9; have JS := hid S9
  clear I9 Z9 S9 B9
  have bpr := build_pair
  have fin : Hid (∀ w1 a' c' w2 w3, Fr No w w1 → w2.ownsRow base 51 2 (.slice a' (acc.length + 1) c') (acc.length + 1) (pcs acc ++ [.string k, .string v]) → w1.grownBy w2 (Value.slice pa acc.length pcap).ownBlock →
      ((Value.slice a' (acc.length + 1) c').ownBlock = (Value.slice pa acc.length pcap).ownBlock ∨ (Value.slice a' (acc.length + 1) c').ownBlock = some w1.heap.size) → Blk w3 bp 42 [.slice a' (acc.length + 1) c'] → Fr (fun g => g = bp) w2 w3 →
      PS base bt bp bm to most (acc ++ [(k, v)]) (.slice a' (acc.length + 1) c') w3 ∧ Fr (Vs bp (.slice pa acc.length pcap)) w w3 ∧ ∀ g, (Value.slice a' (acc.length + 1) c').ownBlock = some g → (Value.slice pa acc.length pcap).ownBlock = some g ∨ w.heap.size ≤ g) := hid (by
    intro w1 a' c' w2 w3 f1 o2 g2 hor b3 f3
    have h0 := H.out
    have f2 : Fr (Ob (.slice pa acc.length pcap)) w1 w2 := (Fr.refl _ w1).grown g2 fun k hk => .inl hk
    have hs1 := f1.size
    have ltb : bt < w.heap.size := h0.t.lt
    have ltm : bm < w.heap.size := h0.m.lt
    have ltp : bp < w.heap.size := HBP.out.lt
    have hnn : ∀ g, (Value.slice a' (acc.length + 1) c').ownBlock = some g → g ≠ bt ∧ g ≠ bp ∧ g ≠ bm := fun g hg => by
      rcases hor with e | e
      · rw [e] at hg; exact HNE.out g hg
      · rw [e] at hg; cases hg; omega
    have hF : Fr (Vs bp (.slice pa acc.length pcap)) w w3 := (f1.no.trans' (f2.mono (fun g hg => .inr hg))).trans' (f3.mono (fun g e => .inl e))
    have e1 : pcs (acc ++ [(k, v)]) = pcs acc ++ [.string k, .string v] := by simp [pcs, pc]
    refine ⟨⟨((h0.t.fr f1 id).fr f2 (fun e => (HNE.out bt e).1 rfl)).fr f3 h0.ne1, ((h0.m.fr f1 id).fr f2 (fun e => (HNE.out bm e).2.2 rfl)).fr f3 h0.ne2, b3, ?_, hnn, h0.ne1, h0.ne2, h0.b1, h0.b2, h0.b3⟩, hF, fun g hg => ?_⟩
    · rw [e1, List.length_append, List.length_singleton]
      exact own_fr o2 f3 (fun g hg e => (hnn g hg).2.1 e)
    · rcases hor with e | e
      · rw [e] at hg; exact .inl hg
      · rw [e] at hg; cases hg; exact .inr hs1)
  by_cases ht : to = ⟨#[]⟩
  · have h1 : to.toList = [] := by rw [ht, ByteArray.toList_eq]
    have h3 : (!to.toList.isEmpty) = false := by rw [h1]; rfl
    have HT := hid ht
    clear ht hs
    go_enter Try.func72, Try.ntmps72
    go_wp2_with (first
      | ((with_reducible show wpList _ _ _ ({ dst := _, op := .buildSlice 42 _ _, type := _, pos := _, after := _, guard := _ } :: _) _ _); refine wpL_buildOne rfl _ 51 _ rfl ip _ rfl JI.out JZ.out (by rw [JS.out]; decide) (by rw [JS.out]; decide) _ [.string k, .string v] rfl rfl (by rw [JS.out]; rfl) ?_; intro w1 HB1 F1 HS1)
      | ((with_reducible show wpList _ _ _ ({ dst := _, op := .call { callee := .builtin .append, args := _, argTypes := _ }, type := _, pos := _, after := _, guard := _ } :: _) _ _); refine app_pr rfl _ _ rfl base _ acc.length (pcs acc) rfl (own_fr HO.out F1.out (fun _ _ e => e)) (some ⟨w.heap.size, 0, none⟩) 1 1 [.string k, .string v] rfl rfl (.inr ⟨_, rfl, HB1.out.news⟩) (by intro u hu; simp at hu; rcases hu with rfl | rfl <;> rfl) HN.out (Nat.le_trans HBS.out F1.out.size) ?_; intro a' c' w2 HO2 HG2 HA2; have HBP2 : Hid (Blk w2 bp 42 [.slice pa acc.length pcap]) := hid ((HBP.out.fr F1.out id).fr ((Fr.refl (Ob (.slice pa acc.length pcap)) w1).grown HG2.out fun k hk => .inl hk) (fun e => (HNE.out bp e).2.1 rfl)))
      | ((with_reducible show wpList _ _ _ ({ dst := _, op := .store 42 _ _, type := _, pos := _, after := _, guard := _ } :: _) _ _); refine wpL_storeV rfl _ _ _ rfl bp 0 (.slice a' (acc.length + 1) c') [.slice a' (acc.length + 1) c'] rfl rfl rfl _ _ HBP2.out (by simp) info_prs (by intro u hu; simp at hu; subst hu; rfl) ?_; intro w3 HB3 F3 HS3; have HB3' : Hid (Blk w3 bp 42 [.slice a' (acc.length + 1) c']) := hid (by have := HB3.out; simpa [spl] using this); have FIN := hid (fin.out w1 a' c' w2 w3 F1.out HO2.out HG2.out HA2.out HB3'.out F3.out); have d0 : w3.cell? ⟨bp, 0, none⟩ = some (.slice a' (acc.length + 1) c') := HB3'.out.cell 0; have d1 : w3.cell? ⟨bm, 0, none⟩ = some (.int .i64 most) := FIN.out.1.m.cell 0))
    go_ret
    exact ⟨rfl, _, FIN.out⟩
  · have h1 : ¬ (to.toList = []) := fun e => ht (toList_inj (by rw [e, ByteArray.toList_eq]))
    have h3 : (!to.toList.isEmpty) = true := by cases hl : to.toList with
      | nil => exact absurd hl h1
      | cons a r => rfl
    have hg := run_geq k to
    have hlt : (!lt k to) = false := by simpa [stopB, ht] using hs
    rw [hlt] at hg
    clear ht hs hlt
    go_enter Try.func72, Try.ntmps72
    go_wp2_with (first
      | ((with_reducible show wpList _ _ _ ({ dst := _, op := .buildSlice 42 _ _, type := _, pos := _, after := _, guard := _ } :: _) _ _); refine wpL_buildOne rfl _ 51 _ rfl ip _ rfl JI.out JZ.out (by rw [JS.out]; decide) (by rw [JS.out]; decide) _ [.string k, .string v] rfl rfl (by rw [JS.out]; rfl) ?_; intro w1 HB1 F1 HS1)
      | ((with_reducible show wpList _ _ _ ({ dst := _, op := .call { callee := .builtin .append, args := _, argTypes := _ }, type := _, pos := _, after := _, guard := _ } :: _) _ _); refine app_pr rfl _ _ rfl base _ acc.length (pcs acc) rfl (own_fr HO.out F1.out (fun _ _ e => e)) (some ⟨w.heap.size, 0, none⟩) 1 1 [.string k, .string v] rfl rfl (.inr ⟨_, rfl, HB1.out.news⟩) (by intro u hu; simp at hu; rcases hu with rfl | rfl <;> rfl) HN.out (Nat.le_trans HBS.out F1.out.size) ?_; intro a' c' w2 HO2 HG2 HA2; have HBP2 : Hid (Blk w2 bp 42 [.slice pa acc.length pcap]) := hid ((HBP.out.fr F1.out id).fr ((Fr.refl (Ob (.slice pa acc.length pcap)) w1).grown HG2.out fun k hk => .inl hk) (fun e => (HNE.out bp e).2.1 rfl)))
      | ((with_reducible show wpList _ _ _ ({ dst := _, op := .store 42 _ _, type := _, pos := _, after := _, guard := _ } :: _) _ _); refine wpL_storeV rfl _ _ _ rfl bp 0 (.slice a' (acc.length + 1) c') [.slice a' (acc.length + 1) c'] rfl rfl rfl _ _ HBP2.out (by simp) info_prs (by intro u hu; simp at hu; subst hu; rfl) ?_; intro w3 HB3 F3 HS3; have HB3' : Hid (Blk w3 bp 42 [.slice a' (acc.length + 1) c']) := hid (by have := HB3.out; simpa [spl] using this); have FIN := hid (fin.out w1 a' c' w2 w3 F1.out HO2.out HG2.out HA2.out HB3'.out F3.out); have d0 : w3.cell? ⟨bp, 0, none⟩ = some (.slice a' (acc.length + 1) c') := HB3'.out.cell 0; have d1 : w3.cell? ⟨bm, 0, none⟩ = some (.int .i64 most) := FIN.out.1.m.cell 0))
    go_ret
    exact ⟨rfl, _, FIN.out⟩
end Go.Proofs.Ytlnolnaapnijbaa.TR
