/-
  Part 10 of the proof: TrE, TrEe, TrEf, TrRa.
-/
import Derived.Test.YtflfmkokfbgclaaGreatRc09
set_option linter.unusedSimpArgs false
set_option linter.unusedVariables false
namespace Go.Proofs.YtflfmkokfbgclaaGreat.TR
set_option maxRecDepth 100000
open Go.RowKit K

def stopB (to k : S) : Bool := !decide (to = ⟨#[]⟩) && !lt k to
def runS (to : S) (most : Int) : L → L → Bool × L
  | acc, [] => (true, acc)
  | acc, x :: r => if stopB to x.1 then (false, acc) else if (acc.length : Int) + 1 < most then runS to most (acc ++ [x]) r else (false, acc ++ [x])
theorem runS_append (to : S) (most : Int) (A B acc : L) : runS to most acc (A ++ B) = if (runS to most acc A).1 then runS to most (runS to most acc A).2 B else runS to most acc A := by
  induction A generalizing acc with
  | nil => simp [runS]
  | cons x r ih =>
    simp only [List.cons_append, runS]
    split
    · simp
    · split
      · exact ih _
      · simp
theorem runS_length (to : S) (most : Int) (A acc : L) : (runS to most acc A).2.length ≤ acc.length + A.length := by
  induction A generalizing acc with
  | nil => simp [runS]
  | cons x r ih =>
    simp only [runS]
    split
    · simp
    · split
      · have := ih (acc ++ [x]); simp at this ⊢; omega
      · simp
def pc (x : S × S) : List Value := [.string x.1, .string x.2]
def pcs (l : L) : List Value := l.flatMap pc
theorem pcs_length (l : L) : (pcs l).length = l.length * 2 := by
  induction l with
  | nil => rfl
  | cons x r ih => simp [pcs, pc] at ih ⊢; rw [ih]; omega
/-- What the visitor may turn. -/
def Vs (bp : Nat) (pv : Value) : Nat → Prop := fun g => g = bp ∨ pv.ownBlock = some g
/-- The visitor's variables: the bound, the pairs so far, the number. -/
structure PS (base bt bp bm : Nat) (to : S) (most : Int) (acc : L) (pv : Value) (w : World) : Prop where
  t : Blk w bt 9 [.string to]
  m : Blk w bm 3 [.int .i64 most]
  p : Blk w bp 39 [pv]
  r : w.ownsRow base 71 2 pv acc.length (pcs acc)
  n : ∀ g, pv.ownBlock = some g → g ≠ bt ∧ g ≠ bp ∧ g ≠ bm
  ne1 : bt ≠ bp
  ne2 : bm ≠ bp
  b1 : base ≤ bt
  b2 : base ≤ bp
  b3 : base ≤ bm
theorem infom_pair : (Tryz.prog.info? 71).map (fun i => (i.zero, i.size, i.bytes)) = some (some (.agg #[.string ⟨#[]⟩, .string ⟨#[]⟩]), 2, 32) := by kernel_rfl
theorem infoz_pair : ∃ i, Tryz.prog.info? 71 = some i ∧ i.zero = some (.agg #[.string ⟨#[]⟩, .string ⟨#[]⟩]) ∧ i.size = 2 ∧ i.bytes = 32 := by
  have h := infom_pair
  cases hq : Tryz.prog.info? 71 with
  | none => rw [hq] at h; cases h
  | some i =>
    rw [hq] at h
    simp only [Option.map_some, Option.some.injEq, Prod.mk.injEq] at h
    exact ⟨i, rfl, h.1, h.2.1, h.2.2⟩
theorem info_prs : (Tryz.prog.info? 39).map (·.size) = some 1 := by kernel_rfl
theorem build_pair (x y : S) (w : World) : (Instr.build 71 #[(0, .string x), (1, .string y)]).run Tryz.prog w = .ok (.agg #[.string x, .string y]) w := by kernel_rfl
set_option maxHeartbeats 4000000 in
theorem visit_stop (base bt bp bm : Nat) (to : S) (most : Int) (acc : L) (pv : Value) (k v : S) (w : World) (h : PS base bt bp bm to most acc pv w) (hs : stopB to k = true) :
    Calls Tryz.prog 87 #[.string k, .string v, .pointer (some ⟨bt, 0, none⟩), .pointer (some ⟨bp, 0, none⟩), .pointer (some ⟨bm, 0, none⟩)] w fun e w' => e = .returned (.bool false) ∧ w = w' := by
  have c0 : w.cell? ⟨bt, 0, none⟩ = some (.string to) := h.t.cell 0
  simp only [stopB, Bool.and_eq_true] at hs
  have h1 : ¬ (to.toList = []) := fun e => by
    have : to = ⟨#[]⟩ := toList_inj (by rw [e, ByteArray.toList_eq])
    simp [this] at hs
  have h3 : (!to.toList.isEmpty) = true := by cases hl : to.toList with
    | nil => exact absurd hl h1
    | cons a r => rfl
  have hg := run_geq k to
  rw [show (!lt k to) = true from hs.2] at hg
  clear h hs
  go_enter Tryz.func87, Tryz.ntmps87
  go_wp2
  go_ret
  exact ⟨rfl, rfl⟩
theorem app_pr {ops : Array Oper} {rest : List Oper} {op : Oper} {a : Act} {w : World} {Q : Exit → Act → World → Prop} (hgd : op.guard = none) (s x : Operand) (ho : op.op = .call { callee := .builtin .append, args := #[s, x], argTypes := #[39, 39] })
    (base : Nat) (v : Value) (n : Nat) (xs : List Value) (hv : a.eval s = v) (hown : w.ownsRow base 71 2 v n xs)
    (sp : Option Addr) (m c : Nat) (news : List Value) (hx : a.eval x = .slice sp m c) (hl : news.length = m * 2) (hsrc : m = 0 ∨ ∃ ad, sp = some ad ∧ ∀ j u, news[j]? = some u → w.cell? (ad.add j) = some u) (h1 : ∀ u ∈ news, u.oneCell' = true)
    (hb : n + m ≤ 4398046511104) (hbase : base ≤ w.heap.size)
    (h : ∀ a' cap' w', Hid (w'.ownsRow base 71 2 (.slice a' (n + m) cap') (n + m) (xs ++ news)) → Hid (w.grownBy w' v.ownBlock) → Hid ((Value.slice a' (n + m) cap').ownBlock = v.ownBlock ∨ (Value.slice a' (n + m) cap').ownBlock = some w.heap.size) →
      wpList Tryz.prog ops Q rest (a.put op.dst (.slice a' (n + m) cap')) w') : wpList Tryz.prog ops Q (op :: rest) a w := by
  obtain ⟨i, hi, hz, hs, hby⟩ := infoz_pair
  exact wpL_append hgd s x 39 ho base 71 i _ 2 32 rfl hi hz hs hby rfl (by decide) v n xs hv hown sp m c news hx hl hsrc h1 (by unfold maxLen; omega) (by omega) hbase h
set_option maxHeartbeats 4000000 in
theorem visit_go (base bt bp bm : Nat) (to : S) (most : Int) (acc : L) (pv : Value) (k v : S) (w : World) (h : PS base bt bp bm to most acc pv w) (hs : stopB to k = false) (hn : acc.length + 1 ≤ 4398046511104) (hbs : base ≤ w.heap.size) :
    Calls Tryz.prog 87 #[.string k, .string v, .pointer (some ⟨bt, 0, none⟩), .pointer (some ⟨bp, 0, none⟩), .pointer (some ⟨bm, 0, none⟩)] w fun e w' => e = .returned (.bool (decide ((acc.length : Int) + 1 < most))) ∧ ∃ pv', PS base bt bp bm to most (acc ++ [(k, v)]) pv' w' ∧ Fr (Vs bp pv) w w' ∧ ∀ g, pv'.ownBlock = some g → pv.ownBlock = some g ∨ w.heap.size ≤ g := by
  have c0 : w.cell? ⟨bt, 0, none⟩ = some (.string to) := h.t.cell 0
  have ho := h.r
  obtain ⟨pa, pcap, rfl, -, -⟩ := own_form ho
  have hB := h.p; have hne := h.n
  have c1 : w.cell? ⟨bp, 0, none⟩ = some (.slice pa acc.length pcap) := hB.cell 0
  have H := hid h; have HO := hid ho; have HBP := hid hB; have HNE := hid hne; have HN := hid hn; have HBS := hid hbs
  clear h hB ho hne hn hbs
  obtain ⟨ip, I9, Z9, S9, B9⟩ := infoz_pair
  have JI := hid I9; have JZ := hid Z9; have JS := hid S9
  clear I9 Z9 S9 B9
  have bpr := build_pair
  have fin : Hid (∀ w1 a' c' w2 w3, Fr No w w1 → w2.ownsRow base 71 2 (.slice a' (acc.length + 1) c') (acc.length + 1) (pcs acc ++ [.string k, .string v]) → w1.grownBy w2 (Value.slice pa acc.length pcap).ownBlock →
      ((Value.slice a' (acc.length + 1) c').ownBlock = (Value.slice pa acc.length pcap).ownBlock ∨ (Value.slice a' (acc.length + 1) c').ownBlock = some w1.heap.size) → Blk w3 bp 39 [.slice a' (acc.length + 1) c'] → Fr (fun g => g = bp) w2 w3 →
      PS base bt bp bm to most (acc ++ [(k, v)]) (.slice a' (acc.length + 1) c') w3 ∧ Fr (Vs bp (.slice pa acc.length pcap)) w w3 ∧ ∀ g, (Value.slice a' (acc.length + 1) c').ownBlock = some g → (Value.slice pa acc.length pcap).ownBlock = some g ∨ w.heap.size ≤ g) := hid (by
    intro w1 a' c' w2 w3 f1 o2 g2 hor b3 f3
    have h0 := H.out
    have f2 : Fr (Ob (.slice pa acc.length pcap)) w1 w2 := (Fr.refl _ w1).grown g2 fun k hk => .inl hk
    have hs1 := f1.size
    have ltb : bt < w.heap.size := h0.t.lt
    have ltm : bm < w.heap.size := h0.m.lt
    have ltp : bp < w.heap.size := HBP.out.lt
    have hnn : ∀ g, (Value.slice a' (acc.length + 1) c').ownBlock = some g → g ≠ bt ∧ g ≠ bp ∧ g ≠ bm := fun g hg => by
      rcases hor with e | e
      · rw [e] at hg; exact HNE.out g hg
      · rw [e] at hg; cases hg; omega
    have hF : Fr (Vs bp (.slice pa acc.length pcap)) w w3 := (f1.no.trans' (f2.mono (fun g hg => .inr hg))).trans' (f3.mono (fun g e => .inl e))
    have e1 : pcs (acc ++ [(k, v)]) = pcs acc ++ [.string k, .string v] := by simp [pcs, pc]
    refine ⟨⟨((h0.t.fr f1 id).fr f2 (fun e => (HNE.out bt e).1 rfl)).fr f3 h0.ne1, ((h0.m.fr f1 id).fr f2 (fun e => (HNE.out bm e).2.2 rfl)).fr f3 h0.ne2, b3, ?_, hnn, h0.ne1, h0.ne2, h0.b1, h0.b2, h0.b3⟩, hF, fun g hg => ?_⟩
    · rw [e1, List.length_append, List.length_singleton]
      exact own_fr o2 f3 (fun g hg e => (hnn g hg).2.1 e)
    · rcases hor with e | e
      · rw [e] at hg; exact .inl hg
      · rw [e] at hg; cases hg; exact .inr hs1)
  by_cases ht : to = ⟨#[]⟩
  · have h1 : to.toList = [] := by rw [ht, ByteArray.toList_eq]
    have h3 : (!to.toList.isEmpty) = false := by rw [h1]; rfl
    have HT := hid ht
    clear ht hs
    go_enter Tryz.func87, Tryz.ntmps87
    go_wp2_with (first
      | ((with_reducible show wpList _ _ _ (⟨_, .buildSlice 39 _ _, _, _, _, _⟩ :: _) _ _); refine wpL_buildOne rfl _ 71 _ rfl ip _ rfl JI.out JZ.out (by rw [JS.out]; decide) (by rw [JS.out]; decide) _ [.string k, .string v] rfl rfl (by rw [JS.out]; rfl) ?_; intro w1 HB1 F1 HS1)
      | ((with_reducible show wpList _ _ _ (⟨_, .call { callee := .builtin .append, args := _, argTypes := _ }, _, _, _, _⟩ :: _) _ _); refine app_pr rfl _ _ rfl base _ acc.length (pcs acc) rfl (own_fr HO.out F1.out (fun _ _ e => e)) (some ⟨w.heap.size, 0, none⟩) 1 1 [.string k, .string v] rfl rfl (.inr ⟨_, rfl, HB1.out.news⟩) (by intro u hu; simp at hu; rcases hu with rfl | rfl <;> rfl) HN.out (Nat.le_trans HBS.out F1.out.size) ?_; intro a' c' w2 HO2 HG2 HA2; have HBP2 : Hid (Blk w2 bp 39 [.slice pa acc.length pcap]) := hid ((HBP.out.fr F1.out id).fr ((Fr.refl (Ob (.slice pa acc.length pcap)) w1).grown HG2.out fun k hk => .inl hk) (fun e => (HNE.out bp e).2.1 rfl)))
      | ((with_reducible show wpList _ _ _ (⟨_, .store 39 _ _, _, _, _, _⟩ :: _) _ _); refine wpL_storeV rfl _ _ _ rfl bp 0 (.slice a' (acc.length + 1) c') [.slice a' (acc.length + 1) c'] rfl rfl rfl _ _ HBP2.out (by simp) info_prs (by intro u hu; simp at hu; subst hu; rfl) ?_; intro w3 HB3 F3 HS3; have HB3' : Hid (Blk w3 bp 39 [.slice a' (acc.length + 1) c']) := hid (by have := HB3.out; simpa [spl] using this); have FIN := hid (fin.out w1 a' c' w2 w3 F1.out HO2.out HG2.out HA2.out HB3'.out F3.out); have d0 : w3.cell? ⟨bp, 0, none⟩ = some (.slice a' (acc.length + 1) c') := HB3'.out.cell 0; have d1 : w3.cell? ⟨bm, 0, none⟩ = some (.int .i64 most) := FIN.out.1.m.cell 0))
    go_ret
    exact ⟨rfl, _, FIN.out⟩
  · have h1 : ¬ (to.toList = []) := fun e => ht (toList_inj (by rw [e, ByteArray.toList_eq]))
    have h3 : (!to.toList.isEmpty) = true := by cases hl : to.toList with
      | nil => exact absurd hl h1
      | cons a r => rfl
    have hg := run_geq k to
    have hlt : (!lt k to) = false := by simpa [stopB, ht] using hs
    rw [hlt] at hg
    clear ht hs hlt
    go_enter Tryz.func87, Tryz.ntmps87
    go_wp2_with (first
      | ((with_reducible show wpList _ _ _ (⟨_, .buildSlice 39 _ _, _, _, _, _⟩ :: _) _ _); refine wpL_buildOne rfl _ 71 _ rfl ip _ rfl JI.out JZ.out (by rw [JS.out]; decide) (by rw [JS.out]; decide) _ [.string k, .string v] rfl rfl (by rw [JS.out]; rfl) ?_; intro w1 HB1 F1 HS1)
      | ((with_reducible show wpList _ _ _ (⟨_, .call { callee := .builtin .append, args := _, argTypes := _ }, _, _, _, _⟩ :: _) _ _); refine app_pr rfl _ _ rfl base _ acc.length (pcs acc) rfl (own_fr HO.out F1.out (fun _ _ e => e)) (some ⟨w.heap.size, 0, none⟩) 1 1 [.string k, .string v] rfl rfl (.inr ⟨_, rfl, HB1.out.news⟩) (by intro u hu; simp at hu; rcases hu with rfl | rfl <;> rfl) HN.out (Nat.le_trans HBS.out F1.out.size) ?_; intro a' c' w2 HO2 HG2 HA2; have HBP2 : Hid (Blk w2 bp 39 [.slice pa acc.length pcap]) := hid ((HBP.out.fr F1.out id).fr ((Fr.refl (Ob (.slice pa acc.length pcap)) w1).grown HG2.out fun k hk => .inl hk) (fun e => (HNE.out bp e).2.1 rfl)))
      | ((with_reducible show wpList _ _ _ (⟨_, .store 39 _ _, _, _, _, _⟩ :: _) _ _); refine wpL_storeV rfl _ _ _ rfl bp 0 (.slice a' (acc.length + 1) c') [.slice a' (acc.length + 1) c'] rfl rfl rfl _ _ HBP2.out (by simp) info_prs (by intro u hu; simp at hu; subst hu; rfl) ?_; intro w3 HB3 F3 HS3; have HB3' : Hid (Blk w3 bp 39 [.slice a' (acc.length + 1) c']) := hid (by have := HB3.out; simpa [spl] using this); have FIN := hid (fin.out w1 a' c' w2 w3 F1.out HO2.out HG2.out HA2.out HB3'.out F3.out); have d0 : w3.cell? ⟨bp, 0, none⟩ = some (.slice a' (acc.length + 1) c') := HB3'.out.cell 0; have d1 : w3.cell? ⟨bm, 0, none⟩ = some (.int .i64 most) := FIN.out.1.m.cell 0))
    go_ret
    exact ⟨rfl, _, FIN.out⟩
end Go.Proofs.YtflfmkokfbgclaaGreat.TR

namespace Go.Proofs.YtflfmkokfbgclaaGreat.TR
set_option maxRecDepth 100000
open Go.RowKit K

def ge (fr : S) (l : L) : L := l.filter fun x => !lt x.1 fr
theorem ge_append (fr : S) (a b : L) : ge fr (a ++ b) = ge fr a ++ ge fr b := by simp [ge]
theorem ge_lt {fr : S} {a : L} (h : AllLt a fr) : ge fr a = [] := by
  unfold ge
  rw [List.filter_eq_nil_iff]
  intro x hx
  simp [h x hx]
theorem ge_le (fr : S) (l : L) : (ge fr l).length ≤ l.length := List.length_filter_le _ _
theorem ge_drop {l : L} {fr : S} {i : Nat} (h : Part l fr i) : ge fr l = l.drop i := by
  have e := List.take_append_drop i l
  conv => lhs; rw [← e]
  rw [ge_append, ge_lt h.take, List.nil_append]
  unfold ge
  rw [List.filter_eq_self]
  intro x hx
  obtain ⟨j, hj, e2⟩ := List.mem_iff_getElem.1 hx
  rw [List.getElem_drop] at e2
  simp only [List.length_drop] at hj
  have := h.hi (i + j) x (by omega) (by rw [List.getElem?_eq_getElem (by omega), e2])
  simp [this]
def vis (bt bp bm : Nat) : Value := .func (.func 87) #[] [Value.pointer (some ⟨bt, 0, none⟩), .pointer (some ⟨bp, 0, none⟩), .pointer (some ⟨bm, 0, none⟩)].toArray
/-- What each leaves. -/
def Eaches (base bt bp bm : Nat) (to : S) (most : Int) (acc : L) (pv : Value) (l : L) (w : World) (e : Ending) (w' : World) : Prop :=
  e = .returned (.bool (runS to most acc l).1) ∧ ∃ pv', PS base bt bp bm to most (runS to most acc l).2 pv' w' ∧ Fr (Vs bp pv) w w' ∧ ∀ g, pv'.ownBlock = some g → pv.ownBlock = some g ∨ w.heap.size ≤ g
theorem PS.no {base bt bp bm : Nat} {to : S} {most : Int} {acc : L} {pv : Value} {w w' : World} (h : PS base bt bp bm to most acc pv w) (hf : Fr No w w') : PS base bt bp bm to most acc pv w' :=
  ⟨h.t.fr hf id, h.m.fr hf id, h.p.fr hf id, own_fr h.r hf (fun _ _ e => e), h.n, h.ne1, h.ne2, h.b1, h.b2, h.b3⟩
theorem own_ge {w : World} {base : Nat} {e : TypeId} {k : Nat} {v : Value} {n : Nat} {xs : List Value} (h : w.ownsRow base e k v n xs) (g : Nat) (hg : v.ownBlock = some g) : base ≤ g ∧ g < w.heap.size := by
  rcases h.2 with ⟨rfl, _⟩ | ⟨g', cap, cur, rfl, hb, h1, -⟩
  · cases hg
  · cases hg; exact ⟨hb, (Array.getElem?_eq_some_iff.1 h1).1⟩
theorem PS.vs {base bt bp bm : Nat} {to : S} {most : Int} {acc : L} {pv : Value} {w : World} (h : PS base bt bp bm to most acc pv w) : ∀ g, Vs bp pv g → base ≤ g ∧ g < w.heap.size := by
  rintro g (rfl | hg)
  · exact ⟨h.b2, h.p.lt⟩
  · exact own_ge h.r g hg
/-- What visitors one behind the other turn. -/
theorem vs_trans {bp : Nat} {pv pv1 pv2 : Value} {w w1 w2 : World} (f1 : Fr (Vs bp pv) w w1) (g1 : ∀ g, pv1.ownBlock = some g → pv.ownBlock = some g ∨ w.heap.size ≤ g) (f2 : Fr (Vs bp pv1) w1 w2) (g2 : ∀ g, pv2.ownBlock = some g → pv1.ownBlock = some g ∨ w1.heap.size ≤ g) :
    Fr (Vs bp pv) w w2 ∧ ∀ g, pv2.ownBlock = some g → pv.ownBlock = some g ∨ w.heap.size ≤ g := by
  refine ⟨f1.trans f2 (fun g hg => ?_), fun g hg => ?_⟩
  · rcases hg with hg | hg
    · exact .inl (.inl hg)
    · exact (g1 g hg).imp .inr id
  · exact (g2 g hg).elim (g1 g) (fun e => .inr (Nat.le_trans f1.size e))
theorem ent_vis (vs : Array Value) (w : World) : (callFunc 87 vs).run Tryz.prog w = .ok (.enter 87 vs) w := by kernel_rfl
theorem visit_any (base bt bp bm : Nat) (to : S) (most : Int) (acc : L) (pv : Value) (k v : S) (w : World) (h : PS base bt bp bm to most acc pv w) (hn : acc.length + 1 ≤ 4398046511104) (hbs : base ≤ w.heap.size) :
    Calls Tryz.prog 87 #[.string k, .string v, .pointer (some ⟨bt, 0, none⟩), .pointer (some ⟨bp, 0, none⟩), .pointer (some ⟨bm, 0, none⟩)] w fun e w' => ∃ (b : Bool) (acc' : L) (pv' : Value), e = .returned (.bool b) ∧ PS base bt bp bm to most acc' pv' w' ∧ Fr (Vs bp pv) w w' ∧ (∀ g, pv'.ownBlock = some g → pv.ownBlock = some g ∨ w.heap.size ≤ g) ∧
      (∀ r, runS to most acc ((k, v) :: r) = if b then runS to most acc' r else (false, acc')) ∧ acc'.length ≤ acc.length + 1 := by
  by_cases hs : stopB to k = true
  · refine (visit_stop base bt bp bm to most acc pv k v w h hs).mono ?_
    rintro e w' ⟨rfl, rfl⟩
    exact ⟨false, acc, pv, rfl, h, Fr.refl _ _, fun g hg => .inl hg, fun r => by simp [runS, hs], by omega⟩
  · have hs' : stopB to k = false := by simpa using hs
    refine (visit_go base bt bp bm to most acc pv k v w h hs' hn hbs).mono ?_
    rintro e w' ⟨rfl, pv', h2, h3, h4⟩
    refine ⟨_, _, pv', rfl, h2, h3, h4, fun r => ?_, by simp⟩
    simp [runS, hs']
set_option maxHeartbeats 4000000 in
theorem each_leaf (base : Nat) (t : PT 0) (bt bp bm : Nat) (to fr : S) (most : Int) (acc : L) (pv : Value) (w : World) (hr : Rep w 0 t) (hf : Fine 0 t) (hlt : ∀ g, fp 0 t g → g < base) (hp : PS base bt bp bm to most acc pv w) (hn : acc.length + (flat 0 t).length ≤ 4398046511104) :
    Calls Tryz.prog 86 #[val 0 t, .string fr, vis bt bp bm] w (Eaches base bt bp bm to most acc pv (ge fr (flat 0 t)) w) := by
  obtain ⟨lo, hi, hok⟩ := hf.ok
  have HR := hid hr; have HOK := hid hok; have HP := hid hp; have HN : Hid (acc.length + t.l.length ≤ 4398046511104) := hid (by rwa [flat_zero] at hn); have HLN := hid hf.len; have HLT := hid hlt
  clear hr hf hp hn hok hlt
  show Calls Tryz.prog _ #[.agg #[.pointer (some ⟨t.b, 0, none⟩), .pointer none], .string fr, .func (.func 87) #[] [Value.pointer (some ⟨bt, 0, none⟩), .pointer (some ⟨bp, 0, none⟩), .pointer (some ⟨bm, 0, none⟩)].toArray] w _
  go_enter Tryz.func86, Tryz.ntmps86
  go_wp2_with ((with_reducible show wpList _ _ _ (⟨_, .box 134 _, _, _, _, _⟩ :: _) _ _); refine wpL_box rfl _ _ rfl _ rfl [.pointer (some ⟨t.b, 0, none⟩), .pointer none] rfl ?_; intro w1 HB1 F1 HS1; have c0 : w1.cell? ⟨w.heap.size, 0, none⟩ = some (.pointer (some ⟨t.b, 0, none⟩)) := HB1.out.cell 0)
  have HR1 : Hid (Rep w1 0 t) := hid (HR.out.no F1.out)
  refine (position_any w1 t.b _ _ (keys t.l) (cells t.l) fr HR1.out.nd HOK.out.rises (by rw [keys_length]; have := HLN.out; omega)).mono ?_
  rintro e w2 ⟨i, rfl, hpk, f2⟩
  have hpt := leaf_part hpk
  have HGE : Hid (ge fr (flat 0 t) = (flat 0 t).drop i) := hid (by rw [flat_zero]; exact ge_drop hpt)
  have HIL : Hid (i ≤ t.l.length) := hid hpt.le
  have F2 : Hid (Fr No w w2) := hid (F1.out.trans' f2)
  have HB2 : Hid (Blk w2 w.heap.size 134 [.pointer (some ⟨t.b, 0, none⟩), .pointer none]) := hid (HB1.out.fr f2 id)
  have HR2 : Hid (Rep w2 0 t) := hid (HR1.out.no f2)
  have HP2 : Hid (PS base bt bp bm to most acc pv w2) := hid (HP.out.no F2.out)
  have HNB : Hid (¬ Vs bp pv w.heap.size) := hid (fun e => by have := HP.out.vs _ e; omega)
  have HBW : Hid (base ≤ w.heap.size) := hid (by have := HP.out.b1; have := HP.out.t.lt; omega)
  clear hpk hpt f2 c0
  have HVR : Hid (∀ wr, Fr (Vs bp pv) w2 wr → Rep wr 0 t) := hid (fun wr hf => HR2.out.fr hf (fun g hg e => by have := HLT.out g hg; have := (HP2.out.vs g e).1; omega))
  have HIL2 : (i : Int) ≤ (t.l.length : Int) := by have := HIL.out; omega
  have hlm : t.l.length ≤ 8796093021000 := HLN.out
  go_wp2_with fail
  go_loopw [9] (fun q wr => ∃ (j : Nat) (acc' : L) (pv' : Value), q = .int .i64 j ∧ j ≤ t.l.length ∧ Hid (PS base bt bp bm to most acc' pv' wr) ∧ Hid (Fr (Vs bp pv) w2 wr) ∧ Hid (∀ g, pv'.ownBlock = some g → pv.ownBlock = some g ∨ w2.heap.size ≤ g) ∧ Hid (runS to most acc ((flat 0 t).drop i) = runS to most acc' ((flat 0 t).drop j)) ∧ Hid (acc'.length + (t.l.length - j) ≤ 4398046511104)) (fun q _ => t.l.length - (intOf q).toNat)
  case atStart => exact ⟨i, acc, pv, rfl, HIL.out, HP2, hid (Fr.refl _ _), hid (fun g hg => .inl hg), hid rfl, hid (by have := HN.out; omega)⟩
  case round =>
    obtain ⟨j, acc', pv', rfl, hjl, HPr, HFr, HGr, HRun, HAc⟩ := hrel
    have HRr : Hid (Rep wr 0 t) := hid (HVR.out wr HFr.out)
    have HBr : Hid (Blk wr w.heap.size 134 [.pointer (some ⟨t.b, 0, none⟩), .pointer none]) := hid (HB2.out.fr HFr.out HNB.out)
    have c0 : wr.cell? ⟨w.heap.size, 0, none⟩ = some (.pointer (some ⟨t.b, 0, none⟩)) := HBr.out.cell 0
    go_wp2_with fail
    refine (size_s wr t.b _ _ (keys t.l) (cells t.l) HRr.out.nd).mono ?_
    rintro e w3 ⟨rfl, rfl⟩
    rw [keys_length]
    have FIN : Hid (∀ (b : Bool) (acc2 : L) (pv2 : Value) (w4 : World), runS to most acc ((flat 0 t).drop i) = (b, acc2) → PS base bt bp bm to most acc2 pv2 w4 → Fr (Vs bp pv) w2 w4 → (∀ g, pv2.ownBlock = some g → pv.ownBlock = some g ∨ w2.heap.size ≤ g) → Eaches base bt bp bm to most acc pv (ge fr (flat 0 t)) w (.returned (.bool b)) w4) := hid (fun b acc2 pv2 w4 h1 h2 h3 h4 => by
      unfold Eaches
      rw [HGE.out]
      refine ⟨by rw [h1], pv2, by rw [h1]; exact h2, F2.out.no.trans' h3, fun g hg => (h4 g hg).imp id (fun e => Nat.le_trans F2.out.size e)⟩)
    by_cases hlt : j < t.l.length
    · have hlt' : (j : Int) < (t.l.length : Int) := by omega
      obtain ⟨gk, ck, hkv, hkc⟩ := own_text HRr.out.nd.rk (by rw [keys_length]; omega)
      rw [keys_length] at hkv
      obtain ⟨⟨kk, vv⟩, hx⟩ : ∃ x, t.l[j]? = some x := ⟨_, List.getElem?_eq_getElem hlt⟩
      have hrc := HRr.out.nd.rc
      rw [keys_length] at hrc
      obtain ⟨gc, cc, cur, hcv, hB, -, -, -, hc4⟩ := own_open hrc (by omega)
      have c1 : wr.cell? ⟨t.b, 0, none⟩ = some (.slice (some ⟨gk, 0, none⟩) t.l.length ck) := by rw [← hkv]; exact HRr.out.nd.blk.cell 0
      have c2 : wr.cell? ⟨gk, j, none⟩ = some (.string kk) := hkc j kk (keys_get (d := 0) hx)
      have c3 : wr.cell? ⟨t.b, 1, none⟩ = some (.slice (some ⟨gc, 0, none⟩) t.l.length cc) := by rw [← hcv]; exact HRr.out.nd.blk.cell 1
      have c4 : wr.cell? ⟨gc, j, none⟩ = some (.string (vv : S)) := by
        rw [hB.cell]
        have h5 : (cells t.l)[j]? = some (Value.string (vv : S)) := by rw [leaf_cells, List.getElem?_map, hx]; rfl
        rw [← hc4, List.getElem?_take] at h5
        split at h5
        · exact h5
        · cases h5
      have HDR : Hid ((flat 0 t).drop j = (kk, (vv : S)) :: (flat 0 t).drop (j + 1)) := hid (by
        obtain ⟨h1, h2⟩ := List.getElem?_eq_some_iff.1 hx
        have h3 : t.l.drop j = (kk, vv) :: t.l.drop (j + 1) := by rw [List.drop_eq_getElem_cons h1, h2]
        rw [flat_zero]; exact h3)
      have hw1 : (j : Int) + 1 ≤ 8796093021001 := by omega
      clear hkv hkc hrc hcv hB hc4 hx
      go_wp2_with fail
      have hold : Facts.hold [(2, fun w' => w'.cell? ⟨w.heap.size, 0, none⟩ = some (.pointer (some ⟨t.b, 0, none⟩))), (5, fun w' => w'.cell? ⟨t.b, 0, none⟩ = some (.slice (some ⟨gk, 0, none⟩) t.l.length ck)), (8, fun w' => w'.cell? ⟨gk, j, none⟩ = some (.string kk)), (10, fun w' => w'.cell? ⟨w.heap.size, 0, none⟩ = some (.pointer (some ⟨t.b, 0, none⟩))), (13, fun w' => w'.cell? ⟨t.b, 1, none⟩ = some (.slice (some ⟨gc, 0, none⟩) t.l.length cc)), (16, fun w' => w'.cell? ⟨gc, j, none⟩ = some (.string (vv : S)))] wr.drew :=
        Facts.cons_hold c0 (Facts.cons_hold c1 (Facts.cons_hold c2 (Facts.cons_hold c0 (Facts.cons_hold c3 (Facts.cons_hold c4 (Facts.nil_hold _))))))
      refine wpD_region hold (by kernel_rfl) 19 rfl ?_
      (refine wpD_plain 0 (v := ?_) rfl (by kernel_rfl) (by kernel_rfl) (by kernel_rfl) (fun _ _ _ h => h) (by rfl) ?_ (by assumption) ?_; rotate_left; (intro _w; go_simp; try with_reducible rfl); simp only [Act.put, List.setIfInBounds_toArray, List.set_cons_zero, List.set_cons_succ])
      (refine wpD_plain 1 (v := ?_) rfl (by kernel_rfl) (by kernel_rfl) (by kernel_rfl) (fun _ _ _ h => h) (by rfl) ?_ (by assumption) ?_; rotate_left; (intro _w; go_simp; try with_reducible rfl); simp only [Act.put, List.setIfInBounds_toArray, List.set_cons_zero, List.set_cons_succ])
      (refine wpD_take 2 _ rfl (by kernel_rfl) (by kernel_rfl) (by kernel_rfl) (fun _ _ _ h => h) List.mem_cons_self (by rfl) (v := ?_) ?_ (by assumption) ?_; rotate_left; (intro _w _hw; go_simp; try with_reducible rfl); simp only [Act.put, List.setIfInBounds_toArray, List.set_cons_zero, List.set_cons_succ])
      (refine wpD_plain 3 (v := ?_) rfl (by kernel_rfl) (by kernel_rfl) (by kernel_rfl) (fun _ _ _ h => h) (by rfl) ?_ (by assumption) ?_; rotate_left; (intro _w; go_simp; try with_reducible rfl); simp only [Act.put, List.setIfInBounds_toArray, List.set_cons_zero, List.set_cons_succ])
      (refine wpD_plain 4 (v := ?_) rfl (by kernel_rfl) (by kernel_rfl) (by kernel_rfl) (fun _ _ _ h => h) (by rfl) ?_ (by assumption) ?_; rotate_left; (intro _w; go_simp; try with_reducible rfl); simp only [Act.put, List.setIfInBounds_toArray, List.set_cons_zero, List.set_cons_succ])
      (refine wpD_take 5 _ rfl (by kernel_rfl) (by kernel_rfl) (by kernel_rfl) (fun _ _ _ h => h) (List.mem_cons_of_mem _ List.mem_cons_self) (by rfl) (v := ?_) ?_ (by assumption) ?_; rotate_left; (intro _w _hw; go_simp; try with_reducible rfl); simp only [Act.put, List.setIfInBounds_toArray, List.set_cons_zero, List.set_cons_succ])
      (refine wpD_plain 6 (v := ?_) rfl (by kernel_rfl) (by kernel_rfl) (by kernel_rfl) (fun _ _ _ h => h) (by rfl) ?_ (by assumption) ?_; rotate_left; (intro _w; go_simp; try with_reducible rfl); simp only [Act.put, List.setIfInBounds_toArray, List.set_cons_zero, List.set_cons_succ])
      (refine wpD_plain 7 (v := ?_) rfl (by kernel_rfl) (by kernel_rfl) (by kernel_rfl) (fun _ _ _ h => h) (by rfl) ?_ (by assumption) ?_; rotate_left; (intro _w; go_simp; try with_reducible rfl); simp only [Act.put, List.setIfInBounds_toArray, List.set_cons_zero, List.set_cons_succ])
      (refine wpD_take 8 _ rfl (by kernel_rfl) (by kernel_rfl) (by kernel_rfl) (fun _ _ _ h => h) (List.mem_cons_of_mem _ (List.mem_cons_of_mem _ List.mem_cons_self)) (by rfl) (v := ?_) ?_ (by assumption) ?_; rotate_left; (intro _w _hw; go_simp; try with_reducible rfl); simp only [Act.put, List.setIfInBounds_toArray, List.set_cons_zero, List.set_cons_succ])
      (refine wpD_plain 9 (v := ?_) rfl (by kernel_rfl) (by kernel_rfl) (by kernel_rfl) (fun _ _ _ h => h) (by rfl) ?_ (by assumption) ?_; rotate_left; (intro _w; go_simp; try with_reducible rfl); simp only [Act.put, List.setIfInBounds_toArray, List.set_cons_zero, List.set_cons_succ])
      (refine wpD_take 10 _ rfl (by kernel_rfl) (by kernel_rfl) (by kernel_rfl) (fun _ _ _ h => h) (List.mem_cons_of_mem _ (List.mem_cons_of_mem _ (List.mem_cons_of_mem _ List.mem_cons_self))) (by rfl) (v := ?_) ?_ (by assumption) ?_; rotate_left; (intro _w _hw; go_simp; try with_reducible rfl); simp only [Act.put, List.setIfInBounds_toArray, List.set_cons_zero, List.set_cons_succ])
      (refine wpD_plain 11 (v := ?_) rfl (by kernel_rfl) (by kernel_rfl) (by kernel_rfl) (fun _ _ _ h => h) (by rfl) ?_ (by assumption) ?_; rotate_left; (intro _w; go_simp; try with_reducible rfl); simp only [Act.put, List.setIfInBounds_toArray, List.set_cons_zero, List.set_cons_succ])
      (refine wpD_plain 12 (v := ?_) rfl (by kernel_rfl) (by kernel_rfl) (by kernel_rfl) (fun _ _ _ h => h) (by rfl) ?_ (by assumption) ?_; rotate_left; (intro _w; go_simp; try with_reducible rfl); simp only [Act.put, List.setIfInBounds_toArray, List.set_cons_zero, List.set_cons_succ])
      (refine wpD_take 13 _ rfl (by kernel_rfl) (by kernel_rfl) (by kernel_rfl) (fun _ _ _ h => h) (List.mem_cons_of_mem _ (List.mem_cons_of_mem _ (List.mem_cons_of_mem _ (List.mem_cons_of_mem _ List.mem_cons_self)))) (by rfl) (v := ?_) ?_ (by assumption) ?_; rotate_left; (intro _w _hw; go_simp; try with_reducible rfl); simp only [Act.put, List.setIfInBounds_toArray, List.set_cons_zero, List.set_cons_succ])
      (refine wpD_plain 14 (v := ?_) rfl (by kernel_rfl) (by kernel_rfl) (by kernel_rfl) (fun _ _ _ h => h) (by rfl) ?_ (by assumption) ?_; rotate_left; (intro _w; go_simp; try with_reducible rfl); simp only [Act.put, List.setIfInBounds_toArray, List.set_cons_zero, List.set_cons_succ])
      (refine wpD_plain 15 (v := ?_) rfl (by kernel_rfl) (by kernel_rfl) (by kernel_rfl) (fun _ _ _ h => h) (by rfl) ?_ (by assumption) ?_; rotate_left; (intro _w; go_simp; try with_reducible rfl); simp only [Act.put, List.setIfInBounds_toArray, List.set_cons_zero, List.set_cons_succ])
      (refine wpD_take 16 _ rfl (by kernel_rfl) (by kernel_rfl) (by kernel_rfl) (fun _ _ _ h => h) (List.mem_cons_of_mem _ (List.mem_cons_of_mem _ (List.mem_cons_of_mem _ (List.mem_cons_of_mem _ (List.mem_cons_of_mem _ List.mem_cons_self))))) (by rfl) (v := ?_) ?_ (by assumption) ?_; rotate_left; (intro _w _hw; go_simp; try with_reducible rfl); simp only [Act.put, List.setIfInBounds_toArray, List.set_cons_zero, List.set_cons_succ])
      clear hold
      refine wpD_only 17 [(2, fun w' => w'.cell? ⟨w.heap.size, 0, none⟩ = some (.pointer (some ⟨t.b, 0, none⟩))), (5, fun w' => w'.cell? ⟨t.b, 0, none⟩ = some (.slice (some ⟨gk, 0, none⟩) t.l.length ck)), (10, fun w' => w'.cell? ⟨w.heap.size, 0, none⟩ = some (.pointer (some ⟨t.b, 0, none⟩))), (13, fun w' => w'.cell? ⟨t.b, 1, none⟩ = some (.slice (some ⟨gc, 0, none⟩) t.l.length cc))] rfl (by kernel_rfl) (by kernel_rfl) (by rfl) (fun K17 hK17 => ?_)
      refine wp_call (.tmp 49) _ _ rfl 87 [.pointer (some ⟨bt, 0, none⟩), .pointer (some ⟨bp, 0, none⟩), .pointer (some ⟨bm, 0, none⟩)] rfl ent_vis [.string kk, .string (vv : S), .pointer (some ⟨bt, 0, none⟩), .pointer (some ⟨bp, 0, none⟩), .pointer (some ⟨bm, 0, none⟩)] (by rfl) ?_
      refine (visit_any base bt bp bm to most acc' pv' kk vv wr.drew (HPr.out.no (Fr.refl No wr).drew) (by have := HAc.out; omega) (by have h1 := HFr.out.size; have h2 := F2.out.size; have h3 : wr.drew.heap.size = wr.heap.size := rfl; have := HBW.out; omega)).mono ?_
      rintro e w4 ⟨b, acc2, pv2, rfl, hps, f4, g4, hrn, hal⟩
      have hvt := vs_trans HFr.out HGr.out ((Fr.refl _ wr).drew.trans' f4) g4
      have HP4 := hid hps; have HF4 := hid hvt.1; have HG4 := hid hvt.2
      have HRr4 : Hid (Rep w4 0 t) := hid (HVR.out w4 hvt.1)
      have HB4 : Hid (Blk w4 w.heap.size 134 [.pointer (some ⟨t.b, 0, none⟩), .pointer none]) := hid (HB2.out.fr hvt.1 HNB.out)
      have hxo : ∀ o v, wr.cell? ⟨t.b, o, none⟩ = some v → w4.cell? ⟨t.b, o, none⟩ = some v := fun o v hc => f4.cell (w := wr.drew) hc (fun e => by
        have h1 := HLT.out t.b (own_fp (.inl rfl)); have h2 := (HPr.out.vs t.b e).1; omega)
      have hold : Facts.hold [(2, fun w' => w'.cell? ⟨w.heap.size, 0, none⟩ = some (.pointer (some ⟨t.b, 0, none⟩))), (5, fun w' => w'.cell? ⟨t.b, 0, none⟩ = some (.slice (some ⟨gk, 0, none⟩) t.l.length ck)), (10, fun w' => w'.cell? ⟨w.heap.size, 0, none⟩ = some (.pointer (some ⟨t.b, 0, none⟩))), (13, fun w' => w'.cell? ⟨t.b, 1, none⟩ = some (.slice (some ⟨gc, 0, none⟩) t.l.length cc))] w4 :=
        Facts.cons_hold (HB4.out.cell 0) (Facts.cons_hold (hxo 0 _ c1) (Facts.cons_hold (HB4.out.cell 0) (Facts.cons_hold (hxo 1 _ c3) (Facts.nil_hold _))))
      have HRN : Hid (runS to most acc ((flat 0 t).drop i) = if b then runS to most acc2 ((flat 0 t).drop (j + 1)) else (false, acc2)) := hid (by rw [HRun.out, HDR.out]; exact hrn _)
      have HAL := hid hal
      refine ⟨_, rfl, hK17 _ _ hold ?_⟩
      clear hK17 K17 hps f4 g4 hrn hal hvt hxo
      simp only [Act.put, List.setIfInBounds_toArray, List.set_cons_zero, List.set_cons_succ]
      cases b
      · (refine wpD_plain 18 (v := ?_) rfl (by kernel_rfl) (by kernel_rfl) (by kernel_rfl) (fun _ _ _ h => h) (by rfl) ?_ (by assumption) ?_; rotate_left; (intro _w; go_simp; try with_reducible rfl); simp only [Act.put, List.setIfInBounds_toArray, List.set_cons_zero, List.set_cons_succ])
        refine wpD_done (by kernel_rfl) ?_ _
        clear hold c0 c1 c2 c3 c4
        go_wp2
        go_ret
        exact FIN.out false acc2 pv2 w4 (by have := HRN.out; simpa using this) HP4.out HF4.out HG4.out
      · (refine wpD_plain 18 (v := ?_) rfl (by kernel_rfl) (by kernel_rfl) (by kernel_rfl) (fun _ _ _ h => h) (by rfl) ?_ (by assumption) ?_; rotate_left; (intro _w; go_simp; try with_reducible rfl); simp only [Act.put, List.setIfInBounds_toArray, List.set_cons_zero, List.set_cons_succ])
        refine wpD_done (by kernel_rfl) ?_ _
        clear hold c0 c1 c2 c3 c4
        go_wp2
        exact ⟨⟨j + 1, acc2, pv2, by go_num, hlt, HP4, HF4, HG4, hid (by have := HRN.out; simpa using this), hid (by have := HAL.out; have := HAc.out; omega)⟩, by simp [intOf]; omega⟩
    · have hlt' : ¬ ((j : Int) < (t.l.length : Int)) := by omega
      have hje : (flat 0 t).drop j = [] := by
        have h5 : t.l.drop j = [] := List.drop_eq_nil_of_le (by omega)
        rw [flat_zero]; exact h5
      have HJE := hid hje
      clear hje
      go_wp2
      go_ret
      have hr := HRun.out
      rw [HJE.out] at hr
      exact FIN.out true acc' pv' wr hr HPr.out HFr.out HGr.out
end Go.Proofs.YtflfmkokfbgclaaGreat.TR

namespace Go.Proofs.YtflfmkokfbgclaaGreat.TR
set_option maxRecDepth 100000
open Go.RowKit K

theorem flats_len_cons (d : Nat) (k : S) (y : PT d) (R : List (S × Kid (d + 1))) : (flats (d + 1) ((k, up y) :: R)).length = (flat d y).length + (flats (d + 1) R).length := by
  rw [flats_cons, List.length_append]; rfl
set_option maxHeartbeats 4000000 in
theorem each_any : ∀ (d : Nat) (base : Nat) (t : PT d) (bt bp bm : Nat) (to fr : S) (most : Int) (acc : L) (pv : Value) (w : World), Rep w d t → Fine d t → (∀ g, fp d t g → g < base) → PS base bt bp bm to most acc pv w → acc.length + (flat d t).length ≤ 4398046511104 →
    Calls Tryz.prog 86 #[val d t, .string fr, vis bt bp bm] w (Eaches base bt bp bm to most acc pv (ge fr (flat d t)) w) := by
  intro d
  induction d with
  | zero => exact fun base t bt bp bm to fr most acc pv w hr hf hlt hp hn => each_leaf base t bt bp bm to fr most acc pv w hr hf hlt hp hn
  | succ d ih =>
    intro base t bt bp bm to fr most acc pv w hr hf hlt hp hn
    obtain ⟨lo, hi, hok⟩ := hf.ok
    have hpos : 1 ≤ t.l.length := hf.two.elim (fun e => by cases e) id
    have HIH := hid ih; have HR := hid hr; have HOK := hid hok; have HP := hid hp; have HN := hid hn; have HF := hid hf; have HLT := hid hlt; have HPS := hid hpos
    have hlm : t.l.length ≤ 8796093021000 := hf.len
    clear ih hr hf hp hn hok hlt hpos
    show Calls Tryz.prog _ #[.agg #[.pointer none, .pointer (some ⟨t.b, 0, none⟩)], .string fr, .func (.func 87) #[] [Value.pointer (some ⟨bt, 0, none⟩), .pointer (some ⟨bp, 0, none⟩), .pointer (some ⟨bm, 0, none⟩)].toArray] w _
    go_enter Tryz.func86, Tryz.ntmps86
    go_wp2_with ((with_reducible show wpList _ _ _ (⟨_, .box 134 _, _, _, _, _⟩ :: _) _ _); refine wpL_box rfl _ _ rfl _ rfl [.pointer none, .pointer (some ⟨t.b, 0, none⟩)] rfl ?_; intro w1 HB1 F1 HS1; have c0 : w1.cell? ⟨w.heap.size, 0, none⟩ = some (.pointer none) := HB1.out.cell 0; have c1 : w1.cell? ⟨w.heap.size, 1, none⟩ = some (.pointer (some ⟨t.b, 0, none⟩)) := HB1.out.cell 1)
    have HR1 : Hid (Rep w1 (d + 1) t) := hid (HR.out.no F1.out)
    obtain ⟨gc, cc, hcv, hc1, hcc1, hcc2, hog, hrange⟩ := node_open HR1.out HPS.out
    have HC1 := hid hcc1
    have HRG := hid hrange
    have HOG := hid hog
    clear hcv hrange hog
    unfold maxLen at hcc2
    go_wp2_with fail
    have hold : Facts.hold [(1, fun w' => w'.cell? ⟨w.heap.size, 1, none⟩ = some (.pointer (some ⟨t.b, 0, none⟩))), (4, fun w' => w'.cell? ⟨t.b, 1, none⟩ = some (.slice (some ⟨gc, 0, none⟩) t.l.length cc)), (6, fun w' => w'.cell? ⟨w.heap.size, 1, none⟩ = some (.pointer (some ⟨t.b, 0, none⟩)))] w1.drew := Facts.cons_hold c1 (Facts.cons_hold hc1 (Facts.cons_hold c1 (Facts.nil_hold _)))
    refine wpD_region hold (by kernel_rfl) 12 rfl ?_
    (refine wpD_plain 0 (v := ?_) rfl (by kernel_rfl) (by kernel_rfl) (by kernel_rfl) (fun _ _ _ h => h) (by rfl) ?_ (by assumption) ?_; rotate_left; (intro _w; go_simp; try with_reducible rfl); simp only [Act.put, List.setIfInBounds_toArray, List.set_cons_zero, List.set_cons_succ])
    (refine wpD_take 1 _ rfl (by kernel_rfl) (by kernel_rfl) (by kernel_rfl) (fun _ _ _ h => h) List.mem_cons_self (by rfl) (v := ?_) ?_ (by assumption) ?_; rotate_left; (intro _w _hw; go_simp; try with_reducible rfl); simp only [Act.put, List.setIfInBounds_toArray, List.set_cons_zero, List.set_cons_succ])
    (refine wpD_plain 2 (v := ?_) rfl (by kernel_rfl) (by kernel_rfl) (by kernel_rfl) (fun _ _ _ h => h) (by rfl) ?_ (by assumption) ?_; rotate_left; (intro _w; go_simp; try with_reducible rfl); simp only [Act.put, List.setIfInBounds_toArray, List.set_cons_zero, List.set_cons_succ])
    (refine wpD_plain 3 (v := ?_) rfl (by kernel_rfl) (by kernel_rfl) (by kernel_rfl) (fun _ _ _ h => h) (by rfl) ?_ (by assumption) ?_; rotate_left; (intro _w; go_simp; try with_reducible rfl); simp only [Act.put, List.setIfInBounds_toArray, List.set_cons_zero, List.set_cons_succ])
    (refine wpD_take 4 _ rfl (by kernel_rfl) (by kernel_rfl) (by kernel_rfl) (fun _ _ _ h => h) (List.mem_cons_of_mem _ List.mem_cons_self) (by rfl) (v := ?_) ?_ (by assumption) ?_; rotate_left; (intro _w _hw; go_simp; try with_reducible rfl); simp only [Act.put, List.setIfInBounds_toArray, List.set_cons_zero, List.set_cons_succ])
    (refine wpD_plain 5 (v := ?_) rfl (by kernel_rfl) (by kernel_rfl) (by kernel_rfl) (fun _ _ _ h => h) (by rfl) ?_ (by assumption) ?_; rotate_left; (intro _w; go_simp; try with_reducible rfl); simp only [Act.put, List.setIfInBounds_toArray, List.set_cons_zero, List.set_cons_succ])
    (refine wpD_take 6 _ rfl (by kernel_rfl) (by kernel_rfl) (by kernel_rfl) (fun _ _ _ h => h) (List.mem_cons_of_mem _ (List.mem_cons_of_mem _ List.mem_cons_self)) (by rfl) (v := ?_) ?_ (by assumption) ?_; rotate_left; (intro _w _hw; go_simp; try with_reducible rfl); simp only [Act.put, List.setIfInBounds_toArray, List.set_cons_zero, List.set_cons_succ])
    (refine wpD_plain 7 (v := ?_) rfl (by kernel_rfl) (by kernel_rfl) (by kernel_rfl) (fun _ _ _ h => h) (by rfl) ?_ (by assumption) ?_; rotate_left; (intro _w; go_simp; try with_reducible rfl); simp only [Act.put, List.setIfInBounds_toArray, List.set_cons_zero, List.set_cons_succ])
    (refine wpD_plain 11 (v := ?_) rfl (by kernel_rfl) (by kernel_rfl) (by kernel_rfl) (fun _ _ _ h => h) (by rfl) ?_ (by assumption) ?_; rotate_left; (intro _w; go_simp; try with_reducible rfl); simp only [Act.put, List.setIfInBounds_toArray, List.set_cons_zero, List.set_cons_succ])
    clear hold
    refine wpD_only 8 [(1, fun w' => w'.cell? ⟨w.heap.size, 1, none⟩ = some (.pointer (some ⟨t.b, 0, none⟩))), (4, fun w' => w'.cell? ⟨t.b, 1, none⟩ = some (.slice (some ⟨gc, 0, none⟩) t.l.length cc))] rfl (by kernel_rfl) (by kernel_rfl) (by rfl) (fun K8 hK8 => ?_)
    refine wp_call (.func 98) _ _ rfl 98 [] rfl (fun vs w => by kernel_rfl) [.pointer (some ⟨t.b, 0, none⟩), .string fr] (by rfl) ?_
    refine (holding_any w1.drew t.b _ _ (keys t.l) (cells t.l) fr (HR1.out.no (Fr.refl No w1).drew).nd HOK.out.rises (by rw [keys_length]; have := HPS.out; omega) (by rw [keys_length]; omega)).mono ?_
    rintro e w2 ⟨j, rfl, hjk, f2⟩
    have hf2 : Fr No w1 w2 := (Fr.refl No w1).drew.trans' f2
    obtain ⟨A, k, (x : PT d), B, hl, hAj, hA, hB, hcA, hokx, hbk, hcB, hklo, hkhi⟩ := hold_split HOK.out hjk
    have HL : Hid (t.l = A ++ (k, up (d := d) x) :: B) := hid hl
    have HAJ := hid hAj
    have HGE : Hid (ge fr (flat (d + 1) t) = ge fr (flats (d + 1) ((k, up (d := d) x) :: B))) := hid (by
      rw [flat_of HL.out, flats_append, ge_append, ge_lt hA, List.nil_append])
    have HFN : Hid (acc.length + (flats (d + 1) ((k, up (d := d) x) :: B)).length ≤ 4398046511104) := hid (by
      have := HN.out
      rw [flat_of HL.out, flats_append, List.length_append] at this
      omega)
    have hjt : j < t.l.length := by rw [hl, ← hAj]; simp
    have hjm : (j : Int) < (t.l.length : Int) := by omega
    have hjm2 : (j : Int) ≤ (t.l.length : Int) := by omega
    have hjc : ¬ (cc = j) := by omega
    have hjle : j ≤ t.l.length := by omega
    have HJT := hid hjt
    have F2 : Hid (Fr No w w2) := hid (F1.out.trans' hf2)
    have hold : Facts.hold [(1, fun w' => w'.cell? ⟨w.heap.size, 1, none⟩ = some (.pointer (some ⟨t.b, 0, none⟩))), (4, fun w' => w'.cell? ⟨t.b, 1, none⟩ = some (.slice (some ⟨gc, 0, none⟩) t.l.length cc))] w2 := Facts.cons_hold (hf2.cell c1 id) (Facts.cons_hold (hf2.cell hc1 id) (Facts.nil_hold _))
    have HRG2 : Hid (∀ A k x B, t.l = A ++ (k, up (d := d) x) :: B → w2.rangeAt gc (A.length * 2) (ptr d x)) := hid (fun A k x B e => hf2.range (HRG.out A k x B e) id)
    refine ⟨_, rfl, hK8 _ _ hold ?_⟩
    clear hjk hl hAj hA hB hcA hokx hbk hcB hklo hkhi f2 hf2 hK8 K8 HRG c0 c1 hc1
    simp only [Act.put, List.setIfInBounds_toArray, List.set_cons_zero, List.set_cons_succ]
    (refine wpD_plain 9 (v := (.slice (some ⟨gc, j * 2, none⟩) (t.l.length - j) (cc - j))) rfl (by kernel_rfl) (by kernel_rfl) (by kernel_rfl) (fun _ _ _ h => h) (by rfl) ?_ (by assumption) ?_; (intro _w; go_simp; skip); simp only [Act.put, List.setIfInBounds_toArray, List.set_cons_zero, List.set_cons_succ])
    (refine wpD_plain 10 (v := ?_) rfl (by kernel_rfl) (by kernel_rfl) (by kernel_rfl) (fun _ _ _ h => h) (by rfl) ?_ (by assumption) ?_; rotate_left; (intro _w; go_simp; try with_reducible rfl); simp only [Act.put, List.setIfInBounds_toArray, List.set_cons_zero, List.set_cons_succ])
    refine wpD_done (by kernel_rfl) ?_ _
    clear hold
    have HR2 : Hid (Rep w2 (d + 1) t) := hid (HR.out.no F2.out)
    have HP2 : Hid (PS base bt bp bm to most acc pv w2) := hid (HP.out.no F2.out)
    have HVR : Hid (∀ wr, Fr (Vs bp pv) w2 wr → Rep wr (d + 1) t ∧ ∀ A k x B, t.l = A ++ (k, up (d := d) x) :: B → wr.rangeAt gc (A.length * 2) (ptr d x)) := hid (fun wr hf => ⟨HR2.out.fr hf (fun g hg e => by have := HLT.out g hg; have := (HP2.out.vs g e).1; omega), fun A k x B e => hf.range (HRG2.out A k x B e) (fun e2 => by have := HLT.out gc (own_fp HOG.out); have := (HP2.out.vs gc e2).1; omega)⟩)
    have HBW : Hid (base ≤ w2.heap.size) := hid (by have := HP2.out.b1; have := HP2.out.t.lt; omega)
    have HW2 := F2.out.size
    have hnj : t.l.length - j ≤ 8796093021000 := by omega
    have hmj : ((t.l.length - j : Nat) : Int) = (t.l.length : Int) - j := by omega
    generalize hm : t.l.length - j = m at *
    have HM := hid hm
    have HMJ := hid hmj
    clear hm hmj
    go_wp2_with fail
    go_loopw [25] (fun q wr => ∃ (N R : List (S × Kid (d + 1))) (acc' : L) (pv' : Value), q = .int .i64 N.length ∧ Hid ((k, up (d := d) x) :: B = N ++ R) ∧ Hid (PS base bt bp bm to most acc' pv' wr) ∧ Hid (Fr (Vs bp pv) w2 wr) ∧ Hid (∀ g, pv'.ownBlock = some g → pv.ownBlock = some g ∨ w2.heap.size ≤ g) ∧ Hid (runS to most acc (ge fr (flat (d + 1) t)) = runS to most acc' (ge fr (flats (d + 1) R))) ∧ Hid (acc'.length + (flats (d + 1) R).length ≤ 4398046511104)) (fun q _ => m - (intOf q).toNat)
    case atStart => exact ⟨[], (k, up (d := d) x) :: B, acc, pv, rfl, hid rfl, HP2, hid (Fr.refl _ _), hid (fun g hg => .inl hg), hid (by rw [HGE.out]), HFN⟩
    case round =>
      obtain ⟨N, R, acc', pv', rfl, HNR, HPr, HFr, HGr, HRun, HAc⟩ := hrel
      have FIN : Hid (∀ (b : Bool) (acc2 : L) (pv2 : Value) (w4 : World), runS to most acc (ge fr (flat (d + 1) t)) = (b, acc2) → PS base bt bp bm to most acc2 pv2 w4 → Fr (Vs bp pv) w2 w4 → (∀ g, pv2.ownBlock = some g → pv.ownBlock = some g ∨ w2.heap.size ≤ g) → Eaches base bt bp bm to most acc pv (ge fr (flat (d + 1) t)) w (.returned (.bool b)) w4) := hid (fun b acc2 pv2 w4 h1 h2 h3 h4 => by
        unfold Eaches
        exact ⟨by rw [h1], pv2, by rw [h1]; exact h2, F2.out.no.trans' h3, fun g hg => (h4 g hg).imp id (fun e => Nat.le_trans F2.out.size e)⟩)
      have hml : m = (N ++ R).length := by
        rw [← HNR.out]
        have := congrArg List.length HL.out
        simp at this ⊢
        have := HM.out; have := HAJ.out
        omega
      have HML := hid hml
      cases R with
      | nil =>
        have hnl : ¬ ((N.length : Int) < (m : Int)) := by have := hml; simp at this; omega
        clear hml
        go_wp2
        go_ret
        have hr := HRun.out
        exact FIN.out true acc' pv' wr hr HPr.out HFr.out HGr.out
      | cons y R =>
        obtain ⟨k1, (y : PT d)⟩ := y
        have hnl : (N.length : Int) < (m : Int) := by have := hml; simp at this; omega
        have hnl2 : (N.length : Int) ≤ 8796093021000 := by omega
        obtain ⟨hrr, hrg⟩ := HVR.out wr HFr.out
        have hty : t.l = (A ++ N) ++ (k1, up (d := d) y) :: R := by rw [HL.out, List.append_assoc]; exact congrArg (A ++ ·) HNR.out
        have HTY := hid hty
        have HRY : Hid (Rep wr d y) := hid (repK_succ.1 (hrr.kids.rep (k1, up (d := d) y) (by rw [hty]; simp)))
        have HFY : Hid (Fine d y) := hid (HF.out.kid hty)
        have HRGy : Hid (wr.rangeAt gc (j * 2 + N.length * 2) (ptr d y)) := hid (by
          have := hrg (A ++ N) k1 y R hty
          rwa [List.length_append, Nat.add_mul, HAJ.out] at this)
        have HLY : Hid (∀ g, fp d y g → g < base) := hid (fun g hg => HLT.out g (.inr ⟨(k1, up (d := d) y), by rw [hty]; simp, hg⟩))
        clear hml hrr hrg hty
        go_wp2_with (first
          | ((with_reducible show wpList _ _ _ (⟨_, .load 134 _, _, _, _, _⟩ :: _) _ _); have := HB5; refine wpL_load rfl _ _ rfl wr.heap.size 0 rfl (ptr d y) _ (HB6'.out.range 0 _ (by rw [List.drop_zero]; exact List.take_length)) rfl rfl (by rw [ptr_length]; exact info_p) ?_)
          | ((with_reducible show wpList _ _ _ (⟨_, .load 134 _, _, _, _, _⟩ :: _) _ _); refine wpL_load rfl _ _ rfl gc (j * 2 + N.length * 2) rfl (ptr d y) _ HRGy.out rfl rfl (by rw [ptr_length]; exact info_p) ?_)
          | ((with_reducible show wpList _ _ _ (⟨_, .alloc 134, _, _, _, _⟩ :: _) _ _); refine wpL_alloc rfl _ rfl _ zero_pt [.pointer none, .pointer none] rfl ?_; intro w5 HB5 F5 HS5)
          | ((with_reducible show wpList _ _ _ (⟨_, .store 134 _ _, _, _, _, _⟩ :: _) _ _); refine wpL_storeV rfl _ _ _ rfl wr.heap.size 0 (.agg (ptr d y).toArray) (ptr d y) rfl rfl rfl _ _ HB5.out (by rw [ptr_length]; simp) (by rw [ptr_length]; exact info_p) (ptr_one d y) ?_; intro w6 HB6 F6 HS6; have HB6' : Hid (Blk w6 wr.heap.size 134 (ptr d y)) := hid (by
              have := HB6.out
              rwa [show spl [.pointer none, .pointer none] 0 (ptr d y) = ptr d y from by unfold spl; rw [ptr_length]; simp] at this)))
        have F6w : Hid (Fr No wr w6) := hid (F5.out.trans (D' := fun k => k = wr.heap.size) F6.out (fun k e => .inr (by rw [e]; exact Nat.le_refl _)))
        refine (HIH.out base y bt bp bm to fr most acc' pv' w6 (HRY.out.no F6w.out) HFY.out HLY.out (HPr.out.no F6w.out) (by have h0 := flats_len_cons d k1 y R; have h1 : acc'.length + (flats (d + 1) ((k1, up (d := d) y) :: R)).length ≤ 4398046511104 := HAc.out; omega)).mono ?_
        rintro e w7 ⟨rfl, pv2, hps, f7, g7⟩
        have hvt := vs_trans HFr.out HGr.out (F6w.out.no.trans' f7) (fun g hg => (g7 g hg).imp id (fun e => Nat.le_trans F6w.out.size e))
        have HP4 := hid hps; have HF4 := hid hvt.1; have HG4 := hid hvt.2
        have hrn : runS to most acc (ge fr (flat (d + 1) t)) = if (runS to most acc' (ge fr (flat d y))).1 then runS to most (runS to most acc' (ge fr (flat d y))).2 (ge fr (flats (d + 1) R)) else runS to most acc' (ge fr (flat d y)) := by
          rw [HRun.out, flats_cons, ge_append, runS_append]; rfl
        have hal := runS_length to most (ge fr (flat d y)) acc'
        have hgl := ge_le fr (flat d y)
        generalize hrs : runS to most acc' (ge fr (flat d y)) = rs at *
        obtain ⟨b, acc2⟩ := rs
        have HRN := hid hrn
        have HAL : Hid (acc2.length + (flats (d + 1) R).length ≤ 4398046511104) := hid (by
          have h0 := flats_len_cons d k1 y R
          have h1 : acc'.length + (flats (d + 1) ((k1, up (d := d) y) :: R)).length ≤ 4398046511104 := HAc.out
          simp only at hal
          omega)
        clear hps f7 g7 hvt hrn hal hgl hrs
        cases b
        · go_wp2
          go_ret
          exact FIN.out false acc2 pv2 w7 (by have := HRN.out; simpa using this) HP4.out HF4.out HG4.out
        · go_wp2
          exact ⟨⟨N ++ [(k1, up (d := d) y)], R, acc2, pv2, by simp, hid (by rw [HNR.out]; simp), HP4, HF4, HG4, hid (by have := HRN.out; simpa using this), HAL⟩, by simp [intOf]; omega⟩
end Go.Proofs.YtflfmkokfbgclaaGreat.TR

namespace Go.Proofs.YtflfmkokfbgclaaGreat.TR
set_option maxRecDepth 100000
open Go.RowKit K

/-- Behind some rounds: the part that is left, the root so far. -/
structure Rs (d : Nat) (lo : S) (w : World) (t : PT d) (n i rb : Nat) (t' : PT d) (r : PT (d + 1)) (wr : World) : Prop where
  rt : Rep wr d t'
  rr : Rep wr (d + 1) r
  dj : Dj (fp d t') (fp (d + 1) r)
  lt : t'.l = t.l.take (t.l.length * (i + 1) / n)
  tb : t'.b = t.b
  rbe : r.b = rb
  fl : flats (d + 1) r.l = flats d (t.l.drop (t.l.length * (i + 1) / n))
  ch : Chain (okK (d + 1)) none r.l
  ok : Ok d lo (nx none r.l) t'
  gd : ∀ x ∈ r.l, szK (d + 1) x.2 ∧ goodK (d + 1) x.2
  len : r.l.length + (i + 1) = n
  fr : Fr (fp d t) w wr
  g1 : ∀ g, fp d t' g → fp d t g ∨ w.heap.size ≤ g
  g2 : ∀ g, fp (d + 1) r g → fp d t g ∨ w.heap.size ≤ g
theorem Cut.pre {d : Nat} {w0 w w' : World} {t : PT d} {i : Nat} {e : Ending} (hf : Fr No w0 w) (h : Cut d w t i e w') : Cut d w0 t i e w' := by
  obtain ⟨t1, u, k, c, r, h1, h2, h3, h4, h5, h6, h7, h8, h9, h10, h11⟩ := h
  exact ⟨t1, u, k, c, r, h1, h2, h3, h4, h5, h6, h7, hf.no.trans' h8, fun g hg => (h9 g hg).imp id (fun e => Nat.le_trans hf.size e), fun g hg => (h10 g hg).imp id (fun e => Nat.le_trans hf.size e), h11⟩
theorem Cut.post {d : Nat} {w w' w'' : World} {t : PT d} {i : Nat} {e : Ending} (hf : Fr No w' w'') (h : Cut d w t i e w') : Cut d w t i e w'' := by
  obtain ⟨t1, u, k, c, r, h1, h2, h3, h4, h5, h6, h7, h8, h9, h10, h11⟩ := h
  exact ⟨t1, u, k, c, r, h1, h2, h3, h4, h5, h6.no hf, h7.no hf, h8.trans' hf.no, h9, h10, h11⟩
/-- The places of the cuts. -/
theorem cut_at {s n : Nat} (h1 : 4 * n ≤ s) (h2 : s ≤ 8 * n) (hn : 0 < n) (i : Nat) : s * i / n + 4 ≤ s * (i + 1) / n ∧ s * (i + 1) / n ≤ s * i / n + 8 := by
  rw [Nat.mul_succ]
  constructor
  · rw [← Nat.add_mul_div_right _ _ hn]; exact Nat.div_le_div_right (by omega)
  · rw [← Nat.add_mul_div_right _ _ hn]; exact Nat.div_le_div_right (by omega)
theorem cut_le {s n i : Nat} (hn : 0 < n) (hi : i ≤ n) : s * i / n ≤ s := by
  have : s * i / n ≤ s * n / n := Nat.div_le_div_right (Nat.mul_le_mul_left _ hi)
  rwa [Nat.mul_div_cancel _ hn] at this
/-- A new first kid: the memory. -/
theorem front_keys {d : Nat} (l : List (S × Kid (d + 1))) (k : S) (u : PT d) : (keys l).take 0 ++ k :: (keys l).drop 0 = keys ((k, up u) :: l) ∧ (cells l).take (0 * 2) ++ ptr d u ++ (cells l).drop (0 * 2) = cells ((k, up u) :: l) := by
  constructor
  · simp [keys]
  · rw [cells_cons]; simp [cellK]
theorem front_rep {d : Nat} {w w' : World} {r : PT (d + 1)} {u : PT d} {k : S} (hr : Rep w (d + 1) r) (hu : Rep w d u) (hd : Dj (fp d u) (fp (d + 1) r)) (hp : NdPost w (ndT (d + 1)) (elT (d + 1)) (elk (d + 1)) r.b r.k r.c (keys ((k, up u) :: r.l)) (cells ((k, up u) :: r.l)) w') :
    ∃ r' : PT (d + 1), r'.l = (k, up u) :: r.l ∧ r'.b = r.b ∧ Rep w' (d + 1) r' ∧ Fr (own r) w w' ∧ ∀ g, fp (d + 1) r' g → fp (d + 1) r g ∨ fp d u g ∨ w.heap.size ≤ g := by
  have hk : Kids w (d + 1) (own r) ((k, up u) :: r.l) := by
    refine ⟨fun y hy => ?_, List.pairwise_cons.2 ⟨fun b hb g hg hg' => hd g hg (.inr ⟨b, hb, hg'⟩), hr.kids.apart⟩, fun y hy => ?_⟩
    · rcases List.mem_cons.1 hy with rfl | hy
      · exact repK_succ.2 hu
      · exact hr.kids.rep y hy
    · rcases List.mem_cons.1 hy with rfl | hy
      · exact fun g hg hg' => hd g hg' (own_fp hg)
      · exact hr.kids.off y hy
  obtain ⟨r', e1, e2, h1, h2, h3⟩ := rep_node hp hk
  refine ⟨r', e1, e2, h1, h2, fun g hg => ?_⟩
  rcases hg with hg | ⟨y, hy, hg⟩
  · exact (h3 g hg).imp .inl .inr
  · rw [e1] at hy
    rcases List.mem_cons.1 hy with rfl | hy
    · exact .inr (.inl hg)
    · exact .inl (.inr ⟨y, hy, hg⟩)
/-- A round more. -/
theorem Rs.step {d : Nat} {lo : S} {w wr w2 w3 : World} {t t' t1 u : PT d} {r r' : PT (d + 1)} {n i rb : Nat} {k : S} {c : Kid d} {rr : List (S × Kid d)} (h : Rs d lo w t n (i + 1) rb t' r wr) (hgt : Good d t) (h1 : 4 * n ≤ t.l.length) (h2 : t.l.length ≤ 8 * n)
    (hk : t'.l.drop (t.l.length * (i + 1) / n) = (k, c) :: rr) (l1 : t1.l = t'.l.take (t.l.length * (i + 1) / n)) (b1 : t1.b = t'.b) (l2 : u.l = t'.l.drop (t.l.length * (i + 1) / n)) (r1 : Rep w2 d t1) (ru : Rep w2 d u) (hf : Fr (own t') wr w2)
    (g1 : ∀ g, fp d t1 g → fp d t' g ∨ wr.heap.size ≤ g) (gu : ∀ g, fp d u g → fp d t' g ∨ wr.heap.size ≤ g) (hdj : Dj (fp d t1) (fp d u))
    (e1 : r'.l = (k, up u) :: r.l) (e2 : r'.b = r.b) (hr' : Rep w3 (d + 1) r') (hf3 : Fr (own r) w2 w3) (g3 : ∀ g, fp (d + 1) r' g → fp (d + 1) r g ∨ fp d u g ∨ w2.heap.size ≤ g) : Rs d lo w t n i rb t1 r' w3 := by
  have hn : 0 < n := by have := h.len; omega
  have hin : i + 2 ≤ n := by have := h.len; omega
  have ha := cut_at h1 h2 hn (i + 1)
  have ha0 := cut_at h1 h2 hn i
  have hle := cut_le (s := t.l.length) hn (show i + 1 + 1 ≤ n by omega)
  have hlt := h.lt
  have hfl := h.fl
  have hok := h.ok
  have hlen := h.len
  obtain ⟨a, ea⟩ : ∃ a, t.l.length * (i + 1) / n = a := ⟨_, rfl⟩
  obtain ⟨b, eb⟩ : ∃ b, t.l.length * (i + 1 + 1) / n = b := ⟨_, rfl⟩
  obtain ⟨z, ez⟩ : ∃ z, t.l.length * i / n = z := ⟨_, rfl⟩
  rw [ea] at hk l1 l2
  rw [ea, eb] at ha
  rw [ea, ez] at ha0
  rw [eb] at hle hlt hfl
  have s1 := h.fr.size; have s2 := hf.size; have s3 := hf3.size
  have hq : a < t'.l.length := by rw [hlt, List.length_take]; omega
  obtain ⟨o1, o2, o3, o4⟩ := ok_cut hok (by omega) hq l1 l2 hk
  have hul : u.l.length = b - a := by rw [l2, hlt, List.length_drop, List.length_take]; omega
  have hfrr : ∀ g, fp (d + 1) r g → g < wr.heap.size := h.rr.lt
  have ht1r : Dj (fp d t1) (own r) := fun g hg hg' => by
    rcases g1 g hg with e | e
    · exact h.dj g e (own_fp hg')
    · have := hfrr g (own_fp hg'); omega
  refine ⟨r1.fr hf3 ht1r, hr', fun g hg hg' => ?_, ?_, b1.trans h.tb, e2.trans h.rbe, ?_, ?_, ?_, fun x hx => ?_, ?_, ?_, fun g hg => ?_, fun g hg => ?_⟩
  · rcases g3 g hg' with e | e | e
    · rcases g1 g hg with e' | e'
      · exact h.dj g e' e
      · have := hfrr g e; omega
    · exact hdj g hg e
    · have := r1.lt g hg; omega
  · rw [ea, l1, hlt, List.take_take, Nat.min_eq_left (by omega)]
  · rw [ea, e1, flats_cons, hfl]
    have : flatK (d + 1) k (up u) = flats d u.l := rfl
    simp only [this]
    rw [l2, hlt, ← flats_append]
    congr 1
    have h6 : (t.l.take b ++ t.l.drop b).drop a = (t.l.take b).drop a ++ t.l.drop b := List.drop_append_of_le_length (by rw [List.length_take]; omega)
    rw [List.take_append_drop] at h6
    exact h6.symm
  · rw [e1]
    exact ⟨o2, o4, h.ch⟩
  · rw [e1]; exact o1
  · rw [e1] at hx
    rcases List.mem_cons.1 hx with rfl | hx
    · exact ⟨⟨by show 4 ≤ u.l.length; omega, by show u.l.length ≤ 8; omega⟩, fun y hy => hgt y (by
        have hy' : y ∈ u.l := hy
        rw [l2, hlt] at hy'
        exact List.mem_of_mem_take (List.mem_of_mem_drop hy'))⟩
    · exact h.gd x hx
  · rw [e1, List.length_cons]; omega
  · have f1 : Fr (fp d t) w w2 := h.fr.trans hf (fun g hg => h.g1 g (own_fp hg))
    exact f1.trans hf3 (fun g hg => h.g2 g (own_fp hg))
  · exact (g1 g hg).elim (h.g1 g) (fun e => .inr (by omega))
  · rcases g3 g hg with e | e | e
    · exact h.g2 g e
    · exact (gu g e).elim (h.g1 g) (fun e => .inr (by omega))
    · exact .inr (by omega)
end Go.Proofs.YtflfmkokfbgclaaGreat.TR
