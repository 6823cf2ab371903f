/-
  The walk of TreeCuts.
-/
import Derived.Test.YtmcminejnknliaaTrSm
import Derived.Test.YtmcminejnknliaaTreeOrder
namespace Go.Proofs.Ytmcminejnknliaa.TR
set_option maxRecDepth 100000
open Go.RowKit K

def below (k : S) (l : L) : L := l.filter fun x => lt x.1 k
theorem below_none {k : S} {x : S × S} {r : L} (hs : Sorted (x :: r)) (h : lt x.1 k = false) : below k (x :: r) = [] := by
  have h1 : ∀ y ∈ r, lt x.1 y.1 = true := (List.pairwise_cons.1 hs).1
  unfold below
  rw [List.filter_eq_nil_iff]
  intro y hy
  rcases List.mem_cons.1 hy with rfl | hy
  · simp [h]
  · intro hc
    rw [lt_trans (h1 y hy) hc] at h
    cases h
theorem runS_below (k : S) (hk : k ≠ ⟨#[]⟩) (l acc : L) (n : Nat) (hs : Sorted l) (h : acc.length + l.length ≤ n) : (runS k n acc l).2 = acc ++ below k l := by
  induction l generalizing acc with
  | nil => simp [runS, below]
  | cons x r ih =>
    have hr : Sorted r := (List.pairwise_cons.1 hs).2
    have hst : stopB k x.1 = !lt x.1 k := by simp [stopB, hk]
    simp only [runS, hst]
    simp only [List.length_cons] at h
    cases hl : lt x.1 k with
    | false => simp [below_none hs hl]
    | true =>
      have hb : below k (x :: r) = x :: below k r := by simp [below, hl]
      rw [hb, if_neg (by simp)]
      cases r with
      | nil =>
        simp only [runS]
        split <;> simp [below]
      | cons y r =>
        simp only [List.length_cons] at h
        rw [if_pos (by omega), ih (acc ++ [x]) hr (by simp; omega)]
        simp
theorem cut_all (k : S) (l : L) (hs : Sorted l) : below k l ++ ge k l = l := by
  induction l with
  | nil => rfl
  | cons x r ih =>
    have hr : Sorted r := (List.pairwise_cons.1 hs).2
    cases hl : lt x.1 k with
    | true =>
      have hb : below k (x :: r) = x :: below k r := by simp [below, hl]
      have hg : ge k (x :: r) = ge k r := by simp [ge, hl]
      rw [hb, hg, List.cons_append, ih hr]
    | false =>
      rw [below_none hs hl, List.nil_append]
      have h1 : ∀ y ∈ r, lt x.1 y.1 = true := (List.pairwise_cons.1 hs).1
      unfold ge
      rw [List.filter_eq_self]
      intro y hy
      rcases List.mem_cons.1 hy with rfl | hy
      · simp [hl]
      · cases hc : lt y.1 k
        · rfl
        · rw [lt_trans (h1 y hy) hc] at hl; cases hl
theorem scan_two (k : S) (hk : k ≠ ⟨#[]⟩) (l : L) (hs : Sorted l) : scanS ⟨#[]⟩ k l.length l ++ scanS k ⟨#[]⟩ l.length l = l := by
  unfold scanS
  cases l with
  | nil => rfl
  | cons x r =>
    have hp : ¬ (((x :: r).length : Int) < 1) := by simp only [List.length_cons]; omega
    rw [if_neg hp, if_neg hp, ge_all, runS_below k hk _ _ _ hs (by simp)]
    have hle := ge_le k (x :: r)
    have h2 : (runS ⟨#[]⟩ ((x :: r).length : Nat) [] (ge k (x :: r))).2 = [] ++ ge k (x :: r) := runS_all _ _ _ (by simp only [List.length_nil]; omega)
    rw [h2, List.nil_append, List.nil_append]
    exact cut_all k _ hs
theorem PR.src {w : World} {a : Option Addr} {n c : Nat} {l : L} (h : PR w (.slice a n c) l) : n = l.length ∧ (n = 0 ∨ ∃ ad, a = some ad ∧ ∀ j u, (pcs l)[j]? = some u → w.cell? (ad.add j) = some u) := by
  obtain ⟨a', c', e, h⟩ := h
  simp only [Value.slice.injEq] at e
  obtain ⟨rfl, rfl, rfl⟩ := e
  refine ⟨rfl, ?_⟩
  rcases h with rfl | ⟨g, o, rfl, hr⟩
  · exact .inl rfl
  · exact .inr ⟨_, rfl, range_loads hr⟩
theorem app_new {ops : Array Oper} {rest : List Oper} {op : Oper} {a : Act} {w : World} {Q : Exit → Act → World → Prop} (hgd : op.guard = none) (s x : Operand) (ho : op.op = .call { callee := .builtin .append, args := #[s, x], argTypes := #[22, 22] })
    (base : Nat) (v : Value) (hv : a.eval s = v) (hown : w.ownsRow base 32 2 v 0 [])
    (sp : Option Addr) (m c : Nat) (news : List Value) (hx : a.eval x = .slice sp m c) (hl : news.length = m * 2) (hsrc : m = 0 ∨ ∃ ad, sp = some ad ∧ ∀ j u, news[j]? = some u → w.cell? (ad.add j) = some u) (h1 : ∀ u ∈ news, u.oneCell' = true)
    (hb : m ≤ 4398046511104) (hbase : base ≤ w.heap.size)
    (h : ∀ a' cap' w', Hid (w'.ownsRow base 32 2 (.slice a' m cap') m news) → Hid (w.grownBy w' v.ownBlock) → Hid ((Value.slice a' m cap').ownBlock = v.ownBlock ∨ (Value.slice a' m cap').ownBlock = some w.heap.size) →
      wpList Try.prog ops Q rest (a.put op.dst (.slice a' m cap')) w') : wpList Try.prog ops Q (op :: rest) a w := by
  obtain ⟨i, hi, hz, hs, hby⟩ := infoz_pair
  exact wpL_appendNew hgd s x 22 ho base 32 i _ 2 32 rfl hi hz hs hby rfl (by decide) v hv hown sp m c news hx hl hsrc h1 (by unfold maxLen; omega) (by omega) hbase h
theorem noneP (w : World) : (Instr.buildSlice 22 0 #[]).run Try.prog w = .ok (.slice (some ⟨w.heap.size, 0, none⟩) 0 0) (w.alloc (.cells #[] 32)) := by kernel_rfl
set_option maxHeartbeats 8000000 in
theorem treeCuts_walk (W : World) (v0 : Value) (x0 : L) (key : S) (h0 : PrAt W v0 x0) : Calls Try.prog 7 #[v0, .string key] W fun e W' => e = .returned (.bool true) ∧ Fr No W W' := by
  have H0 := hid h0
  obtain ⟨a0, c0, rfl, hn0, -⟩ := h0
  have hol := ofL_length x0
  obtain ⟨l, hl⟩ : ∃ l, ofL x0 = l := ⟨_, rfl⟩
  have HS : Hid (Sorted l) := hid (hl ▸ ofL_sorted x0)
  have HLN : Hid (l.length ≤ 4398046511000) := hid (by rw [hl] at hol; omega)
  clear hn0 hol
  go_enter Try.func7, Try.ntmps7
  go_wp2_with fail
  refine (awake_any W).mono ?_
  rintro e w1 ⟨rfl, f1⟩
  have F1 := hid f1
  clear f1
  go_wp2_with fail
  refine (of_any w1 _ x0 (H0.out.no F1.out)).mono ?_
  rintro e w2 ⟨b, T, rfl, t2⟩
  rw [hl] at t2
  have HT := hid (t2.pre F1.out)
  clear t2 hl
  by_cases hk : key = ⟨#[]⟩
  · subst hk
    go_wp2_with fail
    go_ret
    exact ⟨rfl, HT.out.fr⟩
  · have HK := hid hk
    have hkl : ¬ (key.toList = []) := fun e => HK.out (toList_inj (by rw [e]; kernel_rfl))
    have hke : key.toList.isEmpty = false := by cases h : key.toList <;> simp_all
    clear hk
    go_wp2_with fail
    refine HT.out.len.mono ?_
    rintro e w3 ⟨rfl, rfl⟩
    go_wp2_with fail
    refine (HT.out.scan (by have := HLN.out; omega) _ _ _).mono ?_
    rintro e w4 ⟨pv, rfl, p4, t4, f4⟩
    have HT4 := hid t4; have HP4 := hid p4.pr
    obtain ⟨a4, c4, rfl, -⟩ := p4
    clear t4 f4
    go_wp2_with fail
    refine (HT4.out.scan (by have := HLN.out; omega) _ _ _).mono ?_
    rintro e w5 ⟨pv, rfl, p5, t5, f5⟩
    have HT5 := hid t5; have HP5 := hid p5.pr; have HP45 := hid (HP4.out.no f5)
    obtain ⟨a5, c5, rfl, -⟩ := p5
    clear t5 f5
    go_wp2_with fail
    refine (HT5.out.all (by have := HLN.out; omega)).mono ?_
    rintro e w6 ⟨pv, rfl, p6, t6, f6⟩
    have HT6 := hid t6; have HP6 := hid p6.pr; have HP46 := hid (HP45.out.no f6); have HP56 := hid (HP5.out.no f6)
    obtain ⟨a6, c6, rfl, -⟩ := p6
    clear t6 f6
    have hsc := scan_two key HK.out l HS.out
    obtain ⟨A, hA⟩ : ∃ A, scanS ⟨#[]⟩ key (l.length : Nat) l = A := ⟨_, rfl⟩
    obtain ⟨B, hB⟩ : ∃ B, scanS key ⟨#[]⟩ (l.length : Nat) l = B := ⟨_, rfl⟩
    rw [hA, hB] at hsc
    rw [hA] at HP46 ⊢
    rw [hB] at HP56 ⊢
    have HSC := hid hsc
    have hab : A.length + B.length = l.length := by rw [← hsc]; simp
    have HAB := hid hab
    have HBZ : Hid (l.length ≤ 4398046511104) := hid (by have := HLN.out; omega)
    clear hsc hab hA hB
    go_wp2_with (first
      | ((with_reducible show wpList _ _ _ ({ dst := _, op := .buildSlice 22 _ _, type := _, pos := _, after := _, guard := _ } :: _) _ _); refine wpL_buildNone rfl _ 32 rfl noneP ?_; intro w7 HB7 F7 HS7)
      | ((with_reducible show wpList _ _ _ ({ dst := _, op := .call { callee := .builtin .append, args := _, argTypes := _ }, type := _, pos := _, after := _, guard := _ } :: _) _ _); have := HO8; refine app_pr rfl _ _ rfl w6.heap.size _ A.length (pcs A) rfl HO8.out a5 B.length c5 (pcs B) rfl (pcs_length B) (HP58.out.src.2) (pcs_one B) (by have := HAB.out; have := HBZ.out; omega) HZ8.out ?_; intro a9 c9 w9 HO9 HG9 HA9)
      | ((with_reducible show wpList _ _ _ ({ dst := _, op := .call { callee := .builtin .append, args := _, argTypes := _ }, type := _, pos := _, after := _, guard := _ } :: _) _ _); refine app_new rfl _ _ rfl w6.heap.size _ rfl (HB7.out.own (n := 0) (cap := 0) (Nat.le_refl _) rfl (Nat.le_refl _) (by decide) rfl rfl) a4 A.length c4 (pcs A) rfl (pcs_length A) ((HP46.out.no F7.out).src.2) (pcs_one A) (by have := HAB.out; have := HBZ.out; omega) F7.out.size ?_; intro a8 c8 w8 HO8 HG8 HA8; have HF8 : Hid (Fr No w6 w8) := hid (Fr.grown F7.out HG8.out (fun k hk => .inr (by cases hk; exact Nat.le_refl _))); have HP58 := hid (HP56.out.no HF8.out); have HZ8 : Hid (w6.heap.size ≤ w8.heap.size) := hid HF8.out.size))
    have HF9 : Hid (Fr No w6 w9) := hid (Fr.grown HF8.out HG9.out (fun k hk => .inr (by
      have hk' : (Value.slice a8 A.length c8).ownBlock = some k := hk
      rcases HA8.out with e | e
      · have e' : (Value.slice a8 A.length c8).ownBlock = some w6.heap.size := e
        rw [e'] at hk'; cases hk'; exact Nat.le_refl _
      · rw [e] at hk'; cases hk'; exact F7.out.size)))
    have HPR : Hid (PR w9 (.slice a9 (A.length + B.length) c9) l) := hid (by
      have := HO9.out
      rw [HAB.out, ← pcs_append, HSC.out] at this
      rw [HAB.out]
      exact (pr_new this).pr)
    refine (same_eq w9 _ _ l HPR.out (HP6.out.no HF9.out) HBZ.out).mono ?_
    rintro e w10 ⟨rfl, f10⟩
    have HT10 := hid ((HT6.out.no HF9.out).no f10)
    clear f10
    go_wp2_with fail
    go_ret
    exact ⟨rfl, HT10.out.fr⟩
end Go.Proofs.Ytmcminejnknliaa.TR
