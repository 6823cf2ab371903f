/-
  Part 6 of the proof: MpT.
-/
import Derived.Test.YthjmkfpdbbfcpaaMn05
set_option linter.unusedSimpArgs false
set_option linter.unusedVariables false
namespace Go.Proofs.Ythjmkfpdbbfcpaa.ME
set_option maxRecDepth 100000
open Go.RowKit K Go.Proofs.Ythjmkfpdbbfcpaa.BE Go.Proofs.Ythjmkfpdbbfcpaa.FR

/-- Elements in memory: what a row of them must bear. -/
structure GP {α : Type} (k : Nat) (p : (Nat → Prop) → World → α → List Value → Prop) : Prop where
  fr : ∀ {S D : Nat → Prop} {w w' : World} {x : α} {c : List Value}, p S w x c → Fr D w w' → (∀ i, S i → i < w.heap.size → ¬ D i) → p S w' x c
  mono : ∀ {S S' : Nat → Prop} {w : World} {x : α} {c : List Value}, p S w x c → (∀ i, i < w.heap.size → S i → S' i) → p S' w x c
  len : ∀ {S : Nat → Prop} {w : World} {x : α} {c : List Value}, p S w x c → c.length = k
  one : ∀ {S : Nat → Prop} {w : World} {x : α} {c : List Value}, p S w x c → ∀ u ∈ c, u.oneCell' = true
structure GR {α : Type} (T : TypeId) (k : Nat) (p : (Nat → Prop) → World → α → List Value → Prop) (base : Nat) (acc : List α) (v : Value) (L : List (List Value)) (w : World) : Prop where
  r : w.ownsRow base T k v acc.length L.flatten
  l : L.length = acc.length
  s : ∀ c ∈ L, c.length = k
  k : ∀ (j : Nat) (x : α) (c : List Value), acc[j]? = some x → L[j]? = some c → p (fun k => base ≤ k ∧ v.ownBlock ≠ some k) w x c
section
variable {α : Type} {T : TypeId} {k : Nat} {p : (Nat → Prop) → World → α → List Value → Prop}
theorem GR.no (hp : GP k p) {base : Nat} {acc : List α} {v : Value} {L : List (List Value)} {w w' : World} (h : GR T k p base acc v L w) (hf : Fr No w w') : GR T k p base acc v L w' :=
  ⟨own_fr h.r hf (fun _ _ e => e), h.l, h.s, fun j x c hx hc => hp.fr (h.k j x c hx hc) hf fun _ _ _ e => e⟩
theorem GR.nil (base : Nat) (w : World) : GR T k p base [] (.slice none 0 0) [] w := ⟨World.ownsRow_nil _ _ _ _, rfl, (fun _ h => by cases h), fun j x c hx => by simp at hx⟩
theorem GR.step (hp : GP k p) {base : Nat} {acc : List α} {v : Value} {L : List (List Value)} {w w' : World} (h : GR T k p base acc v L w) {N : Nat} {n : α} {cs : List Value} (hn : p (Since N) w n cs) (hN : base ≤ N) (hv : ∀ g, v.ownBlock = some g → g < N)
    {v' : Value} (hr : w'.ownsRow base T k v' (acc.length + 1) (L.flatten ++ cs)) (hf : Fr (fun k => v.ownBlock = some k ∨ v'.ownBlock = some k) w w')
    (ho : ∀ g, v'.ownBlock = some g → v.ownBlock = some g ∨ w.heap.size ≤ g) : GR T k p base (acc ++ [n]) v' (L ++ [cs]) w' := by
  have key : ∀ (x : α) (c : List Value), p (fun k => base ≤ k ∧ v.ownBlock ≠ some k) w x c → p (fun k => base ≤ k ∧ v'.ownBlock ≠ some k) w' x c := fun x c hx => by
    have h1 : p (fun k => base ≤ k ∧ v.ownBlock ≠ some k ∧ v'.ownBlock ≠ some k) w x c := hp.mono hx (fun k hk hs => ⟨hs.1, hs.2, fun e => by
      rcases ho k e with h | h
      · exact hs.2 h
      · omega⟩)
    refine hp.mono (hp.fr h1 hf (fun k hs _ e => ?_)) (fun k _ hs => ⟨hs.1, hs.2.2⟩)
    rcases e with e | e
    · exact hs.2.1 e
    · exact hs.2.2 e
  have kn : p (fun k => base ≤ k ∧ v.ownBlock ≠ some k) w n cs := hp.mono hn (fun k hk hs => ⟨Nat.le_trans hN hs, fun e => by have := hv k e; have hs : N ≤ k := hs; omega⟩)
  refine ⟨?_, by simp [h.l], fun c hc => ?_, fun j x c hx hc => ?_⟩
  · rw [List.length_append, List.flatten_append]
    simpa using hr
  · rcases List.mem_append.1 hc with hc | hc
    · exact h.s c hc
    · obtain rfl : c = cs := by simpa using hc
      exact hp.len hn
  · rcases Nat.lt_or_ge j acc.length with hj | hj
    · rw [List.getElem?_append_left hj] at hx
      rw [List.getElem?_append_left (by rw [h.l]; exact hj)] at hc
      exact key x c (h.k j x c hx hc)
    · have h0 : j - acc.length = 0 := by
        have := (List.getElem?_eq_some_iff.1 hx).1
        simp at this; omega
      rw [List.getElem?_append_right hj, h0] at hx
      rw [List.getElem?_append_right (by rw [h.l]; exact hj), h.l, h0] at hc
      obtain rfl : n = x := by simpa using hx
      obtain rfl : cs = c := by simpa using hc
      exact key n cs kn
theorem GR.sl (hp : GP k p) {base N : Nat} {acc : List α} {v : Value} {L : List (List Value)} {w : World} (h : GR T k p base acc v L w) (hN : N ≤ base) (hl : acc.length ≤ 140737488351232) : Sl k (p (Since N) w) (Since N) w v acc := by
  obtain ⟨a, cap, hv, hcap, hg⟩ := own_form h.r
  have hr0 := h.r
  rw [hv] at hr0
  refine ⟨a, cap, hv, own_cap hr0, hl, ?_⟩
  by_cases h0 : acc = []
  · exact .inl h0
  · right
    have hpos : 0 < acc.length := by
      rcases Nat.eq_zero_or_pos acc.length with h1 | h1
      · exact absurd (List.eq_nil_of_length_eq_zero h1) h0
      · exact h1
    obtain ⟨g, rfl⟩ := hg hpos
    have hgw := own_ge h.r g (by rw [hv]; rfl)
    refine ⟨g, 0, L, rfl, Nat.le_trans hN hgw.1, hgw.2, ?_, h.l, h.s, fun j x c hx hc => hp.mono (h.k j x c hx hc) (fun k _ hk => Nat.le_trans hN hk.1)⟩
    intro j u hj
    have := h.r.cells (g := g) (by rw [hv]; rfl) j u hj
    rwa [Addr.add_mid] at this
end
def TxP (_ : Nat → Prop) (_ : World) (x : B) (c : List Value) : Prop := c = [.string (sb x)] ∧ Sz x
theorem gpTx : GP 1 TxP := ⟨fun h _ _ => h, fun h _ => h, fun h => by rw [h.1]; rfl, fun h u hu => by rw [h.1] at hu; simp at hu; subst hu; rfl⟩
theorem gpAt : GP 2 AtC := ⟨fun h hf hd => h.fr hf hd, fun h hs => by obtain ⟨v, h1, h2, h3⟩ := h; exact ⟨v, h1, h2, h3.monoS hs⟩, fun h => by obtain ⟨v, rfl, -⟩ := h; rfl, fun h => by
  obtain ⟨v, rfl, -, ht⟩ := h
  obtain ⟨_, _, rfl, -, -⟩ := ht.form
  intro u hu
  simp at hu
  rcases hu with rfl | rfl <;> rfl⟩
theorem gpMo : GP 3 MoC := ⟨fun h hf hd => h.fr hf hd, fun h hs => by obtain ⟨v, h1, h2, h3, h4⟩ := h; exact ⟨v, h1, h2, h3, h4.monoS hs⟩, fun h => by obtain ⟨v, rfl, -⟩ := h; rfl, fun h => by
  obtain ⟨v, rfl, -, -, ht⟩ := h
  obtain ⟨_, _, rfl, -, -⟩ := ht.form
  intro u hu
  simp at hu
  rcases hu with rfl | rfl | rfl <;> rfl⟩
theorem gpFl (M : Nat) : GP 7 (FlC M) := ⟨fun h hf hd => h.fr hf hd, fun h hs => h.monoS hs, fun h => h.len, fun h => h.one⟩
theorem sl_tx {S : Nat → Prop} {w : World} {v : Value} {xs : List B} (h : Sl 1 (TxP S w) S w v xs) : Tx S w v xs := by
  obtain ⟨a, cap, h1, h2, h3, h4⟩ := h
  have hsz : ∀ x ∈ xs, Sz x := fun x hx => by
    rcases h4 with h4 | ⟨g, o, L, e, hS, hg, hr, hL, hc, hp⟩
    · rw [h4] at hx; cases hx
    · obtain ⟨i, hi, rfl⟩ := List.mem_iff_getElem.1 hx
      exact (hp i _ _ (List.getElem?_eq_getElem hi) (List.getElem?_eq_getElem (by omega))).2
  refine ⟨⟨a, xs.length, cap, h1, rfl, h2, ?_⟩, h3, hsz⟩
  by_cases h0 : xs = []
  · exact .inl (by rw [h0]; rfl)
  obtain ⟨g, o, L, e, hS, hg, hr, hL, hc, hp⟩ := h4.resolve_left h0
  refine .inr ⟨g, o, e, hS, hg, ?_⟩
  have hLe : L.flatten = strs xs := by
    have : L = xs.map (fun x => [Value.string (sb x)]) := by
      apply List.ext_getElem? 
      intro i
      rcases Nat.lt_or_ge i xs.length with hi | hi
      · rw [List.getElem?_map, List.getElem?_eq_getElem hi, List.getElem?_eq_getElem (by omega : i < L.length)]
        exact congrArg some (hp i _ _ (List.getElem?_eq_getElem hi) (List.getElem?_eq_getElem (by omega))).1
      · rw [List.getElem?_eq_none (by omega), List.getElem?_eq_none (by simpa using hi)]
    rw [this]
    unfold strs
    clear hr hL hc hp h4 h0 hsz h1 h2 h3 this
    induction xs with
    | nil => rfl
    | cons x r ih => simp only [List.map_cons, List.flatten_cons, ih]; rfl
  rw [← hLe]
  exact hr
theorem infozAt : (Try.prog.info? 54).map (fun i => (i.zero, i.size, i.bytes)) = some (some (.agg #[.string ⟨#[]⟩, .slice none 0 0]), 2, 40) := by kernel_rfl
theorem infozMo : (Try.prog.info? 56).map (fun i => (i.zero, i.size, i.bytes)) = some (some (.agg #[.int .i64 0, .string ⟨#[]⟩, .slice none 0 0]), 3, 48) := by kernel_rfl
set_option maxHeartbeats 8000000 in
theorem plistTx {α : Type} {p : (Nat → Prop) → World → α → List Value → Prop} (hp0 : GP 1 p) (gn : Nd → α) (f : FuncId) (M : Nat) (S : Nat → Prop) (n : Nd) (cs : List Value) (w : World) (hn : NdAt (M + 1) S w n cs) (hl : n.kids.length ≤ 100000)
    (hent : ∀ (vs : Array Value) (w : World), (callFunc f vs).run Try.prog w = .ok (.enter f vs) w)
    (hf : ∀ x ∈ n.kids, ∀ c wv, NdAt M S wv x c → Fr No w wv → Calls Try.prog f #[.agg c.toArray] wv fun e w' => ∃ ds, e = .returned (ds.headD undef) ∧ p (Since wv.heap.size) w' (gn x) ds ∧ Fr No wv w') (hstr : ∀ S w x c, p S w x c → ∃ D, c = [Value.string D]) :
    Calls Try.prog 59 #[.agg cs.toArray, .func (.func f) #[] #[]] w fun e w' => ∃ v, e = .returned v ∧ Sl 1 (p (Since w.heap.size) w') (Since w.heap.size) w' v (n.kids.map gn) ∧ Fr No w w' := by
  obtain ⟨v0, hcs, hsl⟩ := nd_sl hn
  obtain ⟨a, cap, rfl, -, -⟩ := hsl.form
  have HN := hid hsl; have hp := hid hp0; have HE := hid hent; have HF := hid hf; have HSTR := hid hstr
  subst hcs
  obtain ⟨kl, hkl⟩ : ∃ k, n.kids.length = k := ⟨_, rfl⟩
  rw [hkl] at HN hl ⊢
  have HKL := hid hkl
  generalize sb n.body = bs
  generalize n.tag = tg
  have hkli : (kl : Int) ≤ 100000 := by omega
  obtain ⟨ic, hic, hzc, hsc, hbc⟩ := Go.info_parts infoS3
  have IC := hid hic; have ZC := hid hzc; have SC := hid hsc; have BC := hid hbc
  clear hn hsl hkl hp0 hent hf hic hzc hsc hbc hstr
  go_enter Try.func59, Try.ntmps59
  go_wp2_with (first
    | ((with_reducible refine K.atO (.box 44 _) ?_); refine wpL_box rfl _ _ rfl _ rfl [.int .i64 tg, .string bs, .slice a kl cap] rfl ?_; intro w1 HB1 F1 HS1; have c2 : w1.cell? ⟨w.heap.size, 2, none⟩ = some (.slice a kl cap) := HB1.out.cell 2)
    | fail)
  clear c2
  go_loopw [5, 11] (fun kv iv wr => ∃ (i : Nat) (v : Value) (L : List (List Value)), kv = v ∧ iv = .int .i64 i ∧ i ≤ kl ∧ Hid (GR 9 1 p w1.heap.size ((n.kids.take i).map gn) v L wr ∧ Fr No w1 wr)) (fun _ iv _ => kl - (intOf iv).toNat)
  case atStart => exact ⟨0, _, [], rfl, rfl, Nat.zero_le _, hid ⟨GR.nil _ _, Fr.refl _ _⟩⟩
  case round =>
    obtain ⟨i, v, L, rfl, rfl, hi, HI⟩ := hrel
    have hal : ((n.kids.take i).map gn).length = i := by rw [List.length_map, List.length_take, HKL.out]; omega
    have hri := HI.out.1.r
    rw [hal] at hri
    obtain ⟨va, vc, rfl, -, -⟩ := own_form hri
    have HAL := hid hal; have HKI := hid HI.out.1; have HFI := hid HI.out.2
    clear hri hal HI
    by_cases hlt : i < kl
    · have hiX : i < n.kids.length := by rw [HKL.out]; exact hlt
      obtain ⟨x, hx⟩ : ∃ x, n.kids[i]? = some x := ⟨_, List.getElem?_eq_getElem hiX⟩
      have HXM := hid (List.mem_of_getElem? hx)
      have HNX : Hid ((n.kids.take (i + 1)).map gn = (n.kids.take i).map gn ++ [gn x]) := hid (by
        have hxx : n.kids[i] = x := by rw [List.getElem?_eq_getElem hiX] at hx; exact Option.some.inj hx
        rw [List.take_succ_eq_append_getElem hiX, List.map_append, hxx]; rfl)
      have hlti : (i : Int) < kl := by omega
      have hi0 : (0 : Int) ≤ i := by omega
      obtain ⟨g, ofs, cp, c, e1, hEg, hgw, hr, hc, hxa⟩ := (HN.out.fr (F1.out.trans' HFI.out) (fun _ _ _ e => e) (fun x c _ h => h.no (F1.out.trans' HFI.out))).get hx
      rw [HKL.out] at e1
      simp only [Value.slice.injEq, true_and] at e1
      obtain ⟨rfl, rfl⟩ := e1
      have HXA := hid hxa; have HC := hid hc; have HRR := hid hr; have HONE := hid hxa.one
      have HI3 : Hid ((Try.prog.info? 44).map (·.size) = some c.length) := hid (by rw [hc]; exact infoN)
      have HLT := hid hlt
      clear hc hEg hgw hr hxa hx hlt hiX
      go_wp2_with (first
        | ((with_reducible refine K.atO (.load 44 _) ?_); (fail_if_success (have := HBb)); refine wpL_load rfl _ _ rfl g (ofs + i * 3) rfl c _ HRR.out rfl rfl HI3.out ?_)
        | ((with_reducible refine K.atO (.alloc 44) ?_); refine wpL_alloc rfl _ rfl _ zeroN [.int .i64 0, .string ⟨#[]⟩, .slice none 0 0] rfl ?_; intro wa HBa FAa HSa)
        | ((with_reducible refine K.atO (.store 44 _ _) ?_); refine wpL_storeV rfl _ _ _ rfl wr.heap.size 0 (.agg c.toArray) c rfl rfl rfl _ _ HBa.out (by rw [HC.out]; simp) HI3.out HONE.out ?_; intro wb HBb FBb HSb; have HBc : Hid (Blk wb wr.heap.size 44 c) := hid (by have h := HBb.out; rwa [spl_all (by rw [HC.out]; simp)] at h))
        | ((with_reducible refine K.atO (.load 44 _) ?_); refine wpL_load rfl _ _ rfl wr.heap.size 0 rfl c _ (HBc.out.range 0 c (by rw [List.drop_zero, List.take_length])) rfl rfl HI3.out ?_)
        | ((with_reducible refine K.atO (.call { callee := .value _, args := _, argTypes := _ }) ?_); refine wpL_callP rfl _ [_] _ rfl f [] rfl HE.out [.agg c.toArray] rfl ?_)
        | fail)
      have hfb : Fr No wr wb := FAa.out.trans FBb.out (fun j e => .inr (by have e : j = wr.heap.size := e; omega))
      refine (HF.out x HXM.out c wb (HXA.out.no hfb) (F1.out.trans' (HFI.out.trans' hfb))).mono ?_
      rintro e w4 ⟨ds, rfl, hpd, f4⟩
      refine .inl ⟨_, rfl, ?_⟩
      obtain ⟨D, rfl⟩ := HSTR.out _ _ _ _ hpd
      have HFq := hid (HFI.out.trans' (hfb.trans' f4)); have HRq := hid (HKI.out.no hp.out (hfb.trans' f4)); have HPD := hid hpd; have HBQ := hid hfb.size
      have HON := hid (hp.out.one hpd)
      clear hfb f4 hpd HBa FAa HSa HBb FBb HSb HBc
      go_wp2_with (first
        | ((with_reducible refine K.atO (.buildSlice 23 _ _) ?_); refine wpL_buildOne rfl _ 9 _ rfl ic _ Try.underlying23 IC.out ZC.out (by rw [SC.out]; decide) (by rw [SC.out]; decide) (.string D) [.string D] rfl rfl (by rw [SC.out]; rfl) ?_; intro q2 HBq FBq HSBq)
        | ((with_reducible refine K.atO (.call { callee := .builtin .append, args := _, argTypes := _ }) ?_); refine wpL_append rfl _ _ 23 rfl w1.heap.size 9 ic _ 1 16 Try.underlying23 IC.out ZC.out SC.out BC.out rfl (by decide) (.slice va i vc) i L.flatten rfl (by have h := (HRq.out.no hp.out FBq.out).r; rwa [HAL.out] at h) (some ⟨w4.heap.size, 0, none⟩) 1 _ [.string D] rfl rfl (.inr ⟨_, rfl, HBq.out.news⟩) (by intro u hu; exact HON.out u hu) (by unfold maxLen; omega) (by omega) (Nat.le_trans HFq.out.size FBq.out.size) ?_; intro qa qc q3 HOq HGq HAq; refine Hid.out ?_)
        | fail)
      have HFRq : Hid (Fr (fun k => (Value.slice va i vc).ownBlock = some k ∨ (Value.slice qa (i + 1) qc).ownBlock = some k) q2 q3) := hid ((frown HGq.out).mono fun k hk => .inl hk)
      have HLWq : Hid (∀ k, ((Value.slice va i vc).ownBlock = some k ∨ (Value.slice qa (i + 1) qc).ownBlock = some k) → w1.heap.size ≤ k) := hid (fun k hk => by
        rcases hk with h | h
        · exact own_low HRq.out.r k h
        · exact own_low HOq.out k h)
      have HKq := hid ((HRq.out.no hp.out FBq.out).step hp.out (N := wb.heap.size) (n := gn x) (cs := [.string D]) (hp.out.fr HPD.out FBq.out fun _ _ _ e => e) (Nat.le_trans HFI.out.size HBQ.out) (fun g hg => Nat.lt_of_lt_of_le (own_ge HKI.out.r g hg).2 HBQ.out) (by rw [HAL.out]; exact HOq.out) HFRq.out (or_own HAq.out))
      have HFKq : Hid (Fr No w1 q3) := hid ((HFq.out.trans' FBq.out).trans HFRq.out fun k hk => .inr (HLWq.out k hk))
      clear HBq FBq HSBq HOq HGq HAq HRq HFq HFRq HLWq HPD
      refine hid ?_
      go_wp2_with fail
      go_roundw
      case rel => exact ⟨i + 1, _, _, rfl, by go_num, HLT.out, hid ⟨by rw [HNX.out]; exact HKq.out, HFKq.out⟩⟩
      case measure => have := HLT.out; simp [intOf]; omega
    · obtain rfl : i = kl := by omega
      have hki := HKI.out
      rw [List.take_of_length_le (by rw [HKL.out]; exact Nat.le_refl _)] at hki
      have HKJ := hid hki
      have hlti : ¬ ((i : Int) < i) := by omega
      clear hki hlt
      go_wp2_with fail
      go_ret
      refine ⟨_, rfl, ?_, F1.out.trans' HFI.out⟩
      exact HKJ.out.sl hp.out F1.out.size (by rw [List.length_map, HKL.out]; omega)
set_option maxHeartbeats 8000000 in
theorem plistAt {α : Type} {p : (Nat → Prop) → World → α → List Value → Prop} (hp0 : GP 2 p) (gn : Nd → α) (f : FuncId) (M : Nat) (S : Nat → Prop) (n : Nd) (cs : List Value) (w : World) (hn : NdAt (M + 1) S w n cs) (hl : n.kids.length ≤ 100000)
    (hent : ∀ (vs : Array Value) (w : World), (callFunc f vs).run Try.prog w = .ok (.enter f vs) w)
    (hf : ∀ x ∈ n.kids, ∀ c wv, NdAt M S wv x c → Fr No w wv → Calls Try.prog f #[.agg c.toArray] wv fun e w' => ∃ ds, e = .returned (.agg ds.toArray) ∧ p (Since wv.heap.size) w' (gn x) ds ∧ Fr No wv w')  :
    Calls Try.prog 62 #[.agg cs.toArray, .func (.func f) #[] #[]] w fun e w' => ∃ v, e = .returned v ∧ Sl 2 (p (Since w.heap.size) w') (Since w.heap.size) w' v (n.kids.map gn) ∧ Fr No w w' := by
  obtain ⟨v0, hcs, hsl⟩ := nd_sl hn
  obtain ⟨a, cap, rfl, -, -⟩ := hsl.form
  have HN := hid hsl; have hp := hid hp0; have HE := hid hent; have HF := hid hf
  subst hcs
  obtain ⟨kl, hkl⟩ : ∃ k, n.kids.length = k := ⟨_, rfl⟩
  rw [hkl] at HN hl ⊢
  have HKL := hid hkl
  generalize sb n.body = bs
  generalize n.tag = tg
  have hkli : (kl : Int) ≤ 100000 := by omega
  obtain ⟨ic, hic, hzc, hsc, hbc⟩ := Go.info_parts infozAt
  have IC := hid hic; have ZC := hid hzc; have SC := hid hsc; have BC := hid hbc
  clear hn hsl hkl hp0 hent hf hic hzc hsc hbc
  go_enter Try.func62, Try.ntmps62
  go_wp2_with (first
    | ((with_reducible refine K.atO (.box 44 _) ?_); refine wpL_box rfl _ _ rfl _ rfl [.int .i64 tg, .string bs, .slice a kl cap] rfl ?_; intro w1 HB1 F1 HS1; have c2 : w1.cell? ⟨w.heap.size, 2, none⟩ = some (.slice a kl cap) := HB1.out.cell 2)
    | fail)
  clear c2
  go_loopw [5, 11] (fun kv iv wr => ∃ (i : Nat) (v : Value) (L : List (List Value)), kv = v ∧ iv = .int .i64 i ∧ i ≤ kl ∧ Hid (GR 54 2 p w1.heap.size ((n.kids.take i).map gn) v L wr ∧ Fr No w1 wr)) (fun _ iv _ => kl - (intOf iv).toNat)
  case atStart => exact ⟨0, _, [], rfl, rfl, Nat.zero_le _, hid ⟨GR.nil _ _, Fr.refl _ _⟩⟩
  case round =>
    obtain ⟨i, v, L, rfl, rfl, hi, HI⟩ := hrel
    have hal : ((n.kids.take i).map gn).length = i := by rw [List.length_map, List.length_take, HKL.out]; omega
    have hri := HI.out.1.r
    rw [hal] at hri
    obtain ⟨va, vc, rfl, -, -⟩ := own_form hri
    have HAL := hid hal; have HKI := hid HI.out.1; have HFI := hid HI.out.2
    clear hri hal HI
    by_cases hlt : i < kl
    · have hiX : i < n.kids.length := by rw [HKL.out]; exact hlt
      obtain ⟨x, hx⟩ : ∃ x, n.kids[i]? = some x := ⟨_, List.getElem?_eq_getElem hiX⟩
      have HXM := hid (List.mem_of_getElem? hx)
      have HNX : Hid ((n.kids.take (i + 1)).map gn = (n.kids.take i).map gn ++ [gn x]) := hid (by
        have hxx : n.kids[i] = x := by rw [List.getElem?_eq_getElem hiX] at hx; exact Option.some.inj hx
        rw [List.take_succ_eq_append_getElem hiX, List.map_append, hxx]; rfl)
      have hlti : (i : Int) < kl := by omega
      have hi0 : (0 : Int) ≤ i := by omega
      obtain ⟨g, ofs, cp, c, e1, hEg, hgw, hr, hc, hxa⟩ := (HN.out.fr (F1.out.trans' HFI.out) (fun _ _ _ e => e) (fun x c _ h => h.no (F1.out.trans' HFI.out))).get hx
      rw [HKL.out] at e1
      simp only [Value.slice.injEq, true_and] at e1
      obtain ⟨rfl, rfl⟩ := e1
      have HXA := hid hxa; have HC := hid hc; have HRR := hid hr; have HONE := hid hxa.one
      have HI3 : Hid ((Try.prog.info? 44).map (·.size) = some c.length) := hid (by rw [hc]; exact infoN)
      have HLT := hid hlt
      clear hc hEg hgw hr hxa hx hlt hiX
      go_wp2_with (first
        | ((with_reducible refine K.atO (.load 44 _) ?_); (fail_if_success (have := HBb)); refine wpL_load rfl _ _ rfl g (ofs + i * 3) rfl c _ HRR.out rfl rfl HI3.out ?_)
        | ((with_reducible refine K.atO (.alloc 44) ?_); refine wpL_alloc rfl _ rfl _ zeroN [.int .i64 0, .string ⟨#[]⟩, .slice none 0 0] rfl ?_; intro wa HBa FAa HSa)
        | ((with_reducible refine K.atO (.store 44 _ _) ?_); refine wpL_storeV rfl _ _ _ rfl wr.heap.size 0 (.agg c.toArray) c rfl rfl rfl _ _ HBa.out (by rw [HC.out]; simp) HI3.out HONE.out ?_; intro wb HBb FBb HSb; have HBc : Hid (Blk wb wr.heap.size 44 c) := hid (by have h := HBb.out; rwa [spl_all (by rw [HC.out]; simp)] at h))
        | ((with_reducible refine K.atO (.load 44 _) ?_); refine wpL_load rfl _ _ rfl wr.heap.size 0 rfl c _ (HBc.out.range 0 c (by rw [List.drop_zero, List.take_length])) rfl rfl HI3.out ?_)
        | ((with_reducible refine K.atO (.call { callee := .value _, args := _, argTypes := _ }) ?_); refine wpL_callP rfl _ [_] _ rfl f [] rfl HE.out [.agg c.toArray] rfl ?_)
        | fail)
      have hfb : Fr No wr wb := FAa.out.trans FBb.out (fun j e => .inr (by have e : j = wr.heap.size := e; omega))
      refine (HF.out x HXM.out c wb (HXA.out.no hfb) (F1.out.trans' (HFI.out.trans' hfb))).mono ?_
      rintro e w4 ⟨ds, rfl, hpd, f4⟩
      refine .inl ⟨_, rfl, ?_⟩
      obtain ⟨d0, d1, rfl⟩ : ∃ d0 d1, ds = [d0, d1] := by
        have := hp.out.len hpd
        match ds, this with
        | [d0, d1], _ => exact ⟨d0, d1, rfl⟩
      have HFq := hid (HFI.out.trans' (hfb.trans' f4)); have HRq := hid (HKI.out.no hp.out (hfb.trans' f4)); have HPD := hid hpd; have HBQ := hid hfb.size
      have HON := hid (hp.out.one hpd)
      clear hfb f4 hpd HBa FAa HSa HBb FBb HSb HBc
      go_wp2_with (first
        | ((with_reducible refine K.atO (.buildSlice 26 _ _) ?_); refine wpL_buildOne rfl _ 54 _ rfl ic _ Try.underlying26 IC.out ZC.out (by rw [SC.out]; decide) (by rw [SC.out]; decide) (.agg #[d0, d1]) [d0, d1] rfl rfl (by rw [SC.out]; rfl) ?_; intro q2 HBq FBq HSBq)
        | ((with_reducible refine K.atO (.call { callee := .builtin .append, args := _, argTypes := _ }) ?_); refine wpL_append rfl _ _ 26 rfl w1.heap.size 54 ic _ 2 40 Try.underlying26 IC.out ZC.out SC.out BC.out rfl (by decide) (.slice va i vc) i L.flatten rfl (by have h := (HRq.out.no hp.out FBq.out).r; rwa [HAL.out] at h) (some ⟨w4.heap.size, 0, none⟩) 1 _ [d0, d1] rfl rfl (.inr ⟨_, rfl, HBq.out.news⟩) (by intro u hu; exact HON.out u hu) (by unfold maxLen; omega) (by omega) (Nat.le_trans HFq.out.size FBq.out.size) ?_; intro qa qc q3 HOq HGq HAq; refine Hid.out ?_)
        | fail)
      have HFRq : Hid (Fr (fun k => (Value.slice va i vc).ownBlock = some k ∨ (Value.slice qa (i + 1) qc).ownBlock = some k) q2 q3) := hid ((frown HGq.out).mono fun k hk => .inl hk)
      have HLWq : Hid (∀ k, ((Value.slice va i vc).ownBlock = some k ∨ (Value.slice qa (i + 1) qc).ownBlock = some k) → w1.heap.size ≤ k) := hid (fun k hk => by
        rcases hk with h | h
        · exact own_low HRq.out.r k h
        · exact own_low HOq.out k h)
      have HKq := hid ((HRq.out.no hp.out FBq.out).step hp.out (N := wb.heap.size) (n := gn x) (cs := [d0, d1]) (hp.out.fr HPD.out FBq.out fun _ _ _ e => e) (Nat.le_trans HFI.out.size HBQ.out) (fun g hg => Nat.lt_of_lt_of_le (own_ge HKI.out.r g hg).2 HBQ.out) (by rw [HAL.out]; exact HOq.out) HFRq.out (or_own HAq.out))
      have HFKq : Hid (Fr No w1 q3) := hid ((HFq.out.trans' FBq.out).trans HFRq.out fun k hk => .inr (HLWq.out k hk))
      clear HBq FBq HSBq HOq HGq HAq HRq HFq HFRq HLWq HPD
      refine hid ?_
      go_wp2_with fail
      go_roundw
      case rel => exact ⟨i + 1, _, _, rfl, by go_num, HLT.out, hid ⟨by rw [HNX.out]; exact HKq.out, HFKq.out⟩⟩
      case measure => have := HLT.out; simp [intOf]; omega
    · obtain rfl : i = kl := by omega
      have hki := HKI.out
      rw [List.take_of_length_le (by rw [HKL.out]; exact Nat.le_refl _)] at hki
      have HKJ := hid hki
      have hlti : ¬ ((i : Int) < i) := by omega
      clear hki hlt
      go_wp2_with fail
      go_ret
      refine ⟨_, rfl, ?_, F1.out.trans' HFI.out⟩
      exact HKJ.out.sl hp.out F1.out.size (by rw [List.length_map, HKL.out]; omega)
set_option maxHeartbeats 8000000 in
theorem plistMo {α : Type} {p : (Nat → Prop) → World → α → List Value → Prop} (hp0 : GP 3 p) (gn : Nd → α) (f : FuncId) (M : Nat) (S : Nat → Prop) (n : Nd) (cs : List Value) (w : World) (hn : NdAt (M + 1) S w n cs) (hl : n.kids.length ≤ 100000)
    (hent : ∀ (vs : Array Value) (w : World), (callFunc f vs).run Try.prog w = .ok (.enter f vs) w)
    (hf : ∀ x ∈ n.kids, ∀ c wv, NdAt M S wv x c → Fr No w wv → Calls Try.prog f #[.agg c.toArray] wv fun e w' => ∃ ds, e = .returned (.agg ds.toArray) ∧ p (Since wv.heap.size) w' (gn x) ds ∧ Fr No wv w')  :
    Calls Try.prog 60 #[.agg cs.toArray, .func (.func f) #[] #[]] w fun e w' => ∃ v, e = .returned v ∧ Sl 3 (p (Since w.heap.size) w') (Since w.heap.size) w' v (n.kids.map gn) ∧ Fr No w w' := by
  obtain ⟨v0, hcs, hsl⟩ := nd_sl hn
  obtain ⟨a, cap, rfl, -, -⟩ := hsl.form
  have HN := hid hsl; have hp := hid hp0; have HE := hid hent; have HF := hid hf
  subst hcs
  obtain ⟨kl, hkl⟩ : ∃ k, n.kids.length = k := ⟨_, rfl⟩
  rw [hkl] at HN hl ⊢
  have HKL := hid hkl
  generalize sb n.body = bs
  generalize n.tag = tg
  have hkli : (kl : Int) ≤ 100000 := by omega
  obtain ⟨ic, hic, hzc, hsc, hbc⟩ := Go.info_parts infozMo
  have IC := hid hic; have ZC := hid hzc; have SC := hid hsc; have BC := hid hbc
  clear hn hsl hkl hp0 hent hf hic hzc hsc hbc
  go_enter Try.func60, Try.ntmps60
  go_wp2_with (first
    | ((with_reducible refine K.atO (.box 44 _) ?_); refine wpL_box rfl _ _ rfl _ rfl [.int .i64 tg, .string bs, .slice a kl cap] rfl ?_; intro w1 HB1 F1 HS1; have c2 : w1.cell? ⟨w.heap.size, 2, none⟩ = some (.slice a kl cap) := HB1.out.cell 2)
    | fail)
  clear c2
  go_loopw [5, 11] (fun kv iv wr => ∃ (i : Nat) (v : Value) (L : List (List Value)), kv = v ∧ iv = .int .i64 i ∧ i ≤ kl ∧ Hid (GR 56 3 p w1.heap.size ((n.kids.take i).map gn) v L wr ∧ Fr No w1 wr)) (fun _ iv _ => kl - (intOf iv).toNat)
  case atStart => exact ⟨0, _, [], rfl, rfl, Nat.zero_le _, hid ⟨GR.nil _ _, Fr.refl _ _⟩⟩
  case round =>
    obtain ⟨i, v, L, rfl, rfl, hi, HI⟩ := hrel
    have hal : ((n.kids.take i).map gn).length = i := by rw [List.length_map, List.length_take, HKL.out]; omega
    have hri := HI.out.1.r
    rw [hal] at hri
    obtain ⟨va, vc, rfl, -, -⟩ := own_form hri
    have HAL := hid hal; have HKI := hid HI.out.1; have HFI := hid HI.out.2
    clear hri hal HI
    by_cases hlt : i < kl
    · have hiX : i < n.kids.length := by rw [HKL.out]; exact hlt
      obtain ⟨x, hx⟩ : ∃ x, n.kids[i]? = some x := ⟨_, List.getElem?_eq_getElem hiX⟩
      have HXM := hid (List.mem_of_getElem? hx)
      have HNX : Hid ((n.kids.take (i + 1)).map gn = (n.kids.take i).map gn ++ [gn x]) := hid (by
        have hxx : n.kids[i] = x := by rw [List.getElem?_eq_getElem hiX] at hx; exact Option.some.inj hx
        rw [List.take_succ_eq_append_getElem hiX, List.map_append, hxx]; rfl)
      have hlti : (i : Int) < kl := by omega
      have hi0 : (0 : Int) ≤ i := by omega
      obtain ⟨g, ofs, cp, c, e1, hEg, hgw, hr, hc, hxa⟩ := (HN.out.fr (F1.out.trans' HFI.out) (fun _ _ _ e => e) (fun x c _ h => h.no (F1.out.trans' HFI.out))).get hx
      rw [HKL.out] at e1
      simp only [Value.slice.injEq, true_and] at e1
      obtain ⟨rfl, rfl⟩ := e1
      have HXA := hid hxa; have HC := hid hc; have HRR := hid hr; have HONE := hid hxa.one
      have HI3 : Hid ((Try.prog.info? 44).map (·.size) = some c.length) := hid (by rw [hc]; exact infoN)
      have HLT := hid hlt
      clear hc hEg hgw hr hxa hx hlt hiX
      go_wp2_with (first
        | ((with_reducible refine K.atO (.load 44 _) ?_); (fail_if_success (have := HBb)); refine wpL_load rfl _ _ rfl g (ofs + i * 3) rfl c _ HRR.out rfl rfl HI3.out ?_)
        | ((with_reducible refine K.atO (.alloc 44) ?_); refine wpL_alloc rfl _ rfl _ zeroN [.int .i64 0, .string ⟨#[]⟩, .slice none 0 0] rfl ?_; intro wa HBa FAa HSa)
        | ((with_reducible refine K.atO (.store 44 _ _) ?_); refine wpL_storeV rfl _ _ _ rfl wr.heap.size 0 (.agg c.toArray) c rfl rfl rfl _ _ HBa.out (by rw [HC.out]; simp) HI3.out HONE.out ?_; intro wb HBb FBb HSb; have HBc : Hid (Blk wb wr.heap.size 44 c) := hid (by have h := HBb.out; rwa [spl_all (by rw [HC.out]; simp)] at h))
        | ((with_reducible refine K.atO (.load 44 _) ?_); refine wpL_load rfl _ _ rfl wr.heap.size 0 rfl c _ (HBc.out.range 0 c (by rw [List.drop_zero, List.take_length])) rfl rfl HI3.out ?_)
        | ((with_reducible refine K.atO (.call { callee := .value _, args := _, argTypes := _ }) ?_); refine wpL_callP rfl _ [_] _ rfl f [] rfl HE.out [.agg c.toArray] rfl ?_)
        | fail)
      have hfb : Fr No wr wb := FAa.out.trans FBb.out (fun j e => .inr (by have e : j = wr.heap.size := e; omega))
      refine (HF.out x HXM.out c wb (HXA.out.no hfb) (F1.out.trans' (HFI.out.trans' hfb))).mono ?_
      rintro e w4 ⟨ds, rfl, hpd, f4⟩
      refine .inl ⟨_, rfl, ?_⟩
      obtain ⟨d0, d1, d2, rfl⟩ : ∃ d0 d1 d2, ds = [d0, d1, d2] := by
        have := hp.out.len hpd
        match ds, this with
        | [d0, d1, d2], _ => exact ⟨d0, d1, d2, rfl⟩
      have HFq := hid (HFI.out.trans' (hfb.trans' f4)); have HRq := hid (HKI.out.no hp.out (hfb.trans' f4)); have HPD := hid hpd; have HBQ := hid hfb.size
      have HON := hid (hp.out.one hpd)
      clear hfb f4 hpd HBa FAa HSa HBb FBb HSb HBc
      go_wp2_with (first
        | ((with_reducible refine K.atO (.buildSlice 27 _ _) ?_); refine wpL_buildOne rfl _ 56 _ rfl ic _ Try.underlying27 IC.out ZC.out (by rw [SC.out]; decide) (by rw [SC.out]; decide) (.agg #[d0, d1, d2]) [d0, d1, d2] rfl rfl (by rw [SC.out]; rfl) ?_; intro q2 HBq FBq HSBq)
        | ((with_reducible refine K.atO (.call { callee := .builtin .append, args := _, argTypes := _ }) ?_); refine wpL_append rfl _ _ 27 rfl w1.heap.size 56 ic _ 3 48 Try.underlying27 IC.out ZC.out SC.out BC.out rfl (by decide) (.slice va i vc) i L.flatten rfl (by have h := (HRq.out.no hp.out FBq.out).r; rwa [HAL.out] at h) (some ⟨w4.heap.size, 0, none⟩) 1 _ [d0, d1, d2] rfl rfl (.inr ⟨_, rfl, HBq.out.news⟩) (by intro u hu; exact HON.out u hu) (by unfold maxLen; omega) (by omega) (Nat.le_trans HFq.out.size FBq.out.size) ?_; intro qa qc q3 HOq HGq HAq; refine Hid.out ?_)
        | fail)
      have HFRq : Hid (Fr (fun k => (Value.slice va i vc).ownBlock = some k ∨ (Value.slice qa (i + 1) qc).ownBlock = some k) q2 q3) := hid ((frown HGq.out).mono fun k hk => .inl hk)
      have HLWq : Hid (∀ k, ((Value.slice va i vc).ownBlock = some k ∨ (Value.slice qa (i + 1) qc).ownBlock = some k) → w1.heap.size ≤ k) := hid (fun k hk => by
        rcases hk with h | h
        · exact own_low HRq.out.r k h
        · exact own_low HOq.out k h)
      have HKq := hid ((HRq.out.no hp.out FBq.out).step hp.out (N := wb.heap.size) (n := gn x) (cs := [d0, d1, d2]) (hp.out.fr HPD.out FBq.out fun _ _ _ e => e) (Nat.le_trans HFI.out.size HBQ.out) (fun g hg => Nat.lt_of_lt_of_le (own_ge HKI.out.r g hg).2 HBQ.out) (by rw [HAL.out]; exact HOq.out) HFRq.out (or_own HAq.out))
      have HFKq : Hid (Fr No w1 q3) := hid ((HFq.out.trans' FBq.out).trans HFRq.out fun k hk => .inr (HLWq.out k hk))
      clear HBq FBq HSBq HOq HGq HAq HRq HFq HFRq HLWq HPD
      refine hid ?_
      go_wp2_with fail
      go_roundw
      case rel => exact ⟨i + 1, _, _, rfl, by go_num, HLT.out, hid ⟨by rw [HNX.out]; exact HKq.out, HFKq.out⟩⟩
      case measure => have := HLT.out; simp [intOf]; omega
    · obtain rfl : i = kl := by omega
      have hki := HKI.out
      rw [List.take_of_length_le (by rw [HKL.out]; exact Nat.le_refl _)] at hki
      have HKJ := hid hki
      have hlti : ¬ ((i : Int) < i) := by omega
      clear hki hlt
      go_wp2_with fail
      go_ret
      refine ⟨_, rfl, ?_, F1.out.trans' HFI.out⟩
      exact HKJ.out.sl hp.out F1.out.size (by rw [List.length_map, HKL.out]; omega)
set_option maxHeartbeats 8000000 in
theorem plistFl {α : Type} {p : (Nat → Prop) → World → α → List Value → Prop} (hp0 : GP 7 p) (gn : Nd → α) (f : FuncId) (M : Nat) (S : Nat → Prop) (n : Nd) (cs : List Value) (w : World) (hn : NdAt (M + 1) S w n cs) (hl : n.kids.length ≤ 100000)
    (hent : ∀ (vs : Array Value) (w : World), (callFunc f vs).run Try.prog w = .ok (.enter f vs) w)
    (hf : ∀ x ∈ n.kids, ∀ c wv, NdAt M S wv x c → Fr No w wv → Calls Try.prog f #[.agg c.toArray] wv fun e w' => ∃ ds, e = .returned (.agg ds.toArray) ∧ p (Since wv.heap.size) w' (gn x) ds ∧ Fr No wv w')  :
    Calls Try.prog 84 #[.agg cs.toArray, .func (.func f) #[] #[]] w fun e w' => ∃ v, e = .returned v ∧ Sl 7 (p (Since w.heap.size) w') (Since w.heap.size) w' v (n.kids.map gn) ∧ Fr No w w' := by
  obtain ⟨v0, hcs, hsl⟩ := nd_sl hn
  obtain ⟨a, cap, rfl, -, -⟩ := hsl.form
  have HN := hid hsl; have hp := hid hp0; have HE := hid hent; have HF := hid hf
  subst hcs
  obtain ⟨kl, hkl⟩ : ∃ k, n.kids.length = k := ⟨_, rfl⟩
  rw [hkl] at HN hl ⊢
  have HKL := hid hkl
  generalize sb n.body = bs
  generalize n.tag = tg
  have hkli : (kl : Int) ≤ 100000 := by omega
  obtain ⟨ic, hic, hzc, hsc, hbc⟩ := Go.info_parts infozF
  have IC := hid hic; have ZC := hid hzc; have SC := hid hsc; have BC := hid hbc
  clear hn hsl hkl hp0 hent hf hic hzc hsc hbc
  go_enter Try.func84, Try.ntmps84
  go_wp2_with (first
    | ((with_reducible refine K.atO (.box 44 _) ?_); refine wpL_box rfl _ _ rfl _ rfl [.int .i64 tg, .string bs, .slice a kl cap] rfl ?_; intro w1 HB1 F1 HS1; have c2 : w1.cell? ⟨w.heap.size, 2, none⟩ = some (.slice a kl cap) := HB1.out.cell 2)
    | fail)
  clear c2
  go_loopw [5, 11] (fun kv iv wr => ∃ (i : Nat) (v : Value) (L : List (List Value)), kv = v ∧ iv = .int .i64 i ∧ i ≤ kl ∧ Hid (GR 25 7 p w1.heap.size ((n.kids.take i).map gn) v L wr ∧ Fr No w1 wr)) (fun _ iv _ => kl - (intOf iv).toNat)
  case atStart => exact ⟨0, _, [], rfl, rfl, Nat.zero_le _, hid ⟨GR.nil _ _, Fr.refl _ _⟩⟩
  case round =>
    obtain ⟨i, v, L, rfl, rfl, hi, HI⟩ := hrel
    have hal : ((n.kids.take i).map gn).length = i := by rw [List.length_map, List.length_take, HKL.out]; omega
    have hri := HI.out.1.r
    rw [hal] at hri
    obtain ⟨va, vc, rfl, -, -⟩ := own_form hri
    have HAL := hid hal; have HKI := hid HI.out.1; have HFI := hid HI.out.2
    clear hri hal HI
    by_cases hlt : i < kl
    · have hiX : i < n.kids.length := by rw [HKL.out]; exact hlt
      obtain ⟨x, hx⟩ : ∃ x, n.kids[i]? = some x := ⟨_, List.getElem?_eq_getElem hiX⟩
      have HXM := hid (List.mem_of_getElem? hx)
      have HNX : Hid ((n.kids.take (i + 1)).map gn = (n.kids.take i).map gn ++ [gn x]) := hid (by
        have hxx : n.kids[i] = x := by rw [List.getElem?_eq_getElem hiX] at hx; exact Option.some.inj hx
        rw [List.take_succ_eq_append_getElem hiX, List.map_append, hxx]; rfl)
      have hlti : (i : Int) < kl := by omega
      have hi0 : (0 : Int) ≤ i := by omega
      obtain ⟨g, ofs, cp, c, e1, hEg, hgw, hr, hc, hxa⟩ := (HN.out.fr (F1.out.trans' HFI.out) (fun _ _ _ e => e) (fun x c _ h => h.no (F1.out.trans' HFI.out))).get hx
      rw [HKL.out] at e1
      simp only [Value.slice.injEq, true_and] at e1
      obtain ⟨rfl, rfl⟩ := e1
      have HXA := hid hxa; have HC := hid hc; have HRR := hid hr; have HONE := hid hxa.one
      have HI3 : Hid ((Try.prog.info? 44).map (·.size) = some c.length) := hid (by rw [hc]; exact infoN)
      have HLT := hid hlt
      clear hc hEg hgw hr hxa hx hlt hiX
      go_wp2_with (first
        | ((with_reducible refine K.atO (.load 44 _) ?_); (fail_if_success (have := HBb)); refine wpL_load rfl _ _ rfl g (ofs + i * 3) rfl c _ HRR.out rfl rfl HI3.out ?_)
        | ((with_reducible refine K.atO (.alloc 44) ?_); refine wpL_alloc rfl _ rfl _ zeroN [.int .i64 0, .string ⟨#[]⟩, .slice none 0 0] rfl ?_; intro wa HBa FAa HSa)
        | ((with_reducible refine K.atO (.store 44 _ _) ?_); refine wpL_storeV rfl _ _ _ rfl wr.heap.size 0 (.agg c.toArray) c rfl rfl rfl _ _ HBa.out (by rw [HC.out]; simp) HI3.out HONE.out ?_; intro wb HBb FBb HSb; have HBc : Hid (Blk wb wr.heap.size 44 c) := hid (by have h := HBb.out; rwa [spl_all (by rw [HC.out]; simp)] at h))
        | ((with_reducible refine K.atO (.load 44 _) ?_); refine wpL_load rfl _ _ rfl wr.heap.size 0 rfl c _ (HBc.out.range 0 c (by rw [List.drop_zero, List.take_length])) rfl rfl HI3.out ?_)
        | ((with_reducible refine K.atO (.call { callee := .value _, args := _, argTypes := _ }) ?_); refine wpL_callP rfl _ [_] _ rfl f [] rfl HE.out [.agg c.toArray] rfl ?_)
        | fail)
      have hfb : Fr No wr wb := FAa.out.trans FBb.out (fun j e => .inr (by have e : j = wr.heap.size := e; omega))
      refine (HF.out x HXM.out c wb (HXA.out.no hfb) (F1.out.trans' (HFI.out.trans' hfb))).mono ?_
      rintro e w4 ⟨ds, rfl, hpd, f4⟩
      refine .inl ⟨_, rfl, ?_⟩
      obtain ⟨d0, d1, d2, d3, d4, d5, d6, rfl⟩ : ∃ d0 d1 d2 d3 d4 d5 d6, ds = [d0, d1, d2, d3, d4, d5, d6] := by
        have := hp.out.len hpd
        match ds, this with
        | [d0, d1, d2, d3, d4, d5, d6], _ => exact ⟨d0, d1, d2, d3, d4, d5, d6, rfl⟩
      have HFq := hid (HFI.out.trans' (hfb.trans' f4)); have HRq := hid (HKI.out.no hp.out (hfb.trans' f4)); have HPD := hid hpd; have HBQ := hid hfb.size
      have HON := hid (hp.out.one hpd)
      clear hfb f4 hpd HBa FAa HSa HBb FBb HSb HBc
      go_wp2_with (first
        | ((with_reducible refine K.atO (.buildSlice 22 _ _) ?_); refine wpL_buildOne rfl _ 25 _ rfl ic _ Try.underlying22 IC.out ZC.out (by rw [SC.out]; decide) (by rw [SC.out]; decide) (.agg #[d0, d1, d2, d3, d4, d5, d6]) [d0, d1, d2, d3, d4, d5, d6] rfl rfl (by rw [SC.out]; rfl) ?_; intro q2 HBq FBq HSBq)
        | ((with_reducible refine K.atO (.call { callee := .builtin .append, args := _, argTypes := _ }) ?_); refine wpL_append rfl _ _ 22 rfl w1.heap.size 25 ic _ 7 120 Try.underlying22 IC.out ZC.out SC.out BC.out rfl (by decide) (.slice va i vc) i L.flatten rfl (by have h := (HRq.out.no hp.out FBq.out).r; rwa [HAL.out] at h) (some ⟨w4.heap.size, 0, none⟩) 1 _ [d0, d1, d2, d3, d4, d5, d6] rfl rfl (.inr ⟨_, rfl, HBq.out.news⟩) (by intro u hu; exact HON.out u hu) (by unfold maxLen; omega) (by omega) (Nat.le_trans HFq.out.size FBq.out.size) ?_; intro qa qc q3 HOq HGq HAq; refine Hid.out ?_)
        | fail)
      have HFRq : Hid (Fr (fun k => (Value.slice va i vc).ownBlock = some k ∨ (Value.slice qa (i + 1) qc).ownBlock = some k) q2 q3) := hid ((frown HGq.out).mono fun k hk => .inl hk)
      have HLWq : Hid (∀ k, ((Value.slice va i vc).ownBlock = some k ∨ (Value.slice qa (i + 1) qc).ownBlock = some k) → w1.heap.size ≤ k) := hid (fun k hk => by
        rcases hk with h | h
        · exact own_low HRq.out.r k h
        · exact own_low HOq.out k h)
      have HKq := hid ((HRq.out.no hp.out FBq.out).step hp.out (N := wb.heap.size) (n := gn x) (cs := [d0, d1, d2, d3, d4, d5, d6]) (hp.out.fr HPD.out FBq.out fun _ _ _ e => e) (Nat.le_trans HFI.out.size HBQ.out) (fun g hg => Nat.lt_of_lt_of_le (own_ge HKI.out.r g hg).2 HBQ.out) (by rw [HAL.out]; exact HOq.out) HFRq.out (or_own HAq.out))
      have HFKq : Hid (Fr No w1 q3) := hid ((HFq.out.trans' FBq.out).trans HFRq.out fun k hk => .inr (HLWq.out k hk))
      clear HBq FBq HSBq HOq HGq HAq HRq HFq HFRq HLWq HPD
      refine hid ?_
      go_wp2_with fail
      go_roundw
      case rel => exact ⟨i + 1, _, _, rfl, by go_num, HLT.out, hid ⟨by rw [HNX.out]; exact HKq.out, HFKq.out⟩⟩
      case measure => have := HLT.out; simp [intOf]; omega
    · obtain rfl : i = kl := by omega
      have hki := HKI.out
      rw [List.take_of_length_le (by rw [HKL.out]; exact Nat.le_refl _)] at hki
      have HKJ := hid hki
      have hlti : ¬ ((i : Int) < i) := by omega
      clear hki hlt
      go_wp2_with fail
      go_ret
      refine ⟨_, rfl, ?_, F1.out.trans' HFI.out⟩
      exact HKJ.out.sl hp.out F1.out.size (by rw [List.length_map, HKL.out]; omega)
end Go.Proofs.Ythjmkfpdbbfcpaa.ME
