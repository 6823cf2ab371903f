/-
  Part 6 of the proof: MpQ, MpT.
-/
import Derived.Test.YthjmkfpdbbfcpaaMw05
set_option linter.unusedSimpArgs false
set_option linter.unusedVariables false
namespace Go.Proofs.Ythjmkfpdbbfcpaa.ME
set_option maxRecDepth 100000
open Go.RowKit K Go.Proofs.Ythjmkfpdbbfcpaa.BE Go.Proofs.Ythjmkfpdbbfcpaa.FR

theorem zeroNs : ∀ w, (zeroValue 42).run Try.prog w = .ok (.slice none 0 0) w := fun _ => by kernel_rfl
/-- What is left of a row of pieces: in a cell. -/
def Rest (M : Nat) (S : Nat → Prop) (w : World) (bn : Nat) (l : List Nd) : Prop := ∃ v, Blk w bn 42 [v] ∧ Sl 3 (NdAt M S w) S w v l
theorem Rest.fr {M : Nat} {S D : Nat → Prop} {w w' : World} {bn : Nat} {l : List Nd} (h : Rest M S w bn l) (hf : Fr D w w') (hd : ∀ i, S i → i < w.heap.size → ¬ D i) (hb : ¬ D bn) : Rest M S w' bn l := by
  obtain ⟨v, h1, h2⟩ := h
  exact ⟨v, h1.fr hf hb, h2.fr hf hd fun x c _ hx => NdAt.fr hf hd hx⟩
theorem Rest.no {M : Nat} {S : Nat → Prop} {w w' : World} {bn : Nat} {l : List Nd} (h : Rest M S w bn l) (hf : Fr No w w') : Rest M S w' bn l := h.fr hf (fun _ _ _ e => e) id
theorem Rest.lt {M : Nat} {S : Nat → Prop} {w : World} {bn : Nat} {l : List Nd} (h : Rest M S w bn l) : bn < w.heap.size := by
  obtain ⟨v, h1, -⟩ := h
  exact h1.lt
theorem nd_sl {M : Nat} {S : Nat → Prop} {w : World} {n : Nd} {cs : List Value} (h : NdAt (M + 1) S w n cs) : ∃ v, cs = [.int .i64 n.tag, .string (sb n.body), v] ∧ Sl 3 (NdAt M S w) S w v n.kids := by
  obtain ⟨a, cap, h1, h2, h3, h4, h5⟩ := h
  refine ⟨_, h1, a, cap, rfl, Nat.le_trans h4 (Nat.min_le_left _ _), Nat.le_trans h4 (Nat.min_le_right _ _), h5.imp id ?_⟩
  rintro ⟨g, o, L, e1, e2, e3, e4, e5, e6⟩
  refine ⟨g, o, L, e1, e2, e3, e4, e5, fun c hc => ?_, e6⟩
  obtain ⟨i, hi, rfl⟩ := List.mem_iff_getElem.1 hc
  exact (e6 i _ _ (List.getElem?_eq_getElem (by omega)) (List.getElem?_eq_getElem hi)).len
theorem sl_tail {M : Nat} {S : Nat → Prop} {w : World} {x : Nd} {r : List Nd} {g o cap : Nat} (h : Sl 3 (NdAt M S w) S w (.slice (some ⟨g, o, none⟩) (r.length + 1) (cap + 1)) (x :: r)) :
    (∃ c, w.rangeAt g o c ∧ c.length = 3 ∧ NdAt M S w x c) ∧ S g ∧ r.length ≤ cap ∧ Sl 3 (NdAt M S w) S w (.slice (some ⟨g, o + 3, none⟩) r.length cap) r := by
  obtain ⟨a, cap', e1, h2, h3, h4⟩ := h
  simp only [Value.slice.injEq] at e1
  obtain ⟨rfl, -, rfl⟩ := e1
  obtain ⟨g', o', L, e2, hS, hg, hr, hL, hc, hp⟩ := h4.resolve_left (by simp)
  simp only [Option.some.injEq, Addr.mk.injEq, and_true] at e2
  obtain ⟨rfl, rfl⟩ := e2
  match L, hL with
  | c :: L, hL =>
  have hc3 : c.length = 3 := hc c (by simp)
  rw [List.flatten_cons] at hr
  have hr1 : w.rangeAt g o c := fun j u hj => hr j u (by rw [List.getElem?_append_left (List.getElem?_eq_some_iff.1 hj).1]; exact hj)
  have hr2 : w.rangeAt g (o + 3) L.flatten := fun j u hj => by
    have := hr (j + 3) u (by rw [List.getElem?_append_right (by omega), hc3]; simpa using hj)
    rwa [show o + (j + 3) = o + 3 + j by omega] at this
  have hlen : L.length = r.length := by simpa using hL
  simp only [List.length_cons] at h2 h3
  refine ⟨⟨c, hr1, hc3, hp 0 x c rfl rfl⟩, hS, by omega, some ⟨g, o + 3, none⟩, cap, rfl, by omega, by omega, ?_⟩
  by_cases h0 : r = []
  · exact .inl h0
  · exact .inr ⟨g, o + 3, L, rfl, hS, hg, hr2, hlen, fun c' hc' => hc c' (by simp [hc']), fun j y c' hy hc' => hp (j + 1) y c' (by simpa using hy) (by simpa using hc')⟩
theorem slice_one (b o n c : Nat) (w : World) : (Instr.slice 42 (.slice (some ⟨b, o, none⟩) (n + 1) (c + 1)) (some (.int .i64 1)) none none).run Try.prog w = .ok (.slice (some (if c = 0 then ⟨b, o, none⟩ else ⟨b, o + 3, none⟩)) n c) w := by
  obtain ⟨i, hi, -, hs, -⟩ := Go.info_parts infozN
  have h1 : (1 : Int) ≤ (n : Int) + 1 := by omega
  by_cases hc : c = 0
  · subst hc
    simp [Instr.slice, Instr.sliceBounds, Instr.sliceBound, asIntOf, run_underlying Try.underlying42, sizeOf, typeInfo, hi, hs, h1]
  · simp [Instr.slice, Instr.sliceBounds, Instr.sliceBound, asIntOf, run_underlying Try.underlying42, sizeOf, typeInfo, hi, hs, h1, hc, Addr.add]
theorem exec_tail {op : Oper} {a : Act} (x : Operand) (ho : op.op = .slice 42 x (some (.const (.int .i64 1))) none none) (b o n c : Nat) (hx : a.eval x = .slice (some ⟨b, o, none⟩) (n + 1) (c + 1)) (w : World) :
    (execOp a.eval op).run Try.prog w = .ok (.value (.slice (some (if c = 0 then ⟨b, o, none⟩ else ⟨b, o + 3, none⟩)) n c)) w := by
  unfold execOp
  simp only [ho, Option.map_none, Option.map_some, hx]
  simp [Instr.sliceAt, run_underlying Try.underlying42, Act.eval, slice_one, Result.andThen]
set_option maxHeartbeats 8000000 in
theorem pchildren_any (M : Nat) (S : Nat → Prop) (n : Nd) (cs : List Value) (w : World) (hn : NdAt (M + 1) S w n cs) : Calls Try.prog 29 #[.agg cs.toArray] w fun e w' =>
    ∃ bn, e = .returned (.func (.func 54) #[] #[.pointer (some ⟨bn, 0, none⟩)]) ∧ w.heap.size ≤ bn ∧ Rest M S w' bn n.kids ∧ Fr No w w' := by
  obtain ⟨v, hcs, hsl⟩ := nd_sl hn
  have HSL := hid hsl
  obtain ⟨a, cap, rfl, -, -⟩ := hsl.form
  subst hcs
  generalize sb n.body = bs
  generalize n.tag = tg
  obtain ⟨kl, hkl⟩ : ∃ k, n.kids.length = k := ⟨_, rfl⟩
  rw [hkl] at HSL ⊢
  clear hn hsl hkl
  go_enter Try.func29, Try.ntmps29
  go_wp2_with (first
    | ((with_reducible refine K.atO (.box 44 _) ?_); refine wpL_box rfl _ _ rfl _ rfl [.int .i64 tg, .string bs, .slice a kl cap] rfl ?_; intro w1 HB1 F1 HS1; have c2 : w1.cell? ⟨w.heap.size, 2, none⟩ = some (.slice a kl cap) := HB1.out.cell 2)
    | ((with_reducible refine K.atO (.alloc 42) ?_); refine wpL_alloc rfl _ rfl _ zeroNs [.slice none 0 0] rfl ?_; intro w2 HB2 F2 HS2)
    | ((with_reducible refine K.atO (.store 42 _ _) ?_); refine wpL_setV rfl _ _ _ rfl w1.heap.size 0 (.slice a kl cap) rfl rfl rfl rfl _ _ HB2.out (by simp) infoNs ?_; intro w3 HB3 F3 HS3)
    | fail)
  go_ret
  have hf : Fr No w w3 := (F1.out.trans' F2.out).trans F3.out fun k e => .inr (by have e : k = w1.heap.size := e; have := F1.out.size; omega)
  exact ⟨w1.heap.size, rfl, F1.out.size, ⟨_, HB3.out, HSL.out.fr hf (fun _ _ _ e => e) fun x c _ hx => hx.no hf⟩, hf⟩
set_option maxHeartbeats 8000000 in
theorem pnext_any (M : Nat) (S : Nat → Prop) (bn : Nat) (l : List Nd) (w : World) (h : Rest (M + 1) S w bn l) (hS : ¬ S bn) : Calls Try.prog 54 #[.pointer (some ⟨bn, 0, none⟩)] w fun e w' =>
    ∃ cs, e = .returned (.agg cs.toArray) ∧ NdAt (M + 1) S w' (l.headD nd0) cs ∧ Rest (M + 1) S w' bn l.tail ∧ Fr (fun k => k = bn) w w' := by
  obtain ⟨v, hB, hsl⟩ := h
  have HB := hid hB; have HSL := hid hsl; have HLT := hid hB.lt
  cases l with
  | nil =>
    obtain ⟨a, cap, rfl, -, -⟩ := hsl.form
    have c0 : w.cell? ⟨bn, 0, none⟩ = some (.slice a 0 cap) := hB.cell 0
    clear hB hsl
    go_enter Try.func54, Try.ntmps54
    go_wp2_with (first
      | ((with_reducible refine K.atO (.alloc 44) ?_); refine wpL_alloc rfl _ rfl _ zeroN [.int .i64 0, .string ⟨#[]⟩, .slice none 0 0] rfl ?_; intro w1 HB1 F1 HS1; have c1 : w1.cell? ⟨bn, 0, none⟩ = some (.slice a 0 cap) := F1.out.cell c0 id)
      | ((with_reducible refine K.atO (.load 44 _) ?_); refine wpL_load rfl _ _ rfl w.heap.size 0 rfl [.int .i64 0, .string ⟨#[]⟩, .slice none 0 0] _ (HB1.out.range 0 _ rfl) rfl rfl infoN ?_)
      | ((with_reducible refine K.atO (.store 44 _ _) ?_); refine wpL_storeV rfl _ _ _ rfl w.heap.size 0 (.agg #[.int .i64 0, .string ⟨#[]⟩, .slice none 0 0]) [.int .i64 0, .string ⟨#[]⟩, .slice none 0 0] rfl rfl rfl _ _ HB1.out (by simp) infoN (by intro u hu; simp at hu; rcases hu with rfl | rfl | rfl <;> rfl) ?_; intro w2 HB2 F2 HS2)
      | fail)
    refine ret_cell rfl _ rfl HB2.out rfl rfl infoN rfl ?_
    have hf : Fr No w w2 := F1.out.trans F2.out fun k e => .inr (by have e : k = w.heap.size := e; omega)
    exact ⟨_, rfl, ⟨none, 0, rfl, by show _ ≤ (0 : Int) ∧ (0 : Int) ≤ _; omega, Nat.zero_le _, Nat.zero_le _, .inl rfl⟩, ⟨_, HB.out.fr hf id, HSL.out.fr hf (fun _ _ _ e => e) fun x c _ hx => hx.no hf⟩, hf.mono fun _ e => e.elim⟩
  | cons x r =>
    obtain ⟨a, cap0, rfl, hcp, hl0⟩ := hsl.form
    simp only [List.length_cons] at hcp hl0
    obtain ⟨cap, rfl⟩ : ∃ c, cap0 = c + 1 := ⟨cap0 - 1, by omega⟩
    obtain ⟨a', o', L, ea, hb⟩ : ∃ g o L, a = some ⟨g, o, none⟩ ∧ L = L := by
      obtain ⟨_, _, e1, _, _, h4⟩ := hsl
      simp only [Value.slice.injEq] at e1
      obtain ⟨rfl, -, -⟩ := e1
      obtain ⟨g, o, L, e, -⟩ := h4.resolve_left (by simp)
      exact ⟨g, o, L, e, rfl⟩
    subst ea
    obtain ⟨⟨c, hr, hc3, hx⟩, hSg, hrc, htl⟩ := sl_tail (cap := cap) (by simpa using hsl)
    have c0 : w.cell? ⟨bn, 0, none⟩ = some (.slice (some ⟨a', o', none⟩) (r.length + 1) (cap + 1)) := hB.cell 0
    have HX := hid hx; have HTL := hid htl; have HC3 := hid hc3; have HR := hid hr; have HONE := hid hx.one
    have HI3 : Hid ((Try.prog.info? 44).map (·.size) = some c.length) := hid (by rw [hc3]; exact infoN)
    have HB' : Hid (Blk w bn 42 [.slice (some ⟨a', o', none⟩) (r.length + 1) (cap + 1)]) := hid HB.out
    obtain ⟨rl, hrl⟩ : ∃ k, r.length = k := ⟨_, rfl⟩
    have HRL := hid hrl
    rw [hrl] at c0 HTL hl0 hrc HB'
    clear hB hsl hr hc3 hx htl hb HB HSL hrl hcp L
    have hrli : (rl : Int) ≤ 140737488351232 := by omega
    have hpos : (0 : Int) < ((rl + 1 : Nat) : Int) := by omega
    have hci : (1 : Int) ≤ ((cap + 1 : Nat) : Int) := by omega
    have hl1 : (1 : Int) ≤ ((rl + 1 : Nat) : Int) := by omega
    have hlc : ((rl + 1 : Nat) : Int) ≤ ((cap + 1 : Nat) : Int) := by omega
    go_enter Try.func54, Try.ntmps54
    go_wp2_with (first
      | ((with_reducible refine K.atO (.alloc 44) ?_); refine wpL_alloc rfl _ rfl _ zeroN [.int .i64 0, .string ⟨#[]⟩, .slice none 0 0] rfl ?_; intro w1 HB1 F1 HS1; have c1 : w1.cell? ⟨bn, 0, none⟩ = some (.slice (some ⟨a', o', none⟩) (rl + 1) (cap + 1)) := F1.out.cell c0 id)
      | fail)
    have r1 : w1.rangeAt a' o' c := F1.out.range HR.out id
    have hold : Facts.hold [(0, fun w' => w'.cell? ⟨bn, 0, none⟩ = some (.slice (some ⟨a', o', none⟩) (rl + 1) (cap + 1))), (2, fun w' => w'.rangeAt a' o' c), (3, fun w' => w'.cell? ⟨bn, 0, none⟩ = some (.slice (some ⟨a', o', none⟩) (rl + 1) (cap + 1)))] w1.drew := Facts.cons_hold c1 (Facts.cons_hold r1 (Facts.cons_hold c1 (Facts.nil_hold _)))
    refine wpD_region hold (by kernel_rfl) 7 rfl ?_
    (refine wpD_take 0 _ rfl (by kernel_rfl) (by kernel_rfl) (by kernel_rfl) (fun _ _ _ h => h) List.mem_cons_self (by rfl) (v := ?_) ?_ (by assumption) ?_; rotate_left; (intro _w _hw; go_simp; try with_reducible rfl); simp only [Act.put, K.put3])
    (refine wpD_plain 1 (v := ?_) rfl (by kernel_rfl) (by kernel_rfl) (by kernel_rfl) (fun _ _ _ h => h) (by rfl) ?_ (by assumption) ?_; rotate_left; (intro _w; go_simp; try with_reducible rfl); simp only [Act.put, K.put3])
    (refine wpD_take 2 _ rfl (by kernel_rfl) (by kernel_rfl) (by kernel_rfl) (fun _ _ _ h => h) (List.mem_cons_of_mem _ List.mem_cons_self) (by rfl) (exec_load _ _ rfl a' o' rfl _ _ rfl rfl HI3.out) (by assumption) ?_; simp only [Act.put, K.put3])
    (refine wpD_take 3 _ rfl (by kernel_rfl) (by kernel_rfl) (by kernel_rfl) (fun _ _ _ h => h) (List.mem_cons_of_mem _ (List.mem_cons_of_mem _ List.mem_cons_self)) (by rfl) (v := ?_) ?_ (by assumption) ?_; rotate_left; (intro _w _hw; go_simp; try with_reducible rfl); simp only [Act.put, K.put3])
    obtain ⟨ad, had⟩ : ∃ ad : Addr, (if cap = 0 then ⟨a', o', none⟩ else ⟨a', o' + 3, none⟩) = ad := ⟨_, rfl⟩
    have HTL2 : Hid (Sl 3 (NdAt (M + 1) S w) S w (.slice (some ad) rl cap) r) := hid (by
      by_cases h0 : cap = 0
      · have hr0 : r = [] := List.eq_nil_of_length_eq_zero (by have := HRL.out; omega)
        have h2 := HRL.out
        rw [hr0] at h2 ⊢
        exact ⟨_, cap, by rw [← h2], Nat.zero_le _, Nat.zero_le _, .inl rfl⟩
      · rw [if_neg h0] at had
        rw [← had]
        exact HTL.out)
    have HAD := hid had
    clear had
    (refine wpD_plain 4 (v := (.slice (some ad) rl cap)) rfl (by kernel_rfl) (by kernel_rfl) (by kernel_rfl) (fun _ _ _ h => h) (by rfl) ?_ (by assumption) ?_; (intro _w; rw [← HAD.out]; exact exec_tail _ rfl _ _ _ _ rfl _w); simp only [Act.put, K.put3])
    clear hold
    refine wpD_only 5 [(3, fun w' => w'.cell? ⟨bn, 0, none⟩ = some (.slice (some ⟨a', o', none⟩) (rl + 1) (cap + 1)))] rfl (by kernel_rfl) (by kernel_rfl) (by rfl) (fun K5 hK5 => ?_)
    refine wp_storeV _ _ _ rfl w.heap.size 0 (.agg c.toArray) c rfl rfl rfl _ _ (HB1.out.fr (Fr.refl No w1).drew id) (by rw [HC3.out]; try simp) HI3.out HONE.out ?_
    intro w2 HB2 F2 HS2
    have hne : ¬ bn = w.heap.size := by have := HLT.out; omega
    have hf12 : Fr (fun k => k = w.heap.size) w1 w2 := ((Fr.refl (fun k => k = w.heap.size) w1).drew).trans' F2.out
    refine hK5 _ _ (Facts.cons_hold (hf12.cell c1 hne) (Facts.nil_hold _)) ?_
    have HF12 := hid hf12
    have HBc : Hid (Blk w2 w.heap.size 44 c) := hid (by have h := HB2.out; rwa [spl_all (by rw [HC3.out]; simp)] at h)
    have HBn := hid ((HB'.out.fr F1.out id).fr hf12 hne)
    clear hK5 K5 hf12 c1 r1
    simp only [Act.put, K.put3]
    refine wpD_only 6 [] rfl (by kernel_rfl) (by kernel_rfl) (by rfl) (fun K6 hK6 => ?_)
    refine wp_storeV _ _ _ rfl bn 0 (.slice (some ad) rl cap) [.slice (some ad) rl cap] rfl rfl rfl _ _ HBn.out (by simp) infoNs (by intro u hu; simp at hu; subst hu; rfl) ?_
    intro w3 HB3 F3 HS3
    refine hK6 _ _ (Facts.nil_hold _) ?_
    clear hK6 K6
    simp only [Act.put, K.put3]
    refine wpD_done (by kernel_rfl) ?_ _
    have HBc3 := hid (HBc.out.fr F3.out (fun e => hne e.symm))
    have HF03 : Hid (Fr (fun k => k = bn) w w3) := hid (((F1.out.trans HF12.out fun k e => .inr (by have e : k = w.heap.size := e; omega)).mono fun _ e => e.elim).trans' F3.out)
    clear HB1 F1 HS1
    go_wp2_with (first
      | ((with_reducible refine K.atO (.load 44 _) ?_); refine wpL_load rfl _ _ rfl w.heap.size 0 rfl c _ (HBc3.out.range 0 _ (by rw [List.drop_zero, List.take_length])) rfl rfl HI3.out ?_)
      | ((with_reducible refine K.atO (.store 44 _ _) ?_); refine wpL_storeV rfl _ _ _ rfl w.heap.size 0 (.agg c.toArray) c rfl rfl rfl _ _ HBc3.out (by omega) HI3.out HONE.out ?_; intro w4 HB4 F4 HS4)
      | fail)
    have HBz : Hid (Blk w4 w.heap.size 44 c) := hid (by have h := HB4.out; rwa [spl_all rfl] at h)
    have hf : Fr (fun k => k = bn) w w4 := HF03.out.trans F4.out fun k e => .inr (by have e : k = w.heap.size := e; omega)
    refine ret_cell rfl _ rfl HBz.out rfl rfl HI3.out rfl ?_
    have hd : ∀ i, S i → i < w.heap.size → ¬ i = bn := fun i hi _ e => hS (e ▸ hi)
    exact ⟨c, rfl, NdAt.fr hf hd HX.out, ⟨_, HB3.out.fr F4.out (fun e => hne e), HTL2.out.fr hf hd fun x c _ hx => NdAt.fr hf hd hx⟩, hf⟩
theorem ptextOf_any (M : Nat) (S : Nat → Prop) (n : Nd) (cs : List Value) (w : World) (hn : NdAt M S w n cs) : Calls Try.prog 56 #[.agg cs.toArray] w fun e w' => e = .returned (.string (sb n.body)) ∧ Fr No w w' := by
  obtain ⟨a, sc, rfl, -, -, -⟩ := hn.head
  generalize n.kids.length = kl
  generalize n.tag = tg
  generalize sb n.body = bs
  clear hn
  go_enter Try.func56, Try.ntmps56
  go_wp2_with (first
    | ((with_reducible refine K.atO (.box 44 _) ?_); refine wpL_box rfl _ _ rfl _ rfl [.int .i64 tg, .string bs, .slice a kl sc] rfl ?_; intro w1 HB1 F1 HS1; have c1 : w1.cell? ⟨w.heap.size, 1, none⟩ = some (.string bs) := HB1.out.cell 1)
    | fail)
  go_ret
  exact ⟨rfl, F1.out⟩
set_option maxHeartbeats 4000000 in
theorem pnumberOf_any (M : Nat) (S : Nat → Prop) (n : Nd) (cs : List Value) (w : World) (hn : NdAt M S w n cs) : Calls Try.prog 30 #[.agg cs.toArray] w fun e w' => e = .returned (.int .i64 (valN n)) ∧ Fr No w w' := by
  obtain ⟨a, sc, rfl, -, hbl, -⟩ := hn.head
  have HBL := hid hbl
  generalize n.kids.length = kl
  generalize n.tag = tg
  obtain ⟨bs, hb⟩ : ∃ bs, sb n.body = bs := ⟨_, rfl⟩
  rw [hb]
  have HBS := hid hb
  clear hn hbl hb
  go_enter Try.func30, Try.ntmps30
  go_wp2_with (first
    | ((with_reducible refine K.atO (.box 44 _) ?_); refine wpL_box rfl _ _ rfl _ rfl [.int .i64 tg, .string bs, .slice a kl sc] rfl ?_; intro w1 HB1 F1 HS1;
        have c1 : w1.cell? ⟨w.heap.size, 1, none⟩ = some (.string bs) := HB1.out.cell 1)
    | fail)
  rw [← HBS.out]
  refine (BE.number_any n.body w1 (by have h : n.body.length ≤ 140737488351232 := HBL.out; omega)).mono ?_
  rintro e w2 ⟨rfl, f2⟩
  have HF := hid (F1.out.trans' f2)
  clear f2 c1
  obtain ⟨v, hv⟩ : ∃ v, (numS n.body).1 = v := ⟨_, rfl⟩
  have HV : Hid (valN n = v) := hid hv
  rw [hv]
  generalize (numS n.body).2 = u
  clear hv
  go_wp2_with fail
  go_ret
  exact ⟨by rw [HV.out]; rfl, HF.out⟩
set_option maxHeartbeats 4000000 in
theorem ptruthOf_any (M : Nat) (S : Nat → Prop) (n : Nd) (cs : List Value) (w : World) (hn : NdAt M S w n cs) : Calls Try.prog 57 #[.agg cs.toArray] w fun e w' => e = .returned (.bool (decide (n.body = [255]))) ∧ Fr No w w' := by
  obtain ⟨a, sc, rfl, -, -, -⟩ := hn.head
  generalize n.kids.length = kl
  generalize n.tag = tg
  obtain ⟨bs, hbs⟩ : ∃ bs, n.body = bs := ⟨_, rfl⟩
  rw [hbs]
  clear hn hbs
  go_enter Try.func57, Try.ntmps57
  go_wp2_with (first
    | ((with_reducible refine K.atO (.box 44 _) ?_); refine wpL_box rfl _ _ rfl _ rfl [.int .i64 tg, .string (sb bs), .slice a kl sc] rfl ?_; intro w1 HB1 F1 HS1; have c1 : w1.cell? ⟨w.heap.size, 1, none⟩ = some (.string (sb bs)) := HB1.out.cell 1)
    | ((with_reducible refine K.atO (.binOp .eql 9 _ _ _) ?_); refine wpL_valZ (by rfl) (.bool (decide (bs = [255]))) (exec_eqS _ _ _ rfl bs [255] rfl rfl _) ?_)
    | fail)
  go_ret
  exact ⟨rfl, F1.out⟩
end Go.Proofs.Ythjmkfpdbbfcpaa.ME

namespace Go.Proofs.Ythjmkfpdbbfcpaa.ME
set_option maxRecDepth 100000
open Go.RowKit K Go.Proofs.Ythjmkfpdbbfcpaa.BE Go.Proofs.Ythjmkfpdbbfcpaa.FR

/-- Elements in memory: what a row of them must bear. -/
structure GP {α : Type} (k : Nat) (p : (Nat → Prop) → World → α → List Value → Prop) : Prop where
  fr : ∀ {S D : Nat → Prop} {w w' : World} {x : α} {c : List Value}, p S w x c → Fr D w w' → (∀ i, S i → i < w.heap.size → ¬ D i) → p S w' x c
  mono : ∀ {S S' : Nat → Prop} {w : World} {x : α} {c : List Value}, p S w x c → (∀ i, i < w.heap.size → S i → S' i) → p S' w x c
  len : ∀ {S : Nat → Prop} {w : World} {x : α} {c : List Value}, p S w x c → c.length = k
  one : ∀ {S : Nat → Prop} {w : World} {x : α} {c : List Value}, p S w x c → ∀ u ∈ c, u.oneCell' = true
structure GR {α : Type} (T : TypeId) (k : Nat) (p : (Nat → Prop) → World → α → List Value → Prop) (base : Nat) (acc : List α) (v : Value) (L : List (List Value)) (w : World) : Prop where
  r : w.ownsRow base T k v acc.length L.flatten
  l : L.length = acc.length
  s : ∀ c ∈ L, c.length = k
  k : ∀ (j : Nat) (x : α) (c : List Value), acc[j]? = some x → L[j]? = some c → p (fun k => base ≤ k ∧ v.ownBlock ≠ some k) w x c
section
variable {α : Type} {T : TypeId} {k : Nat} {p : (Nat → Prop) → World → α → List Value → Prop}
theorem GR.no (hp : GP k p) {base : Nat} {acc : List α} {v : Value} {L : List (List Value)} {w w' : World} (h : GR T k p base acc v L w) (hf : Fr No w w') : GR T k p base acc v L w' :=
  ⟨own_fr h.r hf (fun _ _ e => e), h.l, h.s, fun j x c hx hc => hp.fr (h.k j x c hx hc) hf fun _ _ _ e => e⟩
theorem GR.nil (base : Nat) (w : World) : GR T k p base [] (.slice none 0 0) [] w := ⟨World.ownsRow_nil _ _ _ _, rfl, (fun _ h => by cases h), fun j x c hx => by simp at hx⟩
theorem GR.step (hp : GP k p) {base : Nat} {acc : List α} {v : Value} {L : List (List Value)} {w w' : World} (h : GR T k p base acc v L w) {N : Nat} {n : α} {cs : List Value} (hn : p (Since N) w n cs) (hN : base ≤ N) (hv : ∀ g, v.ownBlock = some g → g < N)
    {v' : Value} (hr : w'.ownsRow base T k v' (acc.length + 1) (L.flatten ++ cs)) (hf : Fr (fun k => v.ownBlock = some k ∨ v'.ownBlock = some k) w w')
    (ho : ∀ g, v'.ownBlock = some g → v.ownBlock = some g ∨ w.heap.size ≤ g) : GR T k p base (acc ++ [n]) v' (L ++ [cs]) w' := by
  have key : ∀ (x : α) (c : List Value), p (fun k => base ≤ k ∧ v.ownBlock ≠ some k) w x c → p (fun k => base ≤ k ∧ v'.ownBlock ≠ some k) w' x c := fun x c hx => by
    have h1 : p (fun k => base ≤ k ∧ v.ownBlock ≠ some k ∧ v'.ownBlock ≠ some k) w x c := hp.mono hx (fun k hk hs => ⟨hs.1, hs.2, fun e => by
      rcases ho k e with h | h
      · exact hs.2 h
      · omega⟩)
    refine hp.mono (hp.fr h1 hf (fun k hs _ e => ?_)) (fun k _ hs => ⟨hs.1, hs.2.2⟩)
    rcases e with e | e
    · exact hs.2.1 e
    · exact hs.2.2 e
  have kn : p (fun k => base ≤ k ∧ v.ownBlock ≠ some k) w n cs := hp.mono hn (fun k hk hs => ⟨Nat.le_trans hN hs, fun e => by have := hv k e; have hs : N ≤ k := hs; omega⟩)
  refine ⟨?_, by simp [h.l], fun c hc => ?_, fun j x c hx hc => ?_⟩
  · rw [List.length_append, List.flatten_append]
    simpa using hr
  · rcases List.mem_append.1 hc with hc | hc
    · exact h.s c hc
    · obtain rfl : c = cs := by simpa using hc
      exact hp.len hn
  · rcases Nat.lt_or_ge j acc.length with hj | hj
    · rw [List.getElem?_append_left hj] at hx
      rw [List.getElem?_append_left (by rw [h.l]; exact hj)] at hc
      exact key x c (h.k j x c hx hc)
    · have h0 : j - acc.length = 0 := by
        have := (List.getElem?_eq_some_iff.1 hx).1
        simp at this; omega
      rw [List.getElem?_append_right hj, h0] at hx
      rw [List.getElem?_append_right (by rw [h.l]; exact hj), h.l, h0] at hc
      obtain rfl : n = x := by simpa using hx
      obtain rfl : cs = c := by simpa using hc
      exact key n cs kn
theorem GR.sl (hp : GP k p) {base N : Nat} {acc : List α} {v : Value} {L : List (List Value)} {w : World} (h : GR T k p base acc v L w) (hN : N ≤ base) (hl : acc.length ≤ 140737488351232) : Sl k (p (Since N) w) (Since N) w v acc := by
  obtain ⟨a, cap, hv, hcap, hg⟩ := own_form h.r
  have hr0 := h.r
  rw [hv] at hr0
  refine ⟨a, cap, hv, own_cap hr0, hl, ?_⟩
  by_cases h0 : acc = []
  · exact .inl h0
  · right
    have hpos : 0 < acc.length := by
      rcases Nat.eq_zero_or_pos acc.length with h1 | h1
      · exact absurd (List.eq_nil_of_length_eq_zero h1) h0
      · exact h1
    obtain ⟨g, rfl⟩ := hg hpos
    have hgw := own_ge h.r g (by rw [hv]; rfl)
    refine ⟨g, 0, L, rfl, Nat.le_trans hN hgw.1, hgw.2, ?_, h.l, h.s, fun j x c hx hc => hp.mono (h.k j x c hx hc) (fun k _ hk => Nat.le_trans hN hk.1)⟩
    intro j u hj
    have := h.r.cells (g := g) (by rw [hv]; rfl) j u hj
    rwa [Addr.add_mid] at this
end
def TxP (_ : Nat → Prop) (_ : World) (x : B) (c : List Value) : Prop := c = [.string (sb x)] ∧ Sz x
theorem gpTx : GP 1 TxP := ⟨fun h _ _ => h, fun h _ => h, fun h => by rw [h.1]; rfl, fun h u hu => by rw [h.1] at hu; simp at hu; subst hu; rfl⟩
theorem gpAt : GP 2 AtC := ⟨fun h hf hd => h.fr hf hd, fun h hs => by obtain ⟨v, h1, h2, h3⟩ := h; exact ⟨v, h1, h2, h3.monoS hs⟩, fun h => by obtain ⟨v, rfl, -⟩ := h; rfl, fun h => by
  obtain ⟨v, rfl, -, ht⟩ := h
  obtain ⟨_, _, rfl, -, -⟩ := ht.form
  intro u hu
  simp at hu
  rcases hu with rfl | rfl <;> rfl⟩
theorem gpMo : GP 3 MoC := ⟨fun h hf hd => h.fr hf hd, fun h hs => by obtain ⟨v, h1, h2, h3, h4⟩ := h; exact ⟨v, h1, h2, h3, h4.monoS hs⟩, fun h => by obtain ⟨v, rfl, -⟩ := h; rfl, fun h => by
  obtain ⟨v, rfl, -, -, ht⟩ := h
  obtain ⟨_, _, rfl, -, -⟩ := ht.form
  intro u hu
  simp at hu
  rcases hu with rfl | rfl | rfl <;> rfl⟩
theorem gpFl (M : Nat) : GP 7 (FlC M) := ⟨fun h hf hd => h.fr hf hd, fun h hs => h.monoS hs, fun h => h.len, fun h => h.one⟩
theorem sl_tx {S : Nat → Prop} {w : World} {v : Value} {xs : List B} (h : Sl 1 (TxP S w) S w v xs) : Tx S w v xs := by
  obtain ⟨a, cap, h1, h2, h3, h4⟩ := h
  have hsz : ∀ x ∈ xs, Sz x := fun x hx => by
    rcases h4 with h4 | ⟨g, o, L, e, hS, hg, hr, hL, hc, hp⟩
    · rw [h4] at hx; cases hx
    · obtain ⟨i, hi, rfl⟩ := List.mem_iff_getElem.1 hx
      exact (hp i _ _ (List.getElem?_eq_getElem hi) (List.getElem?_eq_getElem (by omega))).2
  refine ⟨⟨a, xs.length, cap, h1, rfl, h2, ?_⟩, h3, hsz⟩
  by_cases h0 : xs = []
  · exact .inl (by rw [h0]; rfl)
  obtain ⟨g, o, L, e, hS, hg, hr, hL, hc, hp⟩ := h4.resolve_left h0
  refine .inr ⟨g, o, e, hS, hg, ?_⟩
  have hLe : L.flatten = strs xs := by
    have : L = xs.map (fun x => [Value.string (sb x)]) := by
      apply List.ext_getElem? 
      intro i
      rcases Nat.lt_or_ge i xs.length with hi | hi
      · rw [List.getElem?_map, List.getElem?_eq_getElem hi, List.getElem?_eq_getElem (by omega : i < L.length)]
        exact congrArg some (hp i _ _ (List.getElem?_eq_getElem hi) (List.getElem?_eq_getElem (by omega))).1
      · rw [List.getElem?_eq_none (by omega), List.getElem?_eq_none (by simpa using hi)]
    rw [this]
    unfold strs
    clear hr hL hc hp h4 h0 hsz h1 h2 h3 this
    induction xs with
    | nil => rfl
    | cons x r ih => simp only [List.map_cons, List.flatten_cons, ih]; rfl
  rw [← hLe]
  exact hr
theorem infozAt : (Try.prog.info? 54).map (fun i => (i.zero, i.size, i.bytes)) = some (some (.agg #[.string ⟨#[]⟩, .slice none 0 0]), 2, 40) := by kernel_rfl
theorem infozMo : (Try.prog.info? 56).map (fun i => (i.zero, i.size, i.bytes)) = some (some (.agg #[.int .i64 0, .string ⟨#[]⟩, .slice none 0 0]), 3, 48) := by kernel_rfl
set_option maxHeartbeats 8000000 in
theorem plistTx {α : Type} {p : (Nat → Prop) → World → α → List Value → Prop} (hp0 : GP 1 p) (gn : Nd → α) (f : FuncId) (M : Nat) (S : Nat → Prop) (n : Nd) (cs : List Value) (w : World) (hn : NdAt (M + 1) S w n cs) (hl : n.kids.length ≤ 100000)
    (hent : ∀ (vs : Array Value) (w : World), (callFunc f vs).run Try.prog w = .ok (.enter f vs) w)
    (hf : ∀ x ∈ n.kids, ∀ c wv, NdAt M S wv x c → Fr No w wv → Calls Try.prog f #[.agg c.toArray] wv fun e w' => ∃ ds, e = .returned (ds.headD undef) ∧ p (Since wv.heap.size) w' (gn x) ds ∧ Fr No wv w') (hstr : ∀ S w x c, p S w x c → ∃ D, c = [Value.string D]) :
    Calls Try.prog 59 #[.agg cs.toArray, .func (.func f) #[] #[]] w fun e w' => ∃ v, e = .returned v ∧ Sl 1 (p (Since w.heap.size) w') (Since w.heap.size) w' v (n.kids.map gn) ∧ Fr No w w' := by
  obtain ⟨v0, hcs, hsl⟩ := nd_sl hn
  obtain ⟨a, cap, rfl, -, -⟩ := hsl.form
  have HN := hid hsl; have hp := hid hp0; have HE := hid hent; have HF := hid hf; have HSTR := hid hstr
  subst hcs
  obtain ⟨kl, hkl⟩ : ∃ k, n.kids.length = k := ⟨_, rfl⟩
  rw [hkl] at HN hl ⊢
  have HKL := hid hkl
  generalize sb n.body = bs
  generalize n.tag = tg
  have hkli : (kl : Int) ≤ 100000 := by omega
  obtain ⟨ic, hic, hzc, hsc, hbc⟩ := Go.info_parts infoS3
  have IC := hid hic; have ZC := hid hzc; have SC := hid hsc; have BC := hid hbc
  clear hn hsl hkl hp0 hent hf hic hzc hsc hbc hstr
  go_enter Try.func59, Try.ntmps59
  go_wp2_with (first
    | ((with_reducible refine K.atO (.box 44 _) ?_); refine wpL_box rfl _ _ rfl _ rfl [.int .i64 tg, .string bs, .slice a kl cap] rfl ?_; intro w1 HB1 F1 HS1; have c2 : w1.cell? ⟨w.heap.size, 2, none⟩ = some (.slice a kl cap) := HB1.out.cell 2)
    | fail)
  clear c2
  go_loopw [5, 11] (fun kv iv wr => ∃ (i : Nat) (v : Value) (L : List (List Value)), kv = v ∧ iv = .int .i64 i ∧ i ≤ kl ∧ Hid (GR 9 1 p w1.heap.size ((n.kids.take i).map gn) v L wr ∧ Fr No w1 wr)) (fun _ iv _ => kl - (intOf iv).toNat)
  case atStart => exact ⟨0, _, [], rfl, rfl, Nat.zero_le _, hid ⟨GR.nil _ _, Fr.refl _ _⟩⟩
  case round =>
    obtain ⟨i, v, L, rfl, rfl, hi, HI⟩ := hrel
    have hal : ((n.kids.take i).map gn).length = i := by rw [List.length_map, List.length_take, HKL.out]; omega
    have hri := HI.out.1.r
    rw [hal] at hri
    obtain ⟨va, vc, rfl, -, -⟩ := own_form hri
    have HAL := hid hal; have HKI := hid HI.out.1; have HFI := hid HI.out.2
    clear hri hal HI
    by_cases hlt : i < kl
    · have hiX : i < n.kids.length := by rw [HKL.out]; exact hlt
      obtain ⟨x, hx⟩ : ∃ x, n.kids[i]? = some x := ⟨_, List.getElem?_eq_getElem hiX⟩
      have HXM := hid (List.mem_of_getElem? hx)
      have HNX : Hid ((n.kids.take (i + 1)).map gn = (n.kids.take i).map gn ++ [gn x]) := hid (by
        have hxx : n.kids[i] = x := by rw [List.getElem?_eq_getElem hiX] at hx; exact Option.some.inj hx
        rw [List.take_succ_eq_append_getElem hiX, List.map_append, hxx]; rfl)
      have hlti : (i : Int) < kl := by omega
      have hi0 : (0 : Int) ≤ i := by omega
      obtain ⟨g, ofs, cp, c, e1, hEg, hgw, hr, hc, hxa⟩ := (HN.out.fr (F1.out.trans' HFI.out) (fun _ _ _ e => e) (fun x c _ h => h.no (F1.out.trans' HFI.out))).get hx
      rw [HKL.out] at e1
      simp only [Value.slice.injEq, true_and] at e1
      obtain ⟨rfl, rfl⟩ := e1
      have HXA := hid hxa; have HC := hid hc; have HRR := hid hr; have HONE := hid hxa.one
      have HI3 : Hid ((Try.prog.info? 44).map (·.size) = some c.length) := hid (by rw [hc]; exact infoN)
      have HLT := hid hlt
      clear hc hEg hgw hr hxa hx hlt hiX
      go_wp2_with (first
        | ((with_reducible refine K.atO (.load 44 _) ?_); (fail_if_success (have := HBb)); refine wpL_load rfl _ _ rfl g (ofs + i * 3) rfl c _ HRR.out rfl rfl HI3.out ?_)
        | ((with_reducible refine K.atO (.alloc 44) ?_); refine wpL_alloc rfl _ rfl _ zeroN [.int .i64 0, .string ⟨#[]⟩, .slice none 0 0] rfl ?_; intro wa HBa FAa HSa)
        | ((with_reducible refine K.atO (.store 44 _ _) ?_); refine wpL_storeV rfl _ _ _ rfl wr.heap.size 0 (.agg c.toArray) c rfl rfl rfl _ _ HBa.out (by rw [HC.out]; simp) HI3.out HONE.out ?_; intro wb HBb FBb HSb; have HBc : Hid (Blk wb wr.heap.size 44 c) := hid (by have h := HBb.out; rwa [spl_all (by rw [HC.out]; simp)] at h))
        | ((with_reducible refine K.atO (.load 44 _) ?_); refine wpL_load rfl _ _ rfl wr.heap.size 0 rfl c _ (HBc.out.range 0 c (by rw [List.drop_zero, List.take_length])) rfl rfl HI3.out ?_)
        | ((with_reducible refine K.atO (.call { callee := .value _, args := _, argTypes := _ }) ?_); refine wpL_callP rfl _ [_] _ rfl f [] rfl HE.out [.agg c.toArray] rfl ?_)
        | fail)
      have hfb : Fr No wr wb := FAa.out.trans FBb.out (fun j e => .inr (by have e : j = wr.heap.size := e; omega))
      refine (HF.out x HXM.out c wb (HXA.out.no hfb) (F1.out.trans' (HFI.out.trans' hfb))).mono ?_
      rintro e w4 ⟨ds, rfl, hpd, f4⟩
      refine .inl ⟨_, rfl, ?_⟩
      obtain ⟨D, rfl⟩ := HSTR.out _ _ _ _ hpd
      have HFq := hid (HFI.out.trans' (hfb.trans' f4)); have HRq := hid (HKI.out.no hp.out (hfb.trans' f4)); have HPD := hid hpd; have HBQ := hid hfb.size
      have HON := hid (hp.out.one hpd)
      clear hfb f4 hpd HBa FAa HSa HBb FBb HSb HBc
      go_wp2_with (first
        | ((with_reducible refine K.atO (.buildSlice 23 _ _) ?_); refine wpL_buildOne rfl _ 9 _ rfl ic _ Try.underlying23 IC.out ZC.out (by rw [SC.out]; decide) (by rw [SC.out]; decide) (.string D) [.string D] rfl rfl (by rw [SC.out]; rfl) ?_; intro q2 HBq FBq HSBq)
        | ((with_reducible refine K.atO (.call { callee := .builtin .append, args := _, argTypes := _ }) ?_); refine wpL_append rfl _ _ 23 rfl w1.heap.size 9 ic _ 1 16 Try.underlying23 IC.out ZC.out SC.out BC.out rfl (by decide) (.slice va i vc) i L.flatten rfl (by have h := (HRq.out.no hp.out FBq.out).r; rwa [HAL.out] at h) (some ⟨w4.heap.size, 0, none⟩) 1 _ [.string D] rfl rfl (.inr ⟨_, rfl, HBq.out.news⟩) (by intro u hu; exact HON.out u hu) (by unfold maxLen; omega) (by omega) (Nat.le_trans HFq.out.size FBq.out.size) ?_; intro qa qc q3 HOq HGq HAq; refine Hid.out ?_)
        | fail)
      have HFRq : Hid (Fr (fun k => (Value.slice va i vc).ownBlock = some k ∨ (Value.slice qa (i + 1) qc).ownBlock = some k) q2 q3) := hid ((frown HGq.out).mono fun k hk => .inl hk)
      have HLWq : Hid (∀ k, ((Value.slice va i vc).ownBlock = some k ∨ (Value.slice qa (i + 1) qc).ownBlock = some k) → w1.heap.size ≤ k) := hid (fun k hk => by
        rcases hk with h | h
        · exact own_low HRq.out.r k h
        · exact own_low HOq.out k h)
      have HKq := hid ((HRq.out.no hp.out FBq.out).step hp.out (N := wb.heap.size) (n := gn x) (cs := [.string D]) (hp.out.fr HPD.out FBq.out fun _ _ _ e => e) (Nat.le_trans HFI.out.size HBQ.out) (fun g hg => Nat.lt_of_lt_of_le (own_ge HKI.out.r g hg).2 HBQ.out) (by rw [HAL.out]; exact HOq.out) HFRq.out (or_own HAq.out))
      have HFKq : Hid (Fr No w1 q3) := hid ((HFq.out.trans' FBq.out).trans HFRq.out fun k hk => .inr (HLWq.out k hk))
      clear HBq FBq HSBq HOq HGq HAq HRq HFq HFRq HLWq HPD
      refine hid ?_
      go_wp2_with fail
      go_roundw
      case rel => exact ⟨i + 1, _, _, rfl, by go_num, HLT.out, hid ⟨by rw [HNX.out]; exact HKq.out, HFKq.out⟩⟩
      case measure => have := HLT.out; simp [intOf]; omega
    · obtain rfl : i = kl := by omega
      have hki := HKI.out
      rw [List.take_of_length_le (by rw [HKL.out]; exact Nat.le_refl _)] at hki
      have HKJ := hid hki
      have hlti : ¬ ((i : Int) < i) := by omega
      clear hki hlt
      go_wp2_with fail
      go_ret
      refine ⟨_, rfl, ?_, F1.out.trans' HFI.out⟩
      exact HKJ.out.sl hp.out F1.out.size (by rw [List.length_map, HKL.out]; omega)
set_option maxHeartbeats 8000000 in
theorem plistAt {α : Type} {p : (Nat → Prop) → World → α → List Value → Prop} (hp0 : GP 2 p) (gn : Nd → α) (f : FuncId) (M : Nat) (S : Nat → Prop) (n : Nd) (cs : List Value) (w : World) (hn : NdAt (M + 1) S w n cs) (hl : n.kids.length ≤ 100000)
    (hent : ∀ (vs : Array Value) (w : World), (callFunc f vs).run Try.prog w = .ok (.enter f vs) w)
    (hf : ∀ x ∈ n.kids, ∀ c wv, NdAt M S wv x c → Fr No w wv → Calls Try.prog f #[.agg c.toArray] wv fun e w' => ∃ ds, e = .returned (.agg ds.toArray) ∧ p (Since wv.heap.size) w' (gn x) ds ∧ Fr No wv w')  :
    Calls Try.prog 62 #[.agg cs.toArray, .func (.func f) #[] #[]] w fun e w' => ∃ v, e = .returned v ∧ Sl 2 (p (Since w.heap.size) w') (Since w.heap.size) w' v (n.kids.map gn) ∧ Fr No w w' := by
  obtain ⟨v0, hcs, hsl⟩ := nd_sl hn
  obtain ⟨a, cap, rfl, -, -⟩ := hsl.form
  have HN := hid hsl; have hp := hid hp0; have HE := hid hent; have HF := hid hf
  subst hcs
  obtain ⟨kl, hkl⟩ : ∃ k, n.kids.length = k := ⟨_, rfl⟩
  rw [hkl] at HN hl ⊢
  have HKL := hid hkl
  generalize sb n.body = bs
  generalize n.tag = tg
  have hkli : (kl : Int) ≤ 100000 := by omega
  obtain ⟨ic, hic, hzc, hsc, hbc⟩ := Go.info_parts infozAt
  have IC := hid hic; have ZC := hid hzc; have SC := hid hsc; have BC := hid hbc
  clear hn hsl hkl hp0 hent hf hic hzc hsc hbc
  go_enter Try.func62, Try.ntmps62
  go_wp2_with (first
    | ((with_reducible refine K.atO (.box 44 _) ?_); refine wpL_box rfl _ _ rfl _ rfl [.int .i64 tg, .string bs, .slice a kl cap] rfl ?_; intro w1 HB1 F1 HS1; have c2 : w1.cell? ⟨w.heap.size, 2, none⟩ = some (.slice a kl cap) := HB1.out.cell 2)
    | fail)
  clear c2
  go_loopw [5, 11] (fun kv iv wr => ∃ (i : Nat) (v : Value) (L : List (List Value)), kv = v ∧ iv = .int .i64 i ∧ i ≤ kl ∧ Hid (GR 54 2 p w1.heap.size ((n.kids.take i).map gn) v L wr ∧ Fr No w1 wr)) (fun _ iv _ => kl - (intOf iv).toNat)
  case atStart => exact ⟨0, _, [], rfl, rfl, Nat.zero_le _, hid ⟨GR.nil _ _, Fr.refl _ _⟩⟩
  case round =>
    obtain ⟨i, v, L, rfl, rfl, hi, HI⟩ := hrel
    have hal : ((n.kids.take i).map gn).length = i := by rw [List.length_map, List.length_take, HKL.out]; omega
    have hri := HI.out.1.r
    rw [hal] at hri
    obtain ⟨va, vc, rfl, -, -⟩ := own_form hri
    have HAL := hid hal; have HKI := hid HI.out.1; have HFI := hid HI.out.2
    clear hri hal HI
    by_cases hlt : i < kl
    · have hiX : i < n.kids.length := by rw [HKL.out]; exact hlt
      obtain ⟨x, hx⟩ : ∃ x, n.kids[i]? = some x := ⟨_, List.getElem?_eq_getElem hiX⟩
      have HXM := hid (List.mem_of_getElem? hx)
      have HNX : Hid ((n.kids.take (i + 1)).map gn = (n.kids.take i).map gn ++ [gn x]) := hid (by
        have hxx : n.kids[i] = x := by rw [List.getElem?_eq_getElem hiX] at hx; exact Option.some.inj hx
        rw [List.take_succ_eq_append_getElem hiX, List.map_append, hxx]; rfl)
      have hlti : (i : Int) < kl := by omega
      have hi0 : (0 : Int) ≤ i := by omega
      obtain ⟨g, ofs, cp, c, e1, hEg, hgw, hr, hc, hxa⟩ := (HN.out.fr (F1.out.trans' HFI.out) (fun _ _ _ e => e) (fun x c _ h => h.no (F1.out.trans' HFI.out))).get hx
      rw [HKL.out] at e1
      simp only [Value.slice.injEq, true_and] at e1
      obtain ⟨rfl, rfl⟩ := e1
      have HXA := hid hxa; have HC := hid hc; have HRR := hid hr; have HONE := hid hxa.one
      have HI3 : Hid ((Try.prog.info? 44).map (·.size) = some c.length) := hid (by rw [hc]; exact infoN)
      have HLT := hid hlt
      clear hc hEg hgw hr hxa hx hlt hiX
      go_wp2_with (first
        | ((with_reducible refine K.atO (.load 44 _) ?_); (fail_if_success (have := HBb)); refine wpL_load rfl _ _ rfl g (ofs + i * 3) rfl c _ HRR.out rfl rfl HI3.out ?_)
        | ((with_reducible refine K.atO (.alloc 44) ?_); refine wpL_alloc rfl _ rfl _ zeroN [.int .i64 0, .string ⟨#[]⟩, .slice none 0 0] rfl ?_; intro wa HBa FAa HSa)
        | ((with_reducible refine K.atO (.store 44 _ _) ?_); refine wpL_storeV rfl _ _ _ rfl wr.heap.size 0 (.agg c.toArray) c rfl rfl rfl _ _ HBa.out (by rw [HC.out]; simp) HI3.out HONE.out ?_; intro wb HBb FBb HSb; have HBc : Hid (Blk wb wr.heap.size 44 c) := hid (by have h := HBb.out; rwa [spl_all (by rw [HC.out]; simp)] at h))
        | ((with_reducible refine K.atO (.load 44 _) ?_); refine wpL_load rfl _ _ rfl wr.heap.size 0 rfl c _ (HBc.out.range 0 c (by rw [List.drop_zero, List.take_length])) rfl rfl HI3.out ?_)
        | ((with_reducible refine K.atO (.call { callee := .value _, args := _, argTypes := _ }) ?_); refine wpL_callP rfl _ [_] _ rfl f [] rfl HE.out [.agg c.toArray] rfl ?_)
        | fail)
      have hfb : Fr No wr wb := FAa.out.trans FBb.out (fun j e => .inr (by have e : j = wr.heap.size := e; omega))
      refine (HF.out x HXM.out c wb (HXA.out.no hfb) (F1.out.trans' (HFI.out.trans' hfb))).mono ?_
      rintro e w4 ⟨ds, rfl, hpd, f4⟩
      refine .inl ⟨_, rfl, ?_⟩
      obtain ⟨d0, d1, rfl⟩ : ∃ d0 d1, ds = [d0, d1] := by
        have := hp.out.len hpd
        match ds, this with
        | [d0, d1], _ => exact ⟨d0, d1, rfl⟩
      have HFq := hid (HFI.out.trans' (hfb.trans' f4)); have HRq := hid (HKI.out.no hp.out (hfb.trans' f4)); have HPD := hid hpd; have HBQ := hid hfb.size
      have HON := hid (hp.out.one hpd)
      clear hfb f4 hpd HBa FAa HSa HBb FBb HSb HBc
      go_wp2_with (first
        | ((with_reducible refine K.atO (.buildSlice 26 _ _) ?_); refine wpL_buildOne rfl _ 54 _ rfl ic _ Try.underlying26 IC.out ZC.out (by rw [SC.out]; decide) (by rw [SC.out]; decide) (.agg #[d0, d1]) [d0, d1] rfl rfl (by rw [SC.out]; rfl) ?_; intro q2 HBq FBq HSBq)
        | ((with_reducible refine K.atO (.call { callee := .builtin .append, args := _, argTypes := _ }) ?_); refine wpL_append rfl _ _ 26 rfl w1.heap.size 54 ic _ 2 40 Try.underlying26 IC.out ZC.out SC.out BC.out rfl (by decide) (.slice va i vc) i L.flatten rfl (by have h := (HRq.out.no hp.out FBq.out).r; rwa [HAL.out] at h) (some ⟨w4.heap.size, 0, none⟩) 1 _ [d0, d1] rfl rfl (.inr ⟨_, rfl, HBq.out.news⟩) (by intro u hu; exact HON.out u hu) (by unfold maxLen; omega) (by omega) (Nat.le_trans HFq.out.size FBq.out.size) ?_; intro qa qc q3 HOq HGq HAq; refine Hid.out ?_)
        | fail)
      have HFRq : Hid (Fr (fun k => (Value.slice va i vc).ownBlock = some k ∨ (Value.slice qa (i + 1) qc).ownBlock = some k) q2 q3) := hid ((frown HGq.out).mono fun k hk => .inl hk)
      have HLWq : Hid (∀ k, ((Value.slice va i vc).ownBlock = some k ∨ (Value.slice qa (i + 1) qc).ownBlock = some k) → w1.heap.size ≤ k) := hid (fun k hk => by
        rcases hk with h | h
        · exact own_low HRq.out.r k h
        · exact own_low HOq.out k h)
      have HKq := hid ((HRq.out.no hp.out FBq.out).step hp.out (N := wb.heap.size) (n := gn x) (cs := [d0, d1]) (hp.out.fr HPD.out FBq.out fun _ _ _ e => e) (Nat.le_trans HFI.out.size HBQ.out) (fun g hg => Nat.lt_of_lt_of_le (own_ge HKI.out.r g hg).2 HBQ.out) (by rw [HAL.out]; exact HOq.out) HFRq.out (or_own HAq.out))
      have HFKq : Hid (Fr No w1 q3) := hid ((HFq.out.trans' FBq.out).trans HFRq.out fun k hk => .inr (HLWq.out k hk))
      clear HBq FBq HSBq HOq HGq HAq HRq HFq HFRq HLWq HPD
      refine hid ?_
      go_wp2_with fail
      go_roundw
      case rel => exact ⟨i + 1, _, _, rfl, by go_num, HLT.out, hid ⟨by rw [HNX.out]; exact HKq.out, HFKq.out⟩⟩
      case measure => have := HLT.out; simp [intOf]; omega
    · obtain rfl : i = kl := by omega
      have hki := HKI.out
      rw [List.take_of_length_le (by rw [HKL.out]; exact Nat.le_refl _)] at hki
      have HKJ := hid hki
      have hlti : ¬ ((i : Int) < i) := by omega
      clear hki hlt
      go_wp2_with fail
      go_ret
      refine ⟨_, rfl, ?_, F1.out.trans' HFI.out⟩
      exact HKJ.out.sl hp.out F1.out.size (by rw [List.length_map, HKL.out]; omega)
set_option maxHeartbeats 8000000 in
theorem plistMo {α : Type} {p : (Nat → Prop) → World → α → List Value → Prop} (hp0 : GP 3 p) (gn : Nd → α) (f : FuncId) (M : Nat) (S : Nat → Prop) (n : Nd) (cs : List Value) (w : World) (hn : NdAt (M + 1) S w n cs) (hl : n.kids.length ≤ 100000)
    (hent : ∀ (vs : Array Value) (w : World), (callFunc f vs).run Try.prog w = .ok (.enter f vs) w)
    (hf : ∀ x ∈ n.kids, ∀ c wv, NdAt M S wv x c → Fr No w wv → Calls Try.prog f #[.agg c.toArray] wv fun e w' => ∃ ds, e = .returned (.agg ds.toArray) ∧ p (Since wv.heap.size) w' (gn x) ds ∧ Fr No wv w')  :
    Calls Try.prog 60 #[.agg cs.toArray, .func (.func f) #[] #[]] w fun e w' => ∃ v, e = .returned v ∧ Sl 3 (p (Since w.heap.size) w') (Since w.heap.size) w' v (n.kids.map gn) ∧ Fr No w w' := by
  obtain ⟨v0, hcs, hsl⟩ := nd_sl hn
  obtain ⟨a, cap, rfl, -, -⟩ := hsl.form
  have HN := hid hsl; have hp := hid hp0; have HE := hid hent; have HF := hid hf
  subst hcs
  obtain ⟨kl, hkl⟩ : ∃ k, n.kids.length = k := ⟨_, rfl⟩
  rw [hkl] at HN hl ⊢
  have HKL := hid hkl
  generalize sb n.body = bs
  generalize n.tag = tg
  have hkli : (kl : Int) ≤ 100000 := by omega
  obtain ⟨ic, hic, hzc, hsc, hbc⟩ := Go.info_parts infozMo
  have IC := hid hic; have ZC := hid hzc; have SC := hid hsc; have BC := hid hbc
  clear hn hsl hkl hp0 hent hf hic hzc hsc hbc
  go_enter Try.func60, Try.ntmps60
  go_wp2_with (first
    | ((with_reducible refine K.atO (.box 44 _) ?_); refine wpL_box rfl _ _ rfl _ rfl [.int .i64 tg, .string bs, .slice a kl cap] rfl ?_; intro w1 HB1 F1 HS1; have c2 : w1.cell? ⟨w.heap.size, 2, none⟩ = some (.slice a kl cap) := HB1.out.cell 2)
    | fail)
  clear c2
  go_loopw [5, 11] (fun kv iv wr => ∃ (i : Nat) (v : Value) (L : List (List Value)), kv = v ∧ iv = .int .i64 i ∧ i ≤ kl ∧ Hid (GR 56 3 p w1.heap.size ((n.kids.take i).map gn) v L wr ∧ Fr No w1 wr)) (fun _ iv _ => kl - (intOf iv).toNat)
  case atStart => exact ⟨0, _, [], rfl, rfl, Nat.zero_le _, hid ⟨GR.nil _ _, Fr.refl _ _⟩⟩
  case round =>
    obtain ⟨i, v, L, rfl, rfl, hi, HI⟩ := hrel
    have hal : ((n.kids.take i).map gn).length = i := by rw [List.length_map, List.length_take, HKL.out]; omega
    have hri := HI.out.1.r
    rw [hal] at hri
    obtain ⟨va, vc, rfl, -, -⟩ := own_form hri
    have HAL := hid hal; have HKI := hid HI.out.1; have HFI := hid HI.out.2
    clear hri hal HI
    by_cases hlt : i < kl
    · have hiX : i < n.kids.length := by rw [HKL.out]; exact hlt
      obtain ⟨x, hx⟩ : ∃ x, n.kids[i]? = some x := ⟨_, List.getElem?_eq_getElem hiX⟩
      have HXM := hid (List.mem_of_getElem? hx)
      have HNX : Hid ((n.kids.take (i + 1)).map gn = (n.kids.take i).map gn ++ [gn x]) := hid (by
        have hxx : n.kids[i] = x := by rw [List.getElem?_eq_getElem hiX] at hx; exact Option.some.inj hx
        rw [List.take_succ_eq_append_getElem hiX, List.map_append, hxx]; rfl)
      have hlti : (i : Int) < kl := by omega
      have hi0 : (0 : Int) ≤ i := by omega
      obtain ⟨g, ofs, cp, c, e1, hEg, hgw, hr, hc, hxa⟩ := (HN.out.fr (F1.out.trans' HFI.out) (fun _ _ _ e => e) (fun x c _ h => h.no (F1.out.trans' HFI.out))).get hx
      rw [HKL.out] at e1
      simp only [Value.slice.injEq, true_and] at e1
      obtain ⟨rfl, rfl⟩ := e1
      have HXA := hid hxa; have HC := hid hc; have HRR := hid hr; have HONE := hid hxa.one
      have HI3 : Hid ((Try.prog.info? 44).map (·.size) = some c.length) := hid (by rw [hc]; exact infoN)
      have HLT := hid hlt
      clear hc hEg hgw hr hxa hx hlt hiX
      go_wp2_with (first
        | ((with_reducible refine K.atO (.load 44 _) ?_); (fail_if_success (have := HBb)); refine wpL_load rfl _ _ rfl g (ofs + i * 3) rfl c _ HRR.out rfl rfl HI3.out ?_)
        | ((with_reducible refine K.atO (.alloc 44) ?_); refine wpL_alloc rfl _ rfl _ zeroN [.int .i64 0, .string ⟨#[]⟩, .slice none 0 0] rfl ?_; intro wa HBa FAa HSa)
        | ((with_reducible refine K.atO (.store 44 _ _) ?_); refine wpL_storeV rfl _ _ _ rfl wr.heap.size 0 (.agg c.toArray) c rfl rfl rfl _ _ HBa.out (by rw [HC.out]; simp) HI3.out HONE.out ?_; intro wb HBb FBb HSb; have HBc : Hid (Blk wb wr.heap.size 44 c) := hid (by have h := HBb.out; rwa [spl_all (by rw [HC.out]; simp)] at h))
        | ((with_reducible refine K.atO (.load 44 _) ?_); refine wpL_load rfl _ _ rfl wr.heap.size 0 rfl c _ (HBc.out.range 0 c (by rw [List.drop_zero, List.take_length])) rfl rfl HI3.out ?_)
        | ((with_reducible refine K.atO (.call { callee := .value _, args := _, argTypes := _ }) ?_); refine wpL_callP rfl _ [_] _ rfl f [] rfl HE.out [.agg c.toArray] rfl ?_)
        | fail)
      have hfb : Fr No wr wb := FAa.out.trans FBb.out (fun j e => .inr (by have e : j = wr.heap.size := e; omega))
      refine (HF.out x HXM.out c wb (HXA.out.no hfb) (F1.out.trans' (HFI.out.trans' hfb))).mono ?_
      rintro e w4 ⟨ds, rfl, hpd, f4⟩
      refine .inl ⟨_, rfl, ?_⟩
      obtain ⟨d0, d1, d2, rfl⟩ : ∃ d0 d1 d2, ds = [d0, d1, d2] := by
        have := hp.out.len hpd
        match ds, this with
        | [d0, d1, d2], _ => exact ⟨d0, d1, d2, rfl⟩
      have HFq := hid (HFI.out.trans' (hfb.trans' f4)); have HRq := hid (HKI.out.no hp.out (hfb.trans' f4)); have HPD := hid hpd; have HBQ := hid hfb.size
      have HON := hid (hp.out.one hpd)
      clear hfb f4 hpd HBa FAa HSa HBb FBb HSb HBc
      go_wp2_with (first
        | ((with_reducible refine K.atO (.buildSlice 27 _ _) ?_); refine wpL_buildOne rfl _ 56 _ rfl ic _ Try.underlying27 IC.out ZC.out (by rw [SC.out]; decide) (by rw [SC.out]; decide) (.agg #[d0, d1, d2]) [d0, d1, d2] rfl rfl (by rw [SC.out]; rfl) ?_; intro q2 HBq FBq HSBq)
        | ((with_reducible refine K.atO (.call { callee := .builtin .append, args := _, argTypes := _ }) ?_); refine wpL_append rfl _ _ 27 rfl w1.heap.size 56 ic _ 3 48 Try.underlying27 IC.out ZC.out SC.out BC.out rfl (by decide) (.slice va i vc) i L.flatten rfl (by have h := (HRq.out.no hp.out FBq.out).r; rwa [HAL.out] at h) (some ⟨w4.heap.size, 0, none⟩) 1 _ [d0, d1, d2] rfl rfl (.inr ⟨_, rfl, HBq.out.news⟩) (by intro u hu; exact HON.out u hu) (by unfold maxLen; omega) (by omega) (Nat.le_trans HFq.out.size FBq.out.size) ?_; intro qa qc q3 HOq HGq HAq; refine Hid.out ?_)
        | fail)
      have HFRq : Hid (Fr (fun k => (Value.slice va i vc).ownBlock = some k ∨ (Value.slice qa (i + 1) qc).ownBlock = some k) q2 q3) := hid ((frown HGq.out).mono fun k hk => .inl hk)
      have HLWq : Hid (∀ k, ((Value.slice va i vc).ownBlock = some k ∨ (Value.slice qa (i + 1) qc).ownBlock = some k) → w1.heap.size ≤ k) := hid (fun k hk => by
        rcases hk with h | h
        · exact own_low HRq.out.r k h
        · exact own_low HOq.out k h)
      have HKq := hid ((HRq.out.no hp.out FBq.out).step hp.out (N := wb.heap.size) (n := gn x) (cs := [d0, d1, d2]) (hp.out.fr HPD.out FBq.out fun _ _ _ e => e) (Nat.le_trans HFI.out.size HBQ.out) (fun g hg => Nat.lt_of_lt_of_le (own_ge HKI.out.r g hg).2 HBQ.out) (by rw [HAL.out]; exact HOq.out) HFRq.out (or_own HAq.out))
      have HFKq : Hid (Fr No w1 q3) := hid ((HFq.out.trans' FBq.out).trans HFRq.out fun k hk => .inr (HLWq.out k hk))
      clear HBq FBq HSBq HOq HGq HAq HRq HFq HFRq HLWq HPD
      refine hid ?_
      go_wp2_with fail
      go_roundw
      case rel => exact ⟨i + 1, _, _, rfl, by go_num, HLT.out, hid ⟨by rw [HNX.out]; exact HKq.out, HFKq.out⟩⟩
      case measure => have := HLT.out; simp [intOf]; omega
    · obtain rfl : i = kl := by omega
      have hki := HKI.out
      rw [List.take_of_length_le (by rw [HKL.out]; exact Nat.le_refl _)] at hki
      have HKJ := hid hki
      have hlti : ¬ ((i : Int) < i) := by omega
      clear hki hlt
      go_wp2_with fail
      go_ret
      refine ⟨_, rfl, ?_, F1.out.trans' HFI.out⟩
      exact HKJ.out.sl hp.out F1.out.size (by rw [List.length_map, HKL.out]; omega)
set_option maxHeartbeats 8000000 in
theorem plistFl {α : Type} {p : (Nat → Prop) → World → α → List Value → Prop} (hp0 : GP 7 p) (gn : Nd → α) (f : FuncId) (M : Nat) (S : Nat → Prop) (n : Nd) (cs : List Value) (w : World) (hn : NdAt (M + 1) S w n cs) (hl : n.kids.length ≤ 100000)
    (hent : ∀ (vs : Array Value) (w : World), (callFunc f vs).run Try.prog w = .ok (.enter f vs) w)
    (hf : ∀ x ∈ n.kids, ∀ c wv, NdAt M S wv x c → Fr No w wv → Calls Try.prog f #[.agg c.toArray] wv fun e w' => ∃ ds, e = .returned (.agg ds.toArray) ∧ p (Since wv.heap.size) w' (gn x) ds ∧ Fr No wv w')  :
    Calls Try.prog 84 #[.agg cs.toArray, .func (.func f) #[] #[]] w fun e w' => ∃ v, e = .returned v ∧ Sl 7 (p (Since w.heap.size) w') (Since w.heap.size) w' v (n.kids.map gn) ∧ Fr No w w' := by
  obtain ⟨v0, hcs, hsl⟩ := nd_sl hn
  obtain ⟨a, cap, rfl, -, -⟩ := hsl.form
  have HN := hid hsl; have hp := hid hp0; have HE := hid hent; have HF := hid hf
  subst hcs
  obtain ⟨kl, hkl⟩ : ∃ k, n.kids.length = k := ⟨_, rfl⟩
  rw [hkl] at HN hl ⊢
  have HKL := hid hkl
  generalize sb n.body = bs
  generalize n.tag = tg
  have hkli : (kl : Int) ≤ 100000 := by omega
  obtain ⟨ic, hic, hzc, hsc, hbc⟩ := Go.info_parts infozF
  have IC := hid hic; have ZC := hid hzc; have SC := hid hsc; have BC := hid hbc
  clear hn hsl hkl hp0 hent hf hic hzc hsc hbc
  go_enter Try.func84, Try.ntmps84
  go_wp2_with (first
    | ((with_reducible refine K.atO (.box 44 _) ?_); refine wpL_box rfl _ _ rfl _ rfl [.int .i64 tg, .string bs, .slice a kl cap] rfl ?_; intro w1 HB1 F1 HS1; have c2 : w1.cell? ⟨w.heap.size, 2, none⟩ = some (.slice a kl cap) := HB1.out.cell 2)
    | fail)
  clear c2
  go_loopw [5, 11] (fun kv iv wr => ∃ (i : Nat) (v : Value) (L : List (List Value)), kv = v ∧ iv = .int .i64 i ∧ i ≤ kl ∧ Hid (GR 25 7 p w1.heap.size ((n.kids.take i).map gn) v L wr ∧ Fr No w1 wr)) (fun _ iv _ => kl - (intOf iv).toNat)
  case atStart => exact ⟨0, _, [], rfl, rfl, Nat.zero_le _, hid ⟨GR.nil _ _, Fr.refl _ _⟩⟩
  case round =>
    obtain ⟨i, v, L, rfl, rfl, hi, HI⟩ := hrel
    have hal : ((n.kids.take i).map gn).length = i := by rw [List.length_map, List.length_take, HKL.out]; omega
    have hri := HI.out.1.r
    rw [hal] at hri
    obtain ⟨va, vc, rfl, -, -⟩ := own_form hri
    have HAL := hid hal; have HKI := hid HI.out.1; have HFI := hid HI.out.2
    clear hri hal HI
    by_cases hlt : i < kl
    · have hiX : i < n.kids.length := by rw [HKL.out]; exact hlt
      obtain ⟨x, hx⟩ : ∃ x, n.kids[i]? = some x := ⟨_, List.getElem?_eq_getElem hiX⟩
      have HXM := hid (List.mem_of_getElem? hx)
      have HNX : Hid ((n.kids.take (i + 1)).map gn = (n.kids.take i).map gn ++ [gn x]) := hid (by
        have hxx : n.kids[i] = x := by rw [List.getElem?_eq_getElem hiX] at hx; exact Option.some.inj hx
        rw [List.take_succ_eq_append_getElem hiX, List.map_append, hxx]; rfl)
      have hlti : (i : Int) < kl := by omega
      have hi0 : (0 : Int) ≤ i := by omega
      obtain ⟨g, ofs, cp, c, e1, hEg, hgw, hr, hc, hxa⟩ := (HN.out.fr (F1.out.trans' HFI.out) (fun _ _ _ e => e) (fun x c _ h => h.no (F1.out.trans' HFI.out))).get hx
      rw [HKL.out] at e1
      simp only [Value.slice.injEq, true_and] at e1
      obtain ⟨rfl, rfl⟩ := e1
      have HXA := hid hxa; have HC := hid hc; have HRR := hid hr; have HONE := hid hxa.one
      have HI3 : Hid ((Try.prog.info? 44).map (·.size) = some c.length) := hid (by rw [hc]; exact infoN)
      have HLT := hid hlt
      clear hc hEg hgw hr hxa hx hlt hiX
      go_wp2_with (first
        | ((with_reducible refine K.atO (.load 44 _) ?_); (fail_if_success (have := HBb)); refine wpL_load rfl _ _ rfl g (ofs + i * 3) rfl c _ HRR.out rfl rfl HI3.out ?_)
        | ((with_reducible refine K.atO (.alloc 44) ?_); refine wpL_alloc rfl _ rfl _ zeroN [.int .i64 0, .string ⟨#[]⟩, .slice none 0 0] rfl ?_; intro wa HBa FAa HSa)
        | ((with_reducible refine K.atO (.store 44 _ _) ?_); refine wpL_storeV rfl _ _ _ rfl wr.heap.size 0 (.agg c.toArray) c rfl rfl rfl _ _ HBa.out (by rw [HC.out]; simp) HI3.out HONE.out ?_; intro wb HBb FBb HSb; have HBc : Hid (Blk wb wr.heap.size 44 c) := hid (by have h := HBb.out; rwa [spl_all (by rw [HC.out]; simp)] at h))
        | ((with_reducible refine K.atO (.load 44 _) ?_); refine wpL_load rfl _ _ rfl wr.heap.size 0 rfl c _ (HBc.out.range 0 c (by rw [List.drop_zero, List.take_length])) rfl rfl HI3.out ?_)
        | ((with_reducible refine K.atO (.call { callee := .value _, args := _, argTypes := _ }) ?_); refine wpL_callP rfl _ [_] _ rfl f [] rfl HE.out [.agg c.toArray] rfl ?_)
        | fail)
      have hfb : Fr No wr wb := FAa.out.trans FBb.out (fun j e => .inr (by have e : j = wr.heap.size := e; omega))
      refine (HF.out x HXM.out c wb (HXA.out.no hfb) (F1.out.trans' (HFI.out.trans' hfb))).mono ?_
      rintro e w4 ⟨ds, rfl, hpd, f4⟩
      refine .inl ⟨_, rfl, ?_⟩
      obtain ⟨d0, d1, d2, d3, d4, d5, d6, rfl⟩ : ∃ d0 d1 d2 d3 d4 d5 d6, ds = [d0, d1, d2, d3, d4, d5, d6] := by
        have := hp.out.len hpd
        match ds, this with
        | [d0, d1, d2, d3, d4, d5, d6], _ => exact ⟨d0, d1, d2, d3, d4, d5, d6, rfl⟩
      have HFq := hid (HFI.out.trans' (hfb.trans' f4)); have HRq := hid (HKI.out.no hp.out (hfb.trans' f4)); have HPD := hid hpd; have HBQ := hid hfb.size
      have HON := hid (hp.out.one hpd)
      clear hfb f4 hpd HBa FAa HSa HBb FBb HSb HBc
      go_wp2_with (first
        | ((with_reducible refine K.atO (.buildSlice 22 _ _) ?_); refine wpL_buildOne rfl _ 25 _ rfl ic _ Try.underlying22 IC.out ZC.out (by rw [SC.out]; decide) (by rw [SC.out]; decide) (.agg #[d0, d1, d2, d3, d4, d5, d6]) [d0, d1, d2, d3, d4, d5, d6] rfl rfl (by rw [SC.out]; rfl) ?_; intro q2 HBq FBq HSBq)
        | ((with_reducible refine K.atO (.call { callee := .builtin .append, args := _, argTypes := _ }) ?_); refine wpL_append rfl _ _ 22 rfl w1.heap.size 25 ic _ 7 120 Try.underlying22 IC.out ZC.out SC.out BC.out rfl (by decide) (.slice va i vc) i L.flatten rfl (by have h := (HRq.out.no hp.out FBq.out).r; rwa [HAL.out] at h) (some ⟨w4.heap.size, 0, none⟩) 1 _ [d0, d1, d2, d3, d4, d5, d6] rfl rfl (.inr ⟨_, rfl, HBq.out.news⟩) (by intro u hu; exact HON.out u hu) (by unfold maxLen; omega) (by omega) (Nat.le_trans HFq.out.size FBq.out.size) ?_; intro qa qc q3 HOq HGq HAq; refine Hid.out ?_)
        | fail)
      have HFRq : Hid (Fr (fun k => (Value.slice va i vc).ownBlock = some k ∨ (Value.slice qa (i + 1) qc).ownBlock = some k) q2 q3) := hid ((frown HGq.out).mono fun k hk => .inl hk)
      have HLWq : Hid (∀ k, ((Value.slice va i vc).ownBlock = some k ∨ (Value.slice qa (i + 1) qc).ownBlock = some k) → w1.heap.size ≤ k) := hid (fun k hk => by
        rcases hk with h | h
        · exact own_low HRq.out.r k h
        · exact own_low HOq.out k h)
      have HKq := hid ((HRq.out.no hp.out FBq.out).step hp.out (N := wb.heap.size) (n := gn x) (cs := [d0, d1, d2, d3, d4, d5, d6]) (hp.out.fr HPD.out FBq.out fun _ _ _ e => e) (Nat.le_trans HFI.out.size HBQ.out) (fun g hg => Nat.lt_of_lt_of_le (own_ge HKI.out.r g hg).2 HBQ.out) (by rw [HAL.out]; exact HOq.out) HFRq.out (or_own HAq.out))
      have HFKq : Hid (Fr No w1 q3) := hid ((HFq.out.trans' FBq.out).trans HFRq.out fun k hk => .inr (HLWq.out k hk))
      clear HBq FBq HSBq HOq HGq HAq HRq HFq HFRq HLWq HPD
      refine hid ?_
      go_wp2_with fail
      go_roundw
      case rel => exact ⟨i + 1, _, _, rfl, by go_num, HLT.out, hid ⟨by rw [HNX.out]; exact HKq.out, HFKq.out⟩⟩
      case measure => have := HLT.out; simp [intOf]; omega
    · obtain rfl : i = kl := by omega
      have hki := HKI.out
      rw [List.take_of_length_le (by rw [HKL.out]; exact Nat.le_refl _)] at hki
      have HKJ := hid hki
      have hlti : ¬ ((i : Int) < i) := by omega
      clear hki hlt
      go_wp2_with fail
      go_ret
      refine ⟨_, rfl, ?_, F1.out.trans' HFI.out⟩
      exact HKJ.out.sl hp.out F1.out.size (by rw [List.length_map, HKL.out]; omega)
end Go.Proofs.Ythjmkfpdbbfcpaa.ME
