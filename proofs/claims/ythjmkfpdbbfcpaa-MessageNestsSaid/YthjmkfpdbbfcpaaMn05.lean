/-
  Part 5 of the proof: MpO, BeL, MpQ.
-/
import Derived.Test.YthjmkfpdbbfcpaaMn04
import Derived.Test.YthjmkfpdbbfcpaaMn02
set_option linter.unusedSimpArgs false
set_option linter.unusedVariables false
namespace Go.Proofs.Ythjmkfpdbbfcpaa.ME
set_option maxRecDepth 100000
open Go.RowKit K Go.Proofs.Ythjmkfpdbbfcpaa.BE Go.Proofs.Ythjmkfpdbbfcpaa.FR

theorem infozF : (Try.prog.info? 25).map (fun i => (i.zero, i.size, i.bytes)) = some (some (.agg #[.int .i64 0, .slice none 0 0, .string ⟨#[]⟩, .string ⟨#[]⟩, .string ⟨#[]⟩, .slice none 0 0, .string ⟨#[]⟩]), 7, 120) := by kernel_rfl
theorem infoFs : (Try.prog.info? 22).map (·.size) = some 1 := by kernel_rfl
theorem zeroF : ∀ w, (zeroValue 25).run Try.prog w = .ok (.agg #[.int .i64 0, .slice none 0 0, .string ⟨#[]⟩, .string ⟨#[]⟩, .string ⟨#[]⟩, .slice none 0 0, .string ⟨#[]⟩]) w := fun _ => by kernel_rfl
/-- A piece none of whose tags and lists is too long. -/
def okF : Nat → Nd → Prop
  | 0, _ => False
  | d + 1, n => 0 ≤ n.tag ∧ n.tag ≤ 255 ∧ n.kids.length ≤ 4000 ∧ ∀ x ∈ n.kids, okF d x
theorem okF_nd0 (d : Nat) : okF (d + 1) nd0 := ⟨by decide, by decide, by show (0 : Nat) ≤ _; omega, fun x hx => by cases hx⟩
theorem okF.kid {d : Nat} {n : Nd} (h : okF (d + 1) n) (i : Nat) : (kidN n i).kids.length ≤ 4000 := by
  by_cases hi : i < n.kids.length
  · have e : kidN n i = n.kids[i] := by unfold kidN; rw [List.getD_eq_getElem?_getD, List.getElem?_eq_getElem hi]; rfl
    have h1 := h.2.2.2 _ (List.getElem_mem hi)
    rw [e]
    cases d with
    | zero => exact h1.elim
    | succ d => exact h1.2.2.1
  · have e : kidN n i = nd0 := by unfold kidN; rw [List.getD_eq_getElem?_getD, List.getElem?_eq_none (by omega)]; rfl
    rw [e]; show (0 : Nat) ≤ _; omega
theorem kid_sz {M : Nat} {S : Nat → Prop} {w : World} {n : Nd} {cs : List Value} (h : NdAt M S w n cs) : Sz n.body := by
  obtain ⟨-, -, -, -, h1, -⟩ := h.head
  exact h1
theorem kid_szN {M : Nat} {S : Nat → Prop} {w : World} {n : Nd} {cs : List Value} (h : NdAt M S w n cs) (i : Nat) : Sz (kidN n i).body := by
  by_cases hi : i < n.kids.length
  · obtain ⟨M, rfl⟩ := h.succ
    obtain ⟨_, _, _, _, _, _, _, hxa⟩ := h.kid (List.getElem?_eq_getElem hi)
    have e : kidN n i = n.kids[i] := by unfold kidN; rw [List.getD_eq_getElem?_getD, List.getElem?_eq_getElem hi]; rfl
    rw [e]; exact kid_sz hxa
  · have e : kidN n i = nd0 := by unfold kidN; rw [List.getD_eq_getElem?_getD, List.getElem?_eq_none (by omega)]; rfl
    rw [e]; show (0 : Nat) ≤ _; omega
theorem tx_none (S : Nat → Prop) (w : World) : Tx S w (.slice none 0 0) [] := ⟨tx_nil _ _ _ _, by show (0 : Nat) ≤ _; omega, fun x hx => by cases hx⟩
theorem fl_leaf {d : Nat} {S : Nat → Prop} {w : World} (k : Int) {ty va fi la : B} {any : List B} {T V Fi La : ByteArray} {v : Value} (hk : I64 k) (e1 : T = sb ty) (h1 : Sz ty) (e2 : V = sb va) (h2 : Sz va) (e3 : Fi = sb fi) (h3 : Sz fi) (e4 : La = sb la) (h4 : Sz la) (hv : Tx S w v any) :
    FlC (d + 1) S w (.mk k [] ty va fi any la) [.int .i64 k, .slice none 0 0, .string T, .string V, .string Fi, v, .string La] := by
  subst e1; subst e2; subst e3; subst e4
  exact ⟨_, _, rfl, hk, h1, h2, h3, h4, hv, none, 0, rfl, Nat.le_refl _, by show (0 : Nat) ≤ _; omega, .inl rfl⟩
theorem flat_le {α : Type} (f : α → B) : ∀ (l : List α), (∀ x ∈ l, 1 ≤ (f x).length) → l.length ≤ (l.map f).flatten.length
  | [], _ => Nat.zero_le _
  | x :: r, h => by
    have h1 := h x (by simp)
    have h2 := flat_le f r fun y hy => h y (by simp [hy])
    rw [List.map_cons, List.flatten_cons, List.length_append, List.length_cons]
    omega
theorem okF_of : ∀ {d : Nat} {n : Nd}, deep d n = true → shaped d n = true → fits d n = true → okF d n
  | 0, _, h, _, _ => by cases h
  | d + 1, n, h1, h2, h3 => by
    simp only [deep, List.all_eq_true] at h1
    simp only [shaped, Bool.and_eq_true, List.all_eq_true] at h2
    simp only [fits, Bool.and_eq_true, List.all_eq_true, decide_eq_true_eq] at h3
    have ht := h2.1.1
    unfold tagB at ht
    simp only [Bool.and_eq_true, decide_eq_true_eq] at ht
    refine ⟨ht.1.1, ht.1.2, ?_, fun x hx => okF_of (h1 x hx) (h2.2 x hx) (h3.1 x hx)⟩
    have hc := h3.2
    unfold cont at hc
    rw [List.length_append] at hc
    have := flat_le (enc d) n.kids (fun x hx => by
      cases d with
      | zero => have := h1 x hx; cases this
      | succ d => rw [enc_len]; omega)
    omega
theorem okF.kidK {d : Nat} {n : Nd} (h : okF (d + 2) n) (i : Nat) : okF (d + 1) (kidN n i) := by
  by_cases hi : i < n.kids.length
  · have e : kidN n i = n.kids[i] := by unfold kidN; rw [List.getD_eq_getElem?_getD, List.getElem?_eq_getElem hi]; rfl
    rw [e]
    exact h.2.2.2 _ (List.getElem_mem hi)
  · have e : kidN n i = nd0 := by unfold kidN; rw [List.getD_eq_getElem?_getD, List.getElem?_eq_none (by omega)]; rfl
    rw [e]
    exact okF_nd0 d
end Go.Proofs.Ythjmkfpdbbfcpaa.ME

namespace Go.Proofs.Ythjmkfpdbbfcpaa.BE
set_option maxRecDepth 100000
open Go.RowKit K

set_option maxHeartbeats 8000000 in
theorem number_any (s : B) (w : World) (hs : s.length ≤ 281474976710656) : Calls Try.prog 55 #[.string (sb s)] w fun e w' => e = .returned (.tuple #[.int .i64 (numS s).1, .bool (numS s).2]) ∧ Fr No w w' := by
  match s, hs with
  | [], _ =>
    have hsz : ((sb []).size : Int) = 0 := by rw [sb_size]; rfl
    obtain ⟨q, hq⟩ : ∃ q, sb [] = q := ⟨_, rfl⟩
    rw [hq] at hsz ⊢
    clear hq
    go_enter Try.func55, Try.ntmps55
    go_wp2_with fail
    go_ret2
    exact ⟨rfl, Fr.refl _ _⟩
  | b :: r, hs =>
    have hsz : ((sb (b :: r)).size : Int) = ((b :: r).length : Int) := by rw [sb_size]
    obtain ⟨n, hn⟩ : ∃ n, (b :: r).length = n := ⟨_, rfl⟩
    have hn0 : n = r.length + 1 := by rw [← hn]; rfl
    obtain ⟨S, hS⟩ : ∃ S, b :: r = S := ⟨_, rfl⟩
    have hnum : numS (b :: r) = if 4 < n then (0, false) else if intS (joinI (sgn b) r) = S then (joinI (sgn b) r, true) else (0, false) := by
      rw [← hn, ← hS]; rfl
    have HS := hid hS
    have h0 : S[0]? = some b := by rw [← hS]; rfl
    have hd1 : S.drop 1 = r := by rw [← hS]; rfl
    rw [hn] at hsz hs
    rw [hS] at hsz hn hnum ⊢
    obtain ⟨R, hR⟩ : ∃ R, numS S = R := ⟨_, rfl⟩
    rw [hR] at hnum ⊢
    have HR := hid hnum; have H0 := hid h0; have HD1 := hid hd1; have HN := hid hn; have HN0 := hid hn0
    have hni : (1 : Int) ≤ n := by omega
    have hni2 : (n : Int) ≤ 281474976710656 := by omega
    clear hS hnum h0 hd1 hn hR hn0
    by_cases h4 : 4 < n
    · have h4i : (4 : Int) < n := by omega
      have hr : R = (0, false) := by rw [HR.out, if_pos h4]
      subst hr
      go_enter Try.func55, Try.ntmps55
      go_wp2_with fail
      go_ret2
      exact ⟨rfl, Fr.refl _ _⟩
    · have h4i : ¬ (4 : Int) < n := by omega
      have hr : R = if intS (joinI (sgn b) r) = S then (joinI (sgn b) r, true) else (0, false) := by rw [HR.out, if_neg h4]
      have hrl : r.length ≤ 3 := by have := HN0.out; omega
      have HRL := hid hrl
      have HRR := hid hr
      have hlim := join_lim r (sgn b) 128 (by have := sgn_lim b; omega) (by have := sgn_lim b; omega)
      have hp : (256 : Int) ^ r.length ≤ 16777216 := by
        match r, hrl with
        | [], _ => decide
        | [_], _ => simp
        | [_, _], _ => simp
        | [_, _, _], _ => simp
      have HJB := hid (show -2147483648 ≤ joinI (sgn b) r ∧ joinI (sgn b) r < 2147483648 by omega)
      clear hr hrl hlim hp HR
      obtain ⟨J, hJ⟩ : ∃ J, joinI (sgn b) r = J := ⟨_, rfl⟩
      rw [hJ] at HRR HJB
      have HJ := hid hJ
      obtain ⟨bn, hbn⟩ : ∃ bn, b.toNat = bn := ⟨_, rfl⟩
      have hbl := lt256 b
      rw [hbn] at hbl
      have HBN := hid hbn
      clear hJ hbn
      go_enter Try.func55, Try.ntmps55
      go_wp2_with fail
      have hold : Facts.hold [] w.drew := Facts.nil_hold _
      refine wp_region_noPanic ?_
      refine wpD_region hold (by kernel_rfl) 7 rfl ?_
      (refine wpD_plain 0 (v := ?_) rfl (by kernel_rfl) (by kernel_rfl) (by kernel_rfl) (fun _ _ _ h => h) (by rfl) ?_ (by assumption) ?_; rotate_left; (intro _w; go_simp; try with_reducible rfl); simp only [Act.put, K.put3])
      (refine wpD_plain 1 (v := (.int .u8 (bn : Int))) rfl (by kernel_rfl) (by kernel_rfl) (by kernel_rfl) (fun _ _ _ h => h) (by rfl) ?_ (by assumption) ?_; (intro _w; rw [← HBN.out]; exact exec_idx _ _ rfl S 0 b H0.out _ rfl rfl rfl _w); simp only [Act.put, K.put3])
      (refine wpD_plain 3 (v := ?_) rfl (by kernel_rfl) (by kernel_rfl) (by kernel_rfl) (fun _ _ _ h => h) (by rfl) ?_ (by assumption) ?_; rotate_left; (intro _w; go_simp; try with_reducible rfl); simp only [Act.put, K.put3])
      (refine wpD_plain 4 (v := (.string (sb r))) rfl (by kernel_rfl) (by kernel_rfl) (by kernel_rfl) (fun _ _ _ h => h) (by rfl) ?_ (by assumption) ?_; (intro _w; exact exec_from _ _ rfl S 1 rfl rfl (by rw [HN.out]; omega) _ HD1.out _w); simp only [Act.put, K.put3])
      clear hold
      refine wpD_only 2 [] rfl (by kernel_rfl) (by kernel_rfl) (by rfl) (fun K2 hK2 => ?_)
      refine wp_call (.func 70) _ _ rfl 70 [] rfl (fun vs w => by kernel_rfl) [.int .u8 (bn : Int)] (by rfl) ?_
      have hsg := signed_any b w.drew
      rw [HBN.out] at hsg
      refine hsg.mono ?_
      clear hsg
      rintro e w1 ⟨rfl, rfl⟩
      refine ⟨_, rfl, hK2 _ _ (Facts.nil_hold _) ?_⟩
      clear hK2 K2
      simp only [Act.put, K.put3]
      refine wpD_only 5 [] rfl (by kernel_rfl) (by kernel_rfl) (by rfl) (fun K5 hK5 => ?_)
      refine wp_call (.func 82) _ _ rfl 82 [] rfl (fun vs w => by kernel_rfl) [.int .i64 (sgn b), .string (sb r)] (by rfl) ?_
      refine (joined_any (sgn b) r (sgn_lim b) HRL.out w.drew).mono ?_
      rintro e w1 ⟨rfl, rfl⟩
      rw [HJ.out]
      refine ⟨_, rfl, hK5 _ _ (Facts.nil_hold _) ?_⟩
      clear hK5 K5
      simp only [Act.put, K.put3]
      have hold : Facts.hold [] w.drew := Facts.nil_hold _
      (refine wpD_plain 6 (v := ?_) rfl (by kernel_rfl) (by kernel_rfl) (by kernel_rfl) (fun _ _ _ h => h) (by rfl) ?_ (by assumption) ?_; rotate_left; (intro _w; go_simp; try with_reducible rfl); simp only [Act.put, K.put3])
      clear hold
      refine wpD_done (by kernel_rfl) (NoPanic.normal ?_) _
      have hjb : -9223372036854775808 ≤ J ∧ J ≤ 9223372036854775807 := by have := HJB.out; omega
      go_wp2_with fail
      refine (int_any 7 J _ (Nat.le_refl _) (by have : (128 : Int) * 256 ^ 7 = 9223372036854775808 := by decide
                                                omega) (by have : (128 : Int) * 256 ^ 7 = 9223372036854775808 := by decide
                                                           omega) hjb).mono ?_
      rintro e w2 ⟨rfl, f2⟩
      have HF2 := hid ((Fr.refl No w).drew.trans' f2)
      obtain ⟨I, hI⟩ : ∃ I, intG 7 J = I := ⟨_, rfl⟩
      rw [hI]
      have HI : Hid (intS J = I) := hid hI
      clear f2 hI
      by_cases he : I = S
      · have HE := hid he
        have hr : R = (J, true) := by rw [HRR.out, if_pos (HI.out.trans he)]
        subst hr
        have hne : (!decide (I = S)) = false := by rw [decide_eq_true he]; rfl
        have HNE := hid hne
        clear he hne
        go_wp2_with ((with_reducible refine K.atO (.binOp .neq 9 _ _ _) ?_); refine wpL_valZ rfl (.bool false) (by rw [← HNE.out]; exact exec_neS _ _ _ rfl I S rfl rfl _) ?_)
        go_ret2
        exact ⟨rfl, HF2.out⟩
      · have HE := hid he
        have hr : R = (0, false) := by rw [HRR.out, if_neg (fun h => he (HI.out.symm.trans h))]
        subst hr
        have hne : (!decide (I = S)) = true := by rw [decide_eq_false he]; rfl
        have HNE := hid hne
        clear he hne
        go_wp2_with ((with_reducible refine K.atO (.binOp .neq 9 _ _ _) ?_); refine wpL_valZ rfl (.bool true) (by rw [← HNE.out]; exact exec_neS _ _ _ rfl I S rfl rfl _) ?_)
        go_ret2
        exact ⟨rfl, HF2.out⟩
end Go.Proofs.Ythjmkfpdbbfcpaa.BE

namespace Go.Proofs.Ythjmkfpdbbfcpaa.ME
set_option maxRecDepth 100000
open Go.RowKit K Go.Proofs.Ythjmkfpdbbfcpaa.BE Go.Proofs.Ythjmkfpdbbfcpaa.FR

theorem zeroNs : ∀ w, (zeroValue 42).run Try.prog w = .ok (.slice none 0 0) w := fun _ => by kernel_rfl
/-- What is left of a row of pieces: in a cell. -/
def Rest (M : Nat) (S : Nat → Prop) (w : World) (bn : Nat) (l : List Nd) : Prop := ∃ v, Blk w bn 42 [v] ∧ Sl 3 (NdAt M S w) S w v l
theorem Rest.fr {M : Nat} {S D : Nat → Prop} {w w' : World} {bn : Nat} {l : List Nd} (h : Rest M S w bn l) (hf : Fr D w w') (hd : ∀ i, S i → i < w.heap.size → ¬ D i) (hb : ¬ D bn) : Rest M S w' bn l := by
  obtain ⟨v, h1, h2⟩ := h
  exact ⟨v, h1.fr hf hb, h2.fr hf hd fun x c _ hx => NdAt.fr hf hd hx⟩
theorem Rest.no {M : Nat} {S : Nat → Prop} {w w' : World} {bn : Nat} {l : List Nd} (h : Rest M S w bn l) (hf : Fr No w w') : Rest M S w' bn l := h.fr hf (fun _ _ _ e => e) id
theorem Rest.lt {M : Nat} {S : Nat → Prop} {w : World} {bn : Nat} {l : List Nd} (h : Rest M S w bn l) : bn < w.heap.size := by
  obtain ⟨v, h1, -⟩ := h
  exact h1.lt
theorem nd_sl {M : Nat} {S : Nat → Prop} {w : World} {n : Nd} {cs : List Value} (h : NdAt (M + 1) S w n cs) : ∃ v, cs = [.int .i64 n.tag, .string (sb n.body), v] ∧ Sl 3 (NdAt M S w) S w v n.kids := by
  obtain ⟨a, cap, h1, h2, h3, h4, h5⟩ := h
  refine ⟨_, h1, a, cap, rfl, Nat.le_trans h4 (Nat.min_le_left _ _), Nat.le_trans h4 (Nat.min_le_right _ _), h5.imp id ?_⟩
  rintro ⟨g, o, L, e1, e2, e3, e4, e5, e6⟩
  refine ⟨g, o, L, e1, e2, e3, e4, e5, fun c hc => ?_, e6⟩
  obtain ⟨i, hi, rfl⟩ := List.mem_iff_getElem.1 hc
  exact (e6 i _ _ (List.getElem?_eq_getElem (by omega)) (List.getElem?_eq_getElem hi)).len
theorem sl_tail {M : Nat} {S : Nat → Prop} {w : World} {x : Nd} {r : List Nd} {g o cap : Nat} (h : Sl 3 (NdAt M S w) S w (.slice (some ⟨g, o, none⟩) (r.length + 1) (cap + 1)) (x :: r)) :
    (∃ c, w.rangeAt g o c ∧ c.length = 3 ∧ NdAt M S w x c) ∧ S g ∧ r.length ≤ cap ∧ Sl 3 (NdAt M S w) S w (.slice (some ⟨g, o + 3, none⟩) r.length cap) r := by
  obtain ⟨a, cap', e1, h2, h3, h4⟩ := h
  simp only [Value.slice.injEq] at e1
  obtain ⟨rfl, -, rfl⟩ := e1
  obtain ⟨g', o', L, e2, hS, hg, hr, hL, hc, hp⟩ := h4.resolve_left (by simp)
  simp only [Option.some.injEq, Addr.mk.injEq, and_true] at e2
  obtain ⟨rfl, rfl⟩ := e2
  match L, hL with
  | c :: L, hL =>
  have hc3 : c.length = 3 := hc c (by simp)
  rw [List.flatten_cons] at hr
  have hr1 : w.rangeAt g o c := fun j u hj => hr j u (by rw [List.getElem?_append_left (List.getElem?_eq_some_iff.1 hj).1]; exact hj)
  have hr2 : w.rangeAt g (o + 3) L.flatten := fun j u hj => by
    have := hr (j + 3) u (by rw [List.getElem?_append_right (by omega), hc3]; simpa using hj)
    rwa [show o + (j + 3) = o + 3 + j by omega] at this
  have hlen : L.length = r.length := by simpa using hL
  simp only [List.length_cons] at h2 h3
  refine ⟨⟨c, hr1, hc3, hp 0 x c rfl rfl⟩, hS, by omega, some ⟨g, o + 3, none⟩, cap, rfl, by omega, by omega, ?_⟩
  by_cases h0 : r = []
  · exact .inl h0
  · exact .inr ⟨g, o + 3, L, rfl, hS, hg, hr2, hlen, fun c' hc' => hc c' (by simp [hc']), fun j y c' hy hc' => hp (j + 1) y c' (by simpa using hy) (by simpa using hc')⟩
theorem slice_one (b o n c : Nat) (w : World) : (Instr.slice 42 (.slice (some ⟨b, o, none⟩) (n + 1) (c + 1)) (some (.int .i64 1)) none none).run Try.prog w = .ok (.slice (some (if c = 0 then ⟨b, o, none⟩ else ⟨b, o + 3, none⟩)) n c) w := by
  obtain ⟨i, hi, -, hs, -⟩ := Go.info_parts infozN
  have h1 : (1 : Int) ≤ (n : Int) + 1 := by omega
  by_cases hc : c = 0
  · subst hc
    simp [Instr.slice, Instr.sliceBounds, Instr.sliceBound, asIntOf, run_underlying Try.underlying42, sizeOf, typeInfo, hi, hs, h1]
  · simp [Instr.slice, Instr.sliceBounds, Instr.sliceBound, asIntOf, run_underlying Try.underlying42, sizeOf, typeInfo, hi, hs, h1, hc, Addr.add]
theorem exec_tail {op : Oper} {a : Act} (x : Operand) (ho : op.op = .slice 42 x (some (.const (.int .i64 1))) none none) (b o n c : Nat) (hx : a.eval x = .slice (some ⟨b, o, none⟩) (n + 1) (c + 1)) (w : World) :
    (execOp a.eval op).run Try.prog w = .ok (.value (.slice (some (if c = 0 then ⟨b, o, none⟩ else ⟨b, o + 3, none⟩)) n c)) w := by
  unfold execOp
  simp only [ho, Option.map_none, Option.map_some, hx]
  simp [Instr.sliceAt, run_underlying Try.underlying42, Act.eval, slice_one, Result.andThen]
set_option maxHeartbeats 8000000 in
theorem pchildren_any (M : Nat) (S : Nat → Prop) (n : Nd) (cs : List Value) (w : World) (hn : NdAt (M + 1) S w n cs) : Calls Try.prog 29 #[.agg cs.toArray] w fun e w' =>
    ∃ bn, e = .returned (.func (.func 54) #[] #[.pointer (some ⟨bn, 0, none⟩)]) ∧ w.heap.size ≤ bn ∧ Rest M S w' bn n.kids ∧ Fr No w w' := by
  obtain ⟨v, hcs, hsl⟩ := nd_sl hn
  have HSL := hid hsl
  obtain ⟨a, cap, rfl, -, -⟩ := hsl.form
  subst hcs
  generalize sb n.body = bs
  generalize n.tag = tg
  obtain ⟨kl, hkl⟩ : ∃ k, n.kids.length = k := ⟨_, rfl⟩
  rw [hkl] at HSL ⊢
  clear hn hsl hkl
  go_enter Try.func29, Try.ntmps29
  go_wp2_with (first
    | ((with_reducible refine K.atO (.box 44 _) ?_); refine wpL_box rfl _ _ rfl _ rfl [.int .i64 tg, .string bs, .slice a kl cap] rfl ?_; intro w1 HB1 F1 HS1; have c2 : w1.cell? ⟨w.heap.size, 2, none⟩ = some (.slice a kl cap) := HB1.out.cell 2)
    | ((with_reducible refine K.atO (.alloc 42) ?_); refine wpL_alloc rfl _ rfl _ zeroNs [.slice none 0 0] rfl ?_; intro w2 HB2 F2 HS2)
    | ((with_reducible refine K.atO (.store 42 _ _) ?_); refine wpL_setV rfl _ _ _ rfl w1.heap.size 0 (.slice a kl cap) rfl rfl rfl rfl _ _ HB2.out (by simp) infoNs ?_; intro w3 HB3 F3 HS3)
    | fail)
  go_ret
  have hf : Fr No w w3 := (F1.out.trans' F2.out).trans F3.out fun k e => .inr (by have e : k = w1.heap.size := e; have := F1.out.size; omega)
  exact ⟨w1.heap.size, rfl, F1.out.size, ⟨_, HB3.out, HSL.out.fr hf (fun _ _ _ e => e) fun x c _ hx => hx.no hf⟩, hf⟩
set_option maxHeartbeats 8000000 in
theorem pnext_any (M : Nat) (S : Nat → Prop) (bn : Nat) (l : List Nd) (w : World) (h : Rest (M + 1) S w bn l) (hS : ¬ S bn) : Calls Try.prog 54 #[.pointer (some ⟨bn, 0, none⟩)] w fun e w' =>
    ∃ cs, e = .returned (.agg cs.toArray) ∧ NdAt (M + 1) S w' (l.headD nd0) cs ∧ Rest (M + 1) S w' bn l.tail ∧ Fr (fun k => k = bn) w w' := by
  obtain ⟨v, hB, hsl⟩ := h
  have HB := hid hB; have HSL := hid hsl; have HLT := hid hB.lt
  cases l with
  | nil =>
    obtain ⟨a, cap, rfl, -, -⟩ := hsl.form
    have c0 : w.cell? ⟨bn, 0, none⟩ = some (.slice a 0 cap) := hB.cell 0
    clear hB hsl
    go_enter Try.func54, Try.ntmps54
    go_wp2_with (first
      | ((with_reducible refine K.atO (.alloc 44) ?_); refine wpL_alloc rfl _ rfl _ zeroN [.int .i64 0, .string ⟨#[]⟩, .slice none 0 0] rfl ?_; intro w1 HB1 F1 HS1; have c1 : w1.cell? ⟨bn, 0, none⟩ = some (.slice a 0 cap) := F1.out.cell c0 id)
      | ((with_reducible refine K.atO (.load 44 _) ?_); refine wpL_load rfl _ _ rfl w.heap.size 0 rfl [.int .i64 0, .string ⟨#[]⟩, .slice none 0 0] _ (HB1.out.range 0 _ rfl) rfl rfl infoN ?_)
      | ((with_reducible refine K.atO (.store 44 _ _) ?_); refine wpL_storeV rfl _ _ _ rfl w.heap.size 0 (.agg #[.int .i64 0, .string ⟨#[]⟩, .slice none 0 0]) [.int .i64 0, .string ⟨#[]⟩, .slice none 0 0] rfl rfl rfl _ _ HB1.out (by simp) infoN (by intro u hu; simp at hu; rcases hu with rfl | rfl | rfl <;> rfl) ?_; intro w2 HB2 F2 HS2)
      | fail)
    refine ret_cell rfl _ rfl HB2.out rfl rfl infoN rfl ?_
    have hf : Fr No w w2 := F1.out.trans F2.out fun k e => .inr (by have e : k = w.heap.size := e; omega)
    exact ⟨_, rfl, ⟨none, 0, rfl, by show _ ≤ (0 : Int) ∧ (0 : Int) ≤ _; omega, Nat.zero_le _, Nat.zero_le _, .inl rfl⟩, ⟨_, HB.out.fr hf id, HSL.out.fr hf (fun _ _ _ e => e) fun x c _ hx => hx.no hf⟩, hf.mono fun _ e => e.elim⟩
  | cons x r =>
    obtain ⟨a, cap0, rfl, hcp, hl0⟩ := hsl.form
    simp only [List.length_cons] at hcp hl0
    obtain ⟨cap, rfl⟩ : ∃ c, cap0 = c + 1 := ⟨cap0 - 1, by omega⟩
    obtain ⟨a', o', L, ea, hb⟩ : ∃ g o L, a = some ⟨g, o, none⟩ ∧ L = L := by
      obtain ⟨_, _, e1, _, _, h4⟩ := hsl
      simp only [Value.slice.injEq] at e1
      obtain ⟨rfl, -, -⟩ := e1
      obtain ⟨g, o, L, e, -⟩ := h4.resolve_left (by simp)
      exact ⟨g, o, L, e, rfl⟩
    subst ea
    obtain ⟨⟨c, hr, hc3, hx⟩, hSg, hrc, htl⟩ := sl_tail (cap := cap) (by simpa using hsl)
    have c0 : w.cell? ⟨bn, 0, none⟩ = some (.slice (some ⟨a', o', none⟩) (r.length + 1) (cap + 1)) := hB.cell 0
    have HX := hid hx; have HTL := hid htl; have HC3 := hid hc3; have HR := hid hr; have HONE := hid hx.one
    have HI3 : Hid ((Try.prog.info? 44).map (·.size) = some c.length) := hid (by rw [hc3]; exact infoN)
    have HB' : Hid (Blk w bn 42 [.slice (some ⟨a', o', none⟩) (r.length + 1) (cap + 1)]) := hid HB.out
    obtain ⟨rl, hrl⟩ : ∃ k, r.length = k := ⟨_, rfl⟩
    have HRL := hid hrl
    rw [hrl] at c0 HTL hl0 hrc HB'
    clear hB hsl hr hc3 hx htl hb HB HSL hrl hcp L
    have hrli : (rl : Int) ≤ 140737488351232 := by omega
    have hpos : (0 : Int) < ((rl + 1 : Nat) : Int) := by omega
    have hci : (1 : Int) ≤ ((cap + 1 : Nat) : Int) := by omega
    have hl1 : (1 : Int) ≤ ((rl + 1 : Nat) : Int) := by omega
    have hlc : ((rl + 1 : Nat) : Int) ≤ ((cap + 1 : Nat) : Int) := by omega
    go_enter Try.func54, Try.ntmps54
    go_wp2_with (first
      | ((with_reducible refine K.atO (.alloc 44) ?_); refine wpL_alloc rfl _ rfl _ zeroN [.int .i64 0, .string ⟨#[]⟩, .slice none 0 0] rfl ?_; intro w1 HB1 F1 HS1; have c1 : w1.cell? ⟨bn, 0, none⟩ = some (.slice (some ⟨a', o', none⟩) (rl + 1) (cap + 1)) := F1.out.cell c0 id)
      | fail)
    have r1 : w1.rangeAt a' o' c := F1.out.range HR.out id
    have hold : Facts.hold [(0, fun w' => w'.cell? ⟨bn, 0, none⟩ = some (.slice (some ⟨a', o', none⟩) (rl + 1) (cap + 1))), (2, fun w' => w'.rangeAt a' o' c), (3, fun w' => w'.cell? ⟨bn, 0, none⟩ = some (.slice (some ⟨a', o', none⟩) (rl + 1) (cap + 1)))] w1.drew := Facts.cons_hold c1 (Facts.cons_hold r1 (Facts.cons_hold c1 (Facts.nil_hold _)))
    refine wpD_region hold (by kernel_rfl) 7 rfl ?_
    (refine wpD_take 0 _ rfl (by kernel_rfl) (by kernel_rfl) (by kernel_rfl) (fun _ _ _ h => h) List.mem_cons_self (by rfl) (v := ?_) ?_ (by assumption) ?_; rotate_left; (intro _w _hw; go_simp; try with_reducible rfl); simp only [Act.put, K.put3])
    (refine wpD_plain 1 (v := ?_) rfl (by kernel_rfl) (by kernel_rfl) (by kernel_rfl) (fun _ _ _ h => h) (by rfl) ?_ (by assumption) ?_; rotate_left; (intro _w; go_simp; try with_reducible rfl); simp only [Act.put, K.put3])
    (refine wpD_take 2 _ rfl (by kernel_rfl) (by kernel_rfl) (by kernel_rfl) (fun _ _ _ h => h) (List.mem_cons_of_mem _ List.mem_cons_self) (by rfl) (exec_load _ _ rfl a' o' rfl _ _ rfl rfl HI3.out) (by assumption) ?_; simp only [Act.put, K.put3])
    (refine wpD_take 3 _ rfl (by kernel_rfl) (by kernel_rfl) (by kernel_rfl) (fun _ _ _ h => h) (List.mem_cons_of_mem _ (List.mem_cons_of_mem _ List.mem_cons_self)) (by rfl) (v := ?_) ?_ (by assumption) ?_; rotate_left; (intro _w _hw; go_simp; try with_reducible rfl); simp only [Act.put, K.put3])
    obtain ⟨ad, had⟩ : ∃ ad : Addr, (if cap = 0 then ⟨a', o', none⟩ else ⟨a', o' + 3, none⟩) = ad := ⟨_, rfl⟩
    have HTL2 : Hid (Sl 3 (NdAt (M + 1) S w) S w (.slice (some ad) rl cap) r) := hid (by
      by_cases h0 : cap = 0
      · have hr0 : r = [] := List.eq_nil_of_length_eq_zero (by have := HRL.out; omega)
        have h2 := HRL.out
        rw [hr0] at h2 ⊢
        exact ⟨_, cap, by rw [← h2], Nat.zero_le _, Nat.zero_le _, .inl rfl⟩
      · rw [if_neg h0] at had
        rw [← had]
        exact HTL.out)
    have HAD := hid had
    clear had
    (refine wpD_plain 4 (v := (.slice (some ad) rl cap)) rfl (by kernel_rfl) (by kernel_rfl) (by kernel_rfl) (fun _ _ _ h => h) (by rfl) ?_ (by assumption) ?_; (intro _w; rw [← HAD.out]; exact exec_tail _ rfl _ _ _ _ rfl _w); simp only [Act.put, K.put3])
    clear hold
    refine wpD_only 5 [(3, fun w' => w'.cell? ⟨bn, 0, none⟩ = some (.slice (some ⟨a', o', none⟩) (rl + 1) (cap + 1)))] rfl (by kernel_rfl) (by kernel_rfl) (by rfl) (fun K5 hK5 => ?_)
    refine wp_storeV _ _ _ rfl w.heap.size 0 (.agg c.toArray) c rfl rfl rfl _ _ (HB1.out.fr (Fr.refl No w1).drew id) (by rw [HC3.out]; try simp) HI3.out HONE.out ?_
    intro w2 HB2 F2 HS2
    have hne : ¬ bn = w.heap.size := by have := HLT.out; omega
    have hf12 : Fr (fun k => k = w.heap.size) w1 w2 := ((Fr.refl (fun k => k = w.heap.size) w1).drew).trans' F2.out
    refine hK5 _ _ (Facts.cons_hold (hf12.cell c1 hne) (Facts.nil_hold _)) ?_
    have HF12 := hid hf12
    have HBc : Hid (Blk w2 w.heap.size 44 c) := hid (by have h := HB2.out; rwa [spl_all (by rw [HC3.out]; simp)] at h)
    have HBn := hid ((HB'.out.fr F1.out id).fr hf12 hne)
    clear hK5 K5 hf12 c1 r1
    simp only [Act.put, K.put3]
    refine wpD_only 6 [] rfl (by kernel_rfl) (by kernel_rfl) (by rfl) (fun K6 hK6 => ?_)
    refine wp_storeV _ _ _ rfl bn 0 (.slice (some ad) rl cap) [.slice (some ad) rl cap] rfl rfl rfl _ _ HBn.out (by simp) infoNs (by intro u hu; simp at hu; subst hu; rfl) ?_
    intro w3 HB3 F3 HS3
    refine hK6 _ _ (Facts.nil_hold _) ?_
    clear hK6 K6
    simp only [Act.put, K.put3]
    refine wpD_done (by kernel_rfl) ?_ _
    have HBc3 := hid (HBc.out.fr F3.out (fun e => hne e.symm))
    have HF03 : Hid (Fr (fun k => k = bn) w w3) := hid (((F1.out.trans HF12.out fun k e => .inr (by have e : k = w.heap.size := e; omega)).mono fun _ e => e.elim).trans' F3.out)
    clear HB1 F1 HS1
    go_wp2_with (first
      | ((with_reducible refine K.atO (.load 44 _) ?_); refine wpL_load rfl _ _ rfl w.heap.size 0 rfl c _ (HBc3.out.range 0 _ (by rw [List.drop_zero, List.take_length])) rfl rfl HI3.out ?_)
      | ((with_reducible refine K.atO (.store 44 _ _) ?_); refine wpL_storeV rfl _ _ _ rfl w.heap.size 0 (.agg c.toArray) c rfl rfl rfl _ _ HBc3.out (by omega) HI3.out HONE.out ?_; intro w4 HB4 F4 HS4)
      | fail)
    have HBz : Hid (Blk w4 w.heap.size 44 c) := hid (by have h := HB4.out; rwa [spl_all rfl] at h)
    have hf : Fr (fun k => k = bn) w w4 := HF03.out.trans F4.out fun k e => .inr (by have e : k = w.heap.size := e; omega)
    refine ret_cell rfl _ rfl HBz.out rfl rfl HI3.out rfl ?_
    have hd : ∀ i, S i → i < w.heap.size → ¬ i = bn := fun i hi _ e => hS (e ▸ hi)
    exact ⟨c, rfl, NdAt.fr hf hd HX.out, ⟨_, HB3.out.fr F4.out (fun e => hne e), HTL2.out.fr hf hd fun x c _ hx => NdAt.fr hf hd hx⟩, hf⟩
theorem ptextOf_any (M : Nat) (S : Nat → Prop) (n : Nd) (cs : List Value) (w : World) (hn : NdAt M S w n cs) : Calls Try.prog 56 #[.agg cs.toArray] w fun e w' => e = .returned (.string (sb n.body)) ∧ Fr No w w' := by
  obtain ⟨a, sc, rfl, -, -, -⟩ := hn.head
  generalize n.kids.length = kl
  generalize n.tag = tg
  generalize sb n.body = bs
  clear hn
  go_enter Try.func56, Try.ntmps56
  go_wp2_with (first
    | ((with_reducible refine K.atO (.box 44 _) ?_); refine wpL_box rfl _ _ rfl _ rfl [.int .i64 tg, .string bs, .slice a kl sc] rfl ?_; intro w1 HB1 F1 HS1; have c1 : w1.cell? ⟨w.heap.size, 1, none⟩ = some (.string bs) := HB1.out.cell 1)
    | fail)
  go_ret
  exact ⟨rfl, F1.out⟩
set_option maxHeartbeats 4000000 in
theorem pnumberOf_any (M : Nat) (S : Nat → Prop) (n : Nd) (cs : List Value) (w : World) (hn : NdAt M S w n cs) : Calls Try.prog 30 #[.agg cs.toArray] w fun e w' => e = .returned (.int .i64 (valN n)) ∧ Fr No w w' := by
  obtain ⟨a, sc, rfl, -, hbl, -⟩ := hn.head
  have HBL := hid hbl
  generalize n.kids.length = kl
  generalize n.tag = tg
  obtain ⟨bs, hb⟩ : ∃ bs, sb n.body = bs := ⟨_, rfl⟩
  rw [hb]
  have HBS := hid hb
  clear hn hbl hb
  go_enter Try.func30, Try.ntmps30
  go_wp2_with (first
    | ((with_reducible refine K.atO (.box 44 _) ?_); refine wpL_box rfl _ _ rfl _ rfl [.int .i64 tg, .string bs, .slice a kl sc] rfl ?_; intro w1 HB1 F1 HS1;
        have c1 : w1.cell? ⟨w.heap.size, 1, none⟩ = some (.string bs) := HB1.out.cell 1)
    | fail)
  rw [← HBS.out]
  refine (BE.number_any n.body w1 (by have h : n.body.length ≤ 140737488351232 := HBL.out; omega)).mono ?_
  rintro e w2 ⟨rfl, f2⟩
  have HF := hid (F1.out.trans' f2)
  clear f2 c1
  obtain ⟨v, hv⟩ : ∃ v, (numS n.body).1 = v := ⟨_, rfl⟩
  have HV : Hid (valN n = v) := hid hv
  rw [hv]
  generalize (numS n.body).2 = u
  clear hv
  go_wp2_with fail
  go_ret
  exact ⟨by rw [HV.out]; rfl, HF.out⟩
set_option maxHeartbeats 4000000 in
theorem ptruthOf_any (M : Nat) (S : Nat → Prop) (n : Nd) (cs : List Value) (w : World) (hn : NdAt M S w n cs) : Calls Try.prog 57 #[.agg cs.toArray] w fun e w' => e = .returned (.bool (decide (n.body = [255]))) ∧ Fr No w w' := by
  obtain ⟨a, sc, rfl, -, -, -⟩ := hn.head
  generalize n.kids.length = kl
  generalize n.tag = tg
  obtain ⟨bs, hbs⟩ : ∃ bs, n.body = bs := ⟨_, rfl⟩
  rw [hbs]
  clear hn hbs
  go_enter Try.func57, Try.ntmps57
  go_wp2_with (first
    | ((with_reducible refine K.atO (.box 44 _) ?_); refine wpL_box rfl _ _ rfl _ rfl [.int .i64 tg, .string (sb bs), .slice a kl sc] rfl ?_; intro w1 HB1 F1 HS1; have c1 : w1.cell? ⟨w.heap.size, 1, none⟩ = some (.string (sb bs)) := HB1.out.cell 1)
    | ((with_reducible refine K.atO (.binOp .eql 9 _ _ _) ?_); refine wpL_valZ (by rfl) (.bool (decide (bs = [255]))) (exec_eqS _ _ _ rfl bs [255] rfl rfl _) ?_)
    | fail)
  go_ret
  exact ⟨rfl, F1.out⟩
end Go.Proofs.Ythjmkfpdbbfcpaa.ME
