/-
  Elements in memory; and children, which visits each child by a function that may fail.
-/
import Derived.Test.YtoikiokcpakokaaBeP
set_option linter.unusedVariables false
set_option linter.unusedSimpArgs false
namespace Go.Proofs.Ytoikiokcpakokaa.BE
set_option maxRecDepth 100000
open Go.RowKit K

theorem infoN : (Try.prog.info? 40).map (·.size) = some 3 := by kernel_rfl
theorem infozN : (Try.prog.info? 40).map (fun i => (i.zero, i.size, i.bytes)) = some (some (.agg #[.int .i64 0, .string ⟨#[]⟩, .slice none 0 0]), 3, 48) := by kernel_rfl
theorem zeroN : ∀ w, (zeroValue 40).run Try.prog w = .ok (.agg #[.int .i64 0, .string ⟨#[]⟩, .slice none 0 0]) w := fun _ => by kernel_rfl
/-- An element's three cells, its children at blocks that S lets be; M bounds how deep it is. -/
def NdAt : Nat → (Nat → Prop) → World → Nd → List Value → Prop
  | 0, _, _, _, _ => False
  | M + 1, S, w, n, cs => ∃ a cap, cs = [.int .i64 n.tag, .string (sb n.body), .slice a n.kids.length cap] ∧ (-9223372036854775808 ≤ n.tag ∧ n.tag ≤ 9223372036854775807) ∧ n.body.length ≤ 140737488351232 ∧ n.kids.length ≤ 140737488351232 ∧
    (n.kids = [] ∨ ∃ g o, ∃ L : List (List Value), a = some ⟨g, o, none⟩ ∧ S g ∧ g < w.heap.size ∧ w.rangeAt g o L.flatten ∧ L.length = n.kids.length ∧ ∀ (j : Nat) (x : Nd) (c : List Value), n.kids[j]? = some x → L[j]? = some c → NdAt M S w x c)
theorem NdAt.len {M : Nat} {S : Nat → Prop} {w : World} {n : Nd} {cs : List Value} (h : NdAt M S w n cs) : cs.length = 3 := by
  cases M with
  | zero => exact h.elim
  | succ M => obtain ⟨a, cap, rfl, _⟩ := h; rfl
theorem NdAt.one {M : Nat} {S : Nat → Prop} {w : World} {n : Nd} {cs : List Value} (h : NdAt M S w n cs) : ∀ u ∈ cs, u.oneCell' = true := by
  cases M with
  | zero => exact h.elim
  | succ M =>
    obtain ⟨a, cap, rfl, _⟩ := h
    intro u hu
    simp at hu
    rcases hu with rfl | rfl | rfl <;> rfl
theorem NdAt.fr {D S : Nat → Prop} {w w' : World} (hf : Fr D w w') (hd : ∀ k, S k → k < w.heap.size → ¬ D k) : ∀ {M : Nat} {n : Nd} {cs : List Value}, NdAt M S w n cs → NdAt M S w' n cs
  | 0, _, _, h => h.elim
  | M + 1, n, cs, ⟨a, cap, h1, h2, h3, h4, h5⟩ => ⟨a, cap, h1, h2, h3, h4, h5.imp id fun ⟨g, o, L, e1, e2, e3, e4, e5, e6⟩ =>
      ⟨g, o, L, e1, e2, Nat.lt_of_lt_of_le e3 hf.size, hf.range e4 (hd g e2 e3), e5, fun j x c hx hc => NdAt.fr hf hd (e6 j x c hx hc)⟩⟩
theorem NdAt.no {S : Nat → Prop} {w w' : World} {M : Nat} {n : Nd} {cs : List Value} (h : NdAt M S w n cs) (hf : Fr No w w') : NdAt M S w' n cs := NdAt.fr hf (fun _ _ _ e => e) h
theorem NdAt.mono {S S' : Nat → Prop} {w : World} (hs : ∀ k, k < w.heap.size → S k → S' k) : ∀ {M : Nat} {n : Nd} {cs : List Value}, NdAt M S w n cs → NdAt M S' w n cs
  | 0, _, _, h => h.elim
  | M + 1, n, cs, ⟨a, cap, h1, h2, h3, h4, h5⟩ => ⟨a, cap, h1, h2, h3, h4, h5.imp id fun ⟨g, o, L, e1, e2, e3, e4, e5, e6⟩ =>
      ⟨g, o, L, e1, hs g e3 e2, e3, e4, e5, fun j x c hx hc => NdAt.mono hs (e6 j x c hx hc)⟩⟩
theorem NdAt.more {S : Nat → Prop} {w : World} : ∀ {M : Nat} {n : Nd} {cs : List Value}, NdAt M S w n cs → NdAt (M + 1) S w n cs
  | 0, _, _, h => h.elim
  | M + 1, n, cs, ⟨a, cap, h1, h2, h3, h4, h5⟩ => ⟨a, cap, h1, h2, h3, h4, h5.imp id fun ⟨g, o, L, e1, e2, e3, e4, e5, e6⟩ =>
      ⟨g, o, L, e1, e2, e3, e4, e5, fun j x c hx hc => NdAt.more (e6 j x c hx hc)⟩⟩
theorem NdAt.deep {S : Nat → Prop} {w : World} : ∀ {M : Nat} {n : Nd} {cs : List Value}, NdAt M S w n cs → BE.deep M n = true
  | 0, _, _, h => h.elim
  | M + 1, n, cs, ⟨a, cap, h1, h2, h3, h4, h5⟩ => by
    simp only [BE.deep, List.all_eq_true]
    intro x hx
    rcases h5 with h5 | ⟨g, o, L, e1, e2, e3, e4, e5, e6⟩
    · rw [h5] at hx; cases hx
    · obtain ⟨j, hj, rfl⟩ := List.mem_iff_getElem.1 hx
      exact NdAt.deep (e6 j _ _ (List.getElem?_eq_getElem hj) (List.getElem?_eq_getElem (by omega)))
theorem rangeAt_part {w : World} {g o : Nat} {L : List (List Value)} (h : w.rangeAt g o L.flatten) (h3 : ∀ c ∈ L, c.length = 3) {j : Nat} {c : List Value} (hj : L[j]? = some c) : w.rangeAt g (o + j * 3) c := by
  intro i v hi
  have e := flat_get L j c h3 hj
  have hc : c.length = 3 := h3 c (List.mem_of_getElem? hj)
  have hil : i < 3 := by have := (List.getElem?_eq_some_iff.1 hi).1; omega
  rw [← e, List.getElem?_take, if_pos hil, List.getElem?_drop] at hi
  have := h _ v hi
  rwa [← Nat.add_assoc] at this
/-- The parts of an element with a child. -/
theorem NdAt.kid {M : Nat} {S : Nat → Prop} {w : World} {n : Nd} {cs : List Value} (h : NdAt (M + 1) S w n cs) {j : Nat} {x : Nd} (hj : n.kids[j]? = some x) :
    ∃ g o cap c, cs = [.int .i64 n.tag, .string (sb n.body), .slice (some ⟨g, o, none⟩) n.kids.length cap] ∧ w.rangeAt g (o + j * 3) c ∧ c.length = 3 ∧ NdAt M S w x c := by
  obtain ⟨a, cap, h1, h2, h3, h4, h5⟩ := h
  rcases h5 with h5 | ⟨g, o, L, rfl, e2, e3, e4, e5, e6⟩
  · rw [h5] at hj; cases hj
  · have hl : j < n.kids.length := (List.getElem?_eq_some_iff.1 hj).1
    have hL : L[j]? = some (L[j]'(by omega)) := List.getElem?_eq_getElem _
    have hall : ∀ c ∈ L, c.length = 3 := by
      intro c hc
      obtain ⟨i, hi, rfl⟩ := List.mem_iff_getElem.1 hc
      exact (e6 i _ _ (List.getElem?_eq_getElem (by omega)) (List.getElem?_eq_getElem hi)).len
    exact ⟨g, o, cap, _, h1, rangeAt_part e4 hall hL, hall _ (List.getElem_mem _), e6 j _ _ hj hL⟩
theorem spl_all {cs vs : List Value} (h : vs.length = cs.length) : spl cs 0 vs = vs := by
  unfold spl
  rw [List.take_zero, List.nil_append, Nat.zero_add, h, List.drop_length, List.append_nil]
theorem NdAt.head {M : Nat} {S : Nat → Prop} {w : World} {n : Nd} {cs : List Value} (h : NdAt M S w n cs) :
    ∃ a cap, cs = [.int .i64 n.tag, .string (sb n.body), .slice a n.kids.length cap] ∧ (-9223372036854775808 ≤ n.tag ∧ n.tag ≤ 9223372036854775807) ∧ n.body.length ≤ 140737488351232 ∧ n.kids.length ≤ 140737488351232 := by
  cases M with
  | zero => exact h.elim
  | succ M => obtain ⟨a, cap, h1, h2, h3, h4, _⟩ := h; exact ⟨a, cap, h1, h2, h3, h4⟩
/-- Below N. -/
def Lo (N : Nat) : Nat → Prop := fun k => k < N
/-- What a visitor may turn: what is not below N, and not block B. -/
def May (N B : Nat) : Nat → Prop := fun k => N ≤ k ∧ k ≠ B

/-- What children leaves. -/
def Visited (I : Nat → World → Prop) (Bad : Nat → World → Prop) (k : Nat) (e : Ending) (w' : World) : Prop :=
  (e = .returned (.tuple #[]) ∧ I k w') ∨ ∃ c, e = .panicked [fl c] ∧ Bad c w'
set_option maxHeartbeats 4000000 in
theorem children_any (M N : Nat) (n : Nd) (cs : List Value) (f : FuncId) (cap : List Value) (I : Nat → World → Prop) (Bad : Nat → World → Prop) (w : World) (hn : NdAt (M + 1) (Lo N) w n cs) (hN : N ≤ w.heap.size)
    (hent : ∀ (vs : Array Value) (w : World), (callFunc f vs).run Try.prog w = .ok (.enter f vs) w)
    (h0 : I 0 w) (hst : ∀ i w1 w2, I i w1 → Fr No w1 w2 → I i w2)
    (hf : ∀ i x c wv, n.kids[i]? = some x → NdAt M (Lo N) wv x c → I i wv → w.heap.size < wv.heap.size → Calls Try.prog f (Value.agg c.toArray :: cap).toArray wv fun e w' => Fr (May N w.heap.size) wv w' ∧ Visited I Bad (i + 1) e w') :
    Calls Try.prog 29 #[.agg cs.toArray, .func (.func f) #[] cap.toArray] w (Visited I Bad n.kids.length) := by
  obtain ⟨a, sc, hcs, htg, hbl, hkl⟩ := hn.head
  have HN := hid hn; have HNN := hid hN; have HE := hid hent; have HI0 := hid h0; have HST := hid hst; have HF := hid hf; have HTG := hid htg; have HBL := hid hbl
  obtain ⟨kl, hkle⟩ : ∃ kl, n.kids.length = kl := ⟨_, rfl⟩
  have HKL := hid hkle
  rw [hkle] at hcs hkl ⊢
  subst hcs
  clear hn hN hent h0 hst hf htg hbl hkle
  go_enter Try.func29, Try.ntmps29
  go_wp2_with (first
    | ((with_reducible show wpList _ _ _ (⟨_, .box 40 _, _, _, _, _⟩ :: _) _ _); refine wpL_box rfl _ _ rfl _ rfl [.int .i64 n.tag, .string (sb n.body), .slice a kl sc] rfl ?_; intro w1 HB1 F1 HS1; have c2 : w1.cell? ⟨w.heap.size, 2, none⟩ = some (.slice a kl sc) := HB1.out.cell 2))
  have HR1 : Hid (NdAt (M + 1) (Lo N) w1 n [.int .i64 n.tag, .string (sb n.body), .slice a kl sc]) := hid (HN.out.no F1.out)
  have HI1 : Hid (I 0 w1) := hid (HST.out 0 w w1 HI0.out F1.out)
  have HS : Hid (w.heap.size < w1.heap.size) := hid (by have := HS1.out; omega)
  have HW := hid HS1.out
  clear HB1 F1 HS1 c2 HN HI0 HTG HBL
  go_loopw [9] (fun iv wr => ∃ k : Nat, iv = .int .i64 k ∧ k ≤ kl ∧ Hid (NdAt (M + 1) (Lo N) wr n [.int .i64 n.tag, .string (sb n.body), .slice a kl sc]) ∧ Hid (I k wr) ∧ Hid (w.heap.size < wr.heap.size)) (fun iv _ => kl - (intOf iv).toNat)
  case atStart => exact ⟨0, rfl, Nat.zero_le _, HR1, HI1, HS⟩
  case round =>
    clear HR1 HI1 HS
    obtain ⟨k, rfl, hk, HR, HI, HS⟩ := hrel
    by_cases hlt : k < kl
    · have hlti : (k : Int) < kl := by omega
      have hkli : (kl : Int) ≤ 140737488351232 := by omega
      have hg0 : n.kids[k]? = some (n.kids[k]'(by rw [HKL.out]; exact hlt)) := List.getElem?_eq_getElem _
      obtain ⟨x, hx⟩ : ∃ x, n.kids[k]? = some x := ⟨_, hg0⟩
      clear hg0
      obtain ⟨g, o, cp, c, he, hr, hcl, hxa⟩ := HR.out.kid hx
      simp only [List.cons.injEq, Value.slice.injEq, and_true, true_and] at he
      obtain ⟨ha, -⟩ := he
      subst ha
      have HX := hid hx; have HRR := hid hr; have HCL := hid hcl; have HXA := hid hxa; have HONE := hid hxa.one
      clear hx hr hcl hxa
      go_wp2_with (first
        | ((with_reducible show wpList _ _ _ (⟨_, .load 40 _, _, _, _, _⟩ :: _) _ _); refine wpL_load rfl _ _ rfl g (o + k * 3) rfl c _ HRR.out rfl rfl (by rw [HCL.out]; exact infoN) ?_)
        | ((with_reducible show wpList _ _ _ (⟨_, .alloc 40, _, _, _, _⟩ :: _) _ _); refine wpL_alloc rfl _ rfl _ zeroN [.int .i64 0, .string ⟨#[]⟩, .slice none 0 0] rfl ?_; intro w2 HB2 F2 HS2)
        | ((with_reducible show wpList _ _ _ (⟨_, .store 40 _ _, _, _, _, _⟩ :: _) _ _); refine wpL_storeV rfl _ _ _ rfl wr.heap.size 0 (.agg c.toArray) c rfl rfl rfl _ _ HB2.out (by rw [HCL.out]; simp) (by rw [HCL.out]; exact infoN) HONE.out ?_; intro w3 HB3 F3 HS3; have HB3c : Hid (Blk w3 wr.heap.size 40 c) := hid (by have h := HB3.out; rwa [spl_all (by simp [HCL.out])] at h))
        | ((with_reducible show wpList _ _ _ (⟨_, .load 40 _, _, _, _, _⟩ :: _) _ _); refine wpL_load rfl _ _ rfl wr.heap.size 0 rfl c _ (HB3c.out.range 0 c (by rw [List.drop_zero, List.take_length])) rfl rfl (by rw [HCL.out]; exact infoN) ?_)
        | ((with_reducible show wpList _ _ _ (⟨_, .call { callee := .value _, args := _, argTypes := _ }, _, _, _, _⟩ :: _) _ _); refine wpL_callP rfl _ [_] _ rfl f cap rfl HE.out (Value.agg c.toArray :: cap) rfl ?_)
        | fail)
      have f3 : Fr No wr w3 := F2.out.trans F3.out (fun i e => .inr (by have e : i = wr.heap.size := e; omega))
      have hs3 : w.heap.size < w3.heap.size := by have := HS.out; have := f3.size; omega
      refine (HF.out k x c w3 HX.out (HXA.out.no f3) (HST.out k wr w3 HI.out f3) hs3).mono ?_
      rintro e w4 ⟨f4, hv⟩
      rcases hv with ⟨rfl, hi⟩ | ⟨d, rfl, hb⟩
      · refine .inl ⟨_, rfl, ?_⟩
        have HI4 := hid hi
        have HR4 : Hid (NdAt (M + 1) (Lo N) w4 n [.int .i64 n.tag, .string (sb n.body), .slice (some ⟨g, o, none⟩) kl sc]) := hid (NdAt.fr f4 (fun j hj _ hm => by have : j < N := hj; have := hm.1; omega) (HR.out.no f3))
        have HS4 : Hid (w.heap.size < w4.heap.size) := hid (by have := f4.size; omega)
        clear hi f4 f3 hs3 HB2 HB3 HB3c F2 F3 HS2 HS3 HR HI HS HX HRR HXA
        go_wp2_with fail
        go_roundw
        case rel => exact ⟨k + 1, by go_num, by omega, HR4, HI4, HS4⟩
        case measure => simp [intOf]; omega
      · exact .inr ⟨_, rfl, rfl, .inr ⟨d, rfl, hb⟩⟩
    · obtain rfl : k = kl := by omega
      go_wp2_with fail
      go_end0
      exact .inl ⟨rfl, HI.out⟩
end Go.Proofs.Ytoikiokcpakokaa.BE
