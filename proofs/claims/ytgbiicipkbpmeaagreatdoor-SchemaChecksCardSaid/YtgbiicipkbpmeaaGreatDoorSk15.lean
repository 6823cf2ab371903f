/-
  Part 15 of the proof: SdA, SdB.
-/
import Derived.Test.YtgbiicipkbpmeaaGreatDoorSk14
set_option linter.unusedSimpArgs false
set_option linter.unusedVariables false
namespace Go.Proofs.YtgbiicipkbpmeaaGreatDoor.SC
set_option maxRecDepth 100000
open Go.RowKit K BE DN
def ints (l : List Nat) : List Value := l.map fun (k : Nat) => .int .i64 (k : Int)
@[simp] theorem ints_length (l : List Nat) : (ints l).length = l.length := by simp [ints]
theorem infoInt3 : (Tryz.prog.info? 3).map (fun i => (i.zero, i.size, i.bytes)) = some (some (.int .i64 0), 1, 8) := by kernel_rfl
def isSt (s : Sch) (f : Set) (k : Nat) : Bool := f k && decide (s.cls[k]?.map (·.kind) = some 1)
def stTo (s : Sch) (f : Set) (i : Nat) : List Nat := (List.range i).filter (isSt s f)
theorem stTo_step (s : Sch) (f : Set) (i : Nat) : stTo s f (i + 1) = if isSt s f i then stTo s f i ++ [i] else stTo s f i := by
 unfold stTo
 rw [List.range_succ, List.filter_append]
 cases h : isSt s f i <;> simp [h]
theorem stTo_zero (s : Sch) (f : Set) : stTo s f 0 = [] := by unfold stTo; rw [List.range_zero]; rfl
theorem stTo_len (s : Sch) (f : Set) (i : Nat) : (stTo s f i).length ≤ i := by
 unfold stTo
 exact Nat.le_trans (List.length_filter_le _ _) (by simp)
theorem stTo_lt {s : Sch} {f : Set} {i k : Nat} (h : k ∈ stTo s f i) : k < i := by
 unfold stTo at h
 exact List.mem_range.1 (List.mem_filter.1 h).1
theorem ints_sl {base n : Nat} {w : World} {v : Value} {l : List Nat} (h : w.ownsRow base 3 1 v n (ints l)) (hn : l.length = n) (hb : n ≤ 140737488351232) (p : Nat → Value → Prop) (hp : ∀ k ∈ l, p k (.int .i64 (k : Int))) : Sl 1 (fun x c => ∃ v, c = [v] ∧ p x v) (fun i => base ≤ i) w v l := by
 refine own_sl h (l.map fun (k : Nat) => [.int .i64 (k : Int)]) ?_ hn (by rw [List.length_map, hn]) (fun c hc => ?_) (fun j x c hx hc => ?_) hb
 ·unfold ints
  clear h hn hp
  induction l with
  | nil => rfl
  | cons a r ih => simp only [List.map_cons, List.flatten_cons, ih]; rfl
 ·obtain ⟨k, _, rfl⟩ := List.mem_map.1 hc
  rfl
 ·rw [List.getElem?_map, hx] at hc
  obtain rfl : [Value.int .i64 (x : Int)] = c := by simpa using hc
  exact ⟨_, rfl, hp x (List.mem_of_getElem? hx)⟩
theorem notIn_any (g : Set) (k r : Nat) (w : World) (hk : k < 20) (hB : Blk w r 77 (bb g 20)) : Calls Tryz.prog 52 #[.int .i64 (k : Int), .pointer (some ⟨r, 0, none⟩)] w fun e w' => e = .returned (.bool (!g k)) ∧ w' = w := by
 have hki : (k : Int) < 20 := by omega
 have hk0 : (0 : Int) ≤ k := by omega
 have c : w.cell? ⟨r, k, none⟩ = some (.bool (g k)) := by rw [hB.cell, bb_get g hk]
 obtain ⟨p, hp⟩ : ∃ p, g k = p := ⟨_, rfl⟩
 rw [hp] at c ⊢
 clear hB hp hk
 go_enter Tryz.func52, Tryz.ntmps52
 go_wp2_with fail
 go_ret
 exact ⟨rfl, rfl⟩
theorem any_not {l : List Nat} {g : Set} : (l.any fun k => !g k) = !(l.all g) := by
 induction l with
 | nil => rfl
 | cons a r ih => rw [List.any_cons, List.all_cons, ih]; cases g a <;> simp
set_option maxHeartbeats 16000000 in
theorem isOneChain_any (X : Nat → Prop) (b : Nat) (s : Sch) (f : Set) (w : World) (h : Sx w X b s) (hX : ∀ k, X k → k < w.heap.size) :
  Calls Tryz.prog 22 #[.pointer (some ⟨b, 0, none⟩), .agg (bb f 20).toArray] w fun e w' => e = .returned (.bool (chain s f)) ∧ Sx w' X b s ∧ Fr (fun k => k = b) w w' := by
 have HX := hid h; have HXB := hid hX; have HOK := hid h.ok
 have HBL := hid h.lt
 obtain ⟨vt, vc, d, tm, cm, hSB, -, -, hcl, -, -⟩ := h
 have HCL := hid hcl
 obtain ⟨R, hR⟩ : ∃ R, chain s f = R := ⟨_, rfl⟩
 rw [hR]
 have HR : Hid ((match (stTo s f s.cls.length).getLast? with | none => false | some k => (stTo s f s.cls.length).all fun j => puts none_ (line s k) j) = R) := hid hR
 obtain ⟨a, cp, rfl, hcap, hl⟩ := hcl.form
 have hn20 := (okS_b HOK.out).2.2
 obtain ⟨n, hn⟩ : ∃ n, s.cls.length = n := ⟨_, rfl⟩
 have HNN := hid hn
 rw [hn] at HCL hSB hcap hl hn20 HR
 have HSB := hid hSB
 have hni : (n : Int) ≤ 20 := by omega
 obtain ⟨base, hbase⟩ : ∃ b, w.heap.size = b := ⟨_, rfl⟩
 have HBASE := hid hbase
 obtain ⟨ic, hic, hzc, hsc, hbc⟩ := info_ex infoInt3
 have IC := hid hic; have ZC := hid hzc; have SC := hid hsc; have BC := hid hbc
 have d1 : w.cell? ⟨b, 1, none⟩ = some (.slice a n cp) := hSB.cell 1
 have HN20 := hid hn20
 clear hX hR hcl hn hSB hcap hl hbase hic hzc hsc hbc d1 hn20
 go_enter Tryz.func22, Tryz.ntmps22
 go_wp2_with (first
  | ((with_reducible refine K.atO (.box 77 _) ?_); refine wpL_box rfl _ _ rfl _ rfl (bb f 20) rfl ?_; intro w1 HB1 HF1 HS1; refine Hid.out ?_)
  | fail)
 rw [HBASE.out] at HB1 ⊢
 have HSz1 : Hid (base < w1.heap.size) := hid (by have := HS1.out; have := HBASE.out; omega)
 have d1 : w1.cell? ⟨b, 1, none⟩ = some (.slice a n cp) := HF1.out.cell (HSB.out.cell 1) id
 clear HS1
 refine hid ?_
 go_wp2_with fail
 clear d1
 go_loopw [5, 15] (fun sv iv wr => ∃ (i : Nat) (va : Option Addr) (vcp : Nat), iv = .int .i64 i ∧ sv = .slice va (stTo s f i).length vcp ∧ i ≤ n ∧ Hid (wr.ownsRow base 3 1 (.slice va (stTo s f i).length vcp) (stTo s f i).length (ints (stTo s f i)) ∧ Fr No w wr ∧ Blk wr base 77 (bb f 20) ∧ (Value.slice va (stTo s f i).length vcp).ownBlock ≠ some base ∧ base < wr.heap.size)) (fun _ iv _ => n - (intOf iv).toNat)
 case atStart => exact ⟨0, none, 0, rfl, by rw [stTo_zero]; rfl, Nat.zero_le _, hid (by rw [stTo_zero]; exact ⟨⟨rfl, .inl ⟨rfl, rfl⟩⟩, HF1.out, HB1.out, fun e => (by cases e), HSz1.out⟩)⟩
 case round =>
  obtain ⟨i, va, vcp, rfl, rfl, hi, HI⟩ := hrel
  by_cases hlt : i < n
  ·obtain ⟨c, hc⟩ : ∃ c, s.cls[i]? = some c := ⟨_, List.getElem?_eq_getElem (by rw [HNN.out]; exact hlt)⟩
   have hlti : (i : Int) < n := by omega
   have hi0 : (0 : Int) ≤ i := by omega
   have hi20 : (i : Int) < 20 := by omega
   obtain ⟨g, o, cq, cs, e1, -, -, hr, -, hp⟩ := (ClsIn.fr (D := No) HCL.out HI.out.2.1 (fun _ _ _ e => e)).get hc
   rw [HNN.out] at e1
   simp only [Value.slice.injEq, true_and] at e1
   obtain ⟨rfl, rfl⟩ := e1
   obtain ⟨v1, v2, rfl, -, -, hv1, hv2, -⟩ := hp
   have HRR := hid hr
   have HONE : Hid (∀ v ∈ clV c v1 v2, v.oneCell' = true) := hid (oneCl c (by obtain ⟨a, cp, rfl, -⟩ := hv1.form; rfl) (by obtain ⟨a, cp, rfl, -⟩ := hv2.form; rfl))
   have HST : Hid (isSt s f i = (f i && decide (c.kind = 1))) := hid (by unfold isSt; rw [hc]; congr 1; exact decide_eq_decide.2 (by simp))
   have HLT := hid hlt
   have hi20n : i < 20 := by have := HN20.out; omega
   have HFI : Hid (∀ w', Fr No wr w' → w'.cell? ⟨base, i, none⟩ = some (.bool (f i))) := hid (fun w' hf => by rw [(HI.out.2.2.1.fr hf id).cell, bb_get f hi20n])
   clear hr hv1 hv2 hc hi hlt hi20n
   go_wp2_with (first
    | ((with_reducible refine K.atO (.load 55 _) ?_); refine wpL_load rfl _ _ rfl g (o + i * 5) rfl (clV c v1 v2) _ HRR.out rfl rfl infoCl ?_)
    | ((with_reducible refine K.atO (.alloc 55) ?_); refine wpL_alloc rfl _ rfl _ zeroCl _ rfl ?_; intro y2 HB2 HF2 HS2)
    | ((with_reducible refine K.atO (.store 55 _ _) ?_); refine wpL_store rfl _ _ _ rfl wr.heap.size 0 (clV c v1 v2) rfl rfl 55 _ HB2.out (by simp [clV]) infoCl HONE.out ?_; intro y3 HB3 HF3 HS3; refine Hid.out ?_)
    | fail)
   have HFR3 : Hid (Fr No wr y3) := hid (HF2.out.trans HF3.out fun k e => .inr (by have e : k = wr.heap.size := e; omega))
   have HB3' : Hid (Blk y3 wr.heap.size 55 (clV c v1 v2)) := hid HB3.out
   obtain ⟨q, hq⟩ : ∃ q, wr.heap.size = q := ⟨_, rfl⟩
   rw [hq] at HB3' ⊢
   have c1 : y3.cell? ⟨q, 1, none⟩ = some (.int .i64 c.kind) := HB3'.out.cell 1
   have cf : y3.cell? ⟨base, i, none⟩ = some (.bool (f i)) := HFI.out y3 HFR3.out
   obtain ⟨P, hP⟩ : ∃ P, f i = P := ⟨_, rfl⟩
   have HP := hid hP
   rw [hP] at cf
   have HIy : Hid (y3.ownsRow base 3 1 (.slice va (stTo s f i).length vcp) (stTo s f i).length (ints (stTo s f i)) ∧ Fr No w y3 ∧ Blk y3 base 77 (bb f 20) ∧ base < y3.heap.size) := hid ⟨own_fr HI.out.1 HFR3.out (fun _ _ e => e), HI.out.2.1.trans' HFR3.out, HI.out.2.2.1.fr HFR3.out id, Nat.lt_of_lt_of_le HI.out.2.2.2.2 HFR3.out.size⟩
   have HSL := hid (stTo_len s f i)
   have HSTEP := hid (stTo_step s f i)
   obtain ⟨L, hL⟩ : ∃ L, stTo s f i = L := ⟨_, rfl⟩
   have HNB : Hid ((Value.slice va (stTo s f i).length vcp).ownBlock ≠ some base) := hid HI.out.2.2.2.1
   rw [hL] at HIy HSL HSTEP HNB ⊢
   clear HB2 HF2 HS2 HB3 HF3 HS3 hq hP hL HFI
   refine hid ?_
   cases P with
   | false =>
    have HE : Hid (stTo s f (i + 1) = L) := hid (by rw [HSTEP.out, if_neg (by rw [HST.out, HP.out]; simp)])
    go_wp2_with fail
    refine ⟨⟨i + 1, va, vcp, by go_num, by rw [HE.out], HLT.out, hid (by rw [HE.out]; exact ⟨HIy.out.1, HIy.out.2.1, HIy.out.2.2.1, HNB.out, HIy.out.2.2.2⟩)⟩, ?_⟩
    have := HLT.out
    simp [intOf]; omega
   | true =>
    by_cases hk : c.kind = 1
    ·have HE : Hid (stTo s f (i + 1) = L ++ [i]) := hid (by rw [HSTEP.out, if_pos (by rw [HST.out, HP.out, decide_eq_true hk]; rfl)])
     have hkb : (c.kind == 1) = true := by rw [beq_iff_eq]; exact hk
     clear hk
     go_wp2_with (first
      | ((with_reducible refine K.atO (.buildSlice 111 _ _) ?_); refine wpL_buildOne rfl _ 3 _ rfl ic _ Tryz.underlying111 IC.out ZC.out (by rw [SC.out]; decide) (by rw [SC.out]; decide) (.int .i64 (i : Int)) [.int .i64 (i : Int)] rfl rfl (by rw [SC.out]; rfl) ?_; intro y4 HB4 HF4 HS4)
      | ((with_reducible refine K.atO (.call { callee := .builtin .append, args := _, argTypes := _ }) ?_); refine wpL_append rfl _ _ 111 rfl base 3 ic _ 1 8 Tryz.underlying111 IC.out ZC.out SC.out BC.out rfl (by decide) (.slice va L.length vcp) L.length (ints L) rfl (own_fr HIy.out.1 HF4.out (fun _ _ e => e)) (some ⟨y3.heap.size, 0, none⟩) 1 1 [.int .i64 (i : Int)] rfl rfl (.inr ⟨_, rfl, HB4.out.news⟩) (by intro u hu; rw [List.mem_singleton.1 hu]; rfl) (by unfold maxLen; have := HSL.out; have := HLT.out; have := HN20.out; omega) (by have := HSL.out; have := HLT.out; have := HN20.out; omega) (by have := HIy.out.2.2.2; have := HF4.out.size; omega) ?_; intro a5 c5 y5 HO5 HG5 HA5)
      | fail)
     have hfr : Fr No w y5 := (HIy.out.2.1.trans' HF4.out).grown HG5.out (fun k e => .inr (by have := (own_ge HIy.out.1 k e).1; rw [HBASE.out]; exact this))
     have hblk : Blk y5 base 77 (bb f 20) := (HIy.out.2.2.1.fr HF4.out id).grown HG5.out (fun e => HNB.out e.symm)
     have hown : y5.ownsRow base 3 1 (.slice a5 (L.length + 1) c5) (L.length + 1) (ints (L ++ [i])) := by
      have := HO5.out
      unfold ints at this ⊢
      rw [List.map_append]
      exact this
     have hnb : (Value.slice a5 (L.length + 1) c5).ownBlock ≠ some base := by
      rcases HA5.out with e | e
      ·rw [e]; exact HNB.out
      ·rw [e]
       intro e2
       cases e2
       have := HIy.out.2.2.2; have := HF4.out.size
       omega
     have hlen : (L ++ [i]).length = L.length + 1 := by simp
     refine ⟨⟨i + 1, a5, c5, by go_num, by rw [HE.out, hlen], HLT.out, hid (by rw [HE.out, hlen]; exact ⟨hown, hfr, hblk, hnb, by have := HIy.out.2.2.2; have := HF4.out.size; have := HG5.out.size; omega⟩)⟩, ?_⟩
     have := HLT.out
     simp [intOf]; omega
    ·have HE : Hid (stTo s f (i + 1) = L) := hid (by rw [HSTEP.out, if_neg (by rw [HST.out, HP.out, decide_eq_false hk]; simp)])
     have hkb : (c.kind == 1) = false := by rw [beq_eq_false_iff_ne]; exact hk
     clear hk
     go_wp2_with fail
     refine ⟨⟨i + 1, va, vcp, by go_num, by rw [HE.out], HLT.out, hid (by rw [HE.out]; exact ⟨HIy.out.1, HIy.out.2.1, HIy.out.2.2.1, HNB.out, HIy.out.2.2.2⟩)⟩, ?_⟩
     have := HLT.out
     simp [intOf]; omega
  ·obtain rfl : i = n := by omega
   have HSL := hid (stTo_len s f i)
   have HLTs : Hid (∀ k ∈ stTo s f i, k < 20) := hid (fun k hk => by have := stTo_lt hk; have := HN20.out; omega)
   have HLTc : Hid (∀ k ∈ stTo s f i, k < s.cls.length) := hid (fun k hk => by rw [HNN.out]; exact stTo_lt hk)
   obtain ⟨L, hL⟩ : ∃ L, stTo s f i = L := ⟨_, rfl⟩
   rw [hL] at HI HSL HLTs HLTc HR ⊢
   clear hL hi hlt
   by_cases h0 : L = []
   ·subst h0
    obtain rfl : R = false := HR.out.symm
    go_wp2_with fail
    go_ret
    exact ⟨rfl, HX.out.no HI.out.2.1, HI.out.2.1.no⟩
   ·obtain ⟨k, hk⟩ : ∃ k, L.getLast? = some k := by
     cases hl : L.getLast? with
     | none => exact absurd (List.getLast?_eq_none_iff.1 hl) h0
     | some k => exact ⟨k, rfl⟩
    have hkm : k ∈ L := List.mem_of_getLast? hk
    have HR2 : Hid (L.all (fun j => puts none_ (line s k) j) = R) := hid (by have h := HR.out; rw [hk] at h; exact h)
    obtain ⟨N, hN⟩ : ∃ N, L.length = N := ⟨_, rfl⟩
    have HN := hid hN
    have hNp : 0 < N := by rw [← hN]; exact List.length_pos_iff.2 h0
    obtain ⟨M, rfl⟩ : ∃ M, N = M + 1 := ⟨N - 1, by omega⟩
    have hM20 : (M : Int) < 20 := by have := HSL.out; have := HN20.out; omega
    have hM0 : (0 : Int) ≤ M := by omega
    rw [hN] at HI ⊢
    have hsl := HI.out.1
    have hkc : (ints L)[M]? = some (.int .i64 (k : Int)) := by
     unfold ints
     rw [List.getElem?_map]
     rw [List.getLast?_eq_getElem?, hN] at hk
     rw [show M + 1 - 1 = M from rfl] at hk
     rw [hk]
     rfl
    obtain ⟨ga, hga⟩ : ∃ g, va = some ⟨g, 0, none⟩ := by
     obtain ⟨a', c', e, -, hpos⟩ := own_form hsl
     cases e
     exact hpos hNp
    subst hga
    have hcap : M + 1 ≤ vcp := by
     rcases hsl.2 with ⟨e, -⟩ | ⟨g, cap, cur, e, -, -, h1, -⟩
     ·cases e
     ·cases e; exact h1
    have hcapi : (M : Int) < vcp := by omega
    have ck : wr.cell? ⟨ga, M, none⟩ = some (.int .i64 (k : Int)) := by
     have := hsl.cells (g := ga) rfl M _ hkc
     rwa [Addr.add_mid, Nat.zero_add] at this
    have HCK := hid ck
    have HKC := hid (HLTc.out k hkm)
    have hgas := own_ge hsl ga rfl
    have HGA := hid hgas
    have HX3 := hid (HX.out.no HI.out.2.1)
    have HXB3 : Hid (∀ k, X k → k < wr.heap.size) := hid (fun k hk => Nat.lt_of_lt_of_le (HXB.out k hk) HI.out.2.1.size)
    have HXN : Hid (¬ b = ga) := hid (by have := HBL.out; have := HBASE.out; omega)
    clear h0 hk hkm hN hsl hkc ck hNp hgas hcap
    go_wp2_with (first
     | ((with_reducible refine K.atO (.alloc 77) ?_); refine wpL_alloc rfl _ rfl _ zeroCs (bb none_ 20) rfl ?_; intro y2 HB2 HF2 HS2; refine Hid.out ?_)
     | fail)
    have ck2 : y2.cell? ⟨ga, M, none⟩ = some (.int .i64 (k : Int)) := HF2.out.cell HCK.out id
    obtain ⟨r, hr⟩ : ∃ r, wr.heap.size = r := ⟨_, rfl⟩
    rw [hr] at HB2 ⊢
    have HRR := hid (show w.heap.size ≤ r ∧ ga < r ∧ b < r from ⟨by rw [← hr]; exact HI.out.2.1.size, by have := HGA.out.2; omega, by have := HBL.out; have := HI.out.2.1.size; omega⟩)
    have HX4 : Hid (Sx y2 (Also X r) b s) := hid ((HX3.out.also (by omega)).no HF2.out)
    have HXB4 : Hid (∀ k, Also X r k → k < y2.heap.size) := hid (also_lt HXB3.out (by have := HS2.out; omega) (by have := HS2.out; omega))
    have HO4 := hid (own_fr HI.out.1 HF2.out (fun _ _ e => e))
    have HFR4 := hid (HI.out.2.1.trans' HF2.out)
    clear hr HF2 HS2
    refine hid ?_
    go_wp2_with fail
    refine (addLine_any (Also X r) b r s none_ k y2 HX4.out HXB4.out (.inr rfl) HB2.out HKC.out).mono ?_
    rintro e y3 ⟨rfl, hb3, hs3, f3⟩
    have HB3 := hid hb3; have HS3 := hid hs3
    have HFR5 : Hid (Fr (fun i => i = b) w y3) := hid (HFR4.out.no.trans f3 (fun i e => e.elim .inl (fun e => .inr (by have := HRR.out.1; omega))))
    have HO5 := hid (own_fr HO4.out f3 (fun i hi e => by
     have hi : i = ga := (Option.some.inj hi).symm
     rcases e with e | e
     ·exact HXN.out (by omega)
     ·have := HRR.out.2.1; omega))
    have HSL5 := hid (ints_sl HO5.out HN.out (by omega) (fun x v => v = .int .i64 (x : Int) ∧ x < 20) (fun x hx => ⟨rfl, HLTs.out x hx⟩))
    clear hb3 hs3 f3 ck2
    have HCN := hid (containsN (α := Nat) 52 [.pointer (some ⟨r, 0, none⟩)] (fun x => !puts none_ (line s k) x) (fun w' x v => (v = .int .i64 (x : Int) ∧ x < 20) ∧ Blk w' r 77 (bb (puts none_ (line s k)) 20)) No (fun w' => Fr No y3 w') (fun i => base ≤ i) (.slice (some ⟨ga, 0, none⟩) (M + 1) vcp) L y3
     (fun w w' x c h hf => ⟨h.1, h.2.fr hf id⟩) (fun _ _ _ e => e) (Fr.refl _ _) (Sl.fr HSL5.out (Fr.refl No y3) (fun _ _ _ e => e) (fun x c _ h => by obtain ⟨v, e, h⟩ := h; exact ⟨v, e, h, HB3.out⟩)) (fun vs w => by kernel_rfl)
     (fun x _ c wv hp hi _ => by
      obtain ⟨⟨rfl, hx20⟩, hbk⟩ := hp
      exact (notIn_any _ x r wv hx20 hbk).mono fun e w' ⟨h1, h2⟩ => by subst h2; exact ⟨h1, hi, Fr.refl _ _⟩))
    rw [any_not, HR2.out] at HCN
    go_wp2_with fail
    refine HCN.out.mono ?_
    rintro e y6 ⟨rfl, -, f6⟩
    have HF6 := hid f6
    clear f6 HCN
    go_wp2_with fail
    go_ret
    exact ⟨rfl, (HS3.out.less (fun _ hk => .inl hk)).no HF6.out, HFR5.out.trans' HF6.out.no⟩
theorem puts_snoc (f : Set) (l : List Nat) (i : Nat) : puts f (l ++ [i]) = put (puts f l) i := by
 unfold puts
 rw [List.foldl_append]
 rfl
set_option maxHeartbeats 16000000 in
theorem addTypes_any {S : Nat → Prop} (X : Nat → Prop) (b r : Nat) (s : Sch) (f : Set) (v : Value) (l : List B) (w : World) (h : Sx w X b s) (hX : ∀ k, X k → k < w.heap.size) (hr : X r) (hB : Blk w r 73 (bb f 40)) (hl : LsIn S w v l) (hS : ∀ i, S i → i ≠ b ∧ i ≠ r) :
  Calls Tryz.prog 53 #[.pointer (some ⟨b, 0, none⟩), .pointer (some ⟨r, 0, none⟩), v] w fun e w' => e = .returned (.tuple #[]) ∧ Blk w' r 73 (bb (puts f (ats s l)) 40) ∧ Sx w' X b s ∧ Fr (fun i => i = b ∨ i = r) w w' := by
 have HX := hid h; have HXL := hid hX; have HXR := hid hr; have HB := hid hB; have HL := hid hl; have HS := hid hS
 have HOK := hid h.ok
 have HNE : Hid (¬ r = b) := hid (fun e => h.nx (by rw [← e]; exact hr))
 obtain ⟨a, cp, rfl, hcap, hlm⟩ := hl.form
 obtain ⟨n, hn⟩ : ∃ n, l.length = n := ⟨_, rfl⟩
 have HNN := hid hn
 rw [hn] at HL hlm ⊢
 have hni : (n : Int) ≤ 140737488351232 := by omega
 clear h hX hr hB hl hS hn hcap hlm
 go_enter Tryz.func53, Tryz.ntmps53
 go_wp2_with fail
 go_loopw [12] (fun iv wr => ∃ (i : Nat), iv = .int .i64 i ∧ i ≤ n ∧ Hid (Blk wr r 73 (bb (puts f (ats s (l.take i))) 40) ∧ Sx wr X b s ∧ Fr (fun i => i = b ∨ i = r) w wr)) (fun iv _ => n - (intOf iv).toNat)
 case atStart => exact ⟨0, rfl, Nat.zero_le _, hid ⟨HB.out, HX.out, Fr.refl _ _⟩⟩
 case round =>
  obtain ⟨i, rfl, hi, HI⟩ := hrel
  by_cases hlt : i < n
  ·obtain ⟨x, hx⟩ : ∃ x, l[i]? = some x := ⟨_, List.getElem?_eq_getElem (by rw [HNN.out]; exact hlt)⟩
   have hlti : (i : Int) < n := by omega
   have hi0 : (0 : Int) ≤ i := by omega
   obtain ⟨g, o, cq, e1, hc, hz⟩ := (HL.out.fr HI.out.2.2 (fun i hi _ e => e.elim (HS.out i hi).1 (HS.out i hi).2)).at_ hx
   rw [HNN.out] at e1
   simp only [Value.slice.injEq, true_and] at e1
   obtain ⟨rfl, rfl⟩ := e1
   have HZ := hid hz
   have HP : Hid (put (puts f (ats s (l.take i))) ((s.tyAt x).getD 0) = puts f (ats s (l.take (i + 1)))) := hid (by
    rw [(drop_at hx).2]
    unfold ats
    rw [List.map_append, List.map_singleton, puts_snoc])
   have HLT := hid hlt
   clear hz hx hi hlt
   go_wp2_with fail
   refine (typeAt_any X b s x wr HI.out.2.1 (fun k hk => Nat.lt_of_lt_of_le (HXL.out k hk) HI.out.2.2.size) HZ.out).mono ?_
   rintro e w3 ⟨rfl, hs3, f3⟩
   have HS3 := hid hs3.sx
   have HB3 := hid (HI.out.1.fr f3 HNE.out)
   have HFR3 : Hid (Fr (fun i => i = b ∨ i = r) w w3) := hid (HI.out.2.2.trans' (f3.mono (fun i e => .inl e)))
   clear hs3 f3 hc
   have hj : (s.tyAt x).getD 0 < 40 := by
    cases ht : s.tyAt x with
    | none => decide
    | some j => exact (tyAt_lt HOK.out ht).2
   have hat : atR (s.tyAt x) = .tuple #[.int .i64 (((s.tyAt x).getD 0 : Nat) : Int), .bool (s.tyAt x).isSome] := by
    unfold atR
    cases s.tyAt x <;> rfl
   rw [hat]
   obtain ⟨j, hjj⟩ : ∃ j, (s.tyAt x).getD 0 = j := ⟨_, rfl⟩
   rw [hjj] at hj HP ⊢
   have hji : (j : Int) < 40 := by omega
   have hj0 : (0 : Int) ≤ j := by omega
   have HJ := hid hj
   clear hat hjj hj
   go_wp2_with (first
    | ((with_reducible refine K.atO (.store 4 _ _) ?_); refine wpL_setV rfl _ _ _ rfl r j (.bool true) rfl rfl rfl rfl 73 _ HB3.out (by rw [bb_length]; exact HJ.out) infoBool ?_; intro w4 HB4 HF4 HS4; rw [bb_put, HP.out] at HB4)
    | fail)
   refine ⟨⟨i + 1, by go_num, HLT.out, hid ⟨HB4.out, HS3.out.fr HF4.out (fun k e => .inl (by have e : k = r := e; rw [e]; exact HXR.out)), HFR3.out.trans' (HF4.out.mono (fun i e => .inr e))⟩⟩, ?_⟩
   have := HLT.out
   simp [intOf]; omega
  ·obtain rfl : i = n := by omega
   go_wp2_with fail
   go_end0
   refine ⟨rfl, ?_, HI.out.2.1, HI.out.2.2⟩
   have := HI.out.1
   rw [← HNN.out, List.take_length] at this
   exact this
theorem mustF_step (s : Sch) (f : Set) {i : Nat} {c : Cl} (h : s.cls[i]? = some c) : mustF s f (i + 1) = if f i then puts (mustF s f i) (ats s c.must) else mustF s f i := by
 rw [mustF, h]
 rfl
theorem mayF_step (s : Sch) (f : Set) {i : Nat} {c : Cl} (h : s.cls[i]? = some c) : mayF s f (i + 1) = if f i then puts (mayF s f i) (ats s c.may) else mayF s f i := by
 rw [mayF, h]
 rfl
def mOk (mu pr : Set) (i : Nat) : Bool := !(mu i && !pr i)
set_option maxHeartbeats 32000000 in
theorem checkTypes_any (X : Nat → Prop) (b : Nat) (s : Sch) (pr f : Set) (w : World) (h : Sx w X b s) (hX : ∀ k, X k → k < w.heap.size) :
  Calls Tryz.prog 23 #[.pointer (some ⟨b, 0, none⟩), .agg (bb pr 40).toArray, .agg (bb f 20).toArray] w fun e w' => e = .returned (.int .i64 (chkTys s pr f)) ∧ Sx w' X b s ∧ Fr (fun k => k = b) w w' := by
 have HX := hid h; have HXB := hid hX; have HOK := hid h.ok
 have HBL := hid h.lt
 obtain ⟨R, hR⟩ : ∃ R, chkTys s pr f = R := ⟨_, rfl⟩
 rw [hR]
 have HR : Hid ((if okMust s pr f = true then (if okMayF s pr f 0 s.tys = true then 0 else 135) else (134 : Int)) = R) := hid hR
 obtain ⟨base, hbase⟩ : ∃ b, w.heap.size = b := ⟨_, rfl⟩
 have HBASE := hid hbase
 obtain ⟨n, hn⟩ : ∃ n, s.cls.length = n := ⟨_, rfl⟩
 have HNN := hid hn
 have HN20 : Hid (n ≤ 20) := hid (by rw [← hn]; exact (okS_b h.ok).2.2)
 have hni : (n : Int) ≤ 20 := by have := HN20.out; omega
 clear h hX hR hbase hn
 go_enter Tryz.func23, Tryz.ntmps23
 go_wp2_with (first
  | ((with_reducible refine K.atO (.box 73 _) ?_); refine wpL_box rfl _ _ rfl _ rfl (bb pr 40) rfl ?_; intro w1 HB1 HF1 HS1)
  | ((with_reducible refine K.atO (.box 77 _) ?_); refine wpL_box rfl _ _ rfl _ rfl (bb f 20) rfl ?_; intro w2 HB2 HF2 HS2)
  | ((with_reducible refine K.atO (.alloc 73) ?_); (fail_if_success (have := HB3)); refine wpL_alloc rfl _ rfl _ zeroTs (bb none_ 40) rfl ?_; intro w3 HB3 HF3 HS3)
  | ((with_reducible refine K.atO (.alloc 73) ?_); refine wpL_alloc rfl _ rfl _ zeroTs (bb none_ 40) rfl ?_; intro w4 HB4 HF4 HS4; refine Hid.out ?_)
  | fail)
 obtain ⟨pb, hpb⟩ : ∃ b, w.heap.size = b := ⟨_, rfl⟩
 obtain ⟨cb, hcb⟩ : ∃ b, w1.heap.size = b := ⟨_, rfl⟩
 obtain ⟨mb, hmb⟩ : ∃ b, w2.heap.size = b := ⟨_, rfl⟩
 obtain ⟨yb, hyb⟩ : ∃ b, w3.heap.size = b := ⟨_, rfl⟩
 have HO := hid (show pb = base ∧ cb = pb + 1 ∧ mb = cb + 1 ∧ yb = mb + 1 ∧ w4.heap.size = yb + 1 from by have := HS1.out; have := HS2.out; have := HS3.out; have := HS4.out; have := HBASE.out; omega)
 rw [hpb] at HB1 ⊢
 rw [hcb] at HB2 ⊢
 rw [hmb] at HB3 ⊢
 rw [hyb] at HB4 ⊢
 have HFw4 : Hid (Fr No w w4) := hid (((HF1.out.trans' HF2.out).trans' HF3.out).trans' HF4.out)
 have HBp := hid (((HB1.out.fr HF2.out id).fr HF3.out id).fr HF4.out id)
 have HBc := hid ((HB2.out.fr HF3.out id).fr HF4.out id)
 have HBm := hid (HB3.out.fr HF4.out id)
 have HX4 : Hid (Sx w4 (Also (Also X mb) yb) b s) := hid (((HX.out.no ((HF1.out.trans' HF2.out))).also (r := mb) (by omega) |>.no HF3.out |>.also (r := yb) (by omega)).no HF4.out)
 have HXL4 : Hid (∀ k, Also (Also X mb) yb k → k < w4.heap.size) := hid (fun k hk => by
  have := HO.out; have := HBASE.out
  rcases hk with (hk | hk) | hk
  ·have := HXB.out k hk; omega
  ·omega
  ·omega)
 have HBB := hid (show b < pb from by have := HBL.out; have := HO.out; have := HBASE.out; omega)
 clear hpb hcb hmb hyb HB1 HB2 HB3 HF1 HF2 HF3 HF4 HS1 HS2 HS3 HS4 HX
 obtain ⟨vt, vc, d, tm, cm, hSB, -, -, hcl, -, -⟩ := HX4.out
 obtain ⟨a, cp, rfl, -, -⟩ := hcl.form
 have HSB := hid hSB; have HCL := hid hcl
 rw [HNN.out] at HSB HCL
 have d1 : w4.cell? ⟨b, 1, none⟩ = some (.slice a n cp) := HSB.out.cell 1
 clear hSB hcl
 refine hid ?_
 go_wp2_with fail
 clear d1
 go_loopw [20] (fun iv wr => ∃ (i : Nat), iv = .int .i64 i ∧ i ≤ n ∧ Hid (Blk wr mb 73 (bb (mustF s f i) 40) ∧ Blk wr yb 73 (bb (mayF s f i) 40)) ∧ Hid (Sx wr (Also (Also X mb) yb) b s ∧ Fr (fun k => k = b ∨ k = mb ∨ k = yb) w4 wr)) (fun iv _ => n - (intOf iv).toNat)
 case atStart => exact ⟨0, rfl, Nat.zero_le _, hid ⟨HBm.out, HB4.out⟩, hid ⟨HX4.out, Fr.refl _ _⟩⟩
 case round =>
  obtain ⟨i, rfl, hi, HM, HI⟩ := hrel
  have HBc4 : Hid (Blk wr cb 77 (bb f 20)) := hid (HBc.out.fr HI.out.2 (fun e => by have := HO.out; have := HBB.out; rcases e with e | e | e <;> omega))
  by_cases hlt : i < n
  ·obtain ⟨c, hc⟩ : ∃ c, s.cls[i]? = some c := ⟨_, List.getElem?_eq_getElem (by rw [HNN.out]; exact hlt)⟩
   have hlti : (i : Int) < n := by omega
   have hi0 : (0 : Int) ≤ i := by omega
   have hi20 : (i : Int) < 20 := by omega
   have hi20n : i < 20 := by have := HN20.out; omega
   obtain ⟨g, o, cq, cs, e1, hOg, -, hr, -, hp⟩ := (HCL.out.fr HI.out.2 (fun i hi _ e => by
    rcases e with e | e | e
    ·exact hi.2 e
    ·exact hi.1 (.inl (.inr e))
    ·exact hi.1 (.inr e))).get hc
   rw [HNN.out] at e1
   simp only [Value.slice.injEq, true_and] at e1
   obtain ⟨rfl, rfl⟩ := e1
   obtain ⟨v1, v2, rfl, -, -, hv1, hv2, -⟩ := hp
   have HRR := hid hr; have HV1 := hid hv1; have HV2 := hid hv2
   have HONE : Hid (∀ v ∈ clV c v1 v2, v.oneCell' = true) := hid (oneCl c (by obtain ⟨a, cp, rfl, -⟩ := hv1.form; rfl) (by obtain ⟨a, cp, rfl, -⟩ := hv2.form; rfl))
   have HMS := hid (mustF_step s f hc); have HYS := hid (mayF_step s f hc)
   have HLT := hid hlt
   obtain ⟨P, hP⟩ : ∃ P, f i = P := ⟨_, rfl⟩
   have HFI : Hid (∀ w', Fr No wr w' → w'.cell? ⟨cb, i, none⟩ = some (.bool P)) := hid (fun w' hf => by rw [(HBc4.out.fr hf id).cell, bb_get f hi20n, hP])
   rw [hP] at HMS HYS
   clear hr hv1 hv2 hc hi hlt hi20n hOg hP
   go_wp2_with (first
    | ((with_reducible refine K.atO (.load 55 _) ?_); refine wpL_load rfl _ _ rfl g (o + i * 5) rfl (clV c v1 v2) _ HRR.out rfl rfl infoCl ?_)
    | ((with_reducible refine K.atO (.alloc 55) ?_); refine wpL_alloc rfl _ rfl _ zeroCl _ rfl ?_; intro y2 HB2 HF2 HS2)
    | ((with_reducible refine K.atO (.store 55 _ _) ?_); refine wpL_store rfl _ _ _ rfl wr.heap.size 0 (clV c v1 v2) rfl rfl 55 _ HB2.out (by simp [clV]) infoCl HONE.out ?_; intro y3 HB3 HF3 HS3; refine Hid.out ?_)
    | fail)
   have HFR3 : Hid (Fr No wr y3) := hid (HF2.out.trans HF3.out fun k e => .inr (by have e : k = wr.heap.size := e; omega))
   obtain ⟨q, hq⟩ : ∃ q, wr.heap.size = q := ⟨_, rfl⟩
   have HQ := hid hq
   rw [hq] at HB3 ⊢
   have HB3' : Hid (Blk y3 q 55 (clV c v1 v2)) := hid HB3.out
   have cf : y3.cell? ⟨cb, i, none⟩ = some (.bool P) := HFI.out y3 HFR3.out
   have c3 : y3.cell? ⟨q, 3, none⟩ = some v1 := HB3'.out.cell 3
   have HQB := hid (show q ≠ b ∧ q ≠ mb ∧ q ≠ yb from by have := HQ.out; have := HI.out.2.size; have := HO.out; have := HBB.out; omega)
   have HX3 := hid (HI.out.1.no HFR3.out)
   have HXL3 : Hid (∀ k, Also (Also X mb) yb k → k < y3.heap.size) := hid (fun k hk => Nat.lt_of_lt_of_le (HXL4.out k hk) (Nat.le_trans HI.out.2.size HFR3.out.size))
   clear HB2 HF2 HS2 HB3 HF3 HS3 hq HFI
   refine hid ?_
   cases P with
   | false =>
    have HM1 : Hid (mustF s f (i + 1) = mustF s f i) := hid HMS.out
    have HY1 : Hid (mayF s f (i + 1) = mayF s f i) := hid HYS.out
    go_wp2_with fail
    refine ⟨⟨i + 1, by go_num, HLT.out, hid ⟨by rw [HM1.out]; exact HM.out.1.fr HFR3.out id, by rw [HY1.out]; exact HM.out.2.fr HFR3.out id⟩, hid ⟨HX3.out, HI.out.2.trans' HFR3.out.no⟩⟩, ?_⟩
    have := HLT.out
    simp [intOf]; omega
   | true =>
    have HM1 : Hid (mustF s f (i + 1) = puts (mustF s f i) (ats s c.must)) := hid HMS.out
    have HY1 : Hid (mayF s f (i + 1) = puts (mayF s f i) (ats s c.may)) := hid HYS.out
    go_wp2_with fail
    refine (addTypes_any (Also (Also X mb) yb) b mb s (mustF s f i) v1 c.must y3 HX3.out HXL3.out (.inl (.inr rfl)) (HM.out.1.fr HFR3.out id) (LsIn.fr (D := No) HV1.out HFR3.out (fun _ _ _ e => e)) (fun i hi => ⟨hi.2, fun e => hi.1 (.inl (.inr e))⟩)).mono ?_
    rintro e y4 ⟨rfl, hb4, hs4, f4⟩
    have HB4' := hid hb4; have HS4 := hid hs4; have HF4 := hid f4
    have HBy4 := hid ((HM.out.2.fr HFR3.out id).fr f4 (fun e => by have := HO.out; have := HBB.out; rcases e with e | e <;> omega))
    have c4 : y4.cell? ⟨q, 4, none⟩ = some v2 := (HB3'.out.fr f4 (fun e => e.elim HQB.out.1 HQB.out.2.1)).cell 4
    have HXL5 : Hid (∀ k, Also (Also X mb) yb k → k < y4.heap.size) := hid (fun k hk => Nat.lt_of_lt_of_le (HXL3.out k hk) f4.size)
    clear hb4 hs4 f4 c3 cf
    go_wp2_with fail
    refine (addTypes_any (Also (Also X mb) yb) b yb s (mayF s f i) v2 c.may y4 HS4.out HXL5.out (.inr rfl) HBy4.out ((LsIn.fr (D := No) HV2.out HFR3.out (fun _ _ _ e => e)).fr HF4.out (fun i hi _ e => e.elim hi.2 (fun e => hi.1 (.inl (.inr e))))) (fun i hi => ⟨hi.2, fun e => hi.1 (.inr e)⟩)).mono ?_
    rintro e y5 ⟨rfl, hb5, hs5, f5⟩
    have HB5 := hid hb5; have HS5 := hid hs5
    have HBm5 := hid (HB4'.out.fr f5 (fun e => by have := HO.out; have := HBB.out; rcases e with e | e <;> omega))
    have HFR5 : Hid (Fr (fun k => k = b ∨ k = mb ∨ k = yb) w4 y5) := hid (((HI.out.2.trans' HFR3.out.no).trans' (HF4.out.mono (fun k e => e.imp id .inl))).trans' (f5.mono (fun k e => e.imp id .inr)))
    clear hb5 hs5 f5 c4
    go_wp2_with fail
    refine ⟨⟨i + 1, by go_num, HLT.out, hid ⟨by rw [HM1.out]; exact HBm5.out, by rw [HY1.out]; exact HB5.out⟩, hid ⟨HS5.out, HFR5.out⟩⟩, ?_⟩
    have := HLT.out
    simp [intOf]; omega
  ·obtain rfl : i = n := by omega
   have HBp4 : Hid (Blk wr pb 73 (bb pr 40)) := hid (HBp.out.fr HI.out.2 (fun e => by have := HO.out; have := HBB.out; rcases e with e | e | e <;> omega))
   obtain ⟨mu, hmu⟩ : ∃ g, mustF s f i = g := ⟨_, rfl⟩
   obtain ⟨ma, hma⟩ : ∃ g, mayF s f i = g := ⟨_, rfl⟩
   have HMU : Hid (mustF s f s.cls.length = mu ∧ mayF s f s.cls.length = ma) := hid (by rw [HNN.out]; exact ⟨hmu, hma⟩)
   rw [hmu, hma] at HM
   obtain ⟨w5, hw5⟩ : ∃ w5, wr = w5 := ⟨_, rfl⟩
   rw [hw5] at HI HM HBp4 ⊢
   have HFIN : Hid (∀ w6, Fr No w5 w6 → Sx w6 X b s ∧ Fr (fun k => k = b) w w6) := hid (fun w6 hf =>
    ⟨(HI.out.1.no hf).less (fun _ hk => .inl (.inl hk)), (HFw4.out.no.trans HI.out.2 (fun k e => by
     have := HO.out; have := HBASE.out
     rcases e with e | e | e
     ·exact .inl e
     ·exact .inr (by omega)
     ·exact .inr (by omega))).trans' hf.no⟩)
   clear hmu hma hw5 hi hlt
   go_wp2_with fail
   go_loopw [37] (fun iv wr => ∃ (j : Nat), iv = .int .i64 j ∧ j ≤ 40 ∧ Hid ((List.range j).all (mOk mu pr) = true) ∧ Hid (Fr No w5 wr)) (fun iv _ => 40 - (intOf iv).toNat)
   case atStart => exact ⟨0, rfl, Nat.zero_le _, hid rfl, hid (Fr.refl _ _)⟩
   case round =>
    obtain ⟨j, rfl, hj, HT, HJ⟩ := hrel
    by_cases hlt : j < 40
    ·have hji : (j : Int) < 40 := by omega
     have hj0 : (0 : Int) ≤ j := by omega
     have HLT := hid hlt
     have cm : wr.cell? ⟨mb, j, none⟩ = some (.bool (mu j)) := by rw [(HM.out.1.fr HJ.out id).cell, bb_get mu hlt]
     have cpj : wr.cell? ⟨pb, j, none⟩ = some (.bool (pr j)) := by rw [(HBp4.out.fr HJ.out id).cell, bb_get pr hlt]
     obtain ⟨A, hA⟩ : ∃ A, mu j = A := ⟨_, rfl⟩
     obtain ⟨P, hP⟩ : ∃ P, pr j = P := ⟨_, rfl⟩
     rw [hA] at cm
     rw [hP] at cpj
     have HSt : Hid ((List.range (j + 1)).all (mOk mu pr) = !(A && !P)) := hid (by rw [List.range_succ, List.all_append, HT.out]; simp [mOk, hA, hP])
     have HAP := hid (show mu j = A ∧ pr j = P from ⟨hA, hP⟩)
     clear hA hP hj hlt HT
     cases A with
     | false =>
      go_wp2_with fail
      refine ⟨⟨j + 1, by go_num, HLT.out, hid (by rw [HSt.out]; rfl), HJ⟩, ?_⟩
      have := HLT.out
      simp [intOf]; omega
     | true =>
      cases P with
      | true =>
       go_wp2_with fail
       refine ⟨⟨j + 1, by go_num, HLT.out, hid (by rw [HSt.out]; rfl), HJ⟩, ?_⟩
       have := HLT.out
       simp [intOf]; omega
      | false =>
       obtain rfl : R = 134 := by
        have h := HR.out
        have hno : okMust s pr f = false := by
         unfold okMust
         rw [HMU.out.1, List.all_eq_false]
         exact ⟨j, List.mem_range.2 HLT.out, by rw [HAP.out.1, HAP.out.2]; decide⟩
        rw [hno] at h
        exact h.symm
       go_wp2_with fail
       go_ret
       exact ⟨rfl, (HFIN.out wr HJ.out).1, (HFIN.out wr HJ.out).2⟩
    ·obtain rfl : j = 40 := by omega
     rw [show ((40 : Nat) : Int) = (40 : Int) from rfl]
     have HR2 : Hid ((if okMayF s pr f 0 (s.tys.drop 0) = true then 0 else (135 : Int)) = R) := hid (by
      have h := HR.out
      have hyes : okMust s pr f = true := by unfold okMust; rw [HMU.out.1]; exact HT.out
      rw [if_pos hyes] at h
      exact h)
     obtain ⟨w6, hw6⟩ : ∃ w6, wr = w6 := ⟨_, rfl⟩
     rw [hw6] at HJ ⊢
     obtain ⟨vt', vc', d', tm', cm', hSB6, -, htv, -, -, -⟩ := (HI.out.1.no HJ.out)
     obtain ⟨ta, tcp, rfl, -, htl⟩ := htv.form
     have HTV := hid htv
     obtain ⟨m, hm⟩ : ∃ m, s.tys.length = m := ⟨_, rfl⟩
     have HMM := hid hm
     have hm40 : m ≤ 40 := by rw [← hm]; exact (okS_b HOK.out).2.1
     have HM40 := hid hm40
     rw [hm] at HTV hSB6
     have d0 : w6.cell? ⟨b, 0, none⟩ = some (.slice ta m tcp) := hSB6.cell 0
     have hmi : (m : Int) ≤ 40 := by omega
     clear hSB6 htv htl hm hm40 hw6 hj hlt HT
     go_wp2_with fail
     clear d0
     go_loopw [56] (fun iv wr => ∃ (j : Nat), iv = .int .i64 j ∧ j ≤ m ∧ Hid ((if okMayF s pr f j (s.tys.drop j) = true then 0 else (135 : Int)) = R) ∧ Hid (Fr No w6 wr)) (fun iv _ => m - (intOf iv).toNat)
     case atStart => exact ⟨0, rfl, Nat.zero_le _, HR2, hid (Fr.refl _ _)⟩
     case round =>
      obtain ⟨j, rfl, hj, HT, HJ2⟩ := hrel
      have HJ6 : Hid (Fr No w5 wr) := hid (HJ.out.trans' HJ2.out)
      by_cases hlt : j < m
      ·obtain ⟨t, ht⟩ : ∃ t, s.tys[j]? = some t := ⟨_, List.getElem?_eq_getElem (by rw [HMM.out]; exact hlt)⟩
       have hlti : (j : Int) < m := by omega
       have hj40 : (j : Int) < 40 := by omega
       have hj0 : (0 : Int) ≤ j := by omega
       have hj40n : j < 40 := by have := HM40.out; omega
       obtain ⟨g, o, cq, cs, e1, -, -, hr, -, hp⟩ := (TysIn.fr (D := No) HTV.out HJ2.out (fun _ _ _ e => e)).get ht
       rw [HMM.out] at e1
       simp only [Value.slice.injEq, true_and] at e1
       obtain ⟨rfl, rfl⟩ := e1
       obtain ⟨rfl, -⟩ := hp
       have HRR := hid hr
       have HT2 : Hid ((if (okMay1 s pr f j t && okMayF s pr f (j + 1) (s.tys.drop (j + 1))) = true then 0 else (135 : Int)) = R) := hid (by
        have h := HT.out
        rw [(drop_at ht).1] at h
        exact h)
       have HLT := hid hlt
       have HC : Hid (∀ w', Fr No wr w' → w'.cell? ⟨mb, j, none⟩ = some (.bool (mu j)) ∧ w'.cell? ⟨yb, j, none⟩ = some (.bool (ma j)) ∧ w'.cell? ⟨pb, j, none⟩ = some (.bool (pr j))) := hid (fun w' hf => by
        have h6 := HJ6.out.trans' hf
        exact ⟨by rw [(HM.out.1.fr h6 id).cell, bb_get mu hj40n], by rw [(HM.out.2.fr h6 id).cell, bb_get ma hj40n], by rw [(HBp4.out.fr h6 id).cell, bb_get pr hj40n]⟩)
       clear hr ht HT hj hlt hj40n
       go_wp2_with (first
        | ((with_reducible refine K.atO (.load 53 _) ?_); refine wpL_load rfl _ _ rfl g (o + j * 6) rfl (tyV t) _ HRR.out rfl rfl infoTy ?_)
        | ((with_reducible refine K.atO (.alloc 53) ?_); refine wpL_alloc rfl _ rfl _ zeroTy _ rfl ?_; intro y2 HB2 HF2 HS2)
        | ((with_reducible refine K.atO (.store 53 _ _) ?_); refine wpL_store rfl _ _ _ rfl wr.heap.size 0 (tyV t) rfl rfl 53 _ HB2.out (by simp [tyV]) infoTy (oneTy t) ?_; intro y3 HB3 HF3 HS3; refine Hid.out ?_)
        | fail)
       have HFR3 : Hid (Fr No wr y3) := hid (HF2.out.trans HF3.out fun k e => .inr (by have e : k = wr.heap.size := e; omega))
       have HB3' : Hid (Blk y3 wr.heap.size 53 (tyV t)) := hid HB3.out
       have HFJ : Hid (Fr No w5 y3) := hid (HJ6.out.trans' HFR3.out)
       have HJ : Hid (Fr No w6 wr) := HJ2
       obtain ⟨q, hq⟩ : ∃ q, wr.heap.size = q := ⟨_, rfl⟩
       rw [hq] at HB3' ⊢
       have c4 : y3.cell? ⟨q, 4, none⟩ = some (.bool t.sys) := HB3'.out.cell 4
       obtain ⟨cmu, cma, cpr⟩ := HC.out y3 HFR3.out
       have HQ1 : Hid (okMay1 s pr f j t = !(pr j && !t.sys && !decide (j = 0) && !mu j && !ma j)) := hid (by unfold okMay1; rw [HMU.out.1, HMU.out.2])
       obtain ⟨A, hA⟩ : ∃ A, mu j = A := ⟨_, rfl⟩
       obtain ⟨M, hM⟩ : ∃ M, ma j = M := ⟨_, rfl⟩
       obtain ⟨P, hP⟩ : ∃ P, pr j = P := ⟨_, rfl⟩
       obtain ⟨Y, hY⟩ : ∃ Y, t.sys = Y := ⟨_, rfl⟩
       rw [hA, hM, hP, hY] at HQ1
       rw [hA] at cmu
       rw [hM] at cma
       rw [hP] at cpr
       rw [hY] at c4
       clear hA hM hP hY hq HB2 HF2 HS2 HB3 HF3 HS3 HC
       refine hid ?_
       have HGO : Hid (okMay1 s pr f j t = true → Hid ((if okMayF s pr f (j + 1) (s.tys.drop (j + 1)) = true then 0 else (135 : Int)) = R)) := hid (fun e => hid (by have h := HT2.out; rw [e, Bool.true_and] at h; exact h))
       cases P with
       | false =>
        have HT3 := HGO.out (by rw [HQ1.out]; rfl)
        go_wp2_with fail
        go_roundw
        case rel => exact ⟨j + 1, by go_num, HLT.out, HT3, hid (HJ.out.trans' HFR3.out)⟩
        case measure => have := HLT.out; simp [intOf]; omega
       | true =>
        cases Y with
        | true =>
         have HT3 := HGO.out (by rw [HQ1.out]; rfl)
         go_wp2_with fail
         go_roundw
         case rel => exact ⟨j + 1, by go_num, HLT.out, HT3, hid (HJ.out.trans' HFR3.out)⟩
         case measure => have := HLT.out; simp [intOf]; omega
        | false =>
         by_cases hz : j = 0
         ·subst hz
          have HT3 := HGO.out (by rw [HQ1.out]; rfl)
          go_wp2_with fail
          go_roundw
          case rel => exact ⟨1, by go_num, HLT.out, HT3, hid (HJ.out.trans' HFR3.out)⟩
          case measure => have := HLT.out; simp [intOf]; omega
         ·have hzb : ((j : Int) != 0) = true := by rw [bne_iff_ne]; omega
          have HZ := hid hz
          clear hz
          cases A with
          | true =>
           have HT3 := HGO.out (by rw [HQ1.out]; simp)
           go_wp2_with fail
           go_roundw
           case rel => exact ⟨j + 1, by go_num, HLT.out, HT3, hid (HJ.out.trans' HFR3.out)⟩
           case measure => have := HLT.out; simp [intOf]; omega
          | false =>
           cases M with
           | true =>
            have HT3 := HGO.out (by rw [HQ1.out]; simp)
            go_wp2_with fail
            go_roundw
            case rel => exact ⟨j + 1, by go_num, HLT.out, HT3, hid (HJ.out.trans' HFR3.out)⟩
            case measure => have := HLT.out; simp [intOf]; omega
           | false =>
            obtain rfl : R = 135 := by
             have h := HT2.out
             rw [HQ1.out, decide_eq_false HZ.out] at h
             exact h.symm
            go_wp2_with fail
            go_ret
            exact ⟨rfl, (HFIN.out y3 HFJ.out).1, (HFIN.out y3 HFJ.out).2⟩
      ·obtain rfl : j = m := by omega
       obtain rfl : R = 0 := by
        have h := HT.out
        rw [← HMM.out, List.drop_length] at h
        exact h.symm
       go_wp2_with fail
       go_ret
       exact ⟨rfl, (HFIN.out wr HJ6.out).1, (HFIN.out wr HJ6.out).2⟩
end Go.Proofs.YtgbiicipkbpmeaaGreatDoor.SC
