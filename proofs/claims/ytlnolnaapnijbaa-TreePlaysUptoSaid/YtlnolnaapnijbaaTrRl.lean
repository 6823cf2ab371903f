/-
  Parts: lowered.
-/
import Derived.Test.YtlnolnaapnijbaaTrRb
namespace Go.Proofs.Ytlnolnaapnijbaa.TR
set_option maxRecDepth 100000
open Go.RowKit K

/-- Behind some rounds: what is joined, what is left. -/
structure Lw (d : Nat) (lo : S) (hi : Option S) (w : World) (t : PT (d + 1)) (b0 gc : Nat) (N R : List (S × Kid (d + 1))) (x : PT d) (wr : World) : Prop where
  rx : Rep wr d x
  kr : Kids wr (d + 1) (fp d x) R
  tl : t.l = N ++ R
  bx : x.b = b0
  ok : Ok d lo (nx hi R) x
  ch : Chain (okK (d + 1)) hi R
  fl : flat d x = flats (d + 1) N
  gd : Good d x
  ne : x.l ≠ []
  len : x.l.length ≤ 8 * N.length
  dj : Dj (own t) (fp d x)
  rg : ∀ A k y B, t.l = A ++ (k, up (d := d) y) :: B → wr.rangeAt gc (A.length * 2) (ptr d y)
  fr : Fr (fp (d + 1) t) w wr
  g1 : ∀ g, fp d x g → fp (d + 1) t g ∨ w.heap.size ≤ g
theorem Lw.step {d : Nat} {lo : S} {hi : Option S} {w wr w2 w3 : World} {t : PT (d + 1)} {b0 gc : Nat} {N R : List (S × Kid (d + 1))} {k : S} {x y x' : PT d} (h : Lw d lo hi w t b0 gc N ((k, up y) :: R) x wr) (hog : own t gc) (hr : Rep w (d + 1) t) (hg : Good (d + 1) t) (hf2 : Fr No wr w2) (hj : Joined d w2 x y w3 x') : Lw d lo hi w t b0 gc (N ++ [(k, up y)]) R x' w3 := by
  obtain ⟨j1, j2, j3, j4, j5⟩ := hj
  have hmy : (k, up y) ∈ t.l := by rw [h.tl]; simp
  have hgy := hg _ hmy
  have hy4 : 4 ≤ y.l.length := hgy.1.1
  have hy8 : y.l.length ≤ 8 := hgy.1.2
  have hk2 := h.kr
  have hxy : Dj (fp d x) (fp d y) := hk2.off (k, up y) (by simp)
  have hyR : ∀ z ∈ R, Dj (fp d y) (fpK (d + 1) z.2) := fun z hz => (List.pairwise_cons.1 hk2.apart).1 z hz
  have hot : Dj (own t) (fp d y) := hr.kids.off _ hmy
  have hR : ∀ z ∈ R, ∀ g, fpK (d + 1) z.2 g → g < wr.heap.size := fun z hz => repK_lt (d + 1) wr z.2 (hk2.rep z (by simp [hz]))
  have s2 := hf2.size
  have hfp : ∀ g, fp d x' g → fp d x g ∨ fp d y g ∨ wr.heap.size ≤ g := fun g hg => (j5 g hg).imp id (fun e => e.imp id (fun e => Nat.le_trans s2 e))
  have hlk : lt lo k = true := by
    cases hx : x.l with
    | nil => exact absurd hx h.ne
    | cons a q =>
      have a1 : lt a.1 lo = false := ok_first h.ok.1 h.ok.2 a (by rw [hx]; simp)
      have a2 : Below (some k) a.1 := chain_below h.ok.1 a (by rw [hx]; simp)
      exact lt_of_le_of_lt a1 a2
  have hfr : Fr (own x) wr w3 := hf2.no.trans' j4
  refine ⟨j3, ⟨fun z hz => ?_, (List.pairwise_cons.1 hk2.apart).2, fun z hz g hg hg' => ?_⟩, by rw [h.tl]; simp, j2.trans h.bx, ?_, h.ch.2.2, ?_, fun z hz => ?_, ?_, ?_, fun g hg hg' => ?_, fun A k' y' B e => ?_, ?_, fun g hg => ?_⟩
  · exact repK_fr (d + 1) z.2 (hk2.rep z (by simp [hz])) hfr (fun g hg e => hk2.off z (by simp [hz]) g (own_fp e) hg)
  · rcases hfp g hg with e | e | e
    · exact hk2.off z (by simp [hz]) g e hg'
    · exact hyR z hz g e hg'
    · have := hR z hz g hg'; omega
  · exact ok_join h.ok h.ch.1 hlk h.ne (fun e => by rw [e] at hy4; simp at hy4) j1
  · rw [flat_of j1, flats_append, flats_append, flats_cons]
    have h6 : flatK (d + 1) k (up y) = flats d y.l := rfl
    have h7 : flats d x.l = flats (d + 1) N := h.fl
    simp only [h6, h7]
    simp [flats]
  · rw [j1] at hz
    rcases List.mem_append.1 hz with hz | hz
    · exact h.gd z hz
    · exact hgy.2 z hz
  · rw [j1]
    intro e
    exact h.ne (List.append_eq_nil_iff.1 e).1
  · rw [j1]; have := h.len; simp; omega
  · have hlt : g < w.heap.size := hr.lt g (own_fp hg)
    rcases hfp g hg' with e | e | e
    · exact h.dj g hg e
    · exact hot g hg e
    · have := h.fr.size; omega
  · exact hfr.range (h.rg A k' y' B e) (fun e => h.dj gc hog (own_fp e))
  · exact h.fr.trans hfr (fun g hg => h.g1 g (own_fp hg))
  · rcases hfp g hg with e | e | e
    · exact h.g1 g e
    · exact .inl (.inr ⟨_, hmy, e⟩)
    · exact .inr (Nat.le_trans h.fr.size e)
/-- What lowered leaves. -/
def Lowered (d : Nat) (lo : S) (hi : Option S) (w : World) (t : PT (d + 1)) (e : Ending) (w' : World) : Prop :=
  ∃ u : PT d, e = .returned (val d u) ∧ Rep w' d u ∧ Ok d lo hi u ∧ Good d u ∧ flat d u = flat (d + 1) t ∧ Fr (fp (d + 1) t) w w' ∧ (∀ g, fp d u g → fp (d + 1) t g ∨ w.heap.size ≤ g) ∧ 1 ≤ u.l.length ∧ u.l.length ≤ 8 * t.l.length
set_option maxHeartbeats 8000000 in
theorem lowered_any (d : Nat) (w : World) (t : PT (d + 1)) (lo : S) (hi : Option S) (hr : Rep w (d + 1) t) (hok : Ok (d + 1) lo hi t) (hg : Good (d + 1) t) (hs : t.l.length ≤ 1000000000000) (hpos : 1 ≤ t.l.length) : Calls Try.prog 74 #[val (d + 1) t] w (Lowered d lo hi w t) := by
  have HR := hid hr; have HOK := hid hok; have HG := hid hg
  obtain ⟨c0, r0, hl0⟩ := hok.2
  obtain ⟨x0, hx0⟩ : ∃ x0 : PT d, t.l = (lo, up x0) :: r0 := ⟨c0, hl0⟩
  have HL0 := hid hx0
  obtain ⟨gc, cc, hcv, hc1, hcc1, hcc2, hog, hrange⟩ := node_open hr hpos
  have HOG := hid hog; have HRG := hid hrange; have HC1 := hid hcc1
  unfold maxLen at hcc2
  clear hr hok hg hl0 hx0 hcv hog hrange
  have hpi : (0 : Int) < (t.l.length : Int) := by omega
  have hp1 : (1 : Int) ≤ (t.l.length : Int) := by omega
  have hlb := HR.out.lt t.b (own_fp (.inl rfl))
  have HLB := hid hlb
  clear hlb
  show Calls Try.prog _ #[.agg #[.pointer none, .pointer (some ⟨t.b, 0, none⟩)]] w _
  have HR0 : Hid (w.rangeAt gc 0 (ptr d x0)) := hid (by have := HRG.out [] lo x0 r0 HL0.out; simpa using this)
  obtain ⟨m, hm⟩ : ∃ m : Nat, t.l.length - 1 = m := ⟨_, rfl⟩
  have hmi : (t.l.length : Int) - 1 = (m : Int) := by omega
  by_cases hcc : cc = 1
  · have hm0 : m = 0 := by omega
    have HM0 := hid hm0
    have HM := hid hm
    have ht1 : t.l.length = 1 := by omega
    clear hm hmi hm0
    subst hcc
    go_enter Try.func74, Try.ntmps74
    go_wp2_with (first
      | ((with_reducible show wpList _ _ _ ({ dst := _, op := .box 103 _, type := _, pos := _, after := _, guard := _ } :: _) _ _); refine wpL_box rfl _ _ rfl _ rfl [.pointer none, .pointer (some ⟨t.b, 0, none⟩)] rfl ?_; intro w1 HB1 F1 HS1)
      | ((with_reducible show wpList _ _ _ ({ dst := _, op := .alloc 103, type := _, pos := _, after := _, guard := _ } :: _) _ _); have := HB2; refine wpL_alloc rfl _ rfl _ zero_pt [.pointer none, .pointer none] rfl ?_; intro w3 HB3 F3 HS3)
      | ((with_reducible show wpList _ _ _ ({ dst := _, op := .alloc 103, type := _, pos := _, after := _, guard := _ } :: _) _ _); refine wpL_alloc rfl _ rfl _ zero_pt [.pointer none, .pointer none] rfl ?_; intro w2 HB2 F2 HS2; have c1 : w2.cell? ⟨w.heap.size, 1, none⟩ = some (.pointer (some ⟨t.b, 0, none⟩)) := (HB1.out.fr F2.out id).cell 1; have c2 : w2.cell? ⟨t.b, 1, none⟩ = some (.slice (some ⟨gc, 0, none⟩) t.l.length 1) := (F1.out.trans' F2.out).cell hc1 id)
      | ((with_reducible show wpList _ _ _ ({ dst := _, op := .load 103 _, type := _, pos := _, after := _, guard := _ } :: _) _ _); refine wpL_load rfl _ _ rfl gc 0 rfl (ptr d x0) _ ((F1.out.trans' F2.out).range HR0.out id) rfl rfl (by rw [ptr_length]; exact info_p) ?_)
      | ((with_reducible show wpList _ _ _ ({ dst := _, op := .store 103 _ _, type := _, pos := _, after := _, guard := _ } :: _) _ _); refine wpL_storeV rfl _ _ _ rfl w2.heap.size 0 (.agg (ptr d x0).toArray) (ptr d x0) rfl rfl rfl _ _ HB3.out (by rw [ptr_length]; simp) (by rw [ptr_length]; exact info_p) (ptr_one d x0) ?_; intro w4 HB4 F4 HS4; have F24 : Hid (Fr No w2 w4) := hid (F3.out.trans (D' := fun k => k = w2.heap.size) F4.out (fun k e => .inr (by rw [e]; exact Nat.le_refl _))); have d1 : w4.cell? ⟨w.heap.size, 1, none⟩ = some (.pointer (some ⟨t.b, 0, none⟩)) := F24.out.cell c1 id; have d2 : w4.cell? ⟨t.b, 1, none⟩ = some (.slice (some ⟨gc, 0, none⟩) t.l.length 1) := F24.out.cell c2 id))
    have F04 : Hid (Fr No w w4) := hid ((F1.out.trans' F2.out).trans' F24.out)
    have HX1 : Hid (Blk w4 w1.heap.size 103 [.pointer none, .pointer none]) := hid (HB2.out.fr F24.out id)
    have HX2 : Hid (Blk w4 w2.heap.size 103 (ptr d x0)) := hid (by
      have := HB4.out
      rwa [show spl [.pointer none, .pointer none] 0 (ptr d x0) = ptr d x0 from by unfold spl; rw [ptr_length]; simp] at this)
    have HSZ : Hid (w.heap.size < w1.heap.size ∧ w1.heap.size < w2.heap.size ∧ w2.heap.size < w4.heap.size) := hid ⟨HB1.out.lt, HB2.out.lt, HX2.out.lt⟩
    have HLW0 : Hid (Lw d lo hi w t x0.b gc [(lo, up x0)] r0 x0 w4) := hid (by
      have hm0 : (lo, up x0) ∈ t.l := by rw [HL0.out]; simp
      have hg0 := HG.out _ hm0
      have h4 : 4 ≤ x0.l.length := hg0.1.1
      have h8 : x0.l.length ≤ 8 := hg0.1.2
      have hr4 := HR.out.no F04.out
      have hch := HOK.out.1
      rw [HL0.out] at hch
      have hap := hr4.kids.apart
      rw [HL0.out] at hap
      refine ⟨repK_succ.1 (hr4.kids.rep _ hm0), ⟨fun z hz => hr4.kids.rep z (by rw [HL0.out]; simp [hz]), (List.pairwise_cons.1 hap).2, fun z hz => (List.pairwise_cons.1 hap).1 z hz⟩, HL0.out, rfl, hch.1, hch.2.2, ?_, hg0.2, fun e => by rw [e] at h4; simp at h4, by simp; exact h8, hr4.kids.off _ hm0, fun A k y B e => F04.out.range (HRG.out A k y B e) id, F04.out.no, fun g hg => .inl (.inr ⟨_, hm0, hg⟩)⟩
      rw [flats_cons]
      show flats d x0.l = flats d x0.l ++ flats (d + 1) []
      simp [flats])
    have HNB0 : Hid (∀ g, fp d x0 g → g < w.heap.size) := hid (fun g hg => HR.out.lt g (.inr ⟨(lo, up x0), by rw [HL0.out]; simp, hg⟩))
    have HRL : Hid (r0.length = m) := hid (by have := congrArg List.length HL0.out; simp at this; have := HM.out; omega)
    clear d1 d2 c1 c2
    go_loopw [20] (fun q wr => ∃ (N R : List (S × Kid (d + 1))) (x : PT d) (j : Nat), q = .int .i64 j ∧ Hid (N.length = j + 1) ∧ Hid (Lw d lo hi w t x0.b gc N R x wr) ∧ Hid (Blk wr w1.heap.size 103 [.pointer none, .pointer none]) ∧ Hid (Blk wr w2.heap.size 103 (ptr d x0)) ∧ Hid (∀ g, fp d x g → g ≠ w1.heap.size ∧ g ≠ w2.heap.size)) (fun q _ => m - (intOf q).toNat)
    case atStart => exact ⟨[(lo, up x0)], r0, x0, 0, rfl, hid rfl, HLW0, HX1, HX2, hid (fun g hg => by have := HNB0.out g hg; have := HSZ.out; omega)⟩
    case round =>
      obtain ⟨N, R, x, j, rfl, HNJ, HLW, HY1, HY2, HNB⟩ := hrel
      have hlen : N.length + R.length = m + 1 := by have := congrArg List.length HLW.out.tl; rw [List.length_append] at this; have := HM.out; omega
      have hpx : ptr d x = ptr d x0 := ptr_b HLW.out.bx
      have HPX := hid hpx
      clear hpx
      cases R with
      | nil =>
        have hnl : ¬ ((j : Int) < (m : Int)) := by simp at hlen; have := HNJ.out; omega
        clear hlen
        go_wp2_with (first
          | ((with_reducible show wpList _ _ _ ({ dst := _, op := .load 103 _, type := _, pos := _, after := _, guard := _ } :: _) _ _); refine wpL_load rfl _ _ rfl w2.heap.size 0 rfl (ptr d x0) _ (HY2.out.range 0 _ (by rw [List.drop_zero]; exact List.take_length)) rfl rfl (by rw [ptr_length]; exact info_p) ?_)
          | ((with_reducible show wpList _ _ _ ({ dst := _, op := .store 103 _ _, type := _, pos := _, after := _, guard := _ } :: _) _ _); refine wpL_storeV rfl _ _ _ rfl w1.heap.size 0 (.agg (ptr d x0).toArray) (ptr d x0) rfl rfl rfl _ _ HY1.out (by rw [ptr_length]; simp) (by rw [ptr_length]; exact info_p) (ptr_one d x0) ?_; intro w5 HB5 F5 HS5))
        refine ret_cell rfl _ (by rfl) (cs := ptr d x0) (by
          have := HB5.out
          rwa [show spl [.pointer none, .pointer none] 0 (ptr d x0) = ptr d x0 from by unfold spl; rw [ptr_length]; simp] at this) rfl rfl (by rw [ptr_length]; exact info_p) rfl ?_
        have h0 := HLW.out
        have hrl := h0.rx.fr F5.out (fun g hg e => (HNB.out g hg).1 e)
        have hN : t.l = N := by have := h0.tl; rwa [List.append_nil] at this
        refine ⟨x, by rw [← HPX.out]; rfl, hrl, h0.ok, h0.gd, by rw [h0.fl, flat_of hN], ?_, h0.g1, ?_, by have := h0.len; rw [hN]; exact this⟩
        · exact h0.fr.trans (D' := fun k => k = w1.heap.size) F5.out (fun k e => .inr (by rw [e]; have := HSZ.out; omega))
        · have := h0.ne
          cases hx : x.l with
          | nil => exact absurd hx this
          | cons a b => simp
      | cons y R =>
        obtain ⟨k, (y : PT d)⟩ := y
        have := HNJ.out
        have := HM0.out
        simp at hlen
        omega
  · have hm2 : t.l.length - 1 = m := hm
    have HM := hid hm
    clear hm hmi
    go_enter Try.func74, Try.ntmps74
    go_wp2_with (first
      | ((with_reducible show wpList _ _ _ ({ dst := _, op := .box 103 _, type := _, pos := _, after := _, guard := _ } :: _) _ _); refine wpL_box rfl _ _ rfl _ rfl [.pointer none, .pointer (some ⟨t.b, 0, none⟩)] rfl ?_; intro w1 HB1 F1 HS1)
      | ((with_reducible show wpList _ _ _ ({ dst := _, op := .alloc 103, type := _, pos := _, after := _, guard := _ } :: _) _ _); have := HB2; refine wpL_alloc rfl _ rfl _ zero_pt [.pointer none, .pointer none] rfl ?_; intro w3 HB3 F3 HS3)
      | ((with_reducible show wpList _ _ _ ({ dst := _, op := .alloc 103, type := _, pos := _, after := _, guard := _ } :: _) _ _); refine wpL_alloc rfl _ rfl _ zero_pt [.pointer none, .pointer none] rfl ?_; intro w2 HB2 F2 HS2; have c1 : w2.cell? ⟨w.heap.size, 1, none⟩ = some (.pointer (some ⟨t.b, 0, none⟩)) := (HB1.out.fr F2.out id).cell 1; have c2 : w2.cell? ⟨t.b, 1, none⟩ = some (.slice (some ⟨gc, 0, none⟩) t.l.length cc) := (F1.out.trans' F2.out).cell hc1 id)
      | ((with_reducible show wpList _ _ _ ({ dst := _, op := .load 103 _, type := _, pos := _, after := _, guard := _ } :: _) _ _); refine wpL_load rfl _ _ rfl gc 0 rfl (ptr d x0) _ ((F1.out.trans' F2.out).range HR0.out id) rfl rfl (by rw [ptr_length]; exact info_p) ?_)
      | ((with_reducible show wpList _ _ _ ({ dst := _, op := .store 103 _ _, type := _, pos := _, after := _, guard := _ } :: _) _ _); refine wpL_storeV rfl _ _ _ rfl w2.heap.size 0 (.agg (ptr d x0).toArray) (ptr d x0) rfl rfl rfl _ _ HB3.out (by rw [ptr_length]; simp) (by rw [ptr_length]; exact info_p) (ptr_one d x0) ?_; intro w4 HB4 F4 HS4; have F24 : Hid (Fr No w2 w4) := hid (F3.out.trans (D' := fun k => k = w2.heap.size) F4.out (fun k e => .inr (by rw [e]; exact Nat.le_refl _))); have d1 : w4.cell? ⟨w.heap.size, 1, none⟩ = some (.pointer (some ⟨t.b, 0, none⟩)) := F24.out.cell c1 id; have d2 : w4.cell? ⟨t.b, 1, none⟩ = some (.slice (some ⟨gc, 0, none⟩) t.l.length cc) := F24.out.cell c2 id))
    have F04 : Hid (Fr No w w4) := hid ((F1.out.trans' F2.out).trans' F24.out)
    have HX1 : Hid (Blk w4 w1.heap.size 103 [.pointer none, .pointer none]) := hid (HB2.out.fr F24.out id)
    have HX2 : Hid (Blk w4 w2.heap.size 103 (ptr d x0)) := hid (by
      have := HB4.out
      rwa [show spl [.pointer none, .pointer none] 0 (ptr d x0) = ptr d x0 from by unfold spl; rw [ptr_length]; simp] at this)
    have HSZ : Hid (w.heap.size < w1.heap.size ∧ w1.heap.size < w2.heap.size ∧ w2.heap.size < w4.heap.size) := hid ⟨HB1.out.lt, HB2.out.lt, HX2.out.lt⟩
    have HLW0 : Hid (Lw d lo hi w t x0.b gc [(lo, up x0)] r0 x0 w4) := hid (by
      have hm0 : (lo, up x0) ∈ t.l := by rw [HL0.out]; simp
      have hg0 := HG.out _ hm0
      have h4 : 4 ≤ x0.l.length := hg0.1.1
      have h8 : x0.l.length ≤ 8 := hg0.1.2
      have hr4 := HR.out.no F04.out
      have hch := HOK.out.1
      rw [HL0.out] at hch
      have hap := hr4.kids.apart
      rw [HL0.out] at hap
      refine ⟨repK_succ.1 (hr4.kids.rep _ hm0), ⟨fun z hz => hr4.kids.rep z (by rw [HL0.out]; simp [hz]), (List.pairwise_cons.1 hap).2, fun z hz => (List.pairwise_cons.1 hap).1 z hz⟩, HL0.out, rfl, hch.1, hch.2.2, ?_, hg0.2, fun e => by rw [e] at h4; simp at h4, by simp; exact h8, hr4.kids.off _ hm0, fun A k y B e => F04.out.range (HRG.out A k y B e) id, F04.out.no, fun g hg => .inl (.inr ⟨_, hm0, hg⟩)⟩
      rw [flats_cons]
      show flats d x0.l = flats d x0.l ++ flats (d + 1) []
      simp [flats])
    have HNB0 : Hid (∀ g, fp d x0 g → g < w.heap.size) := hid (fun g hg => HR.out.lt g (.inr ⟨(lo, up x0), by rw [HL0.out]; simp, hg⟩))
    have HRL : Hid (r0.length = m) := hid (by have := congrArg List.length HL0.out; simp at this; have := HM.out; omega)
    clear d1 d2 c1 c2
    go_loopw [20] (fun q wr => ∃ (N R : List (S × Kid (d + 1))) (x : PT d) (j : Nat), q = .int .i64 j ∧ Hid (N.length = j + 1) ∧ Hid (Lw d lo hi w t x0.b gc N R x wr) ∧ Hid (Blk wr w1.heap.size 103 [.pointer none, .pointer none]) ∧ Hid (Blk wr w2.heap.size 103 (ptr d x0)) ∧ Hid (∀ g, fp d x g → g ≠ w1.heap.size ∧ g ≠ w2.heap.size)) (fun q _ => m - (intOf q).toNat)
    case atStart => exact ⟨[(lo, up x0)], r0, x0, 0, rfl, hid rfl, HLW0, HX1, HX2, hid (fun g hg => by have := HNB0.out g hg; have := HSZ.out; omega)⟩
    case round =>
      obtain ⟨N, R, x, j, rfl, HNJ, HLW, HY1, HY2, HNB⟩ := hrel
      have hlen : N.length + R.length = m + 1 := by have := congrArg List.length HLW.out.tl; rw [List.length_append] at this; have := HM.out; omega
      have hpx : ptr d x = ptr d x0 := ptr_b HLW.out.bx
      have HPX := hid hpx
      clear hpx
      cases R with
      | nil =>
        have hnl : ¬ ((j : Int) < (m : Int)) := by simp at hlen; have := HNJ.out; omega
        clear hlen
        go_wp2_with (first
          | ((with_reducible show wpList _ _ _ ({ dst := _, op := .load 103 _, type := _, pos := _, after := _, guard := _ } :: _) _ _); refine wpL_load rfl _ _ rfl w2.heap.size 0 rfl (ptr d x0) _ (HY2.out.range 0 _ (by rw [List.drop_zero]; exact List.take_length)) rfl rfl (by rw [ptr_length]; exact info_p) ?_)
          | ((with_reducible show wpList _ _ _ ({ dst := _, op := .store 103 _ _, type := _, pos := _, after := _, guard := _ } :: _) _ _); refine wpL_storeV rfl _ _ _ rfl w1.heap.size 0 (.agg (ptr d x0).toArray) (ptr d x0) rfl rfl rfl _ _ HY1.out (by rw [ptr_length]; simp) (by rw [ptr_length]; exact info_p) (ptr_one d x0) ?_; intro w5 HB5 F5 HS5))
        refine ret_cell rfl _ (by rfl) (cs := ptr d x0) (by
          have := HB5.out
          rwa [show spl [.pointer none, .pointer none] 0 (ptr d x0) = ptr d x0 from by unfold spl; rw [ptr_length]; simp] at this) rfl rfl (by rw [ptr_length]; exact info_p) rfl ?_
        have h0 := HLW.out
        have hrl := h0.rx.fr F5.out (fun g hg e => (HNB.out g hg).1 e)
        have hN : t.l = N := by have := h0.tl; rwa [List.append_nil] at this
        refine ⟨x, by rw [← HPX.out]; rfl, hrl, h0.ok, h0.gd, by rw [h0.fl, flat_of hN], ?_, h0.g1, ?_, by have := h0.len; rw [hN]; exact this⟩
        · exact h0.fr.trans (D' := fun k => k = w1.heap.size) F5.out (fun k e => .inr (by rw [e]; have := HSZ.out; omega))
        · have := h0.ne
          cases hx : x.l with
          | nil => exact absurd hx this
          | cons a b => simp
      | cons y R =>
        obtain ⟨k, (y : PT d)⟩ := y
        have HLW' : Hid (Lw d lo hi w t x0.b gc N ((k, up y) :: R) x wr) := HLW
        have hlt : (j : Int) < (m : Int) := by simp at hlen; have := HNJ.out; omega
        have hjb : (j : Int) ≤ 1000000000000 := by omega
        have HRGy : Hid (wr.rangeAt gc (2 + j * 2) (ptr d y)) := hid (by
          have := HLW'.out.rg N k y R HLW'.out.tl
          rwa [HNJ.out, show (j + 1) * 2 = 2 + j * 2 by omega] at this)
        have hmy : (k, up y) ∈ t.l := by rw [HLW'.out.tl]; simp
        have HY8 : Hid (y.l.length ≤ 8) := hid (HG.out _ hmy).1.2
        clear hlen hmy HLW
        go_wp2_with (first
          | ((with_reducible show wpList _ _ _ ({ dst := _, op := .load 103 _, type := _, pos := _, after := _, guard := _ } :: _) _ _); have := HA6'; refine wpL_load rfl _ _ rfl wr.heap.size 0 rfl (ptr d y) _ (HA6'.out.range 0 _ (by rw [List.drop_zero]; exact List.take_length)) rfl rfl (by rw [ptr_length]; exact info_p) ?_)
          | ((with_reducible show wpList _ _ _ ({ dst := _, op := .load 103 _, type := _, pos := _, after := _, guard := _ } :: _) _ _); have := HA5; refine wpL_load rfl _ _ rfl w2.heap.size 0 rfl (ptr d x0) _ (HY26.out.range 0 _ (by rw [List.drop_zero]; exact List.take_length)) rfl rfl (by rw [ptr_length]; exact info_p) ?_; have HA6' := HA6'')
          | ((with_reducible show wpList _ _ _ ({ dst := _, op := .load 103 _, type := _, pos := _, after := _, guard := _ } :: _) _ _); refine wpL_load rfl _ _ rfl gc (2 + j * 2) rfl (ptr d y) _ HRGy.out rfl rfl (by rw [ptr_length]; exact info_p) ?_)
          | ((with_reducible show wpList _ _ _ ({ dst := _, op := .alloc 103, type := _, pos := _, after := _, guard := _ } :: _) _ _); refine wpL_alloc rfl _ rfl _ zero_pt [.pointer none, .pointer none] rfl ?_; intro w5 HA5 G5 GS5)
          | ((with_reducible show wpList _ _ _ ({ dst := _, op := .store 103 _ _, type := _, pos := _, after := _, guard := _ } :: _) _ _); refine wpL_storeV rfl _ _ _ rfl wr.heap.size 0 (.agg (ptr d y).toArray) (ptr d y) rfl rfl rfl _ _ HA5.out (by rw [ptr_length]; simp) (by rw [ptr_length]; exact info_p) (ptr_one d y) ?_; intro w6 HA6 G6 GS6; have GG6 : Hid (Fr No wr w6) := hid (G5.out.trans (D' := fun k => k = wr.heap.size) G6.out (fun k e => .inr (by rw [e]; exact Nat.le_refl _))); have HY26 : Hid (Blk w6 w2.heap.size 103 (ptr d x0)) := hid (HY2.out.fr GG6.out id); have HA6'' : Hid (Blk w6 wr.heap.size 103 (ptr d y)) := hid (by
              have := HA6.out
              rwa [show spl [.pointer none, .pointer none] 0 (ptr d y) = ptr d y from by unfold spl; rw [ptr_length]; simp] at this)))
        rw [← HPX.out]
        have h0 := HLW'.out
        refine (pjoin_any d w6 x y (h0.rx.no GG6.out) ((repK_succ.1 (h0.kr.rep (k, up y) (by simp))).no GG6.out) (h0.kr.off (k, up y) (by simp)) (by have := h0.len; have := HY8.out; have := HNJ.out; omega)).mono ?_
        rintro e w7 ⟨rfl, x', hj⟩
        have HST := hid (Lw.step h0 HOG.out HR.out HG.out GG6.out hj)
        have hlt1 : w1.heap.size < wr.heap.size := HY1.out.lt
        have hlt2 : w2.heap.size < wr.heap.size := HY2.out.lt
        have HZ1 : Hid (Blk w7 w1.heap.size 103 [.pointer none, .pointer none]) := hid ((HY1.out.fr GG6.out id).fr hj.2.2.2.1 (fun e => (HNB.out _ (own_fp e)).1 rfl))
        have HZ2 : Hid (Blk w7 w2.heap.size 103 (ptr d x0)) := hid (HY26.out.fr hj.2.2.2.1 (fun e => (HNB.out _ (own_fp e)).2 rfl))
        have HNB7 : Hid (∀ g, fp d x' g → g ≠ w1.heap.size ∧ g ≠ w2.heap.size) := hid (fun g hg => by
          rcases hj.2.2.2.2 g hg with e | e | e
          · exact HNB.out g e
          · have := HR.out.lt g (.inr ⟨(k, up y), by rw [h0.tl]; simp, e⟩); have := HSZ.out; omega
          · have := GG6.out.size; omega)
        clear hj h0 hlt1 hlt2
        rw [HPX.out]
        go_wp2
        exact ⟨⟨N ++ [(k, up y)], R, x', j + 1, by go_num, hid (by rw [List.length_append, HNJ.out]; rfl), HST, HZ1, HZ2, HNB7⟩, by simp [intOf]; omega⟩
end Go.Proofs.Ytlnolnaapnijbaa.TR
