/-
  Part 11 of the proof: TrRb, TrRl, TrTa.
-/
import Derived.Test.YtflfmkokfbgclaaGreatRc10
import Derived.Test.YtflfmkokfbgclaaGreatRc09
set_option linter.unusedSimpArgs false
set_option linter.unusedVariables false
namespace Go.Proofs.YtflfmkokfbgclaaGreat.TR
set_option maxRecDepth 100000
open Go.RowKit K

/-- What raised leaves. -/
def Raised (d : Nat) (lo : S) (w : World) (t : PT d) (e : Ending) (w' : World) : Prop :=
  ∃ u : PT (d + 1), e = .returned (val (d + 1) u) ∧ Rep w' (d + 1) u ∧ Ok (d + 1) lo none u ∧ Good (d + 1) u ∧ flat (d + 1) u = flat d t ∧ Fr (fp d t) w w' ∧ (∀ g, fp (d + 1) u g → fp d t g ∨ w.heap.size ≤ g) ∧ 2 ≤ u.l.length ∧ u.l.length ≤ t.l.length
theorem raised_end {d : Nat} {lo : S} {w wr w2 w3 : World} {t t' : PT d} {r u : PT (d + 1)} {n rb : Nat} (h : Rs d lo w t n 0 rb t' r wr) (hgt : Good d t) (h1 : 4 * n ≤ t.l.length) (h2 : t.l.length ≤ 8 * n) (hn2 : 2 ≤ n) (hf : Fr No wr w2)
    (e1 : u.l = (lo, up t') :: r.l) (hr' : Rep w3 (d + 1) u) (hf3 : Fr (own r) w2 w3) (g3 : ∀ g, fp (d + 1) u g → fp (d + 1) r g ∨ fp d t' g ∨ w2.heap.size ≤ g) {w4 : World} (hf4 : Fr (fun g => w.heap.size ≤ g ∧ g < wr.heap.size ∧ ¬ fp (d + 1) r g ∧ ¬ fp d t' g) w3 w4) : Raised d lo w t (.returned (val (d + 1) u)) w4 := by
  have hn : 0 < n := by omega
  have ha := cut_at h1 h2 hn 0
  have hz : t.l.length * 0 / n = 0 := by simp
  rw [hz] at ha
  have hlt := h.lt
  have hfl := h.fl
  obtain ⟨a, ea⟩ : ∃ a, t.l.length * (0 + 1) / n = a := ⟨_, rfl⟩
  have hle := cut_le (s := t.l.length) hn (show 0 + 1 ≤ n by omega)
  rw [ea] at ha hlt hfl hle
  have htl : t'.l.length = a := by rw [hlt, List.length_take]; omega
  have hlen := h.len
  have s1 := h.fr.size; have s2 := hf.size; have s3 := hf3.size
  have hlt4 : Dj (fp (d + 1) u) (fun g => w.heap.size ≤ g ∧ g < wr.heap.size ∧ ¬ fp (d + 1) r g ∧ ¬ fp d t' g) := fun g hg hg' => by
    rcases g3 g hg with e | e | e
    · exact hg'.2.2.1 e
    · exact hg'.2.2.2 e
    · omega
  have hgood : Good (d + 1) u := fun x hx => by
    rw [e1] at hx
    rcases List.mem_cons.1 hx with rfl | hx
    · exact ⟨⟨by show 4 ≤ t'.l.length; omega, by show t'.l.length ≤ 8; omega⟩, fun y hy => hgt y (by
        have hy' : y ∈ t'.l := hy
        rw [hlt] at hy'
        exact List.mem_of_mem_take hy')⟩
    · exact h.gd x hx
  refine ⟨u, rfl, hr'.fr hf4 hlt4, ⟨?_, by rw [e1]; exact ⟨up t', r.l, rfl⟩⟩, hgood, ?_, ?_, fun g hg => ?_, by rw [e1, List.length_cons]; omega, by rw [e1, List.length_cons]; omega⟩
  · rw [e1]
    refine ⟨h.ok, ?_, h.ch⟩
    cases htl' : t'.l with
    | nil => rw [htl'] at htl; simp at htl; omega
    | cons x q =>
      have a1 : lt x.1 lo = false := ok_first h.ok.1 h.ok.2 x (by rw [htl']; simp)
      have a2 : Below (nx none r.l) x.1 := chain_below h.ok.1 x (by rw [htl']; simp)
      exact a2.le a1
  · rw [flat_of e1, flats_cons, hfl]
    have : flatK (d + 1) lo (up t') = flats d t'.l := rfl
    simp only [this]
    rw [hlt, ← flats_append, List.take_append_drop]
    rfl
  · have f1 : Fr (fp d t) w w3 := (h.fr.trans' hf.no).trans hf3 (fun g hg => h.g2 g (own_fp hg))
    exact f1.trans hf4 (fun g hg => .inr hg.1)
  · rcases g3 g hg with e | e | e
    · exact h.g2 g e
    · exact h.g1 g e
    · exact .inr (by omega)
/-- A cut, its parts named. -/
structure CutB (d : Nat) (w : World) (t : PT d) (q : Nat) (t1 u : PT d) (k : S) (c : Kid d) (rr : List (S × Kid d)) (w' : World) : Prop where
  dk : t.l.drop q = (k, c) :: rr
  l1 : t1.l = t.l.take q
  b1 : t1.b = t.b
  l2 : u.l = t.l.drop q
  r1 : Rep w' d t1
  ru : Rep w' d u
  fr : Fr (own t) w w'
  g1 : ∀ g, fp d t1 g → fp d t g ∨ w.heap.size ≤ g
  gu : ∀ g, fp d u g → fp d t g ∨ w.heap.size ≤ g
  dj : Dj (fp d t1) (fp d u)
theorem CutB.pre {d : Nat} {w0 w w' : World} {t : PT d} {q : Nat} {t1 u : PT d} {k : S} {c : Kid d} {rr : List (S × Kid d)} (hf : Fr No w0 w) (h : CutB d w t q t1 u k c rr w') : CutB d w0 t q t1 u k c rr w' :=
  ⟨h.dk, h.l1, h.b1, h.l2, h.r1, h.ru, hf.no.trans' h.fr, fun g hg => (h.g1 g hg).imp id (fun e => Nat.le_trans hf.size e), fun g hg => (h.gu g hg).imp id (fun e => Nat.le_trans hf.size e), h.dj⟩
theorem CutB.post {d : Nat} {w w' w'' : World} {t : PT d} {q : Nat} {t1 u : PT d} {k : S} {c : Kid d} {rr : List (S × Kid d)} (hf : Fr No w' w'') (h : CutB d w t q t1 u k c rr w') : CutB d w t q t1 u k c rr w'' :=
  ⟨h.dk, h.l1, h.b1, h.l2, h.r1.no hf, h.ru.no hf, h.fr.trans' hf.no, h.g1, h.gu, h.dj⟩
theorem zero_nd (w : World) : (Instr.build 167 #[]).run Tryz.prog w = .ok (.agg #[.slice none 0 0, .slice none 0 0]) w := by kernel_rfl
set_option maxHeartbeats 8000000 in
theorem raised_any (d : Nat) (w : World) (t : PT d) (hr : Rep w d t) (hok : Ok d ⟨#[]⟩ none t) (hg : Good d t) (h9 : 9 ≤ t.l.length) (hs : t.l.length ≤ 1073741824) : Calls Tryz.prog 83 #[val d t] w (Raised d ⟨#[]⟩ w t) := by
  have HR := hid hr; have HOK := hid hok; have HG := hid hg; have H9 := hid h9
  clear hr hok hg h9
  obtain ⟨vp, vq, hv, hp1, hp2⟩ := val_agg d t
  have hpl : ptr d t = [vp, vq] := by
    have : (val d t) = .agg (ptr d t).toArray := rfl
    rw [hv] at this
    have h2 : #[vp, vq] = (ptr d t).toArray := by injection this
    simpa using (congrArg Array.toList h2).symm
  have HPL := hid hpl; have HV := hid hv
  have bz := zero_nd; have bi := build_inner
  rw [hv]
  clear hv hpl
  go_enter Tryz.func83, Tryz.ntmps83
  go_wp2_with (first
    | ((with_reducible show wpList _ _ _ (⟨_, .box 134 _, _, _, _, _⟩ :: _) _ _); refine wpL_box rfl _ _ rfl _ rfl [vp, vq] rfl ?_; intro w1 HB1 F1 HS1)
    | ((with_reducible show wpList _ _ _ (⟨_, .alloc 134, _, _, _, _⟩ :: _) _ _); refine wpL_alloc rfl _ rfl _ zero_pt [.pointer none, .pointer none] rfl ?_; intro w2 HB2 F2 HS2; have HB12 : Hid (Blk w2 w.heap.size 134 [vp, vq]) := hid (HB1.out.fr F2.out id))
    | ((with_reducible show wpList _ _ _ (⟨_, .box 167 _, _, _, _, _⟩ :: _) _ _); refine wpL_box rfl _ _ rfl _ rfl [.slice none 0 0, .slice none 0 0] rfl ?_; intro w3 HB3 F3 HS3; have HB13 : Hid (Blk w3 w.heap.size 134 [vp, vq]) := hid (HB12.out.fr F3.out id))
    | ((with_reducible show wpList _ _ _ (⟨_, .load 134 _, _, _, _, _⟩ :: _) _ _); refine wpL_load rfl _ _ rfl w.heap.size 0 rfl [vp, vq] _ (HB13.out.range 0 _ rfl) rfl rfl info_p ?_))
  have HF3 : Hid (Fr No w w3) := hid ((F1.out.trans' F2.out).trans' F3.out)
  rw [show Value.agg [vp, vq].toArray = val d t from HV.out.symm]
  refine (psize_any d w3 t (HR.out.no HF3.out)).mono ?_
  rintro e w4 ⟨rfl, f4⟩
  have HF4 : Hid (Fr No w w4) := hid (HF3.out.trans' f4)
  have HR4 : Hid (Rep w4 d t) := hid (HR.out.no HF4.out)
  have HB14 : Hid (Blk w4 w.heap.size 134 [vp, vq]) := hid (HB13.out.fr f4 id)
  have HB24 : Hid (Blk w4 w1.heap.size 134 [.pointer none, .pointer none]) := hid ((HB2.out.fr F3.out id).fr f4 id)
  have HB34 : Hid (Blk w4 w2.heap.size 167 [.slice none 0 0, .slice none 0 0]) := hid (HB3.out.fr f4 id)
  have HSZ : Hid (w.heap.size < w1.heap.size ∧ w1.heap.size < w2.heap.size ∧ w2.heap.size < w4.heap.size) := hid ⟨HB1.out.lt, HB2.out.lt, HB34.out.lt⟩
  clear f4
  obtain ⟨n, hn⟩ : ∃ n : Nat, n = (t.l.length + 7) / 8 := ⟨_, rfl⟩
  have hns : 4 * n ≤ t.l.length ∧ t.l.length ≤ 8 * n ∧ 2 ≤ n := by have := H9.out; omega
  have hni : ((t.l.length : Int) + 8 - 1) / 8 = (n : Int) := by omega
  have hnb : (n : Int) ≤ 134217729 := by omega
  have HNS := hid hns
  have HNI := hid hni
  have hsl : (t.l.length : Int) ≤ 1073741824 := by omega
  have hpos : (0 : Int) ≤ (t.l.length : Int) + 8 - 1 := by omega
  have hn1 : (1 : Int) ≤ n := by omega
  clear hn hns hni
  have HRS0 : Hid (Rs d ⟨#[]⟩ w t n (n - 1) w2.heap.size t ⟨w2.heap.size, .slice none 0 0, .slice none 0 0, []⟩ w4) := hid (by
    obtain ⟨a1, a2, a3⟩ := HNS.out
    have e1 : n - 1 + 1 = n := by omega
    have e2 : t.l.length * n / n = t.l.length := Nat.mul_div_cancel _ (by omega)
    obtain ⟨z1, z2, z3⟩ := HSZ.out
    have hrl : Rep w4 (d + 1) (⟨w2.heap.size, .slice none 0 0, .slice none 0 0, []⟩ : PT (d + 1)) := ⟨⟨HB34.out, ⟨rfl, .inl ⟨rfl, rfl⟩⟩, ⟨rfl, .inl ⟨rfl, rfl⟩⟩, (by intro u hu; cases hu), (by intro h; cases h), (by intro h; cases h), (by intro g hg; cases hg)⟩, kids_nil _ _ _⟩
    have hfr : ∀ g, fp (d + 1) (⟨w2.heap.size, .slice none 0 0, .slice none 0 0, []⟩ : PT (d + 1)) g → g = w2.heap.size := fun g hg => by
      rcases hg with hg | ⟨x, hx, _⟩
      · rcases hg with hg | hg | hg
        · exact hg
        · cases hg
        · cases hg
      · cases hx
    have hbz := HR.out.lt
    refine ⟨HR4.out, hrl, fun g hg hg' => ?_, ?_, rfl, rfl, ?_, trivial, HOK.out, (by intro x hx; cases hx), ?_, HF4.out.no, fun g hg => .inl hg, fun g hg => ?_⟩
    · have := hbz g hg; rw [hfr g hg'] at this; omega
    · rw [e1, e2, List.take_length]
    · rw [e1, e2, List.drop_length]; rfl
    · show 0 + (n - 1 + 1) = n; omega
    · rw [hfr g hg]; exact .inr (by omega))
  have HNB0 : Hid (∀ g, fp d t g ∨ fp (d + 1) (⟨w2.heap.size, .slice none 0 0, .slice none 0 0, []⟩ : PT (d + 1)) g → g ≠ w.heap.size ∧ g ≠ w1.heap.size) := hid (fun g hg => by
    obtain ⟨z1, z2, z3⟩ := HSZ.out
    rcases hg with hg | hg
    · have := HR.out.lt g hg; omega
    · rcases hg with hg | ⟨x, hx, _⟩
      · rcases hg with hg | hg | hg
        · have hg' : g = w2.heap.size := hg
          omega
        · cases hg
        · cases hg
      · cases hx)
  have hnz : ¬ ((n : Int) = 0) := by omega
  go_wp2_with fail
  rw [HNI.out]
  go_loopw [6] (fun q wr => ∃ (i : Nat) (t' : PT d) (r : PT (d + 1)), q = .int .i64 i ∧ Hid (Rs d ⟨#[]⟩ w t n i w2.heap.size t' r wr) ∧ Hid (Blk wr w.heap.size 134 [vp, vq]) ∧ Hid (Blk wr w1.heap.size 134 [.pointer none, .pointer none]) ∧ Hid (∀ g, fp d t' g ∨ fp (d + 1) r g → g ≠ w.heap.size ∧ g ≠ w1.heap.size)) (fun q _ => (intOf q).toNat)
  case atStart => exact ⟨n - 1, t, ⟨w2.heap.size, .slice none 0 0, .slice none 0 0, []⟩, by rw [show ((n - 1 : Nat) : Int) = (n : Int) - 1 from by omega], HRS0, HB14, HB24, HNB0⟩
  case round =>
    obtain ⟨i, t', r, rfl, HRS, HX1, HX2, HNB⟩ := hrel
    rcases i with _ | i
    · have hvt : val d t' = .agg #[vp, vq] := by rw [← HV.out]; unfold val; rw [ptr_b HRS.out.tb]
      have HVT := hid hvt
      have hplt : ptr d t' = [vp, vq] := by rw [ptr_b HRS.out.tb]; exact HPL.out
      have HPT := hid hplt
      have HRB : Hid (r.b = w2.heap.size) := hid HRS.out.rbe
      have hrl : r.l.length ≤ 134217729 := by have := HRS.out.len; omega
      clear hvt hplt
      go_wp2_with ((with_reducible show wpList _ _ _ (⟨_, .load 134 _, _, _, _, _⟩ :: _) _ _); refine wpL_load rfl _ _ rfl w.heap.size 0 rfl [vp, vq] _ (HX1.out.range 0 _ rfl) rfl rfl info_p ?_)
      have hins := insert_nd_p wr r.b 0 r.k r.c (keys r.l) (cells r.l) (ptr d t') ⟨#[]⟩ (.agg #[vp, vq]) (by rw [HPT.out]; rfl) (ptr_length d t') (ptr_one d t') ⟨vp, vq, rfl, hp1, hp2⟩ HRS.out.rr.nd (Nat.zero_le _) (by rw [keys_length]; omega)
      rw [(front_keys r.l ⟨#[]⟩ t').1, (front_keys r.l ⟨#[]⟩ t').2, HRB.out] at hins
      have HINS := hid hins
      clear hins
      refine HINS.out.mono ?_
      rintro e w5 ⟨rfl, hp⟩
      obtain ⟨u, e1, e2, r8, f8, g8⟩ := front_rep HRS.out.rr HRS.out.rt HRS.out.dj (by rw [HRB.out]; exact hp)
      have hxr : ¬ own r w.heap.size ∧ ¬ own r w1.heap.size := ⟨fun e => (HNB.out _ (.inr (own_fp e))).1 rfl, fun e => (HNB.out _ (.inr (own_fp e))).2 rfl⟩
      have HZ2 : Hid (Blk w5 w1.heap.size 134 [.pointer none, .pointer none]) := hid (HX2.out.fr f8 hxr.2)
      have HUB : Hid (u.b = w2.heap.size) := hid (e2.trans HRB.out)
      have E1 := hid e1; have R8 := hid r8; have F8 := hid f8; have G8 := hid g8
      clear hp e1 e2 r8 f8 g8 hxr
      go_wp2_with ((with_reducible show wpList _ _ _ (⟨_, .store 134 _ _, _, _, _, _⟩ :: _) _ _); refine wpL_storeV rfl _ _ _ rfl w1.heap.size 0 (.agg #[.pointer none, .pointer (some ⟨w2.heap.size, 0, none⟩)]) [.pointer none, .pointer (some ⟨w2.heap.size, 0, none⟩)] rfl rfl rfl _ _ HZ2.out (by simp) info_p (by intro u hu; simp at hu; rcases hu with rfl | rfl <;> rfl) ?_; intro w6 HB6 F6 HS6)
      refine ret_cell rfl _ (by rfl) (cs := [.pointer none, .pointer (some ⟨w2.heap.size, 0, none⟩)]) (by have := HB6.out; simpa [spl] using this) rfl rfl info_p rfl ?_
      have hvu : (Value.agg [Value.pointer none, .pointer (some ⟨w2.heap.size, 0, none⟩)].toArray) = val (d + 1) u := by
        show _ = Value.agg #[.pointer none, .pointer (some ⟨u.b, 0, none⟩)]
        rw [HUB.out]
      rw [hvu]
      obtain ⟨a1, a2, a3⟩ := HNS.out
      exact raised_end HRS.out HG.out a1 a2 a3 (Fr.refl No wr) E1.out R8.out F8.out G8.out (F6.out.mono fun g e => by
        obtain ⟨z1, z2, z3⟩ := HSZ.out
        have e' : g = w1.heap.size := e
        refine ⟨by omega, ?_, fun h => (HNB.out g (.inr h)).2 e', fun h => (HNB.out g (.inl h)).2 e'⟩
        rw [e']; exact HX2.out.lt)
    · have hin : (i : Int) + 1 ≤ (n : Int) := by have := HRS.out.len; omega
      have hi0 : (0 : Int) < (i : Int) + 1 := by omega
      obtain ⟨p, hp⟩ : ∃ p : Nat, t.l.length * (i + 1) = p := ⟨_, rfl⟩
      obtain ⟨q, hq⟩ : ∃ q : Nat, p / n = q := ⟨_, rfl⟩
      have hpb : p ≤ 1073741824 * 134217729 := by rw [← hp]; exact Nat.mul_le_mul (by omega) (by omega)
      have hqp : q ≤ p := by rw [← hq]; exact Nat.div_le_self _ _
      have WM : Hid (IntKind.i64.wrap ((t.l.length : Int) * ((i : Int) + 1)) = (p : Int)) := hid (by
        rw [show (t.l.length : Int) * ((i : Int) + 1) = (p : Int) from by rw [← hp]; simp, IntKind.wrap_i64]; omega)
      have WD : Hid (IntKind.i64.wrap ((p : Int) / (n : Int)) = (q : Int)) := hid (by
        rw [show (p : Int) / (n : Int) = (q : Int) from by rw [← hq]; exact (Int.natCast_ediv _ _).symm, IntKind.wrap_i64]; omega)
      have HPP := hid hp; have HQQ := hid hq
      have hpb2 : (q : Int) ≤ 144115189149597696 := by omega
      clear hp hq hpb hqp
      have hrg : wr.rangeAt w.heap.size 0 [vp, vq] := HX1.out.range 0 _ rfl
      go_wp2_with fail
      have hold : Facts.hold [(0, fun w' => w'.rangeAt w.heap.size 0 [vp, vq])] wr.drew := Facts.cons_hold (HX1.out.drew.range 0 _ rfl) (Facts.nil_hold _)
      refine wpD_region hold (by kernel_rfl) 13 rfl ?_
      (refine wpD_take 0 _ rfl (by kernel_rfl) (by kernel_rfl) (by kernel_rfl) (fun _ _ _ h => h) List.mem_cons_self (by rfl) (exec_load _ _ rfl w.heap.size 0 rfl _ _ rfl rfl info_p) (by assumption) ?_; simp only [Act.put, List.setIfInBounds_toArray, List.set_cons_zero, List.set_cons_succ])
      (refine wpD_plain 1 (v := ?_) rfl (by kernel_rfl) (by kernel_rfl) (by kernel_rfl) (fun _ _ _ h => h) (by rfl) ?_ (by assumption) ?_; rotate_left; (intro _w; go_simp; try with_reducible rfl); simp only [Act.put, List.setIfInBounds_toArray, List.set_cons_zero, List.set_cons_succ])
      (refine wpD_plain 2 (v := ?_) rfl (by kernel_rfl) (by kernel_rfl) (by kernel_rfl) (fun _ _ _ h => h) (by rfl) ?_ (by assumption) ?_; rotate_left; (intro _w; go_simp; try with_reducible rfl); simp only [Act.put, List.setIfInBounds_toArray, List.set_cons_zero, List.set_cons_succ])
      (refine wpD_plain 3 (v := (.int .i64 (p : Int))) rfl (by kernel_rfl) (by kernel_rfl) (by kernel_rfl) (fun _ _ _ h => h) (by rfl) ?_ (by assumption) ?_; (intro _w; go_simp; exact WM.out); simp only [Act.put, List.setIfInBounds_toArray, List.set_cons_zero, List.set_cons_succ])
      (refine wpD_plain 4 (v := ?_) rfl (by kernel_rfl) (by kernel_rfl) (by kernel_rfl) (fun _ _ _ h => h) (by rfl) ?_ (by assumption) ?_; rotate_left; (intro _w; go_simp; try with_reducible rfl); simp only [Act.put, List.setIfInBounds_toArray, List.set_cons_zero, List.set_cons_succ])
      (refine wpD_plain 5 (v := (.int .i64 (q : Int))) rfl (by kernel_rfl) (by kernel_rfl) (by kernel_rfl) (fun _ _ _ h => h) (by rfl) ?_ (by assumption) ?_; (intro _w; go_simp; rw [if_neg (by omega), WD.out]); simp only [Act.put, List.setIfInBounds_toArray, List.set_cons_zero, List.set_cons_succ])
      have HRW : Hid (Rep wr d t') := hid HRS.out.rt
      have hql : q < t'.l.length := by
        obtain ⟨a1, a2, a3⟩ := HNS.out
        have h1 := cut_at a1 a2 (by omega : 0 < n) (i + 1)
        have h2 := cut_le (s := t.l.length) (by omega : 0 < n) (show i + 1 + 1 ≤ n by have := HRS.out.len; omega)
        rw [HPP.out, HQQ.out] at h1
        rw [HRS.out.lt, List.length_take]
        omega
      have HQL := hid hql
      have htl : t'.l.length ≤ 1073741824 := by rw [HRS.out.lt, List.length_take]; omega
      have hvt : val d t' = .agg #[vp, vq] := by rw [← HV.out]; unfold val; rw [ptr_b HRS.out.tb]
      have HVT := hid hvt
      clear hold hql hvt
      refine wpD_join (fun a a' w' => ∃ (t1 u : PT d) (k : S) (c : Kid d) (rr : List (S × Kid d)) (b : Nat), a' = ((((a.put (some 30) (.tuple #[.string k, val d u])).put (some 23) (.tuple #[.string k, val d u])).put (some 31) (.string k)).put (some 32) (val d u)).put (some 8) (.pointer (some ⟨b, 0, none⟩)) ∧
        Hid (CutB d wr t' q t1 u k c rr w') ∧ Hid (Blk w' b 134 [.pointer none, .pointer none]) ∧ Hid (wr.heap.size ≤ b) ∧ Hid (¬ fp d t1 b ∧ ¬ fp d u b)) [] 2 #[true, true, true, true, true, true, true, true, true, true, true, false, false] ?_ ?_
      · intro tail
        have HT := hid tail; clear tail
        refine wpD_two 6 10 [] [(0, fun w' => w'.rangeAt w.heap.size 0 [vp, vq])] rfl rfl (by kernel_rfl) (by kernel_rfl) (by kernel_rfl) (by rfl) (by rfl) ?_ ?_
        · intro K hK
          refine wp_call (.func 106) _ _ rfl 106 [] rfl (fun vs w => by kernel_rfl) [val d t', .int .i64 q] (by rw [HVT.out]; rfl) ?_
          refine (pcut_any d wr.drew t' q (HRW.out.no (Fr.refl No wr).drew) HQL.out (by omega)).mono ?_
          rintro e w5 ⟨t1, u, k, c, rr, rfl, x1, x2, x3, x4, x5, x6, x7, x8, x9, x10⟩
          refine ⟨_, rfl, hK _ _ (Facts.nil_hold _) ?_⟩
          have HCT : Hid (CutB d wr t' q t1 u k c rr w5) := hid (CutB.pre (Fr.refl No wr).drew ⟨x1, x2, x3, x4, x5, x6, x7, x8, x9, x10⟩)
          clear hK K x1 x2 x3 x4 x5 x6 x7 x8 x9 x10
          simp only [Act.put, List.setIfInBounds_toArray, List.set_cons_zero, List.set_cons_succ]
          have hold := Facts.nil_hold w5
          (refine wpD_plain 7 (v := ?_) rfl (by kernel_rfl) (by kernel_rfl) (by kernel_rfl) (fun _ _ _ h => h) (by rfl) ?_ (by assumption) ?_; rotate_left; (intro _w; go_simp; try with_reducible rfl); simp only [Act.put, List.setIfInBounds_toArray, List.set_cons_zero, List.set_cons_succ])
          (refine wpD_plain 8 (v := ?_) rfl (by kernel_rfl) (by kernel_rfl) (by kernel_rfl) (fun _ _ _ h => h) (by rfl) ?_ (by assumption) ?_; rotate_left; (intro _w; go_simp; try with_reducible rfl); simp only [Act.put, List.setIfInBounds_toArray, List.set_cons_zero, List.set_cons_succ])
          (refine wpD_plain 9 (v := ?_) rfl (by kernel_rfl) (by kernel_rfl) (by kernel_rfl) (fun _ _ _ h => h) (by rfl) ?_ (by assumption) ?_; rotate_left; (intro _w; go_simp; try with_reducible rfl); simp only [Act.put, List.setIfInBounds_toArray, List.set_cons_zero, List.set_cons_succ])
          clear hold
          refine wpD_only 10 [] rfl (by kernel_rfl) (by kernel_rfl) (by rfl) (fun K2 hK2 => ?_)
          refine wp_alloc _ rfl _ zero_pt [.pointer none, .pointer none] rfl ?_
          intro w6 HB6 F6 HS6
          refine hK2 _ _ (Facts.nil_hold _) ?_
          refine wpD_cast (listed' := #[true, true, true, true, true, true, true, true, true, true, true, false, false]) (by kernel_rfl) ?_
          exact HT.out _ _ ⟨t1, u, k, c, rr, _, rfl, hid (HCT.out.post F6.out), HB6, hid HCT.out.fr.size, hid ⟨fun e => by have := HCT.out.r1.lt _ e; omega, fun e => by have := HCT.out.ru.lt _ e; omega⟩⟩ (Facts.nil_hold _)
        · intro K hK
          refine wp_alloc _ rfl _ zero_pt [.pointer none, .pointer none] rfl ?_
          intro w5 HB5 F5 HS5
          have hf5 : Fr No wr w5 := (Fr.refl No wr).drew.trans' F5.out
          refine hK _ _ (Facts.cons_hold (hf5.range (HX1.out.range 0 _ rfl) id) (Facts.nil_hold _)) ?_
          clear hK K
          simp only [Act.put, List.setIfInBounds_toArray, List.set_cons_zero, List.set_cons_succ]
          refine wpD_only 6 [] rfl (by kernel_rfl) (by kernel_rfl) (by rfl) (fun K2 hK2 => ?_)
          refine wp_call (.func 106) _ _ rfl 106 [] rfl (fun vs w => by kernel_rfl) [val d t', .int .i64 q] (by rw [HVT.out]; rfl) ?_
          refine (pcut_any d w5 t' q (HRW.out.no hf5) HQL.out (by omega)).mono ?_
          rintro e w6 ⟨t1, u, k, c, rr, rfl, x1, x2, x3, x4, x5, x6, x7, x8, x9, x10⟩
          refine ⟨_, rfl, hK2 _ _ (Facts.nil_hold _) ?_⟩
          have h3 : wr.drew.heap.size = wr.heap.size := rfl
          have h5 : w5.heap.size = wr.drew.heap.size + 1 := HS5.out
          have hb6 : Blk w6 wr.drew.heap.size 134 [.pointer none, .pointer none] := HB5.out.fr x7 (fun e => by
            have := HRW.out.lt _ (own_fp e); omega)
          have hnb : ¬ fp d t1 wr.drew.heap.size ∧ ¬ fp d u wr.drew.heap.size := ⟨fun e => by
            rcases x8 _ e with h | h
            · have := HRW.out.lt _ h; omega
            · omega, fun e => by
            rcases x9 _ e with h | h
            · have := HRW.out.lt _ h; omega
            · omega⟩
          have HCT : Hid (CutB d wr t' q t1 u k c rr w6) := hid (CutB.pre hf5 ⟨x1, x2, x3, x4, x5, x6, x7, x8, x9, x10⟩)
          clear hK2 K2 x1 x2 x3 x4 x5 x6 x7 x8 x9 x10
          simp only [Act.put, List.setIfInBounds_toArray, List.set_cons_zero, List.set_cons_succ]
          have hold := Facts.nil_hold w6
          (refine wpD_plain 7 (v := ?_) rfl (by kernel_rfl) (by kernel_rfl) (by kernel_rfl) (fun _ _ _ h => h) (by rfl) ?_ (by assumption) ?_; rotate_left; (intro _w; go_simp; try with_reducible rfl); simp only [Act.put, List.setIfInBounds_toArray, List.set_cons_zero, List.set_cons_succ])
          (refine wpD_plain 8 (v := ?_) rfl (by kernel_rfl) (by kernel_rfl) (by kernel_rfl) (fun _ _ _ h => h) (by rfl) ?_ (by assumption) ?_; rotate_left; (intro _w; go_simp; try with_reducible rfl); simp only [Act.put, List.setIfInBounds_toArray, List.set_cons_zero, List.set_cons_succ])
          (refine wpD_plain 9 (v := ?_) rfl (by kernel_rfl) (by kernel_rfl) (by kernel_rfl) (fun _ _ _ h => h) (by rfl) ?_ (by assumption) ?_; rotate_left; (intro _w; go_simp; try with_reducible rfl); simp only [Act.put, List.setIfInBounds_toArray, List.set_cons_zero, List.set_cons_succ])
          clear hold
          refine wpD_cast (listed' := #[true, true, true, true, true, true, true, true, true, true, true, false, false]) (by kernel_rfl) ?_
          exact HT.out _ _ ⟨t1, u, k, c, rr, _, rfl, HCT, hid hb6, hid (by rw [h3]; exact Nat.le_refl _), hid hnb⟩ (Facts.nil_hold _)
      · rintro a' w6 ⟨t1, u, k, c, rr, b, rfl, HCT, HB6, HBB, HNB6⟩ hold
        simp only [Act.put, List.setIfInBounds_toArray, List.set_cons_zero, List.set_cons_succ]
        (refine wpD_plain 11 (v := ?_) rfl (by kernel_rfl) (by kernel_rfl) (by kernel_rfl) (fun _ _ _ h => h) (by rfl) ?_ (by assumption) ?_; rotate_left; (intro _w; go_simp; try with_reducible rfl); simp only [Act.put, List.setIfInBounds_toArray, List.set_cons_zero, List.set_cons_succ])
        clear hold
        refine wpD_only 12 [] rfl (by kernel_rfl) (by kernel_rfl) (by rfl) (fun K12 hK12 => ?_)
        refine wp_storeV _ _ _ rfl b 0 (val d u) (ptr d u) rfl rfl rfl _ _ HB6.out (by rw [ptr_length]; simp) (by rw [ptr_length]; exact info_p) (ptr_one d u) ?_
        intro w7 HB7 F7 HS7
        refine hK12 _ _ (Facts.nil_hold _) ?_
        clear hK12 K12
        refine wpD_done (by kernel_rfl) ?_ _
        simp only [Act.put, List.setIfInBounds_toArray, List.set_cons_zero, List.set_cons_succ]
        have hb7 : Blk w7 b 134 (ptr d u) := by
          have := HB7.out
          rwa [show spl [.pointer none, .pointer none] 0 (ptr d u) = ptr d u from by unfold spl; rw [ptr_length]; simp] at this
        have HB7' := hid hb7
        have hct := HCT.out
        have hr6 : Rep w6 (d + 1) r := HRS.out.rr.fr hct.fr (fun g hg e => HRS.out.dj g (own_fp e) hg)
        have hr7 : Rep w7 (d + 1) r := hr6.fr F7.out (fun g hg e => by have := HRS.out.rr.lt g hg; have := HBB.out; have e' : g = b := e; omega)
        have hu7 : Rep w7 d u := hct.ru.fr F7.out (fun g hg e => HNB6.out.2 (by have e' : g = b := e; rw [← e']; exact hg))
        have ht7 : Rep w7 d t1 := hct.r1.fr F7.out (fun g hg e => HNB6.out.1 (by have e' : g = b := e; rw [← e']; exact hg))
        have hf7 : Fr (own t') wr w7 := hct.fr.trans F7.out (fun g e => .inr (by rw [e]; exact HBB.out))
        have hur : Dj (fp d u) (fp (d + 1) r) := fun g hg hg' => by
          rcases hct.gu g hg with e | e
          · exact HRS.out.dj g e hg'
          · have := HRS.out.rr.lt g hg'; omega
        have HR7 := hid hr7; have HU7 := hid hu7; have HT7 := hid ht7; have HF7 := hid hf7; have HUR := hid hur
        have hbz : ∀ g, own t' g → g ≠ w.heap.size ∧ g ≠ w1.heap.size := fun g hg => HNB.out g (.inl (own_fp hg))
        have hxx : w.heap.size < wr.heap.size ∧ w1.heap.size < wr.heap.size := ⟨HX1.out.lt, HX2.out.lt⟩
        have HXX := hid hxx
        have HY1 : Hid (Blk w7 w.heap.size 134 [vp, vq]) := hid ((HX1.out.fr hct.fr (fun e => (hbz _ e).1 rfl)).fr F7.out (fun e => by have e' : w.heap.size = b := e; have := HBB.out; omega))
        have HY2 : Hid (Blk w7 w1.heap.size 134 [.pointer none, .pointer none]) := hid ((HX2.out.fr hct.fr (fun e => (hbz _ e).2 rfl)).fr F7.out (fun e => by have e' : w1.heap.size = b := e; have := HBB.out; omega))
        have HRB : Hid (r.b = w2.heap.size) := hid HRS.out.rbe
        clear hct hr6 hr7 hu7 ht7 hf7 hur hbz hxx hb7
        have hrl : r.l.length ≤ 134217729 := by have := HRS.out.len; omega
        go_wp2_with ((with_reducible show wpList _ _ _ (⟨_, .load 134 _, _, _, _, _⟩ :: _) _ _); refine wpL_load rfl _ _ rfl b 0 rfl (ptr d u) _ (HB7'.out.range 0 _ (by rw [List.drop_zero]; exact List.take_length)) rfl rfl (by rw [ptr_length]; exact info_p) ?_)
        obtain ⟨pu, qu, hvu, hpu, hqu⟩ := val_agg d u
        have hplu : ptr d u = [pu, qu] := by
          have : (val d u) = .agg (ptr d u).toArray := rfl
          rw [hvu] at this
          have h2 : #[pu, qu] = (ptr d u).toArray := by injection this
          simpa using (congrArg Array.toList h2).symm
        have hins := insert_nd_p w7 r.b 0 r.k r.c (keys r.l) (cells r.l) (ptr d u) k (.agg (ptr d u).toArray) rfl (ptr_length d u) (ptr_one d u) ⟨pu, qu, by rw [hplu], hpu, hqu⟩ HR7.out.nd (Nat.zero_le _) (by rw [keys_length]; omega)
        rw [(front_keys r.l k u).1, (front_keys r.l k u).2, HRB.out] at hins
        have HINS := hid hins
        clear hins hvu hplu hpu hqu
        refine HINS.out.mono ?_
        rintro e w8 ⟨rfl, hp⟩
        obtain ⟨r', e1, e2, r8, f8, g8⟩ := front_rep HR7.out HU7.out HUR.out (by rw [HRB.out]; exact hp)
        have hct := HCT.out
        obtain ⟨a1, a2, a3⟩ := HNS.out
        have hct' : CutB d wr t' (t.l.length * (i + 1) / n) t1 u k c rr w6 := by rw [HPP.out, HQQ.out]; exact hct
        have hst := Rs.step (k := k) HRS.out HG.out a1 a2 hct'.dk hct'.l1 hct'.b1 hct'.l2 HT7.out HU7.out HF7.out hct'.g1 hct'.gu hct'.dj e1 e2 r8 f8 g8
        have HST := hid hst
        have hxr : ¬ own r w.heap.size ∧ ¬ own r w1.heap.size := ⟨fun e => (HNB.out _ (.inr (own_fp e))).1 rfl, fun e => (HNB.out _ (.inr (own_fp e))).2 rfl⟩
        have HZ1 : Hid (Blk w8 w.heap.size 134 [vp, vq]) := hid (HY1.out.fr f8 hxr.1)
        have HZ2 : Hid (Blk w8 w1.heap.size 134 [.pointer none, .pointer none]) := hid (HY2.out.fr f8 hxr.2)
        have HNB8 : Hid (∀ g, fp d t1 g ∨ fp (d + 1) r' g → g ≠ w.heap.size ∧ g ≠ w1.heap.size) := hid (fun g hg => by
          obtain ⟨z1, z2⟩ := HXX.out
          have s7 : wr.heap.size ≤ w7.heap.size := HF7.out.size
          rcases hg with hg | hg
          · rcases hct.g1 g hg with h | h
            · exact HNB.out g (.inl h)
            · omega
          · rcases g8 g hg with h | h | h
            · exact HNB.out g (.inr h)
            · rcases hct.gu g h with h | h
              · exact HNB.out g (.inl h)
              · omega
            · omega)
        clear hp e1 e2 r8 f8 g8 hct hct' hst hxr
        go_wp2
        exact ⟨⟨i, t1, r', by simp, HST, HZ1, HZ2, HNB8⟩, by simp [intOf]⟩
end Go.Proofs.YtflfmkokfbgclaaGreat.TR

namespace Go.Proofs.YtflfmkokfbgclaaGreat.TR
set_option maxRecDepth 100000
open Go.RowKit K

/-- Behind some rounds: what is joined, what is left. -/
structure Lw (d : Nat) (lo : S) (hi : Option S) (w : World) (t : PT (d + 1)) (b0 gc : Nat) (N R : List (S × Kid (d + 1))) (x : PT d) (wr : World) : Prop where
  rx : Rep wr d x
  kr : Kids wr (d + 1) (fp d x) R
  tl : t.l = N ++ R
  bx : x.b = b0
  ok : Ok d lo (nx hi R) x
  ch : Chain (okK (d + 1)) hi R
  fl : flat d x = flats (d + 1) N
  gd : Good d x
  ne : x.l ≠ []
  len : x.l.length ≤ 8 * N.length
  dj : Dj (own t) (fp d x)
  rg : ∀ A k y B, t.l = A ++ (k, up (d := d) y) :: B → wr.rangeAt gc (A.length * 2) (ptr d y)
  fr : Fr (fp (d + 1) t) w wr
  g1 : ∀ g, fp d x g → fp (d + 1) t g ∨ w.heap.size ≤ g
theorem Lw.step {d : Nat} {lo : S} {hi : Option S} {w wr w2 w3 : World} {t : PT (d + 1)} {b0 gc : Nat} {N R : List (S × Kid (d + 1))} {k : S} {x y x' : PT d} (h : Lw d lo hi w t b0 gc N ((k, up y) :: R) x wr) (hog : own t gc) (hr : Rep w (d + 1) t) (hg : Good (d + 1) t) (hf2 : Fr No wr w2) (hj : Joined d w2 x y w3 x') : Lw d lo hi w t b0 gc (N ++ [(k, up y)]) R x' w3 := by
  obtain ⟨j1, j2, j3, j4, j5⟩ := hj
  have hmy : (k, up y) ∈ t.l := by rw [h.tl]; simp
  have hgy := hg _ hmy
  have hy4 : 4 ≤ y.l.length := hgy.1.1
  have hy8 : y.l.length ≤ 8 := hgy.1.2
  have hk2 := h.kr
  have hxy : Dj (fp d x) (fp d y) := hk2.off (k, up y) (by simp)
  have hyR : ∀ z ∈ R, Dj (fp d y) (fpK (d + 1) z.2) := fun z hz => (List.pairwise_cons.1 hk2.apart).1 z hz
  have hot : Dj (own t) (fp d y) := hr.kids.off _ hmy
  have hR : ∀ z ∈ R, ∀ g, fpK (d + 1) z.2 g → g < wr.heap.size := fun z hz => repK_lt (d + 1) wr z.2 (hk2.rep z (by simp [hz]))
  have s2 := hf2.size
  have hfp : ∀ g, fp d x' g → fp d x g ∨ fp d y g ∨ wr.heap.size ≤ g := fun g hg => (j5 g hg).imp id (fun e => e.imp id (fun e => Nat.le_trans s2 e))
  have hlk : lt lo k = true := by
    cases hx : x.l with
    | nil => exact absurd hx h.ne
    | cons a q =>
      have a1 : lt a.1 lo = false := ok_first h.ok.1 h.ok.2 a (by rw [hx]; simp)
      have a2 : Below (some k) a.1 := chain_below h.ok.1 a (by rw [hx]; simp)
      exact lt_of_le_of_lt a1 a2
  have hfr : Fr (own x) wr w3 := hf2.no.trans' j4
  refine ⟨j3, ⟨fun z hz => ?_, (List.pairwise_cons.1 hk2.apart).2, fun z hz g hg hg' => ?_⟩, by rw [h.tl]; simp, j2.trans h.bx, ?_, h.ch.2.2, ?_, fun z hz => ?_, ?_, ?_, fun g hg hg' => ?_, fun A k' y' B e => ?_, ?_, fun g hg => ?_⟩
  · exact repK_fr (d + 1) z.2 (hk2.rep z (by simp [hz])) hfr (fun g hg e => hk2.off z (by simp [hz]) g (own_fp e) hg)
  · rcases hfp g hg with e | e | e
    · exact hk2.off z (by simp [hz]) g e hg'
    · exact hyR z hz g e hg'
    · have := hR z hz g hg'; omega
  · exact ok_join h.ok h.ch.1 hlk h.ne (fun e => by rw [e] at hy4; simp at hy4) j1
  · rw [flat_of j1, flats_append, flats_append, flats_cons]
    have h6 : flatK (d + 1) k (up y) = flats d y.l := rfl
    have h7 : flats d x.l = flats (d + 1) N := h.fl
    simp only [h6, h7]
    simp [flats]
  · rw [j1] at hz
    rcases List.mem_append.1 hz with hz | hz
    · exact h.gd z hz
    · exact hgy.2 z hz
  · rw [j1]
    intro e
    exact h.ne (List.append_eq_nil_iff.1 e).1
  · rw [j1]; have := h.len; simp; omega
  · have hlt : g < w.heap.size := hr.lt g (own_fp hg)
    rcases hfp g hg' with e | e | e
    · exact h.dj g hg e
    · exact hot g hg e
    · have := h.fr.size; omega
  · exact hfr.range (h.rg A k' y' B e) (fun e => h.dj gc hog (own_fp e))
  · exact h.fr.trans hfr (fun g hg => h.g1 g (own_fp hg))
  · rcases hfp g hg with e | e | e
    · exact h.g1 g e
    · exact .inl (.inr ⟨_, hmy, e⟩)
    · exact .inr (Nat.le_trans h.fr.size e)
/-- What lowered leaves. -/
def Lowered (d : Nat) (lo : S) (hi : Option S) (w : World) (t : PT (d + 1)) (e : Ending) (w' : World) : Prop :=
  ∃ u : PT d, e = .returned (val d u) ∧ Rep w' d u ∧ Ok d lo hi u ∧ Good d u ∧ flat d u = flat (d + 1) t ∧ Fr (fp (d + 1) t) w w' ∧ (∀ g, fp d u g → fp (d + 1) t g ∨ w.heap.size ≤ g) ∧ 1 ≤ u.l.length ∧ u.l.length ≤ 8 * t.l.length
set_option maxHeartbeats 8000000 in
theorem lowered_any (d : Nat) (w : World) (t : PT (d + 1)) (lo : S) (hi : Option S) (hr : Rep w (d + 1) t) (hok : Ok (d + 1) lo hi t) (hg : Good (d + 1) t) (hs : t.l.length ≤ 1000000000000) (hpos : 1 ≤ t.l.length) : Calls Tryz.prog 81 #[val (d + 1) t] w (Lowered d lo hi w t) := by
  have HR := hid hr; have HOK := hid hok; have HG := hid hg
  obtain ⟨c0, r0, hl0⟩ := hok.2
  obtain ⟨x0, hx0⟩ : ∃ x0 : PT d, t.l = (lo, up x0) :: r0 := ⟨c0, hl0⟩
  have HL0 := hid hx0
  obtain ⟨gc, cc, hcv, hc1, hcc1, hcc2, hog, hrange⟩ := node_open hr hpos
  have HOG := hid hog; have HRG := hid hrange; have HC1 := hid hcc1
  unfold maxLen at hcc2
  clear hr hok hg hl0 hx0 hcv hog hrange
  have hpi : (0 : Int) < (t.l.length : Int) := by omega
  have hp1 : (1 : Int) ≤ (t.l.length : Int) := by omega
  have hlb := HR.out.lt t.b (own_fp (.inl rfl))
  have HLB := hid hlb
  clear hlb
  show Calls Tryz.prog _ #[.agg #[.pointer none, .pointer (some ⟨t.b, 0, none⟩)]] w _
  have HR0 : Hid (w.rangeAt gc 0 (ptr d x0)) := hid (by have := HRG.out [] lo x0 r0 HL0.out; simpa using this)
  obtain ⟨m, hm⟩ : ∃ m : Nat, t.l.length - 1 = m := ⟨_, rfl⟩
  have hmi : (t.l.length : Int) - 1 = (m : Int) := by omega
  by_cases hcc : cc = 1
  · have hm0 : m = 0 := by omega
    have HM0 := hid hm0
    have HM := hid hm
    have ht1 : t.l.length = 1 := by omega
    clear hm hmi hm0
    subst hcc
    go_enter Tryz.func81, Tryz.ntmps81
    go_wp2_with (first
      | ((with_reducible show wpList _ _ _ (⟨_, .box 134 _, _, _, _, _⟩ :: _) _ _); refine wpL_box rfl _ _ rfl _ rfl [.pointer none, .pointer (some ⟨t.b, 0, none⟩)] rfl ?_; intro w1 HB1 F1 HS1)
      | ((with_reducible show wpList _ _ _ (⟨_, .alloc 134, _, _, _, _⟩ :: _) _ _); have := HB2; refine wpL_alloc rfl _ rfl _ zero_pt [.pointer none, .pointer none] rfl ?_; intro w3 HB3 F3 HS3)
      | ((with_reducible show wpList _ _ _ (⟨_, .alloc 134, _, _, _, _⟩ :: _) _ _); refine wpL_alloc rfl _ rfl _ zero_pt [.pointer none, .pointer none] rfl ?_; intro w2 HB2 F2 HS2; have c1 : w2.cell? ⟨w.heap.size, 1, none⟩ = some (.pointer (some ⟨t.b, 0, none⟩)) := (HB1.out.fr F2.out id).cell 1; have c2 : w2.cell? ⟨t.b, 1, none⟩ = some (.slice (some ⟨gc, 0, none⟩) t.l.length 1) := (F1.out.trans' F2.out).cell hc1 id)
      | ((with_reducible show wpList _ _ _ (⟨_, .load 134 _, _, _, _, _⟩ :: _) _ _); refine wpL_load rfl _ _ rfl gc 0 rfl (ptr d x0) _ ((F1.out.trans' F2.out).range HR0.out id) rfl rfl (by rw [ptr_length]; exact info_p) ?_)
      | ((with_reducible show wpList _ _ _ (⟨_, .store 134 _ _, _, _, _, _⟩ :: _) _ _); refine wpL_storeV rfl _ _ _ rfl w2.heap.size 0 (.agg (ptr d x0).toArray) (ptr d x0) rfl rfl rfl _ _ HB3.out (by rw [ptr_length]; simp) (by rw [ptr_length]; exact info_p) (ptr_one d x0) ?_; intro w4 HB4 F4 HS4; have F24 : Hid (Fr No w2 w4) := hid (F3.out.trans (D' := fun k => k = w2.heap.size) F4.out (fun k e => .inr (by rw [e]; exact Nat.le_refl _))); have d1 : w4.cell? ⟨w.heap.size, 1, none⟩ = some (.pointer (some ⟨t.b, 0, none⟩)) := F24.out.cell c1 id; have d2 : w4.cell? ⟨t.b, 1, none⟩ = some (.slice (some ⟨gc, 0, none⟩) t.l.length 1) := F24.out.cell c2 id))
    have F04 : Hid (Fr No w w4) := hid ((F1.out.trans' F2.out).trans' F24.out)
    have HX1 : Hid (Blk w4 w1.heap.size 134 [.pointer none, .pointer none]) := hid (HB2.out.fr F24.out id)
    have HX2 : Hid (Blk w4 w2.heap.size 134 (ptr d x0)) := hid (by
      have := HB4.out
      rwa [show spl [.pointer none, .pointer none] 0 (ptr d x0) = ptr d x0 from by unfold spl; rw [ptr_length]; simp] at this)
    have HSZ : Hid (w.heap.size < w1.heap.size ∧ w1.heap.size < w2.heap.size ∧ w2.heap.size < w4.heap.size) := hid ⟨HB1.out.lt, HB2.out.lt, HX2.out.lt⟩
    have HLW0 : Hid (Lw d lo hi w t x0.b gc [(lo, up x0)] r0 x0 w4) := hid (by
      have hm0 : (lo, up x0) ∈ t.l := by rw [HL0.out]; simp
      have hg0 := HG.out _ hm0
      have h4 : 4 ≤ x0.l.length := hg0.1.1
      have h8 : x0.l.length ≤ 8 := hg0.1.2
      have hr4 := HR.out.no F04.out
      have hch := HOK.out.1
      rw [HL0.out] at hch
      have hap := hr4.kids.apart
      rw [HL0.out] at hap
      refine ⟨repK_succ.1 (hr4.kids.rep _ hm0), ⟨fun z hz => hr4.kids.rep z (by rw [HL0.out]; simp [hz]), (List.pairwise_cons.1 hap).2, fun z hz => (List.pairwise_cons.1 hap).1 z hz⟩, HL0.out, rfl, hch.1, hch.2.2, ?_, hg0.2, fun e => by rw [e] at h4; simp at h4, by simp; exact h8, hr4.kids.off _ hm0, fun A k y B e => F04.out.range (HRG.out A k y B e) id, F04.out.no, fun g hg => .inl (.inr ⟨_, hm0, hg⟩)⟩
      rw [flats_cons]
      show flats d x0.l = flats d x0.l ++ flats (d + 1) []
      simp [flats])
    have HNB0 : Hid (∀ g, fp d x0 g → g < w.heap.size) := hid (fun g hg => HR.out.lt g (.inr ⟨(lo, up x0), by rw [HL0.out]; simp, hg⟩))
    have HRL : Hid (r0.length = m) := hid (by have := congrArg List.length HL0.out; simp at this; have := HM.out; omega)
    clear d1 d2 c1 c2
    go_loopw [20] (fun q wr => ∃ (N R : List (S × Kid (d + 1))) (x : PT d) (j : Nat), q = .int .i64 j ∧ Hid (N.length = j + 1) ∧ Hid (Lw d lo hi w t x0.b gc N R x wr) ∧ Hid (Blk wr w1.heap.size 134 [.pointer none, .pointer none]) ∧ Hid (Blk wr w2.heap.size 134 (ptr d x0)) ∧ Hid (∀ g, fp d x g → g ≠ w1.heap.size ∧ g ≠ w2.heap.size)) (fun q _ => m - (intOf q).toNat)
    case atStart => exact ⟨[(lo, up x0)], r0, x0, 0, rfl, hid rfl, HLW0, HX1, HX2, hid (fun g hg => by have := HNB0.out g hg; have := HSZ.out; omega)⟩
    case round =>
      obtain ⟨N, R, x, j, rfl, HNJ, HLW, HY1, HY2, HNB⟩ := hrel
      have hlen : N.length + R.length = m + 1 := by have := congrArg List.length HLW.out.tl; rw [List.length_append] at this; have := HM.out; omega
      have hpx : ptr d x = ptr d x0 := ptr_b HLW.out.bx
      have HPX := hid hpx
      clear hpx
      cases R with
      | nil =>
        have hnl : ¬ ((j : Int) < (m : Int)) := by simp at hlen; have := HNJ.out; omega
        clear hlen
        go_wp2_with (first
          | ((with_reducible show wpList _ _ _ (⟨_, .load 134 _, _, _, _, _⟩ :: _) _ _); refine wpL_load rfl _ _ rfl w2.heap.size 0 rfl (ptr d x0) _ (HY2.out.range 0 _ (by rw [List.drop_zero]; exact List.take_length)) rfl rfl (by rw [ptr_length]; exact info_p) ?_)
          | ((with_reducible show wpList _ _ _ (⟨_, .store 134 _ _, _, _, _, _⟩ :: _) _ _); refine wpL_storeV rfl _ _ _ rfl w1.heap.size 0 (.agg (ptr d x0).toArray) (ptr d x0) rfl rfl rfl _ _ HY1.out (by rw [ptr_length]; simp) (by rw [ptr_length]; exact info_p) (ptr_one d x0) ?_; intro w5 HB5 F5 HS5))
        refine ret_cell rfl _ (by rfl) (cs := ptr d x0) (by
          have := HB5.out
          rwa [show spl [.pointer none, .pointer none] 0 (ptr d x0) = ptr d x0 from by unfold spl; rw [ptr_length]; simp] at this) rfl rfl (by rw [ptr_length]; exact info_p) rfl ?_
        have h0 := HLW.out
        have hrl := h0.rx.fr F5.out (fun g hg e => (HNB.out g hg).1 e)
        have hN : t.l = N := by have := h0.tl; rwa [List.append_nil] at this
        refine ⟨x, by rw [← HPX.out]; rfl, hrl, h0.ok, h0.gd, by rw [h0.fl, flat_of hN], ?_, h0.g1, ?_, by have := h0.len; rw [hN]; exact this⟩
        · exact h0.fr.trans (D' := fun k => k = w1.heap.size) F5.out (fun k e => .inr (by rw [e]; have := HSZ.out; omega))
        · have := h0.ne
          cases hx : x.l with
          | nil => exact absurd hx this
          | cons a b => simp
      | cons y R =>
        obtain ⟨k, (y : PT d)⟩ := y
        have := HNJ.out
        have := HM0.out
        simp at hlen
        omega
  · have hm2 : t.l.length - 1 = m := hm
    have HM := hid hm
    clear hm hmi
    go_enter Tryz.func81, Tryz.ntmps81
    go_wp2_with (first
      | ((with_reducible show wpList _ _ _ (⟨_, .box 134 _, _, _, _, _⟩ :: _) _ _); refine wpL_box rfl _ _ rfl _ rfl [.pointer none, .pointer (some ⟨t.b, 0, none⟩)] rfl ?_; intro w1 HB1 F1 HS1)
      | ((with_reducible show wpList _ _ _ (⟨_, .alloc 134, _, _, _, _⟩ :: _) _ _); have := HB2; refine wpL_alloc rfl _ rfl _ zero_pt [.pointer none, .pointer none] rfl ?_; intro w3 HB3 F3 HS3)
      | ((with_reducible show wpList _ _ _ (⟨_, .alloc 134, _, _, _, _⟩ :: _) _ _); refine wpL_alloc rfl _ rfl _ zero_pt [.pointer none, .pointer none] rfl ?_; intro w2 HB2 F2 HS2; have c1 : w2.cell? ⟨w.heap.size, 1, none⟩ = some (.pointer (some ⟨t.b, 0, none⟩)) := (HB1.out.fr F2.out id).cell 1; have c2 : w2.cell? ⟨t.b, 1, none⟩ = some (.slice (some ⟨gc, 0, none⟩) t.l.length cc) := (F1.out.trans' F2.out).cell hc1 id)
      | ((with_reducible show wpList _ _ _ (⟨_, .load 134 _, _, _, _, _⟩ :: _) _ _); refine wpL_load rfl _ _ rfl gc 0 rfl (ptr d x0) _ ((F1.out.trans' F2.out).range HR0.out id) rfl rfl (by rw [ptr_length]; exact info_p) ?_)
      | ((with_reducible show wpList _ _ _ (⟨_, .store 134 _ _, _, _, _, _⟩ :: _) _ _); refine wpL_storeV rfl _ _ _ rfl w2.heap.size 0 (.agg (ptr d x0).toArray) (ptr d x0) rfl rfl rfl _ _ HB3.out (by rw [ptr_length]; simp) (by rw [ptr_length]; exact info_p) (ptr_one d x0) ?_; intro w4 HB4 F4 HS4; have F24 : Hid (Fr No w2 w4) := hid (F3.out.trans (D' := fun k => k = w2.heap.size) F4.out (fun k e => .inr (by rw [e]; exact Nat.le_refl _))); have d1 : w4.cell? ⟨w.heap.size, 1, none⟩ = some (.pointer (some ⟨t.b, 0, none⟩)) := F24.out.cell c1 id; have d2 : w4.cell? ⟨t.b, 1, none⟩ = some (.slice (some ⟨gc, 0, none⟩) t.l.length cc) := F24.out.cell c2 id))
    have F04 : Hid (Fr No w w4) := hid ((F1.out.trans' F2.out).trans' F24.out)
    have HX1 : Hid (Blk w4 w1.heap.size 134 [.pointer none, .pointer none]) := hid (HB2.out.fr F24.out id)
    have HX2 : Hid (Blk w4 w2.heap.size 134 (ptr d x0)) := hid (by
      have := HB4.out
      rwa [show spl [.pointer none, .pointer none] 0 (ptr d x0) = ptr d x0 from by unfold spl; rw [ptr_length]; simp] at this)
    have HSZ : Hid (w.heap.size < w1.heap.size ∧ w1.heap.size < w2.heap.size ∧ w2.heap.size < w4.heap.size) := hid ⟨HB1.out.lt, HB2.out.lt, HX2.out.lt⟩
    have HLW0 : Hid (Lw d lo hi w t x0.b gc [(lo, up x0)] r0 x0 w4) := hid (by
      have hm0 : (lo, up x0) ∈ t.l := by rw [HL0.out]; simp
      have hg0 := HG.out _ hm0
      have h4 : 4 ≤ x0.l.length := hg0.1.1
      have h8 : x0.l.length ≤ 8 := hg0.1.2
      have hr4 := HR.out.no F04.out
      have hch := HOK.out.1
      rw [HL0.out] at hch
      have hap := hr4.kids.apart
      rw [HL0.out] at hap
      refine ⟨repK_succ.1 (hr4.kids.rep _ hm0), ⟨fun z hz => hr4.kids.rep z (by rw [HL0.out]; simp [hz]), (List.pairwise_cons.1 hap).2, fun z hz => (List.pairwise_cons.1 hap).1 z hz⟩, HL0.out, rfl, hch.1, hch.2.2, ?_, hg0.2, fun e => by rw [e] at h4; simp at h4, by simp; exact h8, hr4.kids.off _ hm0, fun A k y B e => F04.out.range (HRG.out A k y B e) id, F04.out.no, fun g hg => .inl (.inr ⟨_, hm0, hg⟩)⟩
      rw [flats_cons]
      show flats d x0.l = flats d x0.l ++ flats (d + 1) []
      simp [flats])
    have HNB0 : Hid (∀ g, fp d x0 g → g < w.heap.size) := hid (fun g hg => HR.out.lt g (.inr ⟨(lo, up x0), by rw [HL0.out]; simp, hg⟩))
    have HRL : Hid (r0.length = m) := hid (by have := congrArg List.length HL0.out; simp at this; have := HM.out; omega)
    clear d1 d2 c1 c2
    go_loopw [20] (fun q wr => ∃ (N R : List (S × Kid (d + 1))) (x : PT d) (j : Nat), q = .int .i64 j ∧ Hid (N.length = j + 1) ∧ Hid (Lw d lo hi w t x0.b gc N R x wr) ∧ Hid (Blk wr w1.heap.size 134 [.pointer none, .pointer none]) ∧ Hid (Blk wr w2.heap.size 134 (ptr d x0)) ∧ Hid (∀ g, fp d x g → g ≠ w1.heap.size ∧ g ≠ w2.heap.size)) (fun q _ => m - (intOf q).toNat)
    case atStart => exact ⟨[(lo, up x0)], r0, x0, 0, rfl, hid rfl, HLW0, HX1, HX2, hid (fun g hg => by have := HNB0.out g hg; have := HSZ.out; omega)⟩
    case round =>
      obtain ⟨N, R, x, j, rfl, HNJ, HLW, HY1, HY2, HNB⟩ := hrel
      have hlen : N.length + R.length = m + 1 := by have := congrArg List.length HLW.out.tl; rw [List.length_append] at this; have := HM.out; omega
      have hpx : ptr d x = ptr d x0 := ptr_b HLW.out.bx
      have HPX := hid hpx
      clear hpx
      cases R with
      | nil =>
        have hnl : ¬ ((j : Int) < (m : Int)) := by simp at hlen; have := HNJ.out; omega
        clear hlen
        go_wp2_with (first
          | ((with_reducible show wpList _ _ _ (⟨_, .load 134 _, _, _, _, _⟩ :: _) _ _); refine wpL_load rfl _ _ rfl w2.heap.size 0 rfl (ptr d x0) _ (HY2.out.range 0 _ (by rw [List.drop_zero]; exact List.take_length)) rfl rfl (by rw [ptr_length]; exact info_p) ?_)
          | ((with_reducible show wpList _ _ _ (⟨_, .store 134 _ _, _, _, _, _⟩ :: _) _ _); refine wpL_storeV rfl _ _ _ rfl w1.heap.size 0 (.agg (ptr d x0).toArray) (ptr d x0) rfl rfl rfl _ _ HY1.out (by rw [ptr_length]; simp) (by rw [ptr_length]; exact info_p) (ptr_one d x0) ?_; intro w5 HB5 F5 HS5))
        refine ret_cell rfl _ (by rfl) (cs := ptr d x0) (by
          have := HB5.out
          rwa [show spl [.pointer none, .pointer none] 0 (ptr d x0) = ptr d x0 from by unfold spl; rw [ptr_length]; simp] at this) rfl rfl (by rw [ptr_length]; exact info_p) rfl ?_
        have h0 := HLW.out
        have hrl := h0.rx.fr F5.out (fun g hg e => (HNB.out g hg).1 e)
        have hN : t.l = N := by have := h0.tl; rwa [List.append_nil] at this
        refine ⟨x, by rw [← HPX.out]; rfl, hrl, h0.ok, h0.gd, by rw [h0.fl, flat_of hN], ?_, h0.g1, ?_, by have := h0.len; rw [hN]; exact this⟩
        · exact h0.fr.trans (D' := fun k => k = w1.heap.size) F5.out (fun k e => .inr (by rw [e]; have := HSZ.out; omega))
        · have := h0.ne
          cases hx : x.l with
          | nil => exact absurd hx this
          | cons a b => simp
      | cons y R =>
        obtain ⟨k, (y : PT d)⟩ := y
        have HLW' : Hid (Lw d lo hi w t x0.b gc N ((k, up y) :: R) x wr) := HLW
        have hlt : (j : Int) < (m : Int) := by simp at hlen; have := HNJ.out; omega
        have hjb : (j : Int) ≤ 1000000000000 := by omega
        have HRGy : Hid (wr.rangeAt gc (2 + j * 2) (ptr d y)) := hid (by
          have := HLW'.out.rg N k y R HLW'.out.tl
          rwa [HNJ.out, show (j + 1) * 2 = 2 + j * 2 by omega] at this)
        have hmy : (k, up y) ∈ t.l := by rw [HLW'.out.tl]; simp
        have HY8 : Hid (y.l.length ≤ 8) := hid (HG.out _ hmy).1.2
        clear hlen hmy HLW
        go_wp2_with (first
          | ((with_reducible show wpList _ _ _ (⟨_, .load 134 _, _, _, _, _⟩ :: _) _ _); have := HA6'; refine wpL_load rfl _ _ rfl wr.heap.size 0 rfl (ptr d y) _ (HA6'.out.range 0 _ (by rw [List.drop_zero]; exact List.take_length)) rfl rfl (by rw [ptr_length]; exact info_p) ?_)
          | ((with_reducible show wpList _ _ _ (⟨_, .load 134 _, _, _, _, _⟩ :: _) _ _); have := HA5; refine wpL_load rfl _ _ rfl w2.heap.size 0 rfl (ptr d x0) _ (HY26.out.range 0 _ (by rw [List.drop_zero]; exact List.take_length)) rfl rfl (by rw [ptr_length]; exact info_p) ?_; have HA6' := HA6'')
          | ((with_reducible show wpList _ _ _ (⟨_, .load 134 _, _, _, _, _⟩ :: _) _ _); refine wpL_load rfl _ _ rfl gc (2 + j * 2) rfl (ptr d y) _ HRGy.out rfl rfl (by rw [ptr_length]; exact info_p) ?_)
          | ((with_reducible show wpList _ _ _ (⟨_, .alloc 134, _, _, _, _⟩ :: _) _ _); refine wpL_alloc rfl _ rfl _ zero_pt [.pointer none, .pointer none] rfl ?_; intro w5 HA5 G5 GS5)
          | ((with_reducible show wpList _ _ _ (⟨_, .store 134 _ _, _, _, _, _⟩ :: _) _ _); refine wpL_storeV rfl _ _ _ rfl wr.heap.size 0 (.agg (ptr d y).toArray) (ptr d y) rfl rfl rfl _ _ HA5.out (by rw [ptr_length]; simp) (by rw [ptr_length]; exact info_p) (ptr_one d y) ?_; intro w6 HA6 G6 GS6; have GG6 : Hid (Fr No wr w6) := hid (G5.out.trans (D' := fun k => k = wr.heap.size) G6.out (fun k e => .inr (by rw [e]; exact Nat.le_refl _))); have HY26 : Hid (Blk w6 w2.heap.size 134 (ptr d x0)) := hid (HY2.out.fr GG6.out id); have HA6'' : Hid (Blk w6 wr.heap.size 134 (ptr d y)) := hid (by
              have := HA6.out
              rwa [show spl [.pointer none, .pointer none] 0 (ptr d y) = ptr d y from by unfold spl; rw [ptr_length]; simp] at this)))
        rw [← HPX.out]
        have h0 := HLW'.out
        refine (pjoin_any d w6 x y (h0.rx.no GG6.out) ((repK_succ.1 (h0.kr.rep (k, up y) (by simp))).no GG6.out) (h0.kr.off (k, up y) (by simp)) (by have := h0.len; have := HY8.out; have := HNJ.out; omega)).mono ?_
        rintro e w7 ⟨rfl, x', hj⟩
        have HST := hid (Lw.step h0 HOG.out HR.out HG.out GG6.out hj)
        have hlt1 : w1.heap.size < wr.heap.size := HY1.out.lt
        have hlt2 : w2.heap.size < wr.heap.size := HY2.out.lt
        have HZ1 : Hid (Blk w7 w1.heap.size 134 [.pointer none, .pointer none]) := hid ((HY1.out.fr GG6.out id).fr hj.2.2.2.1 (fun e => (HNB.out _ (own_fp e)).1 rfl))
        have HZ2 : Hid (Blk w7 w2.heap.size 134 (ptr d x0)) := hid (HY26.out.fr hj.2.2.2.1 (fun e => (HNB.out _ (own_fp e)).2 rfl))
        have HNB7 : Hid (∀ g, fp d x' g → g ≠ w1.heap.size ∧ g ≠ w2.heap.size) := hid (fun g hg => by
          rcases hj.2.2.2.2 g hg with e | e | e
          · exact HNB.out g e
          · have := HR.out.lt g (.inr ⟨(k, up y), by rw [h0.tl]; simp, e⟩); have := HSZ.out; omega
          · have := GG6.out.size; omega)
        clear hj h0 hlt1 hlt2
        rw [HPX.out]
        go_wp2
        exact ⟨⟨N ++ [(k, up y)], R, x', j + 1, by go_num, hid (by rw [List.length_append, HNJ.out]; rfl), HST, HZ1, HZ2, HNB7⟩, by simp [intOf]; omega⟩
end Go.Proofs.YtflfmkokfbgclaaGreat.TR

namespace Go.Proofs.YtflfmkokfbgclaaGreat.TR
set_option maxRecDepth 100000
open Go.RowKit K

/-- A tree as data. -/
structure TD where
  d : Nat
  t : PT d
  b : Nat
def TD.fp (T : TD) (g : Nat) : Prop := g = T.b ∨ TR.fp T.d T.t g
def TD.v (T : TD) : Value := .pointer (some ⟨T.b, 0, none⟩)
/-- A tree that holds what is told. -/
structure TrAt (w : World) (T : TD) (l : L) : Prop where
  blk : Blk w T.b 136 (ptr T.d T.t ++ [.int .i64 l.length])
  rep : Rep w T.d T.t
  ok : Ok T.d ⟨#[]⟩ none T.t
  good : Good T.d T.t
  fl : flat T.d T.t = l
  cap : l.length ≤ 8 ^ (T.d + 1)
  low : T.d = 0 ∨ 8 ^ T.d < l.length
  off : ¬ TR.fp T.d T.t T.b
theorem TrAt.fr {w w' : World} {T : TD} {l : L} {D : Nat → Prop} (h : TrAt w T l) (hf : Fr D w w') (hd : Dj T.fp D) : TrAt w' T l :=
  ⟨h.blk.fr hf (fun e => hd _ (.inl rfl) e), h.rep.fr hf (fun g hg e => hd g (.inr hg) e), h.ok, h.good, h.fl, h.cap, h.low, h.off⟩
theorem TrAt.no {w w' : World} {T : TD} {l : L} (h : TrAt w T l) (hf : Fr No w w') : TrAt w' T l := h.fr hf (fun _ _ e => e)
theorem TrAt.lt {w : World} {T : TD} {l : L} (h : TrAt w T l) : ∀ g, T.fp g → g < w.heap.size := fun g hg => hg.elim (fun e => by rw [e]; exact h.blk.lt) (fun e => h.rep.lt g e)
theorem pow_le {a b : Nat} (h : a ≤ b) : 8 ^ a ≤ 8 ^ b := Nat.pow_le_pow_right (by omega) h
theorem TrAt.d_le {w : World} {T : TD} {l : L} (h : TrAt w T l) (hn : l.length ≤ 4398046511104) : T.d ≤ 13 := by
  rcases h.low with e | e
  · omega
  · rcases Nat.lt_or_ge 13 T.d with h1 | h1
    · have := pow_le (show 14 ≤ T.d by omega)
      have h8 : (8 : Nat) ^ 14 = 4398046511104 := by decide
      omega
    · exact h1
theorem pow_split (d : Nat) : (8 : Nat) ^ d = 2 ^ d * 4 ^ d := by rw [← Nat.mul_pow]
theorem TrAt.size {w : World} {T : TD} {l : L} (h : TrAt w T l) (hn : l.length ≤ 4398046511104) : (T.d = 0 ∨ 2 ≤ T.t.l.length) ∧ T.t.l.length ≤ 65536 := by
  have hc := flat_count h.good
  rw [h.fl] at hc
  have hd := h.d_le hn
  have hp : 0 < 4 ^ T.d := Nat.pos_of_ne_zero (by simp)
  constructor
  · rcases h.low with e | e
    · exact .inl e
    · refine .inr ?_
      rcases Nat.lt_or_ge T.t.l.length 2 with h1 | h1
      · have : T.t.l.length * 8 ^ T.d ≤ 1 * 8 ^ T.d := Nat.mul_le_mul_right _ (by omega)
        omega
      · exact h1
  · have h1 : T.t.l.length * 4 ^ T.d ≤ (8 * 2 ^ T.d) * 4 ^ T.d := by
      have := pow_split T.d
      have h2 := h.cap
      rw [Nat.pow_succ] at h2
      have h3 : 8 * 2 ^ T.d * 4 ^ T.d = 8 * 8 ^ T.d := by rw [Nat.mul_assoc, ← this]
      omega
    have h2 : T.t.l.length ≤ 8 * 2 ^ T.d := Nat.le_of_mul_le_mul_right h1 hp
    have h3 : (2 : Nat) ^ T.d ≤ 2 ^ 13 := Nat.pow_le_pow_right (by omega) hd
    have h4 : (2 : Nat) ^ 13 = 8192 := by decide
    omega
theorem TrAt.fine {w : World} {T : TD} {l : L} (h : TrAt w T l) (hn : l.length ≤ 4398046511104) : Fine T.d T.t :=
  ⟨⟨_, _, h.ok⟩, h.good, (h.size hn).1.imp id (fun e => by omega), by have := (h.size hn).2; omega⟩
theorem TrAt.rg {w : World} {T : TD} {l : L} (h : TrAt w T l) : w.rangeAt T.b 0 (ptr T.d T.t) := h.blk.range 0 _ (by simp [ptr_length])
theorem TrAt.ln {w : World} {T : TD} {l : L} (h : TrAt w T l) : w.cell? ⟨T.b, 2, none⟩ = some (.int .i64 l.length) := by
  have := h.blk.cell 2
  rw [this, List.getElem?_append_right (by rw [ptr_length]; exact Nat.le_refl _), ptr_length]; rfl
set_option maxHeartbeats 4000000 in
theorem capacity_any (w : World) (d q : Nat) (hd : d ≤ 15) (hq : 8 ^ d = q) : Calls Tryz.prog 80 #[.int .i64 (d : Int)] w fun e w' => e = .returned (.int .i64 (q : Int)) ∧ Fr No w w' := by
  have HD := hid hd; have HQ := hid hq
  have hd1 : (d : Int) ≤ 15 := by omega
  clear hd hq
  go_enter Tryz.func80, Tryz.ntmps80
  go_wp2
  go_loopw [3, 5] (fun n i wr => ∃ k p : Nat, k ≤ d ∧ n = .int .i64 (p : Int) ∧ i = .int .i64 (k : Int) ∧ Hid (8 ^ k = p) ∧ Hid (Fr No w wr)) (fun _ i _ => d - (intOf i).toNat)
  case atStart => exact ⟨0, 1, by omega, rfl, rfl, hid rfl, hid (Fr.refl _ _)⟩
  case round =>
    obtain ⟨k, p, hk, rfl, rfl, HP, HF⟩ := hrel
    by_cases hlt : k < d
    · have hlt' : (k : Int) < (d : Int) := by omega
      have hp : p ≤ 4398046511104 := by
        have h14 : k ≤ 14 := by have := HD.out; omega
        have := pow_le h14
        have h8 : (8 : Nat) ^ 14 = 4398046511104 := by decide
        rw [← HP.out]; omega
      have hp' : (p : Int) ≤ 4398046511104 := by omega
      clear hp
      go_wp2
      exact ⟨⟨k + 1, p * 8, by omega, by go_num, by go_num, hid (by rw [Nat.pow_succ, HP.out]), HF⟩, by simp [intOf]; omega⟩
    · have hge : ¬ ((k : Int) < (d : Int)) := by omega
      have hkd : k = d := by omega
      have hpq : p = q := by rw [← HP.out, hkd]; exact HQ.out
      subst hpq
      clear hkd
      go_wp2
      go_ret
      exact ⟨rfl, HF.out⟩
set_option maxHeartbeats 4000000 in
theorem tdepth_in (w : World) (b d : Nat) (t : PT d) (hr : w.rangeAt b 0 (ptr d t)) (h : Rep w d t) (hf : Fine d t) (hd : d ≤ 1000) : Calls Tryz.prog 79 #[.pointer (some ⟨b, 0, none⟩)] w fun e w' => e = .returned (.int .i64 ((d + 1 : Nat) : Int)) ∧ Fr No w w' := by
  have H := hid h; have HF := hid hf; have HR := hid hr
  clear h hf hr
  go_enter Tryz.func79, Tryz.ntmps79
  go_wp2_with ((with_reducible show wpList _ _ _ (⟨_, .load 134 _, _, _, _, _⟩ :: _) _ _); refine wpL_load rfl _ _ rfl b 0 rfl (ptr d t) _ HR.out rfl rfl (by rw [ptr_length]; exact info_p) ?_)
  refine (pdepth_any d w t H.out HF.out hd).mono ?_
  rintro e w' ⟨rfl, f⟩
  go_wp2
  go_ret
  exact ⟨rfl, f⟩
theorem tdepth_any (w : World) (T : TD) (l : L) (h : TrAt w T l) (hn : l.length ≤ 4398046511104) : Calls Tryz.prog 79 #[T.v] w fun e w' => e = .returned (.int .i64 ((T.d + 1 : Nat) : Int)) ∧ Fr No w w' :=
  tdepth_in w T.b T.d T.t h.rg h.rep (h.fine hn) (by have := h.d_le hn; omega)
set_option maxHeartbeats 4000000 in
theorem tget_any (w : World) (T : TD) (l : L) (key : S) (h : TrAt w T l) (hn : l.length ≤ 4398046511104) : Calls Tryz.prog 74 #[T.v, .string key] w fun e w' => e = .returned (getV (get key l)) ∧ Fr No w w' := by
  have H := hid h; have HN := hid hn
  clear h hn
  show Calls Tryz.prog _ #[.pointer (some ⟨T.b, 0, none⟩), .string key] w _
  go_enter Tryz.func74, Tryz.ntmps74
  go_wp2_with ((with_reducible show wpList _ _ _ (⟨_, .load 134 _, _, _, _, _⟩ :: _) _ _); refine wpL_load rfl _ _ rfl T.b 0 rfl (ptr T.d T.t) _ H.out.rg rfl rfl (by rw [ptr_length]; exact info_p) ?_)
  refine (pget_any T.d w T.t key H.out.rep (H.out.fine HN.out)).mono ?_
  rintro e w' ⟨rfl, f⟩
  unfold getV
  go_wp2
  go_ret2
  refine ⟨?_, f⟩
  rw [H.out.fl]
  rfl
theorem zero_nds (w : World) : (Instr.build 160 #[]).run Tryz.prog w = .ok (.agg #[.slice none 0 0, .slice none 0 0]) w := by kernel_rfl
theorem build_tr (x : Option Addr) (w : World) : (Instr.build 136 #[(0, .agg #[.pointer x, .pointer none])]).run Tryz.prog w = .ok (.agg #[.pointer x, .pointer none, .int .i64 0]) w := by kernel_rfl
set_option maxHeartbeats 4000000 in
theorem tnew_any (w : World) : Calls Tryz.prog 71 #[] w fun e w' => ∃ T : TD, e = .returned T.v ∧ TrAt w' T [] ∧ Fr No w w' ∧ ∀ g, T.fp g → w.heap.size ≤ g := by
  have b1 := zero_nds; have b2 := build_leaf; have b3 := build_tr
  go_enter Tryz.func71, Tryz.ntmps71
  go_wp2_with (first
    | ((with_reducible show wpList _ _ _ (⟨_, .box 160 _, _, _, _, _⟩ :: _) _ _); refine wpL_box rfl _ _ rfl _ rfl [.slice none 0 0, .slice none 0 0] rfl ?_; intro w1 HB1 F1 HS1)
    | ((with_reducible show wpList _ _ _ (⟨_, .box 136 _, _, _, _, _⟩ :: _) _ _); refine wpL_box rfl _ _ rfl _ rfl [.pointer (some ⟨w.heap.size, 0, none⟩), .pointer none, .int .i64 0] rfl ?_; intro w2 HB2 F2 HS2))
  go_ret
  have hr : Rep w1 0 (⟨w.heap.size, .slice none 0 0, .slice none 0 0, []⟩ : PT 0) := ⟨⟨HB1.out, ⟨rfl, .inl ⟨rfl, rfl⟩⟩, ⟨rfl, .inl ⟨rfl, rfl⟩⟩, (by intro u hu; cases hu), (by intro h; cases h), (by intro h; cases h), (by intro g hg; cases hg)⟩, leaf_kids _ _ _⟩
  have hfp : ∀ g, fp 0 (⟨w.heap.size, .slice none 0 0, .slice none 0 0, []⟩ : PT 0) g → g = w.heap.size := fun g hg => by
    rcases hg with hg | ⟨x, hx, _⟩
    · rcases hg with hg | hg | hg
      · exact hg
      · cases hg
      · cases hg
    · cases hx
  have h1 : w.heap.size < w1.heap.size := HB1.out.lt
  refine ⟨⟨0, ⟨w.heap.size, .slice none 0 0, .slice none 0 0, []⟩, w1.heap.size⟩, rfl, ⟨HB2.out, hr.no F2.out, ⟨trivial, (by intro x hx; cases hx)⟩, (by intro x hx; cases hx), rfl, by simp, .inl rfl, fun e => ?_⟩, F1.out.trans' F2.out, fun g hg => ?_⟩
  · have e1 := hfp _ e
    have e2 : w1.heap.size = w.heap.size := e1
    omega
  · rcases hg with e | e
    · rw [e]; show w.heap.size ≤ w1.heap.size; omega
    · rw [hfp g e]; exact Nat.le_refl _
end Go.Proofs.YtflfmkokfbgclaaGreat.TR
