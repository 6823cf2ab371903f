/-
  Part 22 of the proof: SdW, SdX.
-/
import Derived.Test.YtooodoacpdhbfaaGreatDoorSm19
import Derived.Test.YtooodoacpdhbfaaGreatDoorSm21
set_option linter.unusedSimpArgs false
set_option linter.unusedVariables false
namespace Go.Proofs.YtooodoacpdhbfaaGreatDoor.SC
set_option maxRecDepth 100000
open Go.RowKit K Go.Proofs.YtooodoacpdhbfaaGreatDoor.BE Go.Proofs.YtooodoacpdhbfaaGreatDoor.DN

def cl0 : Cl := ⟨[], 0, [], [], []⟩
def clOf (s : Sch) (n : B) : Cl := ((s.clAt n).bind fun i => s.cls[i]?).getD cl0
set_option maxHeartbeats 8000000 in
theorem class_any (X : Nat → Prop) (b : Nat) (s : Sch) (n : B) (w : World) (h : Sx w X b s) (hX : ∀ k, X k → k < w.heap.size) (hz : Sz n) :
    Calls Tryz.prog 20 #[.pointer (some ⟨b, 0, none⟩), .string (sb n)] w fun e w' => (∃ a1 p1 a2 p2, e = .returned (.tuple #[.agg (clV (clOf s n) (.slice a1 (clOf s n).must.length p1) (.slice a2 (clOf s n).may.length p2)).toArray, .bool (s.clAt n).isSome])) ∧ Sx w' X b s ∧ Fr (fun k => k = b) w w' := by
  obtain ⟨r, hr⟩ : ∃ r, w.heap.size = r := ⟨_, rfl⟩
  have HX := hid (h.also (r := r) (by omega)); have HXB := hid hX; have HZ := hid hz; have HR := hid hr
  have HBR : Hid (b < r) := hid (by have := h.lt; omega)
  clear h hX hz hr
  go_enter Tryz.func20, Tryz.ntmps20
  go_wp2_with (first
    | ((with_reducible refine K.atO (.alloc 44) ?_); refine wpL_alloc rfl _ rfl _ zeroCl [.string ⟨#[]⟩, .int .i64 0, .string ⟨#[]⟩, .slice none 0 0, .slice none 0 0] rfl ?_; intro w1 HB1 HF1 HS1)
    | fail)
  rw [HR.out] at HB1 ⊢
  refine (classAt_any (Also X r) b s n w1 (HX.out.no HF1.out) (also_lt HXB.out (by have := HS1.out; have := HR.out; omega) (by have := HS1.out; omega)) HZ.out).mono ?_
  rintro e w2 ⟨rfl, hs2, f2⟩
  have HS2 := hid hs2
  have HB2 := hid (HB1.out.fr f2 (by show ¬ r = b; have := HBR.out; omega))
  have HF2 : Hid (Fr (fun k => k = b) w w2) := hid (HF1.out.no.trans' f2)
  clear f2 HB1 HF1 HS1
  cases hat : s.clAt n with
  | none =>
    have hty : clOf s n = cl0 := by unfold clOf; rw [hat]; rfl
    rw [atR_none]
    have HTY := hid hty; have HAT := hid hat
    clear hat hty hs2
    go_wp2_with (first
      | ((with_reducible refine K.atO (.build 44 _) ?_); refine wpL_valZ rfl (.agg (clV cl0 (.slice none 0 0) (.slice none 0 0)).toArray) (by kernel_rfl) ?_)
      | ((with_reducible refine K.atO (.store 44 _ _) ?_); refine wpL_store rfl _ _ _ rfl r 0 (clV cl0 (.slice none 0 0) (.slice none 0 0)) rfl rfl 44 _ HB2.out (by simp [clV]) infoCl (oneCl cl0 rfl rfl) ?_; intro w3 HB3 HF3 HS3)
      | fail)
    have HB3' : Hid (Blk w3 r 44 (clV cl0 (.slice none 0 0) (.slice none 0 0))) := hid HB3.out
    refine ret_cell2 rfl _ rfl HB3'.out rfl rfl infoCl rfl ?_
    exact ⟨⟨none, 0, none, 0, by rw [HTY.out, HAT.out]; rfl⟩, (HS2.out.set HF3.out).back.sx, HF2.out.trans HF3.out (fun k e => .inr (by have e : k = r := e; have := HR.out; omega))⟩
  | some i =>
    have hil : i < s.cls.length := by have := fnd_lt hat; unfold Sch.cn at this; rwa [List.length_map] at this
    obtain ⟨c, hc⟩ : ∃ c, s.cls[i]? = some c := ⟨_, List.getElem?_eq_getElem hil⟩
    have hty : clOf s n = c := by unfold clOf; rw [hat]; simp [hc]
    rw [atR_some]
    have HTY := hid hty; have HAT := hid hat
    obtain ⟨vt, vc, bt, bc, n1, m1, hB, -, -, hcv, -, -, -, -, -⟩ := hs2
    obtain ⟨g, o, cq, cs, e1, -, -, hrr, -, hp⟩ := hcv.get hc
    subst e1
    obtain ⟨u1, u2, rfl, -, -, hu1, hu2, hlb⟩ := hp
    have HRR := hid hrr
    have HCP := hid (copied_any c u1 u2 w2 hu1 hu2 hlb)
    have d0 : w2.cell? ⟨b, 1, none⟩ = some (.slice (some ⟨g, o, none⟩) s.cls.length cq) := hB.cell 1
    obtain ⟨L, hL⟩ : ∃ L, s.cls.length = L := ⟨_, rfl⟩
    rw [hL] at hil d0
    have hii : (i : Int) < (L : Int) := by omega
    have hi0 : (0 : Int) ≤ i := by omega
    clear hat hty hB hcv hrr hc hL hil hu1 hu2 hlb
    go_wp2_with (first
      | ((with_reducible refine K.atO (.load 44 _) ?_); refine wpL_load rfl _ _ rfl g (o + i * 5) rfl (clV c u1 u2) _ HRR.out rfl rfl infoCl ?_)
      | fail)
    refine HCP.out.mono ?_
    rintro e w3 ⟨t1, t2, rfl, ht1, ht2, f3⟩
    have HB3 := hid (HB2.out.fr f3 id)
    have HS3 : Hid (Sy w3 (Also X r) b s) := hid (HS2.out.no f3)
    have HF3 : Hid (Fr (fun k => k = b) w w3) := hid (HF2.out.trans' f3.no)
    obtain ⟨a1, p1, rfl, -⟩ := ht1.form
    obtain ⟨a2, p2, rfl, -⟩ := ht2.form
    clear f3 ht1 ht2 d0 HCP
    go_wp2_with (first
      | ((with_reducible refine K.atO (.store 44 _ _) ?_); refine wpL_store rfl _ _ _ rfl r 0 (clV c (.slice a1 c.must.length p1) (.slice a2 c.may.length p2)) rfl rfl 44 _ HB3.out (by simp [clV]) infoCl (oneCl c rfl rfl) ?_; intro w4 HB4 HF4 HS4)
      | fail)
    have HB4' : Hid (Blk w4 r 44 (clV c (.slice a1 c.must.length p1) (.slice a2 c.may.length p2))) := hid HB4.out
    refine ret_cell2 rfl _ rfl HB4'.out rfl rfl infoCl rfl ?_
    exact ⟨⟨a1, p1, a2, p2, by rw [HTY.out, HAT.out]; rfl⟩, (HS3.out.set HF4.out).back.sx, HF3.out.trans HF4.out (fun k e => .inr (by have e : k = r := e; have := HR.out; omega))⟩
end Go.Proofs.YtooodoacpdhbfaaGreatDoor.SC

namespace Go.Proofs.YtooodoacpdhbfaaGreatDoor.SC
set_option maxRecDepth 100000
open Go.RowKit K Go.Proofs.YtooodoacpdhbfaaGreatDoor.BE Go.Proofs.YtooodoacpdhbfaaGreatDoor.DN

theorem infoSc6 : (Tryz.prog.info? 33).map (·.size) = some 2 := by kernel_rfl
theorem bty_zero (w : World) : (Instr.build 39 #[]).run Tryz.prog w = .ok (.agg (tyV ty0).toArray) w := by kernel_rfl
theorem ty_case (s : Sch) (n : B) : (∃ i t, s.tyAt n = some i ∧ s.tys[i]? = some t ∧ tyOf s n = t ∧ (idxI s.tys fun a => low a.nm == low n) = (i : Int) ∧ i < s.tys.length) ∨ (s.tyAt n = none ∧ tyOf s n = ty0 ∧ (idxI s.tys fun a => low a.nm == low n) = -1) := by
  have e : s.tyAt n = s.tys.findIdx? fun a => low a.nm == low n := fnd_ty s.tys n
  cases h : s.tyAt n with
  | none =>
    right
    refine ⟨rfl, by unfold tyOf; rw [h]; rfl, ?_⟩
    unfold idxI
    rw [← e, h]
  | some i =>
    left
    have hl : i < s.tys.length := by rw [e] at h; exact (List.findIdx?_eq_some_iff_getElem.1 h).1
    refine ⟨i, s.tys[i], rfl, List.getElem?_eq_getElem hl, by unfold tyOf; rw [h]; simp [hl], ?_, hl⟩
    unfold idxI
    rw [← e, h]
theorem cl_case (s : Sch) (n : B) : (∃ i t, s.clAt n = some i ∧ s.cls[i]? = some t ∧ clOf s n = t ∧ (idxI s.cls fun a => low a.nm == low n) = (i : Int) ∧ i < s.cls.length) ∨ (s.clAt n = none ∧ clOf s n = cl0 ∧ (idxI s.cls fun a => low a.nm == low n) = -1) := by
  have e : s.clAt n = s.cls.findIdx? fun a => low a.nm == low n := fnd_cl s.cls n
  cases h : s.clAt n with
  | none =>
    right
    refine ⟨rfl, by unfold clOf; rw [h]; rfl, ?_⟩
    unfold idxI
    rw [← e, h]
  | some i =>
    left
    have hl : i < s.cls.length := by rw [e] at h; exact (List.findIdx?_eq_some_iff_getElem.1 h).1
    refine ⟨i, s.cls[i], rfl, List.getElem?_eq_getElem hl, by unfold clOf; rw [h]; simp [hl], ?_, hl⟩
    unfold idxI
    rw [← e, h]
set_option maxHeartbeats 32000000 in
theorem makesLaw (vt vc : Value) (s : Sch) (n : B) (w : World) (h : TysIn (fun i => i < w.heap.size) w vt s.tys) (hy : ClsIn (fun i => i < w.heap.size) w vc s.cls) (hG : Gs w) (hn : Sz n) :
    Calls Tryz.prog 4 #[.agg #[vt, vc], .string (sb n)] w fun e w' => e = .returned (.bool true) ∧ Fr No w w' := by
  obtain ⟨X, hXe⟩ : ∃ X : Nat → Prop, X = fun k => k < w.heap.size := ⟨_, rfl⟩
  have HX := hid hXe
  have HGX : Hid (GX X) := hid (by rw [hXe]; exact hG.gx)
  have HG := hid hG; have HT := hid h; have HC := hid hy; have HZ := hid hn
  obtain ⟨ta, tp, rfl, -, htl⟩ := h.form
  obtain ⟨ca, cp, rfl, -, hcl⟩ := hy.form
  obtain ⟨N, hN⟩ : ∃ n, s.tys.length = n := ⟨_, rfl⟩
  obtain ⟨M, hM⟩ : ∃ n, s.cls.length = n := ⟨_, rfl⟩
  have HNN := hid hN; have HMM := hid hM
  rw [hN] at HT htl ⊢
  rw [hM] at HC hcl ⊢
  have hni : (N : Int) ≤ 140737488351232 := by omega
  have hmi : (M : Int) ≤ 140737488351232 := by omega
  clear h hy hG hXe hn hN hM htl hcl
  go_enter Tryz.func4, Tryz.ntmps4
  go_wp2_with (first
    | ((with_reducible refine K.atO (.box 33 _) ?_); refine wpL_box rfl _ _ rfl _ rfl [.slice ta N tp, .slice ca M cp] rfl ?_; intro w1 HB1 HF1 HS1; refine Hid.out ?_)
    | fail)
  obtain ⟨b, hsb⟩ : ∃ b, w.heap.size = b := ⟨_, rfl⟩
  have HWB := hid hsb
  have HBL1 : Hid (b < w1.heap.size) := hid (by have := HS1.out; omega)
  rw [hsb] at HB1 ⊢
  clear hsb HS1
  refine hid ?_
  go_wp2_with fail
  refine (awake_any w1 (HG.out.no HF1.out)).mono ?_
  rintro e w2 ⟨rfl, f2⟩
  have HB2 := hid (HB1.out.fr f2 id)
  have HR2 : Hid (w2.rangeAt b 0 [.slice ta N tp, .slice ca M cp]) := hid (HB2.out.range 0 _ rfl)
  have HF2 : Hid (Fr No w w2) := hid (HF1.out.trans' f2)
  have HBL2 : Hid (b < w2.heap.size) := hid (Nat.lt_of_lt_of_le HBL1.out f2.size)
  have HT2 : Hid (TysIn (fun i => i < w.heap.size) w2 (.slice ta N tp) s.tys) := hid (TysIn.fr (D := No) HT.out HF2.out (fun _ _ _ e => e)); have HC2 : Hid (ClsIn (fun i => i < w.heap.size) w2 (.slice ca M cp) s.cls) := hid (ClsIn.fr (D := No) HC.out HF2.out (fun _ _ _ e => e))
  clear f2 HB1 HF1 HT HC HBL1
  go_wp2_with (first
    | ((with_reducible refine K.atO (.load 33 _) ?_); refine wpL_valZ rfl (.agg #[.slice ta N tp, .slice ca M cp]) (exec_load _ _ rfl b 0 rfl [.slice ta N tp, .slice ca M cp] _ rfl rfl infoSc6 w2 HR2.out) ?_)
    | fail)
  cases hok : okS s with
  | false =>
    refine (new_bad _ _ s w2 HT2.out HC2.out hok).mono ?_
    rintro e w3 ⟨rfl, f3⟩
    have HF3 := hid (HF2.out.trans' f3)
    have HR3 : Hid (w3.rangeAt b 0 [.slice ta N tp, .slice ca M cp]) := hid ((HB2.out.fr f3 id).range 0 _ rfl)
    go_wp2_with (first
      | ((with_reducible refine K.atO (.load 33 _) ?_); refine wpL_valZ rfl (.agg #[.slice ta N tp, .slice ca M cp]) (exec_load _ _ rfl b 0 rfl [.slice ta N tp, .slice ca M cp] _ rfl rfl infoSc6 w3 HR3.out) ?_)
      | fail)
    refine (right_any _ _ s w3 (TysIn.fr (D := No) HT2.out f3 (fun _ _ _ e => e)) (ClsIn.fr (D := No) HC2.out f3 (fun _ _ _ e => e))).mono ?_
    rintro e w4 ⟨rfl, f4⟩
    have HF4 := hid (HF3.out.trans' f4)
    rw [hok]
    clear f3 f4 hok
    go_wp2_with fail
    go_ret
    exact ⟨rfl, HF4.out⟩
  | true =>
    refine (new_ok _ _ s w2 HT2.out HC2.out hok).mono ?_
    rintro e w3 ⟨q, rfl, hs, f3⟩
    have HQB : Hid (w2.heap.size ≤ q) := hid (by have := hs.nx; omega)
    have HS3 : Hid (Sx w3 X q s) := hid (hs.less (fun k hk => by rw [HX.out] at hk; exact Nat.lt_of_lt_of_le hk HF2.out.size))
    have HF3 : Hid (Fr No w w3) := hid (HF2.out.trans' f3)
    have HG3 := hid (HG.out.no HF3.out)
    have HBQ : Hid (b ≠ q ∧ w.heap.size ≤ q) := hid ⟨by have := HQB.out; have := HBL2.out; omega, Nat.le_trans HF2.out.size HQB.out⟩
    have HB3 := hid (HB2.out.fr f3 id)
    have HT3 : Hid (TysIn (fun i => i < w.heap.size) w3 (.slice ta N tp) s.tys) := hid (TysIn.fr (D := No) HT2.out f3 (fun _ _ _ e => e)); have HC3 : Hid (ClsIn (fun i => i < w.heap.size) w3 (.slice ca M cp) s.cls) := hid (ClsIn.fr (D := No) HC2.out f3 (fun _ _ _ e => e))
    have HFQ : Hid (∀ u v : World, Fr No w u → Fr (fun i => i = q) u v → Fr No w v) := hid (fun _ _ f g => f.trans g (fun i e => .inr (by rw [e]; exact HBQ.out.2)))
    have HXB : Hid (∀ u, Fr No w u → ∀ k, X k → k < u.heap.size) := hid (fun u f k hk => by rw [HX.out] at hk; exact Nat.lt_of_lt_of_le (show k < w.heap.size from hk) f.size)
    have HR3 : Hid (w3.rangeAt b 0 [.slice ta N tp, .slice ca M cp]) := hid (HB3.out.range 0 _ rfl)
    clear hs f3 HT2 HC2 HF2 HR2 HB2 HBL2 HQB
    go_wp2_with (first
      | ((with_reducible refine K.atO (.load 33 _) ?_); refine wpL_valZ rfl (.agg #[.slice ta N tp, .slice ca M cp]) (exec_load _ _ rfl b 0 rfl [.slice ta N tp, .slice ca M cp] _ rfl rfl infoSc6 w3 HR3.out) ?_)
      | fail)
    refine (right_any _ _ s w3 HT3.out HC3.out).mono ?_
    rintro e w4 ⟨rfl, f4⟩
    rw [hok]
    have HF4 := hid (HF3.out.trans' f4); have HS4 := hid (HS3.out.no f4); have HG4 := hid (HG3.out.no f4)
    have HQ4 : Hid (Fr (fun k => k = q) w3 w4) := hid f4.no
    clear f4 hok HR3 HS3 HG3
    go_wp2_with fail
    refine (type_any X q s n w4 HS4.out (HXB.out _ HF4.out) HZ.out).mono ?_
    rintro e w5 ⟨rfl, hs, f⟩
    have HS5 := hid hs.sx; have HG5 := hid (hs.bb HG4.out f HGX.out); have HF5 := hid (HFQ.out _ _ HF4.out f); have HQ5 := hid (HQ4.out.trans' f)
    clear hs f HS4 HG4 HF4 HQ4
    obtain ⟨ty, hty⟩ : ∃ t, tyOf s n = t := ⟨_, rfl⟩
    obtain ⟨B1, hB1⟩ : ∃ b, (s.tyAt n).isSome = b := ⟨_, rfl⟩
    have HTY := hid hty; have HB1 := hid hB1
    rw [hty, hB1]
    clear hty hB1
    go_wp2_with (first
      | ((with_reducible refine K.atO (.alloc 39) ?_); refine wpL_alloc rfl _ rfl _ zeroTy [.string ⟨#[]⟩, .int .i64 0, .bool false, .bool false, .bool false, .bool false] rfl ?_; intro y8 HY8 GY8 TY8)
      | ((with_reducible refine K.atO (.store 39 _ _) ?_); refine wpL_store rfl _ _ _ rfl w5.heap.size 0 (tyV ty) rfl rfl 39 _ HY8.out (by simp [tyV]) infoTy (oneTy ty) ?_; intro y9 HY9 GY9 TY9; refine Hid.out ?_)
      | fail)
    have f9 : Fr No w5 y9 := GY8.out.trans GY9.out (fun k e => .inr (by have e : k = w5.heap.size := e; omega))
    have HTQ : Hid (w5.heap.size ≠ q) := hid (by have := HS5.out.lt; omega)
    have HB9 : Hid (Blk y9 w5.heap.size 39 (tyV ty)) := hid HY9.out
    obtain ⟨tb, htb⟩ : ∃ b, w5.heap.size = b := ⟨_, rfl⟩
    rw [htb] at HB9 HTQ ⊢
    have HS9 := hid (HS5.out.no f9); have HG9 := hid (HG5.out.no f9); have HF9 := hid (HF5.out.trans' f9); have HQ9 : Hid (Fr (fun k => k = q) w3 y9) := hid (HQ5.out.trans' f9.no)
    clear f9 htb HY8 GY8 TY8 HY9 GY9 TY9 HS5 HG5 HF5 HQ5
    refine hid ?_
    go_wp2_with fail
    refine (class_any X q s n y9 HS9.out (HXB.out _ HF9.out) HZ.out).mono ?_
    rintro e w6 ⟨⟨a1, p1, a2, p2, rfl⟩, hs, f⟩
    have HF6 := hid (HFQ.out _ _ HF9.out f); have HQ6 : Hid (Fr (fun k => k = q) w3 w6) := hid (HQ9.out.trans' f)
    have HB6 := hid (HB9.out.fr f HTQ.out)
    clear hs f HS9 HG9 HF9 HQ9 HB9
    obtain ⟨cl, hcl⟩ : ∃ t, clOf s n = t := ⟨_, rfl⟩
    obtain ⟨B2, hB2⟩ : ∃ b, (s.clAt n).isSome = b := ⟨_, rfl⟩
    have HCL := hid hcl; have HB2 := hid hB2
    rw [hcl, hB2]
    obtain ⟨l1, hl1⟩ : ∃ l, cl.must.length = l := ⟨_, rfl⟩
    obtain ⟨l2, hl2⟩ : ∃ l, cl.may.length = l := ⟨_, rfl⟩
    have HL1 := hid hl1; have HL2 := hid hl2
    rw [hl1, hl2]
    clear hcl hB2 hl1 hl2
    go_wp2_with (first
      | ((with_reducible refine K.atO (.alloc 44) ?_); refine wpL_alloc rfl _ rfl _ zeroCl [.string ⟨#[]⟩, .int .i64 0, .string ⟨#[]⟩, .slice none 0 0, .slice none 0 0] rfl ?_; intro y8 HY8 GY8 TY8)
      | ((with_reducible refine K.atO (.store 44 _ _) ?_); refine wpL_store rfl _ _ _ rfl w6.heap.size 0 (clV cl (.slice a1 l1 p1) (.slice a2 l2 p2)) rfl rfl 44 _ HY8.out (by simp [clV]) infoCl (oneCl cl rfl rfl) ?_; intro y9 HY9 GY9 TY9; refine Hid.out ?_)
      | fail)
    have f9 : Fr No w6 y9 := GY8.out.trans GY9.out (fun k e => .inr (by have e : k = w6.heap.size := e; omega))
    have HC9 : Hid (Blk y9 w6.heap.size 44 (clV cl (.slice a1 l1 p1) (.slice a2 l2 p2))) := hid HY9.out
    obtain ⟨cb, hcb⟩ : ∃ b, w6.heap.size = b := ⟨_, rfl⟩
    rw [hcb] at HC9 ⊢
    have HB9 := hid (HB6.out.fr f9 id)
    have HF9 := hid (HF6.out.trans' f9); have HQ9 : Hid (Fr (fun k => k = q) w3 y9) := hid (HQ6.out.trans' f9.no)
    have HSE : Hid (∀ k, k < w.heap.size → k ≠ q) := hid (fun k hk => by have := HBQ.out.2; omega)
    have HT9 : Hid (TysIn (fun i => i < w.heap.size) y9 (.slice ta N tp) s.tys) := hid (TysIn.fr (D := fun k => k = q) HT3.out HQ9.out (fun i hi _ e => HSE.out i hi e))
    have HL9 : Hid (ClsIn (fun i => i < w.heap.size) y9 (.slice ca M cp) s.cls) := hid (ClsIn.fr (D := fun k => k = q) HC3.out HQ9.out (fun i hi _ e => HSE.out i hi e))
    have HX9 : Hid (Blk y9 b 33 [.slice ta N tp, .slice ca M cp]) := hid (HB3.out.fr HQ9.out HBQ.out.1)
    clear f9 hcb HY8 GY8 TY8 HY9 GY9 TY9 HF6 HQ6 HB6 HT3 HC3 HB3 HQ9
    refine hid ?_
    have HR9 : Hid (y9.rangeAt b 0 [.slice ta N tp, .slice ca M cp]) := hid (HX9.out.range 0 _ rfl)
    go_wp2_with (first
      | ((with_reducible refine K.atO (.load 33 _) ?_); refine wpL_valZ rfl (.agg #[.slice ta N tp, .slice ca M cp]) (exec_load _ _ rfl b 0 rfl [.slice ta N tp, .slice ca M cp] _ rfl rfl infoSc6 y9 HR9.out) ?_)
      | fail)
    refine (rfind_any _ _ s n y9 HT9.out HL9.out HZ.out).mono ?_
    rintro e w7 ⟨rfl, f⟩
    have HF7 := hid (HF9.out.trans' f)
    have HT7 : Hid (TysIn (fun i => i < w.heap.size) w7 (.slice ta N tp) s.tys) := hid (TysIn.fr (D := No) HT9.out f (fun _ _ _ e => e))
    have HL7 : Hid (ClsIn (fun i => i < w.heap.size) w7 (.slice ca M cp) s.cls) := hid (ClsIn.fr (D := No) HL9.out f (fun _ _ _ e => e))
    have HX7 := hid (HX9.out.fr f id); have HB7 := hid (HB9.out.fr f id); have HC7 := hid (HC9.out.fr f id)
    have HR7 : Hid (w7.rangeAt b 0 [.slice ta N tp, .slice ca M cp]) := hid (HX7.out.range 0 _ rfl)
    clear f HF9 HT9 HL9 HX9 HB9 HC9 HR9
    go_wp2_with (first
      | ((with_reducible refine K.atO (.load 33 _) ?_); refine wpL_valZ rfl (.agg #[.slice ta N tp, .slice ca M cp]) (exec_load _ _ rfl b 0 rfl [.slice ta N tp, .slice ca M cp] _ rfl rfl infoSc6 w7 HR7.out) ?_)
      | fail)
    refine (rfindC_any _ _ s n w7 HT7.out HL7.out HZ.out).mono ?_
    rintro e w8 ⟨rfl, f⟩
    have HF8 := hid (HF7.out.trans' f)
    have HT8 : Hid (TysIn (fun i => i < w.heap.size) w8 (.slice ta N tp) s.tys) := hid (TysIn.fr (D := No) HT7.out f (fun _ _ _ e => e))
    have HL8 : Hid (ClsIn (fun i => i < w.heap.size) w8 (.slice ca M cp) s.cls) := hid (ClsIn.fr (D := No) HL7.out f (fun _ _ _ e => e))
    have HX8 := hid (HX7.out.fr f id); have HB8 := hid (HB7.out.fr f id); have HC8 := hid (HC7.out.fr f id)
    clear f HF7 HT7 HL7 HX7 HB7 HC7 HR7
    have k0 : w8.cell? ⟨cb, 0, none⟩ = some (.string (sb cl.nm)) := HC8.out.cell 0
    have k1 : w8.cell? ⟨cb, 1, none⟩ = some (.int .i64 cl.kind) := HC8.out.cell 1
    have k2 : w8.cell? ⟨cb, 2, none⟩ = some (.string (sb cl.sup)) := HC8.out.cell 2
    have k3 : w8.cell? ⟨cb, 3, none⟩ = some (.slice a1 l1 p1) := HC8.out.cell 3
    have k4 : w8.cell? ⟨cb, 4, none⟩ = some (.slice a2 l2 p2) := HC8.out.cell 4
    have x0 : w8.cell? ⟨b, 0, none⟩ = some (.slice ta N tp) := HX8.out.cell 0
    have x1 : w8.cell? ⟨b, 1, none⟩ = some (.slice ca M cp) := HX8.out.cell 1
    have t0 : w8.rangeAt tb 0 (tyV ty) := HB8.out.range 0 _ rfl
    clear HC8 HX8 HB8
    have htc := ty_case s n; have hcc := cl_case s n
    rw [HTY.out, HNN.out] at htc
    rw [HCL.out, HMM.out] at hcc
    rcases htc with ⟨i, t, hi1, hi2, rfl, hi4, hi5⟩ | ⟨hi1, rfl, hi4⟩
    · obtain ⟨g, o, cq, cs, e1, -, -, hr, -, hp⟩ := HT8.out.get hi2
      rw [HNN.out] at e1
      simp only [Value.slice.injEq, true_and] at e1
      obtain ⟨rfl, rfl⟩ := e1
      obtain ⟨rfl, -⟩ := hp
      have r0 : w8.rangeAt g (o + i * 6) (tyV ty) := hr
      have hi0 : (0 : Int) ≤ i := by omega
      have hiN : (i : Int) < N := by omega
      obtain rfl : B1 = true := by rw [← HB1.out, hi1]; rfl
      rw [hi4]
      clear hi1 hi2 hi4 hi5 hr
      rcases hcc with ⟨k, c, hk1, hk2, rfl, hk4, hk5⟩ | ⟨hk1, rfl, hk4⟩
      · obtain ⟨g2, o2, cq2, cs2, e2, -, -, hr2, -, hp2⟩ := HL8.out.get hk2
        rw [HMM.out] at e2
        simp only [Value.slice.injEq, true_and] at e2
        obtain ⟨rfl, rfl⟩ := e2
        obtain ⟨v1, v2, rfl, -, -, hv1, hv2, -⟩ := hp2
        have rc : w8.rangeAt g2 (o2 + k * 5) (clV cl v1 v2) := hr2
        obtain ⟨b1, q1, rfl, -⟩ := hv1.form
        obtain ⟨b2, q2, rfl, -⟩ := hv2.form
        rw [HL1.out, HL2.out] at rc
        have hk0 : (0 : Int) ≤ k := by omega
        have hkM : (k : Int) < M := by omega
        obtain rfl : B2 = true := by rw [← HB2.out, hk1]; rfl
        rw [hk4]
        clear hk1 hk2 hk4 hk5 hr2 hv1 hv2
        go_wp2_with fail
        have hold : Facts.hold [(14, fun w' => w'.rangeAt tb 0 (tyV ty)), (16, fun w' => w'.cell? ⟨b, 0, none⟩ = some (.slice (some ⟨g, o, none⟩) N tp)), (19, fun w' => w'.rangeAt g (o + i * 6) (tyV ty))] w8.drew := Facts.cons_hold t0 (Facts.cons_hold x0 (Facts.cons_hold r0 (Facts.nil_hold _)))
        refine wpD_region hold (by kernel_rfl) 32 rfl ?_
        (refine wpD_plain 0 (v := ?_) rfl (by kernel_rfl) (by kernel_rfl) (by kernel_rfl) (fun _ _ _ h => h) (by rfl) ?_ (by assumption) ?_; rotate_left; (intro _w; go_simp; try with_reducible rfl); simp only [Act.put, K.put3])
        (refine wpD_plain 1 (v := ?_) rfl (by kernel_rfl) (by kernel_rfl) (by kernel_rfl) (fun _ _ _ h => h) (by rfl) ?_ (by assumption) ?_; rotate_left; (intro _w; go_simp; try with_reducible rfl); simp only [Act.put, K.put3])
        (refine wpD_plain 2 (v := (.bool true)) rfl (by kernel_rfl) (by kernel_rfl) (by kernel_rfl) (fun _ _ _ h => h) (by rfl) ?_ (by assumption) ?_; (intro _w; go_simp; first | done | simp | (simp; omega)); simp only [Act.put, K.put3])
        (refine wpD_plain 3 (v := ?_) rfl (by kernel_rfl) (by kernel_rfl) (by kernel_rfl) (fun _ _ _ h => h) (by rfl) ?_ (by assumption) ?_; rotate_left; (intro _w; go_simp; try with_reducible rfl); simp only [Act.put, K.put3])
        (refine wpD_plain 4 (v := ?_) rfl (by kernel_rfl) (by kernel_rfl) (by kernel_rfl) (fun _ _ _ h => h) (by rfl) ?_ (by assumption) ?_; rotate_left; (intro _w; go_simp; try with_reducible rfl); simp only [Act.put, K.put3])
        (refine wpD_plain 5 (v := ?_) rfl (by kernel_rfl) (by kernel_rfl) (by kernel_rfl) (fun _ _ _ h => h) (by rfl) ?_ (by assumption) ?_; rotate_left; (intro _w; go_simp; try with_reducible rfl); simp only [Act.put, K.put3])
        (refine wpD_plain 6 (v := ?_) rfl (by kernel_rfl) (by kernel_rfl) (by kernel_rfl) (fun _ _ _ h => h) (by rfl) ?_ (by assumption) ?_; rotate_left; (intro _w; go_simp; try with_reducible rfl); simp only [Act.put, K.put3])
        (refine wpD_plain 7 (v := (.bool true)) rfl (by kernel_rfl) (by kernel_rfl) (by kernel_rfl) (fun _ _ _ h => h) (by rfl) ?_ (by assumption) ?_; (intro _w; go_simp; first | done | simp | (simp; omega)); simp only [Act.put, K.put3])
        (refine wpD_plain 8 (v := ?_) rfl (by kernel_rfl) (by kernel_rfl) (by kernel_rfl) (fun _ _ _ h => h) (by rfl) ?_ (by assumption) ?_; rotate_left; (intro _w; go_simp; try with_reducible rfl); simp only [Act.put, K.put3])
        (refine wpD_plain 9 (v := ?_) rfl (by kernel_rfl) (by kernel_rfl) (by kernel_rfl) (fun _ _ _ h => h) (by rfl) ?_ (by assumption) ?_; rotate_left; (intro _w; go_simp; try with_reducible rfl); simp only [Act.put, K.put3])
        (refine wpD_plain 10 (v := ?_) rfl (by kernel_rfl) (by kernel_rfl) (by kernel_rfl) (fun _ _ _ h => h) (by rfl) ?_ (by assumption) ?_; rotate_left; (intro _w; go_simp; try with_reducible rfl); simp only [Act.put, K.put3])
        (refine wpD_plain 11 (v := ?_) rfl (by kernel_rfl) (by kernel_rfl) (by kernel_rfl) (fun _ _ _ h => h) (by rfl) ?_ (by assumption) ?_; rotate_left; (intro _w; go_simp; try with_reducible rfl); simp only [Act.put, K.put3])
        (refine wpD_plain 12 (v := (.bool true)) rfl (by kernel_rfl) (by kernel_rfl) (by kernel_rfl) (fun _ _ _ h => h) (by rfl) ?_ (by assumption) ?_; (intro _w; go_simp; first | done | simp | (simp; omega)); simp only [Act.put, K.put3])
        (refine wpD_plain 13 (v := ?_) rfl (by kernel_rfl) (by kernel_rfl) (by kernel_rfl) (fun _ _ _ h => h) (by rfl) ?_ (by assumption) ?_; rotate_left; (intro _w; go_simp; try with_reducible rfl); simp only [Act.put, K.put3])
        (refine wpD_take 14 _ rfl (by kernel_rfl) (by kernel_rfl) (by kernel_rfl) (fun _ _ _ h => h) List.mem_cons_self (by rfl) (exec_load _ _ rfl tb 0 rfl _ _ rfl rfl infoTy) (by assumption) ?_; simp only [Act.put, K.put3])
        (refine wpD_plain 15 (v := ?_) rfl (by kernel_rfl) (by kernel_rfl) (by kernel_rfl) (fun _ _ _ h => h) (by rfl) ?_ (by assumption) ?_; rotate_left; (intro _w; go_simp; try with_reducible rfl); simp only [Act.put, K.put3])
        (refine wpD_take 16 _ rfl (by kernel_rfl) (by kernel_rfl) (by kernel_rfl) (fun _ _ _ h => h) (List.mem_cons_of_mem _ List.mem_cons_self) (by rfl) (v := ?_) ?_ (by assumption) ?_; rotate_left; (intro _w _hw; go_simp; try with_reducible rfl); simp only [Act.put, K.put3])
        (refine wpD_plain 17 (v := ?_) rfl (by kernel_rfl) (by kernel_rfl) (by kernel_rfl) (fun _ _ _ h => h) (by rfl) ?_ (by assumption) ?_; rotate_left; (intro _w; go_simp; try with_reducible rfl); simp only [Act.put, K.put3])
        (refine wpD_plain 18 (v := ?_) rfl (by kernel_rfl) (by kernel_rfl) (by kernel_rfl) (fun _ _ _ h => h) (by rfl) ?_ (by assumption) ?_; rotate_left; (intro _w; go_simp; try with_reducible rfl); simp only [Act.put, K.put3])
        (refine wpD_take 19 _ rfl (by kernel_rfl) (by kernel_rfl) (by kernel_rfl) (fun _ _ _ h => h) (List.mem_cons_of_mem _ (List.mem_cons_of_mem _ List.mem_cons_self)) (by rfl) (exec_load _ _ rfl g (o + i * 6) rfl _ _ rfl rfl infoTy) (by assumption) ?_; simp only [Act.put, K.put3])
        (refine wpD_plain 20 (v := (.bool false)) rfl (by kernel_rfl) (by kernel_rfl) (by kernel_rfl) (fun _ _ _ h => h) (by rfl) ?_ (by assumption) ?_; (intro _w; exact exec_neTy _ _ _ rfl ty ty false (by simp) rfl rfl _w); simp only [Act.put, K.put3])
        (refine wpD_plain 21 (v := ?_) rfl (by kernel_rfl) (by kernel_rfl) (by kernel_rfl) (fun _ _ _ h => h) (by rfl) ?_ (by assumption) ?_; rotate_left; (intro _w; go_simp; try with_reducible rfl); simp only [Act.put, K.put3])
        (refine wpD_plain 22 (v := ?_) rfl (by kernel_rfl) (by kernel_rfl) (by kernel_rfl) (fun _ _ _ h => h) (by rfl) ?_ (by assumption) ?_; rotate_left; (intro _w; go_simp; try with_reducible rfl); simp only [Act.put, K.put3])
        (refine wpD_plain 23 (v := ?_) rfl (by kernel_rfl) (by kernel_rfl) (by kernel_rfl) (fun _ _ _ h => h) (by rfl) ?_ (by assumption) ?_; rotate_left; (intro _w; go_simp; try with_reducible rfl); simp only [Act.put, K.put3])
        (refine wpD_plain 24 (v := ?_) rfl (by kernel_rfl) (by kernel_rfl) (by kernel_rfl) (fun _ _ _ h => h) (by rfl) ?_ (by assumption) ?_; rotate_left; (intro _w; go_simp; try with_reducible rfl); simp only [Act.put, K.put3])
        (refine wpD_plain 25 (v := (.bool false)) rfl (by kernel_rfl) (by kernel_rfl) (by kernel_rfl) (fun _ _ _ h => h) (by rfl) ?_ (by assumption) ?_; (intro _w; go_simp; first | done | simp | (simp; omega)); simp only [Act.put, K.put3])
        (refine wpD_plain 26 (v := ?_) rfl (by kernel_rfl) (by kernel_rfl) (by kernel_rfl) (fun _ _ _ h => h) (by rfl) ?_ (by assumption) ?_; rotate_left; (intro _w; go_simp; try with_reducible rfl); simp only [Act.put, K.put3])
        (refine wpD_skip 27 rfl (by kernel_rfl) (by kernel_rfl) (by kernel_rfl) (fun _ _ _ h => h) (by rfl) (by assumption) ?_; simp only [Act.put, K.put3])
        (refine wpD_skip 28 rfl (by kernel_rfl) (by kernel_rfl) (by kernel_rfl) (fun _ _ _ h => h) (by rfl) (by assumption) ?_; simp only [Act.put, K.put3])
        (refine wpD_skip 29 rfl (by kernel_rfl) (by kernel_rfl) (by kernel_rfl) (fun _ _ _ h => h) (by rfl) (by assumption) ?_; simp only [Act.put, K.put3])
        (refine wpD_plain 30 (v := ?_) rfl (by kernel_rfl) (by kernel_rfl) (by kernel_rfl) (fun _ _ _ h => h) (by rfl) ?_ (by assumption) ?_; rotate_left; (intro _w; go_simp; try with_reducible rfl); simp only [Act.put, K.put3])
        (refine wpD_plain 31 (v := ?_) rfl (by kernel_rfl) (by kernel_rfl) (by kernel_rfl) (fun _ _ _ h => h) (by rfl) ?_ (by assumption) ?_; rotate_left; (intro _w; go_simp; try with_reducible rfl); simp only [Act.put, K.put3])
        clear hold
        refine wpD_done (by kernel_rfl) ?_ _
        have HRC : Hid (w8.rangeAt g2 (o2 + k * 5) (clV cl (.slice b1 l1 q1) (.slice b2 l2 q2))) := hid rc
        clear rc t0 x0
        go_wp2_with (first
          | ((with_reducible refine K.atO (.load 44 _) ?_); refine wpL_load rfl _ _ rfl g2 (o2 + k * 5) rfl (clV cl (.slice b1 l1 q1) (.slice b2 l2 q2)) _ HRC.out rfl rfl infoCl ?_)
          | ((with_reducible refine K.atO (.alloc 44) ?_); refine wpL_alloc rfl _ rfl _ zeroCl _ rfl ?_; intro y8 HY8 GY8 TY8)
          | ((with_reducible refine K.atO (.store 44 _ _) ?_); refine wpL_store rfl _ _ _ rfl w8.heap.size 0 (clV cl (.slice b1 l1 q1) (.slice b2 l2 q2)) rfl rfl 44 _ HY8.out (by simp [clV]) infoCl (oneCl cl rfl rfl) ?_; intro y9 HY9 GY9 TY9; refine Hid.out ?_)
          | fail)
        have f9 : Fr No w8.drew y9 := GY8.out.trans GY9.out (fun k e => .inr (by have e : k = w8.heap.size := e; rw [e]; exact Nat.le_refl _))
        have HF9 : Hid (Fr No w y9) := hid (HF8.out.drew.trans' f9)
        have j0 : y9.cell? ⟨cb, 0, none⟩ = some (.string (sb cl.nm)) := f9.cell (show w8.drew.cell? _ = _ from k0) id
        have j1 : y9.cell? ⟨cb, 1, none⟩ = some (.int .i64 cl.kind) := f9.cell (show w8.drew.cell? _ = _ from k1) id
        have j2 : y9.cell? ⟨cb, 2, none⟩ = some (.string (sb cl.sup)) := f9.cell (show w8.drew.cell? _ = _ from k2) id
        have j3 : y9.cell? ⟨cb, 3, none⟩ = some (.slice a1 l1 p1) := f9.cell (show w8.drew.cell? _ = _ from k3) id
        have j4 : y9.cell? ⟨cb, 4, none⟩ = some (.slice a2 l2 p2) := f9.cell (show w8.drew.cell? _ = _ from k4) id
        obtain ⟨wb, hwb⟩ : ∃ b, w8.heap.size = b := ⟨_, rfl⟩
        have HB9 : Hid (Blk y9 w8.heap.size 44 (clV cl (.slice b1 l1 q1) (.slice b2 l2 q2))) := hid HY9.out
        show Hid _
        rw [hwb] at HB9
        have i0 : y9.cell? ⟨wb, 0, none⟩ = some (.string (sb cl.nm)) := HB9.out.cell 0
        have i1 : y9.cell? ⟨wb, 1, none⟩ = some (.int .i64 cl.kind) := HB9.out.cell 1
        have i2 : y9.cell? ⟨wb, 2, none⟩ = some (.string (sb cl.sup)) := HB9.out.cell 2
        have i3 : y9.cell? ⟨wb, 3, none⟩ = some (.slice b1 l1 q1) := HB9.out.cell 3
        have i4 : y9.cell? ⟨wb, 4, none⟩ = some (.slice b2 l2 q2) := HB9.out.cell 4
        clear k0 k1 k2 k3 k4 f9 HY8 GY8 TY8 HY9 GY9 TY9 HB9
        have hwb2 : w8.drew.heap.size = wb := hwb
        first | rw [hwb] | rw [hwb2]
        clear hwb hwb2
        refine hid ?_
        go_wp2_with (first
          | ((with_reducible refine K.atO (.binOp .eql 9 _ _ _) ?_); refine wpL_valZ (by rfl) (.bool true) ((exec_eqS _ _ _ rfl cl.nm cl.nm rfl rfl _).trans (by simp)) ?_)
          | ((with_reducible refine K.atO (.binOp .eql 9 _ _ _) ?_); refine wpL_valZ (by rfl) (.bool true) ((exec_eqS _ _ _ rfl cl.sup cl.sup rfl rfl _).trans (by simp)) ?_)
          | fail)
        go_ret
        exact ⟨rfl, HF9.out⟩
      · obtain rfl : B2 = false := by rw [← HB2.out, hk1]; rfl
        obtain rfl : l1 = 0 := HL1.out.symm
        obtain rfl : l2 = 0 := HL2.out.symm
        rw [hk4]
        clear hk1 hk4
        go_wp2_with fail
        have hold : Facts.hold [(14, fun w' => w'.rangeAt tb 0 (tyV ty)), (16, fun w' => w'.cell? ⟨b, 0, none⟩ = some (.slice (some ⟨g, o, none⟩) N tp)), (19, fun w' => w'.rangeAt g (o + i * 6) (tyV ty))] w8.drew := Facts.cons_hold t0 (Facts.cons_hold x0 (Facts.cons_hold r0 (Facts.nil_hold _)))
        refine wpD_region hold (by kernel_rfl) 32 rfl ?_
        (refine wpD_plain 0 (v := ?_) rfl (by kernel_rfl) (by kernel_rfl) (by kernel_rfl) (fun _ _ _ h => h) (by rfl) ?_ (by assumption) ?_; rotate_left; (intro _w; go_simp; try with_reducible rfl); simp only [Act.put, K.put3])
        (refine wpD_plain 1 (v := ?_) rfl (by kernel_rfl) (by kernel_rfl) (by kernel_rfl) (fun _ _ _ h => h) (by rfl) ?_ (by assumption) ?_; rotate_left; (intro _w; go_simp; try with_reducible rfl); simp only [Act.put, K.put3])
        (refine wpD_plain 2 (v := (.bool true)) rfl (by kernel_rfl) (by kernel_rfl) (by kernel_rfl) (fun _ _ _ h => h) (by rfl) ?_ (by assumption) ?_; (intro _w; go_simp; first | done | simp | (simp; omega)); simp only [Act.put, K.put3])
        (refine wpD_plain 3 (v := ?_) rfl (by kernel_rfl) (by kernel_rfl) (by kernel_rfl) (fun _ _ _ h => h) (by rfl) ?_ (by assumption) ?_; rotate_left; (intro _w; go_simp; try with_reducible rfl); simp only [Act.put, K.put3])
        (refine wpD_plain 4 (v := ?_) rfl (by kernel_rfl) (by kernel_rfl) (by kernel_rfl) (fun _ _ _ h => h) (by rfl) ?_ (by assumption) ?_; rotate_left; (intro _w; go_simp; try with_reducible rfl); simp only [Act.put, K.put3])
        (refine wpD_plain 5 (v := ?_) rfl (by kernel_rfl) (by kernel_rfl) (by kernel_rfl) (fun _ _ _ h => h) (by rfl) ?_ (by assumption) ?_; rotate_left; (intro _w; go_simp; try with_reducible rfl); simp only [Act.put, K.put3])
        (refine wpD_plain 6 (v := ?_) rfl (by kernel_rfl) (by kernel_rfl) (by kernel_rfl) (fun _ _ _ h => h) (by rfl) ?_ (by assumption) ?_; rotate_left; (intro _w; go_simp; try with_reducible rfl); simp only [Act.put, K.put3])
        (refine wpD_plain 7 (v := (.bool false)) rfl (by kernel_rfl) (by kernel_rfl) (by kernel_rfl) (fun _ _ _ h => h) (by rfl) ?_ (by assumption) ?_; (intro _w; go_simp; first | done | simp | (simp; omega)); simp only [Act.put, K.put3])
        (refine wpD_plain 8 (v := ?_) rfl (by kernel_rfl) (by kernel_rfl) (by kernel_rfl) (fun _ _ _ h => h) (by rfl) ?_ (by assumption) ?_; rotate_left; (intro _w; go_simp; try with_reducible rfl); simp only [Act.put, K.put3])
        (refine wpD_plain 9 (v := ?_) rfl (by kernel_rfl) (by kernel_rfl) (by kernel_rfl) (fun _ _ _ h => h) (by rfl) ?_ (by assumption) ?_; rotate_left; (intro _w; go_simp; try with_reducible rfl); simp only [Act.put, K.put3])
        (refine wpD_plain 10 (v := ?_) rfl (by kernel_rfl) (by kernel_rfl) (by kernel_rfl) (fun _ _ _ h => h) (by rfl) ?_ (by assumption) ?_; rotate_left; (intro _w; go_simp; try with_reducible rfl); simp only [Act.put, K.put3])
        (refine wpD_plain 11 (v := ?_) rfl (by kernel_rfl) (by kernel_rfl) (by kernel_rfl) (fun _ _ _ h => h) (by rfl) ?_ (by assumption) ?_; rotate_left; (intro _w; go_simp; try with_reducible rfl); simp only [Act.put, K.put3])
        (refine wpD_plain 12 (v := (.bool true)) rfl (by kernel_rfl) (by kernel_rfl) (by kernel_rfl) (fun _ _ _ h => h) (by rfl) ?_ (by assumption) ?_; (intro _w; go_simp; first | done | simp | (simp; omega)); simp only [Act.put, K.put3])
        (refine wpD_plain 13 (v := ?_) rfl (by kernel_rfl) (by kernel_rfl) (by kernel_rfl) (fun _ _ _ h => h) (by rfl) ?_ (by assumption) ?_; rotate_left; (intro _w; go_simp; try with_reducible rfl); simp only [Act.put, K.put3])
        (refine wpD_take 14 _ rfl (by kernel_rfl) (by kernel_rfl) (by kernel_rfl) (fun _ _ _ h => h) List.mem_cons_self (by rfl) (exec_load _ _ rfl tb 0 rfl _ _ rfl rfl infoTy) (by assumption) ?_; simp only [Act.put, K.put3])
        (refine wpD_plain 15 (v := ?_) rfl (by kernel_rfl) (by kernel_rfl) (by kernel_rfl) (fun _ _ _ h => h) (by rfl) ?_ (by assumption) ?_; rotate_left; (intro _w; go_simp; try with_reducible rfl); simp only [Act.put, K.put3])
        (refine wpD_take 16 _ rfl (by kernel_rfl) (by kernel_rfl) (by kernel_rfl) (fun _ _ _ h => h) (List.mem_cons_of_mem _ List.mem_cons_self) (by rfl) (v := ?_) ?_ (by assumption) ?_; rotate_left; (intro _w _hw; go_simp; try with_reducible rfl); simp only [Act.put, K.put3])
        (refine wpD_plain 17 (v := ?_) rfl (by kernel_rfl) (by kernel_rfl) (by kernel_rfl) (fun _ _ _ h => h) (by rfl) ?_ (by assumption) ?_; rotate_left; (intro _w; go_simp; try with_reducible rfl); simp only [Act.put, K.put3])
        (refine wpD_plain 18 (v := ?_) rfl (by kernel_rfl) (by kernel_rfl) (by kernel_rfl) (fun _ _ _ h => h) (by rfl) ?_ (by assumption) ?_; rotate_left; (intro _w; go_simp; try with_reducible rfl); simp only [Act.put, K.put3])
        (refine wpD_take 19 _ rfl (by kernel_rfl) (by kernel_rfl) (by kernel_rfl) (fun _ _ _ h => h) (List.mem_cons_of_mem _ (List.mem_cons_of_mem _ List.mem_cons_self)) (by rfl) (exec_load _ _ rfl g (o + i * 6) rfl _ _ rfl rfl infoTy) (by assumption) ?_; simp only [Act.put, K.put3])
        (refine wpD_plain 20 (v := (.bool false)) rfl (by kernel_rfl) (by kernel_rfl) (by kernel_rfl) (fun _ _ _ h => h) (by rfl) ?_ (by assumption) ?_; (intro _w; exact exec_neTy _ _ _ rfl ty ty false (by simp) rfl rfl _w); simp only [Act.put, K.put3])
        (refine wpD_plain 21 (v := ?_) rfl (by kernel_rfl) (by kernel_rfl) (by kernel_rfl) (fun _ _ _ h => h) (by rfl) ?_ (by assumption) ?_; rotate_left; (intro _w; go_simp; try with_reducible rfl); simp only [Act.put, K.put3])
        (refine wpD_plain 22 (v := ?_) rfl (by kernel_rfl) (by kernel_rfl) (by kernel_rfl) (fun _ _ _ h => h) (by rfl) ?_ (by assumption) ?_; rotate_left; (intro _w; go_simp; try with_reducible rfl); simp only [Act.put, K.put3])
        (refine wpD_plain 23 (v := ?_) rfl (by kernel_rfl) (by kernel_rfl) (by kernel_rfl) (fun _ _ _ h => h) (by rfl) ?_ (by assumption) ?_; rotate_left; (intro _w; go_simp; try with_reducible rfl); simp only [Act.put, K.put3])
        (refine wpD_plain 24 (v := ?_) rfl (by kernel_rfl) (by kernel_rfl) (by kernel_rfl) (fun _ _ _ h => h) (by rfl) ?_ (by assumption) ?_; rotate_left; (intro _w; go_simp; try with_reducible rfl); simp only [Act.put, K.put3])
        (refine wpD_plain 25 (v := (.bool false)) rfl (by kernel_rfl) (by kernel_rfl) (by kernel_rfl) (fun _ _ _ h => h) (by rfl) ?_ (by assumption) ?_; (intro _w; go_simp; first | done | simp | (simp; omega)); simp only [Act.put, K.put3])
        (refine wpD_plain 26 (v := ?_) rfl (by kernel_rfl) (by kernel_rfl) (by kernel_rfl) (fun _ _ _ h => h) (by rfl) ?_ (by assumption) ?_; rotate_left; (intro _w; go_simp; try with_reducible rfl); simp only [Act.put, K.put3])
        (refine wpD_skip 27 rfl (by kernel_rfl) (by kernel_rfl) (by kernel_rfl) (fun _ _ _ h => h) (by rfl) (by assumption) ?_; simp only [Act.put, K.put3])
        (refine wpD_skip 28 rfl (by kernel_rfl) (by kernel_rfl) (by kernel_rfl) (fun _ _ _ h => h) (by rfl) (by assumption) ?_; simp only [Act.put, K.put3])
        (refine wpD_skip 29 rfl (by kernel_rfl) (by kernel_rfl) (by kernel_rfl) (fun _ _ _ h => h) (by rfl) (by assumption) ?_; simp only [Act.put, K.put3])
        (refine wpD_plain 30 (v := ?_) rfl (by kernel_rfl) (by kernel_rfl) (by kernel_rfl) (fun _ _ _ h => h) (by rfl) ?_ (by assumption) ?_; rotate_left; (intro _w; go_simp; try with_reducible rfl); simp only [Act.put, K.put3])
        (refine wpD_plain 31 (v := ?_) rfl (by kernel_rfl) (by kernel_rfl) (by kernel_rfl) (fun _ _ _ h => h) (by rfl) ?_ (by assumption) ?_; rotate_left; (intro _w; go_simp; try with_reducible rfl); simp only [Act.put, K.put3])
        clear hold
        refine wpD_done (by kernel_rfl) ?_ _
        go_wp2_with (first
          | ((with_reducible refine K.atO (.binOp .eql 9 _ _ _) ?_); refine wpL_valZ (by rfl) (.bool true) ((exec_eqS _ _ _ rfl [] [] rfl rfl _).trans (by simp)) ?_)
          | fail)
        go_ret
        exact ⟨rfl, HF8.out.drewN _⟩
    
    · obtain rfl : B1 = false := by rw [← HB1.out, hi1]; rfl
      rw [hi4]
      clear hi1 hi4
      rcases hcc with ⟨k, c, hk1, hk2, rfl, hk4, hk5⟩ | ⟨hk1, rfl, hk4⟩
      · obtain ⟨g2, o2, cq2, cs2, e2, -, -, hr2, -, hp2⟩ := HL8.out.get hk2
        rw [HMM.out] at e2
        simp only [Value.slice.injEq, true_and] at e2
        obtain ⟨rfl, rfl⟩ := e2
        obtain ⟨v1, v2, rfl, -, -, hv1, hv2, -⟩ := hp2
        have rc : w8.rangeAt g2 (o2 + k * 5) (clV cl v1 v2) := hr2
        obtain ⟨b1, q1, rfl, -⟩ := hv1.form
        obtain ⟨b2, q2, rfl, -⟩ := hv2.form
        rw [HL1.out, HL2.out] at rc
        have hk0 : (0 : Int) ≤ k := by omega
        have hkM : (k : Int) < M := by omega
        obtain rfl : B2 = true := by rw [← HB2.out, hk1]; rfl
        rw [hk4]
        clear hk1 hk2 hk4 hk5 hr2 hv1 hv2
        go_wp2_with fail
        have hold : Facts.hold [(27, fun w' => w'.rangeAt tb 0 (tyV ty0))] w8.drew := Facts.cons_hold t0 (Facts.nil_hold _)
        refine wpD_region hold (by kernel_rfl) 32 rfl ?_
        (refine wpD_plain 0 (v := ?_) rfl (by kernel_rfl) (by kernel_rfl) (by kernel_rfl) (fun _ _ _ h => h) (by rfl) ?_ (by assumption) ?_; rotate_left; (intro _w; go_simp; try with_reducible rfl); simp only [Act.put, K.put3])
        (refine wpD_plain 1 (v := ?_) rfl (by kernel_rfl) (by kernel_rfl) (by kernel_rfl) (fun _ _ _ h => h) (by rfl) ?_ (by assumption) ?_; rotate_left; (intro _w; go_simp; try with_reducible rfl); simp only [Act.put, K.put3])
        (refine wpD_plain 2 (v := (.bool false)) rfl (by kernel_rfl) (by kernel_rfl) (by kernel_rfl) (fun _ _ _ h => h) (by rfl) ?_ (by assumption) ?_; (intro _w; go_simp; first | done | simp | (simp; omega)); simp only [Act.put, K.put3])
        (refine wpD_plain 3 (v := ?_) rfl (by kernel_rfl) (by kernel_rfl) (by kernel_rfl) (fun _ _ _ h => h) (by rfl) ?_ (by assumption) ?_; rotate_left; (intro _w; go_simp; try with_reducible rfl); simp only [Act.put, K.put3])
        (refine wpD_plain 4 (v := ?_) rfl (by kernel_rfl) (by kernel_rfl) (by kernel_rfl) (fun _ _ _ h => h) (by rfl) ?_ (by assumption) ?_; rotate_left; (intro _w; go_simp; try with_reducible rfl); simp only [Act.put, K.put3])
        (refine wpD_plain 5 (v := ?_) rfl (by kernel_rfl) (by kernel_rfl) (by kernel_rfl) (fun _ _ _ h => h) (by rfl) ?_ (by assumption) ?_; rotate_left; (intro _w; go_simp; try with_reducible rfl); simp only [Act.put, K.put3])
        (refine wpD_plain 6 (v := ?_) rfl (by kernel_rfl) (by kernel_rfl) (by kernel_rfl) (fun _ _ _ h => h) (by rfl) ?_ (by assumption) ?_; rotate_left; (intro _w; go_simp; try with_reducible rfl); simp only [Act.put, K.put3])
        (refine wpD_plain 7 (v := (.bool true)) rfl (by kernel_rfl) (by kernel_rfl) (by kernel_rfl) (fun _ _ _ h => h) (by rfl) ?_ (by assumption) ?_; (intro _w; go_simp; first | done | simp | (simp; omega)); simp only [Act.put, K.put3])
        (refine wpD_plain 8 (v := ?_) rfl (by kernel_rfl) (by kernel_rfl) (by kernel_rfl) (fun _ _ _ h => h) (by rfl) ?_ (by assumption) ?_; rotate_left; (intro _w; go_simp; try with_reducible rfl); simp only [Act.put, K.put3])
        (refine wpD_plain 9 (v := ?_) rfl (by kernel_rfl) (by kernel_rfl) (by kernel_rfl) (fun _ _ _ h => h) (by rfl) ?_ (by assumption) ?_; rotate_left; (intro _w; go_simp; try with_reducible rfl); simp only [Act.put, K.put3])
        (refine wpD_plain 10 (v := ?_) rfl (by kernel_rfl) (by kernel_rfl) (by kernel_rfl) (fun _ _ _ h => h) (by rfl) ?_ (by assumption) ?_; rotate_left; (intro _w; go_simp; try with_reducible rfl); simp only [Act.put, K.put3])
        (refine wpD_plain 11 (v := ?_) rfl (by kernel_rfl) (by kernel_rfl) (by kernel_rfl) (fun _ _ _ h => h) (by rfl) ?_ (by assumption) ?_; rotate_left; (intro _w; go_simp; try with_reducible rfl); simp only [Act.put, K.put3])
        (refine wpD_plain 12 (v := (.bool false)) rfl (by kernel_rfl) (by kernel_rfl) (by kernel_rfl) (fun _ _ _ h => h) (by rfl) ?_ (by assumption) ?_; (intro _w; go_simp; first | done | simp | (simp; omega)); simp only [Act.put, K.put3])
        (refine wpD_plain 13 (v := ?_) rfl (by kernel_rfl) (by kernel_rfl) (by kernel_rfl) (fun _ _ _ h => h) (by rfl) ?_ (by assumption) ?_; rotate_left; (intro _w; go_simp; try with_reducible rfl); simp only [Act.put, K.put3])
        (refine wpD_skip 14 rfl (by kernel_rfl) (by kernel_rfl) (by kernel_rfl) (fun _ _ _ h => h) (by rfl) (by assumption) ?_; simp only [Act.put, K.put3])
        (refine wpD_skip 15 rfl (by kernel_rfl) (by kernel_rfl) (by kernel_rfl) (fun _ _ _ h => h) (by rfl) (by assumption) ?_; simp only [Act.put, K.put3])
        (refine wpD_skip 16 rfl (by kernel_rfl) (by kernel_rfl) (by kernel_rfl) (fun _ _ _ h => h) (by rfl) (by assumption) ?_; simp only [Act.put, K.put3])
        (refine wpD_skip 17 rfl (by kernel_rfl) (by kernel_rfl) (by kernel_rfl) (fun _ _ _ h => h) (by rfl) (by assumption) ?_; simp only [Act.put, K.put3])
        (refine wpD_skip 18 rfl (by kernel_rfl) (by kernel_rfl) (by kernel_rfl) (fun _ _ _ h => h) (by rfl) (by assumption) ?_; simp only [Act.put, K.put3])
        (refine wpD_skip 19 rfl (by kernel_rfl) (by kernel_rfl) (by kernel_rfl) (fun _ _ _ h => h) (by rfl) (by assumption) ?_; simp only [Act.put, K.put3])
        (refine wpD_skip 20 rfl (by kernel_rfl) (by kernel_rfl) (by kernel_rfl) (fun _ _ _ h => h) (by rfl) (by assumption) ?_; simp only [Act.put, K.put3])
        (refine wpD_plain 21 (v := ?_) rfl (by kernel_rfl) (by kernel_rfl) (by kernel_rfl) (fun _ _ _ h => h) (by rfl) ?_ (by assumption) ?_; rotate_left; (intro _w; go_simp; try with_reducible rfl); simp only [Act.put, K.put3])
        (refine wpD_plain 22 (v := ?_) rfl (by kernel_rfl) (by kernel_rfl) (by kernel_rfl) (fun _ _ _ h => h) (by rfl) ?_ (by assumption) ?_; rotate_left; (intro _w; go_simp; try with_reducible rfl); simp only [Act.put, K.put3])
        (refine wpD_plain 23 (v := ?_) rfl (by kernel_rfl) (by kernel_rfl) (by kernel_rfl) (fun _ _ _ h => h) (by rfl) ?_ (by assumption) ?_; rotate_left; (intro _w; go_simp; try with_reducible rfl); simp only [Act.put, K.put3])
        (refine wpD_plain 24 (v := ?_) rfl (by kernel_rfl) (by kernel_rfl) (by kernel_rfl) (fun _ _ _ h => h) (by rfl) ?_ (by assumption) ?_; rotate_left; (intro _w; go_simp; try with_reducible rfl); simp only [Act.put, K.put3])
        (refine wpD_plain 25 (v := (.bool true)) rfl (by kernel_rfl) (by kernel_rfl) (by kernel_rfl) (fun _ _ _ h => h) (by rfl) ?_ (by assumption) ?_; (intro _w; go_simp; first | done | simp | (simp; omega)); simp only [Act.put, K.put3])
        (refine wpD_plain 26 (v := ?_) rfl (by kernel_rfl) (by kernel_rfl) (by kernel_rfl) (fun _ _ _ h => h) (by rfl) ?_ (by assumption) ?_; rotate_left; (intro _w; go_simp; try with_reducible rfl); simp only [Act.put, K.put3])
        (refine wpD_take 27 _ rfl (by kernel_rfl) (by kernel_rfl) (by kernel_rfl) (fun _ _ _ h => h) List.mem_cons_self (by rfl) (exec_load _ _ rfl tb 0 rfl _ _ rfl rfl infoTy) (by assumption) ?_; simp only [Act.put, K.put3])
        (refine wpD_plain 28 (v := (.agg (tyV ty0).toArray)) rfl (by kernel_rfl) (by kernel_rfl) (by kernel_rfl) (fun _ _ _ h => h) (by rfl) ?_ (by assumption) ?_; (intro _w; exact exec_bld _ [] rfl [] rfl _ _ (bty_zero _)); simp only [Act.put, K.put3])
        (refine wpD_plain 29 (v := (.bool false)) rfl (by kernel_rfl) (by kernel_rfl) (by kernel_rfl) (fun _ _ _ h => h) (by rfl) ?_ (by assumption) ?_; (intro _w; exact exec_neTy _ _ _ rfl ty0 ty0 false (by simp) rfl rfl _w); simp only [Act.put, K.put3])
        (refine wpD_plain 30 (v := ?_) rfl (by kernel_rfl) (by kernel_rfl) (by kernel_rfl) (fun _ _ _ h => h) (by rfl) ?_ (by assumption) ?_; rotate_left; (intro _w; go_simp; try with_reducible rfl); simp only [Act.put, K.put3])
        (refine wpD_plain 31 (v := ?_) rfl (by kernel_rfl) (by kernel_rfl) (by kernel_rfl) (fun _ _ _ h => h) (by rfl) ?_ (by assumption) ?_; rotate_left; (intro _w; go_simp; try with_reducible rfl); simp only [Act.put, K.put3])
        clear hold
        refine wpD_done (by kernel_rfl) ?_ _
        have HRC : Hid (w8.rangeAt g2 (o2 + k * 5) (clV cl (.slice b1 l1 q1) (.slice b2 l2 q2))) := hid rc
        clear rc t0 x0
        go_wp2_with (first
          | ((with_reducible refine K.atO (.load 44 _) ?_); refine wpL_load rfl _ _ rfl g2 (o2 + k * 5) rfl (clV cl (.slice b1 l1 q1) (.slice b2 l2 q2)) _ HRC.out rfl rfl infoCl ?_)
          | ((with_reducible refine K.atO (.alloc 44) ?_); refine wpL_alloc rfl _ rfl _ zeroCl _ rfl ?_; intro y8 HY8 GY8 TY8)
          | ((with_reducible refine K.atO (.store 44 _ _) ?_); refine wpL_store rfl _ _ _ rfl w8.heap.size 0 (clV cl (.slice b1 l1 q1) (.slice b2 l2 q2)) rfl rfl 44 _ HY8.out (by simp [clV]) infoCl (oneCl cl rfl rfl) ?_; intro y9 HY9 GY9 TY9; refine Hid.out ?_)
          | fail)
        have f9 : Fr No w8.drew y9 := GY8.out.trans GY9.out (fun k e => .inr (by have e : k = w8.heap.size := e; rw [e]; exact Nat.le_refl _))
        have HF9 : Hid (Fr No w y9) := hid (HF8.out.drew.trans' f9)
        have j0 : y9.cell? ⟨cb, 0, none⟩ = some (.string (sb cl.nm)) := f9.cell (show w8.drew.cell? _ = _ from k0) id
        have j1 : y9.cell? ⟨cb, 1, none⟩ = some (.int .i64 cl.kind) := f9.cell (show w8.drew.cell? _ = _ from k1) id
        have j2 : y9.cell? ⟨cb, 2, none⟩ = some (.string (sb cl.sup)) := f9.cell (show w8.drew.cell? _ = _ from k2) id
        have j3 : y9.cell? ⟨cb, 3, none⟩ = some (.slice a1 l1 p1) := f9.cell (show w8.drew.cell? _ = _ from k3) id
        have j4 : y9.cell? ⟨cb, 4, none⟩ = some (.slice a2 l2 p2) := f9.cell (show w8.drew.cell? _ = _ from k4) id
        obtain ⟨wb, hwb⟩ : ∃ b, w8.heap.size = b := ⟨_, rfl⟩
        have HB9 : Hid (Blk y9 w8.heap.size 44 (clV cl (.slice b1 l1 q1) (.slice b2 l2 q2))) := hid HY9.out
        show Hid _
        rw [hwb] at HB9
        have i0 : y9.cell? ⟨wb, 0, none⟩ = some (.string (sb cl.nm)) := HB9.out.cell 0
        have i1 : y9.cell? ⟨wb, 1, none⟩ = some (.int .i64 cl.kind) := HB9.out.cell 1
        have i2 : y9.cell? ⟨wb, 2, none⟩ = some (.string (sb cl.sup)) := HB9.out.cell 2
        have i3 : y9.cell? ⟨wb, 3, none⟩ = some (.slice b1 l1 q1) := HB9.out.cell 3
        have i4 : y9.cell? ⟨wb, 4, none⟩ = some (.slice b2 l2 q2) := HB9.out.cell 4
        clear k0 k1 k2 k3 k4 f9 HY8 GY8 TY8 HY9 GY9 TY9 HB9
        have hwb2 : w8.drew.heap.size = wb := hwb
        first | rw [hwb] | rw [hwb2]
        clear hwb hwb2
        refine hid ?_
        go_wp2_with (first
          | ((with_reducible refine K.atO (.binOp .eql 9 _ _ _) ?_); refine wpL_valZ (by rfl) (.bool true) ((exec_eqS _ _ _ rfl cl.nm cl.nm rfl rfl _).trans (by simp)) ?_)
          | ((with_reducible refine K.atO (.binOp .eql 9 _ _ _) ?_); refine wpL_valZ (by rfl) (.bool true) ((exec_eqS _ _ _ rfl cl.sup cl.sup rfl rfl _).trans (by simp)) ?_)
          | fail)
        go_ret
        exact ⟨rfl, HF9.out⟩
      · obtain rfl : B2 = false := by rw [← HB2.out, hk1]; rfl
        obtain rfl : l1 = 0 := HL1.out.symm
        obtain rfl : l2 = 0 := HL2.out.symm
        rw [hk4]
        clear hk1 hk4
        go_wp2_with fail
        have hold : Facts.hold [(27, fun w' => w'.rangeAt tb 0 (tyV ty0))] w8.drew := Facts.cons_hold t0 (Facts.nil_hold _)
        refine wpD_region hold (by kernel_rfl) 32 rfl ?_
        (refine wpD_plain 0 (v := ?_) rfl (by kernel_rfl) (by kernel_rfl) (by kernel_rfl) (fun _ _ _ h => h) (by rfl) ?_ (by assumption) ?_; rotate_left; (intro _w; go_simp; try with_reducible rfl); simp only [Act.put, K.put3])
        (refine wpD_plain 1 (v := ?_) rfl (by kernel_rfl) (by kernel_rfl) (by kernel_rfl) (fun _ _ _ h => h) (by rfl) ?_ (by assumption) ?_; rotate_left; (intro _w; go_simp; try with_reducible rfl); simp only [Act.put, K.put3])
        (refine wpD_plain 2 (v := (.bool false)) rfl (by kernel_rfl) (by kernel_rfl) (by kernel_rfl) (fun _ _ _ h => h) (by rfl) ?_ (by assumption) ?_; (intro _w; go_simp; first | done | simp | (simp; omega)); simp only [Act.put, K.put3])
        (refine wpD_plain 3 (v := ?_) rfl (by kernel_rfl) (by kernel_rfl) (by kernel_rfl) (fun _ _ _ h => h) (by rfl) ?_ (by assumption) ?_; rotate_left; (intro _w; go_simp; try with_reducible rfl); simp only [Act.put, K.put3])
        (refine wpD_plain 4 (v := ?_) rfl (by kernel_rfl) (by kernel_rfl) (by kernel_rfl) (fun _ _ _ h => h) (by rfl) ?_ (by assumption) ?_; rotate_left; (intro _w; go_simp; try with_reducible rfl); simp only [Act.put, K.put3])
        (refine wpD_plain 5 (v := ?_) rfl (by kernel_rfl) (by kernel_rfl) (by kernel_rfl) (fun _ _ _ h => h) (by rfl) ?_ (by assumption) ?_; rotate_left; (intro _w; go_simp; try with_reducible rfl); simp only [Act.put, K.put3])
        (refine wpD_plain 6 (v := ?_) rfl (by kernel_rfl) (by kernel_rfl) (by kernel_rfl) (fun _ _ _ h => h) (by rfl) ?_ (by assumption) ?_; rotate_left; (intro _w; go_simp; try with_reducible rfl); simp only [Act.put, K.put3])
        (refine wpD_plain 7 (v := (.bool false)) rfl (by kernel_rfl) (by kernel_rfl) (by kernel_rfl) (fun _ _ _ h => h) (by rfl) ?_ (by assumption) ?_; (intro _w; go_simp; first | done | simp | (simp; omega)); simp only [Act.put, K.put3])
        (refine wpD_plain 8 (v := ?_) rfl (by kernel_rfl) (by kernel_rfl) (by kernel_rfl) (fun _ _ _ h => h) (by rfl) ?_ (by assumption) ?_; rotate_left; (intro _w; go_simp; try with_reducible rfl); simp only [Act.put, K.put3])
        (refine wpD_plain 9 (v := ?_) rfl (by kernel_rfl) (by kernel_rfl) (by kernel_rfl) (fun _ _ _ h => h) (by rfl) ?_ (by assumption) ?_; rotate_left; (intro _w; go_simp; try with_reducible rfl); simp only [Act.put, K.put3])
        (refine wpD_plain 10 (v := ?_) rfl (by kernel_rfl) (by kernel_rfl) (by kernel_rfl) (fun _ _ _ h => h) (by rfl) ?_ (by assumption) ?_; rotate_left; (intro _w; go_simp; try with_reducible rfl); simp only [Act.put, K.put3])
        (refine wpD_plain 11 (v := ?_) rfl (by kernel_rfl) (by kernel_rfl) (by kernel_rfl) (fun _ _ _ h => h) (by rfl) ?_ (by assumption) ?_; rotate_left; (intro _w; go_simp; try with_reducible rfl); simp only [Act.put, K.put3])
        (refine wpD_plain 12 (v := (.bool false)) rfl (by kernel_rfl) (by kernel_rfl) (by kernel_rfl) (fun _ _ _ h => h) (by rfl) ?_ (by assumption) ?_; (intro _w; go_simp; first | done | simp | (simp; omega)); simp only [Act.put, K.put3])
        (refine wpD_plain 13 (v := ?_) rfl (by kernel_rfl) (by kernel_rfl) (by kernel_rfl) (fun _ _ _ h => h) (by rfl) ?_ (by assumption) ?_; rotate_left; (intro _w; go_simp; try with_reducible rfl); simp only [Act.put, K.put3])
        (refine wpD_skip 14 rfl (by kernel_rfl) (by kernel_rfl) (by kernel_rfl) (fun _ _ _ h => h) (by rfl) (by assumption) ?_; simp only [Act.put, K.put3])
        (refine wpD_skip 15 rfl (by kernel_rfl) (by kernel_rfl) (by kernel_rfl) (fun _ _ _ h => h) (by rfl) (by assumption) ?_; simp only [Act.put, K.put3])
        (refine wpD_skip 16 rfl (by kernel_rfl) (by kernel_rfl) (by kernel_rfl) (fun _ _ _ h => h) (by rfl) (by assumption) ?_; simp only [Act.put, K.put3])
        (refine wpD_skip 17 rfl (by kernel_rfl) (by kernel_rfl) (by kernel_rfl) (fun _ _ _ h => h) (by rfl) (by assumption) ?_; simp only [Act.put, K.put3])
        (refine wpD_skip 18 rfl (by kernel_rfl) (by kernel_rfl) (by kernel_rfl) (fun _ _ _ h => h) (by rfl) (by assumption) ?_; simp only [Act.put, K.put3])
        (refine wpD_skip 19 rfl (by kernel_rfl) (by kernel_rfl) (by kernel_rfl) (fun _ _ _ h => h) (by rfl) (by assumption) ?_; simp only [Act.put, K.put3])
        (refine wpD_skip 20 rfl (by kernel_rfl) (by kernel_rfl) (by kernel_rfl) (fun _ _ _ h => h) (by rfl) (by assumption) ?_; simp only [Act.put, K.put3])
        (refine wpD_plain 21 (v := ?_) rfl (by kernel_rfl) (by kernel_rfl) (by kernel_rfl) (fun _ _ _ h => h) (by rfl) ?_ (by assumption) ?_; rotate_left; (intro _w; go_simp; try with_reducible rfl); simp only [Act.put, K.put3])
        (refine wpD_plain 22 (v := ?_) rfl (by kernel_rfl) (by kernel_rfl) (by kernel_rfl) (fun _ _ _ h => h) (by rfl) ?_ (by assumption) ?_; rotate_left; (intro _w; go_simp; try with_reducible rfl); simp only [Act.put, K.put3])
        (refine wpD_plain 23 (v := ?_) rfl (by kernel_rfl) (by kernel_rfl) (by kernel_rfl) (fun _ _ _ h => h) (by rfl) ?_ (by assumption) ?_; rotate_left; (intro _w; go_simp; try with_reducible rfl); simp only [Act.put, K.put3])
        (refine wpD_plain 24 (v := ?_) rfl (by kernel_rfl) (by kernel_rfl) (by kernel_rfl) (fun _ _ _ h => h) (by rfl) ?_ (by assumption) ?_; rotate_left; (intro _w; go_simp; try with_reducible rfl); simp only [Act.put, K.put3])
        (refine wpD_plain 25 (v := (.bool true)) rfl (by kernel_rfl) (by kernel_rfl) (by kernel_rfl) (fun _ _ _ h => h) (by rfl) ?_ (by assumption) ?_; (intro _w; go_simp; first | done | simp | (simp; omega)); simp only [Act.put, K.put3])
        (refine wpD_plain 26 (v := ?_) rfl (by kernel_rfl) (by kernel_rfl) (by kernel_rfl) (fun _ _ _ h => h) (by rfl) ?_ (by assumption) ?_; rotate_left; (intro _w; go_simp; try with_reducible rfl); simp only [Act.put, K.put3])
        (refine wpD_take 27 _ rfl (by kernel_rfl) (by kernel_rfl) (by kernel_rfl) (fun _ _ _ h => h) List.mem_cons_self (by rfl) (exec_load _ _ rfl tb 0 rfl _ _ rfl rfl infoTy) (by assumption) ?_; simp only [Act.put, K.put3])
        (refine wpD_plain 28 (v := (.agg (tyV ty0).toArray)) rfl (by kernel_rfl) (by kernel_rfl) (by kernel_rfl) (fun _ _ _ h => h) (by rfl) ?_ (by assumption) ?_; (intro _w; exact exec_bld _ [] rfl [] rfl _ _ (bty_zero _)); simp only [Act.put, K.put3])
        (refine wpD_plain 29 (v := (.bool false)) rfl (by kernel_rfl) (by kernel_rfl) (by kernel_rfl) (fun _ _ _ h => h) (by rfl) ?_ (by assumption) ?_; (intro _w; exact exec_neTy _ _ _ rfl ty0 ty0 false (by simp) rfl rfl _w); simp only [Act.put, K.put3])
        (refine wpD_plain 30 (v := ?_) rfl (by kernel_rfl) (by kernel_rfl) (by kernel_rfl) (fun _ _ _ h => h) (by rfl) ?_ (by assumption) ?_; rotate_left; (intro _w; go_simp; try with_reducible rfl); simp only [Act.put, K.put3])
        (refine wpD_plain 31 (v := ?_) rfl (by kernel_rfl) (by kernel_rfl) (by kernel_rfl) (fun _ _ _ h => h) (by rfl) ?_ (by assumption) ?_; rotate_left; (intro _w; go_simp; try with_reducible rfl); simp only [Act.put, K.put3])
        clear hold
        refine wpD_done (by kernel_rfl) ?_ _
        go_wp2_with (first
          | ((with_reducible refine K.atO (.binOp .eql 9 _ _ _) ?_); refine wpL_valZ (by rfl) (.bool true) ((exec_eqS _ _ _ rfl [] [] rfl rfl _).trans (by simp)) ?_)
          | fail)
        go_ret
        exact ⟨rfl, HF8.out.drewN _⟩
end Go.Proofs.YtooodoacpdhbfaaGreatDoor.SC
