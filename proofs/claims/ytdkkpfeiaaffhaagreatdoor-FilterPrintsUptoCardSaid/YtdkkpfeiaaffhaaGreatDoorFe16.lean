/-
  Part 16 of the proof: ScY, ScZ, FtA, FtB.
-/
import Derived.Test.YtdkkpfeiaaffhaaGreatDoorFe15
set_option linter.unusedSimpArgs false
set_option linter.unusedVariables false
namespace Go.Proofs.YtdkkpfeiaaffhaaGreatDoor.SC
set_option maxRecDepth 100000
open Go.RowKit K Go.Proofs.YtdkkpfeiaaffhaaGreatDoor.BE Go.Proofs.YtdkkpfeiaaffhaaGreatDoor.DN

theorem rCl_at : ∀ (l seen : List Cl) (tn : List B) (k : Nat) (c : Cl), rCl tn seen l = true → l[k]? = some c → typ c.nm = true ∧ (0 ≤ c.kind ∧ c.kind ≤ 2) ∧ supOk (seen ++ l.take k) c = true ∧ has tn c.must = true ∧ has tn c.may = true
  | [], _, _, k, c, _, h => by simp at h
  | d :: r, seen, tn, 0, c, h, hc => by
    obtain rfl : d = c := by simpa using hc
    simp only [rCl, newN, Bool.and_eq_true, decide_eq_true_eq] at h
    rw [List.take_zero, List.append_nil]
    exact ⟨h.1.1.1.1.1.1, h.1.1.1.1.2, h.1.1.1.2, h.1.1.2, h.1.2⟩
  | d :: r, seen, tn, k + 1, c, h, hc => by
    simp only [rCl, Bool.and_eq_true] at h
    have := rCl_at r (seen ++ [d]) tn k c h.2 (by simpa using hc)
    rwa [List.append_assoc, List.singleton_append, ← List.take_succ_cons] at this
theorem low_nil {n : B} (h : low n = []) : n = [] := List.eq_nil_of_length_eq_zero (by rw [← low_length n, h]; rfl)
theorem fnd_empty {s : Sch} (hk : okS s = true) {n : B} (h : n = []) : s.clAt n = none := by
  subst h
  unfold Sch.clAt fnd
  rw [List.findIdx?_eq_none_iff]
  intro m hm
  obtain ⟨c, hc, rfl⟩ := List.mem_map.1 hm
  obtain ⟨k, hk2⟩ := List.mem_iff_getElem?.1 hc
  have := (rCl_at _ _ _ k c (okS_parts hk).2 hk2).1
  rw [beq_eq_false_iff_ne]
  intro e
  have h0 : low ([] : B) = [] := rfl
  rw [h0] at e
  rw [low_nil e] at this
  cases this
theorem sup_lt {s : Sch} (hk : okS s = true) {k j : Nat} (h : supAt s k = some j) : j < k := by
  unfold supAt at h
  cases hc : s.cls[k]? with
  | none => rw [hc] at h; cases h
  | some c =>
    rw [hc, Option.bind_some] at h
    have hs := (rCl_at _ _ _ k c (okS_parts hk).2 hc).2.2.1
    rw [List.nil_append] at hs
    unfold supOk at hs
    split at hs
    · rename_i he
      rw [fnd_empty hk he] at h
      cases h
    · split at hs
      · cases hs
      · rename_i i hi
        have hlt := fnd_lt hi
        have hki : s.clAt c.sup = some i := by
          unfold Sch.clAt Sch.cn
          have e : s.cls.map (·.nm) = (s.cls.take k).map (·.nm) ++ (s.cls.drop k).map (·.nm) := by rw [← List.map_append, List.take_append_drop]
          unfold fnd at hi ⊢
          rw [e, List.findIdx?_append, hi]
          rfl
        rw [hki] at h
        cases h
        rw [List.length_map, List.length_take] at hlt
        omega
theorem lineF_more {s : Sch} (hk : okS s = true) : ∀ (f g k : Nat), k ≤ f → k ≤ g → lineF s f k = lineF s g k
  | 0, 0, k, _, _ => rfl
  | 0, g + 1, k, h, _ => by
    obtain rfl : k = 0 := by omega
    rw [lineF, lineF]
    cases hs : supAt s 0 with
    | none => rfl
    | some j => have := sup_lt hk hs; omega
  | f + 1, 0, k, _, h => by
    obtain rfl : k = 0 := by omega
    rw [lineF, lineF]
    cases hs : supAt s 0 with
    | none => rfl
    | some j => have := sup_lt hk hs; omega
  | f + 1, g + 1, k, h1, h2 => by
    rw [lineF, lineF]
    cases hs : supAt s k with
    | none => rfl
    | some j =>
      have := sup_lt hk hs
      simp only
      rw [lineF_more hk f g j (by omega) (by omega)]
theorem line_eq {s : Sch} (hk : okS s = true) (k : Nat) : line s k = k :: match supAt s k with | none => [] | some j => line s j := by
  unfold line
  rw [lineF_more hk k (k + 1) k (Nat.le_refl _) (by omega), lineF]
  cases hs : supAt s k with
  | none => rfl
  | some j =>
    have := sup_lt hk hs
    simp only
    rw [lineF_more hk k j j (by omega) (Nat.le_refl _)]
/-- How far a line still goes. -/
def mL (a o : Value) : Nat := match o with | .bool true => (intOf a).toNat + 1 | _ => 0
theorem mL_t (k : Nat) : mL (.int .i64 (k : Int)) (.bool true) = k + 1 := by simp [mL, intOf]
theorem mL_f (a : Value) : mL a (.bool false) = 0 := rfl
set_option maxHeartbeats 16000000 in
theorem addLine_any (X : Nat → Prop) (b r : Nat) (s : Sch) (f0 : Set) (k0 : Nat) (w : World) (h : Sx w X b s) (hX : ∀ k, X k → k < w.heap.size) (hr : X r) (hB : Blk w r 101 (bb f0 20)) (hk : k0 < s.cls.length) :
    Calls Tryz.prog 81 #[.pointer (some ⟨b, 0, none⟩), .pointer (some ⟨r, 0, none⟩), .int .i64 (k0 : Int)] w fun e w' => e = .returned (.tuple #[]) ∧ Blk w' r 101 (bb (puts f0 (line s k0)) 20) ∧ Sx w' X b s ∧ Fr (fun i => i = b ∨ i = r) w w' := by
  have HX := hid h; have HXL := hid hX; have HXR := hid hr; have HB := hid hB; have HK := hid hk
  have HOK := hid h.ok
  have HNE : Hid (¬ r = b) := hid (fun e => h.nx (by rw [← e]; exact hr))
  obtain ⟨R, hR⟩ : ∃ R, puts f0 (line s k0) = R := ⟨_, rfl⟩
  rw [hR]
  have HR := hid hR
  clear h hX hr hB hk hR
  go_enter Tryz.func81, Tryz.ntmps81
  go_wp2_with fail
  go_loopw [2, 6] (fun av ov wr => ∃ (k : Nat) (o : Bool) (f : Set), av = .int .i64 (k : Int) ∧ ov = .bool o ∧ Hid (o = true → k < s.cls.length ∧ puts f (line s k) = R) ∧ Hid (o = false → f = R) ∧ Hid (Blk wr r 101 (bb f 20) ∧ Sx wr X b s ∧ Fr (fun i => i = b ∨ i = r) w wr)) (fun av ov _ => mL av ov)
  case atStart => exact ⟨k0, true, f0, rfl, rfl, hid (fun _ => ⟨HK.out, HR.out⟩), hid (fun e => by cases e), hid ⟨HB.out, HX.out, Fr.refl _ _⟩⟩
  case round =>
    obtain ⟨k, o, f, rfl, rfl, HT, HF, HI⟩ := hrel
    cases o with
    | true =>
      obtain ⟨hkl, hp⟩ := HT.out rfl
      obtain ⟨c, hc⟩ : ∃ c, s.cls[k]? = some c := ⟨_, List.getElem?_eq_getElem hkl⟩
      have hk20 : k < 20 := by have := (okS_b HOK.out).2.2; omega
      have hki : (k : Int) < 20 := by omega
      have hk0 : (0 : Int) ≤ k := by omega
      obtain ⟨vt, vc, d, tm, cm, hSB, -, -, hcl, -, -⟩ := HI.out.2.1
      obtain ⟨g, q, cq, cs, e1, hO, hgl, hrr, -, hpp⟩ := hcl.get hc
      subst e1
      obtain ⟨v1, v2, rfl, -, hz, -⟩ := hpp
      have HZ := hid hz
      obtain ⟨L, hL⟩ : ∃ L, s.cls.length = L := ⟨_, rfl⟩
      have hkL : (k : Int) < (L : Int) := by omega
      have HPP : Hid (puts (put f k) (match supAt s k with | none => [] | some j => line s j) = R) := hid (by rw [← hp, line_eq HOK.out k]; rfl)
      have HSUP : Hid (supAt s k = s.clAt c.sup) := hid (by unfold supAt; rw [hc]; rfl)
      have HHB := hid (show k < (bb f 20).length by rw [bb_length]; exact hk20)
      have HC1 : Hid (∀ w', Fr (fun i => i = r) wr w' → w'.cell? ⟨b, 1, none⟩ = some (.slice (some ⟨g, q, none⟩) L cq) ∧ w'.cell? ⟨g, q + k * 5 + 2, none⟩ = some (.string (sb c.sup))) := hid (fun w' hf => by
        refine ⟨hf.cell (by rw [← hL]; exact hSB.cell 1) (fun e => HNE.out e.symm), hf.cell (hrr 2 _ rfl) (fun e => ?_)⟩
        exact hO.1 (by have e : g = r := e; rw [e]; exact HXR.out))
      clear hkl hp hc hk20 hSB hcl hrr hO hgl hz hL HT HF
      go_wp2_with (first
        | ((with_reducible refine K.atO (.store 4 _ _) ?_); refine wpL_setV rfl _ _ _ rfl r k (.bool true) rfl rfl rfl rfl 101 _ HI.out.1 HHB.out infoBool ?_; intro w2 HB2 HF2 HS2; rw [bb_put] at HB2; refine Hid.out ?_)
        | fail)
      obtain ⟨c1, c2⟩ := HC1.out w2 HF2.out
      have HX2 : Hid (Sx w2 X b s) := hid (HI.out.2.1.fr HF2.out (fun i e => .inl (by have e : i = r := e; rw [e]; exact HXR.out)))
      have HFR2 : Hid (Fr (fun i => i = b ∨ i = r) w w2) := hid (HI.out.2.2.trans' (HF2.out.mono (fun i e => .inr e)))
      have HXL2 : Hid (∀ i, X i → i < w2.heap.size) := hid (fun i hi => Nat.lt_of_lt_of_le (HXL.out i hi) HFR2.out.size)
      clear HC1 HF2 HS2
      refine hid ?_
      go_wp2_with fail
      refine (classAt_any X b s c.sup w2 HX2.out HXL2.out HZ.out).mono ?_
      rintro e w3 ⟨rfl, hs3, f3⟩
      have HS3 := hid hs3.sx
      have HB3 := hid (HB2.out.fr f3 HNE.out)
      have HFR3 : Hid (Fr (fun i => i = b ∨ i = r) w w3) := hid (HFR2.out.trans' (f3.mono (fun i e => .inl e)))
      clear hs3 f3 c1 c2
      cases hca : s.clAt c.sup with
      | none =>
        have HP2 : Hid (put f k = R) := hid (by have h := HPP.out; rw [HSUP.out, hca] at h; exact h)
        rw [atR_none]
        clear hca
        go_wp2_with fail
        refine ⟨⟨0, false, put f k, rfl, rfl, hid (fun e => by cases e), hid (fun _ => HP2.out), hid ⟨HB3.out, HS3.out, HFR3.out⟩⟩, ?_⟩
        show mL _ (.bool false) < mL _ (.bool true)
        rw [mL_f, mL_t]; omega
      | some j =>
        have hj := (clAt_lt HOK.out hca).1
        have hjk : j < k := sup_lt HOK.out (by rw [HSUP.out, hca])
        have HP2 : Hid (j < s.cls.length ∧ puts (put f k) (line s j) = R ∧ j < k) := hid (by have h := HPP.out; rw [HSUP.out, hca] at h; exact ⟨hj, h, hjk⟩)
        rw [atR_some]
        clear hca hj hjk
        go_wp2_with fail
        refine ⟨⟨j, true, put f k, rfl, rfl, hid (fun _ => ⟨HP2.out.1, HP2.out.2.1⟩), hid (fun e => by cases e), hid ⟨HB3.out, HS3.out, HFR3.out⟩⟩, ?_⟩
        show mL _ (.bool true) < mL _ (.bool true)
        have := HP2.out.2.2
        simp only [mL, intOf, Array.getD_eq_getD_getElem?]
        simp
        omega
    | false =>
      have HFR := hid (HF.out rfl)
      go_wp2_with fail
      go_end0
      refine ⟨rfl, ?_, HI.out.2.1, HI.out.2.2⟩
      have := HI.out.1
      rw [HFR.out] at this
      exact this
end Go.Proofs.YtdkkpfeiaaffhaaGreatDoor.SC

namespace Go.Proofs.YtdkkpfeiaaffhaaGreatDoor.SC
set_option maxRecDepth 100000
open Go.RowKit K Go.Proofs.YtdkkpfeiaaffhaaGreatDoor.BE Go.Proofs.YtdkkpfeiaaffhaaGreatDoor.DN

theorem idx_find {α : Type} (X : List α) (q : α → Bool) : (∃ i x, idxI X q = (i : Nat) ∧ X[i]? = some x ∧ X.find? q = some x) ∨ (idxI X q = -1 ∧ X.find? q = none) := by
  unfold idxI
  cases h : X.findIdx? q with
  | none =>
    rw [List.findIdx?_eq_none_iff] at h
    exact .inr ⟨rfl, List.find?_eq_none.2 fun x hx => by rw [h x hx]; decide⟩
  | some i =>
    rw [List.findIdx?_eq_some_iff_getElem] at h
    obtain ⟨hl, e, hb⟩ := h
    obtain ⟨x, hx⟩ : ∃ x, X[i]? = some x := ⟨_, List.getElem?_eq_getElem hl⟩
    have ex : X[i] = x := by rw [List.getElem?_eq_getElem hl] at hx; exact Option.some.inj hx
    rw [ex] at e
    refine .inl ⟨i, x, rfl, hx, ?_⟩
    have e1 : X.find? q = (X.take i ++ X.drop i).find? q := by rw [List.take_append_drop]
    rw [e1, (drop_at hx).1, List.find?_append]
    have : (X.take i).find? q = none := List.find?_eq_none.2 fun y hy => by
      obtain ⟨j, hj, rfl⟩ := List.mem_take_iff_getElem.1 hy
      exact hb j (by omega)
    rw [this, List.find?_cons_of_pos e]
    rfl
set_option maxHeartbeats 8000000 in
theorem isOC_any (X : Nat → Prop) (b p : Nat) (s : Sch) (n : B) (u : Value) (w : World) (hp : Blk w p 27 [.pointer (some ⟨b, 0, none⟩)]) (h : Sx w X b s) (hX : ∀ k, X k → k < w.heap.size) (hz : Sz n) :
    Calls Tryz.prog 79 #[.agg #[.string (sb n), u], .pointer (some ⟨p, 0, none⟩)] w fun e w' => e = .returned (.bool (decide (s.tyAt n = some 0))) ∧ Sx w' X b s ∧ Fr (fun k => k = b) w w' := by
  have HP := hid hp; have HX := hid h; have HXL := hid hX; have HZ := hid hz
  clear hp h hX hz
  go_enter Tryz.func79, Tryz.ntmps79
  go_wp2_with (first
    | ((with_reducible refine K.atO (.box 60 _) ?_); refine wpL_box rfl _ _ rfl _ rfl [.string (sb n), u] rfl ?_; intro w1 HB1 HF1 HS1; refine Hid.out ?_)
    | fail)
  obtain ⟨g, hg⟩ : ∃ g, w.heap.size = g := ⟨_, rfl⟩
  rw [hg] at HB1 ⊢
  clear hg
  have c0 : w1.cell? ⟨g, 0, none⟩ = some (.string (sb n)) := HB1.out.cell 0
  have cp : w1.cell? ⟨p, 0, none⟩ = some (.pointer (some ⟨b, 0, none⟩)) := (HP.out.fr HF1.out id).cell 0
  refine hid ?_
  go_wp2_with fail
  refine (typeAt_any X b s n w1 (HX.out.no HF1.out) (fun k hk => Nat.lt_of_lt_of_le (HXL.out k hk) HF1.out.size) HZ.out).mono ?_
  rintro e w2 ⟨rfl, hs2, f2⟩
  have HS2 := hid hs2; have HF2 : Hid (Fr (fun k => k = b) w w2) := hid (HF1.out.no.trans' f2)
  clear hs2 f2 c0 cp
  cases hat : s.tyAt n with
  | none =>
    have HR : Hid (decide (s.tyAt n = some 0) = false) := hid (by rw [hat]; rfl)
    rw [atR_none]
    clear hat
    go_wp2_with fail
    go_ret
    exact ⟨by rw [HR.out]; rfl, HS2.out.sx, HF2.out⟩
  | some i =>
    have HR : Hid (decide (s.tyAt n = some 0) = decide (i = 0)) := hid (by rw [hat]; exact decide_eq_decide.2 (by simp))
    rw [atR_some]
    clear hat
    by_cases hi : i = 0
    · subst hi
      go_wp2_with fail
      go_ret
      exact ⟨by rw [HR.out]; rfl, HS2.out.sx, HF2.out⟩
    · have hib : ((i : Int) == 0) = false := by rw [beq_eq_false_iff_ne]; omega
      have HI := hid hi
      clear hi
      go_wp2_with fail
      go_ret
      exact ⟨by rw [HR.out, decide_eq_false HI.out]; rfl, HS2.out.sx, HF2.out⟩
theorem Gs.two {w w' : World} {X : Nat → Prop} {b r : Nat} (h : Gs w) (hf : Fr (fun k => k = b ∨ k = r) w w') (hx : GX X) (hb : ¬ X b) (hl : GX (fun k => k < r)) : Gs w' := by
  have h1 : ∀ g, X g → g < r → ¬ (g = b ∨ g = r) := fun g h1 h2 e => e.elim (fun e => hb (by rw [← e]; exact h1)) (fun e => by omega)
  exact h.fr hf (h1 _ hx.1 hl.1) (h1 _ hx.2.1 hl.2.1) (h1 _ hx.2.2 hl.2.2)
set_option maxHeartbeats 16000000 in
theorem classesOf_any {S : Nat → Prop} (X : Nat → Prop) (b : Nat) (s : Sch) (v : Value) (en : Ent) (w : World) (h : Sx w X b s) (hX : ∀ k, X k → k < w.heap.size) (hx : GX X) (hG : Gs w) (he : EnIn S w v en) (hS : ∀ i, S i → i ≠ b) :
    Calls Tryz.prog 44 #[.pointer (some ⟨b, 0, none⟩), v] w fun e w' => e = .returned (.tuple #[.agg (bb (classesOf s en).1 20).toArray, .bool (classesOf s en).2]) ∧ Sx w' X b s ∧ Fr (fun k => k = b) w w' := by
  obtain ⟨p, hp⟩ : ∃ p, w.heap.size = p := ⟨_, rfl⟩
  have HP := hid hp
  have HX := hid h; have HXB := hid hX; have HGX : Hid (GX X) := hid hx
  have HG := hid hG; have HE : Hid (EnIn (fun i => S i ∧ i < p) w v en) := hid (he.mono (fun i hi hlt => ⟨hi, by omega⟩)); have HS : Hid (∀ i, (S i ∧ i < p) → i ≠ b) := hid (fun i hi => hS i hi.1)
  have HGL : Hid (GX (fun k => k < p)) := hid (by rw [← hp]; exact hG.gx)
  have HBP : Hid (b < p) := hid (by have := h.lt; omega)
  have HOK := hid h.ok
  obtain ⟨RR, hRR⟩ : ∃ RR, classesOf s en = RR := ⟨_, rfl⟩
  rw [hRR]
  have HRR := hid hRR
  obtain ⟨a, cp, rfl, hcap, hl⟩ := he.form
  obtain ⟨n, hn⟩ : ∃ n, en.length = n := ⟨_, rfl⟩
  have HNN := hid hn
  rw [hn] at HE hcap hl ⊢
  have hni : (n : Int) ≤ 140737488351232 := by omega
  clear h hX hx hG he hS hp hRR hn hcap hl
  go_enter Tryz.func44, Tryz.ntmps44
  go_wp2_with (first
    | ((with_reducible refine K.atO (.box 27 _) ?_); refine wpL_box rfl _ _ rfl _ rfl [.pointer (some ⟨b, 0, none⟩)] rfl ?_; intro w1 HB1 HF1 HS1)
    | ((with_reducible refine K.atO (.alloc 101) ?_); refine wpL_alloc rfl _ rfl _ zeroCs (bb none_ 20) rfl ?_; intro w2 HB2 HF2 HS2; refine Hid.out ?_)
    | fail)
  rw [HP.out] at HB1 ⊢
  obtain ⟨r, hr⟩ : ∃ r, w1.heap.size = r := ⟨_, rfl⟩
  rw [hr] at HB2 ⊢
  have HPR := hid (show r = p + 1 ∧ w2.heap.size = r + 1 from ⟨by have := HS1.out; have := HP.out; omega, by have := HS2.out; omega⟩)
  have HFw2 : Hid (Fr No w w2) := hid (HF1.out.trans' HF2.out)
  have HBp2 := hid (HB1.out.fr HF2.out id)
  have HX2 : Hid (Sx w2 (Also X r) b s) := hid ((HX.out.also (by have := HPR.out; have := HP.out; omega)).no HFw2.out)
  have HXL2 : Hid (∀ k, Also X r k → k < w2.heap.size) := hid (also_lt HXB.out (by have := HPR.out; omega) HFw2.out.size)
  have HG2 := hid (HG.out.no HFw2.out)
  have HE2 := hid (HE.out.fr HFw2.out (fun _ _ _ e => e))
  have HIX := hid (indexAt 79 [.pointer (some ⟨p, 0, none⟩)] (fun x : Atr => decide (s.tyAt x.1 = some 0)) (fun w x c => AtC (fun i => S i ∧ i < p) w x c ∧ Blk w p 27 [.pointer (some ⟨b, 0, none⟩)]) (fun k => k = b) (fun w' => Sx w' (Also X r) b s ∧ Fr (fun k => k = b) w2 w') (fun i => S i ∧ i < p) _ en w2
    (fun w w' x c h hf => ⟨h.1.fr hf (fun i hi _ e => HS.out i hi e), h.2.fr hf (by show ¬ p = b; have := HBP.out; omega)⟩) (fun i hi _ e => HS.out i hi e) ⟨HX2.out, Fr.refl _ _⟩ (Sl.fr HE2.out (Fr.refl No w2) (fun _ _ _ e => e) (fun x c _ h => ⟨h, HBp2.out⟩)) (fun vs w => by kernel_rfl)
    (fun x _ c wv hpp hi hf => by
      obtain ⟨⟨u, rfl, hz, -⟩, hbp⟩ := hpp
      exact (isOC_any (Also X r) b p s x.1 u wv hbp hi.1 (fun k hk => Nat.lt_of_lt_of_le (HXL2.out k hk) hi.2.size) hz).mono fun e w' ⟨h1, h2, h3⟩ => ⟨h1, ⟨h2, hi.2.trans' h3⟩, h3⟩))
  clear hr HB1 HF1 HS1 HF2 HS2 HX HG
  refine hid ?_
  go_wp2_with fail
  refine HIX.out.mono ?_
  rintro e w3 ⟨rfl, ⟨hs3, -⟩, f3⟩
  have HS3 := hid hs3; have HF3 := hid f3
  have HNXB : Hid (¬ Also X r b) := hid hs3.nx
  have HB3 := hid (HB2.out.fr f3 (by show ¬ r = b; have := HPR.out; have := HBP.out; omega))
  have HBp3 := hid (HBp2.out.fr f3 (by show ¬ p = b; have := HBP.out; omega))
  have HG3 : Hid (Gs w3) := hid (HG2.out.bb f3 HGX.out.also HNXB.out)
  clear HIX HX2 HG2 HBp2 HB2
  have hfin : ∀ w5 w6 : World, Fr (fun k => k = b ∨ k = r) w2 w5 → Fr (fun k => k = r) w5 w6 → Fr (fun k => k = b) w w6 := fun w5 w6 h1 h2 =>
    (HFw2.out.no.trans h1 (fun k e => e.elim .inl (fun e => .inr (by have := HPR.out; have := HP.out; omega)))).trans h2 (fun k e => .inr (by have e : k = r := e; have := HPR.out; have := HP.out; omega))
  have HFIN := hid hfin
  clear hfin
  rcases idx_find en (fun x : Atr => decide (s.tyAt x.1 = some 0)) with ⟨i, at_, hi, hat, hfd⟩ | ⟨hi, hfd⟩
  · rw [hi]
    have hil : i < n := by rw [← HNN.out]; exact (List.getElem?_eq_some_iff.1 hat).1
    have HT0 : Hid (clVals s none_ true (at_.2.drop 0) = RR) := hid (by have h := HRR.out; unfold classesOf at h; rw [hfd] at h; exact h)
    obtain ⟨g, o, cq, cs, e1, hSg, hgl, hrr, -, hpp⟩ := (EnIn.fr HE2.out HF3.out (fun i hi _ e => HS.out i hi e)).get hat
    rw [HNN.out] at e1
    simp only [Value.slice.injEq, true_and] at e1
    obtain ⟨rfl, rfl⟩ := e1
    obtain ⟨u, rfl, hz, hls⟩ := hpp
    obtain ⟨va, vcp, hu, hvc, hvl⟩ := hls.form
    subst hu
    have HLS := hid hls
    obtain ⟨m, hm⟩ : ∃ m, at_.2.length = m := ⟨_, rfl⟩
    have HMM := hid hm
    rw [hm] at HLS hvl hvc hrr
    have c1 : w3.cell? ⟨g, o + i * 2 + 1, none⟩ = some (.slice va m vcp) := hrr 1 _ rfl
    have hmi : (m : Int) ≤ 140737488351232 := by omega
    have hii : (i : Int) < n := by omega
    have hi0 : (0 : Int) ≤ i := by omega
    clear hi hat hfd hrr hSg hgl hz hls hm hvc hvl hil
    go_wp2_with fail
    clear c1
    go_loopw [5, 27] (fun lv iv wr => ∃ (j : Nat) (f : Set) (all : Bool), iv = .int .i64 j ∧ lv = .bool all ∧ j ≤ m ∧ Hid (Blk wr r 101 (bb f 20)) ∧ Hid (clVals s f all (at_.2.drop j) = RR) ∧ Hid (Sx wr (Also X r) b s ∧ Fr (fun k => k = b ∨ k = r) w3 wr)) (fun _ iv _ => m - (intOf iv).toNat)
    case atStart => exact ⟨0, none_, true, rfl, rfl, Nat.zero_le _, HB3, HT0, hid ⟨HS3.out, Fr.refl _ _⟩⟩
    case round =>
      obtain ⟨j, f, all, rfl, rfl, hj, HB, HT, HI⟩ := hrel
      have HGr : Hid (Gs wr) := hid (HG3.out.two HI.out.2 HGX.out.also HNXB.out ⟨Nat.lt_of_lt_of_le HGL.out.1 (by have := HPR.out; omega), Nat.lt_of_lt_of_le HGL.out.2.1 (by have := HPR.out; omega), Nat.lt_of_lt_of_le HGL.out.2.2 (by have := HPR.out; omega)⟩)
      by_cases hlt : j < m
      · obtain ⟨x, hx⟩ : ∃ x, at_.2[j]? = some x := ⟨_, List.getElem?_eq_getElem (by rw [HMM.out]; exact hlt)⟩
        have hlti : (j : Int) < m := by omega
        have hj0 : (0 : Int) ≤ j := by omega
        have HBpr : Hid (Blk wr p 27 [.pointer (some ⟨b, 0, none⟩)]) := hid (HBp3.out.fr HI.out.2 (fun e => e.elim (fun e => by have e : p = b := e; have := HBP.out; omega) (fun e => by have e : p = r := e; have := HPR.out; omega)))
        obtain ⟨g2, o2, cq2, e2, hcx, hzx⟩ := (HLS.out.fr HI.out.2 (fun i hi _ e => e.elim (fun e => HS.out i hi e) (fun e => by have e : i = r := e; have := hi.2; have := HPR.out; omega))).at_ hx
        rw [HMM.out] at e2
        simp only [Value.slice.injEq, true_and] at e2
        obtain ⟨rfl, rfl⟩ := e2
        have HZX := hid hzx
        obtain ⟨hdrop, -⟩ := drop_at hx
        have HT2 : Hid (clVals s (clStep s f all x).1 (clStep s f all x).2 (at_.2.drop (j + 1)) = RR) := hid (by
          have h := HT.out
          rw [hdrop] at h
          exact h)
        have HLT := hid hlt
        have HXLr : Hid (∀ k, Also X r k → k < wr.heap.size) := hid (fun k hk => Nat.lt_of_lt_of_le (HXL2.out k hk) (Nat.le_trans HF3.out.size HI.out.2.size))
        clear hzx hx hdrop HT hj hlt
        go_wp2_with fail
        refine (normOf_any 1 x HZX.out wr HGr.out).mono ?_
        rintro e y4 ⟨⟨y, rfl, hy, hxy⟩, f4⟩
        have HY := hid (show Sz y ∧ ∀ z, normV 1 x = some z → y = z from ⟨hy, hxy⟩)
        have HF4 := hid f4
        have HX4 := hid (HI.out.1.no f4)
        have HB4 := hid (HB.out.fr f4 id)
        have HBp4 := hid (HBpr.out.fr f4 id)
        have HXL4 : Hid (∀ k, Also X r k → k < y4.heap.size) := hid (fun k hk => Nat.lt_of_lt_of_le (HXLr.out k hk) f4.size)
        have cp : y4.cell? ⟨p, 0, none⟩ = some (.pointer (some ⟨b, 0, none⟩)) := HBp4.out.cell 0
        clear hy hxy f4 hcx
        obtain ⟨OK, hOK⟩ : ∃ OK, (normV 1 x).isSome = OK := ⟨_, rfl⟩
        have HO := hid hOK
        rw [hOK]
        clear hOK
        go_wp2_with fail
        refine (classAt_any (Also X r) b s y y4 HX4.out HXL4.out HY.out.1).mono ?_
        rintro e y5 ⟨rfl, hs5, f5⟩
        have HS5 := hid hs5.sx
        have HB5 := hid (HB4.out.fr f5 (by show ¬ r = b; have := HPR.out; have := HBP.out; omega))
        have HBp5 := hid (HBp4.out.fr f5 (by show ¬ p = b; have := HBP.out; omega))
        have HFR5 : Hid (Fr (fun k => k = b ∨ k = r) w3 y5) := hid ((HI.out.2.trans' HF4.out.no).trans' (f5.mono (fun k e => .inl e)))
        have HXL5 : Hid (∀ k, Also X r k → k < y5.heap.size) := hid (fun k hk => Nat.lt_of_lt_of_le (HXL4.out k hk) f5.size)
        clear hs5 f5 cp
        cases OK with
        | false =>
          have HT3 : Hid (clVals s f false (at_.2.drop (j + 1)) = RR) := hid (by
            have h := HT2.out
            have h2 := HO.out
            rw [Option.isSome_eq_false_iff, Option.isNone_iff_eq_none] at h2
            unfold clStep at h
            rw [h2] at h
            exact h)
          unfold atR
          go_wp2_with fail
          refine ⟨⟨j + 1, f, false, by go_num, rfl, HLT.out, HB5, HT3, hid ⟨HS5.out, HFR5.out⟩⟩, ?_⟩
          have := HLT.out
          simp [intOf]; omega
        | true =>
          obtain ⟨z, hz⟩ := Option.isSome_iff_exists.1 HO.out
          obtain rfl : y = z := HY.out.2 z hz
          have HNV := hid hz
          clear hz
          cases hca : s.clAt y with
          | none =>
            have HT3 : Hid (clVals s f false (at_.2.drop (j + 1)) = RR) := hid (by
              have h := HT2.out
              unfold clStep at h
              rw [HNV.out, Option.bind_some, hca] at h
              exact h)
            rw [atR_none]
            clear hca
            go_wp2_with fail
            refine ⟨⟨j + 1, f, false, by go_num, rfl, HLT.out, HB5, HT3, hid ⟨HS5.out, HFR5.out⟩⟩, ?_⟩
            have := HLT.out
            simp [intOf]; omega
          | some k =>
            have HT3 : Hid (clVals s (puts f (line s k)) all (at_.2.drop (j + 1)) = RR) := hid (by
              have h := HT2.out
              unfold clStep at h
              rw [HNV.out, Option.bind_some, hca] at h
              exact h)
            have HK := hid (clAt_lt HOK.out hca).1
            have cp : y5.cell? ⟨p, 0, none⟩ = some (.pointer (some ⟨b, 0, none⟩)) := HBp5.out.cell 0
            rw [atR_some]
            clear hca
            go_wp2_with fail
            refine (addLine_any (Also X r) b r s f k y5 HS5.out HXL5.out (.inr rfl) HB5.out HK.out).mono ?_
            rintro e y6 ⟨rfl, hb6, hs6, f6⟩
            have HB6 := hid hb6; have HS6 := hid hs6
            have HFR6 := hid (HFR5.out.trans' f6)
            clear hb6 hs6 f6 cp
            go_wp2_with fail
            refine ⟨⟨j + 1, _, all, by go_num, rfl, HLT.out, HB6, HT3, hid ⟨HS6.out, HFR6.out⟩⟩, ?_⟩
            have := HLT.out
            simp [intOf]; omega
      · obtain rfl : j = m := by omega
        obtain rfl : RR = (f, all) := by
          have h := HT.out
          rw [← HMM.out, List.drop_length] at h
          exact h.symm
        have c0 : wr.rangeAt r 0 (bb f 20) := HB.out.range 0 _ (by rw [List.drop_zero, List.take_length])
        go_wp2_with (first
          | ((with_reducible refine K.atO (.load 101 _) ?_); refine wpL_load rfl _ _ rfl r 0 rfl (bb f 20) _ c0 rfl rfl (by rw [bb_length]; exact infoCs2) ?_)
          | ((with_reducible refine K.atO (.store 101 _ _) ?_); refine wpL_store rfl _ _ _ rfl r 0 (bb f 20) rfl rfl 101 _ HB.out (by simp) (by rw [bb_length]; exact infoCs2) (bb_one _ _) ?_; intro y5 HB5 HF5 HS5; rw [bb_spl] at HB5)
          | fail)
        refine ret_cell2 rfl _ rfl HB5.out rfl rfl (by rw [bb_length]; exact infoCs2) rfl ?_
        exact ⟨rfl, (HI.out.1.fr HF5.out (fun k hk => .inl (.inr hk))).less (fun _ hk => .inl hk), HFIN.out _ _ ((HF3.out.mono (fun k e => .inl e)).trans' HI.out.2) HF5.out⟩
  · rw [hi]
    obtain rfl : RR = (none_, true) := by have h := HRR.out; unfold classesOf at h; rw [hfd] at h; exact h.symm
    clear hi hfd
    go_wp2_with (first
      | ((with_reducible refine K.atO (.build 101 _) ?_); refine wpL_valZ rfl (.agg (bb none_ 20).toArray) (by kernel_rfl) ?_)
      | ((with_reducible refine K.atO (.store 101 _ _) ?_); refine wpL_store rfl _ _ _ rfl r 0 (bb none_ 20) rfl rfl 101 _ HB3.out (by simp) (by rw [bb_length]; exact infoCs2) (bb_one _ _) ?_; intro y5 HB5 HF5 HS5; rw [bb_spl] at HB5)
      | fail)
    refine ret_cell2 rfl _ rfl HB5.out rfl rfl (by rw [bb_length]; exact infoCs2) rfl ?_
    exact ⟨rfl, (HS3.out.fr HF5.out (fun k hk => .inl (.inr hk))).less (fun _ hk => .inl hk), HFIN.out _ _ (HF3.out.mono (fun k e => .inl e)) HF5.out⟩
end Go.Proofs.YtdkkpfeiaaffhaaGreatDoor.SC

namespace Go.Proofs.YtdkkpfeiaaffhaaGreatDoor.FT
set_option maxRecDepth 100000
open Go.RowKit K Go.Proofs.YtdkkpfeiaaffhaaGreatDoor.BE Go.Proofs.YtdkkpfeiaaffhaaGreatDoor.DN Go.Proofs.YtdkkpfeiaaffhaaGreatDoor.SC

def isNm (s : Sch) (nm : B) (a : Atr) : Bool := match tyN s a.1 with | none => false | some t => decide (t.nm = nm)
theorem attrOf_is (s : Sch) (en : Ent) (nm : B) : attrOf s en nm = en.find? (isNm s nm) := rfl
set_option maxHeartbeats 8000000 in
theorem attr1_any (X : Nat → Prop) (b p q : Nat) (s : Sch) (t : Ty) (a : Atr) (u ve : Value) (lv : Int) (w : World) (hp : Blk w p 113 (sjV b ve lv)) (hq : Blk w q 62 (tyV t)) (h : Tn X b s w) (hz : Sz a.1) (hqb : q ≠ b) :
    Calls Tryz.prog 179 #[.agg #[.string (sb a.1), u], .pointer (some ⟨p, 0, none⟩), .pointer (some ⟨q, 0, none⟩)] w fun e w' => e = .returned (.bool (isNm s t.nm a)) ∧ Sx w' X b s ∧ Fr (fun k => k = b) w w' := by
  obtain ⟨n, hn⟩ : ∃ n, a.1 = n := ⟨_, rfl⟩
  obtain ⟨R, hR⟩ : ∃ R, isNm s t.nm a = R := ⟨_, rfl⟩
  have HR : Hid ((match tyN s n with | none => false | some o => decide (o.nm = t.nm)) = R) := hid (by rw [← hR, ← hn]; rfl)
  rw [hR]
  rw [hn] at hz ⊢
  have HP := hid hp; have HQ := hid hq; have HX := hid h; have HZ := hid hz; have HQB := hid hqb
  clear hp hq h hz hqb hR hn
  go_enter Tryz.func179, Tryz.ntmps179
  go_wp2_with (first
    | ((with_reducible refine K.atO (.box 60 _) ?_); refine wpL_box rfl _ _ rfl _ rfl [.string (sb n), u] rfl ?_; intro w1 HB1 HF1 HS1; refine Hid.out ?_)
    | fail)
  obtain ⟨g, hg⟩ : ∃ g, w.heap.size = g := ⟨_, rfl⟩
  rw [hg] at HB1 ⊢
  have c0 : w1.cell? ⟨g, 0, none⟩ = some (.string (sb n)) := HB1.out.cell 0
  have cp : w1.cell? ⟨p, 0, none⟩ = some (.pointer (some ⟨b, 0, none⟩)) := (HP.out.fr HF1.out id).cell 0
  have HX1 := hid (HX.out.no HF1.out)
  clear hg HS1
  refine hid ?_
  go_wp2_with fail
  refine (type_any X b s n w1 HX1.out.1 HX1.out.2.1 HZ.out).mono ?_
  rintro e w2 ⟨rfl, hs2, f2⟩
  have HS2 := hid hs2.sx
  have HF2 : Hid (Fr (fun k => k = b) w w2) := hid (HF1.out.no.trans' f2)
  clear hs2 f2 c0 cp
  cases hat : s.tyAt n with
  | none =>
    have HRN : Hid (false = R) := hid (by rw [← HR.out, tyN_none hat])
    have e1 : (none : Option Nat).isSome = false := rfl
    rw [e1]
    clear hat e1
    go_wp2_with (first
      | ((with_reducible refine K.atO (.alloc 62) ?_); refine wpL_alloc rfl _ rfl _ zeroTy _ rfl ?_; intro w3 HB3 HF3 HS3)
      | ((with_reducible refine K.atO (.store 62 _ _) ?_); refine wpL_store rfl _ _ _ rfl w2.heap.size 0 (tyV (tyOf s n)) rfl rfl 62 _ HB3.out (by simp [tyV]) infoTy (oneTy _) ?_; intro w4 HB4 HF4 HS4)
      | fail)
    go_ret
    have hf4 : Fr No w2 w4 := HF3.out.trans HF4.out (fun k e => .inr (by have e : k = w2.heap.size := e; omega))
    exact ⟨by rw [← HRN.out]; rfl, HS2.out.no hf4, HF2.out.trans' hf4.no⟩
  | some i =>
    have HRN : Hid (decide ((tyOf s n).nm = t.nm) = R) := hid (by rw [← HR.out, tyN_at hat])
    have e1 : (some i).isSome = true := rfl
    rw [e1]
    clear hat e1
    go_wp2_with (first
      | ((with_reducible refine K.atO (.alloc 62) ?_); refine wpL_alloc rfl _ rfl _ zeroTy _ rfl ?_; intro w3 HB3 HF3 HS3)
      | ((with_reducible refine K.atO (.store 62 _ _) ?_); refine wpL_store rfl _ _ _ rfl w2.heap.size 0 (tyV (tyOf s n)) rfl rfl 62 _ HB3.out (by simp [tyV]) infoTy (oneTy _) ?_; intro w4 HB4 HF4 HS4; refine Hid.out ?_)
      | fail)
    have HF4' : Hid (Fr No w2 w4) := hid (HF3.out.trans HF4.out (fun k e => .inr (by have e : k = w2.heap.size := e; omega)))
    have HB4' : Hid (Blk w4 w2.heap.size 62 (tyV (tyOf s n))) := hid HB4.out
    obtain ⟨r, hr⟩ : ∃ r, w2.heap.size = r := ⟨_, rfl⟩
    rw [hr] at HB4' ⊢
    have c1 : w4.cell? ⟨r, 0, none⟩ = some (.string (sb (tyOf s n).nm)) := HB4'.out.cell 0
    have c2 : w4.cell? ⟨q, 0, none⟩ = some (.string (sb t.nm)) := (HQ.out.fr (HF2.out.trans' HF4'.out.no) HQB.out).cell 0
    clear hr HB3 HF3 HS3 HB4 HF4 HS4
    refine hid ?_
    go_wp2_with (first
      | ((with_reducible refine K.atO (.binOp .eql 9 _ _ _) ?_); refine wpL_valZ rfl (.bool R) (by rw [← HRN.out]; exact exec_eqS _ _ _ rfl (tyOf s n).nm t.nm rfl rfl _) ?_)
      | fail)
    go_ret
    exact ⟨rfl, HS2.out.no HF4'.out, HF2.out.trans' HF4'.out.no⟩
/-! ### attr -/
/-- An attribute that was looked for, as cells. -/
def AtO (S : Nat → Prop) (w : World) : Option Atr → List Value → Prop
  | none, cs => cs = [.string (sb []), .slice none 0 0]
  | some a, cs => AtC S w a cs
theorem AtO.fr {S D : Nat → Prop} {w w' : World} {o : Option Atr} {cs : List Value} (h : AtO S w o cs) (hf : Fr D w w') (hd : ∀ i, S i → i < w.heap.size → ¬ D i) : AtO S w' o cs := by
  cases o with
  | none => exact h
  | some a => exact AtC.fr h hf hd
theorem AtO.form {S : Nat → Prop} {w : World} {o : Option Atr} {cs : List Value} (h : AtO S w o cs) : ∃ x u, cs = [.string (sb x), u] ∧ Sz x ∧ LsIn S w u ((o.map (·.2)).getD []) := by
  cases o with
  | none =>
    obtain rfl := h
    exact ⟨[], .slice none 0 0, rfl, by unfold Sz; decide, none, 0, rfl, Nat.le_refl _, by simp, .inl rfl⟩
  | some a =>
    obtain ⟨v, rfl, hz, hl⟩ := h
    exact ⟨a.1, v, rfl, hz, hl⟩
theorem AtO.one {S : Nat → Prop} {w : World} {o : Option Atr} {cs : List Value} (h : AtO S w o cs) : cs.length = 2 ∧ ∀ v ∈ cs, v.oneCell' = true := by
  obtain ⟨x, u, rfl, -, hl⟩ := h.form
  obtain ⟨a, c, rfl, -, -⟩ := hl.form
  exact ⟨rfl, by simp [Value.oneCell']⟩
set_option maxHeartbeats 16000000 in
theorem attr_any {S : Nat → Prop} (X : Nat → Prop) (b : Nat) (s : Sch) (ve : Value) (en : Ent) (lv : Int) (t : Ty) (w : World) (h : Tn X b s w) (he : EnIn S w ve en) (hS : ∀ i, S i → i ≠ b) :
    Calls Tryz.prog 140 #[.agg (sjV b ve lv).toArray, .agg (tyV t).toArray] w fun e w' => (∃ cs, e = .returned (.tuple #[.agg cs.toArray, .bool (attrOf s en t.nm).isSome]) ∧ AtO S w' (attrOf s en t.nm) cs) ∧ Sx w' X b s ∧ Fr (fun k => k = b) w w' := by
  obtain ⟨p, hp⟩ : ∃ p, w.heap.size = p := ⟨_, rfl⟩
  have HP := hid hp
  have HX := hid h; have HS := hid hS
  have HE : Hid (EnIn (fun i => S i ∧ i < p) w ve en) := hid (he.mono (fun i hi hlt => ⟨hi, by omega⟩))
  have HBP : Hid (b < p) := hid (by have := h.lt; omega)
  obtain ⟨a, cp, rfl, hcap, hl⟩ := he.form
  obtain ⟨n, hn⟩ : ∃ n, en.length = n := ⟨_, rfl⟩
  have HNN := hid hn
  rw [hn] at HE hcap hl ⊢
  obtain ⟨RA, hRA⟩ : ∃ RA, attrOf s en t.nm = RA := ⟨_, rfl⟩
  have HRA := hid hRA
  rw [hRA]
  have hni : (n : Int) ≤ 140737488351232 := by omega
  clear h he hS hp hn hcap hl hRA
  go_enter Tryz.func140, Tryz.ntmps140
  go_wp2_with (first
    | ((with_reducible refine K.atO (.box 113 _) ?_); refine wpL_box rfl _ _ rfl _ rfl (sjV b (.slice a n cp) lv) rfl ?_; intro w1 HB1 HF1 HS1)
    | ((with_reducible refine K.atO (.box 62 _) ?_); refine wpL_box rfl _ _ rfl _ rfl (tyV t) rfl ?_; intro w2 HB2 HF2 HS2)
    | ((with_reducible refine K.atO (.alloc 60) ?_); refine wpL_alloc rfl _ rfl _ zeroAt _ rfl ?_; intro w3 HB3 HF3 HS3; refine Hid.out ?_)
    | fail)
  rw [HP.out] at HB1 ⊢
  obtain ⟨q, hq⟩ : ∃ q, w1.heap.size = q := ⟨_, rfl⟩
  rw [hq] at HB2 ⊢
  obtain ⟨r, hr⟩ : ∃ r, w2.heap.size = r := ⟨_, rfl⟩
  rw [hr] at HB3 ⊢
  have HN3 := hid (show q = p + 1 ∧ r = p + 2 ∧ w3.heap.size = p + 3 from ⟨by have := HS1.out; have := HP.out; omega, by have := HS1.out; have := HS2.out; have := HP.out; omega, by have := HS1.out; have := HS2.out; have := HS3.out; have := HP.out; omega⟩)
  have HF3' : Hid (Fr No w w3) := hid ((HF1.out.trans' HF2.out).trans' HF3.out)
  have HBp := hid ((HB1.out.fr HF2.out id).fr HF3.out id)
  have HBq := hid (HB2.out.fr HF3.out id)
  have HBr := hid HB3.out
  have HX3 : Hid (Tn (Also X r) b s w3) := hid (HX.out.also (by have := HN3.out; have := HP.out; omega) HF3'.out (by have := HN3.out; omega))
  have HE3 := hid (HE.out.fr HF3'.out (fun _ _ _ e => e))
  have cl : w3.cell? ⟨p, 1, none⟩ = some (.slice a n cp) := HBp.out.cell 1
  have HIX := hid (indexAt 179 [.pointer (some ⟨p, 0, none⟩), .pointer (some ⟨q, 0, none⟩)] (isNm s t.nm) (fun w x c => AtC (fun i => S i ∧ i < p) w x c ∧ Blk w p 113 (sjV b (.slice a n cp) lv) ∧ Blk w q 62 (tyV t)) (fun k => k = b) (fun w' => Tn (Also X r) b s w') (fun i => S i ∧ i < p) _ en w3
    (fun w w' x c h hf => ⟨h.1.fr hf (fun i hi _ e => HS.out i hi.1 e), h.2.1.fr hf (by show ¬ p = b; have := HBP.out; omega), h.2.2.fr hf (by show ¬ q = b; have := HBP.out; have := HN3.out; omega)⟩) (fun i hi _ e => HS.out i hi.1 e) HX3.out (Sl.fr HE3.out (Fr.refl No w3) (fun _ _ _ e => e) (fun x c _ h => ⟨h, HBp.out, HBq.out⟩)) (fun vs w => by kernel_rfl)
    (fun x _ c wv hpp hi hf => by
      obtain ⟨⟨u, rfl, hz, -⟩, hbp, hbq⟩ := hpp
      exact (attr1_any (Also X r) b p q s t x u _ lv wv hbp hbq hi hz (by have := HBP.out; have := HN3.out; omega)).mono fun e w' ⟨h1, h2, h3⟩ => ⟨h1, hi.step h2 h3, h3⟩))
  clear hq hr HB1 HF1 HS1 HB2 HF2 HS2 HB3 HF3 HS3 HX
  refine hid ?_
  go_wp2_with fail
  refine HIX.out.mono ?_
  rintro e w4 ⟨rfl, hs4, f4⟩
  have HS4 := hid hs4.1; have HF4 := hid f4
  have HBr4 := hid (HBr.out.fr f4 (by show ¬ r = b; have := HN3.out; have := HBP.out; omega))
  have cl4 : w4.cell? ⟨p, 1, none⟩ = some (.slice a n cp) := (HBp.out.fr f4 (by show ¬ p = b; have := HBP.out; omega)).cell 1
  clear HIX HX3 HBr cl hs4 f4
  have hfin : ∀ w5 : World, Fr (fun k => k = r) w4 w5 → Fr (fun k => k = b) w w5 := fun w5 h1 =>
    (HF3'.out.no.trans' HF4.out).trans h1 (fun k e => .inr (by have e : k = r := e; have := HN3.out; have := HP.out; omega))
  have HFIN := hid hfin
  clear hfin
  rcases idx_find en (isNm s t.nm) with ⟨i, at_, hi, hat, hfd⟩ | ⟨hi, hfd⟩
  · rw [hi]
    have hil : i < n := by rw [← HNN.out]; exact (List.getElem?_eq_some_iff.1 hat).1
    have HRS : Hid (RA = some at_) := hid (by rw [← HRA.out, attrOf_is, hfd])
    obtain ⟨g, o, cq, cs, e1, hSg, hgl, hrr, hcl, hpp⟩ := (EnIn.fr HE3.out HF4.out (fun i hi _ e => HS.out i hi.1 e)).get hat
    rw [HNN.out] at e1
    simp only [Value.slice.injEq, true_and] at e1
    obtain ⟨rfl, rfl⟩ := e1
    obtain ⟨u, rfl, hz, hls⟩ := hpp
    obtain ⟨va, vcp, hu, hvc, hvl⟩ := hls.form
    have hone : ∀ v ∈ [(Value.string (sb at_.1)), u], v.oneCell' = true := by rw [hu]; simp [Value.oneCell']
    have HONE := hid hone
    have HLS := hid hls; have HZ := hid hz; have HRR := hid hrr
    have hili : (i : Int) < n := by omega
    have hi0 : (0 : Int) ≤ i := by omega
    have hneg : ¬ ((i : Int) < 0) := by omega
    clear hi hat hfd hil hSg hgl hrr hcl hz hls hu hvc hvl hone
    go_wp2_with (first
      | ((with_reducible refine K.atO (.load 60 _) ?_); refine wpL_load rfl _ _ rfl g (o + i * 2) rfl [.string (sb at_.1), u] _ HRR.out rfl rfl infoAt ?_)
      | ((with_reducible refine K.atO (.store 60 _ _) ?_); refine wpL_store rfl _ _ _ rfl r 0 [.string (sb at_.1), u] rfl rfl 60 _ HBr4.out (by simp) infoAt HONE.out ?_; intro w5 HB5 HF5 HS5)
      | fail)
    have HB5' : Hid (Blk w5 r 60 [.string (sb at_.1), u]) := hid HB5.out
    refine ret_cell2 rfl _ rfl HB5'.out rfl rfl infoAt rfl ?_
    refine ⟨⟨[.string (sb at_.1), u], by rw [HRS.out]; rfl, ?_⟩, Sx.back (Sx.set HS4.out HF5.out), HFIN.out w5 HF5.out⟩
    rw [HRS.out]
    exact ⟨u, rfl, HZ.out, (HLS.out.fr HF5.out (fun i hi _ e => by have e : i = r := e; have := hi.2; have := HN3.out; omega)).mono (fun i hi _ => hi.1)⟩
  · rw [hi]
    have HRS : Hid (RA = none) := hid (by rw [← HRA.out, attrOf_is, hfd])
    clear hi hfd
    go_wp2_with (first
      | ((with_reducible refine K.atO (.build 60 _) ?_); refine wpL_valZ rfl (.agg #[.string (sb []), .slice none 0 0]) (by kernel_rfl) ?_)
      | ((with_reducible refine K.atO (.store 60 _ _) ?_); refine wpL_store rfl _ _ _ rfl r 0 [.string (sb []), .slice none 0 0] rfl rfl 60 _ HBr4.out (by simp) infoAt (by simp [Value.oneCell']) ?_; intro w5 HB5 HF5 HS5)
      | fail)
    have HB5' : Hid (Blk w5 r 60 [.string (sb []), .slice none 0 0]) := hid HB5.out
    refine ret_cell2 rfl _ rfl HB5'.out rfl rfl infoAt rfl ?_
    exact ⟨⟨_, by rw [HRS.out]; rfl, by rw [HRS.out]; rfl⟩, Sx.back (Sx.set HS4.out HF5.out), HFIN.out w5 HF5.out⟩
end Go.Proofs.YtdkkpfeiaaffhaaGreatDoor.FT

namespace Go.Proofs.YtdkkpfeiaaffhaaGreatDoor.FT
set_option maxRecDepth 100000
open Go.RowKit K Go.Proofs.YtdkkpfeiaaffhaaGreatDoor.BE Go.Proofs.YtdkkpfeiaaffhaaGreatDoor.DN Go.Proofs.YtdkkpfeiaaffhaaGreatDoor.SC

set_option maxHeartbeats 8000000 in
theorem evalPresent_any {S : Nat → Prop} (X : Nat → Prop) (b : Nat) (s : Sch) (ve : Value) (en : Ent) (lv : Int) (n : B) (w : World) (h : Tn X b s w) (he : EnIn S w ve en) (hS : ∀ i, S i → i ≠ b) (hz : Sz n) :
    Calls Tryz.prog 93 #[.agg (sjV b ve lv).toArray, .string (sb n)] w fun e w' => e = .returned (.int .i64 (evPres s en n)) ∧ Sx w' X b s ∧ Fr (fun k => k = b) w w' := by
  have HX := hid h; have HE := hid he; have HS := hid hS; have HZ := hid hz
  obtain ⟨R, hR⟩ : ∃ R, evPres s en n = R := ⟨_, rfl⟩
  have HR := hid hR
  rw [hR]
  have HBW := hid h.lt
  obtain ⟨ea, ec, rfl, -, -⟩ := he.form
  clear h he hS hz hR
  go_enter Tryz.func93, Tryz.ntmps93
  go_wp2_with (first
    | ((with_reducible refine K.atO (.box 113 _) ?_); refine wpL_box rfl _ _ rfl _ rfl (sjV b (.slice ea en.length ec) lv) rfl ?_; intro w1 HB1 HF1 HS1; refine Hid.out ?_)
    | fail)
  obtain ⟨p, hp⟩ : ∃ p, w.heap.size = p := ⟨_, rfl⟩
  rw [hp] at HB1 ⊢
  have HPB : Hid (¬ p = b) := hid (by have := HBW.out; omega)
  have c0 : w1.cell? ⟨p, 0, none⟩ = some (.pointer (some ⟨b, 0, none⟩)) := HB1.out.cell 0
  have HX1 := hid (HX.out.no HF1.out)
  have HE1 := hid (HE.out.fr HF1.out (fun _ _ _ e => e))
  clear hp HS1
  refine hid ?_
  go_wp2_with fail
  refine (type_any X b s n w1 HX1.out.1 HX1.out.2.1 HZ.out).mono ?_
  rintro e w2 ⟨rfl, hs2, f2⟩
  have HX2 := hid (HX1.out.step hs2.sx f2)
  have HE2 := hid (HE1.out.fr f2 (fun i hi _ e => HS.out i hi e))
  have HB2 := hid (HB1.out.fr f2 HPB.out)
  have HF2 : Hid (Fr (fun k => k = b) w w2) := hid (HF1.out.no.trans' f2)
  clear hs2 f2 c0 HB1
  cases hat : s.tyAt n with
  | none =>
    have HRN : Hid (2 = R) := hid (by rw [← HR.out]; unfold evPres; rw [tyN_none hat])
    have e1 : (none : Option Nat).isSome = false := rfl
    rw [e1]
    clear hat e1
    go_wp2_with (first
      | ((with_reducible refine K.atO (.alloc 62) ?_); refine wpL_alloc rfl _ rfl _ zeroTy _ rfl ?_; intro w3 HB3 HF3 HS3)
      | ((with_reducible refine K.atO (.store 62 _ _) ?_); refine wpL_store rfl _ _ _ rfl w2.heap.size 0 (tyV (tyOf s n)) rfl rfl 62 _ HB3.out (by simp [tyV]) infoTy (oneTy _) ?_; intro w4 HB4 HF4 HS4)
      | fail)
    go_ret
    have hf4 : Fr No w2 w4 := HF3.out.trans HF4.out (fun k e => .inr (by have e : k = w2.heap.size := e; omega))
    exact ⟨by rw [← HRN.out]; rfl, HX2.out.1.no hf4, HF2.out.trans' hf4.no⟩
  | some i =>
    have HRN : Hid (truI (attrOf s en (tyOf s n).nm).isSome = R) := hid (by rw [← HR.out]; unfold evPres; rw [tyN_at hat])
    have e1 : (some i).isSome = true := rfl
    rw [e1]
    clear hat e1
    go_wp2_with (first
      | ((with_reducible refine K.atO (.alloc 62) ?_); refine wpL_alloc rfl _ rfl _ zeroTy _ rfl ?_; intro w3 HB3 HF3 HS3)
      | ((with_reducible refine K.atO (.store 62 _ _) ?_); refine wpL_store rfl _ _ _ rfl w2.heap.size 0 (tyV (tyOf s n)) rfl rfl 62 _ HB3.out (by simp [tyV]) infoTy (oneTy _) ?_; intro w4 HB4 HF4 HS4; refine Hid.out ?_)
      | fail)
    have HF4' : Hid (Fr No w2 w4) := hid (HF3.out.trans HF4.out (fun k e => .inr (by have e : k = w2.heap.size := e; omega)))
    have HB4' : Hid (Blk w4 w2.heap.size 62 (tyV (tyOf s n))) := hid HB4.out
    obtain ⟨r, hr⟩ : ∃ r, w2.heap.size = r := ⟨_, rfl⟩
    rw [hr] at HB4' ⊢
    have HBp4 := hid (HB2.out.fr HF4'.out id)
    have HX4 := hid (HX2.out.no HF4'.out)
    have HE4 := hid (HE2.out.fr HF4'.out (fun _ _ _ e => e))
    clear hr HB3 HF3 HS3 HB4 HF4 HS4
    refine hid ?_
    go_wp2_with (first
      | ((with_reducible refine K.atO (.load 113 _) ?_); refine wpL_load rfl _ _ rfl p 0 rfl (sjV b (.slice ea en.length ec) lv) _ (HBp4.out.range 0 _ rfl) rfl rfl infoSj ?_)
      | ((with_reducible refine K.atO (.load 62 _) ?_); refine wpL_load rfl _ _ rfl r 0 rfl (tyV (tyOf s n)) _ (HB4'.out.range 0 _ rfl) rfl rfl infoTy ?_)
      | fail)
    refine (attr_any X b s _ en lv (tyOf s n) w4 HX4.out HE4.out HS.out).mono ?_
    rintro e w5 ⟨⟨cs, rfl, -⟩, hs5, f5⟩
    have HS5 := hid hs5
    have HF5 := hid (HF2.out.trans' (HF4'.out.no.trans' f5))
    clear hs5 f5
    go_wp2_with fail
    refine (truth_any _ w5).mono ?_
    rintro e w6 ⟨rfl, rfl⟩
    rw [HRN.out]
    go_wp2_with fail
    go_ret
    exact ⟨rfl, HS5.out, HF5.out⟩
set_option maxHeartbeats 16000000 in
theorem evalValues_any {S : Nat → Prop} (f : FuncId) (cap : List Value) (q : B → Bool) (X : Nat → Prop) (b : Nat) (s : Sch) (ve : Value) (en : Ent) (lv : Int) (n : B) (t : Ty) (w : World) (h : Tn X b s w) (he : EnIn S w ve en) (hS : ∀ i, S i → i ≠ b) (hz : Sz n) (ht : tyN s n = some t)
    (hent : ∀ (vs : Array Value) (w : World), (callFunc f vs).run Tryz.prog w = .ok (.enter f vs) w)
    (hf : ∀ v ∈ valsOf s en n, Sz v → ∀ wv, Tn X b s wv → Fr (fun k => k = b) w wv → Calls Tryz.prog f (Value.string (sb v) :: cap).toArray wv fun e w' => e = .returned (.bool (q v)) ∧ Sx w' X b s ∧ Fr (fun k => k = b) wv w') :
    Calls Tryz.prog 133 #[.agg (sjV b ve lv).toArray, .string (sb n), .func (.func f) #[] cap.toArray] w fun e w' => e = .returned (.int .i64 (truI ((valsOf s en n).any q))) ∧ Sx w' X b s ∧ Fr (fun k => k = b) w w' := by
  have HX := hid h; have HE := hid he; have HS := hid hS; have HZ := hid hz; have HEN := hid hent; have HFF := hid hf
  obtain ⟨i, hi, -⟩ := tyN_some ht
  have ht2 := tyN_at hi
  have HV : Hid (valsOf s en n = ((attrOf s en (tyOf s n).nm).map (·.2)).getD []) := hid (by
    unfold valsOf
    rw [ht2]
    simp only
    cases attrOf s en (tyOf s n).nm <;> rfl)
  have HAT := hid hi
  obtain ⟨R, hR⟩ : ∃ R, (valsOf s en n).any q = R := ⟨_, rfl⟩
  have HR := hid hR
  rw [hR]
  have HBW := hid h.lt
  obtain ⟨ea, ec, rfl, -, -⟩ := he.form
  clear h he hS hz hR hent hf hi ht ht2
  go_enter Tryz.func133, Tryz.ntmps133
  go_wp2_with (first
    | ((with_reducible refine K.atO (.box 113 _) ?_); refine wpL_box rfl _ _ rfl _ rfl (sjV b (.slice ea en.length ec) lv) rfl ?_; intro w1 HB1 HF1 HS1; refine Hid.out ?_)
    | fail)
  obtain ⟨p, hp⟩ : ∃ p, w.heap.size = p := ⟨_, rfl⟩
  rw [hp] at HB1 ⊢
  have HPB : Hid (¬ p = b) := hid (by have := HBW.out; omega)
  have c0 : w1.cell? ⟨p, 0, none⟩ = some (.pointer (some ⟨b, 0, none⟩)) := HB1.out.cell 0
  have HX1 := hid (HX.out.no HF1.out)
  have HE1 := hid (HE.out.fr HF1.out (fun _ _ _ e => e))
  clear hp HS1
  refine hid ?_
  go_wp2_with fail
  refine (type_any X b s n w1 HX1.out.1 HX1.out.2.1 HZ.out).mono ?_
  rintro e w2 ⟨rfl, hs2, f2⟩
  have HX2 := hid (HX1.out.step hs2.sx f2)
  have HE2 := hid (HE1.out.fr f2 (fun i hi _ e => HS.out i hi e))
  have HB2 := hid (HB1.out.fr f2 HPB.out)
  have HF2 : Hid (Fr (fun k => k = b) w w2) := hid (HF1.out.no.trans' f2)
  have e1 : (s.tyAt n).isSome = true := by rw [HAT.out]; rfl
  rw [e1]
  clear hs2 f2 c0 HB1 e1
  go_wp2_with (first
    | ((with_reducible refine K.atO (.alloc 62) ?_); refine wpL_alloc rfl _ rfl _ zeroTy _ rfl ?_; intro w3 HB3 HF3 HS3)
    | ((with_reducible refine K.atO (.store 62 _ _) ?_); refine wpL_store rfl _ _ _ rfl w2.heap.size 0 (tyV (tyOf s n)) rfl rfl 62 _ HB3.out (by simp [tyV]) infoTy (oneTy _) ?_; intro w4 HB4 HF4 HS4; refine Hid.out ?_)
    | fail)
  have HF4' : Hid (Fr No w2 w4) := hid (HF3.out.trans HF4.out (fun k e => .inr (by have e : k = w2.heap.size := e; omega)))
  have HB4' : Hid (Blk w4 w2.heap.size 62 (tyV (tyOf s n))) := hid HB4.out
  obtain ⟨r, hr⟩ : ∃ r, w2.heap.size = r := ⟨_, rfl⟩
  rw [hr] at HB4' ⊢
  have HBp4 := hid (HB2.out.fr HF4'.out id)
  have HX4 := hid (HX2.out.no HF4'.out)
  have HE4 := hid (HE2.out.fr HF4'.out (fun _ _ _ e => e))
  clear hr HB3 HF3 HS3 HB4 HF4 HS4
  refine hid ?_
  go_wp2_with (first
    | ((with_reducible refine K.atO (.load 113 _) ?_); refine wpL_load rfl _ _ rfl p 0 rfl (sjV b (.slice ea en.length ec) lv) _ (HBp4.out.range 0 _ rfl) rfl rfl infoSj ?_)
    | ((with_reducible refine K.atO (.load 62 _) ?_); refine wpL_load rfl _ _ rfl r 0 rfl (tyV (tyOf s n)) _ (HB4'.out.range 0 _ rfl) rfl rfl infoTy ?_)
    | fail)
  refine (attr_any X b s _ en lv (tyOf s n) w4 HX4.out HE4.out HS.out).mono ?_
  rintro e w5 ⟨⟨cs, rfl, hcs⟩, hs5, f5⟩
  have HX5 := hid (HX4.out.step hs5 f5)
  have HF5 := hid (HF2.out.trans' (HF4'.out.no.trans' f5))
  obtain ⟨x, u, rfl, hzx, hls⟩ := hcs.form
  have HONE := hid hcs.one.2
  have HLS := hid hls
  obtain ⟨va, vc, rfl, hvc, hvl⟩ := hls.form
  rw [← HV.out] at HLS hvc hvl HONE ⊢
  obtain ⟨m, hm⟩ : ∃ m, (valsOf s en n).length = m := ⟨_, rfl⟩
  rw [hm] at HLS HONE hvc hvl ⊢
  have hmi : (m : Int) ≤ 140737488351232 := by omega
  have HM := hid hm
  clear hs5 f5 hcs hzx hls hvc hvl hm
  go_wp2_with (first
    | ((with_reducible refine K.atO (.alloc 60) ?_); refine wpL_alloc rfl _ rfl _ zeroAt _ rfl ?_; intro w6 HB6 HF6 HS6)
    | ((with_reducible refine K.atO (.store 60 _ _) ?_); refine wpL_store rfl _ _ _ rfl w5.heap.size 0 [.string (sb x), .slice va m vc] rfl rfl 60 _ HB6.out (by simp) infoAt HONE.out ?_; intro w7 HB7 HF7 HS7; refine Hid.out ?_)
    | fail)
  have HF7' : Hid (Fr No w5 w7) := hid (HF6.out.trans HF7.out (fun k e => .inr (by have e : k = w5.heap.size := e; omega)))
  have HB7' : Hid (Blk w7 w5.heap.size 60 [.string (sb x), .slice va m vc]) := hid HB7.out
  obtain ⟨r2, hr2⟩ : ∃ r2, w5.heap.size = r2 := ⟨_, rfl⟩
  rw [hr2] at HB7' ⊢
  have c1 : w7.cell? ⟨r2, 1, none⟩ = some (.slice va m vc) := HB7'.out.cell 1
  have HX7 := hid (HX5.out.no HF7'.out)
  have HLS7 := hid (HLS.out.fr HF7'.out (fun _ _ _ e => e))
  have HF7w : Hid (Fr (fun k => k = b) w w7) := hid (HF5.out.trans' HF7'.out.no)
  have HCS := hid (containsS (α := B) f cap q (fun _ x v => v = .string (sb x) ∧ Sz x) (fun k => k = b) (fun w' => Tn X b s w' ∧ Fr (fun k => k = b) w w') S (.slice va m vc) (valsOf s en n) w7 (fun _ _ _ _ h _ => h) (fun i hi _ e => HS.out i hi e) ⟨HX7.out, HF7w.out⟩
    (Sl.fr HLS7.out (Fr.refl No w7) (fun _ _ _ e => e) (fun x c _ h => ⟨_, h.1, rfl, h.2⟩)) HEN.out
    (fun x hx c wv hpp hi hfw => by
      obtain ⟨rfl, hzx⟩ := hpp
      exact (HFF.out x hx hzx wv hi.1 hi.2).mono fun e w' ⟨h1, h2, h3⟩ => ⟨h1, ⟨hi.1.step h2 h3, hi.2.trans' h3⟩, h3⟩))
  clear hr2 HB6 HF6 HS6 HB7 HF7 HS7
  refine hid ?_
  go_wp2_with fail
  refine HCS.out.mono ?_
  rintro e w8 ⟨rfl, ⟨hx8, hf8⟩, -⟩
  have HX8 := hid hx8; have HF8 := hid hf8
  rw [HR.out]
  clear hx8 hf8 c1
  go_wp2_with fail
  refine (truth_any _ w8).mono ?_
  rintro e w9 ⟨rfl, rfl⟩
  go_wp2_with fail
  go_ret
  exact ⟨rfl, HX8.out.1, HF8.out⟩
/-! ### evalOrder -/
set_option maxHeartbeats 8000000 in
theorem order1_any (X : Nat → Prop) (b p q : Nat) (s : Sch) (f : Fl) (vk va ve : Value) (lv : Int) (v : B) (w : World) (hp : Blk w p 113 (sjV b ve lv)) (hq : Blk w q 46 (flV f vk va)) (h : Tn X b s w) (hzn : Sz f.type) (hzv : Sz f.value) (hz : Sz v) (hqb : q ≠ b) :
    Calls Tryz.prog 134 #[.string (sb v), .pointer (some ⟨p, 0, none⟩), .pointer (some ⟨q, 0, none⟩)] w fun e w' => e = .returned (.bool (decide ((cmpE s f.type v f.value).2 = 0) && isOrd f.kind (cmpE s f.type v f.value).1)) ∧ Sx w' X b s ∧ Fr (fun k => k = b) w w' := by
  have H := hid (cmp_any X b s f.type v f.value w h.1 h.2.1 h.2.2.1.1 h.2.2.2.1 hzn hz hzv)
  have c0 : w.cell? ⟨p, 0, none⟩ = some (.pointer (some ⟨b, 0, none⟩)) := hp.cell 0
  have c2 : w.cell? ⟨q, 2, none⟩ = some (.string (sb f.type)) := hq.cell 2
  have c3 : w.cell? ⟨q, 3, none⟩ = some (.string (sb f.value)) := hq.cell 3
  have HQ := hid hq; have HQB := hid hqb
  obtain ⟨m, hm⟩ : ∃ m, (cmpE s f.type v f.value).1 = m := ⟨_, rfl⟩
  obtain ⟨er, her⟩ : ∃ er, (cmpE s f.type v f.value).2 = er := ⟨_, rfl⟩
  rw [hm, her] at H ⊢
  clear hp hq h hzn hzv hz hqb hm her
  go_enter Tryz.func134, Tryz.ntmps134
  go_wp2_with fail
  refine H.out.mono ?_
  rintro e w1 ⟨rfl, hs1, f1⟩
  have HS1 := hid hs1.sx; have HF1 := hid f1
  have ck : w1.cell? ⟨q, 0, none⟩ = some (.int .i64 f.kind) := (HQ.out.fr f1 HQB.out).cell 0
  clear hs1 f1 c0 c2 c3
  by_cases h0 : er = 0
  · subst h0
    go_wp2_with fail
    refine (isOrder_any f.kind m w1).mono ?_
    rintro e w2 ⟨rfl, rfl⟩
    go_wp2_with fail
    go_ret
    exact ⟨by simp, HS1.out, HF1.out⟩
  · have e0 := beqN h0
    have HN := hid (decide_eq_false h0)
    clear h0 ck
    go_wp2_with fail
    go_ret
    exact ⟨by rw [HN.out]; rfl, HS1.out, HF1.out⟩
set_option maxHeartbeats 8000000 in
theorem evalOrder_any {S T : Nat → Prop} {M : Nat} (X : Nat → Prop) (b : Nat) (s : Sch) (ve : Value) (en : Ent) (lv : Int) (f : Fl) (vk va : Value) (w : World) (h : Tn X b s w) (he : EnIn S w ve en) (hS : ∀ i, S i → i ≠ b) (hf : FlC M T w f (flV f vk va)) :
    Calls Tryz.prog 91 #[.agg (sjV b ve lv).toArray, .agg (flV f vk va).toArray] w fun e w' => e = .returned (.int .i64 (evOrd s en f.kind f.type f.value)) ∧ Sx w' X b s ∧ Fr (fun k => k = b) w w' := by
  have HX := hid h; have HE := hid he; have HS := hid hS
  cases M with
  | zero => exact hf.elim
  | succ M =>
  obtain ⟨vk2, va2, e0, -, hzt, hzv, -⟩ := hf
  have HZT := hid hzt; have HZV := hid hzv
  obtain ⟨R, hR⟩ : ∃ R, evOrd s en f.kind f.type f.value = R := ⟨_, rfl⟩
  have HR := hid hR
  rw [hR]
  have HBW := hid h.lt
  obtain ⟨ea, ec, rfl, -, -⟩ := he.form
  clear h he hS hzt hzv hR e0
  go_enter Tryz.func91, Tryz.ntmps91
  go_wp2_with (first
    | ((with_reducible refine K.atO (.box 113 _) ?_); refine wpL_box rfl _ _ rfl _ rfl (sjV b (.slice ea en.length ec) lv) rfl ?_; intro w1 HB1 HF1 HS1)
    | ((with_reducible refine K.atO (.box 46 _) ?_); refine wpL_box rfl _ _ rfl _ rfl (flV f vk va) rfl ?_; intro w2 HB2 HF2 HS2; refine Hid.out ?_)
    | fail)
  obtain ⟨p, hp⟩ : ∃ p, w.heap.size = p := ⟨_, rfl⟩
  rw [hp] at HB1 ⊢
  obtain ⟨q, hq⟩ : ∃ q, w1.heap.size = q := ⟨_, rfl⟩
  rw [hq] at HB2 ⊢
  have HPQ := hid (show ¬ p = b ∧ ¬ q = b from ⟨by have := HBW.out; omega, by have := HBW.out; have := HS1.out; omega⟩)
  have HF2' : Hid (Fr No w w2) := hid (HF1.out.trans' HF2.out)
  have HBp := hid (HB1.out.fr HF2.out id)
  have c0 : w2.cell? ⟨p, 0, none⟩ = some (.pointer (some ⟨b, 0, none⟩)) := HBp.out.cell 0
  have c2 : w2.cell? ⟨q, 2, none⟩ = some (.string (sb f.type)) := HB2.out.cell 2
  have c3 : w2.cell? ⟨q, 3, none⟩ = some (.string (sb f.value)) := HB2.out.cell 3
  have HX2 := hid (HX.out.no HF2'.out)
  have HE2 := hid (HE.out.fr HF2'.out (fun _ _ _ e => e))
  clear hp hq HS1 HS2 HB1 HF1 HF2
  refine hid ?_
  go_wp2_with fail
  refine (norm_any X b s f.type f.value w2 HX2.out.1 HX2.out.2.1 HX2.out.2.2.1.1 HX2.out.2.2.2.1 HZT.out HZV.out).mono ?_
  rintro e w3 ⟨rfl, hs3, f3⟩
  have HX3 := hid (HX2.out.step hs3.sx f3)
  have HE3 := hid (HE2.out.fr f3 (fun i hi _ e => HS.out i hi e))
  have HBp3 := hid (HBp.out.fr f3 HPQ.out.1)
  have HBq3 := hid (HB2.out.fr f3 HPQ.out.2)
  have HF3 : Hid (Fr (fun k => k = b) w w3) := hid (HF2'.out.no.trans' f3)
  clear hs3 f3 c0 c2 c3
  by_cases h0 : (normE s f.type f.value).2 = 0
  · rw [h0]
    obtain ⟨i, hi⟩ := normE_at h0
    have HT := hid (tyN_at hi)
    have HRT : Hid (truI ((valsOf s en f.type).any fun x => decide ((cmpE s f.type x f.value).2 = 0) && isOrd f.kind (cmpE s f.type x f.value).1) = R) := hid (by rw [← HR.out]; unfold evOrd; rw [if_pos h0])
    have c2 : w3.cell? ⟨q, 2, none⟩ = some (.string (sb f.type)) := HBq3.out.cell 2
    clear h0 hi
    go_wp2_with (first
      | ((with_reducible refine K.atO (.load 113 _) ?_); refine wpL_load rfl _ _ rfl p 0 rfl (sjV b (.slice ea en.length ec) lv) _ (HBp3.out.range 0 _ rfl) rfl rfl infoSj ?_)
      | fail)
    refine (evalValues_any 134 [.pointer (some ⟨p, 0, none⟩), .pointer (some ⟨q, 0, none⟩)] (fun x => decide ((cmpE s f.type x f.value).2 = 0) && isOrd f.kind (cmpE s f.type x f.value).1) X b s _ en lv f.type _ w3 HX3.out HE3.out HS.out HZT.out HT.out (fun vs w => by kernel_rfl)
      (fun v _ hzv wv hx hfw => order1_any X b p q s f vk va _ lv v wv (HBp3.out.fr hfw HPQ.out.1) (HBq3.out.fr hfw HPQ.out.2) hx HZT.out HZV.out hzv HPQ.out.2)).mono ?_
    rintro e w4 ⟨rfl, hs4, f4⟩
    rw [HRT.out]
    have HS4 := hid hs4; have HF4 := hid (HF3.out.trans' f4)
    clear hs4 f4 c2
    go_wp2_with fail
    go_ret
    exact ⟨rfl, HS4.out, HF4.out⟩
  · have HRN : Hid (2 = R) := hid (by rw [← HR.out]; unfold evOrd; rw [if_neg h0])
    obtain ⟨er, her⟩ : ∃ er, (normE s f.type f.value).2 = er := ⟨_, rfl⟩
    rw [her] at h0 ⊢
    have e0 := beqN h0
    clear h0 her
    go_wp2_with fail
    go_ret
    exact ⟨by rw [← HRN.out]; rfl, HX3.out.1, HF3.out⟩
end Go.Proofs.YtdkkpfeiaaffhaaGreatDoor.FT
