/-
  Blocks, round keys and rounds, as mathematics: what is turned is turned back, both ways.
-/
import Derived.Test.YtgbcddhgeepjgaaAesM
namespace Go.Proofs.Ytgbcddhgeepjgaa.AE
set_option maxRecDepth 100000
/-! ### Blocks, as functions; what counts is below 16 -/
def By (f : Nat → Nat) : Prop := ∀ i, f i < 256
def E (f g : Nat → Nat) : Prop := ∀ i, i < 16 → f i = g i
def comb (f k : Nat → Nat) : Nat → Nat := fun i => f i ^^^ k i
def rep (g : Nat → Nat) (f : Nat → Nat) : Nat → Nat := fun i => g (f i)
def trn (t : Nat) (f : Nat → Nat) : Nat → Nat := fun i => f ((i + 4 * (i % 4) * t) % 16)
/-- n of the four products of place i. -/
def mxs (v f : Nat → Nat) (i : Nat) : Nat → Nat
  | 0 => 0
  | n + 1 => mxs v f i n ^^^ times (v n) (f (i - i % 4 + (i + n) % 4))
def mx (v f : Nat → Nat) : Nat → Nat := fun i => mxs v f i 4
def wt (a b c d : Nat) : Nat → Nat
  | 0 => a
  | 1 => b
  | 2 => c
  | 3 => d
  | _ => 0
theorem By.comb {f k : Nat → Nat} (hf : By f) (hk : By k) : By (comb f k) := fun i => xor_lt (hf i) (hk i)
theorem By.rep {f g : Nat → Nat} (hg : ∀ a, a < 256 → g a < 256) (hf : By f) : By (rep g f) := fun i => hg _ (hf i)
theorem By.trn {f : Nat → Nat} (t : Nat) (hf : By f) : By (trn t f) := fun _ => hf _
theorem mxs_lt {v f : Nat → Nat} (hv : By v) (i : Nat) : ∀ n, mxs v f i n < 256
  | 0 => by simp [mxs]
  | n + 1 => xor_lt (mxs_lt hv i n) (times_lt (hv n) _)
theorem By.mx {v f : Nat → Nat} (hv : By v) : By (mx v f) := fun i => mxs_lt hv i 4
theorem wt_by {a b c d : Nat} (ha : a < 256) (hb : b < 256) (hc : c < 256) (hd : d < 256) : By (wt a b c d) := fun i => by
  unfold wt
  split <;> first | assumption | decide

theorem E.refl (f : Nat → Nat) : E f f := fun _ _ => rfl
theorem E.symm {f g : Nat → Nat} (h : E f g) : E g f := fun i hi => (h i hi).symm
theorem E.trans {f g k : Nat → Nat} (h : E f g) (h' : E g k) : E f k := fun i hi => (h i hi).trans (h' i hi)
theorem E.comb {f g k l : Nat → Nat} (h : E f g) (h' : E k l) : E (comb f k) (comb g l) := fun i hi => by
  show f i ^^^ k i = _
  rw [h i hi, h' i hi]
  rfl
theorem E.rep {f g u : Nat → Nat} (h : E f g) : E (rep u f) (rep u g) := fun i hi => by
  show u (f i) = _
  rw [h i hi]
  rfl
theorem E.trn {f g : Nat → Nat} (t : Nat) (h : E f g) : E (trn t f) (trn t g) := fun i hi => h _ (Nat.mod_lt _ (by decide))
theorem mxs_congr {f g : Nat → Nat} (v : Nat → Nat) (h : E f g) {i : Nat} (hi : i < 16) : ∀ n, mxs v f i n = mxs v g i n
  | 0 => rfl
  | n + 1 => by
    show mxs v f i n ^^^ times (v n) (f (i - i % 4 + (i + n) % 4)) = _
    rw [mxs_congr v h hi n, h _ (by omega)]
    rfl
theorem E.mx {f g : Nat → Nat} (v : Nat → Nat) (h : E f g) : E (mx v f) (mx v g) := fun _ hi => mxs_congr v h hi 4

theorem sixteen {p : Nat → Prop} (h0 : p 0) (h1 : p 1) (h2 : p 2) (h3 : p 3) (h4 : p 4) (h5 : p 5) (h6 : p 6) (h7 : p 7) (h8 : p 8) (h9 : p 9) (h10 : p 10) (h11 : p 11) (h12 : p 12) (h13 : p 13) (h14 : p 14) (h15 : p 15) : ∀ i, i < 16 → p i := by
  intro i hi
  match i, hi with
  | 0, _ => exact h0
  | 1, _ => exact h1
  | 2, _ => exact h2
  | 3, _ => exact h3
  | 4, _ => exact h4
  | 5, _ => exact h5
  | 6, _ => exact h6
  | 7, _ => exact h7
  | 8, _ => exact h8
  | 9, _ => exact h9
  | 10, _ => exact h10
  | 11, _ => exact h11
  | 12, _ => exact h12
  | 13, _ => exact h13
  | 14, _ => exact h14
  | 15, _ => exact h15
  | n + 16, hi => exact absurd hi (by omega)
theorem comb_comb (f k : Nat → Nat) : comb (comb f k) k = f := by
  funext i
  show f i ^^^ k i ^^^ k i = f i
  rw [Nat.xor_assoc, Nat.xor_self, Nat.xor_zero]
theorem trn_back (f : Nat → Nat) : E (trn 3 (trn 1 f)) f := sixteen rfl rfl rfl rfl rfl rfl rfl rfl rfl rfl rfl rfl rfl rfl rfl rfl
theorem trn_forth (f : Nat → Nat) : E (trn 1 (trn 3 f)) f := sixteen rfl rfl rfl rfl rfl rfl rfl rfl rfl rfl rfl rfl rfl rfl rfl rfl
theorem rep_back {f : Nat → Nat} (h : By f) : rep unbox (rep box f) = f := funext fun i => unbox_box (h i)
theorem rep_forth {f : Nat → Nat} (h : By f) : rep box (rep unbox f) = f := funext fun i => box_unbox (h i)

/-! ### Columns -/
def col (p q r s a b c d : Nat) : Nat := 0 ^^^ times p a ^^^ times q b ^^^ times r c ^^^ times s d
theorem back_base : ((List.range 256).all fun a =>
    (times 14 (times 2 a) ^^^ times 11 (times 1 a) ^^^ times 13 (times 1 a) ^^^ times 9 (times 3 a) == a) &&
    (times 14 (times 3 a) ^^^ times 11 (times 2 a) ^^^ times 13 (times 1 a) ^^^ times 9 (times 1 a) == 0) &&
    (times 14 (times 1 a) ^^^ times 11 (times 3 a) ^^^ times 13 (times 2 a) ^^^ times 9 (times 1 a) == 0) &&
    (times 14 (times 1 a) ^^^ times 11 (times 1 a) ^^^ times 13 (times 3 a) ^^^ times 9 (times 2 a) == 0) &&
    (times 2 (times 14 a) ^^^ times 3 (times 9 a) ^^^ times 1 (times 13 a) ^^^ times 1 (times 11 a) == a) &&
    (times 2 (times 11 a) ^^^ times 3 (times 14 a) ^^^ times 1 (times 9 a) ^^^ times 1 (times 13 a) == 0) &&
    (times 2 (times 13 a) ^^^ times 3 (times 11 a) ^^^ times 1 (times 14 a) ^^^ times 1 (times 9 a) == 0) &&
    (times 2 (times 9 a) ^^^ times 3 (times 13 a) ^^^ times 1 (times 11 a) ^^^ times 1 (times 14 a) == 0)) = true := by decide +kernel
theorem four (a1 a2 a3 a4 b1 b2 b3 b4 c1 c2 c3 c4 d1 d2 d3 d4 : Nat) :
    (a1 ^^^ b1 ^^^ c1 ^^^ d1) ^^^ (b2 ^^^ c2 ^^^ d2 ^^^ a2) ^^^ (c3 ^^^ d3 ^^^ a3 ^^^ b3) ^^^ (d4 ^^^ a4 ^^^ b4 ^^^ c4) =
    (a1 ^^^ a2 ^^^ a3 ^^^ a4) ^^^ (b1 ^^^ b2 ^^^ b3 ^^^ b4) ^^^ (c1 ^^^ c2 ^^^ c3 ^^^ c4) ^^^ (d1 ^^^ d2 ^^^ d3 ^^^ d4) := by ac_rfl
theorem col_back {a b c d : Nat} (ha : a < 256) (hb : b < 256) (hc : c < 256) (hd : d < 256) :
    col 14 11 13 9 (col 2 3 1 1 a b c d) (col 2 3 1 1 b c d a) (col 2 3 1 1 c d a b) (col 2 3 1 1 d a b c) = a := by
  have h1 := at256 back_base ha; have h2 := at256 back_base hb; have h3 := at256 back_base hc; have h4 := at256 back_base hd
  simp only [Bool.and_eq_true, beq_iff_eq] at h1 h2 h3 h4
  simp only [col, Nat.zero_xor, times_right]
  rw [four, h1.1.1.1.1.1.1.1, h2.1.1.1.1.1.1.2, h3.1.1.1.1.1.2, h4.1.1.1.1.2]
  simp
theorem col_forth {a b c d : Nat} (ha : a < 256) (hb : b < 256) (hc : c < 256) (hd : d < 256) :
    col 2 3 1 1 (col 14 11 13 9 a b c d) (col 14 11 13 9 b c d a) (col 14 11 13 9 c d a b) (col 14 11 13 9 d a b c) = a := by
  have h1 := at256 back_base ha; have h2 := at256 back_base hb; have h3 := at256 back_base hc; have h4 := at256 back_base hd
  simp only [Bool.and_eq_true, beq_iff_eq] at h1 h2 h3 h4
  simp only [col, Nat.zero_xor, times_right]
  rw [four, h1.1.1.1.2, h2.1.1.2, h3.1.2, h4.2]
  simp
theorem mx_back {f : Nat → Nat} (h : By f) : E (mx (wt 14 11 13 9) (mx (wt 2 3 1 1) f)) f :=
  sixteen (col_back (h 0) (h 1) (h 2) (h 3)) (col_back (h 1) (h 2) (h 3) (h 0)) (col_back (h 2) (h 3) (h 0) (h 1)) (col_back (h 3) (h 0) (h 1) (h 2))
    (col_back (h 4) (h 5) (h 6) (h 7)) (col_back (h 5) (h 6) (h 7) (h 4)) (col_back (h 6) (h 7) (h 4) (h 5)) (col_back (h 7) (h 4) (h 5) (h 6))
    (col_back (h 8) (h 9) (h 10) (h 11)) (col_back (h 9) (h 10) (h 11) (h 8)) (col_back (h 10) (h 11) (h 8) (h 9)) (col_back (h 11) (h 8) (h 9) (h 10))
    (col_back (h 12) (h 13) (h 14) (h 15)) (col_back (h 13) (h 14) (h 15) (h 12)) (col_back (h 14) (h 15) (h 12) (h 13)) (col_back (h 15) (h 12) (h 13) (h 14))
theorem mx_forth {f : Nat → Nat} (h : By f) : E (mx (wt 2 3 1 1) (mx (wt 14 11 13 9) f)) f :=
  sixteen (col_forth (h 0) (h 1) (h 2) (h 3)) (col_forth (h 1) (h 2) (h 3) (h 0)) (col_forth (h 2) (h 3) (h 0) (h 1)) (col_forth (h 3) (h 0) (h 1) (h 2))
    (col_forth (h 4) (h 5) (h 6) (h 7)) (col_forth (h 5) (h 6) (h 7) (h 4)) (col_forth (h 6) (h 7) (h 4) (h 5)) (col_forth (h 7) (h 4) (h 5) (h 6))
    (col_forth (h 8) (h 9) (h 10) (h 11)) (col_forth (h 9) (h 10) (h 11) (h 8)) (col_forth (h 10) (h 11) (h 8) (h 9)) (col_forth (h 11) (h 8) (h 9) (h 10))
    (col_forth (h 12) (h 13) (h 14) (h 15)) (col_forth (h 13) (h 14) (h 15) (h 12)) (col_forth (h 14) (h 15) (h 12) (h 13)) (col_forth (h 15) (h 12) (h 13) (h 14))

/-! ### Round keys -/
def t0 (f : Nat → Nat) (c : Nat) : Nat → Nat := wt (box (f 13) ^^^ c) (box (f 14)) (box (f 15)) (box (f 12))
/-- The four bytes beside, behind n places. -/
def tS (t f : Nat → Nat) : Nat → Nat → Nat
  | 0 => t
  | n + 1 => fun r => if r = n % 4 then f n ^^^ tS t f n (n % 4) else tS t f n r
def fol (f : Nat → Nat) (c : Nat) : Nat → Nat := fun i => f i ^^^ tS (t0 f c) f i (i % 4)
def con : Nat → Nat
  | 0 => 1
  | n + 1 => times (con n) 2
def keys (k : Nat → Nat) : Nat → Nat → Nat
  | 0 => k
  | n + 1 => fol (keys k n) (con n)
theorem con_lt : ∀ n, con n < 256
  | 0 => by decide
  | n + 1 => times_lt (con_lt n) 2
theorem t0_by {f : Nat → Nat} {c : Nat} (hf : By f) (hc : c < 256) : By (t0 f c) := wt_by (xor_lt (box_lt (hf _)) hc) (box_lt (hf _)) (box_lt (hf _)) (box_lt (hf _))
theorem tS_lt {t f : Nat → Nat} (ht : By t) (hf : By f) : ∀ n, By (tS t f n)
  | 0 => ht
  | n + 1 => fun r => by
    show (if r = n % 4 then f n ^^^ tS t f n (n % 4) else tS t f n r) < 256
    split
    · exact xor_lt (hf n) (tS_lt ht hf n _)
    · exact tS_lt ht hf n r
theorem fol_by {f : Nat → Nat} {c : Nat} (hf : By f) (hc : c < 256) : By (fol f c) := fun i => xor_lt (hf i) (tS_lt (t0_by hf hc) hf i _)
theorem keys_by {k : Nat → Nat} (hk : By k) : ∀ n, By (keys k n)
  | 0 => hk
  | n + 1 => fol_by (keys_by hk n) (con_lt n)

/-! ### Blocks are turned, and turned back -/
def mixF (r : Nat) (f : Nat → Nat) : Nat → Nat := if r < 10 then mx (wt 2 3 1 1) f else f
def mixB (r : Nat) (f : Nat → Nat) : Nat → Nat := if r < 10 then mx (wt 14 11 13 9) f else f
/-- The block behind round r. -/
def st (k f : Nat → Nat) : Nat → Nat → Nat
  | 0 => comb f (keys k 0)
  | r + 1 => comb (mixF (r + 1) (trn 1 (rep box (st k f r)))) (keys k (r + 1))
def enc (k f : Nat → Nat) : Nat → Nat := st k f 10
/-- The way back, m rounds. -/
def ds (k f : Nat → Nat) : Nat → Nat → Nat
  | 0 => f
  | m + 1 => rep unbox (trn 3 (mixB (10 - m) (comb (ds k f m) (keys k (10 - m)))))
def dec (k f : Nat → Nat) : Nat → Nat := comb (ds k f 10) (keys k 0)
theorem mixF_by {f : Nat → Nat} (r : Nat) (h : By f) : By (mixF r f) := by
  unfold mixF; split
  · exact By.mx (wt_by (by decide) (by decide) (by decide) (by decide))
  · exact h
theorem mixB_by {f : Nat → Nat} (r : Nat) (h : By f) : By (mixB r f) := by
  unfold mixB; split
  · exact By.mx (wt_by (by decide) (by decide) (by decide) (by decide))
  · exact h
theorem E.mixF {f g : Nat → Nat} (r : Nat) (h : E f g) : E (mixF r f) (mixF r g) := by
  unfold Go.Proofs.Ytgbcddhgeepjgaa.AE.mixF; split
  · exact h.mx _
  · exact h
theorem E.mixB {f g : Nat → Nat} (r : Nat) (h : E f g) : E (mixB r f) (mixB r g) := by
  unfold Go.Proofs.Ytgbcddhgeepjgaa.AE.mixB; split
  · exact h.mx _
  · exact h
theorem mixB_mixF {f : Nat → Nat} (r : Nat) (h : By f) : E (mixB r (mixF r f)) f := by
  unfold mixB mixF; split
  · exact mx_back h
  · exact E.refl f
theorem mixF_mixB {f : Nat → Nat} (r : Nat) (h : By f) : E (mixF r (mixB r f)) f := by
  unfold mixB mixF; split
  · exact mx_forth h
  · exact E.refl f
theorem st_by {k f : Nat → Nat} (hk : By k) (hf : By f) : ∀ r, By (st k f r)
  | 0 => hf.comb (keys_by hk 0)
  | r + 1 => (mixF_by _ (((st_by hk hf r).rep fun _ h => box_lt h).trn 1)).comb (keys_by hk (r + 1))
theorem ds_by {k f : Nat → Nat} (hk : By k) (hf : By f) : ∀ r, By (ds k f r)
  | 0 => hf
  | m + 1 => ((mixB_by _ ((ds_by hk hf m).comb (keys_by hk (10 - m)))).trn 3).rep fun _ h => unbox_lt h
theorem enc_by {k f : Nat → Nat} (hk : By k) (hf : By f) : By (enc k f) := st_by hk hf 10
theorem dec_by {k f : Nat → Nat} (hk : By k) (hf : By f) : By (dec k f) := (ds_by hk hf 10).comb (keys_by hk 0)
theorem ds_st {k f : Nat → Nat} (hk : By k) (hf : By f) : ∀ m, m ≤ 10 → E (ds k (enc k f) m) (st k f (10 - m))
  | 0, _ => E.refl _
  | m + 1, h => by
    have ih := ds_st hk hf m (by omega)
    obtain ⟨r, hr⟩ : ∃ r, 10 - m = r + 1 := ⟨9 - m, by omega⟩
    have hr' : 10 - (m + 1) = r := by omega
    show E (rep unbox (trn 3 (mixB (10 - m) (comb (ds k (enc k f) m) (keys k (10 - m)))))) _
    rw [hr] at ih ⊢
    rw [hr']
    have hb := (st_by hk hf r).rep (g := box) fun _ h => box_lt h
    have h1 : E (comb (ds k (enc k f) m) (keys k (r + 1))) (mixF (r + 1) (trn 1 (rep box (st k f r)))) := by
      have := ih.comb (E.refl (keys k (r + 1)))
      rwa [show st k f (r + 1) = comb (mixF (r + 1) (trn 1 (rep box (st k f r)))) (keys k (r + 1)) from rfl, comb_comb] at this
    have h2 := (((h1.mixB (r + 1)).trans (mixB_mixF (r + 1) (hb.trn 1))).trn 3).trans (trn_back _)
    have h3 := h2.rep (u := unbox)
    rwa [rep_back (st_by hk hf r)] at h3
theorem dec_enc {k f : Nat → Nat} (hk : By k) (hf : By f) : E (dec k (enc k f)) f := by
  have := (ds_st hk hf 10 (by decide)).comb (E.refl (keys k 0))
  rwa [show st k f (10 - 10) = comb f (keys k 0) from rfl, comb_comb] at this
theorem st_ds {k f : Nat → Nat} (hk : By k) (hf : By f) : ∀ r, r ≤ 10 → E (st k (dec k f) r) (ds k f (10 - r))
  | 0, _ => by
    show E (comb (comb (ds k f 10) (keys k 0)) (keys k 0)) _
    rw [comb_comb]
    exact E.refl _
  | r + 1, h => by
    have ih := st_ds hk hf r (by omega)
    obtain ⟨m, hm⟩ : ∃ m, 10 - r = m + 1 := ⟨9 - r, by omega⟩
    have hm' : 10 - (r + 1) = m := by omega
    have hm2 : 10 - m = r + 1 := by omega
    show E (comb (mixF (r + 1) (trn 1 (rep box (st k (dec k f) r)))) (keys k (r + 1))) _
    rw [hm] at ih
    rw [hm']
    have hb := (ds_by hk hf m).comb (keys_by hk (r + 1))
    have e : ds k f (m + 1) = rep unbox (trn 3 (mixB (r + 1) (comb (ds k f m) (keys k (r + 1))))) := by
      show rep unbox (trn 3 (mixB (10 - m) (comb (ds k f m) (keys k (10 - m))))) = _
      rw [hm2]
    rw [e] at ih
    have h1 := ih.rep (u := box)
    rw [rep_forth ((mixB_by _ hb).trn 3)] at h1
    have h2 := (((h1.trn 1).trans (trn_forth _)).mixF (r + 1)).trans (mixF_mixB (r + 1) hb)
    have h3 := h2.comb (E.refl (keys k (r + 1)))
    rwa [comb_comb] at h3
theorem enc_dec {k f : Nat → Nat} (hk : By k) (hf : By f) : E (enc k (dec k f)) f := st_ds hk hf 10 (by decide)
theorem E.st {k f g : Nat → Nat} (h : E f g) : ∀ r, E (st k f r) (st k g r)
  | 0 => h.comb (E.refl _)
  | r + 1 => ((((E.st h r).rep).trn 1).mixF (r + 1)).comb (E.refl _)
theorem E.ds {k f g : Nat → Nat} (h : E f g) : ∀ r, E (ds k f r) (ds k g r)
  | 0 => h
  | r + 1 => ((((E.ds h r).comb (E.refl _)).mixB (10 - r)).trn 3).rep
theorem E.dec {k f g : Nat → Nat} (h : E f g) : E (dec k f) (dec k g) := (h.ds 10).comb (E.refl _)
/-- Unlike blocks stay unlike. -/
theorem enc_inj {k f g : Nat → Nat} (hk : By k) (hf : By f) (hg : By g) : E (enc k f) (enc k g) ↔ E f g :=
  ⟨fun h => ((dec_enc hk hf).symm.trans h.dec).trans (dec_enc hk hg), fun h => h.st 10⟩
end Go.Proofs.Ytgbcddhgeepjgaa.AE
