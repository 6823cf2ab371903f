/-
  What is told of a log that was written in part: by pieces, no program.
-/
import Derived.Test.YtfaogebnpbcnhaaLogA
namespace Go.Proofs.Ytfaogebnpbcnhaa.L
set_option maxRecDepth 100000
open Go.RowKit K

/-- Between two records. -/
structure Sc.Clean (c : Sc) (p : Nat) : Prop where
  ins : c.ins = false
  part : c.part = []
  next : c.next = p
/-- All sectors from p to q continue the log. -/
inductive Run (h : Nat) (V : Nat → Option Pc) : Nat → Sc → Nat → Sc → Prop
  | refl (p : Nat) (c : Sc) : Run h V p c p c
  | step {p q : Nat} {c c' : Sc} {x : Pc} (hV : V p = some x) (hf : c.fits h x = true) (hr : Run h V (p + 1) (c.step p x) q c') : Run h V p c q c'
theorem Run.le {h : Nat} {V : Nat → Option Pc} {p q : Nat} {c c' : Sc} (r : Run h V p c q c') : p ≤ q := by
  induction r with
  | refl => exact Nat.le_refl _
  | step _ _ _ ih => omega
theorem scan_some {h n p : Nat} {V : Nat → Option Pc} {c : Sc} {x : Pc} (hV : V p = some x) (hf : c.fits h x = true) : scan h V (n + 1) p c = scan h V n (p + 1) (c.step p x) := by
  rw [scan, hV]; simp [hf]
theorem scan_unfit {h n p : Nat} {V : Nat → Option Pc} {c : Sc} {x : Pc} (hV : V p = some x) (hf : c.fits h x = false) : scan h V n p c = (c.recs, c.next) := by
  cases n with
  | zero => rfl
  | succ n => rw [scan, hV]; simp [hf]
theorem scan_no {h n p : Nat} {V : Nat → Option Pc} {c : Sc} (hV : V p = none) : scan h V n p c = (c.recs, c.next) := by
  cases n with
  | zero => rfl
  | succ n => rw [scan, hV]
theorem Run.scan {h : Nat} {V : Nat → Option Pc} {p q : Nat} {c c' : Sc} (r : Run h V p c q c') (n : Nat) : L.scan h V (n + (q - p)) p c = L.scan h V n q c' := by
  induction r with
  | refl p c => simp
  | step hV hf hr ih =>
    have := hr.le
    rw [show ∀ a b : Nat, a + 1 ≤ b → n + (b - a) = (n + (b - (a + 1))) + 1 from fun a b h => by omega] <;> try exact this
    rw [scan_some hV hf]
    exact ih
theorem Run.trans {h : Nat} {V : Nat → Option Pc} {p q s : Nat} {c c' c'' : Sc} (r : Run h V p c q c') (r' : Run h V q c' s c'') : Run h V p c s c'' := by
  induction r with
  | refl => exact r'
  | step hV hf _ ih => exact .step hV hf (ih r')
theorem Run.same {h : Nat} {V V' : Nat → Option Pc} {p q : Nat} {c c' : Sc} (r : Run h V p c q c') (hv : ∀ i, p ≤ i → i < q → V' i = V i) : Run h V' p c q c' := by
  induction r with
  | refl => exact .refl _ _
  | step hV hf hr ih =>
    have := hr.le
    exact .step ((hv _ (Nat.le_refl _) (by omega)).trans hV) hf (ih (fun i h1 h2 => hv i (by omega) h2))
theorem fits_mono {h H : Nat} {c : Sc} {x : Pc} (hh : h ≤ H) (hf : c.fits h x = true) : c.fits H x = true := by
  unfold Sc.fits at *
  simp only [Bool.and_eq_true, decide_eq_true_eq] at hf ⊢
  exact ⟨⟨by omega, hf.1.2⟩, hf.2⟩
theorem Run.mono {h H : Nat} {V : Nat → Option Pc} {p q : Nat} {c c' : Sc} (r : Run h V p c q c') (hh : h ≤ H) : Run H V p c q c' := by
  induction r with
  | refl => exact .refl _ _
  | step hV hf _ ih => exact .step hV (fits_mono hh hf) ih
theorem fits_bound {h H : Nat} {c : Sc} {x : Pc} (hh : h ≤ H) (hx : x.life ≤ h) : c.fits H x = c.fits h x := by
  unfold Sc.fits
  rw [decide_eq_true (show x.life ≤ h from hx), decide_eq_true (show x.life ≤ H by omega)]
theorem scan_bound {h H : Nat} {V : Nat → Option Pc} (hh : h ≤ H) : ∀ (n p : Nat) (c : Sc), (∀ i x, p ≤ i → V i = some x → x.life ≤ h) → scan H V n p c = scan h V n p c
  | 0, _, _, _ => rfl
  | n + 1, p, c, hb => by
    rw [scan, scan]
    cases hv : V p with
    | none => rfl
    | some x =>
      simp only [fits_bound hh (hb p x (Nat.le_refl _) hv)]
      rw [scan_bound hh n (p + 1) _ (fun i x h1 h2 => hb i x (by omega) h2)]
theorem fits_life {h : Nat} {c : Sc} {x : Pc} (hf : c.fits h x = true) : x.life ≤ h := by
  unfold Sc.fits at hf
  simp only [Bool.and_eq_true, decide_eq_true_eq] at hf
  exact hf.1.1
/-- Where the reading ends, and what stands behind the last record. -/
theorem scan_last {h : Nat} {V : Nat → Option Pc} : ∀ (n p : Nat) (c c0 : Sc) (q m : Nat), c0.Clean q → Run h V q c0 p c → c.recs = c0.recs → c.next = c0.next → p + n = q + m → c0.last ≤ h →
    ∃ (c1 : Sc) (q1 m1 : Nat), c1.Clean q1 ∧ Run h V q c0 q1 c1 ∧ q1 + m1 = q + m ∧ scan h V m q c0 = (c1.recs, q1) ∧ scan h V m1 q1 c1 = (c1.recs, q1) ∧ c1.last ≤ h
  | n, p, c, c0, q, m, hc, hr, h1, h2, hnm, hl => by
    have hle := hr.le
    have hm : scan h V m q c0 = scan h V n p c := by
      have := hr.scan n
      rwa [show n + (p - q) = m by omega] at this
    have stop : scan h V n p c = (c.recs, c.next) → ∃ (c1 : Sc) (q1 m1 : Nat), c1.Clean q1 ∧ Run h V q c0 q1 c1 ∧ q1 + m1 = q + m ∧ scan h V m q c0 = (c1.recs, q1) ∧ scan h V m1 q1 c1 = (c1.recs, q1) ∧ c1.last ≤ h := fun e => by
      have e1 : scan h V m q c0 = (c0.recs, q) := by rw [hm, e, h1, h2, hc.next]
      exact ⟨c0, q, m, hc, .refl _ _, rfl, e1, e1, hl⟩
    match n, stop with
    | 0, stop => exact stop rfl
    | n + 1, stop =>
      cases hv : V p with
      | none => exact stop (scan_no hv)
      | some x =>
        cases hf : c.fits h x with
        | false => exact stop (scan_unfit hv hf)
        | true =>
          by_cases hx : x.lst = true
          · have hc1 : (c.step p x).Clean (p + 1) := by
              unfold Sc.step; rw [if_pos hx]; exact ⟨rfl, rfl, rfl⟩
            have hr1 : Run h V q c0 (p + 1) (c.step p x) := hr.trans (.step hv hf (.refl _ _))
            have hl1 : (c.step p x).last ≤ h := by
              unfold Sc.step; rw [if_pos hx]; exact fits_life hf
            obtain ⟨c1, q1, m1, r1, r2, r3, r4, r5, r6⟩ := scan_last n (p + 1) (c.step p x) (c.step p x) (p + 1) n hc1 (.refl _ _) rfl rfl rfl hl1
            refine ⟨c1, q1, m1, r1, hr1.trans r2, by omega, ?_, r5, r6⟩
            rw [hm, scan_some hv hf, r4]
          · have e1 : (c.step p x).recs = c.recs ∧ (c.step p x).next = c.next := by
              unfold Sc.step; rw [if_neg hx]; exact ⟨rfl, rfl⟩
            exact scan_last n (p + 1) (c.step p x) c0 q m hc (hr.trans (.step hv hf (.refl _ _))) (e1.1.trans h1) (e1.2.trans h2) (by omega) hl
/-- Records do not become fewer. -/
theorem scan_more {h : Nat} {V : Nat → Option Pc} : ∀ (n p : Nat) (c : Sc), c.recs.length ≤ (scan h V n p c).1.length
  | 0, _, _ => Nat.le_refl _
  | n + 1, p, c => by
    rw [scan]
    cases V p with
    | none => exact Nat.le_refl _
    | some x =>
      simp only
      split
      · refine Nat.le_trans ?_ (scan_more n (p + 1) _)
        unfold Sc.step
        split <;> simp
      · exact Nat.le_refl _

/-! ### The pieces of a record -/
def pcs (l : Nat) (r : List UInt8) : List Pc := (List.range (secsN r)).map fun i => ⟨l, decide (i = 0), decide (i + 1 = secsN r), (r.drop (48 * i)).take 48⟩
@[simp] theorem pcs_length (l : Nat) (r : List UInt8) : (pcs l r).length = secsN r := by simp [pcs]
theorem pcs_get {l : Nat} {r : List UInt8} {i : Nat} (h : i < secsN r) : (pcs l r)[i]? = some ⟨l, decide (i = 0), decide (i + 1 = secsN r), (r.drop (48 * i)).take 48⟩ := by
  simp [pcs, h]
theorem take_chunk (r : List UInt8) (i : Nat) : r.take (48 * i) ++ (r.drop (48 * i)).take 48 = r.take (48 * (i + 1)) := by
  rw [show 48 * (i + 1) = 48 * i + 48 by omega, List.take_add]
theorem take_all (r : List UInt8) : r.take (48 * secsN r) = r := by
  apply List.take_of_length_le
  unfold secsN
  split <;> omega
/-- Inside a record. -/
def inn (recs : List (List UInt8)) (l next : Nat) (r : List UInt8) (i : Nat) : Sc := ⟨recs, r.take (48 * i), l, true, next⟩
/-- Behind a record. -/
def aft (recs : List (List UInt8)) (l : Nat) (r : List UInt8) (q : Nat) : Sc := ⟨recs ++ [r], [], l, false, q⟩
theorem aft_clean (recs : List (List UInt8)) (l : Nat) (r : List UInt8) (q : Nat) : (aft recs l r q).Clean q := ⟨rfl, rfl, rfl⟩
theorem first_fits {h l : Nat} {c : Sc} {p : Nat} (hc : c.Clean p) (hl : c.last ≤ l) (hh : l ≤ h) (b : Bool) (bs : List UInt8) : c.fits h ⟨l, true, b, bs⟩ = true := by
  unfold Sc.fits
  rw [hc.ins]
  simp [hl, hh]
theorem inn_fits {h l next i : Nat} {recs : List (List UInt8)} {r : List UInt8} (hh : l ≤ h) (b : Bool) (bs : List UInt8) : (inn recs l next r i).fits h ⟨l, false, b, bs⟩ = true := by
  unfold Sc.fits inn
  simp [hh]
theorem inn_step {l next i p : Nat} {recs : List (List UInt8)} {r : List UInt8} (b : Bool) (h : i < secsN r) : (inn recs l next r i).step p ⟨l, b, decide (i + 1 = secsN r), (r.drop (48 * i)).take 48⟩ = if i + 1 = secsN r then aft recs l r (p + 1) else inn recs l next r (i + 1) := by
  unfold Sc.step inn aft
  by_cases hi : i + 1 = secsN r
  · simp only [hi, decide_true, if_true]
    rw [take_chunk, hi, take_all]
  · simp only [hi, decide_false, if_false]
    rw [take_chunk]
    rfl
theorem first_step {l p : Nat} {c : Sc} {r : List UInt8} (hc : c.Clean p) : c.step p ⟨l, true, decide (0 + 1 = secsN r), (r.drop (48 * 0)).take 48⟩ = if 0 + 1 = secsN r then aft c.recs l r (p + 1) else inn c.recs l p r 1 := by
  have := inn_step (l := l) (next := p) (p := p) (recs := c.recs) (r := r) true (Nat.lt_of_lt_of_le Nat.zero_lt_one (secsN_pos r))
  unfold Sc.step at *
  rw [hc.part]
  simp only [inn, Nat.mul_zero, List.take_zero] at this ⊢
  by_cases hi : 0 + 1 = secsN r
  · simp only [hi, decide_true, if_true] at this ⊢
    exact this
  · simp only [hi, decide_false, if_false] at this ⊢
    rw [hc.next]
    exact this
theorem run_inn {h l next : Nat} {V : Nat → Option Pc} {p : Nat} {recs : List (List UInt8)} {r : List UInt8} (hh : l ≤ h) : ∀ (k i : Nat), i + k = secsN r → 0 < i → 0 < k → (∀ j, i ≤ j → j < secsN r → V (p + j) = (pcs l r)[j]?) → Run h V (p + i) (inn recs l next r i) (p + secsN r) (aft recs l r (p + secsN r))
  | 0, i, _, _, h0, _ => absurd h0 (Nat.lt_irrefl _)
  | k + 1, i, hik, hi, _, hv => by
    have hlt : i < secsN r := by omega
    have hV := (hv i (Nat.le_refl _) hlt).trans (pcs_get hlt)
    rw [decide_eq_false (show ¬ i = 0 by omega)] at hV
    refine .step hV (inn_fits hh _ _) ?_
    rw [inn_step _ hlt]
    by_cases he : i + 1 = secsN r
    · rw [if_pos he, show p + i + 1 = p + secsN r by omega]
      exact .refl _ _
    · rw [if_neg he, show p + i + 1 = p + (i + 1) by omega]
      exact run_inn hh k (i + 1) (by omega) (by omega) (by omega) (fun j h1 h2 => hv j (by omega) h2)
/-- A record that lies whole is read. -/
theorem run_rec {h l : Nat} {V : Nat → Option Pc} {p : Nat} {c : Sc} {r : List UInt8} (hc : c.Clean p) (hl : c.last ≤ l) (hh : l ≤ h) (hv : ∀ j, j < secsN r → V (p + j) = (pcs l r)[j]?) : Run h V p c (p + secsN r) (aft c.recs l r (p + secsN r)) := by
  have h0 := secsN_pos r
  have hV := (hv 0 (by omega)).trans (pcs_get (by omega))
  rw [decide_eq_true (show (0 : Nat) = 0 from rfl)] at hV
  refine .step hV (first_fits hc hl hh _ _) ?_
  rw [first_step hc]
  by_cases he : 0 + 1 = secsN r
  · rw [if_pos he, show p + 1 = p + secsN r by omega]
    exact .refl _ _
  · rw [if_neg he]
    exact run_inn hh (secsN r - 1) 1 (by omega) (by omega) (by omega) (fun j _ h2 => hv j h2)
def total (R : List (List UInt8)) (l : Nat) : List Pc := R.flatMap (pcs l)
theorem total_cons (r : List UInt8) (R : List (List UInt8)) (l : Nat) : total (r :: R) l = pcs l r ++ total R l := rfl
/-- Records that lie whole are read. -/
theorem run_recs {h l : Nat} {V : Nat → Option Pc} (hh : l ≤ h) : ∀ (R : List (List UInt8)) (p : Nat) (c : Sc), c.Clean p → c.last ≤ l → (∀ j, j < (total R l).length → V (p + j) = (total R l)[j]?) →
    ∃ c', c'.Clean (p + (total R l).length) ∧ c'.recs = c.recs ++ R ∧ c'.last ≤ l ∧ (c'.last = l ∨ R = []  ∧ c' = c) ∧ Run h V p c (p + (total R l).length) c'
  | [], p, c, hc, hl, _ => ⟨c, by simpa [total] using hc, by simp, hl, .inr ⟨rfl, rfl⟩, by simpa [total] using Run.refl p c⟩
  | r :: R, p, c, hc, hl, hv => by
    have h1 : Run h V p c (p + secsN r) (aft c.recs l r (p + secsN r)) := run_rec hc hl hh (fun j hj => by
      rw [hv j (by rw [total_cons]; simp; omega), total_cons, List.getElem?_append_left (by simpa using hj)])
    obtain ⟨c', r1, r2, r3, r4, r5⟩ := run_recs hh R (p + secsN r) (aft c.recs l r (p + secsN r)) (aft_clean _ _ _ _) (Nat.le_refl _) (fun j hj => by
      have := hv (secsN r + j) (by rw [total_cons]; simp; omega)
      rw [total_cons, List.getElem?_append_right (by simp), pcs_length, Nat.add_sub_cancel_left] at this
      rwa [Nat.add_assoc])
    refine ⟨c', ?_, ?_, r3, .inl (r4.elim id (fun e => by rw [e.2]; rfl)), ?_⟩
    · rw [total_cons, List.length_append, pcs_length, ← Nat.add_assoc]; exact r1
    · rw [r2]; simp [aft]
    · rw [total_cons, List.length_append, pcs_length, ← Nat.add_assoc]; exact h1.trans r5

/-! ### What a crash leaves -/
/-- Inside an elder record nothing is completed. -/
theorem mixed_elder {h l : Nat} {E V : Nat → Option Pc} : ∀ (n p : Nat) (c : Sc), c.ins = true → c.last < l → (∀ i x, p ≤ i → E i = some x → x.life < l) → (∀ i, p ≤ i → V i = E i ∨ ∃ x, V i = some x ∧ x.life = l) →
    scan h E n p c = (c.recs, c.next) → scan h V n p c = (c.recs, c.next)
  | 0, _, _, _, _, _, _, _ => rfl
  | n + 1, p, c, hi, hl, hE, hV, hs => by
    rcases hV p (Nat.le_refl _) with hv | ⟨x, hv, hx⟩
    · cases he : E p with
      | none => exact scan_no (hv.trans he)
      | some x =>
        cases hf : c.fits h x with
        | false => exact scan_unfit (hv.trans he) hf
        | true =>
          rw [scan_some he hf] at hs
          rw [scan_some (hv.trans he) hf]
          by_cases hx : x.lst = true
          · exfalso
            have := scan_more (h := h) (V := E) n (p + 1) (c.step p x)
            rw [hs] at this
            unfold Sc.step at this
            rw [if_pos hx] at this
            simp at this
            omega
          · have e : c.step p x = { c with part := c.part ++ x.bytes, last := x.life, ins := true } := by unfold Sc.step; rw [if_neg hx]
            rw [e] at hs ⊢
            exact mixed_elder n (p + 1) _ rfl (hE p x (Nat.le_refl _) he) (fun i y h1 h2 => hE i y (by omega) h2) (fun i h1 => hV i (by omega)) hs
    · refine scan_unfit hv ?_
      unfold Sc.fits
      rw [hi]
      simp only [if_true]
      rw [show (x.life == c.last) = false by simp; omega]
      simp
/-- Inside a record of this life. -/
theorem mixed_inn {h l next : Nat} {E V : Nat → Option Pc} {p m : Nat} {recs : List (List UInt8)} {r : List UInt8} (hh : l ≤ h) (hE : ∀ i x, E i = some x → x.life < l) :
    ∀ (k i n : Nat), i + k = secsN r → 0 < i → 0 < k → (∀ j, j < secsN r → V (p + j) = E (p + j) ∨ (j < m ∧ V (p + j) = (pcs l r)[j]?)) →
      (scan h V n (p + i) (inn recs l next r i)).1 = recs ∨ (secsN r ≤ m ∧ k ≤ n ∧ scan h V n (p + i) (inn recs l next r i) = scan h V (n - k) (p + secsN r) (aft recs l r (p + secsN r)))
  | 0, _, _, _, _, h0, _ => absurd h0 (Nat.lt_irrefl _)
  | k + 1, i, 0, _, _, _, _ => .inl rfl
  | k + 1, i, n + 1, hik, hi, _, hv => by
    have hlt : i < secsN r := by omega
    rcases hv i hlt with hve | ⟨him, hvc⟩
    · cases he : E (p + i) with
      | none => exact .inl (by rw [scan_no (hve.trans he)]; rfl)
      | some x =>
        have hxl := hE _ x he
        refine .inl ?_
        rw [scan_unfit (hve.trans he)]
        · rfl
        · unfold Sc.fits inn
          simp only [if_true]
          rw [show (x.life == l) = false by simp; omega]
          simp
    · rw [pcs_get hlt, decide_eq_false (show ¬ i = 0 by omega)] at hvc
      rw [scan_some hvc (inn_fits hh _ _), inn_step _ hlt]
      by_cases hlast : i + 1 = secsN r
      · rw [if_pos hlast]
        have hk : k = 0 := by omega
        subst hk
        exact .inr ⟨by omega, by omega, by rw [show p + i + 1 = p + secsN r by omega]; rfl⟩
      · rw [if_neg hlast, show p + i + 1 = p + (i + 1) by omega]
        rcases mixed_inn hh hE k (i + 1) n (by omega) (by omega) (by omega) hv with e | ⟨e1, e2, e3⟩
        · exact .inl e
        · exact .inr ⟨e1, by omega, by rw [e3, show n + 1 - (k + 1) = n - k by omega]⟩
/-- The records of this life, of which some sectors were lost: as many as lie whole ahead of the first gap. -/
theorem mixed {h l : Nat} {E V : Nat → Option Pc} (hh : l ≤ h) (hE : ∀ i x, E i = some x → x.life < l) : ∀ (R : List (List UInt8)) (r : List UInt8) (n p m : Nat) (c : Sc), c.Clean p → c.last ≤ l →
    (∀ i, V (p + i) = E (p + i) ∨ (i < m ∧ V (p + i) = (total R l ++ pcs l r)[i]?)) → m < (total R l ++ pcs l r).length → scan h E n p c = (c.recs, c.next) → ∃ j, j ≤ R.length ∧ (scan h V n p c).1 = c.recs ++ R.take j := by
  intro R
  induction R with
  | nil =>
    intro r n p m c hc hl hv hm hs
    refine ⟨0, Nat.le_refl _, ?_⟩
    rw [List.take_zero, List.append_nil]
    have hlife : ∀ i, p ≤ i → V i = E i ∨ ∃ x, V i = some x ∧ x.life = l := fun i hi => by
      rcases hv (i - p) with e | ⟨e1, e2⟩
      · left; rwa [show p + (i - p) = i by omega] at e
      · right
        rw [show p + (i - p) = i by omega] at e2
        have : i - p < secsN r := by simp [total] at hm; omega
        simp only [total, List.flatMap_nil, List.nil_append] at e2
        rw [pcs_get this] at e2
        exact ⟨_, e2, rfl⟩
    cases n with
    | zero => rfl
    | succ n =>
      rcases hv 0 with e | ⟨e1, e2⟩
      · rw [Nat.add_zero] at e
        cases he : E p with
        | none => rw [scan_no (e.trans he)]
        | some x =>
          cases hf : c.fits h x with
          | false => rw [scan_unfit (e.trans he) hf]
          | true =>
            rw [scan_some he hf] at hs
            rw [scan_some (e.trans he) hf]
            by_cases hx : x.lst = true
            · exfalso
              have := scan_more (h := h) (V := E) n (p + 1) (c.step p x)
              rw [hs] at this
              unfold Sc.step at this
              rw [if_pos hx] at this
              simp at this
              omega
            · have e' : c.step p x = { c with part := c.part ++ x.bytes, last := x.life, ins := true } := by unfold Sc.step; rw [if_neg hx]
              rw [e'] at hs ⊢
              rw [mixed_elder n (p + 1) _ rfl (hE p x he) (fun i y _ h2 => hE i y h2) (fun i h1 => hlife i (by omega)) hs]
      · rw [Nat.add_zero] at e2
        simp only [total, List.flatMap_nil, List.nil_append] at e2 hm hv
        rw [pcs_length] at hm
        rw [pcs_get (by omega), decide_eq_true (show (0 : Nat) = 0 from rfl)] at e2
        rw [scan_some e2 (first_fits hc hl hh _ _), first_step hc, if_neg (by omega)]
        rcases mixed_inn (next := p) (recs := c.recs) hh hE (secsN r - 1) 1 n (by omega) (by omega) (by omega) (fun j _ => hv j) with e3 | ⟨e3, _, _⟩
        · exact e3
        · omega
  | cons r0 R ih =>
    intro r n p m c hc hl hv hm hs
    have hlife : ∀ i, p ≤ i → V i = E i ∨ ∃ x, V i = some x ∧ x.life = l := fun i hi => by
      rcases hv (i - p) with e | ⟨e1, e2⟩
      · left; rwa [show p + (i - p) = i by omega] at e
      · right
        rw [show p + (i - p) = i by omega] at e2
        obtain ⟨y, hy⟩ : ∃ y, (total (r0 :: R) l ++ pcs l r)[i - p]? = some y := ⟨_, List.getElem?_eq_getElem (by omega)⟩
        refine ⟨y, e2.trans hy, ?_⟩
        have hmem := List.mem_of_getElem? hy
        rw [List.mem_append] at hmem
        have hp : ∀ q, y ∈ pcs l q → y.life = l := fun q hq => by
          simp only [pcs, List.mem_map] at hq
          obtain ⟨_, _, rfl⟩ := hq
          rfl
        rcases hmem with hmem | hmem
        · simp only [total, List.mem_flatMap] at hmem
          obtain ⟨q, _, hq⟩ := hmem
          exact hp q hq
        · exact hp r hmem
    cases n with
    | zero => exact ⟨0, Nat.zero_le _, by simp [scan]⟩
    | succ n =>
      rcases hv 0 with e | ⟨e1, e2⟩
      · rw [Nat.add_zero] at e
        refine ⟨0, Nat.zero_le _, ?_⟩
        rw [List.take_zero, List.append_nil]
        cases he : E p with
        | none => rw [scan_no (e.trans he)]
        | some x =>
          cases hf : c.fits h x with
          | false => rw [scan_unfit (e.trans he) hf]
          | true =>
            rw [scan_some he hf] at hs
            rw [scan_some (e.trans he) hf]
            by_cases hx : x.lst = true
            · exfalso
              have := scan_more (h := h) (V := E) n (p + 1) (c.step p x)
              rw [hs] at this
              unfold Sc.step at this
              rw [if_pos hx] at this
              simp at this
              omega
            · have e' : c.step p x = { c with part := c.part ++ x.bytes, last := x.life, ins := true } := by unfold Sc.step; rw [if_neg hx]
              rw [e'] at hs ⊢
              rw [mixed_elder n (p + 1) _ rfl (hE p x he) (fun i y _ h2 => hE i y h2) (fun i h1 => hlife i (by omega)) hs]
      · have h0 := secsN_pos r0
        have hv0 : ∀ j, j < secsN r0 → V (p + j) = E (p + j) ∨ (j < m ∧ V (p + j) = (pcs l r0)[j]?) := fun j hj => by
          rcases hv j with e | ⟨e1, e2⟩
          · exact .inl e
          · refine .inr ⟨e1, ?_⟩
            rw [e2, total_cons, List.append_assoc, List.getElem?_append_left (by simpa using hj)]
        have hc0 : (scan h V (n + 1) p c).1 = c.recs ∨ (secsN r0 ≤ m ∧ secsN r0 ≤ n + 1 ∧ scan h V (n + 1) p c = scan h V (n + 1 - secsN r0) (p + secsN r0) (aft c.recs l r0 (p + secsN r0))) := by
          rcases hv0 0 (by omega) with e | ⟨_, e2'⟩
          · have e3 : V (p + 0) = (pcs l r0)[0]? := by rw [e2, total_cons, List.append_assoc, List.getElem?_append_left (by simp; omega)]
            rw [Nat.add_zero] at e3
            rw [pcs_get (by omega), decide_eq_true (show (0 : Nat) = 0 from rfl)] at e3
            rw [scan_some e3 (first_fits hc hl hh _ _), first_step hc]
            by_cases he : 0 + 1 = secsN r0
            · rw [if_pos he]
              exact .inr ⟨by omega, by omega, by rw [show n + 1 - secsN r0 = n by omega, show p + 1 = p + secsN r0 by omega]⟩
            · rw [if_neg he]
              rcases mixed_inn (next := p) (recs := c.recs) hh hE (secsN r0 - 1) 1 n (by omega) (by omega) (by omega) hv0 with e3 | ⟨e3, e4, e5⟩
              · exact .inl e3
              · exact .inr ⟨e3, by omega, by rw [e5, show n - (secsN r0 - 1) = n + 1 - secsN r0 by omega]⟩
          · rw [Nat.add_zero] at e2'
            rw [pcs_get (by omega), decide_eq_true (show (0 : Nat) = 0 from rfl)] at e2'
            rw [scan_some e2' (first_fits hc hl hh _ _), first_step hc]
            by_cases he : 0 + 1 = secsN r0
            · rw [if_pos he]
              exact .inr ⟨by omega, by omega, by rw [show n + 1 - secsN r0 = n by omega, show p + 1 = p + secsN r0 by omega]⟩
            · rw [if_neg he]
              rcases mixed_inn (next := p) (recs := c.recs) hh hE (secsN r0 - 1) 1 n (by omega) (by omega) (by omega) hv0 with e3 | ⟨e3, e4, e5⟩
              · exact .inl e3
              · exact .inr ⟨e3, by omega, by rw [e5, show n - (secsN r0 - 1) = n + 1 - secsN r0 by omega]⟩
        rcases hc0 with e3 | ⟨e3, e4, e5⟩
        · exact ⟨0, Nat.zero_le _, by rw [e3]; simp⟩
        · have hsE : scan h E (n + 1 - secsN r0) (p + secsN r0) (aft c.recs l r0 (p + secsN r0)) = ((aft c.recs l r0 (p + secsN r0)).recs, (aft c.recs l r0 (p + secsN r0)).next) := by
            cases he : E (p + secsN r0) with
            | none => exact scan_no he
            | some x =>
              refine scan_unfit he ?_
              have := hE _ x he
              unfold Sc.fits aft
              simp
              omega
          obtain ⟨j, hj, hjs⟩ := ih r (n + 1 - secsN r0) (p + secsN r0) (m - secsN r0) (aft c.recs l r0 (p + secsN r0)) (aft_clean _ _ _ _) (Nat.le_refl _) (fun i => by
            rcases hv (secsN r0 + i) with e | ⟨e1, e2⟩
            · left; rwa [← Nat.add_assoc] at e
            · right
              refine ⟨by omega, ?_⟩
              rw [← Nat.add_assoc] at e2
              rw [e2, total_cons, List.append_assoc, List.getElem?_append_right (by simp), pcs_length, Nat.add_sub_cancel_left]) (by
            rw [total_cons, List.append_assoc, List.length_append, pcs_length] at hm
            omega) hsE
          exact ⟨j + 1, by simpa using hj, by rw [e5, hjs]; simp [aft]⟩
end Go.Proofs.Ytfaogebnpbcnhaa.L
