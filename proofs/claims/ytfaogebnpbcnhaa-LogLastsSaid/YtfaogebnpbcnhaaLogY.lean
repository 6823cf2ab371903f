/-
  A log over a disk whose power may fail: what stands on it in each state. No program.
-/
import Derived.Test.YtfaogebnpbcnhaaLogX
import Derived.Test.YtfaogebnpbcnhaaLogM
namespace Go.Proofs.Ytfaogebnpbcnhaa.L
set_option maxRecDepth 100000
open Go.RowKit K

theorem scan_congr {h : Nat} {V V' : Nat → Option Pc} : ∀ (n p : Nat) (c : Sc), (∀ i, p ≤ i → i < p + n → V' i = V i) → scan h V' n p c = scan h V n p c
  | 0, _, _, _ => rfl
  | n + 1, p, c, hv => by
    rw [scan, scan, hv p (Nat.le_refl _) (by omega)]
    cases V p with
    | none => rfl
    | some x => simp only; rw [scan_congr n (p + 1) _ (fun i h1 h2 => hv i (by omega) (by omega))]
/-- The pieces of a region as they last. -/
def viewL (L : List (List UInt8)) (first count e p : Nat) : Option Pc := if 1 ≤ p ∧ p < count then piece e p (look (L.getD (first + p) [])) else none
theorem viewL_in {L : List (List UInt8)} {first count e p : Nat} (h1 : 1 ≤ p) (h2 : p < count) : viewL L first count e p = piece e p (look (L.getD (first + p) [])) := if_pos ⟨h1, h2⟩
theorem viewL_same {L L' : List (List UInt8)} {first count e p : Nat} (h : 1 ≤ p → p < count → L'.getD (first + p) [] = L.getD (first + p) []) : viewL L' first count e p = viewL L first count e p := by
  unfold viewL
  split
  · rename_i hp; rw [h hp.1 hp.2]
  · rfl
theorem getD_set_ne' {L : List (List UInt8)} {i j : Nat} {b : List UInt8} (h : i ≠ j) : (L.set i b).getD j [] = L.getD j [] := by
  simp only [List.getD_eq_getElem?_getD]
  rw [List.getElem?_set_ne h]
theorem getD_set_eq {L : List (List UInt8)} {i : Nat} {b : List UInt8} (h : i < L.length) : (L.set i b).getD i [] = b := by
  simp only [List.getD_eq_getElem?_getD]
  rw [List.getElem?_set_self h]
  rfl
theorem load_view {u : U} {first count e h : Nat} (hP : u.P = []) : u.load first count e h = scan h (viewL u.L first count e) (count - 1) 1 sc0 := by
  unfold U.load
  refine scan_congr _ _ _ (fun i h1 h2 => ?_)
  rw [viewL_in h1 (by omega)]
  simp only [U.view, U.sec, hP, over, List.foldl_nil]
/-- A write that is refused. -/
theorem write_no {u : U} {n : Nat} {b : List UInt8} (hn : n < u.L.length) (hb : b.length = 64) (h : (u.write n b).1 ≠ 0) : (u.write n b).1 = 10 ∧ (u.write n b).2.up = false ∧ (u.write n b).2.P = u.P ∧ (u.write n b).2.L = u.L := by
  unfold U.write at *
  by_cases h1 : u.up = false
  · rw [if_pos h1]; exact ⟨rfl, h1, rfl, rfl⟩
  rw [if_neg h1, if_neg (by omega), if_neg (by omega)] at h ⊢
  by_cases h4 : u.spend.1 = false
  · rw [if_pos h4]
    refine ⟨rfl, ?_, spend_P u, spend_L u⟩
    unfold U.spend at *
    split at h4
    · rename_i h5; rw [if_pos h5]
    · split at h4 <;> simp at h4
  · rw [if_neg h4] at h; simp at h
theorem flush_no {u : U} (h : u.flush.1 ≠ 0) : u.flush.1 = 10 ∧ u.flush.2.up = false ∧ u.flush.2.P = u.P ∧ u.flush.2.L = u.L := by
  unfold U.flush at *
  by_cases h1 : u.up = false
  · rw [if_pos h1]; exact ⟨rfl, h1, rfl, rfl⟩
  rw [if_neg h1] at h ⊢
  by_cases h4 : u.spend.1 = false
  · rw [if_pos h4]
    refine ⟨rfl, ?_, spend_P u, spend_L u⟩
    unfold U.spend at *
    split at h4
    · rename_i h5; rw [if_pos h5]
    · split at h4 <;> simp at h4
  · rw [if_neg h4] at h; simp at h

/-- What lasts: no record of a later life than the head's. -/
structure Base (L : List (List UInt8)) (first count e h : Nat) : Prop where
  len : first + count ≤ L.length
  cnt : 2 ≤ count
  head : headLife (look (L.getD first [])) = h
  lives : ∀ p x, viewL L first count e p = some x → x.life ≤ h
def told (L : List (List UInt8)) (first count e h : Nat) : List (List UInt8) := (scan h (viewL L first count e) (count - 1) 1 sc0).1
theorem Base.set {L : List (List UInt8)} {first count e h : Nat} (b : Base L first count e h) (hh : h + 1 < 4294967296) : Base (L.set first (headSec (h + 1))) first count e (h + 1) ∧ told (L.set first (headSec (h + 1))) first count e (h + 1) = told L first count e h := by
  have hv : ∀ p, viewL (L.set first (headSec (h + 1))) first count e p = viewL L first count e p := fun p => viewL_same (fun h1 _ => getD_set_ne' (by omega))
  have hvf : viewL (L.set first (headSec (h + 1))) first count e = viewL L first count e := funext hv
  refine ⟨⟨by simpa using b.len, b.cnt, ?_, fun p x hx => Nat.le_succ_of_le (b.lives p x (by rw [← hv]; exact hx))⟩, ?_⟩
  · rw [getD_set_eq (by have := b.len; have := b.cnt; omega)]
    exact head_headSec hh
  · unfold told
    rw [hvf, scan_bound (Nat.le_succ h) _ _ _ (fun i x _ hx => b.lives i x hx)]

/-- The pending writes are these pieces, one behind the other. -/
def Laid (P : List (Nat × List UInt8)) (first e q : Nat) (cur : List Pc) : Prop :=
  ∀ i p, P[i]? = some p → p.1 = first + (q + i) ∧ ∃ x, cur[i]? = some x ∧ piece e (q + i) (look p.2) = some x
/-- A log that is open: safe lasts, rest is pending (and, where the power failed, some sectors of a further record). -/
structure Raw (u : U) (g : Lg) (first count e h : Nat) (safe rest : List (List UInt8)) (q : Nat) (c : Sc) (l : List UInt8) : Prop where
  gf : g.first = first
  gc : g.count = count
  ge : g.epoch = e
  gl : g.life = h + 1
  len : first + count ≤ u.L.length
  cnt : 2 ≤ count
  c16 : count ≤ 4096
  hl : h + 1 < 4294967296
  ep : e < 4294967296
  head : headLife (look (u.L.getD first [])) = h + 1
  clean : c.Clean q
  recs : c.recs = safe
  last : c.last ≤ h + 1
  q1 : 1 ≤ q
  run : Run (h + 1) (viewL u.L first count e) 1 sc0 q c
  elder : ∀ p x, q ≤ p → viewL u.L first count e p = some x → x.life ≤ h
  lives : ∀ p x, viewL u.L first count e p = some x → x.life ≤ h + 1
  stop : scan (h + 1) (viewL u.L first count e) (count - q) q c = (safe, q)
  laid : Laid u.P first e q (total rest (h + 1) ++ pcs (h + 1) l)
  next : g.next = q + (total rest (h + 1)).length
  m0 : (total rest (h + 1)).length ≤ u.P.length
  m1 : u.P.length < (total rest (h + 1) ++ pcs (h + 1) l).length
  fit : q + u.P.length ≤ count
  up : u.up = true → u.P.length = (total rest (h + 1)).length
def Live (u : U) (g : Lg) (first count e h : Nat) (safe rest : List (List UInt8)) : Prop := ∃ q c l, Raw u g first count e h safe rest q c l
/-- Any record serves for the one that is not there. -/
theorem Raw.any {u : U} {g : Lg} {first count e h : Nat} {safe rest : List (List UInt8)} {q : Nat} {c : Sc} {l : List UInt8} (r : Raw u g first count e h safe rest q c l) (hm : u.P.length = (total rest (h + 1)).length) (l' : List UInt8) : Raw u g first count e h safe rest q c l' := by
  refine { r with laid := fun i p hp => ?_, m1 := by rw [List.length_append, pcs_length]; have := secsN_pos l'; omega }
  obtain ⟨h1, x, h2, h3⟩ := r.laid i p hp
  have hi : i < u.P.length := (List.getElem?_eq_some_iff.1 hp).1
  rw [List.getElem?_append_left (by omega)] at h2 ⊢
  exact ⟨h1, x, h2, h3⟩

theorem picked_mem : ∀ (P : List (Nat × List UInt8)) (k : List Bool) (p : Nat × List UInt8), p ∈ picked P k → p ∈ P
  | [], _, p, h => by simp [picked] at h
  | a :: r, [], p, h => by simp [picked] at h
  | a :: r, b :: bs, p, h => by
    unfold picked at h
    split at h
    · rcases List.mem_cons.1 h with rfl | h
      · exact List.mem_cons_self
      · exact List.mem_cons_of_mem _ (picked_mem r bs p h)
    · exact List.mem_cons_of_mem _ (picked_mem r bs p h)
theorem applied_get : ∀ (Q : List (Nat × List UInt8)) (L : List (List UInt8)) (i : Nat), i < L.length → (applied L Q).getD i [] = L.getD i [] ∨ ∃ p ∈ Q, p.1 = i ∧ (applied L Q).getD i [] = p.2
  | [], L, i, _ => .inl rfl
  | a :: r, L, i, hi => by
    show (applied (L.set a.1 a.2) r).getD i [] = _ ∨ _
    rcases applied_get r (L.set a.1 a.2) i (by simpa using hi) with e | ⟨p, hp, h1, h2⟩
    · by_cases ha : a.1 = i
      · subst ha
        rw [getD_set_eq hi] at e
        exact .inr ⟨a, List.mem_cons_self, rfl, e⟩
      · rw [getD_set_ne' ha] at e
        exact .inl e
    · exact .inr ⟨p, List.mem_cons_of_mem _ hp, h1, h2⟩
theorem applied_out (Q : List (Nat × List UInt8)) (L : List (List UInt8)) (i : Nat) (h : ∀ p ∈ Q, p.1 ≠ i) : (applied L Q).getD i [] = L.getD i [] := by
  induction Q generalizing L with
  | nil => rfl
  | cons a r ih =>
    show (applied (L.set a.1 a.2) r).getD i [] = _
    rw [ih _ (fun p hp => h p (List.mem_cons_of_mem _ hp)), getD_set_ne' (h a List.mem_cons_self)]
section
variable {u : U} {g : Lg} {first count e h : Nat} {safe rest : List (List UInt8)} {q : Nat} {c : Sc} {l : List UInt8}
theorem Raw.place (r : Raw u g first count e h safe rest q c l) {p : Nat × List UInt8} (hp : p ∈ u.P) : ∃ i, i < u.P.length ∧ p.1 = first + (q + i) ∧ ∃ x, (total rest (h + 1) ++ pcs (h + 1) l)[i]? = some x ∧ piece e (q + i) (look p.2) = some x := by
  obtain ⟨i, hi⟩ := List.getElem?_of_mem hp
  obtain ⟨h1, h2⟩ := r.laid i p hi
  exact ⟨i, (List.getElem?_eq_some_iff.1 hi).1, h1, h2⟩
theorem cur_life {R : List (List UInt8)} {l : List UInt8} {h i : Nat} {x : Pc} (hx : (total R h ++ pcs h l)[i]? = some x) : x.life = h := by
  have hmem := List.mem_of_getElem? hx
  have hp : ∀ q, x ∈ pcs h q → x.life = h := fun q hq => by
    simp only [pcs, List.mem_map] at hq
    obtain ⟨_, _, rfl⟩ := hq
    rfl
  rcases List.mem_append.1 hmem with hmem | hmem
  · simp only [total, List.mem_flatMap] at hmem
    obtain ⟨q, _, hq⟩ := hmem
    exact hp q hq
  · exact hp l hmem
/-- What a crash leaves of it. -/
theorem Raw.crash (r : Raw u g first count e h safe rest q c l) (keep : List Bool) :
    Base (applied u.L (picked u.P keep)) first count e (h + 1) ∧ ∃ j, j ≤ rest.length ∧ told (applied u.L (picked u.P keep)) first count e (h + 1) = safe ++ rest.take j := by
  have hq := r.q1
  have hfit := r.fit
  have hlen := r.len
  have hout : ∀ i, i < first + q → (applied u.L (picked u.P keep)).getD i [] = u.L.getD i [] := fun i hi => applied_out _ _ _ (fun p hp => by
    obtain ⟨k, _, h1, _⟩ := r.place (picked_mem _ _ _ hp)
    omega)
  have hlow : ∀ i, i < q → viewL (applied u.L (picked u.P keep)) first count e i = viewL u.L first count e i := fun i hi => viewL_same (fun _ _ => hout _ (by omega))
  have hmix : ∀ i, viewL (applied u.L (picked u.P keep)) first count e (q + i) = viewL u.L first count e (q + i) ∨ (i < u.P.length ∧ viewL (applied u.L (picked u.P keep)) first count e (q + i) = (total rest (h + 1) ++ pcs (h + 1) l)[i]?) := fun i => by
    by_cases hi : q + i < count
    · rw [viewL_in (by omega) hi, viewL_in (by omega) hi]
      rcases applied_get (picked u.P keep) u.L (first + (q + i)) (by omega) with e1 | ⟨p, hp, h1, h2⟩
      · left; rw [e1]
      · obtain ⟨k, hk, h3, x, h4, h5⟩ := r.place (picked_mem _ _ _ hp)
        have hki : k = i := by omega
        subst hki
        exact .inr ⟨hk, by rw [h2, h5, h4]⟩
    · left
      unfold viewL
      rw [if_neg (by omega), if_neg (by omega)]
  have hlives : ∀ p x, viewL (applied u.L (picked u.P keep)) first count e p = some x → x.life ≤ h + 1 := fun p x hx => by
    by_cases hp : p < q
    · exact r.lives p x (by rw [← hlow p hp]; exact hx)
    · have := hmix (p - q)
      rw [show q + (p - q) = p by omega] at this
      rcases this with e1 | ⟨_, e2⟩
      · exact r.lives p x (by rw [← e1]; exact hx)
      · rw [e2] at hx
        exact Nat.le_of_eq (cur_life hx)
  refine ⟨⟨by simpa using r.len, r.cnt, by rw [hout first (by omega)]; exact r.head, hlives⟩, ?_⟩
  have hrun : Run (h + 1) (viewL (applied u.L (picked u.P keep)) first count e) 1 sc0 q c := r.run.same (fun i _ h2 => hlow i h2)
  obtain ⟨j, hj, hjs⟩ := mixed (E := fun p => if q ≤ p then viewL u.L first count e p else none) (V := viewL (applied u.L (picked u.P keep)) first count e) (Nat.le_refl (h + 1)) (fun i x hx => by
      split at hx
      · rename_i hqi
        have := r.elder i x hqi hx
        omega
      · cases hx) rest l (count - q) q u.P.length c r.clean r.last (fun i => by
      rw [if_pos (by omega)]
      exact hmix i) r.m1 (by
      rw [r.recs, r.clean.next, ← r.stop]
      exact scan_congr _ _ _ (fun i h1 _ => if_pos h1))
  refine ⟨j, hj, ?_⟩
  unfold told
  have := hrun.scan (count - q)
  rw [show count - q + (q - 1) = count - 1 by omega] at this
  rw [this, hjs, r.recs]
/-- What was made to last. -/
theorem Raw.flush (r : Raw u g first count e h safe rest q c l) (hf : u.flush.1 = 0) : Live u.flush.2 g first count e h (safe ++ rest) [] := by
  obtain ⟨hup, hs, he, hup'⟩ := flush_ok hf
  have hm := r.up hup
  have hq := r.q1
  have hfit := r.fit
  have hlen := r.len
  have hout : ∀ i, (i < first + q ∨ first + q + u.P.length ≤ i) → (applied u.L u.P).getD i [] = u.L.getD i [] := fun i hi => applied_out _ _ _ (fun p hp => by
    obtain ⟨k, _, h1, _⟩ := r.place hp
    omega)
  have hin : ∀ i, i < u.P.length → viewL (applied u.L u.P) first count e (q + i) = (total rest (h + 1))[i]? := fun i hi => by
    rw [viewL_in (by omega) (by omega)]
    have hnd : ∀ p ∈ u.P, p.1 = first + (q + i) → piece e (q + i) (look p.2) = (total rest (h + 1))[i]? := fun p hp h1 => by
      obtain ⟨k, hk, h3, x, h4, h5⟩ := r.place hp
      have hki : k = i := by omega
      subst hki
      rw [List.getElem?_append_left (by omega)] at h4
      rw [h5, h4]
    obtain ⟨p0, hp0⟩ : ∃ p, u.P[i]? = some p := ⟨_, List.getElem?_eq_getElem hi⟩
    have h0 := r.laid i p0 hp0
    have hlast : ∀ (Q : List (Nat × List UInt8)) (L : List (List UInt8)) (j : Nat) (p : Nat × List UInt8), Q[j]? = some p → p.1 < L.length → ∃ p' ∈ Q, p'.1 = p.1 ∧ (applied L Q).getD p.1 [] = p'.2 := by
      intro Q
      induction Q with
      | nil => intro L j p hj; simp at hj
      | cons a t ih =>
        intro L j p hj hl
        show ∃ p' ∈ a :: t, p'.1 = p.1 ∧ (applied (L.set a.1 a.2) t).getD p.1 [] = p'.2
        rcases applied_get t (L.set a.1 a.2) p.1 (by simpa using hl) with e1 | ⟨p', hp', h1, h2⟩
        · cases j with
          | zero =>
            obtain rfl : a = p := by simpa using hj
            rw [getD_set_eq hl] at e1
            exact ⟨a, List.mem_cons_self, rfl, e1⟩
          | succ j =>
            obtain ⟨p', hp', h1, h2⟩ := ih (L.set a.1 a.2) j p (by simpa using hj) (by simpa using hl)
            exact ⟨p', List.mem_cons_of_mem _ hp', h1, h2⟩
        · exact ⟨p', List.mem_cons_of_mem _ hp', h1, h2⟩
    obtain ⟨p', hp', h1, h2⟩ := hlast u.P u.L i p0 hp0 (by rw [h0.1]; omega)
    rw [← h0.1, h2]
    exact hnd p' hp' (h1.trans h0.1)
  have hlow : ∀ i, i < q → viewL (applied u.L u.P) first count e i = viewL u.L first count e i := fun i hi => viewL_same (fun _ _ => hout _ (by omega))
  have hhigh : ∀ i, q + u.P.length ≤ i → viewL (applied u.L u.P) first count e i = viewL u.L first count e i := fun i hi => viewL_same (fun _ _ => hout _ (by omega))
  have hrun : Run (h + 1) (viewL (applied u.L u.P) first count e) 1 sc0 q c := r.run.same (fun i _ h2 => hlow i h2)
  obtain ⟨c', r1, r2, r3, r4, r5⟩ := run_recs (V := viewL (applied u.L u.P) first count e) (Nat.le_refl (h + 1)) rest q c r.clean r.last (fun j hj => hin j (by omega))
  have hL : u.flush.2.L = applied u.L u.P := by rw [he]
  have hP : u.flush.2.P = [] := by rw [he]
  refine ⟨q + (total rest (h + 1)).length, c', [], ?_⟩
  refine ⟨r.gf, r.gc, r.ge, r.gl, by rw [hL]; simpa using r.len, r.cnt, r.c16, r.hl, r.ep, by rw [hL, hout first (by omega)]; exact r.head, r1, by rw [r2, r.recs], r3, by omega, by rw [hL]; exact hrun.trans r5, ?_, ?_, ?_, ?_, ?_, ?_, ?_, ?_, ?_⟩
  · intro p x hp hx
    rw [hL, hhigh p (by omega)] at hx
    exact r.elder p x (by omega) hx
  · intro p x hx
    rw [hL] at hx
    by_cases hp : p < q
    · exact r.lives p x (by rw [← hlow p hp]; exact hx)
    · by_cases hp2 : p < q + u.P.length
      · have := hin (p - q) (by omega)
        rw [show q + (p - q) = p by omega] at this
        rw [this] at hx
        have : (total rest (h + 1) ++ pcs (h + 1) l)[p - q]? = some x := by rw [List.getElem?_append_left (by omega)]; exact hx
        exact Nat.le_of_eq (cur_life this)
      · exact r.lives p x (by rw [← hhigh p (by omega)]; exact hx)
  · rw [hL]
    rcases r4 with r4 | ⟨r4, r4'⟩
    · cases hv : viewL (applied u.L u.P) first count e (q + (total rest (h + 1)).length) with
      | none => rw [scan_no hv, r2, r1.next, r.recs]
      | some x =>
        rw [scan_unfit hv, r2, r1.next, r.recs]
        rw [hhigh _ (by omega)] at hv
        have := r.elder _ x (by omega) hv
        unfold Sc.fits
        rw [r1.ins, r4]
        simp
        omega
    · subst r4
      subst r4'
      simp only [total, List.flatMap_nil, List.length_nil, Nat.add_zero, List.append_nil] at hm ⊢
      rw [← r.stop]
      exact scan_congr _ _ _ (fun i h1 _ => hhigh i (by omega))
  · rw [hP]; intro i p hp; simp at hp
  · rw [r.next]; simp [total]
  · simp [total]
  · rw [hP]
    simp [total, pcs_length]
    exact secsN_pos []
  · rw [hP]
    simp
    omega
  · intro _; rw [hP]; simp [total]
theorem Raw.flushed (r : Raw u g first count e h safe rest q c l) (hf : u.flush.1 ≠ 0) : Live u.flush.2 g first count e h safe rest := by
  obtain ⟨_, h1, h2, h3⟩ := flush_no hf
  exact ⟨q, c, l, ⟨r.gf, r.gc, r.ge, r.gl, by rw [h3]; exact r.len, r.cnt, r.c16, r.hl, r.ep, by rw [h3]; exact r.head, r.clean, r.recs, r.last, r.q1, by rw [h3]; exact r.run, by rw [h3]; exact r.elder, by rw [h3]; exact r.lives, by rw [h3]; exact r.stop, by rw [h2]; exact r.laid, r.next, by rw [h2]; exact r.m0, by rw [h2]; exact r.m1, by rw [h2]; exact r.fit, fun e1 => by rw [h1] at e1; cases e1⟩⟩
end
end Go.Proofs.Ytfaogebnpbcnhaa.L
