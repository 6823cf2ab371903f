/-
  A log over a disk whose power may fail: appending and opening. No program.
-/
import Derived.Test.YtfaogebnpbcnhaaLogY
namespace Go.Proofs.Ytfaogebnpbcnhaa.L
set_option maxRecDepth 100000
open Go.RowKit K

theorem chunk_full {r : List UInt8} {i : Nat} (h : i + 1 < secsN r) : ((r.drop (48 * i)).take 48).length = 48 := by
  have := secsN_fit r h
  rw [List.length_take, List.length_drop]
  omega
/-- What is written of a record is its pieces. -/
theorem rec_piece {g : Lg} {r : List UInt8} {i : Nat} (he : g.epoch < 4294967296) (hl : g.life < 4294967296) (hp : g.next + i < 65536) (hi : i < secsN r) : piece g.epoch (g.next + i) (look (recSec g r (secsN r) i)) = (pcs g.life r)[i]? := by
  have hb : ((r.drop (48 * i)).take 48).length ≤ 48 := by rw [List.length_take]; omega
  unfold recSec
  simp only
  rw [pcs_get hi, look_made he hl hp (by split <;> split <;> decide) (by omega)]
  unfold piece
  simp only
  rw [if_pos]
  · have h1 : (pad48 ((r.drop (48 * i)).take 48)).take ((r.drop (48 * i)).take 48).length = (r.drop (48 * i)).take 48 := by simp [pad48]
    have hk1 : ((if i = 0 then 1 else 0) + (if i + 1 = secsN r then 2 else 0)) % 2 = 1 ↔ i = 0 := by split <;> split <;> omega
    have hk2 : ((if i = 0 then 1 else 0) + (if i + 1 = secsN r then 2 else 0)) / 2 = 1 ↔ i + 1 = secsN r := by split <;> split <;> omega
    rw [h1, decide_eq_decide.2 hk1, decide_eq_decide.2 hk2]
  · refine ⟨trivial, trivial, trivial, hb, by split <;> split <;> decide, ?_⟩
    by_cases hn : i + 1 = secsN r
    · left
      rw [if_pos hn]
      split <;> rfl
    · right
      exact chunk_full (by omega)
section
variable {u : U} {g : Lg} {first count e h : Nat} {safe rest : List (List UInt8)} {q : Nat} {c : Sc} {l : List UInt8}
theorem recSec_len (g : Lg) (r : List UInt8) (n i : Nat) : (recSec g r n i).length = 64 := made_length (pad48_length (by rw [List.length_take]; omega))
theorem puts_laid (r : List UInt8) (T : List Pc) (hf : g.first = first) (hn : g.next = q + T.length) (he : g.epoch = e) (hl : g.life = h + 1) (hh : h + 1 < 4294967296) (hep : e < 4294967296) (hpl : g.next + secsN r ≤ 4096) :
    ∀ (k i : Nat) (u : U), i + k = secsN r → Laid u.P first e q (T ++ pcs (h + 1) r) → u.P.length = T.length + i → first + (q + T.length + secsN r) ≤ u.L.length →
      (u.puts g r (secsN r) k i).2.L = u.L ∧ Laid (u.puts g r (secsN r) k i).2.P first e q (T ++ pcs (h + 1) r) ∧
        (((u.puts g r (secsN r) k i).1 = 0 ∧ (u.puts g r (secsN r) k i).2.P.length = T.length + secsN r) ∨
          ((u.puts g r (secsN r) k i).1 = 10 ∧ (u.puts g r (secsN r) k i).2.up = false ∧ T.length + i ≤ (u.puts g r (secsN r) k i).2.P.length ∧ (u.puts g r (secsN r) k i).2.P.length < T.length + secsN r))
  | 0, i, u, hik, hL, hm, _ => ⟨rfl, hL, .inl ⟨rfl, by show u.P.length = _; omega⟩⟩
  | k + 1, i, u, hik, hL, hm, hlen => by
    rw [puts_step]
    simp only
    have hpn : g.first + (g.next + i) = first + (q + (T.length + i)) := by omega
    by_cases ha : (u.write (g.first + (g.next + i) : Nat) (recSec g r (secsN r) i)).1 = 0
    · rw [if_neg (by simpa using ha)]
      obtain ⟨_, _, _, _, h5, h6⟩ := write_ok ha
      have hP : (u.write (g.first + (g.next + i) : Nat) (recSec g r (secsN r) i)).2.P = u.P ++ [(first + (q + (T.length + i)), recSec g r (secsN r) i)] := by
        rw [h5]
        simp only
        rw [pad8_all (recSec_len _ _ _ _), hpn]
        rfl
      have hLe : (u.write (g.first + (g.next + i) : Nat) (recSec g r (secsN r) i)).2.L = u.L := write_L _ _ _
      have hL' : Laid (u.write (g.first + (g.next + i) : Nat) (recSec g r (secsN r) i)).2.P first e q (T ++ pcs (h + 1) r) := by
        rw [hP]
        intro j p hj
        by_cases hjl : j < u.P.length
        · rw [List.getElem?_append_left hjl] at hj
          exact hL j p hj
        · rw [List.getElem?_append_right (by omega)] at hj
          have hj0 : j - u.P.length = 0 := by
            have := (List.getElem?_eq_some_iff.1 hj).1
            simp at this
            omega
          rw [hj0] at hj
          obtain rfl : _ = p := by simpa using hj
          have hjt : j = T.length + i := by omega
          subst hjt
          have hrp := rec_piece (g := g) (r := r) (i := i) (by rw [he]; exact hep) (by rw [hl]; exact hh) (by omega) (by omega)
          have hget := pcs_get (l := h + 1) (r := r) (i := i) (by omega)
          rw [he, hn, hl, hget] at hrp
          refine ⟨rfl, ⟨h + 1, decide (i = 0), decide (i + 1 = secsN r), (r.drop (48 * i)).take 48⟩, ?_, ?_⟩
          · rw [List.getElem?_append_right (by omega), Nat.add_sub_cancel_left]
            exact hget
          · rw [show q + (T.length + i) = q + T.length + i by omega]
            exact hrp
      obtain ⟨r1, r2, r3⟩ := puts_laid r T hf hn he hl hh hep hpl k (i + 1) (u.write (g.first + (g.next + i) : Nat) (recSec g r (secsN r) i)).2 (by omega) hL' (by rw [hP]; simp; omega) (by rw [hLe]; exact hlen)
      refine ⟨r1.trans hLe, r2, r3.imp id (fun ⟨s1, s2, s3, s4⟩ => ⟨s1, s2, by omega, s4⟩)⟩
    · rw [if_pos ha]
      obtain ⟨h1, h2, h3, h4⟩ := write_no (n := g.first + (g.next + i)) (by omega) (recSec_len _ _ _ _) ha
      exact ⟨h4, by rw [h3]; exact hL, .inr ⟨h1, h2, by rw [h3]; omega, by rw [h3]; omega⟩⟩
theorem total_snoc (R : List (List UInt8)) (r : List UInt8) (l : Nat) : total (R ++ [r]) l = total R l ++ pcs l r := by simp [total]
/-- Appending. -/
theorem Raw.append (r : Raw u g first count e h safe rest q c l) (x : List UInt8) :
    ((u.append g x).1 = 0 → Live (u.append g x).2.1 (u.append g x).2.2 first count e h safe (rest ++ [x])) ∧ ((u.append g x).1 ≠ 0 → Live (u.append g x).2.1 (u.append g x).2.2 first count e h safe rest) := by
  unfold U.append
  by_cases h1 : 2000 < x.length
  · rw [if_pos h1]
    exact ⟨fun e => by simp at e, fun _ => ⟨q, c, l, r⟩⟩
  rw [if_neg h1]
  simp only
  by_cases h2 : g.count < g.next + secsN x
  · rw [if_pos h2]
    exact ⟨fun e => by simp at e, fun _ => ⟨q, c, l, r⟩⟩
  rw [if_neg h2]
  have hgc := r.gc
  have hlen := r.len
  have hc16 := r.c16
  have hnx := r.next
  by_cases hup : u.up = true
  · have hm := r.up hup
    have r' := r.any hm x
    obtain ⟨p1, p2, p3⟩ := puts_laid (g := g) (first := first) (q := q) (e := e) (h := h) x (total rest (h + 1)) r.gf r.next r.ge r.gl r.hl r.ep (by omega) (secsN x) 0 u (by omega) r'.laid (by omega) (by omega)
    generalize u.puts g x (secsN x) (secsN x) 0 = a at p1 p2 p3
    obtain ⟨a1, a2⟩ := a
    simp only at p1 p2 p3 ⊢
    rcases p3 with ⟨s1, s2⟩ | ⟨s1, s2, s3, s4⟩
    · subst s1
      rw [if_neg (by simp)]
      refine ⟨fun _ => ⟨q, c, [], ?_⟩, fun e => by simp at e⟩
      have ht : (total (rest ++ [x]) (h + 1)).length = (total rest (h + 1)).length + secsN x := by rw [total_snoc]; simp
      refine ⟨r.gf, r.gc, r.ge, r.gl, by rw [p1]; exact r.len, r.cnt, r.c16, r.hl, r.ep, by rw [p1]; exact r.head, r.clean, r.recs, r.last, r.q1, by rw [p1]; exact r.run, by rw [p1]; exact r.elder, by rw [p1]; exact r.lives, by rw [p1]; exact r.stop, ?_, by simp only; omega, by simp only; omega, by rw [List.length_append, pcs_length]; have := secsN_pos []; simp only; omega, by simp only; omega, fun _ => by simp only; omega⟩
      intro i p hp
      obtain ⟨q1, y, q2, q3⟩ := p2 i p hp
      have hi : i < a2.P.length := (List.getElem?_eq_some_iff.1 hp).1
      refine ⟨q1, y, ?_, q3⟩
      rw [total_snoc, List.getElem?_append_left (by simp; omega)]
      exact q2
    · subst s1
      rw [if_pos (by simp)]
      refine ⟨fun e => by simp at e, fun _ => ⟨q, c, x, ?_⟩⟩
      exact ⟨r.gf, r.gc, r.ge, r.gl, by rw [p1]; exact r.len, r.cnt, r.c16, r.hl, r.ep, by rw [p1]; exact r.head, r.clean, r.recs, r.last, r.q1, by rw [p1]; exact r.run, by rw [p1]; exact r.elder, by rw [p1]; exact r.lives, by rw [p1]; exact r.stop, p2, r.next, by simp only; omega, by rw [List.length_append, pcs_length]; simp only; omega, by simp only; omega, fun e1 => by rw [s2] at e1; cases e1⟩
  · have hd : u.up = false := by simpa using hup
    have hw : ∀ n b, u.write n b = (10, u) := fun n b => by unfold U.write; rw [if_pos hd]
    have hp : u.puts g x (secsN x) (secsN x) 0 = (10, u) := by
      obtain ⟨k, hk⟩ : ∃ k, secsN x = k + 1 := ⟨secsN x - 1, by have := secsN_pos x; omega⟩
      rw [hk, puts_step]
      simp only [hw]
      rw [if_pos (by simp)]
    rw [hp]
    simp only
    rw [if_pos (by simp)]
    exact ⟨fun e => by simp at e, fun _ => ⟨q, c, l, r⟩⟩
end
/-- A log that could not be opened: what lasts is as it was, but for the head. -/
structure Lost (u : U) (first count e h : Nat) (R : List (List UInt8)) : Prop where
  base : Base u.L first count e h
  tld : told u.L first count e h = R
  pend : u.P = [] ∨ u.P = [(first, headSec (h + 1))]
theorem Lost.crash {u : U} {first count e h : Nat} {R : List (List UInt8)} (r : Lost u first count e h R) (hh : h + 1 < 4294967296) (keep : List Bool) :
    ∃ h', (h' = h ∨ h' = h + 1) ∧ Base (applied u.L (picked u.P keep)) first count e h' ∧ told (applied u.L (picked u.P keep)) first count e h' = R := by
  have hpk : picked u.P keep = [] ∨ picked u.P keep = [(first, headSec (h + 1))] := by
    rcases r.pend with e | e
    · left; rw [e]; rfl
    · rw [e]
      cases keep with
      | nil => left; rfl
      | cons b bs =>
        cases b
        · left; simp [picked]
        · right; simp [picked]
  rcases hpk with e1 | e1
  · rw [e1]; exact ⟨h, .inl rfl, r.base, r.tld⟩
  · rw [e1]
    have := r.base.set hh
    exact ⟨h + 1, .inr rfl, this.1, this.2.trans r.tld⟩
theorem Base.opens {u : U} {first count e h : Nat} (b : Base u.L first count e h) (hP : u.P = []) (hup : u.up = true) (hh : h + 1 < 4294967296) (c16 : count ≤ 4096) (ep : e < 4294967296) :
    ((u.opens first count e).1 = 0 ∧ ∃ g, (u.opens first count e).2.2 = some (g, told u.L first count e h) ∧ Live (u.opens first count e).2.1 g first count e h (told u.L first count e h) [] ∧ (u.opens first count e).2.1.L = u.L.set first (headSec (h + 1)) ∧ (u.opens first count e).2.1.up = true ∧ (u.opens first count e).2.1.P = [])
    ∨ ((u.opens first count e).1 = 10 ∧ (u.opens first count e).2.2 = none ∧ Lost (u.opens first count e).2.1 first count e h (told u.L first count e h)) := by
  have hf := b.len
  have hc := b.cnt
  have hs : u.sec first = u.L.getD first [] := by simp [U.sec, hP, over]
  have hsec : headLife (look (u.sec first)) = h := by rw [hs]; exact b.head
  have hbeg : u.begin first = (let a := u.write (first : Nat) (headSec (h + 1)); if a.1 ≠ 0 then (a.1, a.2, h) else (a.2.flush.1, a.2.flush.2, h)) := by
    unfold U.begin
    rw [if_neg (by simp [hup]), hsec]
    simp only
    rw [if_neg (by omega)]
    rfl
  by_cases ha : (u.write (first : Nat) (headSec (h + 1))).1 = 0
  · have hb : u.begin first = ((u.write (first : Nat) (headSec (h + 1))).2.flush.1, (u.write (first : Nat) (headSec (h + 1))).2.flush.2, h) := hbeg.trans (if_neg (by simpa using ha))
    unfold U.opens
    rw [hb]
    obtain ⟨_, _, _, _, h5, h6⟩ := write_ok ha
    have hWP : (u.write (first : Nat) (headSec (h + 1))).2.P = [(first, headSec (h + 1))] := by
      rw [h5]; simp only; rw [hP, pad8_all (headSec_len _)]; rfl
    have hWL : (u.write (first : Nat) (headSec (h + 1))).2.L = u.L := write_L _ _ _
    clear hb hbeg
    generalize (u.write (first : Nat) (headSec (h + 1))).2 = a at hWP hWL h6 ⊢
    simp only
    by_cases hfl : a.flush.1 = 0
    · left
      rw [if_neg (by simpa using hfl)]
      obtain ⟨_, _, f3, f4⟩ := flush_ok hfl
      have hL : a.flush.2.L = u.L.set first (headSec (h + 1)) := by rw [f3, hWP, hWL]; rfl
      have hFP : a.flush.2.P = [] := by rw [f3]
      generalize a.flush.2 = b2 at hL hFP f4
      have hvf : viewL b2.L first count e = viewL u.L first count e := funext fun p => by rw [hL]; exact viewL_same (fun h1 _ => getD_set_ne' (by omega))
      have hlo : b2.load first count e h = scan h (viewL u.L first count e) (count - 1) 1 sc0 := by rw [load_view hFP, hvf]
      obtain ⟨c1, q1, m1, s1, s2, s3, s4, s5, s6⟩ := scan_last (h := h) (V := viewL u.L first count e) (count - 1) 1 sc0 sc0 1 (count - 1) ⟨rfl, rfl, rfl⟩ (.refl _ _) rfl rfl rfl (Nat.zero_le _)
      have hq := s2.le
      have htold : told u.L first count e h = c1.recs := by unfold told; rw [s4]
      refine ⟨rfl, ⟨first, count, e, h + 1, (b2.load first count e h).2⟩, by rw [hlo]; rfl, ?_, hL, f4, hFP⟩
      rw [htold]
      refine ⟨q1, c1, [], rfl, rfl, rfl, rfl, by rw [hL]; simpa using hf, hc, c16, hh, ep, by rw [hL, getD_set_eq (by omega)]; exact head_headSec hh, s1, rfl, by omega, hq, by rw [hvf]; exact s2.mono (Nat.le_succ h), ?_, ?_, ?_, ?_, ?_, ?_, ?_, ?_, ?_⟩
      · intro p x _ hx
        rw [hvf] at hx
        exact b.lives p x hx
      · intro p x hx
        rw [hvf] at hx
        exact Nat.le_succ_of_le (b.lives p x hx)
      · rw [hvf, scan_bound (Nat.le_succ h) _ _ _ (fun i x _ hx => b.lives i x hx), show count - q1 = m1 by omega, s5]
      · rw [hFP]; intro i p hp; simp at hp
      · simp only; rw [hlo, s4]; simp [total]
      · simp [total]
      · rw [hFP]; simp [total]; exact secsN_pos []
      · rw [hFP]; simp; omega
      · intro _; rw [hFP]; simp [total]
    · right
      obtain ⟨f1, f2, f3, f4⟩ := flush_no hfl
      rw [if_pos hfl]
      exact ⟨f1, rfl, ⟨by simp only; rw [f4, hWL]; exact b, by simp only; rw [f4, hWL], .inr (by simp only; rw [f3, hWP])⟩⟩
  · right
    have hb : u.begin first = ((u.write (first : Nat) (headSec (h + 1))).1, (u.write (first : Nat) (headSec (h + 1))).2, h) := hbeg.trans (if_pos ha)
    unfold U.opens
    rw [hb]
    obtain ⟨f1, f2, f3, f4⟩ := write_no (by omega) (headSec_len _) ha
    simp only
    rw [if_pos ha]
    exact ⟨f1, rfl, ⟨by simp only; rw [f4]; exact b, by simp only; rw [f4], .inl (by simp only; rw [f3, hP])⟩⟩
end Go.Proofs.Ytfaogebnpbcnhaa.L
