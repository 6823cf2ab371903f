/-
  Parts: raised.
-/
import Derived.Test.YtlnolnaapnijbaaTrEf
namespace Go.Proofs.Ytlnolnaapnijbaa.TR
set_option maxRecDepth 100000
open Go.RowKit K

/-- Behind some rounds: the part that is left, the root so far. -/
structure Rs (d : Nat) (lo : S) (w : World) (t : PT d) (n i rb : Nat) (t' : PT d) (r : PT (d + 1)) (wr : World) : Prop where
  rt : Rep wr d t'
  rr : Rep wr (d + 1) r
  dj : Dj (fp d t') (fp (d + 1) r)
  lt : t'.l = t.l.take (t.l.length * (i + 1) / n)
  tb : t'.b = t.b
  rbe : r.b = rb
  fl : flats (d + 1) r.l = flats d (t.l.drop (t.l.length * (i + 1) / n))
  ch : Chain (okK (d + 1)) none r.l
  ok : Ok d lo (nx none r.l) t'
  gd : ∀ x ∈ r.l, szK (d + 1) x.2 ∧ goodK (d + 1) x.2
  len : r.l.length + (i + 1) = n
  fr : Fr (fp d t) w wr
  g1 : ∀ g, fp d t' g → fp d t g ∨ w.heap.size ≤ g
  g2 : ∀ g, fp (d + 1) r g → fp d t g ∨ w.heap.size ≤ g
theorem Cut.pre {d : Nat} {w0 w w' : World} {t : PT d} {i : Nat} {e : Ending} (hf : Fr No w0 w) (h : Cut d w t i e w') : Cut d w0 t i e w' := by
  obtain ⟨t1, u, k, c, r, h1, h2, h3, h4, h5, h6, h7, h8, h9, h10, h11⟩ := h
  exact ⟨t1, u, k, c, r, h1, h2, h3, h4, h5, h6, h7, hf.no.trans' h8, fun g hg => (h9 g hg).imp id (fun e => Nat.le_trans hf.size e), fun g hg => (h10 g hg).imp id (fun e => Nat.le_trans hf.size e), h11⟩
theorem Cut.post {d : Nat} {w w' w'' : World} {t : PT d} {i : Nat} {e : Ending} (hf : Fr No w' w'') (h : Cut d w t i e w') : Cut d w t i e w'' := by
  obtain ⟨t1, u, k, c, r, h1, h2, h3, h4, h5, h6, h7, h8, h9, h10, h11⟩ := h
  exact ⟨t1, u, k, c, r, h1, h2, h3, h4, h5, h6.no hf, h7.no hf, h8.trans' hf.no, h9, h10, h11⟩
/-- The places of the cuts. -/
theorem cut_at {s n : Nat} (h1 : 4 * n ≤ s) (h2 : s ≤ 8 * n) (hn : 0 < n) (i : Nat) : s * i / n + 4 ≤ s * (i + 1) / n ∧ s * (i + 1) / n ≤ s * i / n + 8 := by
  rw [Nat.mul_succ]
  constructor
  · rw [← Nat.add_mul_div_right _ _ hn]; exact Nat.div_le_div_right (by omega)
  · rw [← Nat.add_mul_div_right _ _ hn]; exact Nat.div_le_div_right (by omega)
theorem cut_le {s n i : Nat} (hn : 0 < n) (hi : i ≤ n) : s * i / n ≤ s := by
  have : s * i / n ≤ s * n / n := Nat.div_le_div_right (Nat.mul_le_mul_left _ hi)
  rwa [Nat.mul_div_cancel _ hn] at this
/-- A new first kid: the memory. -/
theorem front_keys {d : Nat} (l : List (S × Kid (d + 1))) (k : S) (u : PT d) : (keys l).take 0 ++ k :: (keys l).drop 0 = keys ((k, up u) :: l) ∧ (cells l).take (0 * 2) ++ ptr d u ++ (cells l).drop (0 * 2) = cells ((k, up u) :: l) := by
  constructor
  · simp [keys]
  · rw [cells_cons]; simp [cellK]
theorem front_rep {d : Nat} {w w' : World} {r : PT (d + 1)} {u : PT d} {k : S} (hr : Rep w (d + 1) r) (hu : Rep w d u) (hd : Dj (fp d u) (fp (d + 1) r)) (hp : NdPost w (ndT (d + 1)) (elT (d + 1)) (elk (d + 1)) r.b r.k r.c (keys ((k, up u) :: r.l)) (cells ((k, up u) :: r.l)) w') :
    ∃ r' : PT (d + 1), r'.l = (k, up u) :: r.l ∧ r'.b = r.b ∧ Rep w' (d + 1) r' ∧ Fr (own r) w w' ∧ ∀ g, fp (d + 1) r' g → fp (d + 1) r g ∨ fp d u g ∨ w.heap.size ≤ g := by
  have hk : Kids w (d + 1) (own r) ((k, up u) :: r.l) := by
    refine ⟨fun y hy => ?_, List.pairwise_cons.2 ⟨fun b hb g hg hg' => hd g hg (.inr ⟨b, hb, hg'⟩), hr.kids.apart⟩, fun y hy => ?_⟩
    · rcases List.mem_cons.1 hy with rfl | hy
      · exact repK_succ.2 hu
      · exact hr.kids.rep y hy
    · rcases List.mem_cons.1 hy with rfl | hy
      · exact fun g hg hg' => hd g hg' (own_fp hg)
      · exact hr.kids.off y hy
  obtain ⟨r', e1, e2, h1, h2, h3⟩ := rep_node hp hk
  refine ⟨r', e1, e2, h1, h2, fun g hg => ?_⟩
  rcases hg with hg | ⟨y, hy, hg⟩
  · exact (h3 g hg).imp .inl .inr
  · rw [e1] at hy
    rcases List.mem_cons.1 hy with rfl | hy
    · exact .inr (.inl hg)
    · exact .inl (.inr ⟨y, hy, hg⟩)
/-- A round more. -/
theorem Rs.step {d : Nat} {lo : S} {w wr w2 w3 : World} {t t' t1 u : PT d} {r r' : PT (d + 1)} {n i rb : Nat} {k : S} {c : Kid d} {rr : List (S × Kid d)} (h : Rs d lo w t n (i + 1) rb t' r wr) (hgt : Good d t) (h1 : 4 * n ≤ t.l.length) (h2 : t.l.length ≤ 8 * n)
    (hk : t'.l.drop (t.l.length * (i + 1) / n) = (k, c) :: rr) (l1 : t1.l = t'.l.take (t.l.length * (i + 1) / n)) (b1 : t1.b = t'.b) (l2 : u.l = t'.l.drop (t.l.length * (i + 1) / n)) (r1 : Rep w2 d t1) (ru : Rep w2 d u) (hf : Fr (own t') wr w2)
    (g1 : ∀ g, fp d t1 g → fp d t' g ∨ wr.heap.size ≤ g) (gu : ∀ g, fp d u g → fp d t' g ∨ wr.heap.size ≤ g) (hdj : Dj (fp d t1) (fp d u))
    (e1 : r'.l = (k, up u) :: r.l) (e2 : r'.b = r.b) (hr' : Rep w3 (d + 1) r') (hf3 : Fr (own r) w2 w3) (g3 : ∀ g, fp (d + 1) r' g → fp (d + 1) r g ∨ fp d u g ∨ w2.heap.size ≤ g) : Rs d lo w t n i rb t1 r' w3 := by
  have hn : 0 < n := by have := h.len; omega
  have hin : i + 2 ≤ n := by have := h.len; omega
  have ha := cut_at h1 h2 hn (i + 1)
  have ha0 := cut_at h1 h2 hn i
  have hle := cut_le (s := t.l.length) hn (show i + 1 + 1 ≤ n by omega)
  have hlt := h.lt
  have hfl := h.fl
  have hok := h.ok
  have hlen := h.len
  obtain ⟨a, ea⟩ : ∃ a, t.l.length * (i + 1) / n = a := ⟨_, rfl⟩
  obtain ⟨b, eb⟩ : ∃ b, t.l.length * (i + 1 + 1) / n = b := ⟨_, rfl⟩
  obtain ⟨z, ez⟩ : ∃ z, t.l.length * i / n = z := ⟨_, rfl⟩
  rw [ea] at hk l1 l2
  rw [ea, eb] at ha
  rw [ea, ez] at ha0
  rw [eb] at hle hlt hfl
  have s1 := h.fr.size; have s2 := hf.size; have s3 := hf3.size
  have hq : a < t'.l.length := by rw [hlt, List.length_take]; omega
  obtain ⟨o1, o2, o3, o4⟩ := ok_cut hok (by omega) hq l1 l2 hk
  have hul : u.l.length = b - a := by rw [l2, hlt, List.length_drop, List.length_take]; omega
  have hfrr : ∀ g, fp (d + 1) r g → g < wr.heap.size := h.rr.lt
  have ht1r : Dj (fp d t1) (own r) := fun g hg hg' => by
    rcases g1 g hg with e | e
    · exact h.dj g e (own_fp hg')
    · have := hfrr g (own_fp hg'); omega
  refine ⟨r1.fr hf3 ht1r, hr', fun g hg hg' => ?_, ?_, b1.trans h.tb, e2.trans h.rbe, ?_, ?_, ?_, fun x hx => ?_, ?_, ?_, fun g hg => ?_, fun g hg => ?_⟩
  · rcases g3 g hg' with e | e | e
    · rcases g1 g hg with e' | e'
      · exact h.dj g e' e
      · have := hfrr g e; omega
    · exact hdj g hg e
    · have := r1.lt g hg; omega
  · rw [ea, l1, hlt, List.take_take, Nat.min_eq_left (by omega)]
  · rw [ea, e1, flats_cons, hfl]
    have : flatK (d + 1) k (up u) = flats d u.l := rfl
    simp only [this]
    rw [l2, hlt, ← flats_append]
    congr 1
    have h6 : (t.l.take b ++ t.l.drop b).drop a = (t.l.take b).drop a ++ t.l.drop b := List.drop_append_of_le_length (by rw [List.length_take]; omega)
    rw [List.take_append_drop] at h6
    exact h6.symm
  · rw [e1]
    exact ⟨o2, o4, h.ch⟩
  · rw [e1]; exact o1
  · rw [e1] at hx
    rcases List.mem_cons.1 hx with rfl | hx
    · exact ⟨⟨by show 4 ≤ u.l.length; omega, by show u.l.length ≤ 8; omega⟩, fun y hy => hgt y (by
        have hy' : y ∈ u.l := hy
        rw [l2, hlt] at hy'
        exact List.mem_of_mem_take (List.mem_of_mem_drop hy'))⟩
    · exact h.gd x hx
  · rw [e1, List.length_cons]; omega
  · have f1 : Fr (fp d t) w w2 := h.fr.trans hf (fun g hg => h.g1 g (own_fp hg))
    exact f1.trans hf3 (fun g hg => h.g2 g (own_fp hg))
  · exact (g1 g hg).elim (h.g1 g) (fun e => .inr (by omega))
  · rcases g3 g hg with e | e | e
    · exact h.g2 g e
    · exact (gu g e).elim (h.g1 g) (fun e => .inr (by omega))
    · exact .inr (by omega)
end Go.Proofs.Ytlnolnaapnijbaa.TR
