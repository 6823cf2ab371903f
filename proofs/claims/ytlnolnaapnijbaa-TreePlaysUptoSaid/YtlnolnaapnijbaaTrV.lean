/-
  What cutting and joining keep: order, sizes, memory. No walk.
-/
import Derived.Test.YtlnolnaapnijbaaTrU
namespace Go.Proofs.Ytlnolnaapnijbaa.TR
set_option maxRecDepth 100000
open Go.RowKit K

theorem okK_mono : ∀ (d : Nat) (lo : S) (hi hi' : Option S) (c : Kid d), (∀ y, Below hi y → Below hi' y) → okK d lo hi c → okK d lo hi' c
  | 0, _, _, _, _, _, _ => trivial
  | d + 1, lo, hi, hi', t, h, hk => ⟨chain_bound (fun k c hc hb => ⟨okK_mono d k hi hi' c h hc, h k hb⟩) hk.1, hk.2⟩
theorem chain_mono {d : Nat} {hi hi' : Option S} {l : List (S × Kid d)} (h : ∀ y, Below hi y → Below hi' y) (hc : Chain (okK d) hi l) : Chain (okK d) hi' l := chain_bound (fun k c hk hb => ⟨okK_mono d k hi hi' c h hk, h k hb⟩) hc
theorem first_lo {d : Nat} {lo : S} {l : List (S × Kid d)} {hi : Option S} (hc : Chain (okK d) hi l) (h : First d lo l) : ∀ x ∈ l, lt x.1 lo = false := ok_first hc h
theorem first_take {d : Nat} {lo : S} {l : List (S × Kid d)} {m : Nat} (h : First d lo l) (hm : 0 < m) : First d lo (l.take m) := by
  cases d with
  | zero => exact fun x hx => h x (List.mem_of_mem_take hx)
  | succ d =>
    obtain ⟨c, r, rfl⟩ := h
    obtain ⟨m, rfl⟩ : ∃ q, m = q + 1 := ⟨m - 1, by omega⟩
    exact ⟨c, r.take m, rfl⟩
theorem first_head {d : Nat} {hi : Option S} {k : S} {c : Kid d} {r : List (S × Kid d)} (hc : Chain (okK d) hi ((k, c) :: r)) : First d k ((k, c) :: r) := by
  cases d with
  | zero =>
    intro x hx
    rcases List.mem_cons.1 hx with rfl | hx
    · exact lt_irr _
    · exact lt_asymm (chain_next hc x hx)
  | succ d => exact ⟨c, r, rfl⟩
theorem first_append {d : Nat} {lo k : S} {l m : List (S × Kid d)} (h : First d lo l) (hl : l ≠ []) (hm : ∀ x ∈ m, lt x.1 lo = false) : First d lo (l ++ m) := by
  cases d with
  | zero => exact fun x hx => (List.mem_append.1 hx).elim (h x) (hm x)
  | succ d =>
    obtain ⟨c, r, rfl⟩ := h
    exact ⟨c, r ++ m, rfl⟩

/-- Cut: the order. -/
theorem ok_cut {d : Nat} {k k' : S} {hi : Option S} {x x1 u : PT d} {m : Nat} {c : Kid d} {r : List (S × Kid d)} (h : Ok d k hi x) (h0 : 0 < m) (hm : m < x.l.length) (h1 : x1.l = x.l.take m) (h2 : u.l = x.l.drop m) (hk : x.l.drop m = (k', c) :: r) :
    Ok d k (some k') x1 ∧ Ok d k' hi u ∧ lt k k' = true ∧ Below hi k' := by
  have hc := h.1
  have hc0 := hc
  rw [← List.take_append_drop m x.l, chain_append] at hc
  have hnx : nx hi (x.l.drop m) = some k' := by rw [hk]; rfl
  rw [hnx] at hc
  refine ⟨⟨by rw [h1]; exact hc.1, by rw [h1]; exact first_take h.2 h0⟩, ⟨by rw [h2]; exact hc.2, ?_⟩, ?_, ?_⟩
  · rw [h2, hk]; rw [hk] at hc; exact first_head hc.2
  · have hl0 : 0 < x.l.length := by omega
    have hmem : x.l[0] ∈ x.l.take m := by
      have : (x.l.take m)[0]'(by simp; omega) = x.l[0] := by simp
      rw [← this]; exact List.getElem_mem _
    have a1 : lt x.l[0].1 k = false := ok_first h.1 h.2 _ (List.getElem_mem hl0)
    have a2 : lt x.l[0].1 k' = true := chain_below hc.1 _ hmem
    exact lt_of_le_of_lt a1 a2
  · exact chain_below hc0 (k', c) (List.mem_of_mem_drop (by rw [hk]; simp))
/-- Join: the order. -/
theorem ok_join {d : Nat} {k0 k : S} {hi : Option S} {z x t' : PT d} (hz : Ok d k0 (some k) z) (hx : Ok d k hi x) (hk : lt k0 k = true) (hz0 : z.l ≠ []) (hx0 : x.l ≠ []) (hl : t'.l = z.l ++ x.l) : Ok d k0 hi t' := by
  have hlo := ok_first hx.1 hx.2
  refine ⟨?_, ?_⟩
  · rw [hl, chain_append]
    refine ⟨chain_mono (fun y hy => ?_) hz.1, hx.1⟩
    cases hxl : x.l with
    | nil => exact absurd hxl hx0
    | cons a r => exact lt_of_lt_of_le hy (hlo a (by rw [hxl]; simp))
  · rw [hl]
    exact first_append (k := k) hz.2 hz0 (fun y hy => lt_asymm (lt_of_lt_of_le hk (hlo y hy)))
theorem flat_of {d : Nat} {t : PT d} {l : List (S × Kid d)} (h : t.l = l) : flat d t = flats d l := by unfold flat; rw [h]

/-- A kid is put in the place of another one: the order. -/
theorem chain_put {d : Nat} {hi : Option S} {A B : List (S × Kid (d + 1))} {k : S} {x x' : PT d} (h : Chain (okK (d + 1)) hi (A ++ (k, up x) :: B)) (hx : Ok d k (nx hi B) x') : Chain (okK (d + 1)) hi (A ++ (k, up x') :: B) := by
  rw [chain_append] at h ⊢
  exact ⟨h.1, hx, h.2.2.1, h.2.2.2⟩
theorem chain_kid {d : Nat} {hi : Option S} {A B : List (S × Kid (d + 1))} {k : S} {x : PT d} (h : Chain (okK (d + 1)) hi (A ++ (k, up x) :: B)) : Ok d k (nx hi B) x ∧ Below (nx hi B) k := by
  rw [chain_append] at h
  exact ⟨h.2.1, h.2.2.1⟩
theorem first_put {d : Nat} {lo : S} {A B : List (S × Kid (d + 1))} {k : S} {x x' : PT d} (h : First (d + 1) lo (A ++ (k, up x) :: B)) : First (d + 1) lo (A ++ (k, up x') :: B) := by
  obtain ⟨c, r, e⟩ := h
  cases A with
  | nil => exact ⟨up x', B, by have : k = lo := by injection e with e1 e2; injection e1
                               subst this; rfl⟩
  | cons a A =>
    have : a = (lo, c) := by injection e
    subst this
    exact ⟨c, A ++ (k, up x') :: B, rfl⟩
theorem first_prefix {d : Nat} {lo : S} {A B C : List (S × Kid (d + 1))} (h : First (d + 1) lo (A ++ B)) (hA : A ≠ []) : First (d + 1) lo (A ++ C) := by
  obtain ⟨c, r, e⟩ := h
  cases A with
  | nil => exact absurd rfl hA
  | cons a A =>
    have : a = (lo, c) := by injection e
    subst this
    exact ⟨c, A ++ C, rfl⟩

/-- Cut: the memory. -/
theorem kids_cut {w w' : World} {d : Nat} {t : PT (d + 1)} {A B : List (S × Kid (d + 1))} {k k' : S} {x x1 u : PT d} (h : Rep w (d + 1) t) (hl : t.l = A ++ (k, up x) :: B) (r1 : Rep w' d x1) (ru : Rep w' d u) (hf : Fr (own x) w w')
    (g1 : ∀ g, fp d x1 g → fp d x g ∨ w.heap.size ≤ g) (gu : ∀ g, fp d u g → fp d x g ∨ w.heap.size ≤ g) (hd : Dj (fp d x1) (fp d u)) : Kids w' (d + 1) (own t) (A ++ (k, up x1) :: (k', up u) :: B) := by
  have hmx : (k, up x) ∈ t.l := by rw [hl]; simp
  have hxo : Dj (own t) (fp d x) := h.kids.off _ hmx
  have hlt : ∀ g, own t g → g < w.heap.size := fun g hg => h.nd.lt g hg
  have hap := h.kids.apart
  rw [hl] at hap
  have hA : ∀ a ∈ A, Dj (fpK (d + 1) a.2) (fp d x) := fun a ha => (List.pairwise_append.1 hap).2.2 a ha (k, up x) (by simp)
  have hB : ∀ b ∈ B, Dj (fp d x) (fpK (d + 1) b.2) := fun b hb => (List.pairwise_cons.1 (List.pairwise_append.1 hap).2.1).1 b hb
  have hrA : ∀ a ∈ A, repK w (d + 1) a.2 := fun a ha => h.kids.rep a (by rw [hl]; simp [ha])
  have hrB : ∀ b ∈ B, repK w (d + 1) b.2 := fun b hb => h.kids.rep b (by rw [hl]; simp [hb])
  have hoA : ∀ a ∈ A, Dj (own t) (fpK (d + 1) a.2) := fun a ha => h.kids.off a (by rw [hl]; simp [ha])
  have hoB : ∀ b ∈ B, Dj (own t) (fpK (d + 1) b.2) := fun b hb => h.kids.off b (by rw [hl]; simp [hb])
  have hnew : ∀ (y : PT d), (∀ g, fp d y g → fp d x g ∨ w.heap.size ≤ g) → ∀ (c : Kid (d + 1)), repK w (d + 1) c → Dj (fp d x) (fpK (d + 1) c) → Dj (fp d y) (fpK (d + 1) c) := fun y hy c hc hd g hg hg' => by
    rcases hy g hg with e | e
    · exact hd g e hg'
    · have := repK_lt (d + 1) w c hc g hg'; omega
  have hown : ∀ (y : PT d), (∀ g, fp d y g → fp d x g ∨ w.heap.size ≤ g) → Dj (own t) (fp d y) := fun y hy g hg hg' => by
    rcases hy g hg' with e | e
    · exact hxo g hg e
    · have := hlt g hg; omega
  have hxs : Dj (own x) (own x) → True := fun _ => trivial
  refine ⟨fun y hy => ?_, ?_, fun y hy => ?_⟩
  · rcases List.mem_append.1 hy with hy | hy
    · exact repK_fr (d + 1) y.2 (hrA y hy) hf (fun g hg e => hA y hy g hg (own_fp e))
    · rcases List.mem_cons.1 hy with rfl | hy
      · exact repK_succ.2 r1
      · rcases List.mem_cons.1 hy with rfl | hy
        · exact repK_succ.2 ru
        · exact repK_fr (d + 1) y.2 (hrB y hy) hf (fun g hg e => hB y hy g (own_fp e) hg)
  · rw [List.pairwise_append] at hap ⊢
    obtain ⟨p1, p2, p3⟩ := hap
    rw [List.pairwise_cons] at p2
    refine ⟨p1, List.pairwise_cons.2 ⟨fun b hb => ?_, List.pairwise_cons.2 ⟨fun b hb => hnew u gu b.2 (hrB b hb) (hB b hb), p2.2⟩⟩, fun a ha b hb => ?_⟩
    · rcases List.mem_cons.1 hb with rfl | hb
      · exact hd
      · exact hnew x1 g1 b.2 (hrB b hb) (hB b hb)
    · rcases List.mem_cons.1 hb with rfl | hb
      · exact (hnew x1 g1 a.2 (hrA a ha) (hA a ha).symm).symm
      · rcases List.mem_cons.1 hb with rfl | hb
        · exact (hnew u gu a.2 (hrA a ha) (hA a ha).symm).symm
        · exact p3 a ha b (by simp [hb])
  · rcases List.mem_append.1 hy with hy | hy
    · exact hoA y hy
    · rcases List.mem_cons.1 hy with rfl | hy
      · exact hown x1 g1
      · rcases List.mem_cons.1 hy with rfl | hy
        · exact hown u gu
        · exact hoB y hy
/-- Join: the memory. -/
theorem kids_join {w w' : World} {d : Nat} {t : PT (d + 1)} {A B : List (S × Kid (d + 1))} {k0 k : S} {z x z' : PT d} (h : Rep w (d + 1) t) (hl : t.l = A ++ (k0, up z) :: (k, up x) :: B) (hj : Joined d w z x w' z') :
    Kids w' (d + 1) (own t) (A ++ (k0, up z') :: B) ∧ Fr (own z) w w' := by
  obtain ⟨-, -, rz, hf, gz⟩ := hj
  have hmz : (k0, up z) ∈ t.l := by rw [hl]; simp
  have hmx : (k, up x) ∈ t.l := by rw [hl]; simp
  have hlt : ∀ g, own t g → g < w.heap.size := fun g hg => h.nd.lt g hg
  have hap := h.kids.apart
  rw [hl] at hap
  rw [List.pairwise_append] at hap
  obtain ⟨p1, p2, p3⟩ := hap
  rw [List.pairwise_cons, List.pairwise_cons] at p2
  have hrA : ∀ a ∈ A, repK w (d + 1) a.2 := fun a ha => h.kids.rep a (by rw [hl]; simp [ha])
  have hrB : ∀ b ∈ B, repK w (d + 1) b.2 := fun b hb => h.kids.rep b (by rw [hl]; simp [hb])
  have hzA : ∀ a ∈ A, Dj (fpK (d + 1) a.2) (fp d z) := fun a ha => p3 a ha (k0, up z) (by simp)
  have hxA : ∀ a ∈ A, Dj (fpK (d + 1) a.2) (fp d x) := fun a ha => p3 a ha (k, up x) (by simp)
  have hzB : ∀ b ∈ B, Dj (fp d z) (fpK (d + 1) b.2) := fun b hb => p2.1 b (by simp [hb])
  have hxB : ∀ b ∈ B, Dj (fp d x) (fpK (d + 1) b.2) := fun b hb => p2.2.1 b hb
  have hA' : ∀ a ∈ A, Dj (fpK (d + 1) a.2) (fp d z') := fun a ha g hg hg' => by
    rcases gz g hg' with e | e | e
    · exact hzA a ha g hg e
    · exact hxA a ha g hg e
    · have := repK_lt (d + 1) w a.2 (hrA a ha) g hg; omega
  have hB' : ∀ b ∈ B, Dj (fp d z') (fpK (d + 1) b.2) := fun b hb g hg' hg => by
    rcases gz g hg' with e | e | e
    · exact hzB b hb g e hg
    · exact hxB b hb g e hg
    · have := repK_lt (d + 1) w b.2 (hrB b hb) g hg; omega
  refine ⟨⟨fun y hy => ?_, ?_, fun y hy => ?_⟩, hf⟩
  · rcases List.mem_append.1 hy with hy | hy
    · exact repK_fr (d + 1) y.2 (hrA y hy) hf (fun g hg e => hzA y hy g hg (own_fp e))
    · rcases List.mem_cons.1 hy with rfl | hy
      · exact repK_succ.2 rz
      · exact repK_fr (d + 1) y.2 (hrB y hy) hf (fun g hg e => hzB y hy g (own_fp e) hg)
  · rw [List.pairwise_append, List.pairwise_cons]
    refine ⟨p1, ⟨hB', p2.2.2⟩, fun a ha b hb => ?_⟩
    rcases List.mem_cons.1 hb with rfl | hb
    · exact hA' a ha
    · exact p3 a ha b (by simp [hb])
  · rcases List.mem_append.1 hy with hy | hy
    · exact h.kids.off y (by rw [hl]; simp [hy])
    · rcases List.mem_cons.1 hy with rfl | hy
      · intro g hg hg'
        rcases gz g hg' with e | e | e
        · exact h.kids.off _ hmz g hg e
        · exact h.kids.off _ hmx g hg e
        · have := hlt g hg; omega
      · exact h.kids.off y (by rw [hl]; simp [hy])
end Go.Proofs.Ytlnolnaapnijbaa.TR
