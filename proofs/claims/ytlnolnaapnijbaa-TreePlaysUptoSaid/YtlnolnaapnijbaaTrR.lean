/-
  The tree in memory.
-/
import Derived.Test.YtlnolnaapnijbaaTrT
namespace Go.Proofs.Ytlnolnaapnijbaa.TR
set_option maxRecDepth 100000
open Go.RowKit K

/-- A part as a kid. -/
abbrev up {d : Nat} (t : PT d) : Kid (d + 1) := t
def ptr : (d : Nat) → PT d → List Value
  | 0, t => [.pointer (some ⟨t.b, 0, none⟩), .pointer none]
  | _ + 1, t => [.pointer none, .pointer (some ⟨t.b, 0, none⟩)]
def val (d : Nat) (t : PT d) : Value := .agg (ptr d t).toArray
def cellK : (d : Nat) → Kid d → List Value
  | 0, s => [Value.string (s : S)]
  | d + 1, t => ptr d t
def ndT : Nat → TypeId
  | 0 => 135
  | _ + 1 => 141
def elT : Nat → TypeId
  | 0 => 9
  | _ + 1 => 103
def elk : Nat → Nat
  | 0 => 1
  | _ + 1 => 2
def Dj (A B : Nat → Prop) : Prop := ∀ g, A g → ¬ B g
def own {d : Nat} (t : PT d) : Nat → Prop := Own t.b t.k t.c
def fpK : (d : Nat) → Kid d → Nat → Prop
  | 0, _, _ => False
  | d + 1, t, g => own (d := d) t g ∨ ∃ x ∈ Nd.l (α := Kid d) t, fpK d x.2 g
def fp (d : Nat) (t : PT d) (g : Nat) : Prop := own t g ∨ ∃ x ∈ t.l, fpK d x.2 g
def keys {d : Nat} (l : List (S × Kid d)) : List S := l.map (·.1)
def cells {d : Nat} (l : List (S × Kid d)) : List Value := l.flatMap fun x => cellK d x.2
def repK (w : World) : (d : Nat) → Kid d → Prop
  | 0, _ => True
  | d + 1, t => NdAt w (ndT d) (elT d) (elk d) (Nd.b (α := Kid d) t) (Nd.k (α := Kid d) t) (Nd.c (α := Kid d) t) (keys (d := d) (Nd.l (α := Kid d) t)) (cells (d := d) (Nd.l (α := Kid d) t)) ∧
    ((∀ x ∈ Nd.l (α := Kid d) t, repK w d x.2) ∧ (Nd.l (α := Kid d) t).Pairwise (fun x y => Dj (fpK d x.2) (fpK d y.2)) ∧ ∀ x ∈ Nd.l (α := Kid d) t, Dj (own (d := d) t) (fpK d x.2))
/-- The kids lie in memory, apart from one another and from D. -/
structure Kids (w : World) (d : Nat) (D : Nat → Prop) (l : List (S × Kid d)) : Prop where
  rep : ∀ x ∈ l, repK w d x.2
  apart : l.Pairwise fun x y => Dj (fpK d x.2) (fpK d y.2)
  off : ∀ x ∈ l, Dj D (fpK d x.2)
structure Rep (w : World) (d : Nat) (t : PT d) : Prop where
  nd : NdAt w (ndT d) (elT d) (elk d) t.b t.k t.c (keys t.l) (cells t.l)
  kids : Kids w d (own t) t.l
theorem repK_succ {w : World} {d : Nat} {t : PT d} : repK w (d + 1) t ↔ Rep w d t := ⟨fun h => ⟨h.1, h.2.1, h.2.2.1, h.2.2.2⟩, fun h => ⟨h.nd, h.kids.rep, h.kids.apart, h.kids.off⟩⟩

theorem Dj.symm {A B : Nat → Prop} (h : Dj A B) : Dj B A := fun g hb ha => h g ha hb
theorem repK_lt : ∀ (d : Nat) (w : World) (c : Kid d), repK w d c → ∀ g, fpK d c g → g < w.heap.size
  | 0, _, _, _, _, h => h.elim
  | d + 1, w, t, h, g, hg => by
    rcases hg with hg | ⟨x, hx, hg⟩
    · exact h.1.lt g hg
    · exact repK_lt d w x.2 (h.2.1 x hx) g hg
theorem repK_fr : ∀ (d : Nat) {w w' : World} {D : Nat → Prop} (c : Kid d), repK w d c → Fr D w w' → Dj (fpK d c) D → repK w' d c
  | 0, _, _, _, _, _, _, _ => trivial
  | d + 1, w, w', D, t, h, hf, hd => ⟨h.1.fr hf (fun g hg => hd g (.inl hg)), fun x hx => repK_fr d x.2 (h.2.1 x hx) hf (fun g hg => hd g (.inr ⟨x, hx, hg⟩)), h.2.2.1, h.2.2.2⟩
theorem Rep.lt {w : World} {d : Nat} {t : PT d} (h : Rep w d t) : ∀ g, fp d t g → g < w.heap.size := repK_lt (d + 1) w t (repK_succ.2 h)
theorem Rep.fr {w w' : World} {d : Nat} {t : PT d} {D : Nat → Prop} (h : Rep w d t) (hf : Fr D w w') (hd : Dj (fp d t) D) : Rep w' d t := repK_succ.1 (repK_fr (d + 1) t (repK_succ.2 h) hf hd)
theorem Rep.no {w w' : World} {d : Nat} {t : PT d} (h : Rep w d t) (hf : Fr No w w') : Rep w' d t := h.fr hf (fun _ _ e => e)
theorem Kids.fr {w w' : World} {d : Nat} {E D : Nat → Prop} {l : List (S × Kid d)} (h : Kids w d E l) (hf : Fr D w w') (hd : ∀ x ∈ l, Dj (fpK d x.2) D) : Kids w' d E l :=
  ⟨fun x hx => repK_fr d x.2 (h.rep x hx) hf (hd x hx), h.apart, h.off⟩
theorem cellK_length : ∀ (d : Nat) (c : Kid d), (cellK d c).length = elk d
  | 0, _ => rfl
  | 1, _ => rfl
  | _ + 2, _ => rfl
theorem ptr_length : ∀ (d : Nat) (t : PT d), (ptr d t).length = 2
  | 0, _ => rfl
  | _ + 1, _ => rfl
theorem ptr_one : ∀ (d : Nat) (t : PT d), ∀ u ∈ ptr d t, u.oneCell' = true
  | 0, t, u, h => by simp [ptr] at h; rcases h with rfl | rfl <;> rfl
  | _ + 1, t, u, h => by simp [ptr] at h; rcases h with rfl | rfl <;> rfl
theorem cellK_one : ∀ (d : Nat) (c : Kid d), ∀ u ∈ cellK d c, u.oneCell' = true
  | 0, c, u, h => by
    obtain rfl : u = Value.string (c : S) := List.mem_singleton.1 h
    rfl
  | d + 1, t, u, h => ptr_one d t u h
theorem ptr_b {d : Nat} {t t' : PT d} (h : t'.b = t.b) : ptr d t' = ptr d t := by
  cases d <;> simp [ptr, h]
/-- The cells of the content at place j. -/
theorem cells_take {d : Nat} (A B : List (S × Kid d)) : (cells (A ++ B)).take (A.length * elk d) = cells A ∧ (cells (A ++ B)).drop (A.length * elk d) = cells B := by
  have hl : (cells A).length = A.length * elk d := by
    induction A with
    | nil => simp [cells]
    | cons x r ih => simp [cells, cellK_length] at ih ⊢; rw [ih, Nat.succ_mul, Nat.add_comm]
  have e : cells (A ++ B) = cells A ++ cells B := by simp [cells]
  rw [e, ← hl]
  exact ⟨List.take_left, List.drop_left⟩
theorem cells_append {d : Nat} (A B : List (S × Kid d)) : cells (A ++ B) = cells A ++ cells B := by simp [cells]
theorem cells_cons {d : Nat} (x : S × Kid d) (B : List (S × Kid d)) : cells (x :: B) = cellK d x.2 ++ cells B := by simp [cells]
theorem keys_append {d : Nat} (A B : List (S × Kid d)) : keys (A ++ B) = keys A ++ keys B := by simp [keys]
theorem cells_split {d : Nat} (l : List (S × Kid d)) (i : Nat) (hi : i ≤ l.length) : (cells l).take (i * elk d) = cells (l.take i) ∧ (cells l).drop (i * elk d) = cells (l.drop i) := by
  have h := cells_take (l.take i) (l.drop i)
  rw [List.take_append_drop, List.length_take, Nat.min_eq_left hi] at h
  exact h
/-- The node was turned: other keys and contents, whose kids lay there. -/
theorem rep_node {w w' : World} {d : Nat} {t : PT d} {l' : List (S × Kid d)} (h : NdPost w (ndT d) (elT d) (elk d) t.b t.k t.c (keys l') (cells l') w') (hk : Kids w d (own t) l') :
    ∃ t' : PT d, t'.l = l' ∧ t'.b = t.b ∧ Rep w' d t' ∧ Fr (own t) w w' ∧ ∀ g, own t' g → own t g ∨ w.heap.size ≤ g := by
  obtain ⟨kv, cv, h1, h2, h3⟩ := h
  refine ⟨⟨t.b, kv, cv, l'⟩, rfl, rfl, ⟨h1, ?_⟩, h2, h3⟩
  have hk' := hk.fr h2 (fun x hx => (hk.off x hx).symm)
  refine ⟨hk'.rep, hk'.apart, fun x hx g hg hx' => ?_⟩
  rcases h3 g hg with e | e
  · exact hk.off x hx g e hx'
  · have := repK_lt d w x.2 (hk.rep x hx) g hx'; omega
/-- A call turned a part: the same node, other contents. -/
structure Turned (d : Nat) (w : World) (t : PT d) (w' : World) (t' : PT d) : Prop where
  rep : Rep w' d t'
  fr : Fr (fp d t) w w'
  grow : ∀ g, fp d t' g → fp d t g ∨ w.heap.size ≤ g
  b : t'.b = t.b
theorem Turned.refl {d : Nat} {w w' : World} {t : PT d} (h : Rep w d t) (hf : Fr No w w') : Turned d w t w' t := ⟨h.no hf, hf.no, fun _ h => .inl h, rfl⟩
theorem Turned.trans {d : Nat} {w w' w'' : World} {t t' t'' : PT d} (h : Turned d w t w' t') (k : Turned d w' t' w'' t'') : Turned d w t w'' t'' :=
  ⟨k.rep, h.fr.trans k.fr h.grow, fun g hg => (k.grow g hg).elim (h.grow g) (fun e => .inr (Nat.le_trans h.fr.size e)), k.b.trans h.b⟩
theorem Turned.pre {d : Nat} {w0 w w' : World} {t t' : PT d} (hf : Fr No w0 w) (h : Turned d w t w' t') : Turned d w0 t w' t' :=
  ⟨h.rep, hf.no.trans' h.fr, fun g hg => (h.grow g hg).imp id (fun e => Nat.le_trans hf.size e), h.b⟩
theorem Turned.post {d : Nat} {w w' w'' : World} {t t' : PT d} (h : Turned d w t w' t') (hf : Fr No w' w'') : Turned d w t w'' t' :=
  h.trans (Turned.refl h.rep hf)
theorem pairwise_mid {α : Type} {R : α → α → Prop} {A B : List α} {x y : α} (h : (A ++ x :: B).Pairwise R) (ha : ∀ a ∈ A, R a y) (hb : ∀ b ∈ B, R y b) : (A ++ y :: B).Pairwise R := by
  rw [List.pairwise_append] at h ⊢
  obtain ⟨h1, h2, h3⟩ := h
  rw [List.pairwise_cons] at h2 ⊢
  refine ⟨h1, ⟨hb, h2.2⟩, fun a ha' b hb' => ?_⟩
  rcases List.mem_cons.1 hb' with rfl | hb'
  · exact ha a ha'
  · exact h3 a ha' b (by simp [hb'])
/-- One kid was turned. -/
theorem rep_kid {w w' : World} {d : Nat} {t : PT (d + 1)} {A B : List (S × Kid (d + 1))} {k : S} {x x' : PT d} (h : Rep w (d + 1) t) (hl : t.l = A ++ (k, up x) :: B) (hx : Turned d w x w' x') :
    Turned (d + 1) w t w' ⟨t.b, t.k, t.c, A ++ (k, up x') :: B⟩ := by
  have hmx : (k, up x) ∈ t.l := by rw [hl]; simp
  have hxo : Dj (own t) (fp d x) := h.kids.off _ hmx
  have hlt : ∀ g, own t g → g < w.heap.size := fun g hg => h.nd.lt g hg
  have hap := h.kids.apart
  rw [hl] at hap
  have hA : ∀ a ∈ A, Dj (fpK (d + 1) a.2) (fp d x) := fun a ha => (List.pairwise_append.1 hap).2.2 a ha (k, up x) (by simp)
  have hB : ∀ b ∈ B, Dj (fp d x) (fpK (d + 1) b.2) := fun b hb => (List.pairwise_cons.1 (List.pairwise_append.1 hap).2.1).1 b hb
  have hrA : ∀ a ∈ A, repK w (d + 1) a.2 := fun a ha => h.kids.rep a (by rw [hl]; simp [ha])
  have hrB : ∀ b ∈ B, repK w (d + 1) b.2 := fun b hb => h.kids.rep b (by rw [hl]; simp [hb])
  have hoA : ∀ a ∈ A, Dj (own t) (fpK (d + 1) a.2) := fun a ha => h.kids.off a (by rw [hl]; simp [ha])
  have hoB : ∀ b ∈ B, Dj (own t) (fpK (d + 1) b.2) := fun b hb => h.kids.off b (by rw [hl]; simp [hb])
  have hnew : ∀ (c : Kid (d + 1)), repK w (d + 1) c → Dj (fp d x) (fpK (d + 1) c) → Dj (fp d x') (fpK (d + 1) c) := fun c hc hd g hg hg' => by
    rcases hx.grow g hg with e | e
    · exact hd g e hg'
    · have := repK_lt (d + 1) w c hc g hg'; omega
  have e1 : keys (A ++ (k, up x') :: B) = keys t.l := by rw [hl]; simp [keys]
  have e2 : cells (A ++ (k, up x') :: B) = cells t.l := by
    rw [hl, cells_append, cells_append, cells_cons, cells_cons]
    have : cellK (d + 1) x' = cellK (d + 1) x := ptr_b hx.b
    simp only [this]
  refine ⟨⟨by rw [e1, e2]; exact h.nd.fr hx.fr (fun g hg => hxo g hg), fun y hy => ?_, ?_, fun y hy => ?_⟩, hx.fr.mono fun g hg => .inr ⟨(k, up x), hmx, hg⟩, fun g hg => ?_, rfl⟩
  · rcases List.mem_append.1 hy with hy | hy
    · exact repK_fr (d + 1) y.2 (hrA y hy) hx.fr (hA y hy)
    · rcases List.mem_cons.1 hy with rfl | hy
      · exact repK_succ.2 hx.rep
      · exact repK_fr (d + 1) y.2 (hrB y hy) hx.fr (hB y hy).symm
  · exact pairwise_mid hap (fun a ha => (hnew a.2 (hrA a ha) (hA a ha).symm).symm) (fun b hb => hnew b.2 (hrB b hb) (hB b hb))
  · rcases List.mem_append.1 hy with hy | hy
    · exact hoA y hy
    · rcases List.mem_cons.1 hy with rfl | hy
      · intro g hg hg'
        rcases hx.grow g hg' with e | e
        · exact hxo g hg e
        · have := hlt g hg; omega
      · exact hoB y hy
  · rcases hg with hg | ⟨y, hy, hg⟩
    · exact .inl (.inl hg)
    · rcases List.mem_append.1 hy with hy | hy
      · exact .inl (.inr ⟨y, by rw [hl]; simp [hy], hg⟩)
      · rcases List.mem_cons.1 hy with rfl | hy
        · exact (hx.grow g hg).imp (fun e => .inr ⟨(k, up x), hmx, e⟩) id
        · exact .inl (.inr ⟨y, by rw [hl]; simp [hy], hg⟩)
end Go.Proofs.Ytlnolnaapnijbaa.TR
