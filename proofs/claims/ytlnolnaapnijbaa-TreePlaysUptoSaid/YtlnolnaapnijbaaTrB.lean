/-
  Rows of whole blocks: words and lists.
-/
import Derived.Test.YtlnolnaapnijbaaChecked
import Derived.Test.YtlnolnaapnijbaaTrA
import Derived.Test.YtlnolnaapnijbaaTrS
namespace Go.Proofs.Ytlnolnaapnijbaa.TR
set_option maxRecDepth 100000
open Go.RowKit K

/-- The block of a slice. -/
def Ob (v : Value) : Nat → Prop := fun k => v.ownBlock = some k
/-- A slice comes back: the old one's row or a new one. -/
def Put (w : World) (e : TypeId) (k : Nat) (v : Value) (n : Nat) (xs : List Value) (r : Ending) (w' : World) : Prop :=
  ∃ v', r = .returned v' ∧ w'.ownsRow 0 e k v' n xs ∧ Fr (Ob v) w w' ∧ ∀ g, v'.ownBlock = some g → v.ownBlock = some g ∨ w.heap.size ≤ g
theorem own_open {w : World} {e : TypeId} {k : Nat} {v : Value} {n : Nat} {xs : List Value} (h : w.ownsRow 0 e k v n xs) (hn : 0 < n) :
    ∃ g cap cur, v = .slice (some ⟨g, 0, none⟩) n cap ∧ Blk w g e cur ∧ n ≤ cap ∧ cap ≤ maxLen ∧ cur.length = cap * k ∧ cur.take (n * k) = xs := by
  rcases h.2 with ⟨_, h0⟩ | ⟨g, cap, cur, hv, -, hg, h1, h2, h3, h4⟩
  · omega
  · exact ⟨g, cap, cur.toList, hv, by simpa [Blk] using hg, h1, h2, by simpa using h3, h4⟩
theorem own_mk {w : World} {e : TypeId} {k g n cap : Nat} {cur xs : List Value} (hB : Blk w g e cur) (h1 : n ≤ cap) (h2 : cap ≤ maxLen) (h3 : cur.length = cap * k) (h4 : cur.take (n * k) = xs) : w.ownsRow 0 e k (.slice (some ⟨g, 0, none⟩) n cap) n xs := by
  refine hB.own (Nat.zero_le _) ?_ h1 h2 h3 h4
  rw [← h4, List.length_take, h3]
  exact Nat.min_eq_left (Nat.mul_le_mul_right _ h1)
theorem put_mk {w w' : World} {e : TypeId} {k : Nat} {v : Value} {g n c : Nat} {xs : List Value} (h1 : w'.ownsRow 0 e k (.slice (some ⟨g, 0, none⟩) n c) n xs) (h2 : Fr (Ob v) w w') (h3 : v.ownBlock = some g ∨ w.heap.size ≤ g) : Put w e k v n xs (.returned (.slice (some ⟨g, 0, none⟩) n c)) w' := by
  refine ⟨_, rfl, h1, h2, fun g' hg' => ?_⟩
  have e : some g = some g' := hg'
  cases e
  exact h3
theorem spl_new (A zs x B : List Value) (h : x.length + B.length ≤ zs.length) : (spl (spl (A ++ zs) A.length x) (A.length + x.length) B).take (A.length + x.length + B.length) = A ++ x ++ B ∧ (spl (spl (A ++ zs) A.length x) (A.length + x.length) B).length = (A ++ zs).length := by
  have e1 : spl (A ++ zs) A.length x = (A ++ x) ++ zs.drop x.length := by
    unfold spl; rw [List.take_left, List.drop_length_add_append, List.append_assoc]
  have e2 : (spl (spl (A ++ zs) A.length x) (A.length + x.length) B) = (A ++ x ++ B) ++ (zs.drop x.length).drop B.length := by
    rw [e1, ← List.length_append]
    unfold spl; rw [List.take_left, List.drop_length_add_append]
  rw [e2]
  refine ⟨?_, by simp; omega⟩
  rw [show A.length + x.length + B.length = (A ++ x ++ B).length by simp [Nat.add_assoc], List.take_left]
theorem spl_shift (cur B x : List Value) (o p : Nat) (hp : p = o + x.length) (h : p + B.length ≤ cur.length) : (spl (spl cur p B) o x).take (p + B.length) = cur.take o ++ x ++ B ∧ (spl (spl cur p B) o x).length = cur.length := by
  have e1 : spl cur p B = cur.take p ++ (B ++ cur.drop (p + B.length)) := by unfold spl; rw [List.append_assoc]
  have hl : (cur.take p).length = p := by simp; omega
  have e2 : spl (spl cur p B) o x = (cur.take o ++ x ++ B) ++ cur.drop (p + B.length) := by
    rw [e1]
    unfold spl
    have a1 : (cur.take p ++ (B ++ cur.drop (p + B.length))).take o = cur.take o := by
      rw [List.take_append_of_le_length (by omega), List.take_take, Nat.min_eq_left (by omega)]
    have a2 : (cur.take p ++ (B ++ cur.drop (p + B.length))).drop (o + x.length) = B ++ cur.drop (p + B.length) := by
      rw [← hp]
      have := List.drop_left (l₁ := cur.take p) (l₂ := B ++ cur.drop (p + B.length))
      rwa [hl] at this
    rw [a1, a2]; simp
  rw [e2]
  have hl2 : (cur.take o ++ x ++ B).length = p + B.length := by simp; omega
  refine ⟨?_, by simp; omega⟩
  rw [← hl2, List.take_left]

/-! ### Nodes -/
def sv (ks : List S) : List Value := ks.map .string
@[simp] theorem sv_length (ks : List S) : (sv ks).length = ks.length := by simp [sv]
theorem sv_one (ks : List S) : ∀ u ∈ sv ks, u.oneCell' = true := by
  intro u hu
  obtain ⟨x, -, rfl⟩ := List.mem_map.1 hu
  rfl
/-- A node in memory: its block, its keys' slice, its contents' slice. -/
structure NdAt (w : World) (T e : TypeId) (k b : Nat) (kv cv : Value) (ks : List S) (cs : List Value) : Prop where
  blk : Blk w b T [kv, cv]
  rk : w.ownsRow 0 9 1 kv ks.length (sv ks)
  rc : w.ownsRow 0 e k cv ks.length cs
  one : ∀ u ∈ cs, u.oneCell' = true
  n1 : kv.ownBlock ≠ some b
  n2 : cv.ownBlock ≠ some b
  n3 : ∀ g, kv.ownBlock = some g → cv.ownBlock ≠ some g
/-- Its blocks. -/
def Own (b : Nat) (kv cv : Value) : Nat → Prop := fun g => g = b ∨ kv.ownBlock = some g ∨ cv.ownBlock = some g
theorem own_lt {w : World} {e : TypeId} {k : Nat} {v : Value} {n : Nat} {xs : List Value} (h : w.ownsRow 0 e k v n xs) (g : Nat) (hg : v.ownBlock = some g) : g < w.heap.size := by
  rcases h.2 with ⟨rfl, _⟩ | ⟨g', cap, cur, rfl, -, h1, -⟩
  · cases hg
  · cases hg; exact (Array.getElem?_eq_some_iff.1 h1).1
theorem own_one {w : World} {e : TypeId} {k : Nat} {v : Value} {n : Nat} {xs : List Value} (h : w.ownsRow 0 e k v n xs) : v.oneCell' = true := by
  rcases h.2 with ⟨rfl, _⟩ | ⟨g', cap, cur, rfl, -, h1, -⟩ <;> rfl
theorem NdAt.lt {w : World} {T e : TypeId} {k b : Nat} {kv cv : Value} {ks : List S} {cs : List Value} (h : NdAt w T e k b kv cv ks cs) : ∀ g, Own b kv cv g → g < w.heap.size := by
  rintro g (rfl | hg | hg)
  · exact h.blk.lt
  · exact own_lt h.rk g hg
  · exact own_lt h.rc g hg
theorem NdAt.fr {D : Nat → Prop} {w w' : World} {T e : TypeId} {k b : Nat} {kv cv : Value} {ks : List S} {cs : List Value} (h : NdAt w T e k b kv cv ks cs) (hf : Fr D w w') (hd : ∀ g, Own b kv cv g → ¬ D g) : NdAt w' T e k b kv cv ks cs :=
  ⟨h.blk.fr hf (hd b (.inl rfl)), own_fr h.rk hf (fun g hg => hd g (.inr (.inl hg))), own_fr h.rc hf (fun g hg => hd g (.inr (.inr hg))), h.one, h.n1, h.n2, h.n3⟩
/-- What a call on a node leaves. -/
def NdPost (w : World) (T e : TypeId) (k b : Nat) (kv cv : Value) (ks : List S) (cs : List Value) (w' : World) : Prop :=
  ∃ kv' cv', NdAt w' T e k b kv' cv' ks cs ∧ Fr (Own b kv cv) w w' ∧ ∀ g, Own b kv' cv' g → Own b kv cv g ∨ w.heap.size ≤ g
theorem spl_set (cs : List Value) (o : Nat) (v : Value) (h : o < cs.length) : spl cs o [v] = cs.set o v := by
  rw [← spl_cons _ _ _ _ h, spl_nil]
/-- Both slices were turned, one behind the other. -/
theorem nd_turn {w w1 w2 w3 w4 : World} {T e : TypeId} {k b : Nat} {kv cv kv' cv' : Value} {ks ks' : List S} {cs cs' : List Value} (h : NdAt w T e k b kv cv ks cs)
    (f1 : Fr (Ob kv) w w1) (o1 : w1.ownsRow 0 9 1 kv' ks'.length (sv ks')) (g1 : ∀ g, kv'.ownBlock = some g → kv.ownBlock = some g ∨ w.heap.size ≤ g)
    (f2 : Fr (fun g => g = b) w1 w2) (f3 : Fr (Ob cv) w2 w3) (o3 : w3.ownsRow 0 e k cv' ks'.length cs') (g3 : ∀ g, cv'.ownBlock = some g → cv.ownBlock = some g ∨ w2.heap.size ≤ g)
    (f4 : Fr (fun g => g = b) w3 w4) (b4 : Blk w4 b T [kv', cv']) (hone : ∀ u ∈ cs', u.oneCell' = true) : NdPost w T e k b kv cv ks' cs' w4 := by
  have hb : b < w.heap.size := h.blk.lt
  have s1 := f1.size; have s2 := f2.size; have s3 := f3.size
  have k1 : ∀ g, kv'.ownBlock = some g → g ≠ b := fun g hg e => (g1 g hg).elim (fun h1 => h.n1 (by rw [h1, e])) (fun h1 => by omega)
  have k2 : ∀ g, cv'.ownBlock = some g → g ≠ b := fun g hg e => (g3 g hg).elim (fun h1 => h.n2 (by rw [h1, e])) (fun h1 => by omega)
  have k3 : ∀ g, kv'.ownBlock = some g → cv.ownBlock ≠ some g := fun g hg e => (g1 g hg).elim (fun h1 => h.n3 g h1 e) (fun h1 => by have := own_lt h.rc g e; omega)
  have o2 := own_fr o1 f2 (fun g hg e => k1 g hg e)
  refine ⟨kv', cv', ⟨b4, own_fr (own_fr o2 f3 (fun g hg e => k3 g hg e)) f4 (fun g hg e => k1 g hg e), own_fr o3 f4 (fun g hg e => k2 g hg e), hone, fun e => k1 b e rfl, fun e => k2 b e rfl, fun g hk hc => ?_⟩, ?_, ?_⟩
  · rcases g3 g hc with h1 | h1
    · exact k3 g hk h1
    · have := own_lt o2 g hk; omega
  · exact (((f1.mono (fun g hg => .inr (.inl hg))).trans' (f2.mono (fun g hg => .inl hg))).trans' (f3.mono (fun g hg => .inr (.inr hg)))).trans' (f4.mono (fun g hg => .inl hg))
  · rintro g (hg | hg | hg)
    · exact .inl (.inl hg)
    · exact (g1 g hg).imp (fun x => .inr (.inl x)) id
    · exact (g3 g hg).imp (fun x => .inr (.inr x)) (fun x => by omega)
end Go.Proofs.Ytlnolnaapnijbaa.TR
