/-
  Rows of bytes that are grown, whatever is marked behind their end; over any program.
-/
import Derived.Test.YthnahoodgkeaiaaBeC
set_option linter.unusedVariables false
set_option linter.unusedSimpArgs false
namespace Go.Proofs.Ythnahoodgkeaiaa.BE
set_option maxRecDepth 100000
open Go.RowKit K

/-- A row of bytes that lies in no block below base: its cells up to the capacity are there and may be written. -/
def RowC (base : Nat) (w : World) (v : Value) (l : B) : Prop := ∃ g cap, v = .slice (some ⟨g, 0, none⟩) l.length cap ∧ base ≤ g ∧ g < w.heap.size ∧ l.length ≤ cap ∧ cap ≤ maxLen ∧ w.rangeAt g 0 (u8s l) ∧ w.there g 0 cap
theorem RowC.fr {base : Nat} {w w' : World} {v : Value} {l : B} {D : Nat → Prop} (h : RowC base w v l) (hf : Fr D w w') (hd : ∀ g, v.ownBlock = some g → ¬ D g) : RowC base w' v l := by
  obtain ⟨g, cap, rfl, h1, h2, h3, h4, h5, h6⟩ := h
  have hg := hd g rfl
  have hb := hf.block g h2 hg
  refine ⟨g, cap, rfl, h1, Nat.lt_of_lt_of_le h2 hf.size, h3, h4, hf.range h5 hg, fun j hj => ?_⟩
  obtain ⟨a, b⟩ := h6 j hj
  exact ⟨by rw [World.cell?_of_block (a := ⟨g, 0 + j, none⟩) hb]; exact a, by rw [World.frozen?_of_block (a := ⟨g, 0 + j, none⟩) hb]; exact b⟩
theorem RowC.no {base : Nat} {w w' : World} {v : Value} {l : B} (h : RowC base w v l) (hf : Fr No w w') : RowC base w' v l := h.fr hf fun _ _ e => e
theorem RowC.form {base : Nat} {w : World} {v : Value} {l : B} (h : RowC base w v l) : ∃ a c, v = .slice a l.length c := by
  obtain ⟨g, cap, rfl, _⟩ := h
  exact ⟨_, _, rfl⟩
theorem RowC.low {base : Nat} {w : World} {v : Value} {l : B} (h : RowC base w v l) (g : Nat) (hg : v.ownBlock = some g) : base ≤ g ∧ g < w.heap.size := by
  obtain ⟨g', cap, rfl, h1, h2, _⟩ := h
  cases hg
  exact ⟨h1, h2⟩
theorem RowC.bytes {base : Nat} {w : World} {v : Value} {l : B} (h : RowC base w v l) : BytesIn w Any v l := by
  obtain ⟨g, cap, rfl, h1, h2, h3, h4, h5, h6⟩ := h
  exact ⟨_, _, _, rfl, rfl, h3, .inr ⟨g, 0, rfl, trivial, h2, h5⟩⟩
theorem RowC.low' {base base' : Nat} {w : World} {v : Value} {l : B} (h : RowC base w v l) (hb : base' ≤ base) : RowC base' w v l := by
  obtain ⟨g, cap, rfl, h1, h⟩ := h
  exact ⟨g, cap, rfl, Nat.le_trans hb h1, h⟩
theorem RowC.blk {w : World} {g : Nat} {l : B} (h : Blk w g 5 (u8s l)) (hm : l.length ≤ maxLen) : RowC g w (.slice (some ⟨g, 0, none⟩) l.length l.length) l := by
  refine ⟨g, l.length, rfl, Nat.le_refl _, h.lt, Nat.le_refl _, hm, h.range 0 _ (by rw [List.drop_zero, List.take_length]), ?_⟩
  exact h.there 0 l.length (by rw [u8s_length]; omega)
theorem range_app {w : World} {g : Nat} {a b : List Value} (h : w.rangeAt g 0 a) (k : w.rangeAt g a.length b) : w.rangeAt g 0 (a ++ b) := by
  intro j v hj
  rcases Nat.lt_or_ge j a.length with h1 | h1
  · rw [List.getElem?_append_left h1] at hj
    exact h j v hj
  · rw [List.getElem?_append_right h1] at hj
    have := k (j - a.length) v hj
    rwa [show a.length + (j - a.length) = 0 + j by omega] at this
section
variable {P : Program} {w : World}
theorem run_append_C (t ty e : TypeId) (i : TypeInfo) (ht : P.underlying t = some (.slice e)) (hi : P.info? e = some i) (hz : i.zero = some (.int .u8 0)) (hsize : i.size = 1) (hby : i.bytes = 1)
    (base : Nat) (v : Value) (l : B) (hv : RowC base w v l) (ad : Addr) (c : Nat) (ks : B) (hsrc : ∀ j u, (u8s ks)[j]? = some u → w.cell? (ad.add j) = some u) (hm : l.length + ks.length ≤ 1000000000000) (hbase : base ≤ w.heap.size) :
    ∃ v' w', (Builtin.append_ #[t, t] ty #[v, .slice (some ad) ks.length c]).run P w = .ok v' w' ∧ RowC base w' v' (l ++ ks) ∧ Fr (fun k => v.ownBlock = some k) w w' ∧ ∀ g, v'.ownBlock = some g → v.ownBlock = some g ∨ w.heap.size ≤ g := by
  obtain ⟨g, cap, rfl, h1, h2, h3, h4, h5, h6⟩ := hv
  have hkl : (u8s ks).length = ks.length * i.size := by rw [u8s_length, hsize, Nat.mul_one]
  by_cases hroom : l.length + ks.length ≤ cap
  · have hth : ∀ j, j < (u8s ks).length → (w.cell? ⟨g, 0 + l.length * i.size + j, none⟩).isSome = true ∧ w.frozen? ⟨g, 0 + l.length * i.size + j, none⟩ = false := fun j hj => by
      rw [hsize, Nat.mul_one]
      rw [u8s_length] at hj
      have := h6 (l.length + j) (by omega)
      rwa [← Nat.add_assoc] at this
    have hrun := run_append_room_cells (P := P) w t ty e i ht hi g 0 l.length cap ad ks.length c (u8s ks) hkl hsrc (u8s_one ks) hroom (fun j hj => (hth j hj).1) (fun j hj => (hth j hj).2)
    rw [hsize, Nat.mul_one, Nat.zero_add] at hrun
    refine ⟨_, _, hrun, ⟨g, cap, by rw [List.length_append], h1, by simpa using h2, by rw [List.length_append]; exact hroom, h4, ?_, World.there_setCells h6 _ _ _⟩, (Fr.refl (fun k => (Value.slice (some ⟨g, 0, none⟩) l.length cap).ownBlock = some k) w).setCells g _ _ (.inl rfl), fun j hj => .inl hj⟩
    rw [u8s_append]
    refine range_app (World.rangeAt_setCells_apart h5 g l.length (u8s ks) (.inr (.inl (by rw [u8s_length]; omega)))) ?_
    rw [u8s_length]
    exact World.rangeAt_setCells_same w g l.length (u8s ks) (fun j hj => by
      rw [u8s_length] at hj
      have := h6 (l.length + j) (by omega)
      rwa [Nat.zero_add] at this)
  · have hgrow := run_append_grow (P := P) w t ty e i (.int .u8 0) ht hi hz ⟨g, 0, none⟩ l.length cap (u8s l) (by rw [u8s_length, hsize, Nat.mul_one]) (fun j u hj => by rw [Addr.add_mid]; exact h5 j u hj) ad ks.length c (u8s ks) hkl hsrc (by omega) (by omega) (by rw [hby, Nat.mul_one]; exact Nat.le_trans (by have := growslice_fits (bytes := 1) (show cap < l.length + ks.length by omega) (by omega); simpa using this) (Nat.le_refl _))
    have hge := grownCap_ge w (l.length + ks.length) cap e
    have hmx := grownCap_le_maxLen w (l.length + ks.length) cap e (by unfold maxLen; omega)
    generalize grownCap w (l.length + ks.length) cap e = cp at *
    have hz1 : (Value.int .u8 0).cells = #[Value.int .u8 0] := rfl
    have harr : (u8s l).toArray ++ (u8s ks).toArray ++ Builtin.zeroCells (Value.int .u8 0).cells (cp - (l.length + ks.length)) = (u8s (l ++ ks ++ List.replicate (cp - (l.length + ks.length)) 0)).toArray := by
      apply Array.ext'
      rw [u8s_append, u8s_append]
      simp only [Builtin.zeroCells, hz1, u8s, Array.toList_append, List.append_assoc]
      congr 2
      apply List.ext_getElem <;> simp [Nat.mod_one]
    rw [harr] at hgrow
    have hB : Blk (w.drew.alloc (.cells (u8s (l ++ ks ++ List.replicate (cp - (l.length + ks.length)) 0)).toArray e)) w.heap.size e (u8s (l ++ ks ++ List.replicate (cp - (l.length + ks.length)) 0)) := Blk.new w.drew e _
    refine ⟨_, _, hgrow, ⟨w.heap.size, cp, by rw [List.length_append], hbase, by simp, by rw [List.length_append]; omega, hmx, ?_, ?_⟩, ((Fr.refl _ w).drew.alloc _), fun j hj => .inr (by cases hj; exact Nat.le_refl _)⟩
    · refine hB.range 0 _ ?_
      rw [List.drop_zero, u8s_append (l ++ ks), List.take_left]
    · exact hB.there 0 cp (by rw [u8s_length, List.length_append, List.length_append, List.length_replicate]; omega)
end
section
variable {P : Program} {ops : Array Oper} {rest : List Oper} {op : Oper} {a : Act} {w : World} {Q : Exit → Act → World → Prop}
theorem wpL_appendC (hgd : op.guard = none) (s x : Operand) (t : TypeId) (ho : op.op = .call { callee := .builtin .append, args := #[s, x], argTypes := #[t, t] })
    (e : TypeId) (i : TypeInfo) (ht : P.underlying t = some (.slice e)) (hi : P.info? e = some i) (hz : i.zero = some (.int .u8 0)) (hsize : i.size = 1) (hby : i.bytes = 1)
    (base : Nat) (v : Value) (l : B) (hs : a.eval s = v) (hv : RowC base w v l) (v2 : Value) (b2 : Nat) (ks : B) (hx : a.eval x = v2) (hv2 : RowC b2 w v2 ks) (hm : l.length + ks.length ≤ 1000000000000) (hbase : base ≤ w.heap.size)
    (h : ∀ a' c' w', Hid (RowC base w' (.slice a' (l.length + ks.length) c') (l ++ ks)) → Hid (Fr (fun k => v.ownBlock = some k) w w') → Hid (∀ g, (Value.slice a' (l.length + ks.length) c').ownBlock = some g → v.ownBlock = some g ∨ w.heap.size ≤ g) → wpList P ops Q rest (a.put op.dst (.slice a' (l.length + ks.length) c')) w') : wpList P ops Q (op :: rest) a w := by
  refine wpList_plain hgd fun K hK => ?_
  obtain ⟨g2, c2, rfl, _, _, _, _, h5, _⟩ := hv2
  obtain ⟨v', w', hr, hR, hF, hO⟩ := run_append_C (P := P) t op.type e i ht hi hz hsize hby base v l hv ⟨g2, 0, none⟩ c2 ks (range_loads h5) hm hbase
  obtain ⟨aa, cc, hvv⟩ := hR.form
  rw [List.length_append] at hvv
  subst hvv
  unfold Oper.wp execOp
  simp only [ho, resolve, invoke, builtin, Sem.run_bind, Sem.run_pure, Result.andThen_ok, List.map_toArray, List.map_cons, List.map_nil, hs, hx, hr]
  exact hK _ _ (h aa cc w' (hid hR) (hid hF) (hid hO))
end
/-- '[]byte(s)': a row. -/
theorem wpL_bytesC {ops : Array Oper} {rest : List Oper} {op : Oper} {a : Act} {w : World} {Q : Exit → Act → World → Prop} (hgd : op.guard = none) (x : Operand) (ho : op.op = .convert 9 44 x) (l : B) (hx : a.eval x = .string (sb l)) (hl : l.length ≤ 140737488351232)
    (h : ∀ a' c w', Hid (RowC w.heap.size w' (.slice a' l.length c) l) → Hid (Fr No w w') → wpList Try.prog ops Q rest (a.put op.dst (.slice a' l.length c)) w') : wpList Try.prog ops Q (op :: rest) a w := by
  refine wpList_plain hgd fun K hK => ?_
  have hrun := run_bytes_of_string (P := Try.prog) w 9 44 5 (sb l) Try.underlying9 Try.underlying44 Try.underlying5
  rw [sb_size] at hrun
  have hge := grownCap_ge w l.length 0 5
  have hmx := grownCap_le_maxLen w l.length 0 5 (by unfold maxLen; omega)
  generalize grownCap w l.length 0 5 = cp at *
  have hrow : bytesRow (sb l) cp = (u8s (l ++ List.replicate (cp - l.length) 0)).toArray := by
    apply Array.toList_inj.1
    rw [u8s_append]
    have hsd : (sb l).data = l.toArray := rfl
    simp [bytesRow, u8s, hsd, sb_size]
  have hsz : (bytesRow (sb l) cp).size = cp := by rw [hrow, List.size_toArray, u8s_length, List.length_append, List.length_replicate]; omega
  rw [hsz, hrow] at hrun
  have hblk : (w.drew.alloc (.cells (u8s (l ++ List.replicate (cp - l.length) 0)).toArray 5 (cp, cp + 1))).heap[w.heap.size]? = some (.cells (u8s (l ++ List.replicate (cp - l.length) 0)).toArray 5 (cp, cp + 1)) := heap_alloc_new w.drew _
  have hrun2 := hrun
  generalize hW : w.drew.alloc (.cells (u8s (l ++ List.replicate (cp - l.length) 0)).toArray 5 (cp, cp + 1)) = W at *
  have hR : W.rangeAt w.heap.size 0 (u8s l) := by
    rw [← hW]
    exact rangeAt_new w.drew (u8s (l ++ List.replicate (cp - l.length) 0)).toArray 5 (cp, cp + 1) (u8s l) (fun j v hj => by
      rw [List.getElem?_toArray, u8s_append, List.getElem?_append_left (List.getElem?_eq_some_iff.1 hj).1]; exact hj)
  have hT : W.there w.heap.size 0 cp := by
    intro j hj
    refine ⟨?_, ?_⟩
    · rw [cell_of_row _ _ _ _ _ _ hblk, Nat.zero_add, List.getElem?_toArray, List.getElem?_eq_getElem (by rw [u8s_length, List.length_append, List.length_replicate]; omega)]; rfl
    · unfold World.frozen?
      simp only [hblk, Nat.zero_add]
      have h2 : decide (cp ≤ j) = false := decide_eq_false (by omega)
      simp [h2]
  have hS : w.heap.size < W.heap.size := by rw [← hW]; simp
  have hF : Fr No w W := by rw [← hW]; exact (Fr.refl No w).drew.alloc _
  have h1 := h (some ⟨w.heap.size, 0, none⟩) cp W (hid ⟨w.heap.size, cp, rfl, Nat.le_refl _, hS, hge, hmx, hR, hT⟩) (hid hF)
  unfold Oper.wp
  simp [execOp, ho, hx, hrun, Result.andThen]
  exact hK _ _ h1
end Go.Proofs.Ythnahoodgkeaiaa.BE
