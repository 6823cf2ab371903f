/-
  Arrays of numbers of one kind in memory, as functions. Over any program.
-/
import Derived.Test.YtejbanlhgnlliaaDoorCall
namespace Go.Proofs.YtejbanlhgnlliaaDoor.AR
set_option maxRecDepth 100000
open Go.RowKit K

/-- n bytes, as cells. -/
def bw (kd : IntKind) (f : Nat → Nat) (n : Nat) : List Value := (List.range n).map fun i => .int kd (f i : Int)
def ba (kd : IntKind) (f : Nat → Nat) (n : Nat) : Value := .agg (bw kd f n).toArray
variable {kd : IntKind}
/-- Another number at place i. -/
def upd (f : Nat → Nat) (i x : Nat) : Nat → Nat := fun j => if j = i then x else f j
/-- g as far as n, f behind it. -/
def upto (n : Nat) (g f : Nat → Nat) : Nat → Nat := fun j => if j < n then g j else f j
/-- m bytes from place o on. -/
def over (f : Nat → Nat) (o m : Nat) (g : Nat → Nat) : Nat → Nat := fun j => if o ≤ j ∧ j < o + m then g (j - o) else f j
@[simp] theorem bw_length (f : Nat → Nat) (n : Nat) : (bw kd f n).length = n := by simp [bw]
theorem bw_get (f : Nat → Nat) {i n : Nat} (h : i < n) : (bw kd f n)[i]? = some (.int kd (f i : Int)) := by simp [bw, h]
theorem bw_congr {f g : Nat → Nat} {n : Nat} (h : ∀ i, i < n → f i = g i) : bw kd f n = bw kd g n := by
  unfold bw
  refine List.map_congr_left fun i hi => ?_
  rw [h i (List.mem_range.1 hi)]
theorem bw_inj {f g : Nat → Nat} {n : Nat} (h : bw kd f n = bw kd g n) : ∀ i, i < n → f i = g i := fun i hi => by
  have h1 := bw_get (kd := kd) f hi
  rw [h, bw_get g hi] at h1
  have : ((g i : Nat) : Int) = (f i : Nat) := by simpa using h1
  omega
theorem bw_set (f : Nat → Nat) (n i x : Nat) : (bw kd f n).set i (.int kd (x : Int)) = bw kd (upd f i x) n := by
  refine List.ext_getElem? fun j => ?_
  by_cases hj : j < n
  · rw [bw_get _ hj, List.getElem?_set]
    unfold upd
    by_cases e : i = j
    · subst e; simp [hj]
    · rw [if_neg e, if_neg (fun h => e h.symm), bw_get _ hj]
  · rw [List.getElem?_eq_none (by simp; omega), List.getElem?_eq_none (by simp; omega)]
theorem bw_spl (f g : Nat → Nat) {n o m : Nat} (h : o + m ≤ n) : spl (bw kd f n) o (bw kd g m) = bw kd (over f o m g) n := by
  refine List.ext_getElem? fun j => ?_
  unfold spl over
  by_cases hj : j < n
  · rw [bw_get _ hj]
    by_cases h1 : j < o
    · rw [List.append_assoc, List.getElem?_append_left (by simp; omega), List.getElem?_take, if_pos h1, bw_get _ hj, if_neg (by omega)]
    · by_cases h2 : j < o + m
      · rw [List.append_assoc, List.getElem?_append_right (by simp; omega), List.getElem?_append_left (by simp; omega), if_pos ⟨by omega, h2⟩]
        simp only [List.length_take, bw_length, Nat.min_eq_left (show o ≤ n by omega)]
        rw [bw_get _ (by omega)]
      · rw [List.getElem?_append_right (by simp; omega), if_neg (by omega)]
        simp only [List.length_append, List.length_take, bw_length, Nat.min_eq_left (show o ≤ n by omega), List.getElem?_drop]
        rw [show o + m + (j - (o + m)) = j by omega, bw_get _ hj]
  · rw [List.getElem?_eq_none (by simp; omega), List.getElem?_eq_none (by simp; omega)]
theorem bw_part (f : Nat → Nat) {n o m : Nat} (h : o + m ≤ n) : ((bw kd f n).drop o).take m = bw kd (fun i => f (o + i)) m := by
  refine List.ext_getElem? fun j => ?_
  rw [List.getElem?_take]
  by_cases hj : j < m
  · rw [if_pos hj, List.getElem?_drop, bw_get _ (by omega), bw_get _ hj]
  · rw [if_neg hj, List.getElem?_eq_none (by simp; omega)]
theorem bw_one (f : Nat → Nat) (n : Nat) : ∀ v ∈ bw kd f n, v.oneCell' = true := by
  intro v hv
  obtain ⟨i, _, rfl⟩ := List.mem_map.1 hv
  rfl
theorem upto_zero (g f : Nat → Nat) : upto 0 g f = f := by funext j; simp [upto]
theorem upto_set (g f : Nat → Nat) (n : Nat) : upd (upto n g f) n (g n) = upto (n + 1) g f := by
  funext j
  unfold upd upto
  by_cases h : j = n
  · subst h; rw [if_pos rfl, if_pos (by omega)]
  · rw [if_neg h]
    by_cases h2 : j < n
    · rw [if_pos h2, if_pos (by omega)]
    · rw [if_neg h2, if_neg (by omega)]
theorem upto_get (g f : Nat → Nat) {n j : Nat} (h : n ≤ j) : upto n g f j = f j := by unfold upto; rw [if_neg (by omega)]
theorem upto_all (g f : Nat → Nat) (n : Nat) : bw kd (upto n g f) n = bw kd g n := bw_congr fun i hi => by unfold upto; rw [if_pos hi]
theorem upd_upd (f : Nat → Nat) (i x y : Nat) : upd (upd f i x) i y = upd f i y := by
  funext j; unfold upd; split <;> rfl
theorem upd_self (f : Nat → Nat) (i : Nat) : upd f i (f i) = f := by
  funext j; unfold upd; split
  · rename_i h; rw [h]
  · rfl
theorem upd_at (f : Nat → Nat) (i x : Nat) : upd f i x i = x := by simp [upd]
theorem upd_ne (f : Nat → Nat) {i j : Nat} (x : Nat) (h : j ≠ i) : upd f i x j = f j := by simp [upd, h]
section
variable {P : Program} {ops : Array Oper} {rest : List Oper} {op : Oper} {a : Act} {w : World} {Q : Exit → Act → World → Prop}
theorem blk_at {b : Nat} {t : TypeId} {f : Nat → Nat} {n : Nat} (h : Blk w b t (bw kd f n)) {i : Nat} (hi : i < n) : w.cell? ⟨b, i, none⟩ = some (.int kd (f i : Int)) := by rw [h.cell, bw_get f hi]
theorem blk_row {b : Nat} {t : TypeId} {f : Nat → Nat} {n : Nat} (h : Blk w b t (bw kd f n)) (o m : Nat) (hi : o + m ≤ n) : w.rangeAt b o (bw kd (fun i => f (o + i)) m) := by
  have := h.range o (bw kd (fun i => f (o + i)) m) (by rw [bw_length, bw_part f hi])
  exact this
theorem run_put (w : World) (b o : Nat) (ty : TypeId) (v : Value) (hv : v.cells = #[v]) (ht : w.there b o 1) (hi : (P.info? ty).map (·.size) = some 1) (h1 : v.oneCell' = true) :
    (storeVar ty ⟨b, o, none⟩ v).run P w = .ok () (w.setCells b o [v]) := by
  have := run_storeCells_cells (P := P) b o [v] 0 w (fun j hj => by simpa using (ht j (by simpa using hj)).1) (fun j hj => by simpa using (ht j (by simpa using hj)).2) (by simpa using h1)
  cases hq : P.info? ty with
  | none => simp [hq] at hi
  | some i =>
    have hi' : i.size = 1 := by simpa [hq] using hi
    simp [storeVar, sizeOf, typeInfo, hq, hi', hv, this]
/-- A byte is stored into a row that is known. -/
theorem wp_put {K : Act → World → Prop} (ty : TypeId) (x y : Operand) (ho : op.op = .store ty x y) (b o : Nat) (v : Nat) (hx : a.eval x = .pointer (some ⟨b, o, none⟩)) (hy : a.eval y = .int kd (v : Int))
    (t : TypeId) (f : Nat → Nat) (n : Nat) (hB : Blk w b t (bw kd f n)) (hle : o < n) (hi : (P.info? ty).map (·.size) = some 1)
    (h : ∀ w', Hid (Blk w' b t (bw kd (upd f o v) n)) → Hid (Fr (fun k => k = b) w w') → Hid (w'.heap.size = w.heap.size) → K (a.put op.dst undef) w') : op.wp P a w K Q := by
  have hS := hB.sets [.int kd (v : Int)] o (by simp; omega)
  have e : spl (bw kd f n) o [.int kd (v : Int)] = bw kd (upd f o v) n := by
    rw [← bw_set, ← spl_cons _ _ _ _ (by simpa using hle), spl_nil]
  rw [e] at hS
  have hrun := run_put w b o ty (.int kd (v : Int)) rfl (hB.there o 1 (by simp; omega)) hi rfl
  unfold Oper.wp execOp
  simp only [ho, hx, hy, Instr.storeAt, Instr.sureAddr, Sem.run_bind, Sem.run_pure, Result.andThen_ok, hrun]
  exact h _ (hid hS) (hid ((Fr.refl (fun k => k = b) w).setCells b o _ (.inl rfl))) (hid (by simp))
theorem wpL_put (hgd : op.guard = none) (ty : TypeId) (x y : Operand) (ho : op.op = .store ty x y) (b o : Nat) (v : Nat) (hx : a.eval x = .pointer (some ⟨b, o, none⟩)) (hy : a.eval y = .int kd (v : Int))
    (t : TypeId) (f : Nat → Nat) (n : Nat) (hB : Blk w b t (bw kd f n)) (hle : o < n) (hi : (P.info? ty).map (·.size) = some 1)
    (h : ∀ w', Hid (Blk w' b t (bw kd (upd f o v) n)) → Hid (Fr (fun k => k = b) w w') → Hid (w'.heap.size = w.heap.size) → wpList P ops Q rest (a.put op.dst undef) w') : wpList P ops Q (op :: rest) a w :=
  wpList_plain hgd fun _ hK => wp_put ty x y ho b o v hx hy t f n hB hle hi fun w' p q r => hK _ _ (h w' p q r)
/-- A row of bytes is stored into a row that is known. -/
theorem wp_row {K : Act → World → Prop} (ty : TypeId) (x y : Operand) (ho : op.op = .store ty x y) (b o : Nat) (g : Nat → Nat) (m : Nat) (hx : a.eval x = .pointer (some ⟨b, o, none⟩)) (hy : a.eval y = ba kd g m)
    (t : TypeId) (f : Nat → Nat) (n : Nat) (hB : Blk w b t (bw kd f n)) (hle : o + m ≤ n) (hi : (P.info? ty).map (·.size) = some m)
    (h : ∀ w', Hid (Blk w' b t (bw kd (over f o m g) n)) → Hid (Fr (fun k => k = b) w w') → Hid (w'.heap.size = w.heap.size) → K (a.put op.dst undef) w') : op.wp P a w K Q :=
  wp_storeB ty x y ho b o (bw kd g m) hx hy t (bw kd f n) hB (by simpa using hle) (by simpa using hi) (bw_one g m) fun w' p q r => h w' (hid (by have := p.out; rwa [bw_spl f g hle] at this)) q r
theorem wpL_row (hgd : op.guard = none) (ty : TypeId) (x y : Operand) (ho : op.op = .store ty x y) (b o : Nat) (g : Nat → Nat) (m : Nat) (hx : a.eval x = .pointer (some ⟨b, o, none⟩)) (hy : a.eval y = ba kd g m)
    (t : TypeId) (f : Nat → Nat) (n : Nat) (hB : Blk w b t (bw kd f n)) (hle : o + m ≤ n) (hi : (P.info? ty).map (·.size) = some m)
    (h : ∀ w', Hid (Blk w' b t (bw kd (over f o m g) n)) → Hid (Fr (fun k => k = b) w w') → Hid (w'.heap.size = w.heap.size) → wpList P ops Q rest (a.put op.dst undef) w') : wpList P ops Q (op :: rest) a w :=
  wpList_plain hgd fun _ hK => wp_row ty x y ho b o g m hx hy t f n hB hle hi fun w' p q r => hK _ _ (h w' p q r)
/-- The same over a whole row. -/
theorem over_all (f g : Nat → Nat) (n : Nat) : bw kd (over f 0 n g) n = bw kd g n := bw_congr fun i hi => by unfold over; rw [if_pos ⟨by omega, by omega⟩]; rfl
theorem wpL_whole (hgd : op.guard = none) (ty : TypeId) (x y : Operand) (ho : op.op = .store ty x y) (b : Nat) (g : Nat → Nat) (n : Nat) (hx : a.eval x = .pointer (some ⟨b, 0, none⟩)) (hy : a.eval y = ba kd g n)
    (t : TypeId) (f : Nat → Nat) (hB : Blk w b t (bw kd f n)) (hi : (P.info? ty).map (·.size) = some n)
    (h : ∀ w', Hid (Blk w' b t (bw kd g n)) → Hid (Fr (fun k => k = b) w w') → Hid (w'.heap.size = w.heap.size) → wpList P ops Q rest (a.put op.dst undef) w') : wpList P ops Q (op :: rest) a w :=
  wpL_row hgd ty x y ho b 0 g n hx hy t f n hB (by omega) hi fun w' p q r => h w' (hid (by have := p.out; rwa [over_all] at this)) q r
/-- A row of bytes is read. -/
theorem wpL_part (hgd : op.guard = none) (ty : TypeId) (x : Operand) (ho : op.op = .load ty x) (b o : Nat) (m : Nat) (hx : a.eval x = .pointer (some ⟨b, o, none⟩)) (t : TypeId) (f : Nat → Nat) (n : Nat) (d : TypeDesc) (hB : Blk w b t (bw kd f n)) (hle : o + m ≤ n)
    (hu : P.underlying ty = some d) (hd : d.isRow = true) (hi : (P.info? ty).map (·.size) = some m) (h : wpList P ops Q rest (a.put op.dst (ba kd (fun i => f (o + i)) m)) w) : wpList P ops Q (op :: rest) a w :=
  wpL_load hgd ty x ho b o hx (bw kd (fun i => f (o + i)) m) d (blk_row hB o m hle) hu hd (by simpa using hi) h
theorem wpL_all (hgd : op.guard = none) (ty : TypeId) (x : Operand) (ho : op.op = .load ty x) (b : Nat) (hx : a.eval x = .pointer (some ⟨b, 0, none⟩)) (t : TypeId) (f : Nat → Nat) (n : Nat) (d : TypeDesc) (hB : Blk w b t (bw kd f n))
    (hu : P.underlying ty = some d) (hd : d.isRow = true) (hi : (P.info? ty).map (·.size) = some n) (h : wpList P ops Q rest (a.put op.dst (ba kd f n)) w) : wpList P ops Q (op :: rest) a w := by
  refine wpL_part hgd ty x ho b 0 n hx t f n d hB (by omega) hu hd hi ?_
  rw [show (fun i => f (0 + i)) = f by funext i; rw [Nat.zero_add]]
  exact h
/-- The same two, with what is read and what lies there behind in words of one's own. -/
theorem wpL_partG (hgd : op.guard = none) (ty : TypeId) (x : Operand) (ho : op.op = .load ty x) (b o : Nat) (m : Nat) (hx : a.eval x = .pointer (some ⟨b, o, none⟩)) (t : TypeId) (f g : Nat → Nat) (n : Nat) (d : TypeDesc) (hB : Blk w b t (bw kd f n)) (hle : o + m ≤ n)
    (hg : ∀ i, i < m → f (o + i) = g i) (hu : P.underlying ty = some d) (hd : d.isRow = true) (hi : (P.info? ty).map (·.size) = some m) (h : wpList P ops Q rest (a.put op.dst (ba kd g m)) w) : wpList P ops Q (op :: rest) a w := by
  refine wpL_part hgd ty x ho b o m hx t f n d hB hle hu hd hi ?_
  rw [ba, bw_congr hg]
  exact h
theorem wpL_rowG (hgd : op.guard = none) (ty : TypeId) (x y : Operand) (ho : op.op = .store ty x y) (b o : Nat) (g : Nat → Nat) (m : Nat) (hx : a.eval x = .pointer (some ⟨b, o, none⟩)) (hy : a.eval y = ba kd g m)
    (t : TypeId) (f F : Nat → Nat) (n : Nat) (hB : Blk w b t (bw kd f n)) (hle : o + m ≤ n) (hF : ∀ i, i < n → over f o m g i = F i) (hi : (P.info? ty).map (·.size) = some m)
    (h : ∀ w', Hid (Blk w' b t (bw kd F n)) → Hid (Fr (fun k => k = b) w w') → Hid (w'.heap.size = w.heap.size) → wpList P ops Q rest (a.put op.dst undef) w') : wpList P ops Q (op :: rest) a w :=
  wpL_row hgd ty x y ho b o g m hx hy t f n hB hle hi fun w' p q r => h w' (hid (by have := p.out; rwa [bw_congr hF] at this)) q r
/-- A call of a function value, at the list of a plain region. -/
theorem wpL_callF (hgd : op.guard = none) (x : Operand) (args : List Operand) (tys : Array TypeId)
    (ho : op.op = .call { callee := .value x, args := args.toArray, argTypes := tys }) (f : FuncId) (cap : List Value) (hx : a.eval x = .func (.func f) #[] cap.toArray)
    (hent : ∀ (vs : Array Value) (w : World), (callFunc f vs).run P w = .ok (.enter f vs) w) (vs : List Value) (hvs : args.map a.eval ++ cap = vs)
    (hc : Calls P f vs.toArray w fun e w' => ∃ v, e = .returned v ∧ wpList P ops Q rest (a.put op.dst v) w') : wpList P ops Q (op :: rest) a w :=
  wpList_plain hgd fun _ hK => wp_call x args tys ho f cap hx hent vs hvs (hc.mono fun e w' ⟨v, h1, h2⟩ => ⟨v, h1, hK _ _ h2⟩)
end
end Go.Proofs.YtejbanlhgnlliaaDoor.AR
