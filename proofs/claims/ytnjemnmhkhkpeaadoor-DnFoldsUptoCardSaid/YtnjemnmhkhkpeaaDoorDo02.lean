/-
  Part 2 of the proof: BeO, DnD, DnX, DnRow, DnC.
-/
import Derived.Test.YtnjemnmhkhkpeaaDoorDo01
import Derived.Lib.AppendStr
import Derived.Test.YtnjemnmhkhkpeaaDoorChecked
import Derived.Test.YtnjemnmhkhkpeaaDoorRows
import Derived.Test.YtnjemnmhkhkpeaaDoorDo00
import Derived.WalkKit
import Derived.ProofKit
import Derived.OpenShut
import Derived.ChangeOld
import Derived.Below
import Derived.SizedLaws
import Derived.Lib.UnsafeStr
set_option linter.unusedSimpArgs false
set_option linter.unusedVariables false
namespace Go.Proofs.YtnjemnmhkhkpeaaDoor.BE
set_option maxRecDepth 100000
open Go.RowKit K
theorem frown {w w' : World} {row : Option Nat} (h : w.grownBy w' row) : Fr (fun k => row = some k) w w' := ⟨h.os, h.tape, h.output, h.size, fun k hk hn => h.block k hk (fun e => hn e.symm)⟩
theorem own_ge {w : World} {base : Nat} {e : TypeId} {k : Nat} {v : Value} {n : Nat} {xs : List Value} (h : w.ownsRow base e k v n xs) (g : Nat) (hg : v.ownBlock = some g) : base ≤ g ∧ g < w.heap.size := by
  rcases h.2 with ⟨rfl, _⟩ | ⟨g', cap, cur, rfl, hb, h1, -⟩
  · cases hg
  · cases hg; exact ⟨hb, (Array.getElem?_eq_some_iff.1 h1).1⟩
theorem str_cells (s : ByteArray) : Go.Lib.strCells s = u8s s.data.toList := rfl
theorem run_append_str {P : Program} {w : World} (base : Nat) (t u ty e : TypeId) (i : TypeInfo) (ht : P.underlying t = some (.slice e)) (hu : P.underlying u = some .string) (hi : P.info? e = some i) (hz : i.zero = some (.int .u8 0)) (hsize : i.size = 1) (hby : i.bytes = 1)
    (v : Value) (n : Nat) (xs : List Value) (hown : w.ownsRow base e 1 v n xs) (s : ByteArray) (h63 : n + s.size ≤ maxLen) (hbytes : n + s.size ≤ 140737488355328) (hbase : base ≤ w.heap.size) :
    ∃ a c w', (Builtin.append_ #[t, u] ty #[v, .string s]).run P w = .ok (.slice a (n + s.size) c) w' ∧ w'.ownsRow base e 1 (.slice a (n + s.size) c) (n + s.size) (xs ++ u8s s.data.toList) ∧ w.grownBy w' v.ownBlock ∧
      ((Value.slice a (n + s.size) c).ownBlock = v.ownBlock ∨ (Value.slice a (n + s.size) c).ownBlock = some w.heap.size) := by
  obtain ⟨v', w', hr, h2, h3, h4⟩ := Go.Lib.run_append_own_string (P := P) w base t u ty e i ht hu hi hz hsize hby v n xs hown s h63 hbytes hbase
  obtain ⟨a, c, rfl, -, -⟩ := own_form h2
  refine ⟨a, c, w', hr, by rw [← str_cells]; exact h2, h3, ?_⟩
  rcases hown.2 with ⟨rfl, h0⟩ | ⟨g, cap, cur, rfl, hbg, hg, hnc, hcm, hcs, htake⟩
  · by_cases hm : s.size = 0
    · have := h4.2 ⟨rfl, hm⟩
      rw [this]; exact .inl rfl
    · have hx := Go.run_append_nil_string (P := P) (w := w) t u ty e i (.int .u8 0) ht hu hi hz s (by omega) (by unfold maxLen at h63; omega) (by rw [hby]; omega)
      rw [hx] at hr
      simp only [Result.ok.injEq, Value.slice.injEq] at hr
      obtain ⟨⟨rfl, -, -⟩, -⟩ := hr
      exact .inr rfl
  · have hcs1 : cur.size = cap := by simpa using hcs
    by_cases hroom : n + s.size ≤ cap
    · have hx := Go.Lib.run_append_room_string (P := P) w t u ty e i ht hu hi hsize g n cap cur hg s hroom (by rw [hcs1]; exact hroom)
      rw [hx] at hr
      simp only [Result.ok.injEq, Value.slice.injEq] at hr
      obtain ⟨⟨rfl, -, -⟩, -⟩ := hr
      exact .inl rfl
    · have hx := Go.Lib.run_append_grow_string (P := P) w t u ty e i (.int .u8 0) ht hu hi hz ⟨g, 0, none⟩ n cap xs (by rw [hsize]; simpa using hown.1) (hown.cells (g := g) rfl) s (by omega) (by unfold maxLen at h63; omega) (by rw [hby]; exact growslice_fits (by omega) (by omega))
      rw [hx] at hr
      simp only [Result.ok.injEq, Value.slice.injEq] at hr
      obtain ⟨⟨rfl, -, -⟩, -⟩ := hr
      exact .inr rfl

theorem wp_appendStr {P : Program} {op : Oper} {a : Act} {w : World} {K : Act → World → Prop} {Q : Exit → Act → World → Prop} (s x : Operand) (t u : TypeId) (ho : op.op = .call { callee := .builtin .append, args := #[s, x], argTypes := #[t, u] })
    (base : Nat) (e : TypeId) (i : TypeInfo) (ht : P.underlying t = some (.slice e)) (hu : P.underlying u = some .string) (hi : P.info? e = some i) (hz : i.zero = some (.int .u8 0)) (hsize : i.size = 1) (hby : i.bytes = 1)
    (v : Value) (n : Nat) (xs : List Value) (hv : a.eval s = v) (hown : w.ownsRow base e 1 v n xs) (str : ByteArray) (hx : a.eval x = .string str) (h63 : n + str.size ≤ maxLen) (hbytes : n + str.size ≤ 140737488355328) (hbase : base ≤ w.heap.size)
    (h : ∀ a' cap' w', Hid (w'.ownsRow base e 1 (.slice a' (n + str.size) cap') (n + str.size) (xs ++ u8s str.data.toList)) → Hid (w.grownBy w' v.ownBlock) → Hid ((Value.slice a' (n + str.size) cap').ownBlock = v.ownBlock ∨ (Value.slice a' (n + str.size) cap').ownBlock = some w.heap.size) →
      K (a.put op.dst (.slice a' (n + str.size) cap')) w') : op.wp P a w K Q := by
  obtain ⟨a', c', w', hr, h2, h3, h4⟩ := run_append_str (P := P) (w := w) base t u op.type e i ht hu hi hz hsize hby v n xs hown str h63 hbytes hbase
  unfold Oper.wp execOp
  simp only [ho, resolve, invoke, builtin, Sem.run_bind, Sem.run_pure, Result.andThen_ok, List.map_toArray, List.map_cons, List.map_nil, hv, hx, hr]
  exact h a' c' w' (hid h2) (hid h3) (hid h4)

theorem wpL_valZ {P : Program} {ops : Array Oper} {rest : List Oper} {op : Oper} {a : Act} {w : World} {Q : Exit → Act → World → Prop} (hw : Region.wanted op (yielded ops a.tmps) = true) (v : Value) (hy : (execOp a.eval op).run P w = .ok (.value v) w) (h : wpList P ops Q rest (a.put op.dst v) w) : wpList P ops Q (op :: rest) a w := by
  unfold wpList
  rw [if_pos hw]
  left
  unfold Oper.wp
  rw [hy]
  exact h
theorem ret_cell2 {P : Program} {a : Act} {w : World} {fn : Func} {R : Ending → World → Prop} {p q : Tmp} {ty : TypeId} {b : Nat} {t : TypeId} {cs : List Value} (hr : fn.results = #[.cell p ty, .tmp q]) (d : TypeDesc) (hp : a.tmps.getD p undef = .pointer (some ⟨b, 0, none⟩)) (hB : Blk w b t cs)
    (hu : P.underlying ty = some d) (hd : (match d with | .struct _ | .array _ _ => true | _ => false) = true) (hi : (P.info? ty).map (·.size) = some cs.length) (hdf : a.defers = [])
    (h : R (.returned (.tuple #[.agg cs.toArray, a.tmps.getD q undef])) w) : bodyPost P fn R .ret a w := by
  refine bodyPost_ret ?_ hdf h
  have hp' : a.tmps[p]?.getD undef = .pointer (some ⟨b, 0, none⟩) := by simpa using hp
  simp [results, hr, hp', asAddr, run_loadVar_row w b t ty cs.toArray (0, 0) d hB hu hd (by simpa using hi)]
section
variable {P : Program} {ops : Array Oper} {rest : List Oper} {op : Oper} {a : Act} {w : World} {Q : Exit → Act → World → Prop}
theorem run_storeV (w : World) (b o : Nat) (ty : TypeId) (v : Value) (vs : List Value) (hvs : v.cells = vs.toArray) (ht : w.there b o vs.length) (hi : (P.info? ty).map (·.size) = some vs.length) (h1 : ∀ u ∈ vs, u.oneCell' = true) :
    (storeVar ty ⟨b, o, none⟩ v).run P w = .ok () (w.setCells b o vs) := by
  have := run_storeCells_cells (P := P) b o vs 0 w (fun j hj => by simpa using (ht j (by simpa using hj)).1) (fun j hj => by simpa using (ht j (by simpa using hj)).2) h1
  cases hq : P.info? ty with
  | none => simp [hq] at hi
  | some i =>
    have hi' : i.size = vs.length := by simpa [hq] using hi
    simp [storeVar, sizeOf, typeInfo, hq, hi', hvs, this]
theorem wp_storeV {K : Act → World → Prop} (ty : TypeId) (x y : Operand) (ho : op.op = .store ty x y) (b o : Nat) (v : Value) (vs : List Value) (hx : a.eval x = .pointer (some ⟨b, o, none⟩)) (hy : a.eval y = v) (hvs : v.cells = vs.toArray)
    (t : TypeId) (cs : List Value) (hB : Blk w b t cs) (hle : o + vs.length ≤ cs.length) (hi : (P.info? ty).map (·.size) = some vs.length) (h1 : ∀ u ∈ vs, u.oneCell' = true)
    (h : ∀ w', Hid (Blk w' b t (spl cs o vs)) → Hid (Fr (fun k => k = b) w w') → Hid (w'.heap.size = w.heap.size) → K (a.put op.dst undef) w') : op.wp P a w K Q := by
  unfold Oper.wp execOp
  simp only [ho, hx, hy, Instr.storeAt, Instr.sureAddr, Sem.run_bind, Sem.run_pure, Result.andThen_ok, run_storeV w b o ty v vs hvs (hB.there o vs.length hle) hi h1]
  exact h _ (hid (hB.sets vs o hle)) (hid ((Fr.refl (fun k => k = b) w).setCells b o vs (.inl rfl))) (hid (by simp))
theorem wpL_storeV (hgd : op.guard = none) (ty : TypeId) (x y : Operand) (ho : op.op = .store ty x y) (b o : Nat) (v : Value) (vs : List Value) (hx : a.eval x = .pointer (some ⟨b, o, none⟩)) (hy : a.eval y = v) (hvs : v.cells = vs.toArray)
    (t : TypeId) (cs : List Value) (hB : Blk w b t cs) (hle : o + vs.length ≤ cs.length) (hi : (P.info? ty).map (·.size) = some vs.length) (h1 : ∀ u ∈ vs, u.oneCell' = true)
    (h : ∀ w', Hid (Blk w' b t (spl cs o vs)) → Hid (Fr (fun k => k = b) w w') → Hid (w'.heap.size = w.heap.size) → wpList P ops Q rest (a.put op.dst undef) w') : wpList P ops Q (op :: rest) a w :=
  wpList_plain hgd fun _ hK => wp_storeV ty x y ho b o v vs hx hy hvs t cs hB hle hi h1 fun w' a b c => hK _ _ (h w' a b c)
/-- One cell is stored. -/
theorem wpL_setV (hgd : op.guard = none) (ty : TypeId) (x y : Operand) (ho : op.op = .store ty x y) (b o : Nat) (v : Value) (hx : a.eval x = .pointer (some ⟨b, o, none⟩)) (hy : a.eval y = v) (hv : v.cells = #[v]) (h1 : v.oneCell' = true)
    (t : TypeId) (cs : List Value) (hB : Blk w b t cs) (hle : o < cs.length) (hi : (P.info? ty).map (·.size) = some 1)
    (h : ∀ w', Hid (Blk w' b t (cs.set o v)) → Hid (Fr (fun k => k = b) w w') → Hid (w'.heap.size = w.heap.size) → wpList P ops Q rest (a.put op.dst undef) w') : wpList P ops Q (op :: rest) a w :=
  wpL_storeV hgd ty x y ho b o v [v] hx hy (by rw [hv]) t cs hB (by simp; omega) hi (by simpa using h1) fun w' h2 h3 h4 => h w' (by
    rw [← spl_nil (cs.set o v) (o + 1), spl_cons _ _ _ _ hle]; exact h2) h3 h4
/-- A call that may fail. -/
theorem wp_callP {K : Act → World → Prop} (x : Operand) (args : List Operand) (tys : Array TypeId) (ho : op.op = .call { callee := .value x, args := args.toArray, argTypes := tys }) (f : FuncId) (cap : List Value) (hx : a.eval x = .func (.func f) #[] cap.toArray)
    (hent : ∀ (vs : Array Value) (w : World), (callFunc f vs).run P w = .ok (.enter f vs) w) (vs : List Value) (hvs : args.map a.eval ++ cap = vs)
    (hc : Calls P f vs.toArray w fun e w' => (∃ v, e = .returned v ∧ K (a.put op.dst v) w') ∨ ∃ c, e = .panicked c ∧ Q (.panic c) a w') : op.wp P a w K Q := by
  unfold Oper.wp
  have e : (execOp a.eval op).run P w = .ok (.enter f vs.toArray) w := by
    have h1 := hent vs.toArray w
    rw [← hvs] at h1
    simp [execOp, ho, resolve, hx, Deferred.ofValue, invoke]
    rw [← hvs]
    simpa using h1
  rw [e]
  show Calls P f vs.toArray w _
  refine hc.mono ?_
  rintro e w' (⟨v, rfl, h⟩ | ⟨c, rfl, h⟩)
  · exact h
  · exact h
theorem wpL_callP (hgd : op.guard = none) (x : Operand) (args : List Operand) (tys : Array TypeId) (ho : op.op = .call { callee := .value x, args := args.toArray, argTypes := tys }) (f : FuncId) (cap : List Value) (hx : a.eval x = .func (.func f) #[] cap.toArray)
    (hent : ∀ (vs : Array Value) (w : World), (callFunc f vs).run P w = .ok (.enter f vs) w) (vs : List Value) (hvs : args.map a.eval ++ cap = vs)
    (hc : Calls P f vs.toArray w fun e w' => (∃ v, e = .returned v ∧ wpList P ops Q rest (a.put op.dst v) w') ∨ ∃ c, e = .panicked c ∧ Q (.panic c) a w') : wpList P ops Q (op :: rest) a w :=
  wpList_plain hgd fun _ hK => wp_callP x args tys ho f cap hx hent vs hvs (hc.mono fun e w' h => h.imp (fun ⟨v, h1, h2⟩ => ⟨v, h1, hK _ _ h2⟩) id)
/-- 'append(v, x...)' as one operation of a region. -/
theorem wp_append {K : Act → World → Prop} (s x : Operand) (t : TypeId) (ho : op.op = .call { callee := .builtin .append, args := #[s, x], argTypes := #[t, t] })
    (base : Nat) (e : TypeId) (i : TypeInfo) (z : Value) (size bytes : Nat) (ht : P.underlying t = some (.slice e)) (hi : P.info? e = some i) (hz : i.zero = some z)
    (hsize : i.size = size) (hby : i.bytes = bytes) (hzs : z.cells.size = size) (hsz : 0 < size) (v : Value) (n : Nat) (xs : List Value) (hv : a.eval s = v) (hown : w.ownsRow base e size v n xs)
    (sp : Option Addr) (m c : Nat) (news : List Value) (hx : a.eval x = .slice sp m c) (hl : news.length = m * size) (hsrc : m = 0 ∨ ∃ ad, sp = some ad ∧ ∀ j u, news[j]? = some u → w.cell? (ad.add j) = some u) (h1 : ∀ u ∈ news, u.oneCell' = true)
    (h63 : n + m ≤ maxLen) (hbytes : (n + m) * bytes ≤ 140737488355328) (hbase : base ≤ w.heap.size)
    (h : ∀ a' cap' w', Hid (w'.ownsRow base e size (.slice a' (n + m) cap') (n + m) (xs ++ news)) → Hid (w.grownBy w' v.ownBlock) → Hid ((Value.slice a' (n + m) cap').ownBlock = v.ownBlock ∨ (Value.slice a' (n + m) cap').ownBlock = some w.heap.size) →
      K (a.put op.dst (.slice a' (n + m) cap')) w') : op.wp P a w K Q := by
  obtain ⟨v', w', hr, h2, h3, h4, a', cap', rfl⟩ := run_append_any (P := P) (w := w) t op.type base e i z size bytes ht hi hz hsize hby hzs hsz v n xs hown sp m c news hl hsrc h1 h63 hbytes hbase
  unfold Oper.wp execOp
  simp only [ho, resolve, invoke, builtin, Sem.run_bind, Sem.run_pure, Result.andThen_ok, List.map_toArray, List.map_cons, List.map_nil, hv, hx, hr]
  exact h a' cap' w' h2 h3 h4
/-- The last of a row's elements is stored anew. -/
theorem own_last {base : Nat} {e : TypeId} {v : Value} {n : Nat} {xs zs kid : List Value} (h : w.ownsRow base e 3 v (n + 1) (xs ++ zs)) (hx : xs.length = n * 3) (hk : kid.length = 3) :
    ∃ g cap cs, v = .slice (some ⟨g, 0, none⟩) (n + 1) cap ∧ n + 1 ≤ cap ∧ Blk w g e cs ∧ n * 3 + 3 ≤ cs.length ∧ ∀ w', Blk w' g e (spl cs (n * 3) kid) → w'.ownsRow base e 3 v (n + 1) (xs ++ kid) := by
  rcases h.2 with ⟨rfl, h0⟩ | ⟨g, cap, cur, rfl, hb, hg, h1, h2, h3, h4⟩
  · have h00 : n + 1 = 0 := h0
    omega
  · have hcs : cur.toList.length = cap * 3 := by simpa using h3
    have hle : n * 3 + 3 ≤ cur.toList.length := by rw [hcs]; omega
    refine ⟨g, cap, cur.toList, rfl, h1, by simpa [Blk] using hg, hle, fun w' hB => ?_⟩
    have htk : cur.toList.take (n * 3) = xs := by
      have h5 := congrArg (List.take (n * 3)) h4
      rw [List.take_take, Nat.min_eq_left (by omega), List.take_append_of_le_length (by omega), ← hx, List.take_length] at h5
      rw [← hx]; exact h5
    refine ⟨by rw [List.length_append, hx, hk]; omega, .inr ⟨g, cap, (spl cur.toList (n * 3) kid).toArray, rfl, hb, hB, h1, h2, ?_, ?_⟩⟩
    · rw [List.size_toArray, spl_length _ _ _ (by rw [hk]; exact hle)]; exact hcs
    · unfold spl
      rw [htk]
      have e1 : (n + 1) * 3 = (xs ++ kid).length := by rw [List.length_append, hx, hk]; omega
      simp only [List.append_assoc]
      rw [e1, ← List.append_assoc, List.take_left]
/-- A string's bytes behind a row. -/
theorem wpL_appendStr (hgd : op.guard = none) (s x : Operand) (t u : TypeId) (ho : op.op = .call { callee := .builtin .append, args := #[s, x], argTypes := #[t, u] })
    (base : Nat) (e : TypeId) (i : TypeInfo) (ht : P.underlying t = some (.slice e)) (hu : P.underlying u = some .string) (hi : P.info? e = some i) (hz : i.zero = some (.int .u8 0)) (hsize : i.size = 1) (hby : i.bytes = 1)
    (v : Value) (n : Nat) (xs : List Value) (hv : a.eval s = v) (hown : w.ownsRow base e 1 v n xs) (str : ByteArray) (hx : a.eval x = .string str) (h63 : n + str.size ≤ maxLen) (hbytes : n + str.size ≤ 140737488355328) (hbase : base ≤ w.heap.size)
    (h : ∀ a' cap' w', Hid (w'.ownsRow base e 1 (.slice a' (n + str.size) cap') (n + str.size) (xs ++ u8s str.data.toList)) → Hid (w.grownBy w' v.ownBlock) → Hid ((Value.slice a' (n + str.size) cap').ownBlock = v.ownBlock ∨ (Value.slice a' (n + str.size) cap').ownBlock = some w.heap.size) →
      wpList P ops Q rest (a.put op.dst (.slice a' (n + str.size) cap')) w') : wpList P ops Q (op :: rest) a w :=
  wpList_plain hgd fun _ hK => wp_appendStr s x t u ho base e i ht hu hi hz hsize hby v n xs hv hown str hx h63 hbytes hbase fun a' c' w' h1 h2 h3 => hK _ _ (h a' c' w' h1 h2 h3)
end
end Go.Proofs.YtnjemnmhkhkpeaaDoor.BE
namespace Go.Proofs.YtnjemnmhkhkpeaaDoor.DN
set_option maxRecDepth 100000
open Go.Proofs.YtnjemnmhkhkpeaaDoor.BE
abbrev Av := B × B
abbrev Rd := List Av
abbrev Nm := List Rd

/-! ### Types -/
def isLet (c : UInt8) : Bool := (97 ≤ c && c ≤ 122) || (65 ≤ c && c ≤ 90)
def isDig (c : UInt8) : Bool := 48 ≤ c && c ≤ 57
def okAt (first : Bool) (c : UInt8) : Bool := isLet c || (!first && (isDig c || c == 45))
def typ (s : B) : Bool := decide (1 ≤ s.length) && decide (s.length ≤ 20) && (match s with | [] => true | c :: r => okAt true c && r.all (okAt false))
/-- A letter made small. -/
def lo (c : UInt8) : UInt8 := if 65 ≤ c ∧ c ≤ 90 then c + 32 else c
def low (s : B) : B := s.map lo
/-! ### Texts -/
def sign (c : UInt8) : Bool := c == 34 || c == 43 || c == 44 || c == 59 || c == 60 || c == 62 || c == 92
def dgt (n : UInt8) : UInt8 := if n < 10 then 48 + n else 87 + n
/-- A byte's text: is it the first one, the last one? -/
def byT (first last : Bool) (c : UInt8) : B :=
  if c < 32 ∨ c = 127 then [92, dgt (c / 16), dgt (c % 16)]
  else if sign c || (c == 35 && first) || (c == 32 && (first || last)) then [92, c] else [c]
def valFrom : Bool → B → B
  | _, [] => []
  | first, c :: r => byT first r.isEmpty c ++ valFrom false r
def valT (v : B) : B := valFrom true v
def joinB (sep : B) : List B → B
  | [] => []
  | [a] => a
  | a :: b :: r => a ++ sep ++ joinB sep (b :: r)
def avaT (a : Av) : B := a.1 ++ [61] ++ valT a.2
def stepT (r : Rd) : B := joinB [43] (r.map avaT)
def printT (n : Nm) : B := joinB [44] (n.map stepT)
/-! ### Names that may be -/
def dup (r : Rd) (t : B) : Bool := r.any fun a => low a.1 == low t
/-- The types of a step are types, and differ from those ahead. -/
def typs : Rd → Rd → Bool
  | _, [] => true
  | seen, a :: r => typ a.1 && !dup seen a.1 && typs (seen ++ [a]) r
def okStep (r : Rd) : Bool := decide (1 ≤ r.length) && decide (r.length ≤ 4) && typs [] r
def built (n : Nm) : Bool := decide (n.length ≤ 16) && n.all okStep
def right (n : Nm) : Bool := built n && decide ((printT n).length ≤ 400)
/-! ### Reading -/
def hexv (c : UInt8) : Option UInt8 := if 48 ≤ c ∧ c ≤ 57 then some (c - 48) else if 97 ≤ c ∧ c ≤ 102 then some (c - 87) else if 65 ≤ c ∧ c ≤ 70 then some (c - 55) else none
/-- Behind a sign of escape: the byte, and the rest. -/
def esc : B → Option (UInt8 × B)
  | [] => none
  | c :: r => if sign c || c == 35 || c == 61 || c == 32 then some (c, r) else
    match r with
    | [] => none
    | d :: r' => match hexv c, hexv d with
      | some x, some y => some (16 * x + y, r')
      | _, _ => none
/-- One more byte of a value: none: it may not be; the byte, whether it is a bare blank, the rest. -/
def one (den : B) (c : UInt8) (r : B) : Option (UInt8 × Bool × B) :=
  if c = 92 then (esc r).map fun x => (x.1, false, x.2)
  else if c == 34 || c == 59 || c == 60 || c == 62 || c == 0 then none
  else if (c == 35 || c == 32) && den.isEmpty then none
  else some (c, c == 32, r)
def rvF : Nat → B → Bool → B → Option (B × B)
  | 0, _, _, _ => none
  | _ + 1, den, blank, [] => if blank then none else some (den, [])
  | f + 1, den, blank, c :: r => if c = 44 ∨ c = 43 then (if blank then none else some (den, c :: r)) else
    match one den c r with
    | none => none
    | some x => rvF f (den ++ [x.1]) x.2.1 x.2.2
/-- A value, and what is behind it. -/
def rv (s : B) : Option (B × B) := rvF (s.length + 1) [] false s
/-- What is ahead of the first =, and behind it. -/
def cutEq : B → Option (B × B)
  | [] => none
  | c :: r => if c = 61 then some ([], r) else (cutEq r).map fun x => (c :: x.1, x.2)
def readA (s : B) : Option (Av × B) := (cutEq s).bind fun x => (rv x.2).map fun y => ((x.1, y.1), y.2)
def readF : Nat → Nm → Rd → B → Option Nm
  | 0, _, _, _ => none
  | f + 1, n, step, s => (readA s).bind fun x => match x.2 with
    | [] => some (n ++ [step ++ [x.1]])
    | c :: r => if c = 44 then readF f (n ++ [step ++ [x.1]]) [] r else readF f n (step ++ [x.1]) r
def read (s : B) : Option Nm := if s = [] then some [] else readF (s.length + 1) [] [] s
/-- A text's name; the mistake's number. -/
def parse (s : B) : Nm × Int := if 400 < s.length then ([], 2) else
  match read s with
  | none => ([], 120)
  | some n => if built n then (n, 0) else ([], 120)

/-! ### Lemmas -/
theorem esc_len {r r' : B} {c : UInt8} (h : esc r = some (c, r')) : r'.length < r.length := by
  unfold esc at h
  split at h
  · cases h
  · split at h
    · cases h; simp
    · split at h
      · cases h
      · split at h
        · cases h; simp; omega
        · cases h
theorem one_len {den r r' : B} {c d : UInt8} {b : Bool} (h : one den c r = some (d, b, r')) : r'.length ≤ r.length := by
  unfold one at h
  split at h
  · cases he : esc r with
    | none => rw [he] at h; cases h
    | some x =>
      obtain ⟨x1, x2⟩ := x
      rw [he] at h
      have := esc_len he
      cases h
      exact Nat.le_of_lt this
  · split at h
    · cases h
    · split at h
      · cases h
      · cases h; exact Nat.le_refl _
/-- Enough fuel is enough. -/
theorem rvF_more : ∀ (f g : Nat) (den : B) (b : Bool) (s : B), s.length < f → s.length < g → rvF f den b s = rvF g den b s
  | 0, _, _, _, _, h, _ => by omega
  | _ + 1, 0, _, _, _, _, h => by omega
  | f + 1, g + 1, den, b, [], _, _ => rfl
  | f + 1, g + 1, den, b, c :: r, h1, h2 => by
    unfold rvF
    split
    · rfl
    · cases ho : one den c r with
      | none => rfl
      | some x =>
        obtain ⟨d, bb, r'⟩ := x
        have := one_len ho
        simp at h1 h2
        exact rvF_more f g _ _ r' (by omega) (by omega)
theorem rvF_len : ∀ (f : Nat) (den : B) (b : Bool) (s v r : B), rvF f den b s = some (v, r) → r.length ≤ s.length ∧ v.length ≤ den.length + s.length ∧ (r = [] ∨ ∃ c r', r = c :: r' ∧ (c = 44 ∨ c = 43))
  | 0, _, _, _, _, _, h => by cases h
  | f + 1, den, b, [], v, r, h => by
    unfold rvF at h
    cases b
    · cases h; simp
    · cases h
  | f + 1, den, b, c :: s, v, r, h => by
    unfold rvF at h
    split at h
    · rename_i hc
      cases b
      · cases h
        exact ⟨Nat.le_refl _, by simp, .inr ⟨c, s, rfl, hc⟩⟩
      · cases h
    · cases ho : one den c s with
      | none => rw [ho] at h; cases h
      | some x =>
        obtain ⟨d, bb, r'⟩ := x
        rw [ho] at h
        have h1 := one_len ho
        obtain ⟨h2, h3, h4⟩ := rvF_len f _ _ _ _ _ h
        dsimp only at h2 h3
        simp only [List.length_append, List.length_cons, List.length_nil] at h3 ⊢
        exact ⟨by omega, by omega, h4⟩
theorem rv_len {s v r : B} (h : rv s = some (v, r)) : r.length ≤ s.length ∧ v.length ≤ s.length ∧ (r = [] ∨ ∃ c r', r = c :: r' ∧ (c = 44 ∨ c = 43)) := by
  obtain ⟨h1, h2, h3⟩ := rvF_len _ _ _ _ _ _ h
  exact ⟨h1, by simpa using h2, h3⟩
theorem cutEq_len : ∀ {s a b : B}, cutEq s = some (a, b) → a.length + b.length < s.length
  | [], _, _, h => by cases h
  | c :: r, a, b, h => by
    unfold cutEq at h
    split at h
    · cases h; simp
    · cases hc : cutEq r with
      | none => rw [hc] at h; cases h
      | some x =>
        obtain ⟨x1, x2⟩ := x
        rw [hc] at h
        have := cutEq_len hc
        cases h
        simp; omega
theorem readA_len {s : B} {a : Av} {r : B} (h : readA s = some (a, r)) : r.length < s.length ∧ a.1.length ≤ s.length ∧ a.2.length ≤ s.length ∧ (r = [] ∨ ∃ c r', r = c :: r' ∧ (c = 44 ∨ c = 43)) := by
  unfold readA at h
  cases hc : cutEq s with
  | none => rw [hc] at h; cases h
  | some x =>
    obtain ⟨x1, x2⟩ := x
    rw [hc] at h
    simp only [Option.bind_some] at h
    cases hv : rv x2 with
    | none => rw [hv] at h; cases h
    | some y =>
      obtain ⟨y1, y2⟩ := y
      rw [hv] at h
      have h1 := cutEq_len hc
      obtain ⟨h2, h3, h4⟩ := rv_len hv
      cases h
      exact ⟨by show y2.length < _; omega, by show x1.length ≤ _; omega, by show y1.length ≤ _; omega, h4⟩
theorem readF_more : ∀ (f g : Nat) (n : Nm) (st : Rd) (s : B), s.length ≤ f → s.length ≤ g → readF (f + 1) n st s = readF (g + 1) n st s
  | f, g, n, st, s, h1, h2 => by
    unfold readF
    cases hA : readA s with
    | none => rfl
    | some x =>
      obtain ⟨a, r⟩ := x
      obtain ⟨h3, -⟩ := readA_len hA
      simp only [Option.bind_some]
      cases r with
      | nil => rfl
      | cons c r =>
        simp only [List.length_cons] at h3
        obtain ⟨f', rfl⟩ : ∃ f', f = f' + 1 := ⟨f - 1, by omega⟩
        obtain ⟨g', rfl⟩ : ∃ g', g = g' + 1 := ⟨g - 1, by omega⟩
        simp only
        rw [readF_more f' g' _ _ r (by omega) (by omega), readF_more f' g' _ _ r (by omega) (by omega)]
end Go.Proofs.YtnjemnmhkhkpeaaDoor.DN
namespace Go.Proofs.YtnjemnmhkhkpeaaDoor.DN
set_option maxRecDepth 100000
open Go.RowKit K Go.Proofs.YtnjemnmhkhkpeaaDoor.BE
theorem index_str (l : B) (i : Nat) (b : UInt8) (h : l[i]? = some b) (w : World) : (Instr.index 9 (.string (sb l)) (.int .i64 (i : Int))).run Tryd.prog w = .ok (.int .u8 (b.toNat : Int)) w := by
  rw [Go.run_index_string (P := Tryd.prog) w 9 (sb l) .i64 (i : Int) Tryd.underlying9]
  obtain ⟨hl, hb⟩ := List.getElem?_eq_some_iff.1 h
  have hz : (sb l).size = l.length := sb_size l
  have h1 : (0 : Int) ≤ (i : Int) ∧ (i : Int) < (sb l).size := ⟨by omega, by omega⟩
  rw [dif_pos h1]
  have h2 : ((sb l)[(i : Int).toNat]'(by omega)) = b := hb
  rw [h2]
theorem exec_idx {op : Oper} {a : Act} (x y : Operand) (ho : op.op = .index 9 x y) (l : B) (i : Nat) (b : UInt8) (hi : l[i]? = some b) (n : Int) (hn : n = (i : Int)) (hx : a.eval x = .string (sb l)) (hy : a.eval y = .int .i64 n) (w : World) : (execOp a.eval op).run Tryd.prog w = .ok (.value (.int .u8 (b.toNat : Int))) w := by
  have h := index_str l i b hi w
  subst hn
  simp [execOp, ho, hx, hy, h]
theorem idxZ {P2 : List Oper} {ops : Array Oper} {op : Oper} {a : Act} {w : World} {Q : Exit → Act → World → Prop} {l : B} {S : ByteArray} {i : Nat} {b : UInt8} (hS : Hid (sb l = S)) (hi : Hid (l[i]? = some b)) {x y : Operand} {n : Int} (ho : op.op = .index 9 x y) (hn : n = (i : Int)) (hx : a.eval x = .string S) (hy : a.eval y = .int .i64 n)
    (h : wpList Tryd.prog ops Q P2 (a.put op.dst (.int .u8 (b.toNat : Int))) w) (hg : Region.wanted op (yielded ops a.tmps) = true := by rfl) : wpList Tryd.prog ops Q (op :: P2) a w :=
  wpL_valZ hg _ (exec_idx x y ho l i b hi.out n hn (by rw [hx, ← hS.out]) hy w) h
theorem slice_two (l : B) (m k : Nat) (h1 : m ≤ k) (h2 : k ≤ l.length) (w : World) : (Instr.slice 9 (.string (sb l)) (some (.int .i64 (m : Int))) (some (.int .i64 (k : Int))) none).run Tryd.prog w = .ok (.string (sb ((l.drop m).take (k - m)))) w := by
  rw [← ext_sb]
  have hz : (sb l).size = l.length := sb_size l
  have hj : (k : Int) ≤ ((sb l).size : Int) := by omega
  simp [Instr.slice, Instr.sliceBounds, Instr.sliceBound, asIntOf, run_underlying Tryd.underlying9, hj, h1]
  intro hc
  omega
theorem slice_to (l : B) (k : Nat) (h2 : k ≤ l.length) (w : World) : (Instr.slice 9 (.string (sb l)) none (some (.int .i64 (k : Int))) none).run Tryd.prog w = .ok (.string (sb (l.take k))) w := by
  rw [show sb (l.take k) = (sb l).extract 0 k by rw [ext_sb, List.drop_zero, Nat.sub_zero]]
  have hz : (sb l).size = l.length := sb_size l
  have hj : (k : Int) ≤ ((sb l).size : Int) := by omega
  simp [Instr.slice, Instr.sliceBounds, Instr.sliceBound, asIntOf, run_underlying Tryd.underlying9, hj]
  intro hc
  omega
theorem slice_from (l : B) (m : Nat) (h2 : m ≤ l.length) (w : World) : (Instr.slice 9 (.string (sb l)) (some (.int .i64 (m : Int))) none none).run Tryd.prog w = .ok (.string (sb (l.drop m))) w := by
  have hz : (sb l).size = l.length := sb_size l
  rw [show sb (l.drop m) = (sb l).extract m (sb l).size by rw [ext_sb, List.take_of_length_le (by rw [List.length_drop, hz]; exact Nat.le_refl _)]]
  have hj : (m : Int) ≤ ((sb l).size : Int) := by omega
  simp [Instr.slice, Instr.sliceBounds, Instr.sliceBound, asIntOf, run_underlying Tryd.underlying9, hj]
  intro hc
  omega
theorem exec_two {op : Oper} {a : Act} (x g h : Operand) (ho : op.op = .slice 9 x (some g) (some h) none) (l : B) (m k : Nat) (hx : a.eval x = .string (sb l)) (hg : a.eval g = .int .i64 (m : Int)) (hh : a.eval h = .int .i64 (k : Int)) (h1 : m ≤ k) (h2 : k ≤ l.length) (r : B) (hr : (l.drop m).take (k - m) = r) (w : World) :
    (execOp a.eval op).run Tryd.prog w = .ok (.value (.string (sb r))) w := by
  subst hr
  unfold execOp
  simp only [ho, Option.map_none, Option.map_some, hx, hg, hh]
  simp [Instr.sliceAt, slice_two l m k h1 h2 w, Result.andThen]
theorem exec_to {op : Oper} {a : Act} (x h : Operand) (ho : op.op = .slice 9 x none (some h) none) (l : B) (k : Nat) (hx : a.eval x = .string (sb l)) (hh : a.eval h = .int .i64 (k : Int)) (h2 : k ≤ l.length) (r : B) (hr : l.take k = r) (w : World) :
    (execOp a.eval op).run Tryd.prog w = .ok (.value (.string (sb r))) w := by
  subst hr
  unfold execOp
  simp only [ho, Option.map_none, Option.map_some, hx, hh]
  simp [Instr.sliceAt, slice_to l k h2 w, Result.andThen]
theorem exec_from {op : Oper} {a : Act} (x h : Operand) (ho : op.op = .slice 9 x (some h) none none) (l : B) (k : Nat) (hx : a.eval x = .string (sb l)) (hh : a.eval h = .int .i64 (k : Int)) (h2 : k ≤ l.length) (r : B) (hr : l.drop k = r) (w : World) :
    (execOp a.eval op).run Tryd.prog w = .ok (.value (.string (sb r))) w := by
  subst hr
  unfold execOp
  simp only [ho, Option.map_none, Option.map_some, hx, hh]
  simp [Instr.sliceAt, slice_from l k h2 w, Result.andThen]
theorem neq_sb (a b : B) : ((sb a).toList == (sb b).toList) = decide (a = b) := by
  rw [ByteArray.toList_eq, ByteArray.toList_eq, sb_list, sb_list]
  by_cases h : a = b
  · subst h; simp
  · rw [decide_eq_false h]; exact beq_false_of_ne h
theorem exec_eqS {op : Oper} {a : Act} (x y : Operand) (u : TypeId) (ho : op.op = .binOp .eql 9 x y u) (p q : B) (hx : a.eval x = .string (sb p)) (hy : a.eval y = .string (sb q)) (w : World) :
    (execOp a.eval op).run Tryd.prog w = .ok (.value (.bool (decide (p = q)))) w := by
  unfold execOp
  simp only [ho, hx, hy]
  rw [← neq_sb]
  simp [go_sem, eqGuard, Result.andThen]
theorem exec_neS {op : Oper} {a : Act} (x y : Operand) (u : TypeId) (ho : op.op = .binOp .neq 9 x y u) (p q : B) (hx : a.eval x = .string (sb p)) (hy : a.eval y = .string (sb q)) (w : World) :
    (execOp a.eval op).run Tryd.prog w = .ok (.value (.bool (!decide (p = q)))) w := by
  unfold execOp
  simp only [ho, hx, hy]
  rw [← neq_sb]
  simp [go_sem, eqGuard, Result.andThen, bne]
theorem run_add_str {a b : ByteArray} (h : a.size + b.size ≤ 9223372036854775807) {w : World} : (binOp .add 9 (.string a) (.string b)).run Tryd.prog w = .ok (.string (a ++ b)) w := by
  simp [binOp, run_string_add_sum w a b h]
theorem exec_addS {op : Oper} {a : Act} (x y : Operand) (u : TypeId) (ho : op.op = .binOp .add 9 x y u) (p q : B) (hx : a.eval x = .string (sb p)) (hy : a.eval y = .string (sb q)) (h : p.length + q.length ≤ 9223372036854775807) (r : B) (hr : p ++ q = r) (w : World) :
    (execOp a.eval op).run Tryd.prog w = .ok (.value (.string (sb r))) w := by
  subst hr
  unfold execOp
  simp only [ho, hx, hy]
  simp [run_add_str (a := sb p) (b := sb q) (by rw [sb_size, sb_size]; exact h), sb_append, eqGuard, Result.andThen]
/-- Texts as cells. -/
def strs (L : List B) : List Value := L.map fun l => .string (sb l)
@[simp] theorem strs_length (L : List B) : (strs L).length = L.length := by simp [strs]
theorem strs_one (L : List B) : ∀ v ∈ strs L, v.oneCell' = true := by
  intro v hv
  obtain ⟨l, _, rfl⟩ := List.mem_map.1 hv
  rfl
theorem infoS3 : (Tryd.prog.info? 9).map (fun i => (i.zero, i.size, i.bytes)) = some (some (.string ⟨#[]⟩), 1, 16) := by kernel_rfl
theorem infoS : (Tryd.prog.info? 9).map (·.size) = some 1 := by kernel_rfl
theorem infoSs : (Tryd.prog.info? 40).map (·.size) = some 1 := by kernel_rfl
theorem zeroSs : ∀ w, (zeroValue 40).run Tryd.prog w = .ok (.slice none 0 0) w := fun _ => by kernel_rfl
theorem zeroS : ∀ w, (zeroValue 9).run Tryd.prog w = .ok (.string ⟨#[]⟩) w := fun _ => by kernel_rfl

def Sz (s : B) : Prop := s.length ≤ 140737488351232
/-- A slice of elements of k cells each; they lie in a block of S. -/
def Sl {α : Type} (k : Nat) (p : α → List Value → Prop) (S : Nat → Prop) (w : World) (v : Value) (xs : List α) : Prop :=
  ∃ a cap, v = .slice a xs.length cap ∧ xs.length ≤ cap ∧ xs.length ≤ 140737488351232 ∧
    (xs = [] ∨ ∃ g o, ∃ L : List (List Value), a = some ⟨g, o, none⟩ ∧ S g ∧ g < w.heap.size ∧ w.rangeAt g o L.flatten ∧ L.length = xs.length ∧ (∀ c ∈ L, c.length = k) ∧ ∀ (j : Nat) (x : α) (c : List Value), xs[j]? = some x → L[j]? = some c → p x c)
theorem Sl.form {α : Type} {k : Nat} {p : α → List Value → Prop} {S : Nat → Prop} {w : World} {v : Value} {xs : List α} (h : Sl k p S w v xs) : ∃ a cap, v = .slice a xs.length cap ∧ xs.length ≤ cap ∧ xs.length ≤ 140737488351232 := by
  obtain ⟨a, cap, h1, h2, h3, -⟩ := h
  exact ⟨a, cap, h1, h2, h3⟩
theorem Sl.get {α : Type} {k : Nat} {p : α → List Value → Prop} {S : Nat → Prop} {w : World} {v : Value} {xs : List α} (h : Sl k p S w v xs) {j : Nat} {x : α} (hx : xs[j]? = some x) :
    ∃ g o cap c, v = .slice (some ⟨g, o, none⟩) xs.length cap ∧ S g ∧ g < w.heap.size ∧ w.rangeAt g (o + j * k) c ∧ c.length = k ∧ p x c := by
  obtain ⟨a, cap, h1, h2, h3, h4⟩ := h
  have hj := (List.getElem?_eq_some_iff.1 hx).1
  have hne : xs ≠ [] := fun e => by subst e; simp at hj
  obtain ⟨g, o, L, rfl, hS, hg, hr, hL, hc, hp⟩ := h4.resolve_left hne
  have hLj : L[j]? = some (L[j]'(by omega)) := List.getElem?_eq_getElem _
  have hfg := flat_get L j _ hc hLj
  have hck := hc _ (List.getElem_mem (by omega : j < L.length))
  refine ⟨g, o, cap, L[j]'(by omega), h1, hS, hg, ?_, hck, hp j x _ hx hLj⟩
  intro i u hi
  have hik : i < k := by rw [← hck]; exact (List.getElem?_eq_some_iff.1 hi).1
  rw [← hfg, List.getElem?_take, if_pos hik, List.getElem?_drop] at hi
  have := hr (j * k + i) u hi
  rwa [← Nat.add_assoc] at this
theorem Sl.fr {α : Type} {k : Nat} {p p' : α → List Value → Prop} {S D : Nat → Prop} {w w' : World} {v : Value} {xs : List α} (h : Sl k p S w v xs) (hf : Fr D w w') (hd : ∀ i, S i → i < w.heap.size → ¬ D i) (hp : ∀ x c, x ∈ xs → p x c → p' x c) : Sl k p' S w' v xs := by
  obtain ⟨a, cap, h1, h2, h3, h4⟩ := h
  refine ⟨a, cap, h1, h2, h3, h4.imp id ?_⟩
  rintro ⟨g, o, L, e, hS, hg, hr, hL, hc, hpp⟩
  exact ⟨g, o, L, e, hS, Nat.lt_of_lt_of_le hg hf.size, hf.range hr (hd g hS hg), hL, hc, fun j x c hx hcj => hp x c (List.mem_of_getElem? hx) (hpp j x c hx hcj)⟩

/-- A type and a value. -/
def AvC (x : Av) (cs : List Value) : Prop := cs = [.string (sb x.1), .string (sb x.2)] ∧ Sz x.1 ∧ Sz x.2
/-- A step that lies in blocks of S. -/
def RdIn (S : Nat → Prop) (w : World) (v : Value) (r : Rd) : Prop := Sl 2 AvC S w v r
def RdC (S : Nat → Prop) (w : World) (r : Rd) (cs : List Value) : Prop := ∃ v, cs = [v] ∧ RdIn S w v r
/-- A name that lies in blocks of S. -/
def NmIn (S : Nat → Prop) (w : World) (v : Value) (n : Nm) : Prop := Sl 1 (RdC S w) S w v n
theorem RdIn.fr {S D : Nat → Prop} {w w' : World} {v : Value} {r : Rd} (h : RdIn S w v r) (hf : Fr D w w') (hd : ∀ i, S i → i < w.heap.size → ¬ D i) : RdIn S w' v r := Sl.fr h hf hd fun _ _ _ h => h
theorem RdC.fr {S D : Nat → Prop} {w w' : World} {cs : List Value} {r : Rd} (h : RdC S w r cs) (hf : Fr D w w') (hd : ∀ i, S i → i < w.heap.size → ¬ D i) : RdC S w' r cs := by
  obtain ⟨v, h1, h2⟩ := h
  exact ⟨v, h1, h2.fr hf hd⟩
theorem NmIn.fr {S D : Nat → Prop} {w w' : World} {v : Value} {n : Nm} (h : NmIn S w v n) (hf : Fr D w w') (hd : ∀ i, S i → i < w.heap.size → ¬ D i) : NmIn S w' v n := Sl.fr h hf hd fun _ _ _ h => h.fr hf hd
theorem RdIn.no {S : Nat → Prop} {w w' : World} {v : Value} {r : Rd} (h : RdIn S w v r) (hf : Fr No w w') : RdIn S w' v r := h.fr hf fun _ _ _ e => e
theorem NmIn.no {S : Nat → Prop} {w w' : World} {v : Value} {n : Nm} (h : NmIn S w v n) (hf : Fr No w w') : NmIn S w' v n := h.fr hf fun _ _ _ e => e
theorem RdIn.mono {S S' : Nat → Prop} {w : World} {v : Value} {r : Rd} (h : RdIn S w v r) (hs : ∀ i, S i → S' i) : RdIn S' w v r := by
  obtain ⟨a, cap, h1, h2, h3, h4⟩ := h
  exact ⟨a, cap, h1, h2, h3, h4.imp id fun ⟨g, o, L, e, hS, r⟩ => ⟨g, o, L, e, hs g hS, r⟩⟩
theorem NmIn.mono {S S' : Nat → Prop} {w : World} {v : Value} {n : Nm} (h : NmIn S w v n) (hs : ∀ i, S i → S' i) : NmIn S' w v n := by
  obtain ⟨a, cap, h1, h2, h3, h4⟩ := h
  exact ⟨a, cap, h1, h2, h3, h4.imp id fun ⟨g, o, L, e, hS, h5, h6, h7, h8, h9⟩ => ⟨g, o, L, e, hs g hS, h5, h6, h7, h8, fun j x c hx hc => by
    obtain ⟨v, k1, k2⟩ := h9 j x c hx hc
    exact ⟨v, k1, k2.mono hs⟩⟩⟩
theorem rd_nil (S : Nat → Prop) (w : World) (a : Option Addr) (c : Nat) : RdIn S w (.slice a 0 c) [] := ⟨a, c, rfl, Nat.zero_le _, by show (0 : Nat) ≤ _; omega, .inl rfl⟩
theorem nm_nil (S : Nat → Prop) (w : World) (a : Option Addr) (c : Nat) : NmIn S w (.slice a 0 c) [] := ⟨a, c, rfl, Nat.zero_le _, by show (0 : Nat) ≤ _; omega, .inl rfl⟩
/-- A name without its first steps. -/
theorem Sl.drop {α : Type} {k : Nat} {p : α → List Value → Prop} {S : Nat → Prop} {w : World} {g o len cap : Nat} {xs : List α} (h : Sl k p S w (.slice (some ⟨g, o, none⟩) len cap) xs) (i : Nat) (hi : i ≤ len) : Sl k p S w (.slice (some ⟨g, o + i * k, none⟩) (len - i) (cap - i)) (xs.drop i) := by
  obtain ⟨a, c, h1, h2, h3, h4⟩ := h
  simp only [Value.slice.injEq] at h1
  obtain ⟨rfl, rfl, rfl⟩ := h1
  refine ⟨_, _, by rw [List.length_drop], by rw [List.length_drop]; omega, by rw [List.length_drop]; omega, ?_⟩
  by_cases hd : xs.drop i = []
  · exact .inl hd
  · right
    have hne : xs ≠ [] := fun e => hd (by rw [e]; simp)
    obtain ⟨g', o', L, e, hS, hg, hr, hL, hc, hp⟩ := h4.resolve_left hne
    simp only [Option.some.injEq, Addr.mk.injEq, and_true] at e
    obtain ⟨rfl, rfl⟩ := e
    have hsplit : L.flatten = (L.take i).flatten ++ (L.drop i).flatten := by rw [← List.flatten_append, List.take_append_drop]
    have hlen : (L.take i).flatten.length = i * k := by
      rw [flat_length (m := k) _ (fun l hl => hc l (List.mem_of_mem_take hl)), List.length_take, Nat.min_eq_left (by omega)]
    refine ⟨g, o + i * k, L.drop i, rfl, hS, hg, ?_, by rw [List.length_drop, List.length_drop, hL], fun c hcm => hc c (List.mem_of_mem_drop hcm), fun j x c hx hcj => hp (i + j) x c (by rw [← List.getElem?_drop]; exact hx) (by rw [← List.getElem?_drop]; exact hcj)⟩
    intro j u hj
    have := hr (i * k + j) u (by rw [hsplit, List.getElem?_append_right (by omega), hlen, Nat.add_sub_cancel_left]; exact hj)
    rwa [← Nat.add_assoc] at this
/-- No list and no text in it is longer. -/
def AvB (k : Nat) (x : Av) : Prop := x.1.length ≤ k ∧ x.2.length ≤ k
def RdB (k : Nat) (r : Rd) : Prop := r.length ≤ k ∧ ∀ x ∈ r, AvB k x
def NmB (k : Nat) (n : Nm) : Prop := n.length ≤ k ∧ ∀ r ∈ n, RdB k r
theorem NmB.le {k m : Nat} {n : Nm} (h : NmB k n) (hk : k ≤ m) : NmB m n :=
  ⟨Nat.le_trans h.1 hk, fun r hr => ⟨Nat.le_trans (h.2 r hr).1 hk, fun x hx => ⟨Nat.le_trans ((h.2 r hr).2 x hx).1 hk, Nat.le_trans ((h.2 r hr).2 x hx).2 hk⟩⟩⟩
theorem infoAv : (Tryd.prog.info? 37).map (·.size) = some 2 := by kernel_rfl
theorem infoRd : (Tryd.prog.info? 34).map (·.size) = some 1 := by kernel_rfl
theorem infoNm : (Tryd.prog.info? 23).map (·.size) = some 1 := by kernel_rfl
end Go.Proofs.YtnjemnmhkhkpeaaDoor.DN
namespace Go.Proofs.YtnjemnmhkhkpeaaDoor.DN
set_option maxRecDepth 100000
open Go.ChangeShapes Go.WideShapes Go.ChangeAt Go.RowKit K Go.Proofs.YtnjemnmhkhkpeaaDoor.BE
theorem own : ownKnob Tryd.prog.godebug = none := by kernel_rfl
theorem laidOut : laidOutB Tryd.prog = true := by kernel_rfl
section
variable {H : Type} {enc : TypeId × Value → H} {W W' : World} {v : Value} {d : DataW H} {p : List MemPlace} {ts : List TypeId} {ds : List (DataW H)}
theorem arg_sb {t : TypeId} (hu : Tryd.prog.underlying t = some .string) (h : DataW.Trod enc Tryd.prog W 0 (fun _ => true) true t v d p) (hv : ∃ s, v = .string s) (hsz : (DataW.weightsEach Tryd.prog ts ds).all (· ≤ reachBytes) = true) (j : Nat) (ht : ts[j]? = some t) (hd : ds[j]? = some d) :
    ∃ l : B, v = .string (sb l) ∧ l.length ≤ 140737488351232 := by
  obtain ⟨s, e, hs⟩ := (reads_of h hsz j ht hd).string hu
  obtain ⟨s', rfl⟩ := hv
  simp [Value.cells] at e
  subst e
  exact ⟨s'.data.toList, by rw [sb_of], by rw [size_list]; exact hs⟩
/-- What was there reads behind the call as before. -/
theorem again {t : TypeId} (hr : Tryd.prog.readableRec t = true) (hrow : t < Tryd.prog.types.size) (h : DataW.Trod enc Tryd.prog W 0 (fun _ => true) true t v d p) (hb : Go.RowKit.Below W.heap.size W W') : DataW.Trod enc Tryd.prog W' 0 (fun b => decide (b < W.heap.size)) true t v d p :=
  Go.RowKit.Below.trod laidOut hr hrow h hb (by obtain ⟨m, hm⟩ := h; exact DataW.trod_lt m _ _ _ hm)
end
theorem mem_bulk {H : Type} : ∀ {l : List (DataW H)} {d : DataW H}, d ∈ l → Rows.uptoBulk d ≤ Rows.uptoBulkAll l
  | a :: r, d, h => by
    simp only [Rows.uptoBulkAll]
    rcases List.mem_cons.1 h with rfl | h
    · omega
    · have := mem_bulk h; omega
/-- These cells read, within so many levels; what they read is of no greater bulk. -/
def ReadsB (k : Nat) (fuel : Nat) (w : World) (t : TypeId) (cs : List Value) : Prop :=
  ∃ (H : Type) (enc : TypeId × Value → H) (x : DataW H × List MemPlace), DataW.trod enc Tryd.prog w 0 (fun _ => true) true fuel t cs = some x ∧ (∀ n ∈ x.1.weights Tryd.prog t, n ≤ reachBytes) ∧ Rows.uptoBulk x.1 ≤ k
theorem ReadsB.reads {k fuel : Nat} {w : World} {t : TypeId} {cs : List Value} (h : ReadsB k fuel w t cs) : Reads Tryd.prog w t cs := by
  obtain ⟨H, enc, x, h1, h2, -⟩ := h
  exact ⟨H, enc, fuel, x, h1, h2⟩
theorem ReadsB.string {k fuel : Nat} {w : World} {t : TypeId} {cs : List Value} (hu : Tryd.prog.underlying t = some .string) (h : ReadsB k fuel w t cs) : ∃ l : B, cs = [.string (sb l)] ∧ Sz l ∧ l.length ≤ k := by
  obtain ⟨H, enc, x, h1, h2, h3⟩ := h
  obtain ⟨s, r1, r2, -⟩ := DataW.trod_string hu h1
  have hx : x.1 = .lit (.string s.data.toList) := congrArg Prod.fst r2
  rw [hx] at h2 h3
  refine ⟨s.data.toList, by rw [sb_of]; exact r1, ?_, ?_⟩
  · have := h2 s.data.toList.length (by simp [DataW.weights])
    exact this
  · simp only [Rows.uptoBulk] at h3
    omega
theorem ReadsB.struct {k fuel : Nat} {w : World} {t : TypeId} {fs : Array Field} {cs : List Value} (hu : Tryd.prog.underlying t = some (.struct fs)) (h : ReadsB k fuel w t cs) :
    ∃ f1, fuel = f1 + 1 ∧ cs.length = Tryd.prog.cellsOf t ∧ ∀ (i : Nat) (f : Field), fs[i]? = some f → ReadsB k f1 w f.type ((cs.drop f.offset).take (Tryd.prog.cellsOf f.type)) := by
  obtain ⟨H, enc, x, h1, h2, h3⟩ := h
  obtain ⟨xs, n, hn, r2, r3, r4, r5⟩ := DataW.trod_struct hu h1
  refine ⟨n, hn, r3, fun i f hf => ?_⟩
  have hi : i < xs.length := by rw [r4]; exact (Array.getElem?_eq_some_iff.1 hf).1
  have := r5 i f hf
  rw [List.getElem?_eq_getElem hi] at this
  have hx : x.1 = .agg (xs.map (·.1)) := by rw [r2]
  refine ⟨H, enc, _, this, fun m hm => h2 m ?_, ?_⟩
  · rw [hx]
    simp only [DataW.weights, hu]
    exact DataW.weights_mem_each (j := i) (t := f.type) (d := xs[i].1) (by rw [List.getElem?_map]; simp [hf]) (by simp [hi]) m hm
  · rw [hx] at h3
    simp only [Rows.uptoBulk] at h3
    have := mem_bulk (List.mem_map_of_mem (f := (·.1)) (List.getElem_mem hi))
    omega
theorem ReadsB.slice {k fuel : Nat} {w : World} {t e : TypeId} {cs : List Value} (hu : Tryd.prog.underlying t = some (.slice e)) (h : ReadsB k fuel w t cs) :
    cs = [.slice none 0 0] ∨ ∃ a len cap f1, fuel = f1 + 1 ∧ cs = [.slice (some a) len cap] ∧ len ≤ cap ∧ len * Tryd.prog.bytesOf e ≤ reachBytes ∧ len ≤ k ∧
      ∀ i, i < len → ∃ cs', cs'.length = Tryd.prog.cellsOf e ∧ (∀ j v, cs'[j]? = some v → w.cell? (a.add (i * Tryd.prog.cellsOf e + j)) = some v) ∧ ReadsB k f1 w e cs' := by
  obtain ⟨H, enc, x, h1, h2, h3⟩ := h
  rcases DataW.trod_slice hu h1 with ⟨r, _⟩ | ⟨a, len, cap, elems, rest, n, hn, r1, r2, _, hl, hm, hlen, hel, hsp, _⟩
  · exact .inl r
  · right
    obtain ⟨hrl, hsp⟩ := hsp rfl
    have hx : x.1 = .slice (elems.map (·.1)) (rest.map (·.1)) := by rw [r2]
    have hw : ∀ m ∈ (elems.length + rest.length) * Tryd.prog.bytesOf e :: (DataW.weightsAll Tryd.prog e (elems.map (·.1)) ++ DataW.weightsAll Tryd.prog e (rest.map (·.1))), m ≤ reachBytes := by
      intro m hm'
      refine h2 m ?_
      rw [hx]
      simpa [DataW.weights, hu] using hm'
    rw [hx] at h3
    simp only [Rows.uptoBulk] at h3
    refine ⟨a, len, cap, n, hn, r1, hl, ?_, ?_, fun i hi => ?_⟩
    · have := hw _ List.mem_cons_self
      refine Nat.le_trans (Nat.mul_le_mul_right _ ?_) this
      omega
    · have := bulks.length_le (elems.map (·.1))
      rw [List.length_map] at this
      omega
    · have h5 := hel i hi
      rw [List.getElem?_eq_getElem (by omega)] at h5
      obtain ⟨cs', hc, ht⟩ := Option.bind_eq_some_iff.1 h5
      obtain ⟨hcl, hcc⟩ := cells_of hc
      have hmem : elems[i].1 ∈ elems.map (·.1) := List.mem_map_of_mem (List.getElem_mem (by omega))
      refine ⟨cs', hcl, fun j v hj => ?_, H, enc, _, ht, fun m hm' => hw m ?_, ?_⟩
      · have := hcc j v hj
        rwa [addr_add] at this
      · exact List.mem_cons_of_mem _ (List.mem_append.2 (.inl (mem_weightsAll hmem hm')))
      · have := mem_bulk hmem
        omega
/-- A slice whose elements are opened. -/
theorem ReadsB.rows {α : Type} {k fuel c : Nat} {w : World} {t e : TypeId} {cs : List Value} {p : α → List Value → Prop} {q : α → Prop} (hu : Tryd.prog.underlying t = some (.slice e)) (hc : Tryd.prog.cellsOf e = c) (hc0 : 0 < c) (hb : 1 ≤ Tryd.prog.bytesOf e) (h : ReadsB k fuel w t cs)
    (hp : ∀ f1 cs', f1 < fuel → ReadsB k f1 w e cs' → ∃ x, p x cs' ∧ q x) : ∃ v xs, cs = [v] ∧ Sl c p (fun i => i < w.heap.size) w v xs ∧ xs.length ≤ k ∧ ∀ x ∈ xs, q x := by
  rcases h.slice hu with rfl | ⟨a, len, cap, f1, hf, rfl, hlc, hby, hlk, hel⟩
  · exact ⟨_, [], rfl, ⟨none, 0, rfl, Nat.zero_le _, Nat.zero_le _, .inl rfl⟩, Nat.zero_le _, fun x hx => by cases hx⟩
  · have hr : reachBytes = 140737488351232 := rfl
    rw [hc] at hel
    obtain ⟨xs, hxl, hxs⟩ := list_of (p := fun i (x : α) => ∃ cs', cs'.length = c ∧ (∀ j v, cs'[j]? = some v → w.cell? (a.add (i * c + j)) = some v) ∧ p x cs' ∧ q x) len (fun i hi => by
      obtain ⟨cs', g1, g2, g3⟩ := hel i hi
      obtain ⟨x, hx, hq⟩ := hp f1 cs' (by omega) g3
      exact ⟨x, cs', g1, g2, hx, hq⟩)
    obtain ⟨L, hLl, hL⟩ := list_of (p := fun i (cs' : List Value) => cs'.length = c ∧ (∀ j v, cs'[j]? = some v → w.cell? (a.add (i * c + j)) = some v) ∧ ∀ x, xs[i]? = some x → p x cs' ∧ q x) len (fun i hi => by
      obtain ⟨x, hx⟩ : ∃ x, xs[i]? = some x := ⟨_, List.getElem?_eq_getElem (by omega)⟩
      obtain ⟨cs', g1, g2, g3, g4⟩ := hxs i x hx
      exact ⟨cs', g1, g2, fun y hy => by rw [hx] at hy; cases hy; exact ⟨g3, g4⟩⟩)
    refine ⟨_, xs, rfl, ⟨some a, cap, by rw [hxl], by omega, ?_, ?_⟩, by omega, fun x hx => ?_⟩
    · rw [hr] at hby
      rw [hxl]
      exact Nat.le_trans (Nat.le_mul_of_pos_right _ hb) hby
    · by_cases h0 : len = 0
      · exact .inl (List.eq_nil_of_length_eq_zero (by omega))
      · right
        have hall : ∀ c' ∈ L, c'.length = c := fun c' hc' => by
          obtain ⟨i, hi, rfl⟩ := List.mem_iff_getElem.1 hc'
          exact (hL i _ (List.getElem?_eq_getElem hi)).1
        obtain ⟨k0, hL0⟩ : ∃ c', L[0]? = some c' := ⟨L[0]'(by omega), List.getElem?_eq_getElem _⟩
        obtain ⟨g1, g2, -⟩ := hL 0 _ hL0
        obtain ⟨z0, hz0⟩ : ∃ z0, k0[0]? = some z0 := ⟨k0[0]'(by omega), List.getElem?_eq_getElem _⟩
        have hc0' := g2 0 z0 hz0
        rw [Nat.zero_mul, Nat.add_zero] at hc0'
        obtain ⟨g, o, rfl, hg⟩ := addr_of hc0'
        refine ⟨g, o, L, rfl, hg, hg, ?_, by omega, hall, fun j x c' hx hc' => ((hL j c' hc').2.2 x hx).1⟩
        intro j v hj
        have hjl : j < L.flatten.length := (List.getElem?_eq_some_iff.1 hj).1
        rw [flat_length L hall] at hjl
        have hjc : j / c < L.length := Nat.div_lt_of_lt_mul (by rw [Nat.mul_comm]; exact hjl)
        have hLj : L[j / c]? = some (L[j / c]'hjc) := List.getElem?_eq_getElem _
        have hfg := flat_get L (j / c) _ hall hLj
        have hdm : j / c * c + j % c = j := by rw [Nat.mul_comm]; exact Nat.div_add_mod j c
        have hv : (L[j / c]'hjc)[j % c]? = some v := by
          rw [← hfg, List.getElem?_take, if_pos (Nat.mod_lt _ hc0), List.getElem?_drop, hdm]
          exact hj
        have := (hL (j / c) _ hLj).2.1 (j % c) v hv
        rw [hdm] at this
        rwa [Addr.add_mid] at this
    · obtain ⟨i, hi, rfl⟩ := List.mem_iff_getElem.1 hx
      obtain ⟨cs', -, -, -, hq⟩ := hxs i _ (List.getElem?_eq_getElem hi)
      exact hq

theorem cS : Tryd.prog.cellsOf 9 = 1 := by kernel_rfl
theorem cAv : Tryd.prog.cellsOf 37 = 2 := by kernel_rfl
theorem cRd : Tryd.prog.cellsOf 34 = 1 := by kernel_rfl
theorem bAv : 1 ≤ Tryd.prog.bytesOf 37 := by rw [show Tryd.prog.bytesOf 37 = 32 by kernel_rfl]; decide
theorem bRd : 1 ≤ Tryd.prog.bytesOf 34 := by rw [show Tryd.prog.bytesOf 34 = 24 by kernel_rfl]; decide
theorem av_b {k f : Nat} {w : World} {cs : List Value} (h : ReadsB k f w 37 cs) : ∃ x, AvC x cs ∧ AvB k x := by
  obtain ⟨f1, rfl, hl, hf⟩ := h.struct Tryd.underlying37
  rw [cAv] at hl
  obtain ⟨c0, c1, rfl⟩ : ∃ c0 c1, cs = [c0, c1] := by
    match cs, hl with
    | [c0, c1], _ => exact ⟨c0, c1, rfl⟩
  have k0 : ReadsB k f1 w 9 (([c0, c1].drop 0).take (Tryd.prog.cellsOf 9)) := hf 0 _ rfl
  have k1 : ReadsB k f1 w 9 (([c0, c1].drop 1).take (Tryd.prog.cellsOf 9)) := hf 1 _ rfl
  rw [cS] at k0 k1
  obtain ⟨t, e0, h1, h2⟩ := k0.string Tryd.underlying9
  obtain ⟨v, e1, h3, h4⟩ := k1.string Tryd.underlying9
  simp only [List.drop_zero, List.drop_succ_cons, List.take_succ_cons, List.take_zero, List.cons.injEq, and_true] at e0 e1
  subst e0 e1
  exact ⟨(t, v), ⟨rfl, h1, h3⟩, h2, h4⟩
theorem rd_b {k f : Nat} {w : World} {cs : List Value} (h : ReadsB k f w 34 cs) : ∃ r, RdC (fun i => i < w.heap.size) w r cs ∧ RdB k r := by
  obtain ⟨v, xs, e, h1, h2, h3⟩ := h.rows (p := AvC) (q := AvB k) Tryd.underlying34 cAv (by decide) bAv (fun f1 cs' _ hr => av_b hr)
  exact ⟨xs, ⟨v, e, h1⟩, h2, h3⟩
theorem nm_b {k f : Nat} {w : World} {cs : List Value} (h : ReadsB k f w 23 cs) : ∃ v n, cs = [v] ∧ NmIn (fun i => i < w.heap.size) w v n ∧ NmB k n := by
  obtain ⟨v, xs, e, h1, h2, h3⟩ := h.rows (p := RdC (fun i => i < w.heap.size) w) (q := RdB k) Tryd.underlying23 cRd (by decide) bRd (fun f1 cs' _ hr => rd_b hr)
  exact ⟨v, xs, e, h1, h2, h3⟩
section
variable {H : Type} {enc : TypeId × Value → H} {W W' : World} {v : Value} {d : DataW H} {p : List MemPlace} {ts : List TypeId} {ds : List (DataW H)}
theorem arg_nm (h : DataW.Trod enc Tryd.prog W 0 (fun _ => true) true 23 v d p) (hv : ∃ a l c, v = .slice a l c) (hsz : (DataW.weightsEach Tryd.prog ts ds).all (· ≤ reachBytes) = true) (j : Nat) (ht : ts[j]? = some 23) (hd : ds[j]? = some d) :
    ∃ n, NmIn (fun i => i < W.heap.size) W v n ∧ NmB (Rows.uptoBulk d) n := by
  obtain ⟨fuel, hr⟩ := h
  obtain ⟨v', n, e, h1, h2⟩ := nm_b (k := Rows.uptoBulk d) (f := fuel) (w := W) (cs := v.cells.toList) ⟨H, enc, _, hr, fun n hn => by simpa using List.all_eq_true.1 hsz n (DataW.weights_mem_each ht hd n hn), Nat.le_refl _⟩
  obtain ⟨a, l, c, rfl⟩ := hv
  have e2 : v' = .slice a l c := by simpa [Value.cells] using e.symm
  subst e2
  exact ⟨n, h1, h2⟩
end
end Go.Proofs.YtnjemnmhkhkpeaaDoor.DN
namespace Go.Proofs.YtnjemnmhkhkpeaaDoor.DN
set_option maxRecDepth 100000
open Go.RowKit K Go.Proofs.YtnjemnmhkhkpeaaDoor.BE
theorem Fr.freeze {D : Nat → Prop} {a w : World} (h : Fr D a w) (p : Addr) (n : Nat) (hp : D p.block ∨ a.heap.size ≤ p.block) : Fr D a (w.freeze p n) := by
  refine h.trans (D' := fun k => k = p.block) ?_ (fun k e => by subst e; exact hp)
  unfold World.freeze
  split
  · exact Fr.refl _ w
  · exact ⟨rfl, rfl, rfl, by simp, fun k hk hn => by
      simp only [Array.getElem?_modify]
      rw [if_neg (fun e => hn e.symm)]⟩
theorem infoB1 : (Tryd.prog.info? 5).map (fun i => (i.zero, i.size, i.bytes)) = some (some (.int .u8 0), 1, 1) := by kernel_rfl
theorem sizeB : ∀ w, (Go.sizeOf 5).run Tryd.prog w = .ok 1 w := fun _ => by kernel_rfl
theorem cellsB : Tryd.prog.cellsOf 5 = 1 := by kernel_rfl
set_option maxHeartbeats 4000000 in
theorem cloneL_any (s : B) (w : World) (hs : s.length ≤ 140737488355328) : Calls Tryd.prog 79 #[.string (sb s)] w fun e w' => e = .returned (.string (sb s)) ∧ Fr No w w' := by
  have hsz : ((sb s).size : Int) = s.length := by rw [sb_size]
  obtain ⟨n, hn⟩ : ∃ n, s.length = n := ⟨_, rfl⟩
  rw [hn] at hsz hs
  have HNN := hid hn
  obtain ⟨S, hS⟩ : ∃ S, sb s = S := ⟨_, rfl⟩
  rw [hS] at hsz ⊢
  have HSS := hid hS
  obtain ⟨i, hi, hz, hi1, hi2⟩ := Go.info_parts infoB1
  by_cases h0 : n = 0
  · subst h0
    have he : s = [] := List.eq_nil_of_length_eq_zero HNN.out
    have HE : Hid (S = ⟨#[]⟩) := hid (by rw [← HSS.out, he]; rfl)
    clear hn hS he
    go_enter Tryd.func79, Tryd.ntmps79
    go_wp2_with fail
    go_ret
    exact ⟨by rw [HE.out]; rfl, Fr.refl _ _⟩
  · have hni : (0 : Int) < n := by omega
    have hsi : (n : Int) ≤ 140737488355328 := by omega
    clear hn hS
    go_enter Tryd.func79, Tryd.ntmps79
    go_wp2_with (first
      | ((with_reducible refine K.atO (.makeSlice 51 _ _) ?_); refine wpL_make rfl _ _ _ rfl 5 i (.int .u8 0) (.int .u8 0) 1 Tryd.underlying51 hi hz rfl (by decide) hi1 .i64 .i64 n rfl rfl (by rw [hi2]; omega) (by unfold maxLen; omega) ?_; intro w1 HB1 HF1 HS1)
      | ((with_reducible refine K.atO (.call { callee := .builtin .copy, args := _, argTypes := _ }) ?_); refine wpList_plain rfl fun K1 hK1 => ?_; refine wp_copyS _ _ _ _ rfl 5 Tryd.underlying51 sizeB w.heap.size 0 n n rfl S rfl 5 _ HB1.out s (by rw [← HSS.out, sb_list, List.take_of_length_le (by rw [HNN.out]; exact Nat.le_refl _)]) (by rw [HNN.out]; simp) ?_; intro w2 HB2 HF2 HS2; refine hK1 _ _ ?_;
          (have hb2 : Blk w2 w.heap.size 5 (u8s s) := by
            have h := HB2.out
            rwa [show spl (List.replicate (n * 1) (Value.int .u8 0)) 0 (u8s s) = u8s s by simp [spl, u8s_length, HNN.out]] at h);
          have hUS := Go.Lib.run_unsafeString_row (P := Tryd.prog) (w := w2) 77 3 9 5 Tryd.underlying77 cellsB w.heap.size (u8s s).length (by unfold World.shape?; rw [hb2]; simp) s (fun e => h0 (by rw [← HNN.out, e]; rfl)) (by rw [u8s_length]; exact Nat.le_refl _) (by rw [HNN.out]; omega) (fun j x hx => by rw [Addr.add_mid, Nat.zero_add, hb2.cell]; simp [u8s, hx]);
          rw [HNN.out] at hUS)
      | fail)
    go_ret
    refine ⟨by rw [← HSS.out]; rfl, ?_⟩
    have := HS1.out
    exact Fr.freeze (HF1.out.trans HF2.out fun k e => .inr (by have e : k = w.heap.size := e; omega)) _ _ (.inr (Nat.le_refl _))
end Go.Proofs.YtnjemnmhkhkpeaaDoor.DN
