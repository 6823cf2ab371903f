/-
  Part 16 of the proof: FtS, FtK, FtL, ScV, ScW.
-/
import Derived.Test.YtdkkpfeiaaffhaaGreatDoorFc15
import Derived.Test.YtdkkpfeiaaffhaaGreatDoorFc04
import Derived.Shelf.Strings.Cut
import Derived.Shelf.Strings.Prefix
import Derived.Shelf.Strings.Trim
set_option linter.unusedSimpArgs false
set_option linter.unusedVariables false
namespace Go.Proofs.YtdkkpfeiaaffhaaGreatDoor.FT
set_option maxRecDepth 100000
open Go.Proofs.YtdkkpfeiaaffhaaGreatDoor.BE Go.Proofs.YtdkkpfeiaaffhaaGreatDoor.DN Go.Proofs.YtdkkpfeiaaffhaaGreatDoor.SC

theorem words_ne : ∀ (t cur : B), words cur (t ++ [46]) ≠ []
  | [], cur => by
    show words cur [46] ≠ []
    unfold words
    rw [if_neg (by decide)]
    unfold words
    rw [if_neg (by simp)]
    exact List.cons_ne_nil _ _
  | c :: r, cur => by
    show words cur (c :: (r ++ [46])) ≠ []
    unfold words
    split
    · split
      · exact words_ne r []
      · exact List.cons_ne_nil _ _
    · exact words_ne r _
theorem joinB_cons (x : B) {L : List B} (h : L ≠ []) : joinB [32] (x :: L) = x ++ [32] ++ joinB [32] L := by
  cases L with
  | nil => exact absurd rfl h
  | cons b r => rfl
theorem words_sq : ∀ (t : B), (∀ cur : B, cur ≠ [] → joinB [32] (words cur (t ++ [46])) = cur ++ sqF false t ++ [46]) ∧ joinB [32] (words [] (t ++ [46])) = sqF true t ++ [46]
  | [] => by
    refine ⟨fun cur h => ?_, rfl⟩
    show joinB [32] (words cur [46]) = _
    unfold words
    rw [if_neg (by decide)]
    unfold words
    rw [if_neg (by simp)]
    simp [joinB, sqF]
  | c :: r => by
    obtain ⟨h1, h2⟩ := words_sq r
    by_cases hc : c = 32
    · subst hc
      refine ⟨fun cur h => ?_, ?_⟩
      · show joinB [32] (words cur (32 :: (r ++ [46]))) = _
        unfold words
        rw [if_pos rfl, if_neg (by simpa using h), joinB_cons cur (words_ne r []), h2]
        simp [sqF]
      · show joinB [32] (words [] (32 :: (r ++ [46]))) = _
        unfold words
        rw [if_pos rfl, if_pos (show ([] : B).isEmpty = true from rfl), h2]
        simp [sqF]
    · refine ⟨fun cur h => ?_, ?_⟩
      · show joinB [32] (words cur (c :: (r ++ [46]))) = _
        unfold words
        rw [if_neg hc, h1 _ (by simp)]
        simp [sqF, hc]
      · show joinB [32] (words [] (c :: (r ++ [46]))) = _
        unfold words
        rw [if_neg hc, h1 _ (by simp)]
        simp [sqF, hc]
theorem fold_sq (p : B) : fold (46 :: (p ++ [46])) = 46 :: (squeeze p ++ [46]) := by
  have hl : low (46 :: (p ++ [46])) = 46 :: (low p ++ [46]) := by
    show lo 46 :: low (p ++ [46]) = _
    rw [low_app]
    rfl
  unfold fold squeeze
  rw [hl]
  unfold words
  rw [if_neg (by decide), List.nil_append, (words_sq (low p)).1 [46] (by simp)]
  rfl
theorem sq_len : ∀ (b : Bool) (l : B), (sqF b l).length ≤ l.length
  | _, [] => Nat.le_refl _
  | b, d :: r => by
    unfold sqF
    split
    · split
      · exact Nat.le_trans (sq_len true r) (Nat.le_succ _)
      · exact Nat.succ_le_succ (sq_len true r)
    · exact Nat.succ_le_succ (sq_len false r)
theorem squeeze_len (p : B) : (squeeze p).length ≤ p.length := by
  have := sq_len false (low p)
  rwa [low_length] at this
theorem cut_len {s p : B} (h : (Lib.cut s p).2.2 = true) : (Lib.cut s p).2.1.length ≤ s.length := by
  unfold Lib.cut at h ⊢
  split at h
  · rw [if_pos (by assumption)]
    simp
  · cases h
end Go.Proofs.YtdkkpfeiaaffhaaGreatDoor.FT

namespace Go.Proofs.YtdkkpfeiaaffhaaGreatDoor.FT
set_option maxRecDepth 100000
open Go.RowKit K Go.Proofs.YtdkkpfeiaaffhaaGreatDoor.BE Go.Proofs.YtdkkpfeiaaffhaaGreatDoor.DN Go.Proofs.YtdkkpfeiaaffhaaGreatDoor.SC

section
variable {P : Program} {ops : Array Oper} {rest : List Oper} {op : Oper} {a : Act} {w : World} {Q : Exit → Act → World → Prop}
theorem wpL_callF (hgd : op.guard = none) (x : Operand) (args : List Operand) (tys : Array TypeId) (ho : op.op = .call { callee := .value x, args := args.toArray, argTypes := tys }) (f : FuncId) (first cap : List Value) (hx : a.eval x = .func (.func f) first.toArray cap.toArray)
    (hent : ∀ (vs : Array Value) (w : World), (callFunc f vs).run P w = .ok (.enter f vs) w) (vs : List Value) (hvs : first ++ args.map a.eval ++ cap = vs)
    (hc : Calls P f vs.toArray w fun e w' => ∃ v, e = .returned v ∧ wpList P ops Q rest (a.put op.dst v) w') : wpList P ops Q (op :: rest) a w := by
  refine wpList_plain hgd fun _ hK => ?_
  unfold Oper.wp
  have e : (execOp a.eval op).run P w = .ok (.enter f vs.toArray) w := by
    have h1 := hent vs.toArray w
    rw [← hvs] at h1
    simp [execOp, ho, resolve, hx, Deferred.ofValue, invoke]
    rw [← hvs]
    simpa using h1
  rw [e]
  show Calls P f vs.toArray w _
  refine hc.mono ?_
  rintro e w' ⟨v, rfl, h⟩
  exact hK _ _ h
end
/-! ### Filters in memory -/
def flV (f : Fl) (vk va : Value) : List Value := [.int .i64 f.kind, vk, .string (sb f.type), .string (sb f.value), .string (sb f.first), va, .string (sb f.last)]
def I64 (n : Int) : Prop := -9223372036854775808 ≤ n ∧ n ≤ 9223372036854775807
/-- A text that may be folded. -/
def Sm (s : B) : Prop := s.length ≤ 4294967000
def FlC : Nat → (Nat → Prop) → World → Fl → List Value → Prop
  | 0, _, _, _, _ => False
  | M + 1, S, w, f, cs => ∃ vk va, cs = flV f vk va ∧ I64 f.kind ∧ Sz f.type ∧ Sz f.value ∧ Sm f.first ∧ Sm f.last ∧ (LsIn S w va f.any ∧ (∀ x ∈ f.any, Sm x) ∧ f.any.length ≤ 4294967000) ∧ Sl 7 (FlC M S w) S w vk f.kids
theorem FlC.fr {S D : Nat → Prop} {w w' : World} (hf : Fr D w w') (hd : ∀ i, S i → i < w.heap.size → ¬ D i) : ∀ {M : Nat} {f : Fl} {cs : List Value}, FlC M S w f cs → FlC M S w' f cs
  | 0, _, _, h => h.elim
  | M + 1, f, cs, h => by
    obtain ⟨vk, va, h1, h2, h3, h4, h5, h6, h7, h8⟩ := h
    exact ⟨vk, va, h1, h2, h3, h4, h5, h6, ⟨h7.1.fr hf hd, h7.2⟩, h8.fr hf hd fun x c _ hx => FlC.fr hf hd hx⟩
theorem FlC.no {M : Nat} {S : Nat → Prop} {w w' : World} {f : Fl} {cs : List Value} (h : FlC M S w f cs) (hf : Fr No w w') : FlC M S w' f cs := h.fr hf fun _ _ _ e => e
theorem FlC.mono {S S' : Nat → Prop} {w : World} (hs : ∀ i, S i → i < w.heap.size → S' i) : ∀ {M : Nat} {f : Fl} {cs : List Value}, FlC M S w f cs → FlC M S' w f cs
  | 0, _, _, h => h.elim
  | M + 1, f, cs, h => by
    obtain ⟨vk, va, h1, h2, h3, h4, h5, h6, h7, h8⟩ := h
    exact ⟨vk, va, h1, h2, h3, h4, h5, h6, ⟨h7.1.mono hs, h7.2⟩, Sl.mono h8 hs fun x c _ hx => FlC.mono hs hx⟩
theorem FlC.up {S : Nat → Prop} {w : World} : ∀ {M : Nat} {f : Fl} {cs : List Value}, FlC M S w f cs → FlC (M + 1) S w f cs
  | 0, _, _, h => h.elim
  | M + 1, f, cs, h => by
    obtain ⟨vk, va, h1, h2, h3, h4, h5, h6, h7, h8⟩ := h
    exact ⟨vk, va, h1, h2, h3, h4, h5, h6, h7, h8.fr (Fr.refl No w) (fun _ _ _ e => e) fun x c _ hx => hx.up⟩
theorem _root_.Go.Proofs.YtdkkpfeiaaffhaaGreatDoor.SC.EnIn.no {S : Nat → Prop} {w w' : World} {v : Value} {en : Ent} (h : EnIn S w v en) (hf : Fr No w w') : EnIn S w' v en := h.fr hf fun _ _ _ e => e
theorem infoFl : (Tryz.prog.info? 46).map (·.size) = some 7 := by kernel_rfl
theorem infoSj : (Tryz.prog.info? 113).map (·.size) = some 3 := by kernel_rfl
/-- What the functions ask of the package-level variables: also that the library's bound of short texts is a number. -/
def Gm (w : World) : Prop := Gs w ∧ ∃ m, w.cell? ⟨0, 0, none⟩ = some (.int .i64 m)
def GM (X : Nat → Prop) : Prop := GX X ∧ X 0
theorem Gm.no {w w' : World} (h : Gm w) (hf : Fr No w w') : Gm w' := ⟨h.1.no hf, h.2.imp fun _ e => hf.cell e id⟩
theorem Gm.bb {X : Nat → Prop} {w w' : World} {b : Nat} (h : Gm w) (hf : Fr (fun k => k = b) w w') (hx : GM X) (hb : ¬ X b) : Gm w' :=
  ⟨h.1.bb hf hx.1 hb, h.2.imp fun _ e => hf.cell e (fun e => hb (by have e : 0 = b := e; rw [← e]; exact hx.2))⟩
theorem Gm.gx {w : World} (h : Gm w) : GM (fun k => k < w.heap.size) := ⟨h.1.gx, World.block_lt_of_cell? w _ h.2.choose_spec⟩
end Go.Proofs.YtdkkpfeiaaffhaaGreatDoor.FT

namespace Go.Proofs.YtdkkpfeiaaffhaaGreatDoor.FT
set_option maxRecDepth 100000
open Go.Shelf Go.RowKit K Go.Proofs.YtdkkpfeiaaffhaaGreatDoor.BE Go.Proofs.YtdkkpfeiaaffhaaGreatDoor.DN Go.Proofs.YtdkkpfeiaaffhaaGreatDoor.SC

def lays161_ren : Go.Shelf.Ren := ⟨fun | 161 => 174 | 231 => 207 | 227 => 208 | 233 => 209 | 235 => 210 | 228 => 237 | 197 => 238 | 151 => 239 | 260 => 256 | 152 => 257 | 137 => 221 | 119 => 264 | 224 => 260 | 225 => 259 | 217 => 246 | 266 => 263 | n => n, fun | 9 => 9 | 4 => 4 | 3 => 3 | 5 => 5 | 117 => 259 | 116 => 258 | 0 => 0 | 124 => 262 | 105 => 281 | 21 => 21 | 119 => 293 | 46 => 194 | 139 => 296 | 138 => 295 | n => n, fun | 3 => 6 | 4 => 7 | n => n⟩
theorem lays161 : Go.Proofs.Lays.n161 Tryz.prog lays161_ren := {
  mixed := by kernel_rfl
  f119 := Tryz.func264.trans (congrArg some (by kernel_rfl))
  f137 := Tryz.func221.trans (congrArg some (by kernel_rfl))
  f151 := Tryz.func239.trans (congrArg some (by kernel_rfl))
  f152 := Tryz.func257.trans (congrArg some (by kernel_rfl))
  f161 := Tryz.func174.trans (congrArg some (by kernel_rfl))
  f197 := Tryz.func238.trans (congrArg some (by kernel_rfl))
  f217 := Tryz.func246.trans (congrArg some (by kernel_rfl))
  f224 := Tryz.func260.trans (congrArg some (by kernel_rfl))
  f225 := Tryz.func259.trans (congrArg some (by kernel_rfl))
  f227 := Tryz.func208.trans (congrArg some (by kernel_rfl))
  f228 := Tryz.func237.trans (congrArg some (by kernel_rfl))
  f231 := Tryz.func207.trans (congrArg some (by kernel_rfl))
  f233 := Tryz.func209.trans (congrArg some (by kernel_rfl))
  f235 := Tryz.func210.trans (congrArg some (by kernel_rfl))
  f260 := Tryz.func256.trans (congrArg some (by kernel_rfl))
  f266 := Tryz.func263.trans (congrArg some (by kernel_rfl))
  t0 := Tryz.underlying0
  a0 := Tryz.isAgg0
  z0 := Tryz.sizeOf0
  v0 := Tryz.zeroValue0
  t3 := Tryz.underlying3
  a3 := Tryz.isAgg3
  z3 := Tryz.sizeOf3
  v3 := Tryz.zeroValue3
  t4 := Tryz.underlying4
  a4 := Tryz.isAgg4
  z4 := Tryz.sizeOf4
  v4 := Tryz.zeroValue4
  t5 := Tryz.underlying5
  a5 := Tryz.isAgg5
  z5 := Tryz.sizeOf5
  v5 := Tryz.zeroValue5
  t9 := Tryz.underlying9
  a9 := Tryz.isAgg9
  z9 := Tryz.sizeOf9
  v9 := Tryz.zeroValue9
  t21 := Tryz.underlying21
  a21 := Tryz.isAgg21
  z21 := Tryz.sizeOf21
  v21 := Tryz.zeroValue21
  t46 := Tryz.underlying194
  a46 := Tryz.isAgg194
  z46 := Tryz.sizeOf194
  v46 := Tryz.zeroValue194
  t105 := Tryz.underlying281
  a105 := Tryz.isAgg281
  z105 := Tryz.sizeOf281
  v105 := Tryz.zeroValue281
  t116 := Tryz.underlying258
  a116 := Tryz.isAgg258
  z116 := Tryz.sizeOf258
  t117 := Tryz.underlying259
  a117 := Tryz.isAgg259
  z117 := Tryz.sizeOf259
  v117 := Tryz.zeroValue259
  t119 := Tryz.underlying293
  a119 := Tryz.isAgg293
  z119 := Tryz.sizeOf293
  t124 := Tryz.underlying262
  a124 := Tryz.isAgg262
  z124 := Tryz.sizeOf262
  v124 := Tryz.zeroValue262
  t138 := Tryz.underlying295
  a138 := Tryz.isAgg295
  z138 := Tryz.sizeOf295
  v138 := Tryz.zeroValue295
  t139 := Tryz.underlying296
  a139 := Tryz.isAgg296
  z139 := Tryz.sizeOf296
  v139 := Tryz.zeroValue296
  g3 := by kernel_rfl
  g4 := by kernel_rfl }
def lays162_ren : Go.Shelf.Ren := ⟨fun | 162 => 175 | 232 => 211 | 227 => 208 | 234 => 212 | 236 => 213 | 228 => 237 | 271 => 240 | 151 => 239 | 120 => 258 | 197 => 238 | 152 => 257 | 260 => 256 | 137 => 221 | 119 => 264 | 224 => 260 | 225 => 259 | 217 => 246 | 266 => 263 | n => n, fun | 9 => 9 | 4 => 4 | 3 => 3 | 5 => 5 | 117 => 259 | 116 => 258 | 0 => 0 | 124 => 262 | 21 => 21 | 105 => 281 | 46 => 194 | 119 => 293 | 139 => 296 | 138 => 295 | n => n, fun | 3 => 6 | 4 => 7 | n => n⟩
theorem lays162 : Go.Proofs.Lays.n162 Tryz.prog lays162_ren := {
  mixed := by kernel_rfl
  f119 := Tryz.func264.trans (congrArg some (by kernel_rfl))
  f120 := Tryz.func258.trans (congrArg some (by kernel_rfl))
  f137 := Tryz.func221.trans (congrArg some (by kernel_rfl))
  f151 := Tryz.func239.trans (congrArg some (by kernel_rfl))
  f152 := Tryz.func257.trans (congrArg some (by kernel_rfl))
  f162 := Tryz.func175.trans (congrArg some (by kernel_rfl))
  f197 := Tryz.func238.trans (congrArg some (by kernel_rfl))
  f217 := Tryz.func246.trans (congrArg some (by kernel_rfl))
  f224 := Tryz.func260.trans (congrArg some (by kernel_rfl))
  f225 := Tryz.func259.trans (congrArg some (by kernel_rfl))
  f227 := Tryz.func208.trans (congrArg some (by kernel_rfl))
  f228 := Tryz.func237.trans (congrArg some (by kernel_rfl))
  f232 := Tryz.func211.trans (congrArg some (by kernel_rfl))
  f234 := Tryz.func212.trans (congrArg some (by kernel_rfl))
  f236 := Tryz.func213.trans (congrArg some (by kernel_rfl))
  f260 := Tryz.func256.trans (congrArg some (by kernel_rfl))
  f266 := Tryz.func263.trans (congrArg some (by kernel_rfl))
  f271 := Tryz.func240.trans (congrArg some (by kernel_rfl))
  t0 := Tryz.underlying0
  a0 := Tryz.isAgg0
  z0 := Tryz.sizeOf0
  v0 := Tryz.zeroValue0
  t3 := Tryz.underlying3
  a3 := Tryz.isAgg3
  z3 := Tryz.sizeOf3
  v3 := Tryz.zeroValue3
  t4 := Tryz.underlying4
  a4 := Tryz.isAgg4
  z4 := Tryz.sizeOf4
  v4 := Tryz.zeroValue4
  t5 := Tryz.underlying5
  a5 := Tryz.isAgg5
  z5 := Tryz.sizeOf5
  v5 := Tryz.zeroValue5
  t9 := Tryz.underlying9
  a9 := Tryz.isAgg9
  z9 := Tryz.sizeOf9
  v9 := Tryz.zeroValue9
  t21 := Tryz.underlying21
  a21 := Tryz.isAgg21
  z21 := Tryz.sizeOf21
  v21 := Tryz.zeroValue21
  t46 := Tryz.underlying194
  a46 := Tryz.isAgg194
  z46 := Tryz.sizeOf194
  v46 := Tryz.zeroValue194
  t105 := Tryz.underlying281
  a105 := Tryz.isAgg281
  z105 := Tryz.sizeOf281
  v105 := Tryz.zeroValue281
  t116 := Tryz.underlying258
  a116 := Tryz.isAgg258
  z116 := Tryz.sizeOf258
  t117 := Tryz.underlying259
  a117 := Tryz.isAgg259
  z117 := Tryz.sizeOf259
  v117 := Tryz.zeroValue259
  t119 := Tryz.underlying293
  a119 := Tryz.isAgg293
  z119 := Tryz.sizeOf293
  t124 := Tryz.underlying262
  a124 := Tryz.isAgg262
  z124 := Tryz.sizeOf262
  v124 := Tryz.zeroValue262
  t138 := Tryz.underlying295
  a138 := Tryz.isAgg295
  z138 := Tryz.sizeOf295
  v138 := Tryz.zeroValue295
  t139 := Tryz.underlying296
  a139 := Tryz.isAgg296
  z139 := Tryz.sizeOf296
  v139 := Tryz.zeroValue296
  g3 := by kernel_rfl
  g4 := by kernel_rfl }
def lays145_ren : Go.Shelf.Ren := ⟨fun | 145 => 177 | 220 => 215 | 219 => 242 | 217 => 246 | 225 => 259 | 224 => 260 | 267 => 261 | 266 => 263 | 314 => 265 | n => n, fun | 9 => 9 | 4 => 4 | 59 => 228 | 3 => 3 | 5 => 5 | 46 => 194 | 146 => 297 | 51 => 76 | n => n, fun | 1 => 0 | n => n⟩
theorem lays145 : Go.Proofs.Lays.n145 Tryz.prog lays145_ren := {
  mixed := by kernel_rfl
  f145 := Tryz.func177.trans (congrArg some (by kernel_rfl))
  f217 := Tryz.func246.trans (congrArg some (by kernel_rfl))
  f219 := Tryz.func242.trans (congrArg some (by kernel_rfl))
  f220 := Tryz.func215.trans (congrArg some (by kernel_rfl))
  f224 := Tryz.func260.trans (congrArg some (by kernel_rfl))
  f225 := Tryz.func259.trans (congrArg some (by kernel_rfl))
  f266 := Tryz.func263.trans (congrArg some (by kernel_rfl))
  f267 := Tryz.func261.trans (congrArg some (by kernel_rfl))
  f314 := Tryz.func265.trans (congrArg some (by kernel_rfl))
  t3 := Tryz.underlying3
  a3 := Tryz.isAgg3
  z3 := Tryz.sizeOf3
  v3 := Tryz.zeroValue3
  t4 := Tryz.underlying4
  a4 := Tryz.isAgg4
  z4 := Tryz.sizeOf4
  v4 := Tryz.zeroValue4
  t5 := Tryz.underlying5
  a5 := Tryz.isAgg5
  z5 := Tryz.sizeOf5
  v5 := Tryz.zeroValue5
  t9 := Tryz.underlying9
  a9 := Tryz.isAgg9
  z9 := Tryz.sizeOf9
  v9 := Tryz.zeroValue9
  t46 := Tryz.underlying194
  a46 := Tryz.isAgg194
  z46 := Tryz.sizeOf194
  v46 := Tryz.zeroValue194
  t51 := Tryz.underlying76
  a51 := Tryz.isAgg76
  z51 := Tryz.sizeOf76
  v51 := Tryz.zeroValue76
  t59 := Tryz.underlying228
  a59 := Tryz.isAgg228
  z59 := Tryz.sizeOf228
  v59 := Tryz.zeroValue228
  t146 := Tryz.underlying297
  a146 := Tryz.isAgg297
  z146 := Tryz.sizeOf297
  v146 := Tryz.zeroValue297
  g1 := by kernel_rfl }
def lays206_ren : Go.Shelf.Ren := ⟨fun | 206 => 241 | n => n, fun | 9 => 9 | 4 => 4 | 3 => 3 | n => n, fun | n => n⟩
theorem lays206 : Go.Proofs.Lays.n206 Tryz.prog lays206_ren := {
  mixed := by kernel_rfl
  f206 := Tryz.func241.trans (congrArg some (by kernel_rfl))
  t3 := Tryz.underlying3
  a3 := Tryz.isAgg3
  z3 := Tryz.sizeOf3
  v3 := Tryz.zeroValue3
  t4 := Tryz.underlying4
  a4 := Tryz.isAgg4
  z4 := Tryz.sizeOf4
  v4 := Tryz.zeroValue4
  t9 := Tryz.underlying9
  a9 := Tryz.isAgg9
  z9 := Tryz.sizeOf9
  v9 := Tryz.zeroValue9 }
def lays100_ren : Go.Shelf.Ren := ⟨fun | 100 => 178 | 207 => 216 | n => n, fun | 9 => 9 | 4 => 4 | 3 => 3 | n => n, fun | n => n⟩
theorem lays100 : Go.Proofs.Lays.n100 Tryz.prog lays100_ren := {
  mixed := by kernel_rfl
  f100 := Tryz.func178.trans (congrArg some (by kernel_rfl))
  f207 := Tryz.func216.trans (congrArg some (by kernel_rfl))
  t3 := Tryz.underlying3
  a3 := Tryz.isAgg3
  z3 := Tryz.sizeOf3
  v3 := Tryz.zeroValue3
  t4 := Tryz.underlying4
  a4 := Tryz.isAgg4
  z4 := Tryz.sizeOf4
  v4 := Tryz.zeroValue4
  t9 := Tryz.underlying9
  a9 := Tryz.isAgg9
  z9 := Tryz.sizeOf9
  v9 := Tryz.zeroValue9 }
theorem drewN_fr (w : World) (n : Nat) : Fr No w (w.drewN n) := (Fr.refl _ _).drewN n
theorem trimL_any (s : B) (w : World) : Calls Tryz.prog 174 #[.string (sb s), .string (sb [32])] w fun e w' => e = .returned (.string (sb (trimL s))) ∧ w' = w := by
  have h := Any.strings_TrimLeft_one lays161 (sb s) 32 (by decide) w
  rw [sb_list] at h
  exact h
theorem trimR_any (s : B) (hs : Sz s) (w : World) : Calls Tryz.prog 175 #[.string (sb s), .string (sb [32])] w fun e w' => e = .returned (.string (sb (trimR s))) ∧ w' = w := by
  have h := Any.strings_TrimRight_one lays162 (sb s) 32 (by decide) w (by rw [sb_size]; unfold Sz at hs; omega)
  rw [sb_list] at h
  exact h
theorem hasSuf_any (s p : B) (hs : Sz s) (w : World) : Calls Tryz.prog 178 #[.string (sb s), .string (sb p)] w fun e w' => e = .returned (.bool (Lib.hasSuffix s p)) ∧ w' = w := by
  have h := Any.strings_HasSuffix lays100 (sb s) (sb p) w (by rw [sb_size]; unfold Sz at hs; omega)
  rw [sb_list, sb_list] at h
  exact h
theorem cutX_any (s p : B) (hs : Sm s) (w : World) (hG : Gm w) : Calls Tryz.prog 177 #[.string (sb s), .string (sb p)] w fun e w' => e = .returned (.tuple #[.string (sb (Lib.cut s p).1), .string (sb (Lib.cut s p).2.1), .bool (Lib.cut s p).2.2]) ∧ Fr No w w' := by
  obtain ⟨m, hm⟩ := hG.2
  have h := Any.strings_Cut lays145 (sb s) (sb p) m w (by rw [sb_size]; unfold Sm at hs; omega) hm
  rw [sb_list, sb_list] at h
  refine h.mono ?_
  rintro e w' ⟨rfl, n, rfl⟩
  exact ⟨rfl, drewN_fr w n⟩
theorem sliteHasPre_any (s p : B) (w : World) : Calls Tryz.prog 241 #[.string (sb s), .string (sb p)] w fun e w' => e = .returned (.bool (Lib.hasPrefix s p)) ∧ w' = w := by
  have h := Any.stringslite_HasPrefix lays206 (sb s) (sb p) w
  rw [sb_list, sb_list] at h
  exact h
set_option maxHeartbeats 2000000 in
theorem sliteCutPre_any (s p : B) (hs : Sz s) (w : World) : Calls Tryz.prog 214 #[.string (sb s), .string (sb p)] w fun e w' => e = .returned (.tuple #[.string (sb (Lib.trimPrefix s p)), .bool (Lib.hasPrefix s p)]) ∧ Fr No w w' := by
  have H := hid (sliteHasPre_any s p w)
  cases hb : Lib.hasPrefix s p with
  | false =>
    have HR : Hid (Lib.trimPrefix s p = s) := hid (by unfold Lib.trimPrefix; rw [hb]; rfl)
    rw [hb] at H
    clear hb
    go_enter Tryz.func214, Tryz.ntmps214
    go_wp2_with fail
    refine H.out.mono ?_
    rintro e w' ⟨rfl, rfl⟩
    go_wp2_with fail
    go_ret2
    exact ⟨by rw [HR.out]; rfl, Fr.refl _ _⟩
  | true =>
    have hp : p.length ≤ s.length := (List.isPrefixOf_iff_prefix.1 (show p.isPrefixOf s = true from hb)).length_le
    have HR : Hid (s.drop p.length = Lib.trimPrefix s p) := hid (by unfold Lib.trimPrefix; rw [hb]; rfl)
    rw [hb] at H
    have HP := hid hp
    obtain ⟨S, hS⟩ : ∃ S, sb s = S := ⟨_, rfl⟩
    obtain ⟨Q, hQ⟩ : ∃ Q, sb p = Q := ⟨_, rfl⟩
    obtain ⟨m, hm⟩ : ∃ m, p.length = m := ⟨_, rfl⟩
    have hqz : (Q.size : Int) = m := by rw [← hQ, sb_size, hm]
    have HS := hid hS; have HM := hid hm
    rw [hS, hQ] at H ⊢
    clear hb hp hS hQ hs hm
    go_enter Tryz.func214, Tryz.ntmps214
    go_wp2_with fail
    refine H.out.mono ?_
    rintro e w' ⟨rfl, rfl⟩
    go_wp2_with (first
      | ((with_reducible refine K.atO (.slice 9 _ _ _ _) ?_); refine wpL_valZ rfl (.string (sb (Lib.trimPrefix s p))) (by rw [← HR.out, HM.out]; rw [← HS.out]; exact exec_from _ _ rfl s m rfl (by go_simp) (by rw [← HM.out]; exact HP.out) _ rfl _) ?_)
      | fail)
    go_ret2
    exact ⟨rfl, Fr.refl _ _⟩
theorem cutPre_any (s p : B) (hs : Sz s) (w : World) : Calls Tryz.prog 176 #[.string (sb s), .string (sb p)] w fun e w' => e = .returned (.tuple #[.string (sb (Lib.trimPrefix s p)), .bool (Lib.hasPrefix s p)]) ∧ Fr No w w' := by
  have H := hid (sliteCutPre_any s p hs w)
  clear hs
  go_enter Tryz.func176, Tryz.ntmps176
  go_wp2_with fail
  refine H.out.mono ?_
  rintro e w' ⟨rfl, f⟩
  have HF := hid f
  clear f
  go_wp2_with fail
  go_ret2
  exact ⟨rfl, HF.out⟩
end Go.Proofs.YtdkkpfeiaaffhaaGreatDoor.FT

namespace Go.Proofs.YtdkkpfeiaaffhaaGreatDoor.SC
set_option maxRecDepth 100000
open Go.RowKit K Go.Proofs.YtdkkpfeiaaffhaaGreatDoor.BE Go.Proofs.YtdkkpfeiaaffhaaGreatDoor.DN

/-- How often a norm was seen. -/
def Cnt (f : B → Option Int) (seen : List B) : Prop := ∀ x, (f x).getD 0 = if x ∈ seen then 1 else 0
theorem Cnt.step {f : B → Option Int} {seen : List B} {x : B} (h : Cnt f seen) (hx : x ∉ seen) : Cnt (updM f x 1) (seen ++ [x]) := by
  intro y
  unfold updM
  by_cases hy : y = x
  · subst hy; simp
  · rw [if_neg hy, h y]
    simp [hy]
theorem LsIn.at_ {S : Nat → Prop} {w : World} {v : Value} {l : List B} (h : LsIn S w v l) {i : Nat} {x : B} (hx : l[i]? = some x) : ∃ g o cap, v = .slice (some ⟨g, o, none⟩) l.length cap ∧ w.cell? ⟨g, o + i, none⟩ = some (.string (sb x)) ∧ Sz x := by
  obtain ⟨g, o, cap, c, e1, -, -, hr, -, hp⟩ := Sl.get h hx
  obtain ⟨rfl, hz⟩ := hp
  refine ⟨g, o, cap, e1, ?_, hz⟩
  have := hr 0 _ rfl
  simpa using this
theorem exec_lookV {op : Oper} {a : Act} {w : World} (x y : Operand) (ho : op.op = .lookup 85 x y false) (b n : Nat) (f : B → Option Int) (hx : a.eval x = .map (some b)) (s : B) (hy : a.eval y = .string (sb s)) (h : MpI w b n f) (hs : Sz s) (c : Int) (hc : (f s).getD 0 = c) :
    (execOp a.eval op).run Tryz.prog w = .ok (.value (.int .i64 c)) w := by
  rw [← hc]
  exact exec_look1 x y ho b n f hx s hy h hs
set_option maxHeartbeats 16000000 in
theorem checkValues_any {S : Nat → Prop} (t : Ty) (v : Value) (vs : List B) (w : World) (h : LsIn S w v vs) (hG : Gs w) :
    Calls Tryz.prog 78 #[.agg (tyV t).toArray, v] w fun e w' => e = .returned (.int .i64 (chkVals t vs)) ∧ Fr No w w' := by
  have HX := hid h; have HG := hid hG
  obtain ⟨a, cp, rfl, hcap, hl⟩ := h.form
  obtain ⟨R, hR⟩ : ∃ R, chkVals t vs = R := ⟨_, rfl⟩
  rw [hR]
  have HR := hid hR
  obtain ⟨n, hn⟩ : ∃ n, vs.length = n := ⟨_, rfl⟩
  have HNN := hid hn
  rw [hn] at HX hcap hl ⊢
  have hni : (n : Int) ≤ 140737488351232 := by omega
  have HL := hid hl
  clear h hG hR hn hcap hl
  by_cases h0 : n = 0
  · obtain rfl : R = 132 := by
      have h := HR.out
      unfold chkVals at h
      rw [if_pos (List.eq_nil_of_length_eq_zero (by rw [HNN.out]; exact h0))] at h
      exact h.symm
    subst h0
    go_enter Tryz.func78, Tryz.ntmps78
    go_wp2_with (first
      | ((with_reducible refine K.atO (.box 62 _) ?_); refine wpL_box rfl _ _ rfl _ rfl (tyV t) rfl ?_; intro w1 HB1 HF1 HS1)
      | fail)
    go_ret
    exact ⟨rfl, HF1.out⟩
  have h0b : ((n : Int) == 0) = false := by rw [beq_eq_false_iff_ne]; omega
  obtain ⟨O, hO⟩ : ∃ O, okVals t.syn [] vs = O := ⟨_, rfl⟩
  have HO : Hid (okVals t.syn [] (vs.drop 0) = O) := hid hO
  have HR2 : Hid ((if O = true then (if t.one = true ∧ 1 < n then 136 else 0) else (132 : Int)) = R) := hid (by
    have h := HR.out
    unfold chkVals at h
    rw [if_neg (by intro e; rw [e] at HNN; exact h0 HNN.out.symm), hO, HNN.out] at h
    exact h)
  clear hO h0
  go_enter Tryz.func78, Tryz.ntmps78
  go_wp2_with (first
    | ((with_reducible refine K.atO (.box 62 _) ?_); refine wpL_box rfl _ _ rfl _ rfl (tyV t) rfl ?_; intro w1 HB1 HF1 HS1)
    | ((with_reducible refine K.atO (.makeMap _ _) ?_); refine wpL_makeMap rfl _ rfl ?_; intro w2 HM2 HF2 HS2)
    | fail)
  obtain ⟨b, hb⟩ : ∃ b, w.heap.size = b := ⟨_, rfl⟩
  obtain ⟨bm, hbm⟩ : ∃ b, w1.heap.size = b := ⟨_, rfl⟩
  have HBM := hid (show b < bm ∧ bm < w2.heap.size ∧ w.heap.size = b from ⟨by have := HS1.out; omega, by have := HS2.out; omega, hb⟩)
  rw [hb] at HB1 ⊢
  rw [hbm] at HM2 ⊢
  have HB2 := hid (HB1.out.fr HF2.out id)
  have HFR2 := hid (HF1.out.trans' HF2.out)
  clear hb hbm HB1 HF1 HS1 HF2 HS2 h0b
  go_loopw [16] (fun iv wr => ∃ (i : Nat) (f : B → Option Int) (seen : List B), iv = .int .i64 i ∧ i ≤ n ∧ Hid (MpI wr bm i f ∧ Cnt f seen) ∧ Hid (okVals t.syn seen (vs.drop i) = O) ∧ Hid (Blk wr b 62 (tyV t) ∧ Fr No w wr ∧ bm < wr.heap.size)) (fun iv _ => n - (intOf iv).toNat)
  case atStart => exact ⟨0, _, [], rfl, Nat.zero_le _, hid ⟨HM2.out, fun x => by simp⟩, HO, hid ⟨HB2.out, HFR2.out, HBM.out.2.1⟩⟩
  case round =>
    obtain ⟨i, f, seen, rfl, hi, HM, HT, HI⟩ := hrel
    by_cases hlt : i < n
    · obtain ⟨x, hx⟩ : ∃ x, vs[i]? = some x := ⟨_, List.getElem?_eq_getElem (by rw [HNN.out]; exact hlt)⟩
      have hlti : (i : Int) < n := by omega
      have hi0 : (0 : Int) ≤ i := by omega
      obtain ⟨g, o, cq, e1, hc, hz⟩ := (LsIn.fr (D := No) HX.out HI.out.2.1 (fun _ _ _ e => e)).at_ hx
      rw [HNN.out] at e1
      simp only [Value.slice.injEq, true_and] at e1
      obtain ⟨rfl, rfl⟩ := e1
      have HZ := hid hz
      obtain ⟨hdrop, -⟩ := drop_at hx
      have HT2 : Hid ((match normV t.syn x with | none => false | some y => !(seen.contains y) && okVals t.syn (seen ++ [y]) (vs.drop (i + 1))) = O) := hid (by
        have h := HT.out
        rw [hdrop] at h
        exact h)
      have HLT := hid hlt
      have c1 : wr.cell? ⟨b, 1, none⟩ = some (.int .i64 t.syn) := HI.out.1.cell 1
      clear hz hx hdrop HT hi hlt
      go_wp2_with fail
      refine (normOf_any t.syn x HZ.out wr (HG.out.no HI.out.2.1)).mono ?_
      rintro e w3 ⟨⟨y, rfl, hy, hxy⟩, f3⟩
      have HY := hid (show Sz y ∧ ∀ z, normV t.syn x = some z → y = z from ⟨hy, hxy⟩)
      have HF3 := hid f3
      have HM3 := hid (HM.out.1.fr f3 id)
      clear hy hxy f3 c1 hc
      obtain ⟨c, hc⟩ : ∃ c, (f y).getD 0 = c := ⟨_, rfl⟩
      have HC := hid hc
      have hc01 : 0 ≤ c ∧ c ≤ 1 := by
        have := HM.out.2 y
        rw [hc] at this
        split at this <;> omega
      obtain ⟨hc0, hc1⟩ := hc01
      obtain ⟨NO, hNO⟩ : ∃ NO, normV t.syn x = NO := ⟨_, rfl⟩
      have HNO := hid hNO
      obtain ⟨OK, hOK⟩ : ∃ OK, (normV t.syn x).isSome = OK := ⟨_, rfl⟩
      have HOK := hid hOK
      rw [hOK]
      clear hc hNO hOK
      cases OK with
      | false =>
        obtain rfl : O = false := by
          have h := HT2.out
          have h2 := HOK.out
          rw [Option.isSome_eq_false_iff, Option.isNone_iff_eq_none] at h2
          rw [h2] at h
          exact h.symm
        obtain rfl : R = 132 := by have h := HR2.out; simp at h; exact h.symm
        go_wp2_with (first
          | ((with_reducible refine K.atO (.lookup _ _ _ _) ?_); refine wpL_valZ rfl (.int .i64 c) (by rw [← HC.out]; exact exec_look1 _ _ rfl bm i f rfl y rfl HM3.out HY.out.1) ?_)
          | ((with_reducible refine K.atO (.mapUpdate _ _ _ _) ?_); refine wpL_upd rfl _ _ _ rfl bm i f rfl y (c + 1) rfl (by go_simp) HM3.out HY.out.1 (by have := HLT.out; have := HL.out; omega) ?_; intro w4 HM4 HF4)
          | fail)
        go_ret
        have hf := (HI.out.2.1.trans' HF3.out).trans HF4.out (fun k e => .inr (by have e : k = bm := e; have := HBM.out; omega))
        exact ⟨rfl, hf⟩
      | true =>
        obtain ⟨z, hz⟩ := Option.isSome_iff_exists.1 HOK.out
        obtain rfl : y = z := HY.out.2 z hz
        have HT3 : Hid ((!(seen.contains y) && okVals t.syn (seen ++ [y]) (vs.drop (i + 1))) = O) := hid (by have h := HT2.out; rw [hz] at h; exact h)
        clear hz
        by_cases hs : y ∈ seen
        · obtain rfl : O = false := by have h := HT3.out; rw [List.contains_iff_mem.2 hs] at h; exact h.symm
          obtain rfl : R = 132 := by have h := HR2.out; simp at h; exact h.symm
          obtain rfl : c = 1 := by have := HM.out.2 y; rw [HC.out, if_pos hs] at this; exact this
          clear hs
          go_wp2_with (first
            | ((with_reducible refine K.atO (.lookup _ _ _ _) ?_); (fail_if_success (have := HM4)); refine wpL_valZ rfl (.int .i64 1) (by rw [← HC.out]; exact exec_look1 _ _ rfl bm i f rfl y rfl HM3.out HY.out.1) ?_)
            | ((with_reducible refine K.atO (.mapUpdate _ _ _ _) ?_); refine wpL_upd rfl _ _ _ rfl bm i f rfl y 2 rfl (by go_simp) HM3.out HY.out.1 (by have := HLT.out; have := HL.out; omega) ?_; intro w4 HM4 HF4)
            | ((with_reducible refine K.atO (.lookup _ _ _ _) ?_); refine wpL_valZ rfl (.int .i64 2) (exec_lookV _ _ rfl bm (i + 1) (updM f y 2) rfl y rfl HM4.out HY.out.1 2 (by simp [updM])) ?_)
            | fail)
          go_ret
          have hf := (HI.out.2.1.trans' HF3.out).trans HF4.out (fun k e => .inr (by have e : k = bm := e; have := HBM.out; omega))
          exact ⟨rfl, hf⟩
        · have HT4 : Hid (okVals t.syn (seen ++ [y]) (vs.drop (i + 1)) = O) := hid (by
            have h := HT3.out
            have hcn : seen.contains y = false := by
              rw [Bool.eq_false_iff]
              intro e
              exact hs (List.contains_iff_mem.1 e)
            rw [hcn] at h
            exact h)
          obtain rfl : c = 0 := by have := HM.out.2 y; rw [HC.out, if_neg hs] at this; exact this
          have HCN := hid (HM.out.2.step hs)
          clear hs
          go_wp2_with (first
            | ((with_reducible refine K.atO (.lookup _ _ _ _) ?_); (fail_if_success (have := HM4)); refine wpL_valZ rfl (.int .i64 0) (by rw [← HC.out]; exact exec_look1 _ _ rfl bm i f rfl y rfl HM3.out HY.out.1) ?_)
            | ((with_reducible refine K.atO (.mapUpdate _ _ _ _) ?_); refine wpL_upd rfl _ _ _ rfl bm i f rfl y 1 rfl (by go_simp) HM3.out HY.out.1 (by have := HLT.out; have := HL.out; omega) ?_; intro w4 HM4 HF4)
            | ((with_reducible refine K.atO (.lookup _ _ _ _) ?_); refine wpL_valZ rfl (.int .i64 1) (exec_lookV _ _ rfl bm (i + 1) (updM f y 1) rfl y rfl HM4.out HY.out.1 1 (by simp [updM])) ?_)
            | fail)
          have HF' : Hid (Fr No w w4 ∧ bm < w4.heap.size) := hid ⟨(HI.out.2.1.trans' HF3.out).trans HF4.out (fun k e => .inr (by have e : k = bm := e; have := HBM.out; omega)), by have := HI.out.2.2; have := HF3.out.size; have := HF4.out.size; omega⟩
          have HB' : Hid (Blk w4 b 62 (tyV t)) := hid ((HI.out.1.fr HF3.out id).fr HF4.out (by show ¬ b = bm; have := HBM.out; omega))
          refine ⟨⟨i + 1, _, _, by go_num, HLT.out, hid ⟨HM4.out, HCN.out⟩, HT4, hid ⟨HB'.out, HF'.out.1, HF'.out.2⟩⟩, ?_⟩
          have := HLT.out
          simp [intOf]; omega
    · obtain rfl : i = n := by omega
      obtain rfl : O = true := by
        have h := HT.out
        rw [← HNN.out, List.drop_length] at h
        exact h.symm
      have c2 : wr.cell? ⟨b, 2, none⟩ = some (.bool t.one) := HI.out.1.cell 2
      obtain ⟨p, hp⟩ : ∃ p, t.one = p := ⟨_, rfl⟩
      rw [hp] at c2
      have HP := hid hp
      clear hp hi hlt
      have HR3 : Hid ((if p = true ∧ 1 < i then (136 : Int) else 0) = R) := hid (by have h := HR2.out; rw [if_pos rfl, HP.out] at h; exact h)
      cases p with
      | false =>
        obtain rfl : R = 0 := by have h := HR3.out; simp at h; exact h.symm
        go_wp2_with fail
        go_ret
        exact ⟨rfl, HI.out.2.1⟩
      | true =>
        by_cases h1 : 1 < i
        · obtain rfl : R = 136 := by have h := HR3.out; rw [if_pos ⟨rfl, h1⟩] at h; exact h.symm
          have h1i : decide ((1 : Int) < i) = true := decide_eq_true (by omega)
          clear h1
          go_wp2_with fail
          go_ret
          exact ⟨rfl, HI.out.2.1⟩
        · obtain rfl : R = 0 := by have h := HR3.out; rw [if_neg (fun e => h1 e.2)] at h; exact h.symm
          have h1i : decide ((1 : Int) < i) = false := decide_eq_false (by omega)
          clear h1
          go_wp2_with fail
          go_ret
          exact ⟨rfl, HI.out.2.1⟩
end Go.Proofs.YtdkkpfeiaaffhaaGreatDoor.SC

namespace Go.Proofs.YtdkkpfeiaaffhaaGreatDoor.SC
set_option maxRecDepth 100000
open Go.RowKit K Go.Proofs.YtdkkpfeiaaffhaaGreatDoor.BE Go.Proofs.YtdkkpfeiaaffhaaGreatDoor.DN

/-- Booleans as cells. -/
def bb (f : Set) (n : Nat) : List Value := (List.range n).map fun i => .bool (f i)
@[simp] theorem bb_length (f : Set) (n : Nat) : (bb f n).length = n := by simp [bb]
theorem bb_get (f : Set) {i n : Nat} (h : i < n) : (bb f n)[i]? = some (.bool (f i)) := by simp [bb, h]
theorem bb_one (f : Set) (n : Nat) : ∀ v ∈ bb f n, v.oneCell' = true := by
  intro v hv
  obtain ⟨i, _, rfl⟩ := List.mem_map.1 hv
  rfl
theorem bb_put (f : Set) (n i : Nat) : (bb f n).set i (.bool true) = bb (put f i) n := by
  refine List.ext_getElem? fun j => ?_
  by_cases hj : j < n
  · rw [bb_get _ hj, List.getElem?_set]
    unfold put
    by_cases e : i = j
    · subst e; simp [hj]
    · have e2 : ¬ j = i := fun h => e h.symm
      simp [e, e2, bb_get f hj]
  · rw [List.getElem?_eq_none (by simp; omega), List.getElem?_eq_none (by simp; omega)]
theorem bb_spl (f g : Set) (n : Nat) : spl (bb f n) 0 (bb g n) = bb g n := by
  unfold spl
  rw [List.take_zero, List.nil_append, Nat.zero_add, bb_length, List.drop_eq_nil_of_le (by simp), List.append_nil]
theorem infoTs : (Tryz.prog.info? 97).map (·.size) = some 40 := by kernel_rfl
theorem infoCs2 : (Tryz.prog.info? 101).map (·.size) = some 20 := by kernel_rfl
theorem infoBool : (Tryz.prog.info? 4).map (·.size) = some 1 := by kernel_rfl
theorem zeroTs : ∀ w, (zeroValue 97).run Tryz.prog w = .ok (.agg (bb none_ 40).toArray) w := fun _ => by kernel_rfl
theorem zeroCs : ∀ w, (zeroValue 101).run Tryz.prog w = .ok (.agg (bb none_ 20).toArray) w := fun _ => by kernel_rfl
theorem zeroAt : ∀ w, (zeroValue 60).run Tryz.prog w = .ok (.agg #[.string ⟨#[]⟩, .slice none 0 0]) w := fun _ => by kernel_rfl
theorem GX.also {X : Nat → Prop} {r : Nat} (h : GX X) : GX (Also X r) := ⟨.inl h.1, .inl h.2.1, .inl h.2.2⟩
theorem Gs.put {w w' : World} {r : Nat} (h : Gs w) (hf : Fr (fun k => k = r) w w') (hl : GX (fun k => k < r)) : Gs w' :=
  h.bb hf hl (fun e => Nat.lt_irrefl _ e)
theorem tyAt_lt {s : Sch} (hk : okS s = true) {n : B} {i : Nat} (h : s.tyAt n = some i) : i < s.tys.length ∧ i < 40 := by
  have := fnd_lt h
  unfold Sch.tn at this
  rw [List.length_map] at this
  have := (okS_b hk).2.1
  omega
theorem clAt_lt {s : Sch} (hk : okS s = true) {n : B} {i : Nat} (h : s.clAt n = some i) : i < s.cls.length ∧ i < 20 := by
  have := fnd_lt h
  unfold Sch.cn at this
  rw [List.length_map] at this
  have := (okS_b hk).2.2
  omega
set_option maxHeartbeats 16000000 in
theorem checkAttrs_any {S : Nat → Prop} (X : Nat → Prop) (b : Nat) (s : Sch) (v : Value) (en : Ent) (w : World) (h : Sx w X b s) (hX : ∀ k, X k → k < w.heap.size) (hx : GX X) (hG : Gs w) (he : EnIn S w v en) (hS : ∀ i, S i → i ≠ b) :
    Calls Tryz.prog 43 #[.pointer (some ⟨b, 0, none⟩), v] w fun e w' => e = .returned (.tuple #[.agg (bb (chkAts s none_ en).1 40).toArray, .int .i64 (chkAts s none_ en).2]) ∧ Sx w' X b s ∧ Fr (fun k => k = b) w w' := by
  obtain ⟨r, hr⟩ : ∃ r, w.heap.size = r := ⟨_, rfl⟩
  have HX := hid (h.also (r := r) (by omega)); have HXB := hid hX; have HR := hid hr; have HGX : Hid (GX (Also X r)) := hid hx.also
  have HG := hid hG; have HE := hid he; have HS := hid hS
  have HGL : Hid (GX (fun k => k < r)) := hid (by rw [← hr]; exact hG.gx)
  have HBR : Hid (b < r) := hid (by have := h.lt; omega)
  have HOK := hid h.ok
  obtain ⟨a, cp, rfl, hcap, hl⟩ := he.form
  obtain ⟨RR, hRR⟩ : ∃ RR, chkAts s none_ en = RR := ⟨_, rfl⟩
  rw [hRR]
  have HRR : Hid (chkAts s none_ (en.drop 0) = RR) := hid hRR
  obtain ⟨n, hn⟩ : ∃ n, en.length = n := ⟨_, rfl⟩
  have HNN := hid hn
  rw [hn] at HE hcap hl ⊢
  have hni : (n : Int) ≤ 140737488351232 := by omega
  clear h hX hx hG he hS hr hRR hn hcap hl
  go_enter Tryz.func43, Tryz.ntmps43
  go_wp2_with (first
    | ((with_reducible refine K.atO (.alloc 97) ?_); refine wpL_alloc rfl _ rfl _ zeroTs (bb none_ 40) rfl ?_; intro w1 HB1 HF1 HS1)
    | fail)
  rw [HR.out] at HB1 ⊢
  have HX1 := hid (HX.out.no HF1.out)
  have HXL : Hid (∀ k, Also X r k → k < w1.heap.size) := hid (also_lt HXB.out (by have := HS1.out; have := HR.out; omega) (by have := HS1.out; omega))
  have HG1 := hid (HG.out.no HF1.out)
  have HFw1 := hid (HF1.out.no (D := fun k => k = b))
  clear HF1 HS1 HX HG
  go_loopw [13] (fun iv wr => ∃ (i : Nat) (f : Set), iv = .int .i64 i ∧ i ≤ n ∧ Hid (Blk wr r 97 (bb f 40)) ∧ Hid (chkAts s f (en.drop i) = RR) ∧ Hid (Sx wr (Also X r) b s ∧ Fr (fun k => k = b) w wr ∧ Gs wr ∧ w1.heap.size ≤ wr.heap.size)) (fun iv _ => n - (intOf iv).toNat)
  case atStart => exact ⟨0, none_, rfl, Nat.zero_le _, HB1, HRR, hid ⟨HX1.out, HFw1.out, HG1.out, Nat.le_refl _⟩⟩
  case round =>
    obtain ⟨i, f, rfl, hi, HB, HT, HI⟩ := hrel
    by_cases hlt : i < n
    · obtain ⟨at_, hx⟩ : ∃ x, en[i]? = some x := ⟨_, List.getElem?_eq_getElem (by rw [HNN.out]; exact hlt)⟩
      have hlti : (i : Int) < n := by omega
      have hi0 : (0 : Int) ≤ i := by omega
      obtain ⟨g, o, cq, cs, e1, -, -, hr, -, hp⟩ := (EnIn.fr HE.out HI.out.2.1 (fun i hi _ e => HS.out i hi e)).get hx
      rw [HNN.out] at e1
      simp only [Value.slice.injEq, true_and] at e1
      obtain ⟨rfl, rfl⟩ := e1
      obtain ⟨u, rfl, hz, hls⟩ := hp
      have HRG := hid hr; have HZ := hid hz; have HLS := hid hls
      have HONE : Hid (∀ v ∈ [Value.string (sb at_.1), u], v.oneCell' = true) := hid (by
        obtain ⟨a, cp, rfl, -⟩ := hls.form
        intro v hv
        simp only [List.mem_cons, List.not_mem_nil, or_false] at hv
        rcases hv with rfl | rfl <;> rfl)
      obtain ⟨hdrop, -⟩ := drop_at hx
      have HT2 := hid HT.out
      rw [hdrop] at HT2
      have HLT := hid hlt
      clear hr hz hls hx hdrop HT hi hlt
      go_wp2_with (first
        | ((with_reducible refine K.atO (.load 60 _) ?_); refine wpL_load rfl _ _ rfl g (o + i * 2) rfl [.string (sb at_.1), u] _ HRG.out rfl rfl infoAt ?_)
        | ((with_reducible refine K.atO (.alloc 60) ?_); refine wpL_alloc rfl _ rfl _ zeroAt _ rfl ?_; intro y2 HB2 HF2 HS2)
        | ((with_reducible refine K.atO (.store 60 _ _) ?_); refine wpL_store rfl _ _ _ rfl wr.heap.size 0 [.string (sb at_.1), u] rfl rfl 60 _ HB2.out (by simp) infoAt HONE.out ?_; intro y3 HB3 HF3 HS3; refine Hid.out ?_)
        | fail)
      have HFR3 : Hid (Fr No wr y3) := hid (HF2.out.trans HF3.out fun k e => .inr (by have e : k = wr.heap.size := e; omega))
      obtain ⟨q, hq⟩ : ∃ q, wr.heap.size = q := ⟨_, rfl⟩
      have HQ := hid hq
      rw [hq] at HB3 ⊢
      have HBK : Hid (Blk y3 q 60 [.string (sb at_.1), u]) := hid HB3.out
      have HBr3 := hid (HB.out.fr HFR3.out id)
      have HX3 := hid (HI.out.1.no HFR3.out)
      have HXL3 := hid (fun k hk => Nat.lt_of_lt_of_le (HXL.out k hk) (Nat.le_trans HI.out.2.2.2 HFR3.out.size))
      clear hq HB3 HB2 HF2 HF3 HS2 HS3
      have c0 : y3.cell? ⟨q, 0, none⟩ = some (.string (sb at_.1)) := HBK.out.cell 0
      refine hid ?_
      go_wp2_with fail
      refine (typeAt_any (Also X r) b s at_.1 y3 HX3.out HXL3.out HZ.out).mono ?_
      rintro e y4 ⟨rfl, hs4, f4⟩
      have HS4 := hid hs4
      have HBr4 := hid (HBr3.out.fr f4 (by show ¬ r = b; have := HBR.out; omega))
      have HBK4 := hid (HBK.out.fr f4 (by show ¬ q = b; have := HQ.out; have := HI.out.1.lt; omega))
      have HFR4 : Hid (Fr (fun k => k = b) wr y4) := hid (HFR3.out.no.trans' f4)
      have HG4 : Hid (Gs y4) := hid ((HI.out.2.2.1.no HFR3.out).bb f4 HGX.out hs4.nx)
      have HQ4 : Hid (w1.heap.size ≤ y4.heap.size) := hid (Nat.le_trans HI.out.2.2.2 HFR4.out.size)
      clear hs4 f4 c0 HX3 HXL3 HBr3 HBK
      cases hat : s.tyAt at_.1 with
      | none =>
        obtain rfl : RR = (none_, 131) := by
          have h := HT2.out
          rw [chkAts, hat] at h
          exact h.symm
        rw [atR_none]
        clear hat
        go_wp2_with (first
          | ((with_reducible refine K.atO (.build 97 _) ?_); refine wpL_valZ rfl (.agg (bb none_ 40).toArray) (by kernel_rfl) ?_)
          | ((with_reducible refine K.atO (.store 97 _ _) ?_); refine wpL_store rfl _ _ _ rfl r 0 (bb none_ 40) rfl rfl 97 _ HBr4.out (by simp) (by rw [bb_length]; exact infoTs) (bb_one _ _) ?_; intro y5 HB5 HF5 HS5; rw [bb_spl] at HB5)
          | fail)
        refine ret_cell2 rfl _ rfl HB5.out rfl rfl (by rw [bb_length]; exact infoTs) rfl ?_
        exact ⟨rfl, (HS4.out.set HF5.out).back.sx, (HI.out.2.1.trans' HFR4.out).trans HF5.out (fun k e => .inr (by have e : k = r := e; have := HR.out; omega))⟩
      | some j =>
        obtain ⟨hj1, hj2⟩ := tyAt_lt HOK.out hat
        rw [atR_some]
        have hji : (j : Int) < 40 := by omega
        have hj0 : (0 : Int) ≤ j := by omega
        have cj : y4.cell? ⟨r, j, none⟩ = some (.bool (f j)) := by rw [HBr4.out.cell, bb_get f hj2]
        obtain ⟨p, hp⟩ : ∃ p, f j = p := ⟨_, rfl⟩
        rw [hp] at cj
        have HAT := hid hat; have HP := hid hp; have HJ := hid (show j < s.tys.length ∧ j < 40 from ⟨hj1, hj2⟩)
        clear hat hp hj1 hj2
        cases p with
        | true =>
          obtain rfl : RR = (none_, 131) := by
            have h := HT2.out
            rw [chkAts, HAT.out] at h
            simp only [HP.out, if_true] at h
            exact h.symm
          go_wp2_with (first
            | ((with_reducible refine K.atO (.build 97 _) ?_); refine wpL_valZ rfl (.agg (bb none_ 40).toArray) (by kernel_rfl) ?_)
            | ((with_reducible refine K.atO (.store 97 _ _) ?_); refine wpL_store rfl _ _ _ rfl r 0 (bb none_ 40) rfl rfl 97 _ HBr4.out (by simp) (by rw [bb_length]; exact infoTs) (bb_one _ _) ?_; intro y5 HB5 HF5 HS5; rw [bb_spl] at HB5)
            | fail)
          refine ret_cell2 rfl _ rfl HB5.out rfl rfl (by rw [bb_length]; exact infoTs) rfl ?_
          exact ⟨rfl, (HS4.out.set HF5.out).back.sx, (HI.out.2.1.trans' HFR4.out).trans HF5.out (fun k e => .inr (by have e : k = r := e; have := HR.out; omega))⟩
        | false =>
          obtain ⟨t, htt⟩ : ∃ t, s.tys[j]? = some t := ⟨_, List.getElem?_eq_getElem HJ.out.1⟩
          have HT3 : Hid ((if chkVals t at_.2 = 0 then chkAts s (put f j) (en.drop (i + 1)) else (none_, chkVals t at_.2)) = RR) := hid (by
            have h := HT2.out
            rw [chkAts, HAT.out] at h
            simp only [HP.out, htt, Bool.false_eq_true, if_false] at h
            exact h)
          obtain ⟨vt, vc, bt, bc, n1, m1, hB, -, htv, -, -, -, -, -, -⟩ := HS4.out
          obtain ⟨tg, to_, tcq, tcs, te, -, -, thr, -, tp⟩ := htv.get htt
          subst te
          obtain ⟨rfl, -⟩ := tp
          obtain ⟨TL, hTL⟩ : ∃ L, s.tys.length = L := ⟨_, rfl⟩
          have d0 : y4.cell? ⟨b, 0, none⟩ = some (.slice (some ⟨tg, to_, none⟩) TL tcq) := by rw [← hTL]; exact hB.cell 0
          have d1 : y4.cell? ⟨q, 1, none⟩ = some u := HBK4.out.cell 1
          have hjl : (j : Int) < (TL : Int) := by have := HJ.out.1; omega
          have HU : Hid (LsIn S y4 u at_.2) := hid (HLS.out.fr HFR4.out (fun i hi _ e => HS.out i hi e))
          have HTHR := hid thr
          clear hB htv thr hTL htt
          go_wp2_with fail
          have hold : Facts.hold [(4, fun w' => w'.cell? ⟨b, 0, none⟩ = some (.slice (some ⟨tg, to_, none⟩) TL tcq)), (7, fun w' => w'.rangeAt tg (to_ + j * 6) (tyV t)), (9, fun w' => w'.cell? ⟨q, 1, none⟩ = some u)] y4.drew := Facts.cons_hold d0 (Facts.cons_hold HTHR.out (Facts.cons_hold d1 (Facts.nil_hold _)))
          refine wpD_region hold (by kernel_rfl) 12 rfl ?_
          (refine wpD_plain 0 (v := ?_) rfl (by kernel_rfl) (by kernel_rfl) (by kernel_rfl) (fun _ _ _ h => h) (by rfl) ?_ (by assumption) ?_; rotate_left; (intro _w; go_simp; try with_reducible rfl); simp only [Act.put, K.put3])
          (refine wpD_plain 1 (v := ?_) rfl (by kernel_rfl) (by kernel_rfl) (by kernel_rfl) (fun _ _ _ h => h) (by rfl) ?_ (by assumption) ?_; rotate_left; (intro _w; go_simp; try with_reducible rfl); simp only [Act.put, K.put3])
          (refine wpD_plain 2 (v := ?_) rfl (by kernel_rfl) (by kernel_rfl) (by kernel_rfl) (fun _ _ _ h => h) (by rfl) ?_ (by assumption) ?_; rotate_left; (intro _w; go_simp; try with_reducible rfl); simp only [Act.put, K.put3])
          (refine wpD_plain 3 (v := ?_) rfl (by kernel_rfl) (by kernel_rfl) (by kernel_rfl) (fun _ _ _ h => h) (by rfl) ?_ (by assumption) ?_; rotate_left; (intro _w; go_simp; try with_reducible rfl); simp only [Act.put, K.put3])
          (refine wpD_plain 5 (v := ?_) rfl (by kernel_rfl) (by kernel_rfl) (by kernel_rfl) (fun _ _ _ h => h) (by rfl) ?_ (by assumption) ?_; rotate_left; (intro _w; go_simp; try with_reducible rfl); simp only [Act.put, K.put3])
          (refine wpD_plain 8 (v := ?_) rfl (by kernel_rfl) (by kernel_rfl) (by kernel_rfl) (fun _ _ _ h => h) (by rfl) ?_ (by assumption) ?_; rotate_left; (intro _w; go_simp; try with_reducible rfl); simp only [Act.put, K.put3])
          (refine wpD_take 4 _ rfl (by kernel_rfl) (by kernel_rfl) (by kernel_rfl) (fun _ _ _ h => h) List.mem_cons_self (by rfl) (v := ?_) ?_ (by assumption) ?_; rotate_left; (intro _w _hw; go_simp; try with_reducible rfl); simp only [Act.put, K.put3])
          (refine wpD_plain 6 (v := ?_) rfl (by kernel_rfl) (by kernel_rfl) (by kernel_rfl) (fun _ _ _ h => h) (by rfl) ?_ (by assumption) ?_; rotate_left; (intro _w; go_simp; try with_reducible rfl); simp only [Act.put, K.put3])
          (refine wpD_take 7 _ rfl (by kernel_rfl) (by kernel_rfl) (by kernel_rfl) (fun _ _ _ h => h) (List.mem_cons_of_mem _ List.mem_cons_self) (by rfl) (exec_load _ _ rfl tg (to_ + j * 6) rfl _ _ rfl rfl infoTy) (by assumption) ?_; simp only [Act.put, K.put3])
          (refine wpD_take 9 _ rfl (by kernel_rfl) (by kernel_rfl) (by kernel_rfl) (fun _ _ _ h => h) (List.mem_cons_of_mem _ (List.mem_cons_of_mem _ List.mem_cons_self)) (by rfl) (v := ?_) ?_ (by assumption) ?_; rotate_left; (intro _w _hw; go_simp; try with_reducible rfl); simp only [Act.put, K.put3])
          clear hold
          refine wpD_only 10 [(4, fun w' => w'.cell? ⟨b, 0, none⟩ = some (.slice (some ⟨tg, to_, none⟩) TL tcq))] rfl (by kernel_rfl) (by kernel_rfl) (by rfl) (fun K10 hK10 => ?_)
          refine wp_call _ _ _ rfl 78 [] rfl (fun vs w => by kernel_rfl) [.agg (tyV t).toArray, u] (by rfl) ?_
          refine (checkValues_any t u at_.2 y4.drew (LsIn.fr (D := No) HU.out ((Fr.refl No y4).drew) (fun _ _ _ e => e)) (HG4.out.no ((Fr.refl No y4).drew))).mono ?_
          rintro e y5 ⟨rfl, f5⟩
          have HF5 : Hid (Fr No y4 y5) := hid ((Fr.refl No y4).drew.trans' f5)
          have d05 : y5.cell? ⟨b, 0, none⟩ = some (.slice (some ⟨tg, to_, none⟩) TL tcq) := f5.cell (show y4.drew.cell? _ = _ from d0) id
          refine ⟨_, rfl, hK10 _ _ (Facts.cons_hold d05 (Facts.nil_hold _)) ?_⟩
          clear hK10 K10 f5 d0 d1 cj
          simp only [Act.put, K.put3]
          have hold : Facts.hold [(4, fun w' => w'.cell? ⟨b, 0, none⟩ = some (.slice (some ⟨tg, to_, none⟩) TL tcq))] y5 := Facts.cons_hold d05 (Facts.nil_hold _)
          (refine wpD_plain 11 (v := ?_) rfl (by kernel_rfl) (by kernel_rfl) (by kernel_rfl) (fun _ _ _ h => h) (by rfl) ?_ (by assumption) ?_; rotate_left; (intro _w; go_simp; try with_reducible rfl); simp only [Act.put, K.put3])
          clear hold d05
          refine wpD_done (by kernel_rfl) ?_ _
          have HBr5 := hid (HBr4.out.fr HF5.out id)
          have HS5 := hid (HS4.out.no HF5.out)
          have HFR5 : Hid (Fr (fun k => k = b) wr y5) := hid (HFR4.out.trans' HF5.out.no)
          have HG5 := hid (HG4.out.no HF5.out)
          have HQ5 : Hid (w1.heap.size ≤ y5.heap.size) := hid (Nat.le_trans HQ4.out HF5.out.size)
          obtain ⟨E, hE⟩ : ∃ E, chkVals t at_.2 = E := ⟨_, rfl⟩
          rw [hE]
          have HE2 := hid hE
          clear hE
          by_cases h0 : E = 0
          · subst h0
            have HT4 : Hid (chkAts s (put f j) (en.drop (i + 1)) = RR) := hid (by have h := HT3.out; rw [if_pos HE2.out] at h; exact h)
            go_wp2_with (first
              | ((with_reducible refine K.atO (.store 4 _ _) ?_); refine wpL_setV rfl _ _ _ rfl r j (.bool true) rfl rfl rfl rfl 97 _ HBr5.out (by rw [bb_length]; exact HJ.out.2) infoBool ?_; intro y6 HB6 HF6 HS6; rw [bb_put] at HB6)
              | fail)
            refine ⟨⟨i + 1, put f j, by go_num, HLT.out, HB6, HT4, hid ⟨(HS5.out.set HF6.out).sx, (HI.out.2.1.trans' HFR5.out).trans HF6.out (fun k e => .inr (by have e : k = r := e; have := HR.out; omega)), HG5.out.put HF6.out HGL.out, Nat.le_trans HQ5.out HF6.out.size⟩⟩, ?_⟩
            have := HLT.out
            simp [intOf]; omega
          · obtain rfl : RR = (none_, E) := by have h := HT3.out; rw [if_neg (by rw [HE2.out]; exact h0), HE2.out] at h; exact h.symm
            have h0b : (E != 0) = true := by rw [bne_iff_ne]; exact h0
            clear h0
            go_wp2_with (first
              | ((with_reducible refine K.atO (.build 97 _) ?_); refine wpL_valZ rfl (.agg (bb none_ 40).toArray) (by kernel_rfl) ?_)
              | ((with_reducible refine K.atO (.store 97 _ _) ?_); refine wpL_store rfl _ _ _ rfl r 0 (bb none_ 40) rfl rfl 97 _ HBr5.out (by simp) (by rw [bb_length]; exact infoTs) (bb_one _ _) ?_; intro y6 HB6 HF6 HS6; rw [bb_spl] at HB6)
              | fail)
            refine ret_cell2 rfl _ rfl HB6.out rfl rfl (by rw [bb_length]; exact infoTs) rfl ?_
            exact ⟨rfl, (HS5.out.set HF6.out).back.sx, (HI.out.2.1.trans' HFR5.out).trans HF6.out (fun k e => .inr (by have e : k = r := e; have := HR.out; omega))⟩
    · obtain rfl : i = n := by omega
      obtain rfl : RR = (f, 0) := by
        have h := HT.out
        rw [← HNN.out, List.drop_length] at h
        exact h.symm
      have c0 : wr.rangeAt r 0 (bb f 40) := HB.out.range 0 _ (by rw [List.drop_zero, List.take_length])
      go_wp2_with (first
        | ((with_reducible refine K.atO (.load 97 _) ?_); refine wpL_load rfl _ _ rfl r 0 rfl (bb f 40) _ c0 rfl rfl (by rw [bb_length]; exact infoTs) ?_)
        | ((with_reducible refine K.atO (.store 97 _ _) ?_); refine wpL_store rfl _ _ _ rfl r 0 (bb f 40) rfl rfl 97 _ HB.out (by simp) (by rw [bb_length]; exact infoTs) (bb_one _ _) ?_; intro y5 HB5 HF5 HS5; rw [bb_spl] at HB5)
        | fail)
      refine ret_cell2 rfl _ rfl HB5.out rfl rfl (by rw [bb_length]; exact infoTs) rfl ?_
      exact ⟨rfl, (HI.out.1.fr HF5.out (fun k hk => .inl (.inr hk))).less (fun _ hk => .inl hk), HI.out.2.1.trans HF5.out (fun k e => .inr (by have e : k = r := e; have := HR.out; omega))⟩
end Go.Proofs.YtdkkpfeiaaffhaaGreatDoor.SC
