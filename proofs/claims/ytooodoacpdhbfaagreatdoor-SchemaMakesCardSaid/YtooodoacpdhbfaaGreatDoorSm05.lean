/-
  Part 5 of the proof: ScA, ScRow, DnW, DnSh, DnL.
-/
import Derived.Shelf.Strconv.ErrVarAll
import Derived.Shelf.Strconv.Itoa3
import Derived.Lib.LaidTab
import Derived.Test.YtooodoacpdhbfaaGreatDoorChecked
import Derived.Test.YtooodoacpdhbfaaGreatDoorSm04
import Derived.Test.YtooodoacpdhbfaaGreatDoorSm03
import Derived.Lib.FieldsP
import Derived.Laws.RangeAny
import Derived.Lib.SpaceUEq
import Derived.Lib.Join
import Derived.Shelf.Strings.Builder1
import Derived.Shelf.Strings.OnBuilder
import Derived.Shelf.Strings.FieldsFuncAny
import Derived.Test.YtooodoacpdhbfaaGreatDoorSm02
set_option linter.unusedSimpArgs false
set_option linter.unusedVariables false
namespace Go.Proofs.YtooodoacpdhbfaaGreatDoor.SC
set_option maxRecDepth 100000
open Go.Shelf Go.RowKit K Go.Proofs.YtooodoacpdhbfaaGreatDoor.BE Go.Proofs.YtooodoacpdhbfaaGreatDoor.DN

def laysC172_ren : Go.Shelf.Ren := ⟨fun | 172 => 95 | 244 => 133 | 245 => 134 | 247 => 155 | 279 => 156 | 280 => 157 | 281 => 158 | 282 => 159 | 287 => 173 | 316 => 174 | 171 => 96 | 205 => 175 | 321 => 194 | 322 => 195 | 243 => 135 | 246 => 160 | 283 => 176 | 284 => 177 | 285 => 178 | 286 => 179 | 129 => 197 | 317 => 196 | 318 => 198 | 319 => 199 | 320 => 200 | 337 => 211 | 338 => 212 | n => n, fun | 9 => 9 | 3 => 3 | 75 => 133 | 76 => 134 | 4 => 4 | 5 => 5 | 167 => 202 | 37 => 120 | 0 => 0 | 85 => 203 | 2 => 2 | 168 => 205 | 53 => 213 | 175 => 214 | 46 => 209 | 210 => 223 | 127 => 167 | 145 => 241 | 143 => 239 | 21 => 21 | 171 => 225 | 173 => 228 | 212 => 243 | 51 => 85 | 20 => 20 | 213 => 244 | 232 => 252 | 233 => 253 | 80 => 137 | n => n, fun | 15 => 1 | 16 => 2 | 17 => 3 | 18 => 4 | 19 => 5 | n => n⟩
theorem laysC172 : Go.Proofs.LaysC.n172 Tryz.prog laysC172_ren := {
  mixed := by kernel_rfl
  f129 := Tryz.func197.trans (congrArg some (by kernel_rfl))
  f171 := Tryz.func96.trans (congrArg some (by kernel_rfl))
  f172 := Tryz.func95.trans (congrArg some (by kernel_rfl))
  f205 := Tryz.func175.trans (congrArg some (by kernel_rfl))
  f243 := Tryz.func135.trans (congrArg some (by kernel_rfl))
  f244 := Tryz.func133.trans (congrArg some (by kernel_rfl))
  f245 := Tryz.func134.trans (congrArg some (by kernel_rfl))
  f246 := Tryz.func160.trans (congrArg some (by kernel_rfl))
  f247 := Tryz.func155.trans (congrArg some (by kernel_rfl))
  f279 := Tryz.func156.trans (congrArg some (by kernel_rfl))
  f280 := Tryz.func157.trans (congrArg some (by kernel_rfl))
  f281 := Tryz.func158.trans (congrArg some (by kernel_rfl))
  f282 := Tryz.func159.trans (congrArg some (by kernel_rfl))
  f283 := Tryz.func176.trans (congrArg some (by kernel_rfl))
  f284 := Tryz.func177.trans (congrArg some (by kernel_rfl))
  f285 := Tryz.func178.trans (congrArg some (by kernel_rfl))
  f286 := Tryz.func179.trans (congrArg some (by kernel_rfl))
  f287 := Tryz.func173.trans (congrArg some (by kernel_rfl))
  f316 := Tryz.func174.trans (congrArg some (by kernel_rfl))
  f317 := Tryz.func196.trans (congrArg some (by kernel_rfl))
  f318 := Tryz.func198.trans (congrArg some (by kernel_rfl))
  f319 := Tryz.func199.trans (congrArg some (by kernel_rfl))
  f320 := Tryz.func200.trans (congrArg some (by kernel_rfl))
  f321 := Tryz.func194.trans (congrArg some (by kernel_rfl))
  f322 := Tryz.func195.trans (congrArg some (by kernel_rfl))
  f337 := Tryz.func211.trans (congrArg some (by kernel_rfl))
  f338 := Tryz.func212.trans (congrArg some (by kernel_rfl))
  t0 := Tryz.underlying0
  a0 := Tryz.isAgg0
  z0 := Tryz.sizeOf0
  v0 := Tryz.zeroValue0
  t2 := Tryz.underlying2
  a2 := Tryz.isAgg2
  z2 := Tryz.sizeOf2
  v2 := Tryz.zeroValue2
  t3 := Tryz.underlying3
  a3 := Tryz.isAgg3
  z3 := Tryz.sizeOf3
  v3 := Tryz.zeroValue3
  t4 := Tryz.underlying4
  a4 := Tryz.isAgg4
  z4 := Tryz.sizeOf4
  v4 := Tryz.zeroValue4
  t5 := Tryz.underlying5
  a5 := Tryz.isAgg5
  z5 := Tryz.sizeOf5
  v5 := Tryz.zeroValue5
  t9 := Tryz.underlying9
  a9 := Tryz.isAgg9
  z9 := Tryz.sizeOf9
  v9 := Tryz.zeroValue9
  t20 := Tryz.underlying20
  a20 := Tryz.isAgg20
  z20 := Tryz.sizeOf20
  v20 := Tryz.zeroValue20
  t21 := Tryz.underlying21
  a21 := Tryz.isAgg21
  z21 := Tryz.sizeOf21
  v21 := Tryz.zeroValue21
  t37 := Tryz.underlying120
  a37 := Tryz.isAgg120
  z37 := Tryz.sizeOf120
  v37 := Tryz.zeroValue120
  t46 := Tryz.underlying209
  a46 := Tryz.isAgg209
  z46 := Tryz.sizeOf209
  v46 := Tryz.zeroValue209
  t51 := Tryz.underlying85
  a51 := Tryz.isAgg85
  z51 := Tryz.sizeOf85
  v51 := Tryz.zeroValue85
  t53 := Tryz.underlying213
  a53 := Tryz.isAgg213
  z53 := Tryz.sizeOf213
  v53 := Tryz.zeroValue213
  t75 := Tryz.underlying133
  a75 := Tryz.isAgg133
  z75 := Tryz.sizeOf133
  v75 := Tryz.zeroValue133
  t76 := Tryz.underlying134
  a76 := Tryz.isAgg134
  z76 := Tryz.sizeOf134
  v76 := Tryz.zeroValue134
  t85 := Tryz.underlying203
  a85 := Tryz.isAgg203
  z85 := Tryz.sizeOf203
  v85 := Tryz.zeroValue203
  t127 := Tryz.underlying167
  a127 := Tryz.isAgg167
  z127 := Tryz.sizeOf167
  v127 := Tryz.zeroValue167
  t143 := Tryz.underlying239
  a143 := Tryz.isAgg239
  z143 := Tryz.sizeOf239
  v143 := Tryz.zeroValue239
  t145 := Tryz.underlying241
  a145 := Tryz.isAgg241
  z145 := Tryz.sizeOf241
  v145 := Tryz.zeroValue241
  t167 := Tryz.underlying202
  a167 := Tryz.isAgg202
  z167 := Tryz.sizeOf202
  v167 := Tryz.zeroValue202
  t168 := Tryz.underlying205
  a168 := Tryz.isAgg205
  z168 := Tryz.sizeOf205
  v168 := Tryz.zeroValue205
  t171 := Tryz.underlying225
  a171 := Tryz.isAgg225
  z171 := Tryz.sizeOf225
  v171 := Tryz.zeroValue225
  t173 := Tryz.underlying228
  a173 := Tryz.isAgg228
  z173 := Tryz.sizeOf228
  v173 := Tryz.zeroValue228
  t175 := Tryz.underlying214
  a175 := Tryz.isAgg214
  z175 := Tryz.sizeOf214
  v175 := Tryz.zeroValue214
  t210 := Tryz.underlying223
  a210 := Tryz.isAgg223
  z210 := Tryz.sizeOf223
  v210 := Tryz.zeroValue223
  t212 := Tryz.underlying243
  a212 := Tryz.isAgg243
  z212 := Tryz.sizeOf243
  v212 := Tryz.zeroValue243
  t213 := Tryz.underlying244
  a213 := Tryz.isAgg244
  z213 := Tryz.sizeOf244
  t232 := Tryz.underlying252
  a232 := Tryz.isAgg252
  z232 := Tryz.sizeOf252
  v232 := Tryz.zeroValue252
  t233 := Tryz.underlying253
  a233 := Tryz.isAgg253
  z233 := Tryz.sizeOf253
  v233 := Tryz.zeroValue253
  g15 := by kernel_rfl
  g16 := by kernel_rfl
  g17 := by kernel_rfl
  g18 := by kernel_rfl
  g19 := by kernel_rfl
  t80 := Tryz.underlying137
  a80 := Tryz.isAgg137
  z80 := Tryz.sizeOf137
  v80 := Tryz.zeroValue137
  i0 := by kernel_rfl
  i2 := by kernel_rfl
  i3 := by kernel_rfl
  i4 := by kernel_rfl
  i5 := by kernel_rfl
  i9 := by kernel_rfl
  i20 := by kernel_rfl
  i21 := by kernel_rfl
  i37 := by kernel_rfl
  i46 := by kernel_rfl
  i51 := by kernel_rfl
  i53 := by kernel_rfl
  i75 := by kernel_rfl
  i76 := by kernel_rfl
  i80 := by kernel_rfl
  i85 := by kernel_rfl
  i127 := by kernel_rfl
  i143 := by kernel_rfl
  i145 := by kernel_rfl
  i167 := by kernel_rfl
  i168 := by kernel_rfl
  i171 := by kernel_rfl
  i173 := by kernel_rfl
  i175 := by kernel_rfl
  i210 := by kernel_rfl
  i212 := by kernel_rfl
  i232 := by kernel_rfl
  i233 := by kernel_rfl
  m15 := by kernel_rfl
  m16 := by kernel_rfl
  m17 := by kernel_rfl
  m18 := by kernel_rfl
  m19 := by kernel_rfl
  c0 := by kernel_rfl
  c2 := by kernel_rfl
  c3 := by kernel_rfl
  c4 := by kernel_rfl
  c5 := by kernel_rfl
  c9 := by kernel_rfl
  c20 := by kernel_rfl
  c21 := by kernel_rfl
  c37 := by kernel_rfl
  c46 := by kernel_rfl
  c51 := by kernel_rfl
  c53 := by kernel_rfl
  c75 := by kernel_rfl
  c76 := by kernel_rfl
  c80 := by kernel_rfl
  c85 := by kernel_rfl
  c127 := by kernel_rfl
  c143 := by kernel_rfl
  c145 := by kernel_rfl
  c167 := by kernel_rfl
  c168 := by kernel_rfl
  c171 := by kernel_rfl
  c173 := by kernel_rfl
  c175 := by kernel_rfl
  c210 := by kernel_rfl
  c212 := by kernel_rfl
  c213 := by kernel_rfl
  c232 := by kernel_rfl
  c233 := by kernel_rfl }
def laysM171_ren : Go.Shelf.Ren := ⟨fun | 171 => 96 | 243 => 135 | 246 => 160 | 283 => 176 | 284 => 177 | 285 => 178 | 286 => 179 | 129 => 197 | 317 => 196 | 318 => 198 | 319 => 199 | 320 => 200 | 337 => 211 | 338 => 212 | n => n, fun | 3 => 3 | 9 => 9 | 2 => 2 | 4 => 4 | 171 => 225 | 0 => 0 | 53 => 213 | 37 => 120 | 5 => 5 | 173 => 228 | 212 => 243 | 51 => 85 | 20 => 20 | 213 => 244 | 46 => 209 | 232 => 252 | 233 => 253 | n => n, fun | 17 => 3 | 18 => 4 | 19 => 5 | n => n⟩
theorem laysM171 : Go.Proofs.LaysM.n171 Tryz.prog laysM171_ren := {
  mixed := by kernel_rfl
  f129 := Tryz.func197.trans (congrArg some (by kernel_rfl))
  f171 := Tryz.func96.trans (congrArg some (by kernel_rfl))
  f243 := Tryz.func135.trans (congrArg some (by kernel_rfl))
  f246 := Tryz.func160.trans (congrArg some (by kernel_rfl))
  f283 := Tryz.func176.trans (congrArg some (by kernel_rfl))
  f284 := Tryz.func177.trans (congrArg some (by kernel_rfl))
  f285 := Tryz.func178.trans (congrArg some (by kernel_rfl))
  f286 := Tryz.func179.trans (congrArg some (by kernel_rfl))
  f317 := Tryz.func196.trans (congrArg some (by kernel_rfl))
  f318 := Tryz.func198.trans (congrArg some (by kernel_rfl))
  f319 := Tryz.func199.trans (congrArg some (by kernel_rfl))
  f320 := Tryz.func200.trans (congrArg some (by kernel_rfl))
  f337 := Tryz.func211.trans (congrArg some (by kernel_rfl))
  f338 := Tryz.func212.trans (congrArg some (by kernel_rfl))
  t0 := Tryz.underlying0
  a0 := Tryz.isAgg0
  z0 := Tryz.sizeOf0
  v0 := Tryz.zeroValue0
  t2 := Tryz.underlying2
  a2 := Tryz.isAgg2
  z2 := Tryz.sizeOf2
  v2 := Tryz.zeroValue2
  t3 := Tryz.underlying3
  a3 := Tryz.isAgg3
  z3 := Tryz.sizeOf3
  v3 := Tryz.zeroValue3
  t4 := Tryz.underlying4
  a4 := Tryz.isAgg4
  z4 := Tryz.sizeOf4
  v4 := Tryz.zeroValue4
  t5 := Tryz.underlying5
  a5 := Tryz.isAgg5
  z5 := Tryz.sizeOf5
  v5 := Tryz.zeroValue5
  t9 := Tryz.underlying9
  a9 := Tryz.isAgg9
  z9 := Tryz.sizeOf9
  v9 := Tryz.zeroValue9
  t20 := Tryz.underlying20
  a20 := Tryz.isAgg20
  z20 := Tryz.sizeOf20
  v20 := Tryz.zeroValue20
  t37 := Tryz.underlying120
  a37 := Tryz.isAgg120
  z37 := Tryz.sizeOf120
  v37 := Tryz.zeroValue120
  t46 := Tryz.underlying209
  a46 := Tryz.isAgg209
  z46 := Tryz.sizeOf209
  v46 := Tryz.zeroValue209
  t51 := Tryz.underlying85
  a51 := Tryz.isAgg85
  z51 := Tryz.sizeOf85
  v51 := Tryz.zeroValue85
  t53 := Tryz.underlying213
  a53 := Tryz.isAgg213
  z53 := Tryz.sizeOf213
  v53 := Tryz.zeroValue213
  t171 := Tryz.underlying225
  a171 := Tryz.isAgg225
  z171 := Tryz.sizeOf225
  v171 := Tryz.zeroValue225
  t173 := Tryz.underlying228
  a173 := Tryz.isAgg228
  z173 := Tryz.sizeOf228
  v173 := Tryz.zeroValue228
  t212 := Tryz.underlying243
  a212 := Tryz.isAgg243
  z212 := Tryz.sizeOf243
  v212 := Tryz.zeroValue243
  t213 := Tryz.underlying244
  a213 := Tryz.isAgg244
  z213 := Tryz.sizeOf244
  t232 := Tryz.underlying252
  a232 := Tryz.isAgg252
  z232 := Tryz.sizeOf252
  v232 := Tryz.zeroValue252
  t233 := Tryz.underlying253
  a233 := Tryz.isAgg253
  z233 := Tryz.sizeOf253
  v233 := Tryz.zeroValue253
  g17 := by kernel_rfl
  g18 := by kernel_rfl
  g19 := by kernel_rfl
  i0 := by kernel_rfl
  i2 := by kernel_rfl
  i3 := by kernel_rfl
  i4 := by kernel_rfl
  i5 := by kernel_rfl
  i9 := by kernel_rfl
  i20 := by kernel_rfl
  i37 := by kernel_rfl
  i46 := by kernel_rfl
  i51 := by kernel_rfl
  i53 := by kernel_rfl
  i171 := by kernel_rfl
  i173 := by kernel_rfl
  i212 := by kernel_rfl
  i232 := by kernel_rfl
  i233 := by kernel_rfl
  m17 := by kernel_rfl
  m18 := by kernel_rfl
  m19 := by kernel_rfl }
/-! ### What the library's variables hold -/
def Gs (w : World) : Prop := Gl w ∧ (∃ t u, w.cell? ⟨2, 0, none⟩ = some (.iface t u)) ∧ Lib.TabIs Tryz.prog w "internal/strconv.uint64pow10" .u64 Lib.pow10Tab
def GX (X : Nat → Prop) : Prop := X 1 ∧ X 2 ∧ X 3
theorem gTab : Tryz.prog.globalNamed "internal/strconv.uint64pow10" = some 3 := by kernel_rfl
theorem Gs.fr {D : Nat → Prop} {w w' : World} (h : Gs w) (hf : Fr D w w') (h1 : ¬ D 1) (h2 : ¬ D 2) (h3 : ¬ D 3) : Gs w' := by
  obtain ⟨a, ⟨t, u, b⟩, c⟩ := h
  refine ⟨a.fr hf h1, ⟨t, u, hf.cell b h2⟩, ?_⟩
  unfold Lib.TabIs World.var? at *
  simp only [gTab, Option.bind_some] at c ⊢
  have hlt : 3 < w.heap.size := by
    rcases Nat.lt_or_ge 3 w.heap.size with h' | h'
    · exact h'
    · rw [Array.getElem?_eq_none h'] at c; simp at c
  rw [hf.block _ hlt h3]
  exact c
theorem Gs.no {w w' : World} (h : Gs w) (hf : Fr No w w') : Gs w' := h.fr hf id id id
theorem Gs.bb {X : Nat → Prop} {w w' : World} {b : Nat} (h : Gs w) (hf : Fr (fun k => k = b) w w') (hx : GX X) (hb : ¬ X b) : Gs w' :=
  h.fr hf (fun e => hb (by have e : 1 = b := e; rw [← e]; exact hx.1)) (fun e => hb (by have e : 2 = b := e; rw [← e]; exact hx.2.1)) (fun e => hb (by have e : 3 = b := e; rw [← e]; exact hx.2.2))
theorem Gs.gx {w : World} (h : Gs w) : GX (fun k => k < w.heap.size) := by
  obtain ⟨a, ⟨t, u, b⟩, c⟩ := h
  refine ⟨a.lt, World.block_lt_of_cell? w _ b, ?_⟩
  unfold Lib.TabIs World.var? at c
  simp only [gTab, Option.bind_some] at c
  rcases Nat.lt_or_ge 3 w.heap.size with h' | h'
  · exact h'
  · rw [Array.getElem?_eq_none h'] at c; simp at c
/-! ### Atoi, Itoa -/
theorem below_fr0 {w w' : World} (h : Go.RowKit.Below w.heap.size w w') : Fr No w w' := ⟨h.os, h.tape, h.output, h.size, fun k hk _ => h.block k hk⟩
theorem atoi_ok (v : B) (hz : Sz v) (m : Int) (h : Lib.atoiAll v = .ok m) (w : World) : Calls Tryz.prog 95 #[.string (sb v)] w fun e w' => e = .returned (.tuple #[.int .i64 m, .nilIface]) ∧ Fr No w w' := by
  have h1 : (sb v).size = v.length := sb_size v
  refine (Any.strconv_Atoi_ok laysC172 (sb v) (by rw [h1]; unfold Sz at hz; omega) m (by rw [sb_list]; exact h) w).mono ?_
  rintro e w' ⟨rfl, rfl | ⟨t, rfl⟩⟩
  · exact ⟨rfl, Fr.refl _ _⟩
  · exact ⟨rfl, below_fr0 (Lib.bytesWorld_below w _ t)⟩
theorem atoi_bad (v : B) (hz : Sz v) (h : ∀ m, Lib.atoiAll v ≠ .ok m) (w : World) (hG : Gs w) : Calls Tryz.prog 95 #[.string (sb v)] w fun e w' => (∃ m t u, e = .returned (.tuple #[.int .i64 m, .iface t u])) ∧ Fr No w w' := by
  have h1 : (sb v).size = v.length := sb_size v
  have h2 : (sb v).data.toList = v := sb_list v
  obtain ⟨⟨t1, u1, a⟩, ⟨t, u, b⟩, c⟩ := hG
  rcases he : Lib.atoiAll v with m | - | -
  · exact absurd he (h m)
  · refine (Any.strconv_Atoi_syntax laysC172 (sb v) (by rw [h1]; unfold Sz at hz; omega) (by rw [h2]; exact he) _ w a (.inr ⟨_, _, rfl⟩)).mono ?_
    rintro e w' ⟨N, rfl, -, -, hb⟩
    exact ⟨⟨_, _, _, rfl⟩, below_fr0 hb⟩
  · refine (Any.strconv_Atoi_range laysC172 (sb v) (by rw [h1]; unfold Sz at hz; omega) (by rw [h2]; exact he) _ w b (.inr ⟨_, _, rfl⟩)).mono ?_
    rintro e w' ⟨N, rfl, -, -, hb⟩
    exact ⟨⟨_, _, _, rfl⟩, below_fr0 hb⟩
theorem grow_fr (w : World) (n : Nat) (os : Array Obj) : Fr No w (Go.Sort.grow (w.drewN n) os) :=
  ⟨rfl, rfl, rfl, by show w.heap.size ≤ (w.heap ++ os).size; simp, fun k hk _ => by show (w.heap ++ os)[k]? = _; rw [Array.getElem?_append_left hk]⟩
theorem itoa_any (m : Int) (h0 : -9223372036854775808 ≤ m) (h1 : m ≤ 9223372036854775807) (w : World) (hG : Gs w) : Calls Tryz.prog 96 #[.int .i64 m] w fun e w' => e = .returned (.string (sb (Lib.itoa m))) ∧ Fr No w w' := by
  refine (Any.strconv_Itoa laysM171 m h0 h1 w hG.2.2).mono ?_
  rintro e w' ⟨rfl, k, os, rfl⟩
  exact ⟨rfl, grow_fr w k os⟩
end Go.Proofs.YtooodoacpdhbfaaGreatDoor.SC

namespace Go.Proofs.YtooodoacpdhbfaaGreatDoor.SC
set_option maxRecDepth 100000
open Go.ChangeShapes Go.WideShapes Go.ChangeAt Go.RowKit K Go.Proofs.YtooodoacpdhbfaaGreatDoor.BE Go.Proofs.YtooodoacpdhbfaaGreatDoor.DN

theorem _root_.Go.Proofs.YtooodoacpdhbfaaGreatDoor.DN.ReadsB.int {k fuel : Nat} {w : World} {t : TypeId} {i : IntKind} {cs : List Value} (hu : Tryz.prog.underlying t = some (.int i)) (h : ReadsB k fuel w t cs) : ∃ n, cs = [.int i n] := by
  obtain ⟨H, enc, x, h1, -, -⟩ := h
  obtain ⟨n, r1, -, -⟩ := DataW.trod_int hu h1
  exact ⟨n, r1⟩
theorem _root_.Go.Proofs.YtooodoacpdhbfaaGreatDoor.DN.ReadsB.bool {k fuel : Nat} {w : World} {t : TypeId} {cs : List Value} (hu : Tryz.prog.underlying t = some .bool) (h : ReadsB k fuel w t cs) : ∃ b, cs = [.bool b] := by
  obtain ⟨H, enc, x, h1, -, -⟩ := h
  obtain ⟨n, r1, -⟩ := DataW.trod_bool hu h1
  exact ⟨n, r1⟩
theorem _root_.Go.Proofs.YtooodoacpdhbfaaGreatDoor.DN.ReadsB.len {k fuel : Nat} {w : World} {t e : TypeId} {a : Option Addr} {n c : Nat} (hu : Tryz.prog.underlying t = some (.slice e)) (h : ReadsB k fuel w t [.slice a n c]) : n * Tryz.prog.bytesOf e ≤ reachBytes := by
  rcases h.slice hu with e1 | ⟨a1, len, cap, f1, -, e1, -, h2, -⟩
  · simp only [List.cons.injEq, Value.slice.injEq, and_true] at e1
    rw [e1.2.1, Nat.zero_mul]
    exact Nat.zero_le _
  · simp only [List.cons.injEq, Value.slice.injEq, and_true] at e1
    rw [e1.2.1]
    exact h2
def LsB (k : Nat) (l : List B) : Prop := l.length ≤ k ∧ ∀ x ∈ l, x.length ≤ k
def TyB (k : Nat) (t : Ty) : Prop := t.nm.length ≤ k
def ClB (k : Nat) (c : Cl) : Prop := c.nm.length ≤ k ∧ c.sup.length ≤ k ∧ LsB k c.must ∧ LsB k c.may
def SchB (k : Nat) (s : Sch) : Prop := (s.tys.length ≤ k ∧ ∀ t ∈ s.tys, TyB k t) ∧ s.cls.length ≤ k ∧ ∀ c ∈ s.cls, ClB k c
def EnB (k : Nat) (en : Ent) : Prop := en.length ≤ k ∧ ∀ a ∈ en, a.1.length ≤ k ∧ LsB k a.2
theorem cTy : Tryz.prog.cellsOf 39 = 6 := by kernel_rfl
theorem cCl : Tryz.prog.cellsOf 44 = 5 := by kernel_rfl
theorem cSc : Tryz.prog.cellsOf 33 = 2 := by kernel_rfl
theorem cAt : Tryz.prog.cellsOf 64 = 2 := by kernel_rfl
theorem cLs : Tryz.prog.cellsOf 42 = 1 := by kernel_rfl
theorem cTys : Tryz.prog.cellsOf 30 = 1 := by kernel_rfl
theorem cCls : Tryz.prog.cellsOf 31 = 1 := by kernel_rfl
theorem cBo : Tryz.prog.cellsOf 4 = 1 := by kernel_rfl
theorem cIn : Tryz.prog.cellsOf 3 = 1 := by kernel_rfl
theorem bS : Tryz.prog.bytesOf 9 = 16 := by kernel_rfl
theorem bTy : 1 ≤ Tryz.prog.bytesOf 39 := by rw [show Tryz.prog.bytesOf 39 = 32 by kernel_rfl]; decide
theorem bCl : 1 ≤ Tryz.prog.bytesOf 44 := by rw [show Tryz.prog.bytesOf 44 = 88 by kernel_rfl]; decide
theorem bAt : 1 ≤ Tryz.prog.bytesOf 64 := by rw [show Tryz.prog.bytesOf 64 = 40 by kernel_rfl]; decide
theorem ls_b {k f : Nat} {w : World} {cs : List Value} (h : ReadsB k f w 42 cs) : ∃ v l, cs = [v] ∧ LsIn (fun i => i < w.heap.size) w v l ∧ LsB k l ∧ l.length * 16 ≤ 140737488351232 := by
  obtain ⟨v, xs, e, h1, h2, h3⟩ := h.rows (p := StC) (q := fun x => x.length ≤ k) Tryz.underlying42 cS (by decide) (by rw [bS]; decide) (fun f1 cs' _ hr => by
    obtain ⟨l, e, h1, h2⟩ := hr.string Tryz.underlying9
    exact ⟨l, ⟨e, h1⟩, h2⟩)
  refine ⟨v, xs, e, h1, ⟨h2, h3⟩, ?_⟩
  obtain ⟨a, cap, rfl, -, -⟩ := Sl.form h1
  subst e
  have := h.len Tryz.underlying42
  rw [bS] at this
  exact this
theorem ty_b {k f : Nat} {w : World} {cs : List Value} (h : ReadsB k f w 39 cs) : ∃ t, TyC t cs ∧ TyB k t := by
  obtain ⟨f1, rfl, hl, hf⟩ := h.struct Tryz.underlying39
  rw [cTy] at hl
  obtain ⟨c0, c1, c2, c3, c4, c5, rfl⟩ : ∃ c0 c1 c2 c3 c4 c5, cs = [c0, c1, c2, c3, c4, c5] := by
    match cs, hl with
    | [c0, c1, c2, c3, c4, c5], _ => exact ⟨c0, c1, c2, c3, c4, c5, rfl⟩
  have k0 : ReadsB k f1 w 9 (([c0, c1, c2, c3, c4, c5].drop 0).take (Tryz.prog.cellsOf 9)) := hf 0 _ rfl
  rw [cS] at k0
  have k1 : ReadsB k f1 w 3 (([c0, c1, c2, c3, c4, c5].drop 1).take (Tryz.prog.cellsOf 3)) := hf 1 _ rfl
  rw [cIn] at k1
  have k2 : ReadsB k f1 w 4 (([c0, c1, c2, c3, c4, c5].drop 2).take (Tryz.prog.cellsOf 4)) := hf 2 _ rfl
  rw [cBo] at k2
  have k3 : ReadsB k f1 w 4 (([c0, c1, c2, c3, c4, c5].drop 3).take (Tryz.prog.cellsOf 4)) := hf 3 _ rfl
  rw [cBo] at k3
  have k4 : ReadsB k f1 w 4 (([c0, c1, c2, c3, c4, c5].drop 4).take (Tryz.prog.cellsOf 4)) := hf 4 _ rfl
  rw [cBo] at k4
  have k5 : ReadsB k f1 w 4 (([c0, c1, c2, c3, c4, c5].drop 5).take (Tryz.prog.cellsOf 4)) := hf 5 _ rfl
  rw [cBo] at k5
  obtain ⟨n, e0, g0, b0⟩ := k0.string Tryz.underlying9
  obtain ⟨s, e1⟩ := k1.int Tryz.underlying3
  obtain ⟨x2, e2⟩ := k2.bool Tryz.underlying4
  obtain ⟨x3, e3⟩ := k3.bool Tryz.underlying4
  obtain ⟨x4, e4⟩ := k4.bool Tryz.underlying4
  obtain ⟨x5, e5⟩ := k5.bool Tryz.underlying4
  simp only [List.drop_zero, List.drop_succ_cons, List.take_succ_cons, List.take_zero, List.cons.injEq, and_true] at e0 e1 e2 e3 e4 e5
  subst e0 e1 e2 e3 e4 e5
  exact ⟨⟨n, s, x2, x3, x4, x5⟩, ⟨rfl, g0⟩, b0⟩
theorem cl_b {k f : Nat} {w : World} {cs : List Value} (h : ReadsB k f w 44 cs) : ∃ c, ClC (fun i => i < w.heap.size) w c cs ∧ ClB k c := by
  obtain ⟨f1, rfl, hl, hf⟩ := h.struct Tryz.underlying44
  rw [cCl] at hl
  obtain ⟨c0, c1, c2, c3, c4, rfl⟩ : ∃ c0 c1 c2 c3 c4, cs = [c0, c1, c2, c3, c4] := by
    match cs, hl with
    | [c0, c1, c2, c3, c4], _ => exact ⟨c0, c1, c2, c3, c4, rfl⟩
  have k0 : ReadsB k f1 w 9 (([c0, c1, c2, c3, c4].drop 0).take (Tryz.prog.cellsOf 9)) := hf 0 _ rfl
  rw [cS] at k0
  have k1 : ReadsB k f1 w 3 (([c0, c1, c2, c3, c4].drop 1).take (Tryz.prog.cellsOf 3)) := hf 1 _ rfl
  rw [cIn] at k1
  have k2 : ReadsB k f1 w 9 (([c0, c1, c2, c3, c4].drop 2).take (Tryz.prog.cellsOf 9)) := hf 2 _ rfl
  rw [cS] at k2
  have k3 : ReadsB k f1 w 42 (([c0, c1, c2, c3, c4].drop 3).take (Tryz.prog.cellsOf 42)) := hf 3 _ rfl
  rw [cLs] at k3
  have k4 : ReadsB k f1 w 42 (([c0, c1, c2, c3, c4].drop 4).take (Tryz.prog.cellsOf 42)) := hf 4 _ rfl
  rw [cLs] at k4
  obtain ⟨n, e0, g0, b0⟩ := k0.string Tryz.underlying9
  obtain ⟨s, e1⟩ := k1.int Tryz.underlying3
  obtain ⟨u, e2, g2, b2⟩ := k2.string Tryz.underlying9
  obtain ⟨v3, l3, e3, g3, b3, n3⟩ := ls_b k3
  obtain ⟨v4, l4, e4, g4, b4, n4⟩ := ls_b k4
  simp only [List.drop_zero, List.drop_succ_cons, List.take_succ_cons, List.take_zero, List.cons.injEq, and_true] at e0 e1 e2 e3 e4
  subst e0 e1 e2 e3 e4
  exact ⟨⟨n, s, u, l3, l4⟩, ⟨c3, c4, rfl, g0, g2, g3, g4, n3, n4⟩, b0, b2, b3, b4⟩
theorem at_b {k f : Nat} {w : World} {cs : List Value} (h : ReadsB k f w 64 cs) : ∃ a : Atr, AtC (fun i => i < w.heap.size) w a cs ∧ a.1.length ≤ k ∧ LsB k a.2 := by
  obtain ⟨f1, rfl, hl, hf⟩ := h.struct Tryz.underlying64
  rw [cAt] at hl
  obtain ⟨c0, c1, rfl⟩ : ∃ c0 c1, cs = [c0, c1] := by
    match cs, hl with
    | [c0, c1], _ => exact ⟨c0, c1, rfl⟩
  have k0 : ReadsB k f1 w 9 (([c0, c1].drop 0).take (Tryz.prog.cellsOf 9)) := hf 0 _ rfl
  rw [cS] at k0
  have k1 : ReadsB k f1 w 42 (([c0, c1].drop 1).take (Tryz.prog.cellsOf 42)) := hf 1 _ rfl
  rw [cLs] at k1
  obtain ⟨n, e0, g0, b0⟩ := k0.string Tryz.underlying9
  obtain ⟨v1, l1, e1, g1, b1, -⟩ := ls_b k1
  simp only [List.drop_zero, List.drop_succ_cons, List.take_succ_cons, List.take_zero, List.cons.injEq, and_true] at e0 e1
  subst e0 e1
  exact ⟨(n, l1), ⟨c1, rfl, g0, g1⟩, b0, b1⟩
theorem en_b {k f : Nat} {w : World} {cs : List Value} (h : ReadsB k f w 56 cs) : ∃ v en, cs = [v] ∧ EnIn (fun i => i < w.heap.size) w v en ∧ EnB k en ∧ en.length * 40 ≤ 140737488351232 := by
  obtain ⟨v, xs, e, h1, h2, h3⟩ := h.rows (p := AtC (fun i => i < w.heap.size) w) (q := fun a : Atr => a.1.length ≤ k ∧ LsB k a.2) Tryz.underlying56 cAt (by decide) bAt (fun f1 cs' _ hr => at_b hr)
  refine ⟨v, xs, e, h1, ⟨h2, h3⟩, ?_⟩
  obtain ⟨a, cap, rfl, -, -⟩ := Sl.form h1
  subst e
  have := h.len Tryz.underlying56
  rw [show Tryz.prog.bytesOf 64 = 40 by kernel_rfl] at this
  exact this
theorem sch_b {k f : Nat} {w : World} {cs : List Value} (h : ReadsB k f w 33 cs) : ∃ vt vc s, cs = [vt, vc] ∧ TysIn (fun i => i < w.heap.size) w vt s.tys ∧ ClsIn (fun i => i < w.heap.size) w vc s.cls ∧ SchB k s := by
  obtain ⟨f1, rfl, hl, hf⟩ := h.struct Tryz.underlying33
  rw [cSc] at hl
  obtain ⟨c0, c1, rfl⟩ : ∃ c0 c1, cs = [c0, c1] := by
    match cs, hl with
    | [c0, c1], _ => exact ⟨c0, c1, rfl⟩
  have k0 : ReadsB k f1 w 30 (([c0, c1].drop 0).take (Tryz.prog.cellsOf 30)) := hf 0 _ rfl
  rw [cTys] at k0
  have k1 : ReadsB k f1 w 31 (([c0, c1].drop 1).take (Tryz.prog.cellsOf 31)) := hf 1 _ rfl
  rw [cCls] at k1
  obtain ⟨v0, l0, e0, g0, b0, d0⟩ := k0.rows (p := TyC) (q := TyB k) Tryz.underlying30 cTy (by decide) bTy (fun f1 cs' _ hr => ty_b hr)
  obtain ⟨v1, l1, e1, g1, b1, d1⟩ := k1.rows (p := ClC (fun i => i < w.heap.size) w) (q := ClB k) Tryz.underlying31 cCl (by decide) bCl (fun f1 cs' _ hr => cl_b hr)
  simp only [List.drop_zero, List.drop_succ_cons, List.take_succ_cons, List.take_zero, List.cons.injEq, and_true] at e0 e1
  subst e0 e1
  exact ⟨c0, c1, ⟨l0, l1⟩, rfl, g0, g1, ⟨b0, d0⟩, b1, d1⟩
section
variable {H : Type} {enc : TypeId × Value → H} {W W' : World} {v : Value} {d : DataW H} {p : List MemPlace} {ts : List TypeId} {ds : List (DataW H)}
theorem arg_en (h : DataW.Trod enc Tryz.prog W 0 (fun _ => true) true 56 v d p) (hv : ∃ a l c, v = .slice a l c) (hsz : (DataW.weightsEach Tryz.prog ts ds).all (· ≤ reachBytes) = true) (j : Nat) (ht : ts[j]? = some 56) (hd : ds[j]? = some d) :
    ∃ en, EnIn (fun i => i < W.heap.size) W v en ∧ EnB (Rows.uptoBulk d) en ∧ en.length * 40 ≤ 140737488351232 := by
  obtain ⟨fuel, hr⟩ := h
  obtain ⟨v', n, e, h1, h2, h3⟩ := en_b (k := Rows.uptoBulk d) (f := fuel) (w := W) (cs := v.cells.toList) ⟨H, enc, _, hr, fun n hn => by simpa using List.all_eq_true.1 hsz n (DataW.weights_mem_each ht hd n hn), Nat.le_refl _⟩
  obtain ⟨a, l, c, rfl⟩ := hv
  have e2 : v' = .slice a l c := by simpa [Value.cells] using e.symm
  subst e2
  exact ⟨n, h1, h2, h3⟩
theorem arg_sch (h : DataW.Trod enc Tryz.prog W 0 (fun _ => true) true 33 v d p) (hv : ∃ cs, v = .agg cs ∧ cs.size = Tryz.prog.cellsOf 33) (hsz : (DataW.weightsEach Tryz.prog ts ds).all (· ≤ reachBytes) = true) (j : Nat) (ht : ts[j]? = some 33) (hd : ds[j]? = some d) :
    ∃ vt vc s, v = .agg #[vt, vc] ∧ TysIn (fun i => i < W.heap.size) W vt s.tys ∧ ClsIn (fun i => i < W.heap.size) W vc s.cls ∧ SchB (Rows.uptoBulk d) s := by
  obtain ⟨fuel, hr⟩ := h
  obtain ⟨cs, rfl, -⟩ := hv
  obtain ⟨vt, vc, s, e, h1, h2, h3⟩ := sch_b (k := Rows.uptoBulk d) (f := fuel) (w := W) (cs := cs.toList) ⟨H, enc, _, by simpa [Value.cells] using hr, fun n hn => by simpa using List.all_eq_true.1 hsz n (DataW.weights_mem_each ht hd n hn), Nat.le_refl _⟩
  refine ⟨vt, vc, s, ?_, h1, h2, h3⟩
  congr 1
  exact Array.toList_inj.1 e
end
theorem gRng : Tryz.prog.globalNamed "strconv.ErrRange" = some 2 := by kernel_rfl
theorem gRngT : (Tryz.prog.globals[2]?).map (·.type) = some 133 := by kernel_rfl
theorem gTabT : (Tryz.prog.globals[3]?).map (·.type) = some 243 := by kernel_rfl
/-- What the functions ask of the package-level variables, out of what the rows list. -/
theorem gs_of {W : World} (h : laidMetH Tryz.prog laid W) : Gs W := by
  have h0 : laidMet Tryz.prog laid W := h
  refine ⟨gl_of h, ?_, ?_⟩
  · obtain ⟨a, s, hv, -⟩ := laid_sentinel (nm := "*errors.errorString") h0.tail.tail.tail gRng gRngT Tryz.underlying133 rowES Tryz.underlying239 Tryz.underlying241 rfl rfl Tryz.underlying9 cES cS
    exact ⟨_, _, by simpa using World.var?_cell gRng hv 0⟩
  · have h2 : laidMet Tryz.prog (("internal/strconv.uint64pow10", Lib.tabData .u64 Lib.pow10Tab) :: [("strconv.ErrRange", Rows.laid_strconv_ErrRange), ("strconv.ErrSyntax", Rows.laid_strconv_ErrSyntax)]) W := h0.tail.tail
    exact Lib.tabIs_of_head gTab gTabT Tryz.underlying243 Tryz.underlying213 (by kernel_rfl) (by kernel_rfl) h2
end Go.Proofs.YtooodoacpdhbfaaGreatDoor.SC

namespace Go.Proofs.YtooodoacpdhbfaaGreatDoor.DN
set_option maxRecDepth 100000
open Go.Proofs.YtooodoacpdhbfaaGreatDoor.BE Go.Lib

theorem extract_piece (s : ByteArray) (a b : Nat) : (s.extract a b).data.toList = pieceU s.data.toList a b := by
  unfold pieceU
  rw [ByteArray.data_extract, Array.toList_extract, List.extract_eq_take_drop]
theorem dec_facts (s : ByteArray) (pos : Nat) (h : pos < s.size) : 1 ≤ (Utf8.decode s pos).2 ∧ pos + (Utf8.decode s pos).2 ≤ s.size ∧ ((Utf8.decode s pos).1 = 32 → s.data.toList[pos]? = some 32 ∧ (Utf8.decode s pos).2 = 1) ∧
    ((Utf8.decode s pos).1 ≠ 32 → ∀ c ∈ (s.data.toList.drop pos).take (Utf8.decode s pos).2, c ≠ 32) := by
  have hl : s.data.toList.length = s.size := by simp
  have hw := width_pos s pos
  have hN := decode_N s pos
  have hle := decodeN_le_n' (s.data.toList.length - pos) (s.data.toList.getD pos 0).toNat (s.data.toList.getD (pos + 1) 0).toNat (s.data.toList.getD (pos + 2) 0).toNat (s.data.toList.getD (pos + 3) 0).toNat (by omega)
  have hc := decodeN_conts (s.data.toList.length - pos) (s.data.toList.getD pos 0).toNat (s.data.toList.getD (pos + 1) 0).toNat (s.data.toList.getD (pos + 2) 0).toNat (s.data.toList.getD (pos + 3) 0).toNat
  rw [← hN] at hle hc
  have hget : s.data.toList[pos]? = some (s.data.toList.getD pos 0) := by
    rw [List.getD_eq_getElem?_getD, List.getElem?_eq_getElem (by omega)]; rfl
  have hsp : s[pos]'h = s.data.toList.getD pos 0 := by
    rw [List.getD_eq_getElem?_getD, List.getElem?_eq_getElem (by omega)]
    rfl
  refine ⟨hw, by omega, ?_, ?_⟩
  · intro h32
    by_cases hb : (s.data.toList.getD pos 0).toNat < 128
    · rw [decodeN_ascii _ _ _ _ _ hb] at hN
      rw [hN] at h32 ⊢
      have : s.data.toList.getD pos 0 = 32 := UInt8.toNat_inj.1 h32
      rw [hget, this]
      exact ⟨rfl, rfl⟩
    · have := (decode_high s pos h (by rw [hsp]; omega)).1
      omega
  · intro h32 c hcm
    obtain ⟨j, hj⟩ := List.mem_iff_getElem?.1 hcm
    have hjk : j < (Utf8.decode s pos).2 := by
      have := (List.getElem?_eq_some_iff.1 hj).1
      rw [List.length_take] at this
      omega
    rw [List.getElem?_take, if_pos hjk, List.getElem?_drop] at hj
    have hd : s.data.toList.getD (pos + j) 0 = c := by rw [List.getD_eq_getElem?_getD, hj]; rfl
    intro e
    subst e
    obtain ⟨c1, c2, c3, c4⟩ := hc
    have h3 : j = 0 ∨ j = 1 ∨ j = 2 ∨ j = 3 := by omega
    rcases h3 with rfl | rfl | rfl | rfl
    · rw [Nat.add_zero] at hd
      rw [hd] at hN
      rw [decodeN_ascii _ _ _ _ _ (by decide)] at hN
      rw [hN] at h32
      exact h32 rfl
    · have := (c1 (by omega)).1
      rw [hd] at this
      exact absurd this (by decide)
    · have := (c2 (by omega)).1
      rw [hd] at this
      exact absurd this (by decide)
    · have := (c3 (by omega)).1
      rw [hd] at this
      exact absurd this (by decide)
theorem words_end (cur : B) : words cur [] = if cur.isEmpty then [] else [cur] := rfl
theorem words_sp (cur r : B) : words cur (32 :: r) = if cur.isEmpty then words [] r else cur :: words [] r := rfl
theorem close_words (s : ByteArray) (st : Option Nat) (acc : List (Nat × Nat)) (hst : ∀ a, st = some a → a < s.size) :
    (closeSpans s (acc, st)).map (fun x => pieceU s.data.toList x.1 x.2) = acc.map (fun x => pieceU s.data.toList x.1 x.2) ++ words (openPiece s.data.toList st s.size) [] := by
  have hl : s.data.toList.length = s.size := by simp
  cases st with
  | none => simp [closeSpans, openPiece, words_end]
  | some a =>
    have hne := pieceU_ne s.data.toList a s.size (hst a rfl) (by omega)
    rw [words_end]
    show _ = _ ++ if (pieceU s.data.toList a s.size).isEmpty = true then [] else [pieceU s.data.toList a s.size]
    rw [if_neg (by rw [List.isEmpty_iff]; exact hne)]
    simp [closeSpans]
theorem spans_words (s : ByteArray) : ∀ (f pos : Nat) (st : Option Nat) (acc : List (Nat × Nat)), s.size ≤ pos + f → pos ≤ s.size → (∀ a, st = some a → a < pos) →
    (closeSpans s (spansFromP (fun x => x == 32) s f pos st acc)).map (fun x => pieceU s.data.toList x.1 x.2) = acc.map (fun x => pieceU s.data.toList x.1 x.2) ++ words (openPiece s.data.toList st pos) (s.data.toList.drop pos)
  | 0, pos, st, acc, hf, hp, hst => by
    have hl : s.data.toList.length = s.size := by simp
    obtain rfl : pos = s.size := by omega
    rw [List.drop_of_length_le (by omega)]
    exact close_words s st acc hst
  | f + 1, pos, st, acc, hf, hp, hst => by
    have hl : s.data.toList.length = s.size := by simp
    by_cases hlt : pos < s.size
    · obtain ⟨h1, h2, h3, h4⟩ := dec_facts s pos hlt
      unfold spansFromP
      rw [if_pos hlt]
      by_cases h32 : (Utf8.decode s pos).1 = 32
      · obtain ⟨hb, hk⟩ := h3 h32
        have hdrop : s.data.toList.drop pos = 32 :: s.data.toList.drop (pos + 1) := by
          rw [List.drop_eq_getElem_cons (by omega)]
          rw [List.getElem?_eq_getElem (by omega)] at hb
          rw [Option.some.inj hb]
        rw [h32, if_pos (by decide), hk, hdrop, words_sp]
        cases st with
        | none =>
          simp only
          rw [spans_words s f (pos + 1) none acc (by omega) (by omega) (fun a h => by cases h)]
          rfl
        | some a =>
          have hne := pieceU_ne s.data.toList a pos (hst a rfl) (by omega)
          simp only
          rw [spans_words s f (pos + 1) none (acc ++ [(a, pos)]) (by omega) (by omega) (fun a h => by cases h)]
          show _ = _ ++ if (pieceU s.data.toList a pos).isEmpty = true then _ else pieceU s.data.toList a pos :: _
          rw [if_neg (by rw [List.isEmpty_iff]; exact hne)]
          simp [openPiece]
      · have hr : words (openPiece s.data.toList st pos) (s.data.toList.drop pos) = words (openPiece s.data.toList st pos ++ (s.data.toList.drop pos).take (Utf8.decode s pos).2) (s.data.toList.drop (pos + (Utf8.decode s pos).2)) := by
          rw [← List.drop_drop, ← words_run _ _ _ (h4 h32), List.take_append_drop]
        rw [if_neg (by simp [h32]), hr]
        cases st with
        | none =>
          simp only
          rw [spans_words s f _ (some pos) acc (by omega) (by omega) (fun a h => by cases h; omega)]
          simp only [openPiece, List.nil_append, pieceU, Nat.add_sub_cancel_left]
        | some a =>
          have := hst a rfl
          simp only
          rw [spans_words s f _ (some a) acc (by omega) (by omega) (fun b h => by cases h; omega)]
          simp only [openPiece]
          rw [pieceU_grow _ _ _ _ (by omega)]
    · obtain rfl : pos = s.size := by omega
      rw [spansFromP_end _ _ _ _ _ _ hlt, List.drop_of_length_le (by omega)]
      exact close_words s st acc hst
theorem fields_words (s : ByteArray) : (goFieldsP (fun x => x == 32) s).map (·.data.toList) = words [] s.data.toList := by
  have h := spans_words s s.size 0 none [] (by omega) (by omega) (fun a h => by cases h)
  unfold goFieldsP spansOfP
  rw [List.map_map]
  have e : ((fun x : ByteArray => x.data.toList) ∘ fun x : Nat × Nat => s.extract x.1 x.2) = fun x => pieceU s.data.toList x.1 x.2 := by
    funext x
    exact extract_piece s x.1 x.2
  rw [e, h]
  rfl
theorem joinB_eq (sep : B) : ∀ L : List B, Lib.join L sep = joinB sep L
  | [] => rfl
  | [a] => by rw [Lib.join_one]; rfl
  | a :: b :: r => by
    have ih := joinB_eq sep (b :: r)
    rw [Lib.join_cons] at ih ⊢
    simp only [joinB]
    rw [← ih]
    simp [Lib.joinTail]
end Go.Proofs.YtooodoacpdhbfaaGreatDoor.DN

namespace Go.Proofs.YtooodoacpdhbfaaGreatDoor.DN
set_option maxRecDepth 100000
open Go.Shelf Go.RowKit K Go.Proofs.YtooodoacpdhbfaaGreatDoor.BE

def lays156_ren : Go.Shelf.Ren := ⟨fun | 167 => 76 | 156 => 72 | 165 => 108 | 166 => 75 | 169 => 77 | 240 => 111 | 241 => 139 | 276 => 142 | 277 => 162 | n => n, fun | 31 => 42 | 9 => 9 | 3 => 3 | 4 => 4 | 0 => 0 | 20 => 20 | 72 => 127 | 76 => 134 | 70 => 125 | 37 => 120 | 75 => 133 | 127 => 167 | 164 => 190 | 5 => 5 | 80 => 137 | n => n, fun | n => n⟩
theorem lays156 : Go.Proofs.Lays.n156 Tryz.prog lays156_ren := {
  mixed := by kernel_rfl
  f156 := Tryz.func72.trans (congrArg some (by kernel_rfl))
  f165 := Tryz.func108.trans (congrArg some (by kernel_rfl))
  f166 := Tryz.func75.trans (congrArg some (by kernel_rfl))
  f169 := Tryz.func77.trans (congrArg some (by kernel_rfl))
  f240 := Tryz.func111.trans (congrArg some (by kernel_rfl))
  f241 := Tryz.func139.trans (congrArg some (by kernel_rfl))
  f276 := Tryz.func142.trans (congrArg some (by kernel_rfl))
  f277 := Tryz.func162.trans (congrArg some (by kernel_rfl))
  t0 := Tryz.underlying0
  a0 := Tryz.isAgg0
  z0 := Tryz.sizeOf0
  v0 := Tryz.zeroValue0
  t3 := Tryz.underlying3
  a3 := Tryz.isAgg3
  z3 := Tryz.sizeOf3
  v3 := Tryz.zeroValue3
  t4 := Tryz.underlying4
  a4 := Tryz.isAgg4
  z4 := Tryz.sizeOf4
  v4 := Tryz.zeroValue4
  t9 := Tryz.underlying9
  a9 := Tryz.isAgg9
  z9 := Tryz.sizeOf9
  v9 := Tryz.zeroValue9
  t20 := Tryz.underlying20
  a20 := Tryz.isAgg20
  z20 := Tryz.sizeOf20
  v20 := Tryz.zeroValue20
  t31 := Tryz.underlying42
  a31 := Tryz.isAgg42
  z31 := Tryz.sizeOf42
  v31 := Tryz.zeroValue42
  t37 := Tryz.underlying120
  a37 := Tryz.isAgg120
  z37 := Tryz.sizeOf120
  v37 := Tryz.zeroValue120
  t70 := Tryz.underlying125
  a70 := Tryz.isAgg125
  z70 := Tryz.sizeOf125
  v70 := Tryz.zeroValue125
  t72 := Tryz.underlying127
  a72 := Tryz.isAgg127
  z72 := Tryz.sizeOf127
  v72 := Tryz.zeroValue127
  t75 := Tryz.underlying133
  a75 := Tryz.isAgg133
  z75 := Tryz.sizeOf133
  v75 := Tryz.zeroValue133
  t76 := Tryz.underlying134
  a76 := Tryz.isAgg134
  z76 := Tryz.sizeOf134
  v76 := Tryz.zeroValue134
  t127 := Tryz.underlying167
  a127 := Tryz.isAgg167
  z127 := Tryz.sizeOf167
  v127 := Tryz.zeroValue167
  t164 := Tryz.underlying190
  a164 := Tryz.isAgg190
  z164 := Tryz.sizeOf190
  v164 := Tryz.zeroValue190 }
def lays229_ren : Go.Shelf.Ren := ⟨fun | 229 => 69 | n => n, fun | 9 => 9 | 40 => 77 | 31 => 42 | 152 => 161 | 3 => 3 | 0 => 0 | 4 => 4 | 21 => 21 | 154 => 163 | n => n, fun | n => n⟩
theorem lays229 : Go.Proofs.Lays.n229 Tryz.prog lays229_ren := {
  mixed := by kernel_rfl
  f229 := Tryz.func69.trans (congrArg some (by kernel_rfl))
  t0 := Tryz.underlying0
  a0 := Tryz.isAgg0
  z0 := Tryz.sizeOf0
  v0 := Tryz.zeroValue0
  t3 := Tryz.underlying3
  a3 := Tryz.isAgg3
  z3 := Tryz.sizeOf3
  v3 := Tryz.zeroValue3
  t4 := Tryz.underlying4
  a4 := Tryz.isAgg4
  z4 := Tryz.sizeOf4
  v4 := Tryz.zeroValue4
  t9 := Tryz.underlying9
  a9 := Tryz.isAgg9
  z9 := Tryz.sizeOf9
  v9 := Tryz.zeroValue9
  t21 := Tryz.underlying21
  a21 := Tryz.isAgg21
  z21 := Tryz.sizeOf21
  v21 := Tryz.zeroValue21
  t31 := Tryz.underlying42
  a31 := Tryz.isAgg42
  z31 := Tryz.sizeOf42
  v31 := Tryz.zeroValue42
  t40 := Tryz.underlying77
  a40 := Tryz.isAgg77
  z40 := Tryz.sizeOf77
  v40 := Tryz.zeroValue77
  t152 := Tryz.underlying161
  a152 := Tryz.isAgg161
  z152 := Tryz.sizeOf161
  v152 := Tryz.zeroValue161
  t154 := Tryz.underlying163
  a154 := Tryz.isAgg163
  z154 := Tryz.sizeOf163
  v154 := Tryz.zeroValue163 }
theorem extra156 : Builder.Extra Tryz.prog lays156_ren := {
  sizeBuilder := by kernel_rfl
  liesBuilder := by kernel_rfl
  t5 := Tryz.underlying5
  a5 := Tryz.isAgg5
  z5 := Tryz.sizeOf5
  v5 := Tryz.zeroValue5
  infoByte := by kernel_rfl
  cellsByte := by kernel_rfl
  sizeByte := by kernel_rfl
  neB5 := by decide }
theorem below_fr {w w' : World} (h : Go.RowKit.Below w.heap.size w w') : Fr No w w' := ⟨h.os, h.tape, h.output, h.size, fun k hk _ => h.block k hk⟩
/-- strings.Join of texts in memory. -/
theorem join_any (E : Nat → Prop) (v : Value) (L : List B) (sep : B) (w : World) (h : ∃ a cap, v = .slice a L.length cap ∧ L.length ≤ cap ∧ (L = [] ∨ ∃ g o, a = some ⟨g, o, none⟩ ∧ g < w.heap.size ∧ w.rangeAt g o (strs L))) (hL : L.length ≤ 140737488355328) (hl : (joinB sep L).length ≤ 140737488355328) :
    Calls Tryz.prog 72 #[v, .string (sb sep)] w fun e w' => e = .returned (.string (sb (joinB sep L))) ∧ Fr No w w' := by
  obtain ⟨a, cap, rfl, hc, h⟩ := h
  rcases h with rfl | ⟨g, o, rfl, hg, hr⟩
  · refine (Any.strings_Join_none lays156 extra156 a cap (sb sep) w).mono ?_
    rintro e w' ⟨rfl, rfl⟩
    exact ⟨rfl, Fr.refl _ _⟩
  · have hj : Lib.join ((L.map sb).map (·.data.toList)) (sb sep).data.toList = joinB sep L := by
      rw [sb_list, joinB_eq, List.map_map]
      congr 1
      conv => rhs; rw [← List.map_id L]
      exact List.map_congr_left fun x _ => sb_list x
    have h1 := Any.strings_Join lays156 extra156 g o cap (L.map sb) (sb sep) w (fun j x hx => by
      rw [List.getElem?_map] at hx
      obtain ⟨l, hl, rfl⟩ := Option.map_eq_some_iff.1 hx
      exact hr j _ (by unfold strs; rw [List.getElem?_map, hl]; rfl)) hg (by rw [List.length_map]; exact hL) (by rw [List.length_map]; exact hc) (by rw [hj]; exact hl)
    rw [List.length_map, hj] at h1
    refine h1.mono ?_
    rintro e w' ⟨rfl, hb⟩
    exact ⟨rfl, below_fr hb⟩
/-- strings.FieldsFunc by a function that tells blanks. -/
theorem fields_any (g : Nat) (eg : ∀ args w, (callFunc g args).run Tryz.prog w = .ok (.enter g args) w) (s : B) (w : World) (hs : s.length ≤ 4294967296)
    (hp : ∀ (W : World) (x : Nat), x ≤ 1114111 → Calls Tryz.prog g #[.int .i32 (x : Int)] W fun e W' => e = .returned (.bool (x == 32)) ∧ W' = W) :
    Calls Tryz.prog 69 #[.string (sb s), .func (.func g) #[] #[]] w fun e w' => ∃ v, e = .returned v ∧ (∃ a cap, v = .slice a (words [] s).length cap ∧ (words [] s).length ≤ cap ∧ (words [] s = [] ∨ ∃ g o, a = some ⟨g, o, none⟩ ∧ g < w'.heap.size ∧ w'.rangeAt g o (strs (words [] s)))) ∧ Fr No w w' := by
  have hL : Lib.goFieldsP (fun x => x == 32) (sb s) = (words [] s).map sb := by
    have h := fields_words (sb s)
    rw [sb_list] at h
    rw [← h, List.map_map]
    conv => lhs; rw [← List.map_id (Lib.goFieldsP (fun x => x == 32) (sb s))]
    exact List.map_congr_left fun x _ => (sb_of x).symm
  have h1 := Any.strings_FieldsFunc_runes lays229 g #[] eg (fun x => x == 32) (sb s) w (by rw [sb_size]; exact hs)
    (fun W x hx _ => (hp W x hx).mono fun e W' ⟨h2, h3⟩ => ⟨h2, 0, h3⟩) (by kernel_rfl) (by kernel_rfl)
  refine h1.mono ?_
  rintro e w' ⟨A, rfl, hA, hown, hb⟩
  rw [hL, List.length_map] at hown ⊢
  have hlen : ((words [] s).map sb).length = (words [] s).length := List.length_map _
  refine ⟨_, rfl, ⟨_, _, rfl, Nat.le_refl _, ?_⟩, below_fr hb⟩
  by_cases h0 : words [] s = []
  · exact .inl h0
  · right
    have hlt : A < w'.heap.size := by
      rcases hown.2 with ⟨h2, -⟩ | ⟨g', cap, cur, h2, -, hg, -⟩
      · cases h2
      · simp only [Value.slice.injEq, Option.some.injEq, Addr.mk.injEq] at h2
        obtain ⟨⟨rfl, -⟩, -⟩ := h2
        exact (Array.getElem?_eq_some_iff.1 hg).1
    refine ⟨A, 0, rfl, hlt, ?_⟩
    intro j u hj
    have := hown.cells (g := A) rfl j u (by rw [List.map_map]; exact hj)
    rwa [Addr.add_mid] at this
theorem lays166 : Go.Proofs.Lays.n166 Tryz.prog lays156_ren := { lays156 with }
theorem lays169 : Go.Proofs.Lays.n169 Tryz.prog lays156_ren := { lays156 with }
theorem lays167 : Go.Proofs.Lays.n167 Tryz.prog lays156_ren := { lays156 with
  f167 := Tryz.func76.trans (congrArg some (by kernel_rfl))
  t5 := extra156.t5
  a5 := extra156.a5
  z5 := extra156.z5
  v5 := extra156.v5 }
/-- A builder in block b that holds these bytes; its own blocks are new since base. -/
def Bld (base b : Nat) (l : B) (w : World) : Prop := Lib.IsBuilder 127 5 base b (Lib.byteCells l) w
theorem Bld.lt {base b : Nat} {l : B} {w : World} (h : Bld base b l w) : base ≤ b ∧ b < w.heap.size := by
  rcases h with h | h
  · exact ⟨h.1, h.lt⟩
  · exact ⟨h.1, h.lt⟩
theorem below_fr' {w w' : World} {base : Nat} (h : Go.RowKit.Below base w w') : Fr (fun k => base ≤ k) w w' := ⟨h.os, h.tape, h.output, h.size, fun k _ hn => h.block k (by omega)⟩
theorem writeString_any (base b : Nat) (l s : B) (w : World) (h : Bld base b l w) (hl : l.length + s.length ≤ 140737488355328) (hb : base ≤ w.heap.size) :
    Calls Tryz.prog 75 #[.pointer (some ⟨b, 0, none⟩), .string (sb s)] w fun e w' => (∃ v, e = .returned v) ∧ Bld base b (l ++ s) w' ∧ Fr (fun k => base ≤ k) w w' := by
  refine (Any.Builder_WriteString lays166 extra156 base b (Lib.byteCells l) (sb s) w h (by rw [sb_size]; simpa [Lib.byteCells] using hl) hb).mono ?_
  rintro e w' ⟨rfl, h1, h2⟩
  refine ⟨⟨_, rfl⟩, .inr ?_, below_fr' h2⟩
  have : Lib.byteCells (l ++ s) = Lib.byteCells l ++ Lib.strCells (sb s) := by
    rw [str_cells, sb_list]
    simp [Lib.byteCells, u8s]
  rw [this]
  exact h1
theorem writeByte_any (base b : Nat) (l : B) (c : UInt8) (w : World) (h : Bld base b l w) (hl : l.length + 1 ≤ 140737488355328) (hb : base ≤ w.heap.size) :
    Calls Tryz.prog 76 #[.pointer (some ⟨b, 0, none⟩), .int .u8 (c.toNat : Int)] w fun e w' => (∃ v, e = .returned v) ∧ Bld base b (l ++ [c]) w' ∧ Fr (fun k => base ≤ k) w w' := by
  refine (Any.Builder_WriteByte lays167 extra156 base b (Lib.byteCells l) (c.toNat : Int) w h (by simpa [Lib.byteCells] using hl) hb).mono ?_
  rintro e w' ⟨rfl, h1, h2⟩
  refine ⟨⟨_, rfl⟩, .inr ?_, below_fr' h2⟩
  have : Lib.byteCells (l ++ [c]) = Lib.byteCells l ++ [.int .u8 (c.toNat : Int)] := by simp [Lib.byteCells]
  rw [this]
  exact h1
theorem builderString_any (base b : Nat) (l : B) (w : World) (h : Bld base b l w) (hb : base ≤ w.heap.size) :
    Calls Tryz.prog 77 #[.pointer (some ⟨b, 0, none⟩)] w fun e w' => e = .returned (.string (sb l)) ∧ Fr (fun k => base ≤ k) w w' := by
  refine (Any.Builder_String_any lays169 extra156 base b l w h hb).mono ?_
  rintro e w' ⟨rfl, h2⟩
  exact ⟨rfl, below_fr' h2⟩
end Go.Proofs.YtooodoacpdhbfaaGreatDoor.DN

namespace Go.Proofs.YtooodoacpdhbfaaGreatDoor.DN
set_option maxRecDepth 100000
open Go.RowKit K Go.Proofs.YtooodoacpdhbfaaGreatDoor.BE

/-- A block that no cell of which is frozen, though its end bears a mark. -/
def BlkF (w : World) (b : Nat) (t : TypeId) (cs : List Value) : Prop := w.heap[b]? = some (.cells cs.toArray t (cs.length, cs.length + 1))
theorem BlkF.lt {w : World} {b : Nat} {t : TypeId} {cs : List Value} (h : BlkF w b t cs) : b < w.heap.size := (Array.getElem?_eq_some_iff.1 h).1
theorem BlkF.cell {w : World} {b : Nat} {t : TypeId} {cs : List Value} (h : BlkF w b t cs) (j : Nat) : w.cell? ⟨b, j, none⟩ = cs[j]? := by
  rw [cell_of_row w b j cs.toArray t _ h]; simp
theorem BlkF.frozen {w : World} {b : Nat} {t : TypeId} {cs : List Value} (h : BlkF w b t cs) {j : Nat} (hj : j < cs.length) : w.frozen? ⟨b, j, none⟩ = false := by
  unfold World.frozen?
  rw [h]
  simp
  omega
theorem BlkF.set {w : World} {b : Nat} {t : TypeId} {cs : List Value} (h : BlkF w b t cs) (j : Nat) (v : Value) : BlkF (w.setCell ⟨b, j, none⟩ v) b t (cs.set j v) := by
  unfold BlkF World.setCell at *
  simp only [Array.getElem?_modify, if_true, h, Option.map_some, List.length_set]
  simp
theorem wpL_setF {P : Program} {ops : Array Oper} {rest : List Oper} {op : Oper} {a : Act} {w : World} {Q : Exit → Act → World → Prop} (hgd : op.guard = none) (ty : TypeId) (x y : Operand) (ho : op.op = .store ty x y) (b o : Nat) (v : Value) (hx : a.eval x = .pointer (some ⟨b, o, none⟩)) (hy : a.eval y = v) (hv : v.cells = #[v]) (h1 : v.oneCell' = true)
    (t : TypeId) (cs : List Value) (hB : BlkF w b t cs) (hle : o < cs.length) (hi : (P.info? ty).map (·.size) = some 1)
    (h : ∀ w', Hid (BlkF w' b t (cs.set o v)) → Hid (Fr (fun k => k = b) w w') → wpList P ops Q rest (a.put op.dst undef) w') : wpList P ops Q (op :: rest) a w := by
  refine wpList_plain hgd fun K hK => ?_
  have hth : w.there b o [v].length := by
    intro j hj
    obtain rfl : j = 0 := by simpa using hj
    rw [Nat.add_zero, hB.cell, hB.frozen hle]
    simp [hle]
  have hr := run_storeV (P := P) w b o ty v [v] (by rw [hv]) hth (by simpa using hi) (by simpa using h1)
  unfold Oper.wp execOp
  simp only [ho, hx, hy, Instr.storeAt, Instr.sureAddr, Sem.run_bind, Sem.run_pure, Result.andThen_ok, hr]
  exact hK _ _ (h _ (hid (hB.set o v)) (hid ((Fr.refl (fun k => k = b) w).setCells b o [v] (.inl rfl))))
/-- '[]byte(s)', the whole block. -/
theorem wpL_bytesF {P : Program} {ops : Array Oper} {rest : List Oper} {op : Oper} {a : Act} {w : World} {Q : Exit → Act → World → Prop} (hgd : op.guard = none) (src dst e : TypeId) (x : Operand) (ho : op.op = .convert src dst x) (s : ByteArray) (hx : a.eval x = .string s)
    (hs : P.underlying src = some .string) (hd : P.underlying dst = some (.slice e)) (he : P.underlying e = some (.int .u8))
    (h : ∀ c z w', s.size ≤ c → Hid (BlkF w' w.heap.size e (u8s s.data.toList ++ z)) → Hid (Fr No w w') → wpList P ops Q rest (a.put op.dst (.slice (some ⟨w.heap.size, 0, none⟩) s.size c)) w') : wpList P ops Q (op :: rest) a w := by
  refine wpList_plain hgd fun K hK => ?_
  have hrun := run_bytes_of_string (P := P) w src dst e s hs hd he
  have hB : (bytesRow s (grownCap w s.size 0 e)) = (u8s s.data.toList ++ List.replicate (grownCap w s.size 0 e - s.size) (Value.int .u8 0)).toArray := by
    unfold bytesRow u8s
    apply Array.toList_inj.1
    simp
  have h1 := h (grownCap w s.size 0 e) (List.replicate (grownCap w s.size 0 e - s.size) (Value.int .u8 0)) (w.drew.alloc (.cells (bytesRow s (grownCap w s.size 0 e)) e ((bytesRow s (grownCap w s.size 0 e)).size, (bytesRow s (grownCap w s.size 0 e)).size + 1))) (grownCap_ge _ _ _ _)
    (hid (by rw [hB]; unfold BlkF; rw [show w.heap.size = w.drew.heap.size from rfl, heap_alloc_new w.drew]; simp)) (hid ((Fr.refl No w).drew.alloc _))
  unfold Oper.wp
  simp [execOp, ho, hx, hrun, Result.andThen]
  exact hK _ _ h1
theorem infoU8 : (Tryz.prog.info? 5).map (·.size) = some 1 := by kernel_rfl
theorem lo_nat (c : UInt8) : (lo c).toNat = if 65 ≤ c.toNat ∧ c.toNat ≤ 90 then c.toNat + 32 else c.toNat := by
  have := u8_all (fun c => (lo c).toNat == if 65 ≤ c.toNat ∧ c.toNat ≤ 90 then c.toNat + 32 else c.toNat) (by decide +kernel) c
  simpa using this
set_option maxHeartbeats 4000000 in
theorem lower_str (s : B) (hs : Sz s) (w : World) : Calls Tryz.prog 70 #[.string (sb s)] w fun e w' => e = .returned (.string (sb (low s))) ∧ Fr No w w' := by
  have hz : (sb s).size = s.length := sb_size s
  have hzl : (sb s).data.toList = s := sb_list s
  obtain ⟨S, hS⟩ : ∃ S, sb s = S := ⟨_, rfl⟩
  obtain ⟨n, hn⟩ : ∃ n, s.length = n := ⟨_, rfl⟩
  rw [hS] at hz hzl ⊢
  rw [hn] at hz
  have hni : (n : Int) ≤ 140737488351232 := by unfold Sz at hs; omega
  have HNN := hid hn; have HZL := hid hzl; have HZ := hid hz
  clear hs hz hzl hS hn
  go_enter Tryz.func70, Tryz.ntmps70
  go_wp2_with (first
    | ((with_reducible refine K.atO (.convert _ 120 _) ?_); refine wpL_bytesF rfl _ _ _ _ rfl S rfl Tryz.underlying9 Tryz.underlying120 Tryz.underlying5 ?_; intro cp z w1 hcp HB1 HF1; rw [HZ.out])
    | fail)
  obtain ⟨g, hg⟩ : ∃ g, w.heap.size = g := ⟨_, rfl⟩
  rw [hg] at HB1 ⊢
  rw [HZL.out] at HB1
  have HG := hid hg
  have HCP := hid hcp
  clear hg hcp
  go_loopw [10] (fun iv wr => ∃ (i : Nat), iv = .int .i64 i ∧ i ≤ n ∧ Hid (BlkF wr g 5 (u8s (low (s.take i) ++ s.drop i) ++ z) ∧ Fr No w wr)) (fun iv _ => n - (intOf iv).toNat)
  case atStart => exact ⟨0, rfl, Nat.zero_le _, hid ⟨by simpa [low] using HB1.out, HF1.out⟩⟩
  case round =>
    obtain ⟨i, rfl, hi, HI⟩ := hrel
    by_cases hlt : i < n
    · have hlti : (i : Int) < n := by omega
      have hi0 : (0 : Int) ≤ i := by omega
      obtain ⟨c, hc⟩ : ∃ c, s[i]? = some c := ⟨_, List.getElem?_eq_getElem (by rw [HNN.out]; exact hlt)⟩
      have hlow : (low (s.take i)).length = i := by rw [low_length, List.length_take, HNN.out]; omega
      have hcur : (u8s (low (s.take i) ++ s.drop i) ++ z)[i]? = some (.int .u8 (c.toNat : Int)) := by
        rw [List.getElem?_append_left (by rw [u8s_length, List.length_append, hlow, List.length_drop, HNN.out]; omega)]
        unfold u8s
        rw [List.getElem?_map, List.getElem?_append_right (by omega), hlow, Nat.sub_self, List.getElem?_drop, Nat.add_zero, hc]
        rfl
      have hcell : wr.cell? ⟨g, i, none⟩ = some (.int .u8 (c.toNat : Int)) := by rw [HI.out.1.cell]; exact hcur
      have hsplit : s.drop i = c :: s.drop (i + 1) := by
        have hl : i < s.length := by rw [HNN.out]; exact hlt
        rw [List.drop_eq_getElem_cons hl]
        rw [List.getElem?_eq_getElem hl] at hc
        rw [Option.some.inj hc]
      have htake : low (s.take (i + 1)) = low (s.take i) ++ [lo c] := by
        unfold low
        rw [List.take_add_one, hc]
        simp
      have hset : (u8s (low (s.take i) ++ s.drop i) ++ z).set i (.int .u8 ((lo c).toNat : Int)) = u8s (low (s.take (i + 1)) ++ s.drop (i + 1)) ++ z := by
        rw [htake, hsplit, u8s_append, List.append_assoc, List.set_append_right _ _ (by rw [u8s_length, hlow]; exact Nat.le_refl _), u8s_length, hlow, Nat.sub_self]
        simp [u8s]
      have hlen : i < (u8s (low (s.take i) ++ s.drop i) ++ z).length := (List.getElem?_eq_some_iff.1 hcur).1
      have HSET := hid hset; have HLEN := hid hlen
      have hlo := lo_nat c
      obtain ⟨xn, hxn⟩ : ∃ xn, c.toNat = xn := ⟨_, rfl⟩
      have hb := lt256 c
      rw [hxn] at hcell hlo hb
      have HLT := hid hlt
      have HFS : Hid (∀ w', Fr (fun k => k = g) wr w' → Fr No w w') := hid (fun w' h => HI.out.2.trans h (fun k e => .inr (by rw [HG.out]; have e : k = g := e; omega)))
      clear hcur hsplit htake hset hlen hc hlow hi hlt
      by_cases hup : 65 ≤ xn ∧ xn ≤ 90
      · rw [if_pos hup] at hlo
        have h1 : (65 : Int) ≤ xn := by omega
        have h2 : (xn : Int) ≤ 90 := by omega
        have HLO := hid hlo
        clear hup hlo hxn
        go_wp2_with (first
          | ((with_reducible refine K.atO (.store 5 _ _) ?_); refine wpL_setF rfl _ _ _ rfl g i (.int .u8 ((lo c).toNat : Int)) (by go_simp) (by rw [HLO.out]; exact congrArg (Value.int .u8) (by omega)) rfl rfl 5 _ HI.out.1 HLEN.out infoU8 ?_; intro w2 HB2 HF2)
          | fail)
        refine ⟨⟨i + 1, by go_num, HLT.out, hid ⟨by rw [← HSET.out]; exact HB2.out, HFS.out w2 HF2.out⟩⟩, ?_⟩
        have := HLT.out
        simp [intOf]; omega
      · rw [if_neg hup] at hlo
        have h1 : (xn : Int) < 65 ∨ (65 ≤ (xn : Int) ∧ ¬ (xn : Int) ≤ 90) := by omega
        have HSAME : Hid (BlkF wr g 5 (u8s (low (s.take (i + 1)) ++ s.drop (i + 1)) ++ z)) := hid (by
          rw [← HSET.out, hlo, ← hxn]
          have h := HI.out.1
          have hce := h.cell i
          rw [hxn] at *
          rw [hcell] at hce
          obtain ⟨hl, e⟩ := List.getElem?_eq_some_iff.1 hce.symm
          rw [← e, List.set_getElem_self]
          exact h)
        clear hup hlo hxn
        rcases h1 with h1 | ⟨h1, h2⟩
        all_goals
          go_wp2_with fail
          refine ⟨⟨i + 1, by go_num, HLT.out, hid ⟨HSAME.out, HI.out.2⟩⟩, ?_⟩
          have := HLT.out
          simp [intOf]; omega
    · obtain rfl : i = n := by omega
      have hB := HI.out.1
      rw [← HNN.out, List.take_length, List.drop_length, List.append_nil] at hB
      have hbi : BytesIn wr (fun _ => True) (.slice (some ⟨g, 0, none⟩) i cp) (low s) := by
        refine ⟨_, _, _, rfl, by rw [low_length]; exact HNN.out, (by have := HCP.out; rw [HZ.out] at this; exact this), .inr ⟨g, 0, rfl, trivial, hB.lt, ?_⟩⟩
        intro j v hj
        rw [Nat.zero_add, hB.cell, List.getElem?_append_left (List.getElem?_eq_some_iff.1 hj).1]
        exact hj
      have HBI := hid hbi
      clear hB hbi hi hlt
      go_wp2_with (first
        | ((with_reducible refine K.atO (.convert _ 9 _) ?_); refine wpL_stringOf rfl _ _ _ _ rfl _ _ (low s) rfl HBI.out Tryz.underlying120 Tryz.underlying5 Tryz.underlying9 ?_)
        | fail)
      go_ret
      exact ⟨rfl, HI.out.2⟩
theorem blank_any (x : Nat) (hx : x ≤ 1114111) (w : World) : Calls Tryz.prog 71 #[.int .i32 (x : Int)] w fun e w' => e = .returned (.bool (x == 32)) ∧ w' = w := by
  by_cases h : x = 32
  · subst h
    go_enter Tryz.func71, Tryz.ntmps71
    go_wp2
    go_ret
    exact ⟨rfl, rfl⟩
  · have h1 : (x == 32) = false := by simpa using h
    have h2 : ((x : Int) == 32) = false := by rw [beq_eq_false_iff_ne]; omega
    have H2 := hid h2
    rw [h1]
    clear h h1 h2
    go_enter Tryz.func71, Tryz.ntmps71
    go_wp2
    go_ret
    exact ⟨by show Ending.returned (.bool ((x : Int) == 32)) = _; rw [H2.out], rfl⟩
set_option maxHeartbeats 4000000 in
theorem fold_any (s : B) (hs : s.length ≤ 4294967296) (w : World) : Calls Tryz.prog 35 #[.string (sb s)] w fun e w' => e = .returned (.string (sb (fold s))) ∧ Fr No w w' := by
  have H1 := hid (lower_str s (by unfold Sz; omega) w)
  have H2 := hid (fun w => fields_any 71 (fun _ _ => by kernel_rfl) (low s) w (by rw [low_length]; exact hs) (fun W x hx => blank_any x hx W))
  have hfl := fold_len s
  have HL : Hid (∀ E v w, (∃ a cap, v = .slice a (words [] (low s)).length cap ∧ (words [] (low s)).length ≤ cap ∧ (words [] (low s) = [] ∨ ∃ g o, a = some ⟨g, o, none⟩ ∧ g < w.heap.size ∧ w.rangeAt g o (strs (words [] (low s))))) →
      Calls Tryz.prog 72 #[v, .string (sb [32])] w fun e w' => e = .returned (.string (sb (fold s))) ∧ Fr No w w') := hid (fun E v w h => join_any E v _ [32] w h (by
        have h1 := words_count (low s) []
        simp only [List.isEmpty_nil, if_true, Nat.add_zero] at h1
        rw [low_length] at h1
        omega) (by show (fold s).length ≤ _; omega))
  clear hfl hs
  go_enter Tryz.func35, Tryz.ntmps35
  go_wp2_with fail
  refine H1.out.mono ?_
  rintro e w1 ⟨rfl, f1⟩
  have HF1 := hid f1
  clear f1
  go_wp2_with fail
  refine (H2.out _).mono ?_
  rintro e w2 ⟨v, rfl, hv, f2⟩
  have HV := hid hv
  have HF2 := hid (HF1.out.trans' f2)
  obtain ⟨a, cap, rfl, -, -⟩ := hv
  clear f2
  go_wp2_with fail
  refine (HL.out (fun _ => True) _ _ HV.out).mono ?_
  rintro e w3 ⟨rfl, f3⟩
  have HF3 := hid (HF2.out.trans' f3)
  clear f3
  go_wp2_with fail
  go_ret
  exact ⟨rfl, HF3.out⟩
end Go.Proofs.YtooodoacpdhbfaaGreatDoor.DN
