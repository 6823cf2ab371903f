/-
  Part 5 of the proof: ScA, ScRow, ScI.
-/
import Derived.Shelf.Strconv.ErrVarAll
import Derived.Shelf.Strconv.Itoa3
import Derived.Lib.LaidTab
import Derived.Test.YtdkkpfeiaaffhaaGreatDoorChecked
import Derived.Test.YtdkkpfeiaaffhaaGreatDoorFa04
set_option linter.unusedSimpArgs false
set_option linter.unusedVariables false
namespace Go.Proofs.YtdkkpfeiaaffhaaGreatDoor.SC
set_option maxRecDepth 100000
open Go.Shelf Go.RowKit K Go.Proofs.YtdkkpfeiaaffhaaGreatDoor.BE Go.Proofs.YtdkkpfeiaaffhaaGreatDoor.DN

def laysC172_ren : Go.Shelf.Ren := ⟨fun | 172 => 74 | 244 => 122 | 245 => 123 | 247 => 163 | 279 => 164 | 280 => 165 | 281 => 166 | 282 => 167 | 287 => 196 | 316 => 197 | 171 => 75 | 205 => 198 | 321 => 222 | 322 => 223 | 243 => 124 | 246 => 168 | 283 => 199 | 284 => 200 | 285 => 201 | 286 => 202 | 129 => 225 | 317 => 224 | 318 => 226 | 319 => 227 | 320 => 228 | 337 => 247 | 338 => 248 | n => n, fun | 9 => 9 | 3 => 3 | 75 => 131 | 76 => 132 | 4 => 4 | 5 => 5 | 167 => 214 | 37 => 119 | 0 => 0 | 85 => 215 | 2 => 2 | 168 => 217 | 53 => 242 | 175 => 243 | 46 => 194 | 210 => 246 | 127 => 211 | 145 => 271 | 143 => 269 | 21 => 21 | 171 => 248 | 173 => 251 | 212 => 272 | 51 => 76 | 20 => 20 | 213 => 273 | 232 => 291 | 233 => 292 | 80 => 175 | n => n, fun | 15 => 1 | 16 => 2 | 17 => 3 | 18 => 4 | 19 => 5 | n => n⟩
theorem laysC172 : Go.Proofs.LaysC.n172 Tryz.prog laysC172_ren := {
  mixed := by kernel_rfl
  f129 := Tryz.func225.trans (congrArg some (by kernel_rfl))
  f171 := Tryz.func75.trans (congrArg some (by kernel_rfl))
  f172 := Tryz.func74.trans (congrArg some (by kernel_rfl))
  f205 := Tryz.func198.trans (congrArg some (by kernel_rfl))
  f243 := Tryz.func124.trans (congrArg some (by kernel_rfl))
  f244 := Tryz.func122.trans (congrArg some (by kernel_rfl))
  f245 := Tryz.func123.trans (congrArg some (by kernel_rfl))
  f246 := Tryz.func168.trans (congrArg some (by kernel_rfl))
  f247 := Tryz.func163.trans (congrArg some (by kernel_rfl))
  f279 := Tryz.func164.trans (congrArg some (by kernel_rfl))
  f280 := Tryz.func165.trans (congrArg some (by kernel_rfl))
  f281 := Tryz.func166.trans (congrArg some (by kernel_rfl))
  f282 := Tryz.func167.trans (congrArg some (by kernel_rfl))
  f283 := Tryz.func199.trans (congrArg some (by kernel_rfl))
  f284 := Tryz.func200.trans (congrArg some (by kernel_rfl))
  f285 := Tryz.func201.trans (congrArg some (by kernel_rfl))
  f286 := Tryz.func202.trans (congrArg some (by kernel_rfl))
  f287 := Tryz.func196.trans (congrArg some (by kernel_rfl))
  f316 := Tryz.func197.trans (congrArg some (by kernel_rfl))
  f317 := Tryz.func224.trans (congrArg some (by kernel_rfl))
  f318 := Tryz.func226.trans (congrArg some (by kernel_rfl))
  f319 := Tryz.func227.trans (congrArg some (by kernel_rfl))
  f320 := Tryz.func228.trans (congrArg some (by kernel_rfl))
  f321 := Tryz.func222.trans (congrArg some (by kernel_rfl))
  f322 := Tryz.func223.trans (congrArg some (by kernel_rfl))
  f337 := Tryz.func247.trans (congrArg some (by kernel_rfl))
  f338 := Tryz.func248.trans (congrArg some (by kernel_rfl))
  t0 := Tryz.underlying0
  a0 := Tryz.isAgg0
  z0 := Tryz.sizeOf0
  v0 := Tryz.zeroValue0
  t2 := Tryz.underlying2
  a2 := Tryz.isAgg2
  z2 := Tryz.sizeOf2
  v2 := Tryz.zeroValue2
  t3 := Tryz.underlying3
  a3 := Tryz.isAgg3
  z3 := Tryz.sizeOf3
  v3 := Tryz.zeroValue3
  t4 := Tryz.underlying4
  a4 := Tryz.isAgg4
  z4 := Tryz.sizeOf4
  v4 := Tryz.zeroValue4
  t5 := Tryz.underlying5
  a5 := Tryz.isAgg5
  z5 := Tryz.sizeOf5
  v5 := Tryz.zeroValue5
  t9 := Tryz.underlying9
  a9 := Tryz.isAgg9
  z9 := Tryz.sizeOf9
  v9 := Tryz.zeroValue9
  t20 := Tryz.underlying20
  a20 := Tryz.isAgg20
  z20 := Tryz.sizeOf20
  v20 := Tryz.zeroValue20
  t21 := Tryz.underlying21
  a21 := Tryz.isAgg21
  z21 := Tryz.sizeOf21
  v21 := Tryz.zeroValue21
  t37 := Tryz.underlying119
  a37 := Tryz.isAgg119
  z37 := Tryz.sizeOf119
  v37 := Tryz.zeroValue119
  t46 := Tryz.underlying194
  a46 := Tryz.isAgg194
  z46 := Tryz.sizeOf194
  v46 := Tryz.zeroValue194
  t51 := Tryz.underlying76
  a51 := Tryz.isAgg76
  z51 := Tryz.sizeOf76
  v51 := Tryz.zeroValue76
  t53 := Tryz.underlying242
  a53 := Tryz.isAgg242
  z53 := Tryz.sizeOf242
  v53 := Tryz.zeroValue242
  t75 := Tryz.underlying131
  a75 := Tryz.isAgg131
  z75 := Tryz.sizeOf131
  v75 := Tryz.zeroValue131
  t76 := Tryz.underlying132
  a76 := Tryz.isAgg132
  z76 := Tryz.sizeOf132
  v76 := Tryz.zeroValue132
  t85 := Tryz.underlying215
  a85 := Tryz.isAgg215
  z85 := Tryz.sizeOf215
  v85 := Tryz.zeroValue215
  t127 := Tryz.underlying211
  a127 := Tryz.isAgg211
  z127 := Tryz.sizeOf211
  v127 := Tryz.zeroValue211
  t143 := Tryz.underlying269
  a143 := Tryz.isAgg269
  z143 := Tryz.sizeOf269
  v143 := Tryz.zeroValue269
  t145 := Tryz.underlying271
  a145 := Tryz.isAgg271
  z145 := Tryz.sizeOf271
  v145 := Tryz.zeroValue271
  t167 := Tryz.underlying214
  a167 := Tryz.isAgg214
  z167 := Tryz.sizeOf214
  v167 := Tryz.zeroValue214
  t168 := Tryz.underlying217
  a168 := Tryz.isAgg217
  z168 := Tryz.sizeOf217
  v168 := Tryz.zeroValue217
  t171 := Tryz.underlying248
  a171 := Tryz.isAgg248
  z171 := Tryz.sizeOf248
  v171 := Tryz.zeroValue248
  t173 := Tryz.underlying251
  a173 := Tryz.isAgg251
  z173 := Tryz.sizeOf251
  v173 := Tryz.zeroValue251
  t175 := Tryz.underlying243
  a175 := Tryz.isAgg243
  z175 := Tryz.sizeOf243
  v175 := Tryz.zeroValue243
  t210 := Tryz.underlying246
  a210 := Tryz.isAgg246
  z210 := Tryz.sizeOf246
  v210 := Tryz.zeroValue246
  t212 := Tryz.underlying272
  a212 := Tryz.isAgg272
  z212 := Tryz.sizeOf272
  v212 := Tryz.zeroValue272
  t213 := Tryz.underlying273
  a213 := Tryz.isAgg273
  z213 := Tryz.sizeOf273
  t232 := Tryz.underlying291
  a232 := Tryz.isAgg291
  z232 := Tryz.sizeOf291
  v232 := Tryz.zeroValue291
  t233 := Tryz.underlying292
  a233 := Tryz.isAgg292
  z233 := Tryz.sizeOf292
  v233 := Tryz.zeroValue292
  g15 := by kernel_rfl
  g16 := by kernel_rfl
  g17 := by kernel_rfl
  g18 := by kernel_rfl
  g19 := by kernel_rfl
  t80 := Tryz.underlying175
  a80 := Tryz.isAgg175
  z80 := Tryz.sizeOf175
  v80 := Tryz.zeroValue175
  i0 := by kernel_rfl
  i2 := by kernel_rfl
  i3 := by kernel_rfl
  i4 := by kernel_rfl
  i5 := by kernel_rfl
  i9 := by kernel_rfl
  i20 := by kernel_rfl
  i21 := by kernel_rfl
  i37 := by kernel_rfl
  i46 := by kernel_rfl
  i51 := by kernel_rfl
  i53 := by kernel_rfl
  i75 := by kernel_rfl
  i76 := by kernel_rfl
  i80 := by kernel_rfl
  i85 := by kernel_rfl
  i127 := by kernel_rfl
  i143 := by kernel_rfl
  i145 := by kernel_rfl
  i167 := by kernel_rfl
  i168 := by kernel_rfl
  i171 := by kernel_rfl
  i173 := by kernel_rfl
  i175 := by kernel_rfl
  i210 := by kernel_rfl
  i212 := by kernel_rfl
  i232 := by kernel_rfl
  i233 := by kernel_rfl
  m15 := by kernel_rfl
  m16 := by kernel_rfl
  m17 := by kernel_rfl
  m18 := by kernel_rfl
  m19 := by kernel_rfl
  c0 := by kernel_rfl
  c2 := by kernel_rfl
  c3 := by kernel_rfl
  c4 := by kernel_rfl
  c5 := by kernel_rfl
  c9 := by kernel_rfl
  c20 := by kernel_rfl
  c21 := by kernel_rfl
  c37 := by kernel_rfl
  c46 := by kernel_rfl
  c51 := by kernel_rfl
  c53 := by kernel_rfl
  c75 := by kernel_rfl
  c76 := by kernel_rfl
  c80 := by kernel_rfl
  c85 := by kernel_rfl
  c127 := by kernel_rfl
  c143 := by kernel_rfl
  c145 := by kernel_rfl
  c167 := by kernel_rfl
  c168 := by kernel_rfl
  c171 := by kernel_rfl
  c173 := by kernel_rfl
  c175 := by kernel_rfl
  c210 := by kernel_rfl
  c212 := by kernel_rfl
  c213 := by kernel_rfl
  c232 := by kernel_rfl
  c233 := by kernel_rfl }
def laysM171_ren : Go.Shelf.Ren := ⟨fun | 171 => 75 | 243 => 124 | 246 => 168 | 283 => 199 | 284 => 200 | 285 => 201 | 286 => 202 | 129 => 225 | 317 => 224 | 318 => 226 | 319 => 227 | 320 => 228 | 337 => 247 | 338 => 248 | n => n, fun | 3 => 3 | 9 => 9 | 2 => 2 | 4 => 4 | 171 => 248 | 0 => 0 | 53 => 242 | 37 => 119 | 5 => 5 | 173 => 251 | 212 => 272 | 51 => 76 | 20 => 20 | 213 => 273 | 46 => 194 | 232 => 291 | 233 => 292 | n => n, fun | 17 => 3 | 18 => 4 | 19 => 5 | n => n⟩
theorem laysM171 : Go.Proofs.LaysM.n171 Tryz.prog laysM171_ren := {
  mixed := by kernel_rfl
  f129 := Tryz.func225.trans (congrArg some (by kernel_rfl))
  f171 := Tryz.func75.trans (congrArg some (by kernel_rfl))
  f243 := Tryz.func124.trans (congrArg some (by kernel_rfl))
  f246 := Tryz.func168.trans (congrArg some (by kernel_rfl))
  f283 := Tryz.func199.trans (congrArg some (by kernel_rfl))
  f284 := Tryz.func200.trans (congrArg some (by kernel_rfl))
  f285 := Tryz.func201.trans (congrArg some (by kernel_rfl))
  f286 := Tryz.func202.trans (congrArg some (by kernel_rfl))
  f317 := Tryz.func224.trans (congrArg some (by kernel_rfl))
  f318 := Tryz.func226.trans (congrArg some (by kernel_rfl))
  f319 := Tryz.func227.trans (congrArg some (by kernel_rfl))
  f320 := Tryz.func228.trans (congrArg some (by kernel_rfl))
  f337 := Tryz.func247.trans (congrArg some (by kernel_rfl))
  f338 := Tryz.func248.trans (congrArg some (by kernel_rfl))
  t0 := Tryz.underlying0
  a0 := Tryz.isAgg0
  z0 := Tryz.sizeOf0
  v0 := Tryz.zeroValue0
  t2 := Tryz.underlying2
  a2 := Tryz.isAgg2
  z2 := Tryz.sizeOf2
  v2 := Tryz.zeroValue2
  t3 := Tryz.underlying3
  a3 := Tryz.isAgg3
  z3 := Tryz.sizeOf3
  v3 := Tryz.zeroValue3
  t4 := Tryz.underlying4
  a4 := Tryz.isAgg4
  z4 := Tryz.sizeOf4
  v4 := Tryz.zeroValue4
  t5 := Tryz.underlying5
  a5 := Tryz.isAgg5
  z5 := Tryz.sizeOf5
  v5 := Tryz.zeroValue5
  t9 := Tryz.underlying9
  a9 := Tryz.isAgg9
  z9 := Tryz.sizeOf9
  v9 := Tryz.zeroValue9
  t20 := Tryz.underlying20
  a20 := Tryz.isAgg20
  z20 := Tryz.sizeOf20
  v20 := Tryz.zeroValue20
  t37 := Tryz.underlying119
  a37 := Tryz.isAgg119
  z37 := Tryz.sizeOf119
  v37 := Tryz.zeroValue119
  t46 := Tryz.underlying194
  a46 := Tryz.isAgg194
  z46 := Tryz.sizeOf194
  v46 := Tryz.zeroValue194
  t51 := Tryz.underlying76
  a51 := Tryz.isAgg76
  z51 := Tryz.sizeOf76
  v51 := Tryz.zeroValue76
  t53 := Tryz.underlying242
  a53 := Tryz.isAgg242
  z53 := Tryz.sizeOf242
  v53 := Tryz.zeroValue242
  t171 := Tryz.underlying248
  a171 := Tryz.isAgg248
  z171 := Tryz.sizeOf248
  v171 := Tryz.zeroValue248
  t173 := Tryz.underlying251
  a173 := Tryz.isAgg251
  z173 := Tryz.sizeOf251
  v173 := Tryz.zeroValue251
  t212 := Tryz.underlying272
  a212 := Tryz.isAgg272
  z212 := Tryz.sizeOf272
  v212 := Tryz.zeroValue272
  t213 := Tryz.underlying273
  a213 := Tryz.isAgg273
  z213 := Tryz.sizeOf273
  t232 := Tryz.underlying291
  a232 := Tryz.isAgg291
  z232 := Tryz.sizeOf291
  v232 := Tryz.zeroValue291
  t233 := Tryz.underlying292
  a233 := Tryz.isAgg292
  z233 := Tryz.sizeOf292
  v233 := Tryz.zeroValue292
  g17 := by kernel_rfl
  g18 := by kernel_rfl
  g19 := by kernel_rfl
  i0 := by kernel_rfl
  i2 := by kernel_rfl
  i3 := by kernel_rfl
  i4 := by kernel_rfl
  i5 := by kernel_rfl
  i9 := by kernel_rfl
  i20 := by kernel_rfl
  i37 := by kernel_rfl
  i46 := by kernel_rfl
  i51 := by kernel_rfl
  i53 := by kernel_rfl
  i171 := by kernel_rfl
  i173 := by kernel_rfl
  i212 := by kernel_rfl
  i232 := by kernel_rfl
  i233 := by kernel_rfl
  m17 := by kernel_rfl
  m18 := by kernel_rfl
  m19 := by kernel_rfl }
/-! ### What the library's variables hold -/
def Gs (w : World) : Prop := Gl w ∧ (∃ t u, w.cell? ⟨2, 0, none⟩ = some (.iface t u)) ∧ Lib.TabIs Tryz.prog w "internal/strconv.uint64pow10" .u64 Lib.pow10Tab
def GX (X : Nat → Prop) : Prop := X 1 ∧ X 2 ∧ X 3
theorem gTab : Tryz.prog.globalNamed "internal/strconv.uint64pow10" = some 3 := by kernel_rfl
theorem Gs.fr {D : Nat → Prop} {w w' : World} (h : Gs w) (hf : Fr D w w') (h1 : ¬ D 1) (h2 : ¬ D 2) (h3 : ¬ D 3) : Gs w' := by
  obtain ⟨a, ⟨t, u, b⟩, c⟩ := h
  refine ⟨a.fr hf h1, ⟨t, u, hf.cell b h2⟩, ?_⟩
  unfold Lib.TabIs World.var? at *
  simp only [gTab, Option.bind_some] at c ⊢
  have hlt : 3 < w.heap.size := by
    rcases Nat.lt_or_ge 3 w.heap.size with h' | h'
    · exact h'
    · rw [Array.getElem?_eq_none h'] at c; simp at c
  rw [hf.block _ hlt h3]
  exact c
theorem Gs.no {w w' : World} (h : Gs w) (hf : Fr No w w') : Gs w' := h.fr hf id id id
theorem Gs.bb {X : Nat → Prop} {w w' : World} {b : Nat} (h : Gs w) (hf : Fr (fun k => k = b) w w') (hx : GX X) (hb : ¬ X b) : Gs w' :=
  h.fr hf (fun e => hb (by have e : 1 = b := e; rw [← e]; exact hx.1)) (fun e => hb (by have e : 2 = b := e; rw [← e]; exact hx.2.1)) (fun e => hb (by have e : 3 = b := e; rw [← e]; exact hx.2.2))
theorem Gs.gx {w : World} (h : Gs w) : GX (fun k => k < w.heap.size) := by
  obtain ⟨a, ⟨t, u, b⟩, c⟩ := h
  refine ⟨a.lt, World.block_lt_of_cell? w _ b, ?_⟩
  unfold Lib.TabIs World.var? at c
  simp only [gTab, Option.bind_some] at c
  rcases Nat.lt_or_ge 3 w.heap.size with h' | h'
  · exact h'
  · rw [Array.getElem?_eq_none h'] at c; simp at c
/-! ### Atoi, Itoa -/
theorem below_fr0 {w w' : World} (h : Go.RowKit.Below w.heap.size w w') : Fr No w w' := ⟨h.os, h.tape, h.output, h.size, fun k hk _ => h.block k hk⟩
theorem atoi_ok (v : B) (hz : Sz v) (m : Int) (h : Lib.atoiAll v = .ok m) (w : World) : Calls Tryz.prog 74 #[.string (sb v)] w fun e w' => e = .returned (.tuple #[.int .i64 m, .nilIface]) ∧ Fr No w w' := by
  have h1 : (sb v).size = v.length := sb_size v
  refine (Any.strconv_Atoi_ok laysC172 (sb v) (by rw [h1]; unfold Sz at hz; omega) m (by rw [sb_list]; exact h) w).mono ?_
  rintro e w' ⟨rfl, rfl | ⟨t, rfl⟩⟩
  · exact ⟨rfl, Fr.refl _ _⟩
  · exact ⟨rfl, below_fr0 (Lib.bytesWorld_below w _ t)⟩
theorem atoi_bad (v : B) (hz : Sz v) (h : ∀ m, Lib.atoiAll v ≠ .ok m) (w : World) (hG : Gs w) : Calls Tryz.prog 74 #[.string (sb v)] w fun e w' => (∃ m t u, e = .returned (.tuple #[.int .i64 m, .iface t u])) ∧ Fr No w w' := by
  have h1 : (sb v).size = v.length := sb_size v
  have h2 : (sb v).data.toList = v := sb_list v
  obtain ⟨⟨t1, u1, a⟩, ⟨t, u, b⟩, c⟩ := hG
  rcases he : Lib.atoiAll v with m | - | -
  · exact absurd he (h m)
  · refine (Any.strconv_Atoi_syntax laysC172 (sb v) (by rw [h1]; unfold Sz at hz; omega) (by rw [h2]; exact he) _ w a (.inr ⟨_, _, rfl⟩)).mono ?_
    rintro e w' ⟨N, rfl, -, -, hb⟩
    exact ⟨⟨_, _, _, rfl⟩, below_fr0 hb⟩
  · refine (Any.strconv_Atoi_range laysC172 (sb v) (by rw [h1]; unfold Sz at hz; omega) (by rw [h2]; exact he) _ w b (.inr ⟨_, _, rfl⟩)).mono ?_
    rintro e w' ⟨N, rfl, -, -, hb⟩
    exact ⟨⟨_, _, _, rfl⟩, below_fr0 hb⟩
theorem grow_fr (w : World) (n : Nat) (os : Array Obj) : Fr No w (Go.Sort.grow (w.drewN n) os) :=
  ⟨rfl, rfl, rfl, by show w.heap.size ≤ (w.heap ++ os).size; simp, fun k hk _ => by show (w.heap ++ os)[k]? = _; rw [Array.getElem?_append_left hk]⟩
theorem itoa_any (m : Int) (h0 : -9223372036854775808 ≤ m) (h1 : m ≤ 9223372036854775807) (w : World) (hG : Gs w) : Calls Tryz.prog 75 #[.int .i64 m] w fun e w' => e = .returned (.string (sb (Lib.itoa m))) ∧ Fr No w w' := by
  refine (Any.strconv_Itoa laysM171 m h0 h1 w hG.2.2).mono ?_
  rintro e w' ⟨rfl, k, os, rfl⟩
  exact ⟨rfl, grow_fr w k os⟩
end Go.Proofs.YtdkkpfeiaaffhaaGreatDoor.SC

namespace Go.Proofs.YtdkkpfeiaaffhaaGreatDoor.SC
set_option maxRecDepth 100000
open Go.ChangeShapes Go.WideShapes Go.ChangeAt Go.RowKit K Go.Proofs.YtdkkpfeiaaffhaaGreatDoor.BE Go.Proofs.YtdkkpfeiaaffhaaGreatDoor.DN

theorem _root_.Go.Proofs.YtdkkpfeiaaffhaaGreatDoor.DN.ReadsB.int {k fuel : Nat} {w : World} {t : TypeId} {i : IntKind} {cs : List Value} (hu : Tryz.prog.underlying t = some (.int i)) (h : ReadsB k fuel w t cs) : ∃ n, cs = [.int i n] := by
  obtain ⟨H, enc, x, h1, -, -⟩ := h
  obtain ⟨n, r1, -, -⟩ := DataW.trod_int hu h1
  exact ⟨n, r1⟩
theorem _root_.Go.Proofs.YtdkkpfeiaaffhaaGreatDoor.DN.ReadsB.bool {k fuel : Nat} {w : World} {t : TypeId} {cs : List Value} (hu : Tryz.prog.underlying t = some .bool) (h : ReadsB k fuel w t cs) : ∃ b, cs = [.bool b] := by
  obtain ⟨H, enc, x, h1, -, -⟩ := h
  obtain ⟨n, r1, -⟩ := DataW.trod_bool hu h1
  exact ⟨n, r1⟩
theorem _root_.Go.Proofs.YtdkkpfeiaaffhaaGreatDoor.DN.ReadsB.len {k fuel : Nat} {w : World} {t e : TypeId} {a : Option Addr} {n c : Nat} (hu : Tryz.prog.underlying t = some (.slice e)) (h : ReadsB k fuel w t [.slice a n c]) : n * Tryz.prog.bytesOf e ≤ reachBytes := by
  rcases h.slice hu with e1 | ⟨a1, len, cap, f1, -, e1, -, h2, -⟩
  · simp only [List.cons.injEq, Value.slice.injEq, and_true] at e1
    rw [e1.2.1, Nat.zero_mul]
    exact Nat.zero_le _
  · simp only [List.cons.injEq, Value.slice.injEq, and_true] at e1
    rw [e1.2.1]
    exact h2
def LsB (k : Nat) (l : List B) : Prop := l.length ≤ k ∧ ∀ x ∈ l, x.length ≤ k
def TyB (k : Nat) (t : Ty) : Prop := t.nm.length ≤ k
def ClB (k : Nat) (c : Cl) : Prop := c.nm.length ≤ k ∧ c.sup.length ≤ k ∧ LsB k c.must ∧ LsB k c.may
def SchB (k : Nat) (s : Sch) : Prop := (s.tys.length ≤ k ∧ ∀ t ∈ s.tys, TyB k t) ∧ s.cls.length ≤ k ∧ ∀ c ∈ s.cls, ClB k c
def EnB (k : Nat) (en : Ent) : Prop := en.length ≤ k ∧ ∀ a ∈ en, a.1.length ≤ k ∧ LsB k a.2
theorem cTy : Tryz.prog.cellsOf 62 = 6 := by kernel_rfl
theorem cCl : Tryz.prog.cellsOf 71 = 5 := by kernel_rfl
theorem cSc : Tryz.prog.cellsOf 25 = 2 := by kernel_rfl
theorem cAt : Tryz.prog.cellsOf 60 = 2 := by kernel_rfl
theorem cLs : Tryz.prog.cellsOf 44 = 1 := by kernel_rfl
theorem cTys : Tryz.prog.cellsOf 22 = 1 := by kernel_rfl
theorem cCls : Tryz.prog.cellsOf 23 = 1 := by kernel_rfl
theorem cBo : Tryz.prog.cellsOf 4 = 1 := by kernel_rfl
theorem cIn : Tryz.prog.cellsOf 3 = 1 := by kernel_rfl
theorem bS : Tryz.prog.bytesOf 9 = 16 := by kernel_rfl
theorem bTy : 1 ≤ Tryz.prog.bytesOf 62 := by rw [show Tryz.prog.bytesOf 62 = 32 by kernel_rfl]; decide
theorem bCl : 1 ≤ Tryz.prog.bytesOf 71 := by rw [show Tryz.prog.bytesOf 71 = 88 by kernel_rfl]; decide
theorem bAt : 1 ≤ Tryz.prog.bytesOf 60 := by rw [show Tryz.prog.bytesOf 60 = 40 by kernel_rfl]; decide
theorem ls_b {k f : Nat} {w : World} {cs : List Value} (h : ReadsB k f w 44 cs) : ∃ v l, cs = [v] ∧ LsIn (fun i => i < w.heap.size) w v l ∧ LsB k l ∧ l.length * 16 ≤ 140737488351232 := by
  obtain ⟨v, xs, e, h1, h2, h3⟩ := h.rows (p := StC) (q := fun x => x.length ≤ k) Tryz.underlying44 cS (by decide) (by rw [bS]; decide) (fun f1 cs' _ hr => by
    obtain ⟨l, e, h1, h2⟩ := hr.string Tryz.underlying9
    exact ⟨l, ⟨e, h1⟩, h2⟩)
  refine ⟨v, xs, e, h1, ⟨h2, h3⟩, ?_⟩
  obtain ⟨a, cap, rfl, -, -⟩ := Sl.form h1
  subst e
  have := h.len Tryz.underlying44
  rw [bS] at this
  exact this
theorem ty_b {k f : Nat} {w : World} {cs : List Value} (h : ReadsB k f w 62 cs) : ∃ t, TyC t cs ∧ TyB k t := by
  obtain ⟨f1, rfl, hl, hf⟩ := h.struct Tryz.underlying62
  rw [cTy] at hl
  obtain ⟨c0, c1, c2, c3, c4, c5, rfl⟩ : ∃ c0 c1 c2 c3 c4 c5, cs = [c0, c1, c2, c3, c4, c5] := by
    match cs, hl with
    | [c0, c1, c2, c3, c4, c5], _ => exact ⟨c0, c1, c2, c3, c4, c5, rfl⟩
  have k0 : ReadsB k f1 w 9 (([c0, c1, c2, c3, c4, c5].drop 0).take (Tryz.prog.cellsOf 9)) := hf 0 _ rfl
  rw [cS] at k0
  have k1 : ReadsB k f1 w 3 (([c0, c1, c2, c3, c4, c5].drop 1).take (Tryz.prog.cellsOf 3)) := hf 1 _ rfl
  rw [cIn] at k1
  have k2 : ReadsB k f1 w 4 (([c0, c1, c2, c3, c4, c5].drop 2).take (Tryz.prog.cellsOf 4)) := hf 2 _ rfl
  rw [cBo] at k2
  have k3 : ReadsB k f1 w 4 (([c0, c1, c2, c3, c4, c5].drop 3).take (Tryz.prog.cellsOf 4)) := hf 3 _ rfl
  rw [cBo] at k3
  have k4 : ReadsB k f1 w 4 (([c0, c1, c2, c3, c4, c5].drop 4).take (Tryz.prog.cellsOf 4)) := hf 4 _ rfl
  rw [cBo] at k4
  have k5 : ReadsB k f1 w 4 (([c0, c1, c2, c3, c4, c5].drop 5).take (Tryz.prog.cellsOf 4)) := hf 5 _ rfl
  rw [cBo] at k5
  obtain ⟨n, e0, g0, b0⟩ := k0.string Tryz.underlying9
  obtain ⟨s, e1⟩ := k1.int Tryz.underlying3
  obtain ⟨x2, e2⟩ := k2.bool Tryz.underlying4
  obtain ⟨x3, e3⟩ := k3.bool Tryz.underlying4
  obtain ⟨x4, e4⟩ := k4.bool Tryz.underlying4
  obtain ⟨x5, e5⟩ := k5.bool Tryz.underlying4
  simp only [List.drop_zero, List.drop_succ_cons, List.take_succ_cons, List.take_zero, List.cons.injEq, and_true] at e0 e1 e2 e3 e4 e5
  subst e0 e1 e2 e3 e4 e5
  exact ⟨⟨n, s, x2, x3, x4, x5⟩, ⟨rfl, g0⟩, b0⟩
theorem cl_b {k f : Nat} {w : World} {cs : List Value} (h : ReadsB k f w 71 cs) : ∃ c, ClC (fun i => i < w.heap.size) w c cs ∧ ClB k c := by
  obtain ⟨f1, rfl, hl, hf⟩ := h.struct Tryz.underlying71
  rw [cCl] at hl
  obtain ⟨c0, c1, c2, c3, c4, rfl⟩ : ∃ c0 c1 c2 c3 c4, cs = [c0, c1, c2, c3, c4] := by
    match cs, hl with
    | [c0, c1, c2, c3, c4], _ => exact ⟨c0, c1, c2, c3, c4, rfl⟩
  have k0 : ReadsB k f1 w 9 (([c0, c1, c2, c3, c4].drop 0).take (Tryz.prog.cellsOf 9)) := hf 0 _ rfl
  rw [cS] at k0
  have k1 : ReadsB k f1 w 3 (([c0, c1, c2, c3, c4].drop 1).take (Tryz.prog.cellsOf 3)) := hf 1 _ rfl
  rw [cIn] at k1
  have k2 : ReadsB k f1 w 9 (([c0, c1, c2, c3, c4].drop 2).take (Tryz.prog.cellsOf 9)) := hf 2 _ rfl
  rw [cS] at k2
  have k3 : ReadsB k f1 w 44 (([c0, c1, c2, c3, c4].drop 3).take (Tryz.prog.cellsOf 44)) := hf 3 _ rfl
  rw [cLs] at k3
  have k4 : ReadsB k f1 w 44 (([c0, c1, c2, c3, c4].drop 4).take (Tryz.prog.cellsOf 44)) := hf 4 _ rfl
  rw [cLs] at k4
  obtain ⟨n, e0, g0, b0⟩ := k0.string Tryz.underlying9
  obtain ⟨s, e1⟩ := k1.int Tryz.underlying3
  obtain ⟨u, e2, g2, b2⟩ := k2.string Tryz.underlying9
  obtain ⟨v3, l3, e3, g3, b3, n3⟩ := ls_b k3
  obtain ⟨v4, l4, e4, g4, b4, n4⟩ := ls_b k4
  simp only [List.drop_zero, List.drop_succ_cons, List.take_succ_cons, List.take_zero, List.cons.injEq, and_true] at e0 e1 e2 e3 e4
  subst e0 e1 e2 e3 e4
  exact ⟨⟨n, s, u, l3, l4⟩, ⟨c3, c4, rfl, g0, g2, g3, g4, n3, n4⟩, b0, b2, b3, b4⟩
theorem at_b {k f : Nat} {w : World} {cs : List Value} (h : ReadsB k f w 60 cs) : ∃ a : Atr, AtC (fun i => i < w.heap.size) w a cs ∧ a.1.length ≤ k ∧ LsB k a.2 := by
  obtain ⟨f1, rfl, hl, hf⟩ := h.struct Tryz.underlying60
  rw [cAt] at hl
  obtain ⟨c0, c1, rfl⟩ : ∃ c0 c1, cs = [c0, c1] := by
    match cs, hl with
    | [c0, c1], _ => exact ⟨c0, c1, rfl⟩
  have k0 : ReadsB k f1 w 9 (([c0, c1].drop 0).take (Tryz.prog.cellsOf 9)) := hf 0 _ rfl
  rw [cS] at k0
  have k1 : ReadsB k f1 w 44 (([c0, c1].drop 1).take (Tryz.prog.cellsOf 44)) := hf 1 _ rfl
  rw [cLs] at k1
  obtain ⟨n, e0, g0, b0⟩ := k0.string Tryz.underlying9
  obtain ⟨v1, l1, e1, g1, b1, -⟩ := ls_b k1
  simp only [List.drop_zero, List.drop_succ_cons, List.take_succ_cons, List.take_zero, List.cons.injEq, and_true] at e0 e1
  subst e0 e1
  exact ⟨(n, l1), ⟨c1, rfl, g0, g1⟩, b0, b1⟩
theorem en_b {k f : Nat} {w : World} {cs : List Value} (h : ReadsB k f w 38 cs) : ∃ v en, cs = [v] ∧ EnIn (fun i => i < w.heap.size) w v en ∧ EnB k en ∧ en.length * 40 ≤ 140737488351232 := by
  obtain ⟨v, xs, e, h1, h2, h3⟩ := h.rows (p := AtC (fun i => i < w.heap.size) w) (q := fun a : Atr => a.1.length ≤ k ∧ LsB k a.2) Tryz.underlying38 cAt (by decide) bAt (fun f1 cs' _ hr => at_b hr)
  refine ⟨v, xs, e, h1, ⟨h2, h3⟩, ?_⟩
  obtain ⟨a, cap, rfl, -, -⟩ := Sl.form h1
  subst e
  have := h.len Tryz.underlying38
  rw [show Tryz.prog.bytesOf 60 = 40 by kernel_rfl] at this
  exact this
theorem sch_b {k f : Nat} {w : World} {cs : List Value} (h : ReadsB k f w 25 cs) : ∃ vt vc s, cs = [vt, vc] ∧ TysIn (fun i => i < w.heap.size) w vt s.tys ∧ ClsIn (fun i => i < w.heap.size) w vc s.cls ∧ SchB k s := by
  obtain ⟨f1, rfl, hl, hf⟩ := h.struct Tryz.underlying25
  rw [cSc] at hl
  obtain ⟨c0, c1, rfl⟩ : ∃ c0 c1, cs = [c0, c1] := by
    match cs, hl with
    | [c0, c1], _ => exact ⟨c0, c1, rfl⟩
  have k0 : ReadsB k f1 w 22 (([c0, c1].drop 0).take (Tryz.prog.cellsOf 22)) := hf 0 _ rfl
  rw [cTys] at k0
  have k1 : ReadsB k f1 w 23 (([c0, c1].drop 1).take (Tryz.prog.cellsOf 23)) := hf 1 _ rfl
  rw [cCls] at k1
  obtain ⟨v0, l0, e0, g0, b0, d0⟩ := k0.rows (p := TyC) (q := TyB k) Tryz.underlying22 cTy (by decide) bTy (fun f1 cs' _ hr => ty_b hr)
  obtain ⟨v1, l1, e1, g1, b1, d1⟩ := k1.rows (p := ClC (fun i => i < w.heap.size) w) (q := ClB k) Tryz.underlying23 cCl (by decide) bCl (fun f1 cs' _ hr => cl_b hr)
  simp only [List.drop_zero, List.drop_succ_cons, List.take_succ_cons, List.take_zero, List.cons.injEq, and_true] at e0 e1
  subst e0 e1
  exact ⟨c0, c1, ⟨l0, l1⟩, rfl, g0, g1, ⟨b0, d0⟩, b1, d1⟩
section
variable {H : Type} {enc : TypeId × Value → H} {W W' : World} {v : Value} {d : DataW H} {p : List MemPlace} {ts : List TypeId} {ds : List (DataW H)}
theorem arg_en (h : DataW.Trod enc Tryz.prog W 0 (fun _ => true) true 38 v d p) (hv : ∃ a l c, v = .slice a l c) (hsz : (DataW.weightsEach Tryz.prog ts ds).all (· ≤ reachBytes) = true) (j : Nat) (ht : ts[j]? = some 38) (hd : ds[j]? = some d) :
    ∃ en, EnIn (fun i => i < W.heap.size) W v en ∧ EnB (Rows.uptoBulk d) en ∧ en.length * 40 ≤ 140737488351232 := by
  obtain ⟨fuel, hr⟩ := h
  obtain ⟨v', n, e, h1, h2, h3⟩ := en_b (k := Rows.uptoBulk d) (f := fuel) (w := W) (cs := v.cells.toList) ⟨H, enc, _, hr, fun n hn => by simpa using List.all_eq_true.1 hsz n (DataW.weights_mem_each ht hd n hn), Nat.le_refl _⟩
  obtain ⟨a, l, c, rfl⟩ := hv
  have e2 : v' = .slice a l c := by simpa [Value.cells] using e.symm
  subst e2
  exact ⟨n, h1, h2, h3⟩
theorem arg_sch (h : DataW.Trod enc Tryz.prog W 0 (fun _ => true) true 25 v d p) (hv : ∃ cs, v = .agg cs ∧ cs.size = Tryz.prog.cellsOf 25) (hsz : (DataW.weightsEach Tryz.prog ts ds).all (· ≤ reachBytes) = true) (j : Nat) (ht : ts[j]? = some 25) (hd : ds[j]? = some d) :
    ∃ vt vc s, v = .agg #[vt, vc] ∧ TysIn (fun i => i < W.heap.size) W vt s.tys ∧ ClsIn (fun i => i < W.heap.size) W vc s.cls ∧ SchB (Rows.uptoBulk d) s := by
  obtain ⟨fuel, hr⟩ := h
  obtain ⟨cs, rfl, -⟩ := hv
  obtain ⟨vt, vc, s, e, h1, h2, h3⟩ := sch_b (k := Rows.uptoBulk d) (f := fuel) (w := W) (cs := cs.toList) ⟨H, enc, _, by simpa [Value.cells] using hr, fun n hn => by simpa using List.all_eq_true.1 hsz n (DataW.weights_mem_each ht hd n hn), Nat.le_refl _⟩
  refine ⟨vt, vc, s, ?_, h1, h2, h3⟩
  congr 1
  exact Array.toList_inj.1 e
end
theorem gRng : Tryz.prog.globalNamed "strconv.ErrRange" = some 2 := by kernel_rfl
theorem gRngT : (Tryz.prog.globals[2]?).map (·.type) = some 131 := by kernel_rfl
theorem gTabT : (Tryz.prog.globals[3]?).map (·.type) = some 272 := by kernel_rfl
/-- What the functions ask of the package-level variables, out of what the rows list. -/
theorem gs_of {W : World} (h : laidMetH Tryz.prog laid W) : Gs W := by
  have h0 : laidMet Tryz.prog laid W := h
  refine ⟨gl_of h, ?_, ?_⟩
  · obtain ⟨a, s, hv, -⟩ := laid_sentinel (nm := "*errors.errorString") h0.tail.tail.tail gRng gRngT Tryz.underlying131 rowES Tryz.underlying269 Tryz.underlying271 rfl rfl Tryz.underlying9 cES cS
    exact ⟨_, _, by simpa using World.var?_cell gRng hv 0⟩
  · have h2 : laidMet Tryz.prog (("internal/strconv.uint64pow10", Lib.tabData .u64 Lib.pow10Tab) :: [("strconv.ErrRange", Rows.laid_strconv_ErrRange), ("strconv.ErrSyntax", Rows.laid_strconv_ErrSyntax)]) W := h0.tail.tail
    exact Lib.tabIs_of_head gTab gTabT Tryz.underlying272 Tryz.underlying242 (by kernel_rfl) (by kernel_rfl) h2
end Go.Proofs.YtdkkpfeiaaffhaaGreatDoor.SC

namespace Go.Proofs.YtdkkpfeiaaffhaaGreatDoor.SC
set_option maxRecDepth 100000
open Go.RowKit K Go.Proofs.YtdkkpfeiaaffhaaGreatDoor.BE Go.Proofs.YtdkkpfeiaaffhaaGreatDoor.DN

/-- The first place, or -1. -/
def idxI {α : Type} (X : List α) (q : α → Bool) : Int := match X.findIdx? q with | some i => (i : Int) | none => -1
theorem idx_at {α : Type} {X : List α} {q : α → Bool} {i : Nat} {x : α} (h0 : (X.take i).any q = false) (hx : X[i]? = some x) (hq : q x = true) : idxI X q = i := by
  have : X.findIdx? q = some i := by
    obtain ⟨hl, e⟩ := List.getElem?_eq_some_iff.1 hx
    rw [List.findIdx?_eq_some_iff_getElem]
    refine ⟨hl, by rw [e]; exact hq, fun j hj => ?_⟩
    have h1 := List.any_eq_false.1 h0 X[j] (List.mem_take_iff_getElem.2 ⟨j, by omega, rfl⟩)
    exact h1
  unfold idxI
  rw [this]
theorem idx_none {α : Type} {X : List α} {q : α → Bool} (h0 : X.any q = false) : idxI X q = -1 := by
  have : X.findIdx? q = none := List.findIdx?_eq_none_iff.2 fun x hx => by
    have := List.any_eq_false.1 h0 x hx
    simpa using this
  unfold idxI
  rw [this]
theorem idx_any {α : Type} (X : List α) (q : α → Bool) : decide (0 ≤ idxI X q) = X.any q := by
  unfold idxI
  cases h : X.findIdx? q with
  | none =>
    rw [List.findIdx?_eq_none_iff] at h
    rw [List.any_eq_false.2 fun x hx => by rw [h x hx]; decide]
    rfl
  | some i =>
    rw [List.findIdx?_eq_some_iff_getElem] at h
    obtain ⟨hl, e, -⟩ := h
    rw [List.any_eq_true.2 ⟨_, List.getElem_mem hl, e⟩]
    simp
theorem idx_b {α : Type} (X : List α) (q : α → Bool) : -1 ≤ idxI X q ∧ idxI X q < X.length ∨ X = [] ∧ idxI X q = -1 := by
  unfold idxI
  cases h : X.findIdx? q with
  | none => cases X with
    | nil => exact .inr ⟨rfl, rfl⟩
    | cons a r => exact .inl ⟨Int.le_refl _, by simp only [List.length_cons]; omega⟩
  | some i =>
    have := (List.findIdx?_eq_some_iff_getElem.1 h).1
    exact .inl ⟨by simp only []; omega, by simp only []; omega⟩
set_option maxHeartbeats 8000000 in
theorem indexTy {α : Type} (f : FuncId) (cap : List Value) (q : α → Bool) (p : World → α → List Value → Prop) (D : Nat → Prop) (I : World → Prop) (E : Nat → Prop) (v0 : Value) (X : List α) (w : World) (hp : ∀ w w' x c, p w x c → Fr D w w' → p w' x c) (hD : ∀ i, E i → i < w.heap.size → ¬ D i) (hI : I w)
    (h0 : Sl 6 (p w) E w v0 X) (hent : ∀ (vs : Array Value) (w : World), (callFunc f vs).run Tryz.prog w = .ok (.enter f vs) w)
    (hf : ∀ x ∈ X, ∀ c wv, p wv x c → I wv → Fr D w wv → Calls Tryz.prog f (Value.agg c.toArray :: cap).toArray wv fun e w' => e = .returned (.bool (q x)) ∧ I w' ∧ Fr D wv w') :
    Calls Tryz.prog 147 #[v0, .func (.func f) #[] cap.toArray] w fun e w' => e = .returned (.int .i64 (idxI X q)) ∧ I w' ∧ Fr D w w' := by
  obtain ⟨a, c, rfl, -, hl0⟩ := h0.form
  have HX0 := hid h0
  obtain ⟨n, hn⟩ : ∃ n, X.length = n := ⟨_, rfl⟩
  rw [hn] at HX0 hl0 ⊢
  have HNN := hid hn; have HP := hid hp; have HE := hid hent; have HF := hid hf; have HD := hid hD; have HI0 := hid hI
  obtain ⟨R, hR⟩ : ∃ R, idxI X q = R := ⟨_, rfl⟩
  rw [hR]
  have HR := hid hR
  have hni : (n : Int) ≤ 140737488351232 := by omega
  clear hp h0 hent hf hn hR hD hI
  go_enter Tryz.func147, Tryz.ntmps147
  go_wp2_with fail
  go_loopw [8] (fun iv wr => ∃ (i : Nat), iv = .int .i64 i ∧ i ≤ n ∧ Hid ((X.take i).any q = false ∧ I wr ∧ Fr D w wr)) (fun iv _ => n - (intOf iv).toNat)
  case atStart => exact ⟨0, rfl, Nat.zero_le _, hid ⟨rfl, HI0.out, Fr.refl _ _⟩⟩
  case round =>
    obtain ⟨i, rfl, hi, HI⟩ := hrel
    by_cases hlt : i < n
    · have hiX : i < X.length := by rw [HNN.out]; exact hlt
      obtain ⟨x, hx⟩ : ∃ x, X[i]? = some x := ⟨_, List.getElem?_eq_getElem hiX⟩
      have HXM := hid (List.mem_of_getElem? hx)
      have HXX := hid hx
      have HNX : Hid ((X.take (i + 1)).any q = (q x || false)) := hid (by
        have hxx : X[i] = x := by rw [List.getElem?_eq_getElem hiX] at hx; exact Option.some.inj hx
        rw [List.take_succ_eq_append_getElem hiX, List.any_append, HI.out.1, hxx]; simp)
      have hlti : (i : Int) < n := by omega
      have hi0 : (0 : Int) ≤ i := by omega
      obtain ⟨g, o, cp, c, e1, hEg, hgw, hr, hc, hxa⟩ := (HX0.out.fr HI.out.2.2 HD.out (fun x c _ h => HP.out _ _ x c h HI.out.2.2)).get hx
      rw [HNN.out] at e1
      simp only [Value.slice.injEq, true_and] at e1
      obtain ⟨rfl, rfl⟩ := e1
      have HXA := hid hxa; have HC := hid hc; have HRR := hid hr
      have HI3 : Hid ((Tryz.prog.info? 62).map (·.size) = some c.length) := hid (by rw [hc]; exact infoTy)
      clear hc hEg hgw hr hxa hx
      go_wp2_with (first
        | ((with_reducible refine K.atO (.load 62 _) ?_); refine wpL_load rfl _ _ rfl g (o + i * 6) rfl c _ HRR.out rfl rfl HI3.out ?_)
        | ((with_reducible refine K.atO (.call { callee := .value _, args := _, argTypes := _ }) ?_); refine wpL_callP rfl _ [_] _ rfl f cap rfl HE.out (Value.agg c.toArray :: cap) rfl ?_)
        | fail)
      refine (HF.out x HXM.out c wr HXA.out HI.out.2.1 HI.out.2.2).mono ?_
      rintro e w4 ⟨rfl, i4, f4⟩
      refine .inl ⟨_, rfl, ?_⟩
      have HF4 := hid (HI.out.2.2.trans' f4)
      have HI4 := hid i4
      have HLT := hid hlt
      clear f4 i4 hlt
      cases hq : q x with
      | true =>
        have HQ := hid hq
        clear hq
        go_wp2_with fail
        go_ret
        exact ⟨by rw [← HR.out, idx_at HI.out.1 HXX.out HQ.out]; rfl, HI4.out, HF4.out⟩
      | false =>
        have HQ := hid hq
        clear hq
        go_wp2_with fail
        go_roundw
        case rel => exact ⟨i + 1, by go_num, HLT.out, hid ⟨by rw [HNX.out, HQ.out]; rfl, HI4.out, HF4.out⟩⟩
        case measure => have := HLT.out; simp [intOf]; omega
    · obtain rfl : i = n := by omega
      go_wp2_with fail
      go_ret
      refine ⟨?_, HI.out.2.1, HI.out.2.2⟩
      have h1 := HI.out.1
      rw [List.take_of_length_le (by rw [HNN.out]; exact Nat.le_refl _)] at h1
      rw [← HR.out, idx_none h1]
      rfl
set_option maxHeartbeats 8000000 in
theorem indexCl {α : Type} (f : FuncId) (cap : List Value) (q : α → Bool) (p : World → α → List Value → Prop) (D : Nat → Prop) (I : World → Prop) (E : Nat → Prop) (v0 : Value) (X : List α) (w : World) (hp : ∀ w w' x c, p w x c → Fr D w w' → p w' x c) (hD : ∀ i, E i → i < w.heap.size → ¬ D i) (hI : I w)
    (h0 : Sl 5 (p w) E w v0 X) (hent : ∀ (vs : Array Value) (w : World), (callFunc f vs).run Tryz.prog w = .ok (.enter f vs) w)
    (hf : ∀ x ∈ X, ∀ c wv, p wv x c → I wv → Fr D w wv → Calls Tryz.prog f (Value.agg c.toArray :: cap).toArray wv fun e w' => e = .returned (.bool (q x)) ∧ I w' ∧ Fr D wv w') :
    Calls Tryz.prog 183 #[v0, .func (.func f) #[] cap.toArray] w fun e w' => e = .returned (.int .i64 (idxI X q)) ∧ I w' ∧ Fr D w w' := by
  obtain ⟨a, c, rfl, -, hl0⟩ := h0.form
  have HX0 := hid h0
  obtain ⟨n, hn⟩ : ∃ n, X.length = n := ⟨_, rfl⟩
  rw [hn] at HX0 hl0 ⊢
  have HNN := hid hn; have HP := hid hp; have HE := hid hent; have HF := hid hf; have HD := hid hD; have HI0 := hid hI
  obtain ⟨R, hR⟩ : ∃ R, idxI X q = R := ⟨_, rfl⟩
  rw [hR]
  have HR := hid hR
  have hni : (n : Int) ≤ 140737488351232 := by omega
  clear hp h0 hent hf hn hR hD hI
  go_enter Tryz.func183, Tryz.ntmps183
  go_wp2_with fail
  go_loopw [8] (fun iv wr => ∃ (i : Nat), iv = .int .i64 i ∧ i ≤ n ∧ Hid ((X.take i).any q = false ∧ I wr ∧ Fr D w wr)) (fun iv _ => n - (intOf iv).toNat)
  case atStart => exact ⟨0, rfl, Nat.zero_le _, hid ⟨rfl, HI0.out, Fr.refl _ _⟩⟩
  case round =>
    obtain ⟨i, rfl, hi, HI⟩ := hrel
    by_cases hlt : i < n
    · have hiX : i < X.length := by rw [HNN.out]; exact hlt
      obtain ⟨x, hx⟩ : ∃ x, X[i]? = some x := ⟨_, List.getElem?_eq_getElem hiX⟩
      have HXM := hid (List.mem_of_getElem? hx)
      have HXX := hid hx
      have HNX : Hid ((X.take (i + 1)).any q = (q x || false)) := hid (by
        have hxx : X[i] = x := by rw [List.getElem?_eq_getElem hiX] at hx; exact Option.some.inj hx
        rw [List.take_succ_eq_append_getElem hiX, List.any_append, HI.out.1, hxx]; simp)
      have hlti : (i : Int) < n := by omega
      have hi0 : (0 : Int) ≤ i := by omega
      obtain ⟨g, o, cp, c, e1, hEg, hgw, hr, hc, hxa⟩ := (HX0.out.fr HI.out.2.2 HD.out (fun x c _ h => HP.out _ _ x c h HI.out.2.2)).get hx
      rw [HNN.out] at e1
      simp only [Value.slice.injEq, true_and] at e1
      obtain ⟨rfl, rfl⟩ := e1
      have HXA := hid hxa; have HC := hid hc; have HRR := hid hr
      have HI3 : Hid ((Tryz.prog.info? 71).map (·.size) = some c.length) := hid (by rw [hc]; exact infoCl)
      clear hc hEg hgw hr hxa hx
      go_wp2_with (first
        | ((with_reducible refine K.atO (.load 71 _) ?_); refine wpL_load rfl _ _ rfl g (o + i * 5) rfl c _ HRR.out rfl rfl HI3.out ?_)
        | ((with_reducible refine K.atO (.call { callee := .value _, args := _, argTypes := _ }) ?_); refine wpL_callP rfl _ [_] _ rfl f cap rfl HE.out (Value.agg c.toArray :: cap) rfl ?_)
        | fail)
      refine (HF.out x HXM.out c wr HXA.out HI.out.2.1 HI.out.2.2).mono ?_
      rintro e w4 ⟨rfl, i4, f4⟩
      refine .inl ⟨_, rfl, ?_⟩
      have HF4 := hid (HI.out.2.2.trans' f4)
      have HI4 := hid i4
      have HLT := hid hlt
      clear f4 i4 hlt
      cases hq : q x with
      | true =>
        have HQ := hid hq
        clear hq
        go_wp2_with fail
        go_ret
        exact ⟨by rw [← HR.out, idx_at HI.out.1 HXX.out HQ.out]; rfl, HI4.out, HF4.out⟩
      | false =>
        have HQ := hid hq
        clear hq
        go_wp2_with fail
        go_roundw
        case rel => exact ⟨i + 1, by go_num, HLT.out, hid ⟨by rw [HNX.out, HQ.out]; rfl, HI4.out, HF4.out⟩⟩
        case measure => have := HLT.out; simp [intOf]; omega
    · obtain rfl : i = n := by omega
      go_wp2_with fail
      go_ret
      refine ⟨?_, HI.out.2.1, HI.out.2.2⟩
      have h1 := HI.out.1
      rw [List.take_of_length_le (by rw [HNN.out]; exact Nat.le_refl _)] at h1
      rw [← HR.out, idx_none h1]
      rfl
set_option maxHeartbeats 8000000 in
theorem indexAt {α : Type} (f : FuncId) (cap : List Value) (q : α → Bool) (p : World → α → List Value → Prop) (D : Nat → Prop) (I : World → Prop) (E : Nat → Prop) (v0 : Value) (X : List α) (w : World) (hp : ∀ w w' x c, p w x c → Fr D w w' → p w' x c) (hD : ∀ i, E i → i < w.heap.size → ¬ D i) (hI : I w)
    (h0 : Sl 2 (p w) E w v0 X) (hent : ∀ (vs : Array Value) (w : World), (callFunc f vs).run Tryz.prog w = .ok (.enter f vs) w)
    (hf : ∀ x ∈ X, ∀ c wv, p wv x c → I wv → Fr D w wv → Calls Tryz.prog f (Value.agg c.toArray :: cap).toArray wv fun e w' => e = .returned (.bool (q x)) ∧ I w' ∧ Fr D wv w') :
    Calls Tryz.prog 80 #[v0, .func (.func f) #[] cap.toArray] w fun e w' => e = .returned (.int .i64 (idxI X q)) ∧ I w' ∧ Fr D w w' := by
  obtain ⟨a, c, rfl, -, hl0⟩ := h0.form
  have HX0 := hid h0
  obtain ⟨n, hn⟩ : ∃ n, X.length = n := ⟨_, rfl⟩
  rw [hn] at HX0 hl0 ⊢
  have HNN := hid hn; have HP := hid hp; have HE := hid hent; have HF := hid hf; have HD := hid hD; have HI0 := hid hI
  obtain ⟨R, hR⟩ : ∃ R, idxI X q = R := ⟨_, rfl⟩
  rw [hR]
  have HR := hid hR
  have hni : (n : Int) ≤ 140737488351232 := by omega
  clear hp h0 hent hf hn hR hD hI
  go_enter Tryz.func80, Tryz.ntmps80
  go_wp2_with fail
  go_loopw [8] (fun iv wr => ∃ (i : Nat), iv = .int .i64 i ∧ i ≤ n ∧ Hid ((X.take i).any q = false ∧ I wr ∧ Fr D w wr)) (fun iv _ => n - (intOf iv).toNat)
  case atStart => exact ⟨0, rfl, Nat.zero_le _, hid ⟨rfl, HI0.out, Fr.refl _ _⟩⟩
  case round =>
    obtain ⟨i, rfl, hi, HI⟩ := hrel
    by_cases hlt : i < n
    · have hiX : i < X.length := by rw [HNN.out]; exact hlt
      obtain ⟨x, hx⟩ : ∃ x, X[i]? = some x := ⟨_, List.getElem?_eq_getElem hiX⟩
      have HXM := hid (List.mem_of_getElem? hx)
      have HXX := hid hx
      have HNX : Hid ((X.take (i + 1)).any q = (q x || false)) := hid (by
        have hxx : X[i] = x := by rw [List.getElem?_eq_getElem hiX] at hx; exact Option.some.inj hx
        rw [List.take_succ_eq_append_getElem hiX, List.any_append, HI.out.1, hxx]; simp)
      have hlti : (i : Int) < n := by omega
      have hi0 : (0 : Int) ≤ i := by omega
      obtain ⟨g, o, cp, c, e1, hEg, hgw, hr, hc, hxa⟩ := (HX0.out.fr HI.out.2.2 HD.out (fun x c _ h => HP.out _ _ x c h HI.out.2.2)).get hx
      rw [HNN.out] at e1
      simp only [Value.slice.injEq, true_and] at e1
      obtain ⟨rfl, rfl⟩ := e1
      have HXA := hid hxa; have HC := hid hc; have HRR := hid hr
      have HI3 : Hid ((Tryz.prog.info? 60).map (·.size) = some c.length) := hid (by rw [hc]; exact infoAt)
      clear hc hEg hgw hr hxa hx
      go_wp2_with (first
        | ((with_reducible refine K.atO (.load 60 _) ?_); refine wpL_load rfl _ _ rfl g (o + i * 2) rfl c _ HRR.out rfl rfl HI3.out ?_)
        | ((with_reducible refine K.atO (.call { callee := .value _, args := _, argTypes := _ }) ?_); refine wpL_callP rfl _ [_] _ rfl f cap rfl HE.out (Value.agg c.toArray :: cap) rfl ?_)
        | fail)
      refine (HF.out x HXM.out c wr HXA.out HI.out.2.1 HI.out.2.2).mono ?_
      rintro e w4 ⟨rfl, i4, f4⟩
      refine .inl ⟨_, rfl, ?_⟩
      have HF4 := hid (HI.out.2.2.trans' f4)
      have HI4 := hid i4
      have HLT := hid hlt
      clear f4 i4 hlt
      cases hq : q x with
      | true =>
        have HQ := hid hq
        clear hq
        go_wp2_with fail
        go_ret
        exact ⟨by rw [← HR.out, idx_at HI.out.1 HXX.out HQ.out]; rfl, HI4.out, HF4.out⟩
      | false =>
        have HQ := hid hq
        clear hq
        go_wp2_with fail
        go_roundw
        case rel => exact ⟨i + 1, by go_num, HLT.out, hid ⟨by rw [HNX.out, HQ.out]; rfl, HI4.out, HF4.out⟩⟩
        case measure => have := HLT.out; simp [intOf]; omega
    · obtain rfl : i = n := by omega
      go_wp2_with fail
      go_ret
      refine ⟨?_, HI.out.2.1, HI.out.2.2⟩
      have h1 := HI.out.1
      rw [List.take_of_length_le (by rw [HNN.out]; exact Nat.le_refl _)] at h1
      rw [← HR.out, idx_none h1]
      rfl
set_option maxHeartbeats 8000000 in
theorem indexS {α : Type} (f : FuncId) (cap : List Value) (q : α → Bool) (p : World → α → Value → Prop) (D : Nat → Prop) (I : World → Prop) (E : Nat → Prop) (v0 : Value) (X : List α) (w : World) (hp : ∀ w w' x c, p w x c → Fr D w w' → p w' x c) (hD : ∀ i, E i → i < w.heap.size → ¬ D i) (hI : I w)
    (h0 : Sl 1 (fun x c => ∃ v, c = [v] ∧ p w x v) E w v0 X) (hent : ∀ (vs : Array Value) (w : World), (callFunc f vs).run Tryz.prog w = .ok (.enter f vs) w)
    (hf : ∀ x ∈ X, ∀ c wv, p wv x c → I wv → Fr D w wv → Calls Tryz.prog f (c :: cap).toArray wv fun e w' => e = .returned (.bool (q x)) ∧ I w' ∧ Fr D wv w') :
    Calls Tryz.prog 150 #[v0, .func (.func f) #[] cap.toArray] w fun e w' => e = .returned (.int .i64 (idxI X q)) ∧ I w' ∧ Fr D w w' := by
  obtain ⟨a, c, rfl, -, hl0⟩ := h0.form
  have HX0 := hid h0
  obtain ⟨n, hn⟩ : ∃ n, X.length = n := ⟨_, rfl⟩
  rw [hn] at HX0 hl0 ⊢
  have HNN := hid hn; have HP := hid hp; have HE := hid hent; have HF := hid hf; have HD := hid hD; have HI0 := hid hI
  obtain ⟨R, hR⟩ : ∃ R, idxI X q = R := ⟨_, rfl⟩
  rw [hR]
  have HR := hid hR
  have hni : (n : Int) ≤ 140737488351232 := by omega
  clear hp h0 hent hf hn hR hD hI
  go_enter Tryz.func150, Tryz.ntmps150
  go_wp2_with fail
  go_loopw [8] (fun iv wr => ∃ (i : Nat), iv = .int .i64 i ∧ i ≤ n ∧ Hid ((X.take i).any q = false ∧ I wr ∧ Fr D w wr)) (fun iv _ => n - (intOf iv).toNat)
  case atStart => exact ⟨0, rfl, Nat.zero_le _, hid ⟨rfl, HI0.out, Fr.refl _ _⟩⟩
  case round =>
    obtain ⟨i, rfl, hi, HI⟩ := hrel
    by_cases hlt : i < n
    · have hiX : i < X.length := by rw [HNN.out]; exact hlt
      obtain ⟨x, hx⟩ : ∃ x, X[i]? = some x := ⟨_, List.getElem?_eq_getElem hiX⟩
      have HXM := hid (List.mem_of_getElem? hx)
      have HXX := hid hx
      have HNX : Hid ((X.take (i + 1)).any q = (q x || false)) := hid (by
        have hxx : X[i] = x := by rw [List.getElem?_eq_getElem hiX] at hx; exact Option.some.inj hx
        rw [List.take_succ_eq_append_getElem hiX, List.any_append, HI.out.1, hxx]; simp)
      have hlti : (i : Int) < n := by omega
      have hi0 : (0 : Int) ≤ i := by omega
      obtain ⟨g, o, cp, c, e1, hEg, hgw, hr, hc, hxa⟩ := (Sl.fr (p' := fun x c => ∃ v, c = [v] ∧ p wr x v) HX0.out HI.out.2.2 HD.out (fun x c _ h => ⟨h.choose, h.choose_spec.1, HP.out _ _ x _ h.choose_spec.2 HI.out.2.2⟩)).get hx
      rw [HNN.out] at e1
      simp only [Value.slice.injEq, true_and] at e1
      obtain ⟨rfl, rfl⟩ := e1
      obtain ⟨c, rfl, hxa⟩ := hxa
      have hcell : wr.cell? ⟨g, o + i, none⟩ = some c := by have := hr 0 c rfl; simpa using this
      have HXA := hid hxa
      clear hc hEg hgw hr hxa hx
      go_wp2_with (first
        | ((with_reducible refine K.atO (.call { callee := .value _, args := _, argTypes := _ }) ?_); refine wpL_callP rfl _ [_] _ rfl f cap rfl HE.out (c :: cap) rfl ?_)
        | fail)
      refine (HF.out x HXM.out c wr HXA.out HI.out.2.1 HI.out.2.2).mono ?_
      rintro e w4 ⟨rfl, i4, f4⟩
      refine .inl ⟨_, rfl, ?_⟩
      have HF4 := hid (HI.out.2.2.trans' f4)
      have HI4 := hid i4
      have HLT := hid hlt
      clear f4 i4 hlt
      cases hq : q x with
      | true =>
        have HQ := hid hq
        clear hq
        go_wp2_with fail
        go_ret
        exact ⟨by rw [← HR.out, idx_at HI.out.1 HXX.out HQ.out]; rfl, HI4.out, HF4.out⟩
      | false =>
        have HQ := hid hq
        clear hq
        go_wp2_with fail
        go_roundw
        case rel => exact ⟨i + 1, by go_num, HLT.out, hid ⟨by rw [HNX.out, HQ.out]; rfl, HI4.out, HF4.out⟩⟩
        case measure => have := HLT.out; simp [intOf]; omega
    · obtain rfl : i = n := by omega
      go_wp2_with fail
      go_ret
      refine ⟨?_, HI.out.2.1, HI.out.2.2⟩
      have h1 := HI.out.1
      rw [List.take_of_length_le (by rw [HNN.out]; exact Nat.le_refl _)] at h1
      rw [← HR.out, idx_none h1]
      rfl
theorem containsS {α : Type} (f : FuncId) (cap : List Value) (q : α → Bool) (p : World → α → Value → Prop) (D : Nat → Prop) (I : World → Prop) (E : Nat → Prop) (v0 : Value) (X : List α) (w : World) (hp : ∀ w w' x c, p w x c → Fr D w w' → p w' x c) (hD : ∀ i, E i → i < w.heap.size → ¬ D i) (hI : I w)
    (h0 : Sl 1 (fun x c => ∃ v, c = [v] ∧ p w x v) E w v0 X) (hent : ∀ (vs : Array Value) (w : World), (callFunc f vs).run Tryz.prog w = .ok (.enter f vs) w)
    (hf : ∀ x ∈ X, ∀ c wv, p wv x c → I wv → Fr D w wv → Calls Tryz.prog f (c :: cap).toArray wv fun e w' => e = .returned (.bool (q x)) ∧ I w' ∧ Fr D wv w') :
    Calls Tryz.prog 109 #[v0, .func (.func f) #[] cap.toArray] w fun e w' => e = .returned (.bool (X.any q)) ∧ I w' ∧ Fr D w w' := by
  have H := hid (indexS f cap q p D I E v0 X w hp hD hI h0 hent hf)
  obtain ⟨a, c, rfl, -, -⟩ := h0.form
  obtain ⟨R, hR⟩ : ∃ R, X.any q = R := ⟨_, rfl⟩
  obtain ⟨m, hm⟩ : ∃ m, idxI X q = m := ⟨_, rfl⟩
  have HM : Hid (decide (0 ≤ m) = R) := hid (by rw [← hm, ← hR]; exact idx_any X q)
  obtain ⟨n, hn⟩ : ∃ n, X.length = n := ⟨_, rfl⟩
  rw [hm, hn] at H
  rw [hR, hn]
  clear hp h0 hent hf hR hn hm hD hI
  go_enter Tryz.func109, Tryz.ntmps109
  go_wp2_with fail
  refine H.out.mono ?_
  rintro e w2 ⟨rfl, i2, f2⟩
  have HF := hid f2; have HI2 := hid i2
  clear f2 i2
  go_wp2_with fail
  go_ret
  exact ⟨by rw [← HM.out]; rfl, HI2.out, HF.out⟩
set_option maxHeartbeats 8000000 in
theorem indexN {α : Type} (f : FuncId) (cap : List Value) (q : α → Bool) (p : World → α → Value → Prop) (D : Nat → Prop) (I : World → Prop) (E : Nat → Prop) (v0 : Value) (X : List α) (w : World) (hp : ∀ w w' x c, p w x c → Fr D w w' → p w' x c) (hD : ∀ i, E i → i < w.heap.size → ¬ D i) (hI : I w)
    (h0 : Sl 1 (fun x c => ∃ v, c = [v] ∧ p w x v) E w v0 X) (hent : ∀ (vs : Array Value) (w : World), (callFunc f vs).run Tryz.prog w = .ok (.enter f vs) w)
    (hf : ∀ x ∈ X, ∀ c wv, p wv x c → I wv → Fr D w wv → Calls Tryz.prog f (c :: cap).toArray wv fun e w' => e = .returned (.bool (q x)) ∧ I w' ∧ Fr D wv w') :
    Calls Tryz.prog 126 #[v0, .func (.func f) #[] cap.toArray] w fun e w' => e = .returned (.int .i64 (idxI X q)) ∧ I w' ∧ Fr D w w' := by
  obtain ⟨a, c, rfl, -, hl0⟩ := h0.form
  have HX0 := hid h0
  obtain ⟨n, hn⟩ : ∃ n, X.length = n := ⟨_, rfl⟩
  rw [hn] at HX0 hl0 ⊢
  have HNN := hid hn; have HP := hid hp; have HE := hid hent; have HF := hid hf; have HD := hid hD; have HI0 := hid hI
  obtain ⟨R, hR⟩ : ∃ R, idxI X q = R := ⟨_, rfl⟩
  rw [hR]
  have HR := hid hR
  have hni : (n : Int) ≤ 140737488351232 := by omega
  clear hp h0 hent hf hn hR hD hI
  go_enter Tryz.func126, Tryz.ntmps126
  go_wp2_with fail
  go_loopw [8] (fun iv wr => ∃ (i : Nat), iv = .int .i64 i ∧ i ≤ n ∧ Hid ((X.take i).any q = false ∧ I wr ∧ Fr D w wr)) (fun iv _ => n - (intOf iv).toNat)
  case atStart => exact ⟨0, rfl, Nat.zero_le _, hid ⟨rfl, HI0.out, Fr.refl _ _⟩⟩
  case round =>
    obtain ⟨i, rfl, hi, HI⟩ := hrel
    by_cases hlt : i < n
    · have hiX : i < X.length := by rw [HNN.out]; exact hlt
      obtain ⟨x, hx⟩ : ∃ x, X[i]? = some x := ⟨_, List.getElem?_eq_getElem hiX⟩
      have HXM := hid (List.mem_of_getElem? hx)
      have HXX := hid hx
      have HNX : Hid ((X.take (i + 1)).any q = (q x || false)) := hid (by
        have hxx : X[i] = x := by rw [List.getElem?_eq_getElem hiX] at hx; exact Option.some.inj hx
        rw [List.take_succ_eq_append_getElem hiX, List.any_append, HI.out.1, hxx]; simp)
      have hlti : (i : Int) < n := by omega
      have hi0 : (0 : Int) ≤ i := by omega
      obtain ⟨g, o, cp, c, e1, hEg, hgw, hr, hc, hxa⟩ := (Sl.fr (p' := fun x c => ∃ v, c = [v] ∧ p wr x v) HX0.out HI.out.2.2 HD.out (fun x c _ h => ⟨h.choose, h.choose_spec.1, HP.out _ _ x _ h.choose_spec.2 HI.out.2.2⟩)).get hx
      rw [HNN.out] at e1
      simp only [Value.slice.injEq, true_and] at e1
      obtain ⟨rfl, rfl⟩ := e1
      obtain ⟨c, rfl, hxa⟩ := hxa
      have hcell : wr.cell? ⟨g, o + i, none⟩ = some c := by have := hr 0 c rfl; simpa using this
      have HXA := hid hxa
      clear hc hEg hgw hr hxa hx
      go_wp2_with (first
        | ((with_reducible refine K.atO (.call { callee := .value _, args := _, argTypes := _ }) ?_); refine wpL_callP rfl _ [_] _ rfl f cap rfl HE.out (c :: cap) rfl ?_)
        | fail)
      refine (HF.out x HXM.out c wr HXA.out HI.out.2.1 HI.out.2.2).mono ?_
      rintro e w4 ⟨rfl, i4, f4⟩
      refine .inl ⟨_, rfl, ?_⟩
      have HF4 := hid (HI.out.2.2.trans' f4)
      have HI4 := hid i4
      have HLT := hid hlt
      clear f4 i4 hlt
      cases hq : q x with
      | true =>
        have HQ := hid hq
        clear hq
        go_wp2_with fail
        go_ret
        exact ⟨by rw [← HR.out, idx_at HI.out.1 HXX.out HQ.out]; rfl, HI4.out, HF4.out⟩
      | false =>
        have HQ := hid hq
        clear hq
        go_wp2_with fail
        go_roundw
        case rel => exact ⟨i + 1, by go_num, HLT.out, hid ⟨by rw [HNX.out, HQ.out]; rfl, HI4.out, HF4.out⟩⟩
        case measure => have := HLT.out; simp [intOf]; omega
    · obtain rfl : i = n := by omega
      go_wp2_with fail
      go_ret
      refine ⟨?_, HI.out.2.1, HI.out.2.2⟩
      have h1 := HI.out.1
      rw [List.take_of_length_le (by rw [HNN.out]; exact Nat.le_refl _)] at h1
      rw [← HR.out, idx_none h1]
      rfl
theorem containsN {α : Type} (f : FuncId) (cap : List Value) (q : α → Bool) (p : World → α → Value → Prop) (D : Nat → Prop) (I : World → Prop) (E : Nat → Prop) (v0 : Value) (X : List α) (w : World) (hp : ∀ w w' x c, p w x c → Fr D w w' → p w' x c) (hD : ∀ i, E i → i < w.heap.size → ¬ D i) (hI : I w)
    (h0 : Sl 1 (fun x c => ∃ v, c = [v] ∧ p w x v) E w v0 X) (hent : ∀ (vs : Array Value) (w : World), (callFunc f vs).run Tryz.prog w = .ok (.enter f vs) w)
    (hf : ∀ x ∈ X, ∀ c wv, p wv x c → I wv → Fr D w wv → Calls Tryz.prog f (c :: cap).toArray wv fun e w' => e = .returned (.bool (q x)) ∧ I w' ∧ Fr D wv w') :
    Calls Tryz.prog 82 #[v0, .func (.func f) #[] cap.toArray] w fun e w' => e = .returned (.bool (X.any q)) ∧ I w' ∧ Fr D w w' := by
  have H := hid (indexN f cap q p D I E v0 X w hp hD hI h0 hent hf)
  obtain ⟨a, c, rfl, -, -⟩ := h0.form
  obtain ⟨R, hR⟩ : ∃ R, X.any q = R := ⟨_, rfl⟩
  obtain ⟨m, hm⟩ : ∃ m, idxI X q = m := ⟨_, rfl⟩
  have HM : Hid (decide (0 ≤ m) = R) := hid (by rw [← hm, ← hR]; exact idx_any X q)
  obtain ⟨n, hn⟩ : ∃ n, X.length = n := ⟨_, rfl⟩
  rw [hm, hn] at H
  rw [hR, hn]
  clear hp h0 hent hf hR hn hm hD hI
  go_enter Tryz.func82, Tryz.ntmps82
  go_wp2_with fail
  refine H.out.mono ?_
  rintro e w2 ⟨rfl, i2, f2⟩
  have HF := hid f2; have HI2 := hid i2
  clear f2 i2
  go_wp2_with fail
  go_ret
  exact ⟨by rw [← HM.out]; rfl, HI2.out, HF.out⟩
end Go.Proofs.YtdkkpfeiaaffhaaGreatDoor.SC
