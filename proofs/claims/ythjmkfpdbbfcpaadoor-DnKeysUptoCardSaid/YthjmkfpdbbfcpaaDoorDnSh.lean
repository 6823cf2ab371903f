/-
  The library's Join, FieldsFunc and Builder, as the library of contracts has them, at this program.
-/
import Derived.Shelf.Strings.Builder1
import Derived.Shelf.Strings.OnBuilder
import Derived.Shelf.Strings.FieldsFuncAny
import Derived.Test.YthjmkfpdbbfcpaaDoorChecked
import Derived.Test.YthjmkfpdbbfcpaaDoorDnX
import Derived.Test.YthjmkfpdbbfcpaaDoorDnW
set_option linter.unusedVariables false
set_option linter.unusedSimpArgs false
namespace Go.Proofs.YthjmkfpdbbfcpaaDoor.DN
set_option maxRecDepth 100000
open Go.Shelf Go.RowKit K Go.Proofs.YthjmkfpdbbfcpaaDoor.BE

def lays156_ren : Go.Shelf.Ren := ⟨fun | 167 => 24 | 156 => 31 | 165 => 40 | 166 => 23 | 169 => 25 | 240 => 39 | 241 => 52 | 276 => 51 | 277 => 61 | n => n, fun | 31 => 59 | 9 => 9 | 3 => 3 | 4 => 4 | 0 => 0 | 20 => 20 | 72 => 47 | 76 => 53 | 70 => 44 | 37 => 45 | 75 => 52 | 127 => 71 | 164 => 86 | 5 => 5 | 80 => 56 | n => n, fun | n => n⟩
theorem lays156 : Go.Proofs.Lays.n156 Tryd.prog lays156_ren := {
  mixed := by kernel_rfl
  f156 := Tryd.func31.trans (congrArg some (by kernel_rfl))
  f165 := Tryd.func40.trans (congrArg some (by kernel_rfl))
  f166 := Tryd.func23.trans (congrArg some (by kernel_rfl))
  f169 := Tryd.func25.trans (congrArg some (by kernel_rfl))
  f240 := Tryd.func39.trans (congrArg some (by kernel_rfl))
  f241 := Tryd.func52.trans (congrArg some (by kernel_rfl))
  f276 := Tryd.func51.trans (congrArg some (by kernel_rfl))
  f277 := Tryd.func61.trans (congrArg some (by kernel_rfl))
  t0 := Tryd.underlying0
  a0 := Tryd.isAgg0
  z0 := Tryd.sizeOf0
  v0 := Tryd.zeroValue0
  t3 := Tryd.underlying3
  a3 := Tryd.isAgg3
  z3 := Tryd.sizeOf3
  v3 := Tryd.zeroValue3
  t4 := Tryd.underlying4
  a4 := Tryd.isAgg4
  z4 := Tryd.sizeOf4
  v4 := Tryd.zeroValue4
  t9 := Tryd.underlying9
  a9 := Tryd.isAgg9
  z9 := Tryd.sizeOf9
  v9 := Tryd.zeroValue9
  t20 := Tryd.underlying20
  a20 := Tryd.isAgg20
  z20 := Tryd.sizeOf20
  v20 := Tryd.zeroValue20
  t31 := Tryd.underlying59
  a31 := Tryd.isAgg59
  z31 := Tryd.sizeOf59
  v31 := Tryd.zeroValue59
  t37 := Tryd.underlying45
  a37 := Tryd.isAgg45
  z37 := Tryd.sizeOf45
  v37 := Tryd.zeroValue45
  t70 := Tryd.underlying44
  a70 := Tryd.isAgg44
  z70 := Tryd.sizeOf44
  v70 := Tryd.zeroValue44
  t72 := Tryd.underlying47
  a72 := Tryd.isAgg47
  z72 := Tryd.sizeOf47
  v72 := Tryd.zeroValue47
  t75 := Tryd.underlying52
  a75 := Tryd.isAgg52
  z75 := Tryd.sizeOf52
  v75 := Tryd.zeroValue52
  t76 := Tryd.underlying53
  a76 := Tryd.isAgg53
  z76 := Tryd.sizeOf53
  v76 := Tryd.zeroValue53
  t127 := Tryd.underlying71
  a127 := Tryd.isAgg71
  z127 := Tryd.sizeOf71
  v127 := Tryd.zeroValue71
  t164 := Tryd.underlying86
  a164 := Tryd.isAgg86
  z164 := Tryd.sizeOf86
  v164 := Tryd.zeroValue86 }
def lays229_ren : Go.Shelf.Ren := ⟨fun | 229 => 28 | n => n, fun | 9 => 9 | 40 => 61 | 31 => 59 | 152 => 72 | 3 => 3 | 0 => 0 | 4 => 4 | 21 => 21 | 154 => 74 | n => n, fun | n => n⟩
theorem lays229 : Go.Proofs.Lays.n229 Tryd.prog lays229_ren := {
  mixed := by kernel_rfl
  f229 := Tryd.func28.trans (congrArg some (by kernel_rfl))
  t0 := Tryd.underlying0
  a0 := Tryd.isAgg0
  z0 := Tryd.sizeOf0
  v0 := Tryd.zeroValue0
  t3 := Tryd.underlying3
  a3 := Tryd.isAgg3
  z3 := Tryd.sizeOf3
  v3 := Tryd.zeroValue3
  t4 := Tryd.underlying4
  a4 := Tryd.isAgg4
  z4 := Tryd.sizeOf4
  v4 := Tryd.zeroValue4
  t9 := Tryd.underlying9
  a9 := Tryd.isAgg9
  z9 := Tryd.sizeOf9
  v9 := Tryd.zeroValue9
  t21 := Tryd.underlying21
  a21 := Tryd.isAgg21
  z21 := Tryd.sizeOf21
  v21 := Tryd.zeroValue21
  t31 := Tryd.underlying59
  a31 := Tryd.isAgg59
  z31 := Tryd.sizeOf59
  v31 := Tryd.zeroValue59
  t40 := Tryd.underlying61
  a40 := Tryd.isAgg61
  z40 := Tryd.sizeOf61
  v40 := Tryd.zeroValue61
  t152 := Tryd.underlying72
  a152 := Tryd.isAgg72
  z152 := Tryd.sizeOf72
  v152 := Tryd.zeroValue72
  t154 := Tryd.underlying74
  a154 := Tryd.isAgg74
  z154 := Tryd.sizeOf74
  v154 := Tryd.zeroValue74 }
theorem extra156 : Builder.Extra Tryd.prog lays156_ren := {
  sizeBuilder := by kernel_rfl
  liesBuilder := by kernel_rfl
  t5 := Tryd.underlying5
  a5 := Tryd.isAgg5
  z5 := Tryd.sizeOf5
  v5 := Tryd.zeroValue5
  infoByte := by kernel_rfl
  cellsByte := by kernel_rfl
  sizeByte := by kernel_rfl
  neB5 := by decide }
theorem below_fr {w w' : World} (h : Go.RowKit.Below w.heap.size w w') : Fr No w w' := ⟨h.os, h.tape, h.output, h.size, fun k hk _ => h.block k hk⟩
/-- strings.Join of texts in memory. -/
theorem join_any (E : Nat → Prop) (v : Value) (L : List B) (sep : B) (w : World) (h : ∃ a cap, v = .slice a L.length cap ∧ L.length ≤ cap ∧ (L = [] ∨ ∃ g o, a = some ⟨g, o, none⟩ ∧ g < w.heap.size ∧ w.rangeAt g o (strs L))) (hL : L.length ≤ 140737488355328) (hl : (joinB sep L).length ≤ 140737488355328) :
    Calls Tryd.prog 31 #[v, .string (sb sep)] w fun e w' => e = .returned (.string (sb (joinB sep L))) ∧ Fr No w w' := by
  obtain ⟨a, cap, rfl, hc, h⟩ := h
  rcases h with rfl | ⟨g, o, rfl, hg, hr⟩
  · refine (Any.strings_Join_none lays156 extra156 a cap (sb sep) w).mono ?_
    rintro e w' ⟨rfl, rfl⟩
    exact ⟨rfl, Fr.refl _ _⟩
  · have hj : Lib.join ((L.map sb).map (·.data.toList)) (sb sep).data.toList = joinB sep L := by
      rw [sb_list, joinB_eq, List.map_map]
      congr 1
      conv => rhs; rw [← List.map_id L]
      exact List.map_congr_left fun x _ => sb_list x
    have h1 := Any.strings_Join lays156 extra156 g o cap (L.map sb) (sb sep) w (fun j x hx => by
      rw [List.getElem?_map] at hx
      obtain ⟨l, hl, rfl⟩ := Option.map_eq_some_iff.1 hx
      exact hr j _ (by unfold strs; rw [List.getElem?_map, hl]; rfl)) hg (by rw [List.length_map]; exact hL) (by rw [List.length_map]; exact hc) (by rw [hj]; exact hl)
    rw [List.length_map, hj] at h1
    refine h1.mono ?_
    rintro e w' ⟨rfl, hb⟩
    exact ⟨rfl, below_fr hb⟩
/-- strings.FieldsFunc by a function that tells blanks. -/
theorem fields_any (g : Nat) (eg : ∀ args w, (callFunc g args).run Tryd.prog w = .ok (.enter g args) w) (s : B) (w : World) (hs : s.length ≤ 4294967296)
    (hp : ∀ (W : World) (x : Nat), x ≤ 1114111 → Calls Tryd.prog g #[.int .i32 (x : Int)] W fun e W' => e = .returned (.bool (x == 32)) ∧ W' = W) :
    Calls Tryd.prog 28 #[.string (sb s), .func (.func g) #[] #[]] w fun e w' => ∃ v, e = .returned v ∧ (∃ a cap, v = .slice a (words [] s).length cap ∧ (words [] s).length ≤ cap ∧ (words [] s = [] ∨ ∃ g o, a = some ⟨g, o, none⟩ ∧ g < w'.heap.size ∧ w'.rangeAt g o (strs (words [] s)))) ∧ Fr No w w' := by
  have hL : Lib.goFieldsP (fun x => x == 32) (sb s) = (words [] s).map sb := by
    have h := fields_words (sb s)
    rw [sb_list] at h
    rw [← h, List.map_map]
    conv => lhs; rw [← List.map_id (Lib.goFieldsP (fun x => x == 32) (sb s))]
    exact List.map_congr_left fun x _ => (sb_of x).symm
  have h1 := Any.strings_FieldsFunc_runes lays229 g #[] eg (fun x => x == 32) (sb s) w (by rw [sb_size]; exact hs)
    (fun W x hx _ => (hp W x hx).mono fun e W' ⟨h2, h3⟩ => ⟨h2, 0, h3⟩) (by kernel_rfl) (by kernel_rfl)
  refine h1.mono ?_
  rintro e w' ⟨A, rfl, hA, hown, hb⟩
  rw [hL, List.length_map] at hown ⊢
  have hlen : ((words [] s).map sb).length = (words [] s).length := List.length_map _
  refine ⟨_, rfl, ⟨_, _, rfl, Nat.le_refl _, ?_⟩, below_fr hb⟩
  by_cases h0 : words [] s = []
  · exact .inl h0
  · right
    have hlt : A < w'.heap.size := by
      rcases hown.2 with ⟨h2, -⟩ | ⟨g', cap, cur, h2, -, hg, -⟩
      · cases h2
      · simp only [Value.slice.injEq, Option.some.injEq, Addr.mk.injEq] at h2
        obtain ⟨⟨rfl, -⟩, -⟩ := h2
        exact (Array.getElem?_eq_some_iff.1 hg).1
    refine ⟨A, 0, rfl, hlt, ?_⟩
    intro j u hj
    have := hown.cells (g := A) rfl j u (by rw [List.map_map]; exact hj)
    rwa [Addr.add_mid] at this
theorem lays166 : Go.Proofs.Lays.n166 Tryd.prog lays156_ren := { lays156 with }
theorem lays169 : Go.Proofs.Lays.n169 Tryd.prog lays156_ren := { lays156 with }
theorem lays167 : Go.Proofs.Lays.n167 Tryd.prog lays156_ren := { lays156 with
  f167 := Tryd.func24.trans (congrArg some (by kernel_rfl))
  t5 := extra156.t5
  a5 := extra156.a5
  z5 := extra156.z5
  v5 := extra156.v5 }
/-- A builder in block b that holds these bytes; its own blocks are new since base. -/
def Bld (base b : Nat) (l : B) (w : World) : Prop := Lib.IsBuilder 47 5 base b (Lib.byteCells l) w
theorem Bld.lt {base b : Nat} {l : B} {w : World} (h : Bld base b l w) : base ≤ b ∧ b < w.heap.size := by
  rcases h with h | h
  · exact ⟨h.1, h.lt⟩
  · exact ⟨h.1, h.lt⟩
theorem below_fr' {w w' : World} {base : Nat} (h : Go.RowKit.Below base w w') : Fr (fun k => base ≤ k) w w' := ⟨h.os, h.tape, h.output, h.size, fun k _ hn => h.block k (by omega)⟩
theorem writeString_any (base b : Nat) (l s : B) (w : World) (h : Bld base b l w) (hl : l.length + s.length ≤ 140737488355328) (hb : base ≤ w.heap.size) :
    Calls Tryd.prog 23 #[.pointer (some ⟨b, 0, none⟩), .string (sb s)] w fun e w' => (∃ v, e = .returned v) ∧ Bld base b (l ++ s) w' ∧ Fr (fun k => base ≤ k) w w' := by
  refine (Any.Builder_WriteString lays166 extra156 base b (Lib.byteCells l) (sb s) w h (by rw [sb_size]; simpa [Lib.byteCells] using hl) hb).mono ?_
  rintro e w' ⟨rfl, h1, h2⟩
  refine ⟨⟨_, rfl⟩, .inr ?_, below_fr' h2⟩
  have : Lib.byteCells (l ++ s) = Lib.byteCells l ++ Lib.strCells (sb s) := by
    rw [str_cells, sb_list]
    simp [Lib.byteCells, u8s]
  rw [this]
  exact h1
theorem writeByte_any (base b : Nat) (l : B) (c : UInt8) (w : World) (h : Bld base b l w) (hl : l.length + 1 ≤ 140737488355328) (hb : base ≤ w.heap.size) :
    Calls Tryd.prog 24 #[.pointer (some ⟨b, 0, none⟩), .int .u8 (c.toNat : Int)] w fun e w' => (∃ v, e = .returned v) ∧ Bld base b (l ++ [c]) w' ∧ Fr (fun k => base ≤ k) w w' := by
  refine (Any.Builder_WriteByte lays167 extra156 base b (Lib.byteCells l) (c.toNat : Int) w h (by simpa [Lib.byteCells] using hl) hb).mono ?_
  rintro e w' ⟨rfl, h1, h2⟩
  refine ⟨⟨_, rfl⟩, .inr ?_, below_fr' h2⟩
  have : Lib.byteCells (l ++ [c]) = Lib.byteCells l ++ [.int .u8 (c.toNat : Int)] := by simp [Lib.byteCells]
  rw [this]
  exact h1
theorem builderString_any (base b : Nat) (l : B) (w : World) (h : Bld base b l w) (hb : base ≤ w.heap.size) :
    Calls Tryd.prog 25 #[.pointer (some ⟨b, 0, none⟩)] w fun e w' => e = .returned (.string (sb l)) ∧ Fr (fun k => base ≤ k) w w' := by
  refine (Any.Builder_String_any lays169 extra156 base b l w h hb).mono ?_
  rintro e w' ⟨rfl, h2⟩
  exact ⟨rfl, below_fr' h2⟩
end Go.Proofs.YthjmkfpdbbfcpaaDoor.DN
