/-
  The library's Join, FieldsFunc and Builder, as the library of contracts has them, at this program.
-/
import Derived.Shelf.Strings.Builder1
import Derived.Shelf.Strings.OnBuilder
import Derived.Shelf.Strings.FieldsFuncAny
import Derived.Test.YthjmkfpdbbfcpaaGreatDoorChecked
import Derived.Test.YthjmkfpdbbfcpaaGreatDoorDnX
import Derived.Test.YthjmkfpdbbfcpaaGreatDoorDnW
set_option linter.unusedVariables false
set_option linter.unusedSimpArgs false
namespace Go.Proofs.YthjmkfpdbbfcpaaGreatDoor.DN
set_option maxRecDepth 100000
open Go.Shelf Go.RowKit K Go.Proofs.YthjmkfpdbbfcpaaGreatDoor.BE

def lays156_ren : Go.Shelf.Ren := ⟨fun | 167 => 31 | 156 => 27 | 165 => 42 | 166 => 30 | 169 => 32 | 240 => 45 | 241 => 54 | 276 => 58 | 277 => 63 | n => n, fun | 31 => 45 | 9 => 9 | 3 => 3 | 4 => 4 | 0 => 0 | 20 => 20 | 72 => 51 | 76 => 58 | 70 => 48 | 37 => 49 | 75 => 57 | 127 => 75 | 164 => 87 | 5 => 5 | 80 => 61 | n => n, fun | n => n⟩
theorem lays156 : Go.Proofs.Lays.n156 Tryz.prog lays156_ren := {
  mixed := by kernel_rfl
  f156 := Tryz.func27.trans (congrArg some (by kernel_rfl))
  f165 := Tryz.func42.trans (congrArg some (by kernel_rfl))
  f166 := Tryz.func30.trans (congrArg some (by kernel_rfl))
  f169 := Tryz.func32.trans (congrArg some (by kernel_rfl))
  f240 := Tryz.func45.trans (congrArg some (by kernel_rfl))
  f241 := Tryz.func54.trans (congrArg some (by kernel_rfl))
  f276 := Tryz.func58.trans (congrArg some (by kernel_rfl))
  f277 := Tryz.func63.trans (congrArg some (by kernel_rfl))
  t0 := Tryz.underlying0
  a0 := Tryz.isAgg0
  z0 := Tryz.sizeOf0
  v0 := Tryz.zeroValue0
  t3 := Tryz.underlying3
  a3 := Tryz.isAgg3
  z3 := Tryz.sizeOf3
  v3 := Tryz.zeroValue3
  t4 := Tryz.underlying4
  a4 := Tryz.isAgg4
  z4 := Tryz.sizeOf4
  v4 := Tryz.zeroValue4
  t9 := Tryz.underlying9
  a9 := Tryz.isAgg9
  z9 := Tryz.sizeOf9
  v9 := Tryz.zeroValue9
  t20 := Tryz.underlying20
  a20 := Tryz.isAgg20
  z20 := Tryz.sizeOf20
  v20 := Tryz.zeroValue20
  t31 := Tryz.underlying45
  a31 := Tryz.isAgg45
  z31 := Tryz.sizeOf45
  v31 := Tryz.zeroValue45
  t37 := Tryz.underlying49
  a37 := Tryz.isAgg49
  z37 := Tryz.sizeOf49
  v37 := Tryz.zeroValue49
  t70 := Tryz.underlying48
  a70 := Tryz.isAgg48
  z70 := Tryz.sizeOf48
  v70 := Tryz.zeroValue48
  t72 := Tryz.underlying51
  a72 := Tryz.isAgg51
  z72 := Tryz.sizeOf51
  v72 := Tryz.zeroValue51
  t75 := Tryz.underlying57
  a75 := Tryz.isAgg57
  z75 := Tryz.sizeOf57
  v75 := Tryz.zeroValue57
  t76 := Tryz.underlying58
  a76 := Tryz.isAgg58
  z76 := Tryz.sizeOf58
  v76 := Tryz.zeroValue58
  t127 := Tryz.underlying75
  a127 := Tryz.isAgg75
  z127 := Tryz.sizeOf75
  v127 := Tryz.zeroValue75
  t164 := Tryz.underlying87
  a164 := Tryz.isAgg87
  z164 := Tryz.sizeOf87
  v164 := Tryz.zeroValue87 }
def lays229_ren : Go.Shelf.Ren := ⟨fun | 229 => 24 | n => n, fun | 9 => 9 | 40 => 41 | 31 => 45 | 152 => 69 | 3 => 3 | 0 => 0 | 4 => 4 | 21 => 21 | 154 => 71 | n => n, fun | n => n⟩
theorem lays229 : Go.Proofs.Lays.n229 Tryz.prog lays229_ren := {
  mixed := by kernel_rfl
  f229 := Tryz.func24.trans (congrArg some (by kernel_rfl))
  t0 := Tryz.underlying0
  a0 := Tryz.isAgg0
  z0 := Tryz.sizeOf0
  v0 := Tryz.zeroValue0
  t3 := Tryz.underlying3
  a3 := Tryz.isAgg3
  z3 := Tryz.sizeOf3
  v3 := Tryz.zeroValue3
  t4 := Tryz.underlying4
  a4 := Tryz.isAgg4
  z4 := Tryz.sizeOf4
  v4 := Tryz.zeroValue4
  t9 := Tryz.underlying9
  a9 := Tryz.isAgg9
  z9 := Tryz.sizeOf9
  v9 := Tryz.zeroValue9
  t21 := Tryz.underlying21
  a21 := Tryz.isAgg21
  z21 := Tryz.sizeOf21
  v21 := Tryz.zeroValue21
  t31 := Tryz.underlying45
  a31 := Tryz.isAgg45
  z31 := Tryz.sizeOf45
  v31 := Tryz.zeroValue45
  t40 := Tryz.underlying41
  a40 := Tryz.isAgg41
  z40 := Tryz.sizeOf41
  v40 := Tryz.zeroValue41
  t152 := Tryz.underlying69
  a152 := Tryz.isAgg69
  z152 := Tryz.sizeOf69
  v152 := Tryz.zeroValue69
  t154 := Tryz.underlying71
  a154 := Tryz.isAgg71
  z154 := Tryz.sizeOf71
  v154 := Tryz.zeroValue71 }
theorem extra156 : Builder.Extra Tryz.prog lays156_ren := {
  sizeBuilder := by kernel_rfl
  liesBuilder := by kernel_rfl
  t5 := Tryz.underlying5
  a5 := Tryz.isAgg5
  z5 := Tryz.sizeOf5
  v5 := Tryz.zeroValue5
  infoByte := by kernel_rfl
  cellsByte := by kernel_rfl
  sizeByte := by kernel_rfl
  neB5 := by decide }
theorem below_fr {w w' : World} (h : Go.RowKit.Below w.heap.size w w') : Fr No w w' := ⟨h.os, h.tape, h.output, h.size, fun k hk _ => h.block k hk⟩
/-- strings.Join of texts in memory. -/
theorem join_any (E : Nat → Prop) (v : Value) (L : List B) (sep : B) (w : World) (h : ∃ a cap, v = .slice a L.length cap ∧ L.length ≤ cap ∧ (L = [] ∨ ∃ g o, a = some ⟨g, o, none⟩ ∧ g < w.heap.size ∧ w.rangeAt g o (strs L))) (hL : L.length ≤ 140737488355328) (hl : (joinB sep L).length ≤ 140737488355328) :
    Calls Tryz.prog 27 #[v, .string (sb sep)] w fun e w' => e = .returned (.string (sb (joinB sep L))) ∧ Fr No w w' := by
  obtain ⟨a, cap, rfl, hc, h⟩ := h
  rcases h with rfl | ⟨g, o, rfl, hg, hr⟩
  · refine (Any.strings_Join_none lays156 extra156 a cap (sb sep) w).mono ?_
    rintro e w' ⟨rfl, rfl⟩
    exact ⟨rfl, Fr.refl _ _⟩
  · have hj : Lib.join ((L.map sb).map (·.data.toList)) (sb sep).data.toList = joinB sep L := by
      rw [sb_list, joinB_eq, List.map_map]
      congr 1
      conv => rhs; rw [← List.map_id L]
      exact List.map_congr_left fun x _ => sb_list x
    have h1 := Any.strings_Join lays156 extra156 g o cap (L.map sb) (sb sep) w (fun j x hx => by
      rw [List.getElem?_map] at hx
      obtain ⟨l, hl, rfl⟩ := Option.map_eq_some_iff.1 hx
      exact hr j _ (by unfold strs; rw [List.getElem?_map, hl]; rfl)) hg (by rw [List.length_map]; exact hL) (by rw [List.length_map]; exact hc) (by rw [hj]; exact hl)
    rw [List.length_map, hj] at h1
    refine h1.mono ?_
    rintro e w' ⟨rfl, hb⟩
    exact ⟨rfl, below_fr hb⟩
/-- strings.FieldsFunc by a function that tells blanks. -/
theorem fields_any (g : Nat) (eg : ∀ args w, (callFunc g args).run Tryz.prog w = .ok (.enter g args) w) (s : B) (w : World) (hs : s.length ≤ 4294967296)
    (hp : ∀ (W : World) (x : Nat), x ≤ 1114111 → Calls Tryz.prog g #[.int .i32 (x : Int)] W fun e W' => e = .returned (.bool (x == 32)) ∧ W' = W) :
    Calls Tryz.prog 24 #[.string (sb s), .func (.func g) #[] #[]] w fun e w' => ∃ v, e = .returned v ∧ (∃ a cap, v = .slice a (words [] s).length cap ∧ (words [] s).length ≤ cap ∧ (words [] s = [] ∨ ∃ g o, a = some ⟨g, o, none⟩ ∧ g < w'.heap.size ∧ w'.rangeAt g o (strs (words [] s)))) ∧ Fr No w w' := by
  have hL : Lib.goFieldsP (fun x => x == 32) (sb s) = (words [] s).map sb := by
    have h := fields_words (sb s)
    rw [sb_list] at h
    rw [← h, List.map_map]
    conv => lhs; rw [← List.map_id (Lib.goFieldsP (fun x => x == 32) (sb s))]
    exact List.map_congr_left fun x _ => (sb_of x).symm
  have h1 := Any.strings_FieldsFunc_runes lays229 g #[] eg (fun x => x == 32) (sb s) w (by rw [sb_size]; exact hs)
    (fun W x hx _ => (hp W x hx).mono fun e W' ⟨h2, h3⟩ => ⟨h2, 0, h3⟩) (by kernel_rfl) (by kernel_rfl)
  refine h1.mono ?_
  rintro e w' ⟨A, rfl, hA, hown, hb⟩
  rw [hL, List.length_map] at hown ⊢
  have hlen : ((words [] s).map sb).length = (words [] s).length := List.length_map _
  refine ⟨_, rfl, ⟨_, _, rfl, Nat.le_refl _, ?_⟩, below_fr hb⟩
  by_cases h0 : words [] s = []
  · exact .inl h0
  · right
    have hlt : A < w'.heap.size := by
      rcases hown.2 with ⟨h2, -⟩ | ⟨g', cap, cur, h2, -, hg, -⟩
      · cases h2
      · simp only [Value.slice.injEq, Option.some.injEq, Addr.mk.injEq] at h2
        obtain ⟨⟨rfl, -⟩, -⟩ := h2
        exact (Array.getElem?_eq_some_iff.1 hg).1
    refine ⟨A, 0, rfl, hlt, ?_⟩
    intro j u hj
    have := hown.cells (g := A) rfl j u (by rw [List.map_map]; exact hj)
    rwa [Addr.add_mid] at this
theorem lays166 : Go.Proofs.Lays.n166 Tryz.prog lays156_ren := { lays156 with }
theorem lays169 : Go.Proofs.Lays.n169 Tryz.prog lays156_ren := { lays156 with }
theorem lays167 : Go.Proofs.Lays.n167 Tryz.prog lays156_ren := { lays156 with
  f167 := Tryz.func31.trans (congrArg some (by kernel_rfl))
  t5 := extra156.t5
  a5 := extra156.a5
  z5 := extra156.z5
  v5 := extra156.v5 }
/-- A builder in block b that holds these bytes; its own blocks are new since base. -/
def Bld (base b : Nat) (l : B) (w : World) : Prop := Lib.IsBuilder 51 5 base b (Lib.byteCells l) w
theorem Bld.lt {base b : Nat} {l : B} {w : World} (h : Bld base b l w) : base ≤ b ∧ b < w.heap.size := by
  rcases h with h | h
  · exact ⟨h.1, h.lt⟩
  · exact ⟨h.1, h.lt⟩
theorem below_fr' {w w' : World} {base : Nat} (h : Go.RowKit.Below base w w') : Fr (fun k => base ≤ k) w w' := ⟨h.os, h.tape, h.output, h.size, fun k _ hn => h.block k (by omega)⟩
theorem writeString_any (base b : Nat) (l s : B) (w : World) (h : Bld base b l w) (hl : l.length + s.length ≤ 140737488355328) (hb : base ≤ w.heap.size) :
    Calls Tryz.prog 30 #[.pointer (some ⟨b, 0, none⟩), .string (sb s)] w fun e w' => (∃ v, e = .returned v) ∧ Bld base b (l ++ s) w' ∧ Fr (fun k => base ≤ k) w w' := by
  refine (Any.Builder_WriteString lays166 extra156 base b (Lib.byteCells l) (sb s) w h (by rw [sb_size]; simpa [Lib.byteCells] using hl) hb).mono ?_
  rintro e w' ⟨rfl, h1, h2⟩
  refine ⟨⟨_, rfl⟩, .inr ?_, below_fr' h2⟩
  have : Lib.byteCells (l ++ s) = Lib.byteCells l ++ Lib.strCells (sb s) := by
    rw [str_cells, sb_list]
    simp [Lib.byteCells, u8s]
  rw [this]
  exact h1
theorem writeByte_any (base b : Nat) (l : B) (c : UInt8) (w : World) (h : Bld base b l w) (hl : l.length + 1 ≤ 140737488355328) (hb : base ≤ w.heap.size) :
    Calls Tryz.prog 31 #[.pointer (some ⟨b, 0, none⟩), .int .u8 (c.toNat : Int)] w fun e w' => (∃ v, e = .returned v) ∧ Bld base b (l ++ [c]) w' ∧ Fr (fun k => base ≤ k) w w' := by
  refine (Any.Builder_WriteByte lays167 extra156 base b (Lib.byteCells l) (c.toNat : Int) w h (by simpa [Lib.byteCells] using hl) hb).mono ?_
  rintro e w' ⟨rfl, h1, h2⟩
  refine ⟨⟨_, rfl⟩, .inr ?_, below_fr' h2⟩
  have : Lib.byteCells (l ++ [c]) = Lib.byteCells l ++ [.int .u8 (c.toNat : Int)] := by simp [Lib.byteCells]
  rw [this]
  exact h1
theorem builderString_any (base b : Nat) (l : B) (w : World) (h : Bld base b l w) (hb : base ≤ w.heap.size) :
    Calls Tryz.prog 32 #[.pointer (some ⟨b, 0, none⟩)] w fun e w' => e = .returned (.string (sb l)) ∧ Fr (fun k => base ≤ k) w w' := by
  refine (Any.Builder_String_any lays169 extra156 base b l w h hb).mono ?_
  rintro e w' ⟨rfl, h2⟩
  exact ⟨rfl, below_fr' h2⟩
end Go.Proofs.YthjmkfpdbbfcpaaGreatDoor.DN
