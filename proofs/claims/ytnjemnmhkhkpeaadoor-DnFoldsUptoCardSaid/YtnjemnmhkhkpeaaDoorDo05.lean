/-
  Part 5 of the proof: DnSh, DnL, DnE.
-/
import Derived.Shelf.Strings.Builder1
import Derived.Shelf.Strings.OnBuilder
import Derived.Shelf.Strings.FieldsFuncAny
import Derived.Test.YtnjemnmhkhkpeaaDoorChecked
import Derived.Test.YtnjemnmhkhkpeaaDoorDo02
import Derived.Test.YtnjemnmhkhkpeaaDoorDo04
set_option linter.unusedSimpArgs false
set_option linter.unusedVariables false
namespace Go.Proofs.YtnjemnmhkhkpeaaDoor.DN
set_option maxRecDepth 100000
open Go.Shelf Go.RowKit K Go.Proofs.YtnjemnmhkhkpeaaDoor.BE
def lays156_ren : Go.Shelf.Ren := ⟨fun | 167 => 27 | 156 => 19 | 165 => 29 | 166 => 26 | 169 => 28 | 240 => 39 | 241 => 40 | 276 => 50 | 277 => 51 | n => n, fun | 31 => 40 | 9 => 9 | 3 => 3 | 4 => 4 | 0 => 0 | 20 => 20 | 72 => 53 | 76 => 59 | 70 => 50 | 37 => 51 | 75 => 58 | 127 => 77 | 164 => 86 | 5 => 5 | 80 => 62 | n => n, fun | n => n⟩
theorem lays156 : Go.Proofs.Lays.n156 Tryd.prog lays156_ren := {
  mixed := by kernel_rfl
  f156 := Tryd.func19.trans (congrArg some (by kernel_rfl))
  f165 := Tryd.func29.trans (congrArg some (by kernel_rfl))
  f166 := Tryd.func26.trans (congrArg some (by kernel_rfl))
  f169 := Tryd.func28.trans (congrArg some (by kernel_rfl))
  f240 := Tryd.func39.trans (congrArg some (by kernel_rfl))
  f241 := Tryd.func40.trans (congrArg some (by kernel_rfl))
  f276 := Tryd.func50.trans (congrArg some (by kernel_rfl))
  f277 := Tryd.func51.trans (congrArg some (by kernel_rfl))
  t0 := Tryd.underlying0
  a0 := Tryd.isAgg0
  z0 := Tryd.sizeOf0
  v0 := Tryd.zeroValue0
  t3 := Tryd.underlying3
  a3 := Tryd.isAgg3
  z3 := Tryd.sizeOf3
  v3 := Tryd.zeroValue3
  t4 := Tryd.underlying4
  a4 := Tryd.isAgg4
  z4 := Tryd.sizeOf4
  v4 := Tryd.zeroValue4
  t9 := Tryd.underlying9
  a9 := Tryd.isAgg9
  z9 := Tryd.sizeOf9
  v9 := Tryd.zeroValue9
  t20 := Tryd.underlying20
  a20 := Tryd.isAgg20
  z20 := Tryd.sizeOf20
  v20 := Tryd.zeroValue20
  t31 := Tryd.underlying40
  a31 := Tryd.isAgg40
  z31 := Tryd.sizeOf40
  v31 := Tryd.zeroValue40
  t37 := Tryd.underlying51
  a37 := Tryd.isAgg51
  z37 := Tryd.sizeOf51
  v37 := Tryd.zeroValue51
  t70 := Tryd.underlying50
  a70 := Tryd.isAgg50
  z70 := Tryd.sizeOf50
  v70 := Tryd.zeroValue50
  t72 := Tryd.underlying53
  a72 := Tryd.isAgg53
  z72 := Tryd.sizeOf53
  v72 := Tryd.zeroValue53
  t75 := Tryd.underlying58
  a75 := Tryd.isAgg58
  z75 := Tryd.sizeOf58
  v75 := Tryd.zeroValue58
  t76 := Tryd.underlying59
  a76 := Tryd.isAgg59
  z76 := Tryd.sizeOf59
  v76 := Tryd.zeroValue59
  t127 := Tryd.underlying77
  a127 := Tryd.isAgg77
  z127 := Tryd.sizeOf77
  v127 := Tryd.zeroValue77
  t164 := Tryd.underlying86
  a164 := Tryd.isAgg86
  z164 := Tryd.sizeOf86
  v164 := Tryd.zeroValue86 }
def lays229_ren : Go.Shelf.Ren := ⟨fun | 229 => 16 | n => n, fun | 9 => 9 | 40 => 42 | 31 => 40 | 152 => 63 | 3 => 3 | 0 => 0 | 4 => 4 | 21 => 21 | 154 => 65 | n => n, fun | n => n⟩
theorem lays229 : Go.Proofs.Lays.n229 Tryd.prog lays229_ren := {
  mixed := by kernel_rfl
  f229 := Tryd.func16.trans (congrArg some (by kernel_rfl))
  t0 := Tryd.underlying0
  a0 := Tryd.isAgg0
  z0 := Tryd.sizeOf0
  v0 := Tryd.zeroValue0
  t3 := Tryd.underlying3
  a3 := Tryd.isAgg3
  z3 := Tryd.sizeOf3
  v3 := Tryd.zeroValue3
  t4 := Tryd.underlying4
  a4 := Tryd.isAgg4
  z4 := Tryd.sizeOf4
  v4 := Tryd.zeroValue4
  t9 := Tryd.underlying9
  a9 := Tryd.isAgg9
  z9 := Tryd.sizeOf9
  v9 := Tryd.zeroValue9
  t21 := Tryd.underlying21
  a21 := Tryd.isAgg21
  z21 := Tryd.sizeOf21
  v21 := Tryd.zeroValue21
  t31 := Tryd.underlying40
  a31 := Tryd.isAgg40
  z31 := Tryd.sizeOf40
  v31 := Tryd.zeroValue40
  t40 := Tryd.underlying42
  a40 := Tryd.isAgg42
  z40 := Tryd.sizeOf42
  v40 := Tryd.zeroValue42
  t152 := Tryd.underlying63
  a152 := Tryd.isAgg63
  z152 := Tryd.sizeOf63
  v152 := Tryd.zeroValue63
  t154 := Tryd.underlying65
  a154 := Tryd.isAgg65
  z154 := Tryd.sizeOf65
  v154 := Tryd.zeroValue65 }
theorem extra156 : Builder.Extra Tryd.prog lays156_ren := {
  sizeBuilder := by kernel_rfl
  liesBuilder := by kernel_rfl
  t5 := Tryd.underlying5
  a5 := Tryd.isAgg5
  z5 := Tryd.sizeOf5
  v5 := Tryd.zeroValue5
  infoByte := by kernel_rfl
  cellsByte := by kernel_rfl
  sizeByte := by kernel_rfl
  neB5 := by decide }
theorem below_fr {w w' : World} (h : Go.RowKit.Below w.heap.size w w') : Fr No w w' := ⟨h.os, h.tape, h.output, h.size, fun k hk _ => h.block k hk⟩
/-- strings.Join of texts in memory. -/
theorem join_any (E : Nat → Prop) (v : Value) (L : List B) (sep : B) (w : World) (h : ∃ a cap, v = .slice a L.length cap ∧ L.length ≤ cap ∧ (L = [] ∨ ∃ g o, a = some ⟨g, o, none⟩ ∧ g < w.heap.size ∧ w.rangeAt g o (strs L))) (hL : L.length ≤ 140737488355328) (hl : (joinB sep L).length ≤ 140737488355328) :
    Calls Tryd.prog 19 #[v, .string (sb sep)] w fun e w' => e = .returned (.string (sb (joinB sep L))) ∧ Fr No w w' := by
  obtain ⟨a, cap, rfl, hc, h⟩ := h
  rcases h with rfl | ⟨g, o, rfl, hg, hr⟩
  · refine (Any.strings_Join_none lays156 extra156 a cap (sb sep) w).mono ?_
    rintro e w' ⟨rfl, rfl⟩
    exact ⟨rfl, Fr.refl _ _⟩
  · have hj : Lib.join ((L.map sb).map (·.data.toList)) (sb sep).data.toList = joinB sep L := by
      rw [sb_list, joinB_eq, List.map_map]
      congr 1
      conv => rhs; rw [← List.map_id L]
      exact List.map_congr_left fun x _ => sb_list x
    have h1 := Any.strings_Join lays156 extra156 g o cap (L.map sb) (sb sep) w (fun j x hx => by
      rw [List.getElem?_map] at hx
      obtain ⟨l, hl, rfl⟩ := Option.map_eq_some_iff.1 hx
      exact hr j _ (by unfold strs; rw [List.getElem?_map, hl]; rfl)) hg (by rw [List.length_map]; exact hL) (by rw [List.length_map]; exact hc) (by rw [hj]; exact hl)
    rw [List.length_map, hj] at h1
    refine h1.mono ?_
    rintro e w' ⟨rfl, hb⟩
    exact ⟨rfl, below_fr hb⟩
/-- strings.FieldsFunc by a function that tells blanks. -/
theorem fields_any (g : Nat) (eg : ∀ args w, (callFunc g args).run Tryd.prog w = .ok (.enter g args) w) (s : B) (w : World) (hs : s.length ≤ 4294967296)
    (hp : ∀ (W : World) (x : Nat), x ≤ 1114111 → Calls Tryd.prog g #[.int .i32 (x : Int)] W fun e W' => e = .returned (.bool (x == 32)) ∧ W' = W) :
    Calls Tryd.prog 16 #[.string (sb s), .func (.func g) #[] #[]] w fun e w' => ∃ v, e = .returned v ∧ (∃ a cap, v = .slice a (words [] s).length cap ∧ (words [] s).length ≤ cap ∧ (words [] s = [] ∨ ∃ g o, a = some ⟨g, o, none⟩ ∧ g < w'.heap.size ∧ w'.rangeAt g o (strs (words [] s)))) ∧ Fr No w w' := by
  have hL : Lib.goFieldsP (fun x => x == 32) (sb s) = (words [] s).map sb := by
    have h := fields_words (sb s)
    rw [sb_list] at h
    rw [← h, List.map_map]
    conv => lhs; rw [← List.map_id (Lib.goFieldsP (fun x => x == 32) (sb s))]
    exact List.map_congr_left fun x _ => (sb_of x).symm
  have h1 := Any.strings_FieldsFunc_runes lays229 g #[] eg (fun x => x == 32) (sb s) w (by rw [sb_size]; exact hs)
    (fun W x hx _ => (hp W x hx).mono fun e W' ⟨h2, h3⟩ => ⟨h2, 0, h3⟩) (by kernel_rfl) (by kernel_rfl)
  refine h1.mono ?_
  rintro e w' ⟨A, rfl, hA, hown, hb⟩
  rw [hL, List.length_map] at hown ⊢
  have hlen : ((words [] s).map sb).length = (words [] s).length := List.length_map _
  refine ⟨_, rfl, ⟨_, _, rfl, Nat.le_refl _, ?_⟩, below_fr hb⟩
  by_cases h0 : words [] s = []
  · exact .inl h0
  · right
    have hlt : A < w'.heap.size := by
      rcases hown.2 with ⟨h2, -⟩ | ⟨g', cap, cur, h2, -, hg, -⟩
      · cases h2
      · simp only [Value.slice.injEq, Option.some.injEq, Addr.mk.injEq] at h2
        obtain ⟨⟨rfl, -⟩, -⟩ := h2
        exact (Array.getElem?_eq_some_iff.1 hg).1
    refine ⟨A, 0, rfl, hlt, ?_⟩
    intro j u hj
    have := hown.cells (g := A) rfl j u (by rw [List.map_map]; exact hj)
    rwa [Addr.add_mid] at this
theorem lays166 : Go.Proofs.Lays.n166 Tryd.prog lays156_ren := { lays156 with }
theorem lays169 : Go.Proofs.Lays.n169 Tryd.prog lays156_ren := { lays156 with }
theorem lays167 : Go.Proofs.Lays.n167 Tryd.prog lays156_ren := { lays156 with
  f167 := Tryd.func27.trans (congrArg some (by kernel_rfl))
  t5 := extra156.t5
  a5 := extra156.a5
  z5 := extra156.z5
  v5 := extra156.v5 }
/-- A builder in block b that holds these bytes; its own blocks are new since base. -/
def Bld (base b : Nat) (l : B) (w : World) : Prop := Lib.IsBuilder 53 5 base b (Lib.byteCells l) w
theorem Bld.lt {base b : Nat} {l : B} {w : World} (h : Bld base b l w) : base ≤ b ∧ b < w.heap.size := by
  rcases h with h | h
  · exact ⟨h.1, h.lt⟩
  · exact ⟨h.1, h.lt⟩
theorem below_fr' {w w' : World} {base : Nat} (h : Go.RowKit.Below base w w') : Fr (fun k => base ≤ k) w w' := ⟨h.os, h.tape, h.output, h.size, fun k _ hn => h.block k (by omega)⟩
theorem writeString_any (base b : Nat) (l s : B) (w : World) (h : Bld base b l w) (hl : l.length + s.length ≤ 140737488355328) (hb : base ≤ w.heap.size) :
    Calls Tryd.prog 26 #[.pointer (some ⟨b, 0, none⟩), .string (sb s)] w fun e w' => (∃ v, e = .returned v) ∧ Bld base b (l ++ s) w' ∧ Fr (fun k => base ≤ k) w w' := by
  refine (Any.Builder_WriteString lays166 extra156 base b (Lib.byteCells l) (sb s) w h (by rw [sb_size]; simpa [Lib.byteCells] using hl) hb).mono ?_
  rintro e w' ⟨rfl, h1, h2⟩
  refine ⟨⟨_, rfl⟩, .inr ?_, below_fr' h2⟩
  have : Lib.byteCells (l ++ s) = Lib.byteCells l ++ Lib.strCells (sb s) := by
    rw [str_cells, sb_list]
    simp [Lib.byteCells, u8s]
  rw [this]
  exact h1
theorem writeByte_any (base b : Nat) (l : B) (c : UInt8) (w : World) (h : Bld base b l w) (hl : l.length + 1 ≤ 140737488355328) (hb : base ≤ w.heap.size) :
    Calls Tryd.prog 27 #[.pointer (some ⟨b, 0, none⟩), .int .u8 (c.toNat : Int)] w fun e w' => (∃ v, e = .returned v) ∧ Bld base b (l ++ [c]) w' ∧ Fr (fun k => base ≤ k) w w' := by
  refine (Any.Builder_WriteByte lays167 extra156 base b (Lib.byteCells l) (c.toNat : Int) w h (by simpa [Lib.byteCells] using hl) hb).mono ?_
  rintro e w' ⟨rfl, h1, h2⟩
  refine ⟨⟨_, rfl⟩, .inr ?_, below_fr' h2⟩
  have : Lib.byteCells (l ++ [c]) = Lib.byteCells l ++ [.int .u8 (c.toNat : Int)] := by simp [Lib.byteCells]
  rw [this]
  exact h1
theorem builderString_any (base b : Nat) (l : B) (w : World) (h : Bld base b l w) (hb : base ≤ w.heap.size) :
    Calls Tryd.prog 28 #[.pointer (some ⟨b, 0, none⟩)] w fun e w' => e = .returned (.string (sb l)) ∧ Fr (fun k => base ≤ k) w w' := by
  refine (Any.Builder_String_any lays169 extra156 base b l w h hb).mono ?_
  rintro e w' ⟨rfl, h2⟩
  exact ⟨rfl, below_fr' h2⟩
end Go.Proofs.YtnjemnmhkhkpeaaDoor.DN
namespace Go.Proofs.YtnjemnmhkhkpeaaDoor.DN
set_option maxRecDepth 100000
open Go.RowKit K Go.Proofs.YtnjemnmhkhkpeaaDoor.BE
/-- A block that no cell of which is frozen, though its end bears a mark. -/
def BlkF (w : World) (b : Nat) (t : TypeId) (cs : List Value) : Prop := w.heap[b]? = some (.cells cs.toArray t (cs.length, cs.length + 1))
theorem BlkF.lt {w : World} {b : Nat} {t : TypeId} {cs : List Value} (h : BlkF w b t cs) : b < w.heap.size := (Array.getElem?_eq_some_iff.1 h).1
theorem BlkF.cell {w : World} {b : Nat} {t : TypeId} {cs : List Value} (h : BlkF w b t cs) (j : Nat) : w.cell? ⟨b, j, none⟩ = cs[j]? := by
  rw [cell_of_row w b j cs.toArray t _ h]; simp
theorem BlkF.frozen {w : World} {b : Nat} {t : TypeId} {cs : List Value} (h : BlkF w b t cs) {j : Nat} (hj : j < cs.length) : w.frozen? ⟨b, j, none⟩ = false := by
  unfold World.frozen?
  rw [h]
  simp
  omega
theorem BlkF.set {w : World} {b : Nat} {t : TypeId} {cs : List Value} (h : BlkF w b t cs) (j : Nat) (v : Value) : BlkF (w.setCell ⟨b, j, none⟩ v) b t (cs.set j v) := by
  unfold BlkF World.setCell at *
  simp only [Array.getElem?_modify, if_true, h, Option.map_some, List.length_set]
  simp
theorem wpL_setF {P : Program} {ops : Array Oper} {rest : List Oper} {op : Oper} {a : Act} {w : World} {Q : Exit → Act → World → Prop} (hgd : op.guard = none) (ty : TypeId) (x y : Operand) (ho : op.op = .store ty x y) (b o : Nat) (v : Value) (hx : a.eval x = .pointer (some ⟨b, o, none⟩)) (hy : a.eval y = v) (hv : v.cells = #[v]) (h1 : v.oneCell' = true)
    (t : TypeId) (cs : List Value) (hB : BlkF w b t cs) (hle : o < cs.length) (hi : (P.info? ty).map (·.size) = some 1)
    (h : ∀ w', Hid (BlkF w' b t (cs.set o v)) → Hid (Fr (fun k => k = b) w w') → wpList P ops Q rest (a.put op.dst undef) w') : wpList P ops Q (op :: rest) a w := by
  refine wpList_plain hgd fun K hK => ?_
  have hth : w.there b o [v].length := by
    intro j hj
    obtain rfl : j = 0 := by simpa using hj
    rw [Nat.add_zero, hB.cell, hB.frozen hle]
    simp [hle]
  have hr := run_storeV (P := P) w b o ty v [v] (by rw [hv]) hth (by simpa using hi) (by simpa using h1)
  unfold Oper.wp execOp
  simp only [ho, hx, hy, Instr.storeAt, Instr.sureAddr, Sem.run_bind, Sem.run_pure, Result.andThen_ok, hr]
  exact hK _ _ (h _ (hid (hB.set o v)) (hid ((Fr.refl (fun k => k = b) w).setCells b o [v] (.inl rfl))))
/-- '[]byte(s)', the whole block. -/
theorem wpL_bytesF {P : Program} {ops : Array Oper} {rest : List Oper} {op : Oper} {a : Act} {w : World} {Q : Exit → Act → World → Prop} (hgd : op.guard = none) (src dst e : TypeId) (x : Operand) (ho : op.op = .convert src dst x) (s : ByteArray) (hx : a.eval x = .string s)
    (hs : P.underlying src = some .string) (hd : P.underlying dst = some (.slice e)) (he : P.underlying e = some (.int .u8))
    (h : ∀ c z w', s.size ≤ c → Hid (BlkF w' w.heap.size e (u8s s.data.toList ++ z)) → Hid (Fr No w w') → wpList P ops Q rest (a.put op.dst (.slice (some ⟨w.heap.size, 0, none⟩) s.size c)) w') : wpList P ops Q (op :: rest) a w := by
  refine wpList_plain hgd fun K hK => ?_
  have hrun := run_bytes_of_string (P := P) w src dst e s hs hd he
  have hB : (bytesRow s (grownCap w s.size 0 e)) = (u8s s.data.toList ++ List.replicate (grownCap w s.size 0 e - s.size) (Value.int .u8 0)).toArray := by
    unfold bytesRow u8s
    apply Array.toList_inj.1
    simp
  have h1 := h (grownCap w s.size 0 e) (List.replicate (grownCap w s.size 0 e - s.size) (Value.int .u8 0)) (w.drew.alloc (.cells (bytesRow s (grownCap w s.size 0 e)) e ((bytesRow s (grownCap w s.size 0 e)).size, (bytesRow s (grownCap w s.size 0 e)).size + 1))) (grownCap_ge _ _ _ _)
    (hid (by rw [hB]; unfold BlkF; rw [show w.heap.size = w.drew.heap.size from rfl, heap_alloc_new w.drew]; simp)) (hid ((Fr.refl No w).drew.alloc _))
  unfold Oper.wp
  simp [execOp, ho, hx, hrun, Result.andThen]
  exact hK _ _ h1
theorem infoU8 : (Tryd.prog.info? 5).map (·.size) = some 1 := by kernel_rfl
theorem lo_nat (c : UInt8) : (lo c).toNat = if 65 ≤ c.toNat ∧ c.toNat ≤ 90 then c.toNat + 32 else c.toNat := by
  have := u8_all (fun c => (lo c).toNat == if 65 ≤ c.toNat ∧ c.toNat ≤ 90 then c.toNat + 32 else c.toNat) (by decide +kernel) c
  simpa using this
set_option maxHeartbeats 4000000 in
theorem lower_str (s : B) (hs : Sz s) (w : World) : Calls Tryd.prog 17 #[.string (sb s)] w fun e w' => e = .returned (.string (sb (low s))) ∧ Fr No w w' := by
  have hz : (sb s).size = s.length := sb_size s
  have hzl : (sb s).data.toList = s := sb_list s
  obtain ⟨S, hS⟩ : ∃ S, sb s = S := ⟨_, rfl⟩
  obtain ⟨n, hn⟩ : ∃ n, s.length = n := ⟨_, rfl⟩
  rw [hS] at hz hzl ⊢
  rw [hn] at hz
  have hni : (n : Int) ≤ 140737488351232 := by unfold Sz at hs; omega
  have HNN := hid hn; have HZL := hid hzl; have HZ := hid hz
  clear hs hz hzl hS hn
  go_enter Tryd.func17, Tryd.ntmps17
  go_wp2_with (first
    | ((with_reducible refine K.atO (.convert _ 51 _) ?_); refine wpL_bytesF rfl _ _ _ _ rfl S rfl Tryd.underlying9 Tryd.underlying51 Tryd.underlying5 ?_; intro cp z w1 hcp HB1 HF1; rw [HZ.out])
    | fail)
  obtain ⟨g, hg⟩ : ∃ g, w.heap.size = g := ⟨_, rfl⟩
  rw [hg] at HB1 ⊢
  rw [HZL.out] at HB1
  have HG := hid hg
  have HCP := hid hcp
  clear hg hcp
  go_loopw [10] (fun iv wr => ∃ (i : Nat), iv = .int .i64 i ∧ i ≤ n ∧ Hid (BlkF wr g 5 (u8s (low (s.take i) ++ s.drop i) ++ z) ∧ Fr No w wr)) (fun iv _ => n - (intOf iv).toNat)
  case atStart => exact ⟨0, rfl, Nat.zero_le _, hid ⟨by simpa [low] using HB1.out, HF1.out⟩⟩
  case round =>
    obtain ⟨i, rfl, hi, HI⟩ := hrel
    by_cases hlt : i < n
    · have hlti : (i : Int) < n := by omega
      have hi0 : (0 : Int) ≤ i := by omega
      obtain ⟨c, hc⟩ : ∃ c, s[i]? = some c := ⟨_, List.getElem?_eq_getElem (by rw [HNN.out]; exact hlt)⟩
      have hlow : (low (s.take i)).length = i := by rw [low_length, List.length_take, HNN.out]; omega
      have hcur : (u8s (low (s.take i) ++ s.drop i) ++ z)[i]? = some (.int .u8 (c.toNat : Int)) := by
        rw [List.getElem?_append_left (by rw [u8s_length, List.length_append, hlow, List.length_drop, HNN.out]; omega)]
        unfold u8s
        rw [List.getElem?_map, List.getElem?_append_right (by omega), hlow, Nat.sub_self, List.getElem?_drop, Nat.add_zero, hc]
        rfl
      have hcell : wr.cell? ⟨g, i, none⟩ = some (.int .u8 (c.toNat : Int)) := by rw [HI.out.1.cell]; exact hcur
      have hsplit : s.drop i = c :: s.drop (i + 1) := by
        have hl : i < s.length := by rw [HNN.out]; exact hlt
        rw [List.drop_eq_getElem_cons hl]
        rw [List.getElem?_eq_getElem hl] at hc
        rw [Option.some.inj hc]
      have htake : low (s.take (i + 1)) = low (s.take i) ++ [lo c] := by
        unfold low
        rw [List.take_add_one, hc]
        simp
      have hset : (u8s (low (s.take i) ++ s.drop i) ++ z).set i (.int .u8 ((lo c).toNat : Int)) = u8s (low (s.take (i + 1)) ++ s.drop (i + 1)) ++ z := by
        rw [htake, hsplit, u8s_append, List.append_assoc, List.set_append_right _ _ (by rw [u8s_length, hlow]; exact Nat.le_refl _), u8s_length, hlow, Nat.sub_self]
        simp [u8s]
      have hlen : i < (u8s (low (s.take i) ++ s.drop i) ++ z).length := (List.getElem?_eq_some_iff.1 hcur).1
      have HSET := hid hset; have HLEN := hid hlen
      have hlo := lo_nat c
      obtain ⟨xn, hxn⟩ : ∃ xn, c.toNat = xn := ⟨_, rfl⟩
      have hb := lt256 c
      rw [hxn] at hcell hlo hb
      have HLT := hid hlt
      have HFS : Hid (∀ w', Fr (fun k => k = g) wr w' → Fr No w w') := hid (fun w' h => HI.out.2.trans h (fun k e => .inr (by rw [HG.out]; have e : k = g := e; omega)))
      clear hcur hsplit htake hset hlen hc hlow hi hlt
      by_cases hup : 65 ≤ xn ∧ xn ≤ 90
      · rw [if_pos hup] at hlo
        have h1 : (65 : Int) ≤ xn := by omega
        have h2 : (xn : Int) ≤ 90 := by omega
        have HLO := hid hlo
        clear hup hlo hxn
        go_wp2_with (first
          | ((with_reducible refine K.atO (.store 5 _ _) ?_); refine wpL_setF rfl _ _ _ rfl g i (.int .u8 ((lo c).toNat : Int)) (by go_simp) (by rw [HLO.out]; exact congrArg (Value.int .u8) (by omega)) rfl rfl 5 _ HI.out.1 HLEN.out infoU8 ?_; intro w2 HB2 HF2)
          | fail)
        refine ⟨⟨i + 1, by go_num, HLT.out, hid ⟨by rw [← HSET.out]; exact HB2.out, HFS.out w2 HF2.out⟩⟩, ?_⟩
        have := HLT.out
        simp [intOf]; omega
      · rw [if_neg hup] at hlo
        have h1 : (xn : Int) < 65 ∨ (65 ≤ (xn : Int) ∧ ¬ (xn : Int) ≤ 90) := by omega
        have HSAME : Hid (BlkF wr g 5 (u8s (low (s.take (i + 1)) ++ s.drop (i + 1)) ++ z)) := hid (by
          rw [← HSET.out, hlo, ← hxn]
          have h := HI.out.1
          have hce := h.cell i
          rw [hxn] at *
          rw [hcell] at hce
          obtain ⟨hl, e⟩ := List.getElem?_eq_some_iff.1 hce.symm
          rw [← e, List.set_getElem_self]
          exact h)
        clear hup hlo hxn
        rcases h1 with h1 | ⟨h1, h2⟩
        all_goals
          go_wp2_with fail
          refine ⟨⟨i + 1, by go_num, HLT.out, hid ⟨HSAME.out, HI.out.2⟩⟩, ?_⟩
          have := HLT.out
          simp [intOf]; omega
    · obtain rfl : i = n := by omega
      have hB := HI.out.1
      rw [← HNN.out, List.take_length, List.drop_length, List.append_nil] at hB
      have hbi : BytesIn wr (fun _ => True) (.slice (some ⟨g, 0, none⟩) i cp) (low s) := by
        refine ⟨_, _, _, rfl, by rw [low_length]; exact HNN.out, (by have := HCP.out; rw [HZ.out] at this; exact this), .inr ⟨g, 0, rfl, trivial, hB.lt, ?_⟩⟩
        intro j v hj
        rw [Nat.zero_add, hB.cell, List.getElem?_append_left (List.getElem?_eq_some_iff.1 hj).1]
        exact hj
      have HBI := hid hbi
      clear hB hbi hi hlt
      go_wp2_with (first
        | ((with_reducible refine K.atO (.convert _ 9 _) ?_); refine wpL_stringOf rfl _ _ _ _ rfl _ _ (low s) rfl HBI.out Tryd.underlying51 Tryd.underlying5 Tryd.underlying9 ?_)
        | fail)
      go_ret
      exact ⟨rfl, HI.out.2⟩
theorem blank_any (x : Nat) (hx : x ≤ 1114111) (w : World) : Calls Tryd.prog 18 #[.int .i32 (x : Int)] w fun e w' => e = .returned (.bool (x == 32)) ∧ w' = w := by
  by_cases h : x = 32
  · subst h
    go_enter Tryd.func18, Tryd.ntmps18
    go_wp2
    go_ret
    exact ⟨rfl, rfl⟩
  · have h1 : (x == 32) = false := by simpa using h
    have h2 : ((x : Int) == 32) = false := by rw [beq_eq_false_iff_ne]; omega
    have H2 := hid h2
    rw [h1]
    clear h h1 h2
    go_enter Tryd.func18, Tryd.ntmps18
    go_wp2
    go_ret
    exact ⟨by show Ending.returned (.bool ((x : Int) == 32)) = _; rw [H2.out], rfl⟩
set_option maxHeartbeats 4000000 in
theorem fold_any (s : B) (hs : s.length ≤ 4294967296) (w : World) : Calls Tryd.prog 8 #[.string (sb s)] w fun e w' => e = .returned (.string (sb (fold s))) ∧ Fr No w w' := by
  have H1 := hid (lower_str s (by unfold Sz; omega) w)
  have H2 := hid (fun w => fields_any 18 (fun _ _ => by kernel_rfl) (low s) w (by rw [low_length]; exact hs) (fun W x hx => blank_any x hx W))
  have hfl := fold_len s
  have HL : Hid (∀ E v w, (∃ a cap, v = .slice a (words [] (low s)).length cap ∧ (words [] (low s)).length ≤ cap ∧ (words [] (low s) = [] ∨ ∃ g o, a = some ⟨g, o, none⟩ ∧ g < w.heap.size ∧ w.rangeAt g o (strs (words [] (low s))))) →
      Calls Tryd.prog 19 #[v, .string (sb [32])] w fun e w' => e = .returned (.string (sb (fold s))) ∧ Fr No w w') := hid (fun E v w h => join_any E v _ [32] w h (by
        have h1 := words_count (low s) []
        simp only [List.isEmpty_nil, if_true, Nat.add_zero] at h1
        rw [low_length] at h1
        omega) (by show (fold s).length ≤ _; omega))
  clear hfl hs
  go_enter Tryd.func8, Tryd.ntmps8
  go_wp2_with fail
  refine H1.out.mono ?_
  rintro e w1 ⟨rfl, f1⟩
  have HF1 := hid f1
  clear f1
  go_wp2_with fail
  refine (H2.out _).mono ?_
  rintro e w2 ⟨v, rfl, hv, f2⟩
  have HV := hid hv
  have HF2 := hid (HF1.out.trans' f2)
  obtain ⟨a, cap, rfl, -, -⟩ := hv
  clear f2
  go_wp2_with fail
  refine (HL.out (fun _ => True) _ _ HV.out).mono ?_
  rintro e w3 ⟨rfl, f3⟩
  have HF3 := hid (HF2.out.trans' f3)
  clear f3
  go_wp2_with fail
  go_ret
  exact ⟨rfl, HF3.out⟩
def SP : B := [34, 43, 44, 59, 60, 62, 92, 35, 61, 32]
theorem sp_index (c : UInt8) : decide ((0 : Int) ≤ Lib.indexByte SP c) = (sign c || c == 35 || c == 61 || c == 32) := by
  have := u8_all (fun c => decide ((0 : Int) ≤ Lib.indexByte SP c) == (sign c || c == 35 || c == 61 || c == 32)) (by decide +kernel) c
  simpa using this
/-- What is told of an escape. -/
def escV (s : B) : Value := match esc s with
  | some x => .tuple #[.int .u8 (x.1.toNat : Int), .int .i64 (((s.length - x.2.length + 1 : Nat)) : Int)]
  | none => .tuple #[.int .u8 0, .int .i64 0]
theorem hexs_two (x y : UInt8) : hexs 0 [x, y] = (hexv x).bind fun a => (hexv y).bind fun b => some (16 * a.toNat + b.toNat) := by
  simp [hexs]
set_option maxHeartbeats 4000000 in
theorem escaped_any (s : B) (hs : Sz s) (w : World) (hG : Gl w) : Calls Tryd.prog 56 #[.string (sb s)] w fun e w' => e = .returned (escV s) ∧ Fr No w w' := by
  have HG := hid hG
  clear hG
  cases s with
  | nil =>
    have hv : escV [] = .tuple #[.int .u8 0, .int .i64 0] := rfl
    rw [hv]
    clear hs hv
    go_enter Tryd.func56, Tryd.ntmps56
    go_wp2_with (first | ((with_reducible refine K.atO (.binOp .neq 9 _ _ _) ?_); refine wpL_valZ rfl (.bool false) (by exact exec_neS _ _ _ rfl [] [] rfl rfl _) ?_) | fail)
    go_ret2
    exact ⟨rfl, Fr.refl _ _⟩
  | cons c r =>
    have hlen : ((sb (c :: r)).size : Int) = (r.length : Int) + 1 := by rw [sb_size]; simp
    have hrl : (r.length : Int) ≤ 140737488351232 := by unfold Sz at hs; simp at hs; omega
    have hne : (!decide ((c :: r : B) = [])) = true := rfl
    have HN := hid hne
    have HSP := hid (sp_index c)
    have HIX := hid (fun w => indexByte_any SP c w)
    cases hsg : (sign c || c == 35 || c == 61 || c == 32) with
    | true =>
      have HV : Hid (escV (c :: r) = .tuple #[.int .u8 (c.toNat : Int), .int .i64 2]) := hid (by
        have he : esc (c :: r) = some (c, r) := by
          show (if (sign c || c == 35 || c == 61 || c == 32) = true then _ else _) = _
          rw [hsg, if_pos rfl]
        unfold escV
        rw [he]
        simp)
      rw [HV.out]
      rw [hsg] at HSP
      have hi0 := of_decide_eq_true HSP.out
      obtain ⟨x, hx⟩ : ∃ x : Int, Lib.indexByte SP c = x := ⟨_, rfl⟩
      obtain ⟨S, hS⟩ : ∃ S, sb (c :: r) = S := ⟨_, rfl⟩
      have HS := hid hS
      rw [hx] at hi0 HIX
      rw [hS] at hlen ⊢
      clear hsg HSP HV hne hx hS hs
      go_enter Tryd.func56, Tryd.ntmps56
      go_wp2_with (first
        | ((with_reducible refine K.atO (.binOp .neq 9 _ _ _) ?_); refine wpL_valZ rfl (.bool true) (by rw [← HS.out]; exact exec_neS _ _ _ rfl (c :: r) [] rfl rfl _) ?_)
        | ((with_reducible refine K.atO (.index 9 _ _) ?_); refine wpL_valZ rfl (.int .u8 (c.toNat : Int)) (by rw [← HS.out]; exact exec_idx _ _ rfl (c :: r) 0 c rfl 0 rfl rfl rfl _) ?_)
        | fail)
      refine (HIX.out _).mono ?_
      rintro e w1 ⟨rfl, rfl⟩
      go_wp2_with (first
        | ((with_reducible refine K.atO (.index 9 _ _) ?_); refine wpL_valZ rfl (.int .u8 (c.toNat : Int)) (by rw [← HS.out]; exact exec_idx _ _ rfl (c :: r) 0 c rfl 0 rfl rfl rfl _) ?_)
        | fail)
      go_ret2
      exact ⟨rfl, Fr.refl _ _⟩
    | false =>
      have hec := esc_cons c r
      rw [hsg, if_neg (by decide)] at hec
      rw [hsg] at HSP
      have hi0 := of_decide_eq_false HSP.out
      obtain ⟨x, hx⟩ : ∃ x : Int, Lib.indexByte SP c = x := ⟨_, rfl⟩
      rw [hx] at hi0 HIX
      cases r with
      | nil =>
        have HV : Hid (escV [c] = .tuple #[.int .u8 0, .int .i64 0]) := hid (by unfold escV; rw [hec])
        rw [HV.out]
        obtain ⟨S, hS⟩ : ∃ S, sb [c] = S := ⟨_, rfl⟩
        have HS := hid hS
        rw [hS] at hlen ⊢
        have hl1 : (S.size : Int) = 1 := by rw [hlen]; rfl
        clear hsg HSP HV hne hx hS hs hec hlen hrl
        go_enter Tryd.func56, Tryd.ntmps56
        go_wp2_with (first
          | ((with_reducible refine K.atO (.binOp .neq 9 _ _ _) ?_); refine wpL_valZ rfl (.bool true) (by rw [← HS.out]; exact exec_neS _ _ _ rfl [c] [] rfl rfl _) ?_)
          | ((with_reducible refine K.atO (.index 9 _ _) ?_); refine wpL_valZ rfl (.int .u8 (c.toNat : Int)) (by rw [← HS.out]; exact exec_idx _ _ rfl [c] 0 c rfl 0 rfl rfl rfl _) ?_)
          | fail)
        refine (HIX.out _).mono ?_
        rintro e w1 ⟨rfl, rfl⟩
        go_wp2_with fail
        go_ret2
        exact ⟨rfl, Fr.refl _ _⟩
      | cons d r' =>
        have hec2 := hec
        dsimp only at hec2
        have HPU := hid (fun w (hG : Gl w) => parseUint_any c d w hG)
        have htk : (c :: d :: r').take 2 = [c, d] := rfl
        have hl2 : (2 : Int) ≤ ((r'.length : Int) + 1) + 1 := by omega
        have hrl2 : ((d :: r').length : Int) = (r'.length : Int) + 1 := by simp
        rw [hrl2] at hlen hrl
        have HL2 : Hid (2 ≤ (c :: d :: r').length) := hid (by simp)
        obtain ⟨rn, hrn⟩ : ∃ rn : Int, (r'.length : Int) = rn := ⟨_, rfl⟩
        rw [hrn] at hlen hrl hl2
        have hrn0 : 0 ≤ rn := by omega
        cases hq : hexs 0 [c, d] with
        | some n =>
          have hh := hexs_two c d
          rw [hq] at hh
          obtain ⟨xa, ha⟩ : ∃ xa, hexv c = some xa := by
            cases h : hexv c with
            | none => rw [h] at hh; cases hh
            | some x => exact ⟨x, rfl⟩
          obtain ⟨ya, hb⟩ : ∃ ya, hexv d = some ya := by
            cases h : hexv d with
            | none => rw [ha, h] at hh; cases hh
            | some x => exact ⟨x, rfl⟩
          rw [ha, hb] at hh hec2
          have hxl := hexv_lt ha
          have hyl := hexv_lt hb
          have hn : n = 16 * xa.toNat + ya.toNat := by simpa using hh
          have hby : ((16 * xa + ya : UInt8)).toNat = n := by rw [hn, UInt8.toNat_add, UInt8.toNat_mul]; simp; omega
          have HV : Hid (escV (c :: d :: r') = .tuple #[.int .u8 (n : Int), .int .i64 3]) := hid (by
            unfold escV; rw [hec2]
            show Value.tuple #[.int .u8 (((16 * xa + ya : UInt8)).toNat : Int), .int .i64 (((c :: d :: r').length - r'.length + 1 : Nat) : Int)] = _
            rw [hby]
            have : (c :: d :: r').length - r'.length + 1 = 3 := by simp; omega
            rw [this]; rfl)
          have hn1 : (n : Int) < 256 := by omega
          have hn0 : (0 : Int) ≤ n := by omega
          have hwr : IntKind.u8.wrap (n : Int) = n := by simp [IntKind.wrap, IntKind.bits, IntKind.signed]; omega
          have HWR := hid hwr
          rw [HV.out]
          have HTU : Hid (∀ e, ToldU [c, d] e → e = .returned (.tuple #[.int .u64 (n : Int), .nilIface])) := hid (fun e h => by unfold ToldU at h; rw [hq] at h; exact h)
          obtain ⟨S, hS⟩ : ∃ S, sb (c :: d :: r') = S := ⟨_, rfl⟩
          have HS := hid hS
          rw [hS] at hlen ⊢
          clear hsg HSP HV hne hx hS hs hec hec2 hrl2 hh ha hb hxl hyl hn hby hq htk hwr hrn
          go_enter Tryd.func56, Tryd.ntmps56
          go_wp2_with (first
            | ((with_reducible refine K.atO (.binOp .neq 9 _ _ _) ?_); refine wpL_valZ rfl (.bool true) (by rw [← HS.out]; exact exec_neS _ _ _ rfl (c :: d :: r') [] rfl rfl _) ?_)
            | ((with_reducible refine K.atO (.index 9 _ _) ?_); refine wpL_valZ rfl (.int .u8 (c.toNat : Int)) (by rw [← HS.out]; exact exec_idx _ _ rfl (c :: d :: r') 0 c rfl 0 rfl rfl rfl _) ?_)
            | fail)
          refine (HIX.out _).mono ?_
          rintro e w1 ⟨rfl, rfl⟩
          go_wp2_with (first
            | ((with_reducible refine K.atO (.slice 9 _ _ _ _) ?_); refine wpL_valZ rfl (.string (sb [c, d])) (by rw [← HS.out]; exact exec_to _ _ rfl (c :: d :: r') 2 rfl rfl HL2.out _ rfl _) ?_)
            | fail)
          refine (HPU.out _ HG.out).mono ?_
          rintro e w2 ⟨h2, f2⟩
          obtain rfl := HTU.out _ h2
          have HF2 := hid f2
          clear f2 h2
          go_wp2_with fail
          go_ret2
          refine ⟨?_, HF2.out⟩
          first
            | rfl
            | (show Ending.returned (.tuple #[.int .u8 (IntKind.u8.wrap (n : Int)), _]) = _; rw [HWR.out]; rfl)
        | none =>
          have hh := hexs_two c d
          rw [hq] at hh
          have he : esc (c :: d :: r') = none := by
            rw [hec2]
            cases h : hexv c with
            | none => rfl
            | some x =>
              cases h2 : hexv d with
              | none => rfl
              | some y => rw [h, h2] at hh; cases hh
          have HV : Hid (escV (c :: d :: r') = .tuple #[.int .u8 0, .int .i64 0]) := hid (by unfold escV; rw [he])
          rw [HV.out]
          have HTU : Hid (∀ e, ToldU [c, d] e → ∃ t u, e = .returned (.tuple #[.int .u64 0, .iface t u])) := hid (fun e h => by unfold ToldU at h; rw [hq] at h; exact h)
          obtain ⟨S, hS⟩ : ∃ S, sb (c :: d :: r') = S := ⟨_, rfl⟩
          have HS := hid hS
          rw [hS] at hlen ⊢
          clear hsg HSP HV hne hx hS hs hec hec2 hrl2 hh he hq htk hrn
          go_enter Tryd.func56, Tryd.ntmps56
          go_wp2_with (first
            | ((with_reducible refine K.atO (.binOp .neq 9 _ _ _) ?_); refine wpL_valZ rfl (.bool true) (by rw [← HS.out]; exact exec_neS _ _ _ rfl (c :: d :: r') [] rfl rfl _) ?_)
            | ((with_reducible refine K.atO (.index 9 _ _) ?_); refine wpL_valZ rfl (.int .u8 (c.toNat : Int)) (by rw [← HS.out]; exact exec_idx _ _ rfl (c :: d :: r') 0 c rfl 0 rfl rfl rfl _) ?_)
            | fail)
          refine (HIX.out _).mono ?_
          rintro e w1 ⟨rfl, rfl⟩
          go_wp2_with (first
            | ((with_reducible refine K.atO (.slice 9 _ _ _ _) ?_); refine wpL_valZ rfl (.string (sb [c, d])) (by rw [← HS.out]; exact exec_to _ _ rfl (c :: d :: r') 2 rfl rfl HL2.out _ rfl _) ?_)
            | fail)
          refine (HPU.out _ HG.out).mono ?_
          rintro e w2 ⟨h2, f2⟩
          obtain ⟨t, u, rfl⟩ := HTU.out _ h2
          have HF2 := hid f2
          clear f2 h2
          go_wp2_with fail
          go_ret2
          exact ⟨rfl, HF2.out⟩
end Go.Proofs.YtnjemnmhkhkpeaaDoor.DN
