/-
  The law's 'awake'.
-/
import Derived.Test.YtejbanlhgnlliaaDoorShaPr
import Derived.Test.YtejbanlhgnlliaaDoorShaB
namespace Go.Proofs.YtejbanlhgnlliaaDoor.SH
set_option maxRecDepth 100000
open Go.RowKit K AR

theorem buildAbc (w : World) : (Instr.buildSlice 22 3 #[(0, .int .u8 97), (1, .int .u8 98), (2, .int .u8 99)]).run Tryd.prog w = .ok (.slice (some ⟨w.heap.size, 0, none⟩) 3 3) (w.alloc (.cells #[.int .u8 97, .int .u8 98, .int .u8 99] 5)) := by kernel_rfl
theorem buildKey (w : World) : (Instr.buildSlice 22 3 #[(0, .int .u8 107), (1, .int .u8 101), (2, .int .u8 121)]).run Tryd.prog w = .ok (.slice (some ⟨w.heap.size, 0, none⟩) 3 3) (w.alloc (.cells (u8s foxKey).toArray 5)) := by kernel_rfl
def foxParts : List (Nat × Operand) := [(0, .const (.int .u8 84)), (1, .const (.int .u8 104)), (2, .const (.int .u8 101)), (3, .const (.int .u8 32)), (4, .const (.int .u8 113)), (5, .const (.int .u8 117)), (6, .const (.int .u8 105)), (7, .const (.int .u8 99)), (8, .const (.int .u8 107)), (9, .const (.int .u8 32)), (10, .const (.int .u8 98)), (11, .const (.int .u8 114)), (12, .const (.int .u8 111)), (13, .const (.int .u8 119)), (14, .const (.int .u8 110)), (15, .const (.int .u8 32)), (16, .const (.int .u8 102)), (17, .const (.int .u8 111)), (18, .const (.int .u8 120)), (19, .const (.int .u8 32)), (20, .const (.int .u8 106)), (21, .const (.int .u8 117)), (22, .const (.int .u8 109)), (23, .const (.int .u8 112)), (24, .const (.int .u8 115)), (25, .const (.int .u8 32)), (26, .const (.int .u8 111)), (27, .const (.int .u8 118)), (28, .const (.int .u8 101)), (29, .const (.int .u8 114)), (30, .const (.int .u8 32)), (31, .const (.int .u8 116)), (32, .const (.int .u8 104)), (33, .const (.int .u8 101)), (34, .const (.int .u8 32)), (35, .const (.int .u8 108)), (36, .const (.int .u8 97)), (37, .const (.int .u8 122)), (38, .const (.int .u8 121)), (39, .const (.int .u8 32)), (40, .const (.int .u8 100)), (41, .const (.int .u8 111)), (42, .const (.int .u8 103))]
theorem buildFox (a : Act) (w : World) : (Instr.buildSlice 22 43 (foxParts.map fun x => (x.1, a.eval x.2)).toArray).run Tryd.prog w = .ok (.slice (some ⟨w.heap.size, 0, none⟩) 43 43) (w.alloc (.cells (u8s fox).toArray 5)) := by kernel_rfl
def q0 : Nat → Nat := fun i => [227, 176, 196, 66].getD i 0
theorem buildQ0 (w : World) : (Instr.build 38 #[(0, .int .u8 227), (1, .int .u8 176), (2, .int .u8 196), (3, .int .u8 66)]).run Tryd.prog w = .ok (ba .u8 q0 4) w := by kernel_rfl
def q1 : Nat → Nat := fun i => [186, 120, 22, 191].getD i 0
theorem buildQ1 (w : World) : (Instr.build 38 #[(0, .int .u8 186), (1, .int .u8 120), (2, .int .u8 22), (3, .int .u8 191)]).run Tryd.prog w = .ok (ba .u8 q1 4) w := by kernel_rfl
def q2 : Nat → Nat := fun i => [247, 188, 131, 244].getD i 0
theorem buildQ2 (w : World) : (Instr.build 38 #[(0, .int .u8 247), (1, .int .u8 188), (2, .int .u8 131), (3, .int .u8 244)]).run Tryd.prog w = .ok (ba .u8 q2 4) w := by kernel_rfl
/-- '[]byte("..")' of a constant: the literal's block is marked. -/
theorem run_mark {P : Program} (w : World) (t e : TypeId) (g : Nat) (cs : List Value) (n c : Nat) (ht : P.underlying t = some (.slice e)) (he : P.underlying e = some (.int .u8)) (hB : Blk w g e cs) :
    ∃ w', (convert t t (.slice (some ⟨g, 0, none⟩) n c)).run P w = .ok (.slice (some ⟨g, 0, none⟩) n c) w' ∧ w'.rangeAt g 0 cs ∧ Fr (fun k => k = g) w w' ∧ w'.heap.size = w.heap.size := by
  have hsh : w.shape? g = some (e, cs.length) := by
    unfold World.shape?
    rw [hB]
    simp
  have hh : (w.freeze ⟨g, cs.length, none⟩ 1).heap[g]? = some (.cells cs.toArray e (cs.length, cs.length + 1)) := by
    unfold World.freeze
    rw [if_neg (by decide)]
    show (w.heap.modify g _)[g]? = _
    rw [Array.getElem?_modify, if_pos rfl, hB]
    rfl
  refine ⟨w.freeze ⟨g, cs.length, none⟩ 1, ?_, ?_, ?_, ?_⟩
  · simp [convert, run_underlying ht, run_underlying he, markStringish, hsh]
  · intro j v hj
    rw [Nat.zero_add, cell_of_row _ g j _ e _ hh]
    simpa using hj
  · refine ⟨?_, ?_, ?_, ?_, fun k hk hn => ?_⟩ <;> unfold World.freeze <;> rw [if_neg (by decide)]
    · simp
    · show (w.heap.modify g _)[k]? = _
      rw [Array.getElem?_modify, if_neg (fun e => hn e.symm)]
  · unfold World.freeze
    rw [if_neg (by decide)]
    simp
theorem wpL_mark {P : Program} {ops : Array Oper} {rest : List Oper} {op : Oper} {a : Act} {w : World} {Q : Exit → Act → World → Prop} (hgd : op.guard = none) (t e : TypeId) (x : Operand) (ho : op.op = .convert t t x) (g : Nat) (cs : List Value) (n c : Nat) (hx : a.eval x = .slice (some ⟨g, 0, none⟩) n c)
    (ht : P.underlying t = some (.slice e)) (he : P.underlying e = some (.int .u8)) (hB : Blk w g e cs)
    (h : ∀ w', Hid (w'.rangeAt g 0 cs) → Hid (Fr (fun k => k = g) w w') → Hid (w'.heap.size = w.heap.size) → wpList P ops Q rest (a.put op.dst (.slice (some ⟨g, 0, none⟩) n c)) w') : wpList P ops Q (op :: rest) a w := by
  refine wpList_plain hgd fun K hK => ?_
  obtain ⟨w', hr, h1, h2, h3⟩ := run_mark (P := P) w t e g cs n c ht he hB
  unfold Oper.wp execOp
  simp only [ho, hx, Sem.run_bind, hr, Result.andThen_ok, Sem.run_pure]
  exact hK _ _ (h w' (hid h1) (hid h2) (hid h3))
theorem range_bytes {w : World} {g c : Nat} {l : List UInt8} (h : w.rangeAt g 0 (u8s l)) (hl : 0 < l.length) (hc : l.length ≤ c) : BytesIn w (fun _ => True) (.slice (some ⟨g, 0, none⟩) l.length c) l :=
  ⟨_, _, _, rfl, rfl, hc, .inr ⟨g, 0, rfl, trivial, World.block_lt_of_cell? w _ (h 0 _ (u8s_get l 0 hl)), h⟩⟩
theorem four_of {d q : Nat → Nat} {a b c e : Nat} (h : d 0 = a ∧ d 1 = b ∧ d 2 = c ∧ d 3 = e) (hq : q 0 = a ∧ q 1 = b ∧ q 2 = c ∧ q 3 = e) : ∀ i, i < 4 → d i = q i := by
  intro i hi
  have : i = 0 ∨ i = 1 ∨ i = 2 ∨ i = 3 := by omega
  rcases this with rfl | rfl | rfl | rfl
  · rw [h.1, hq.1]
  · rw [h.2.1, hq.2.1]
  · rw [h.2.2.1, hq.2.2.1]
  · rw [h.2.2.2, hq.2.2.2]
set_option maxHeartbeats 2000000 in
theorem awake_any (w : World) (hg : Gl w) : Calls Tryd.prog 7 #[] w fun e w' => e = .returned (.bool true) ∧ Fr No w w' := by
  have HG := hid hg; clear hg
  go_enter Tryd.func7, Tryd.ntmps7
  go_wp2_with fail
  refine (psum_any [] _ _ (bytes_nil w (fun _ => True) none 0) HG.out (by decide)).mono ?_
  rintro e w1 ⟨rfl, hf1⟩
  have HF1 := hid hf1
  clear hf1
  go_wp2_with (first
    | ((with_reducible show wpList _ _ _ ({ dst := _, op := .build 38 _, type := _, pos := _, after := _, guard := _ } :: _) _ _); refine wpL_build rfl _ [(0, .const (.int .u8 227)), (1, .const (.int .u8 176)), (2, .const (.int .u8 196)), (3, .const (.int .u8 66))] rfl (ba .u8 q0 4) (buildQ0 _) ?_)
    | fail)
  refine (begins_any _ _ _ (four_of none_dig ⟨rfl, rfl, rfl, rfl⟩)).mono ?_
  rintro e w2 ⟨rfl, hf2⟩
  have HF2 := hid (HF1.out.trans' hf2)
  clear hf2 HF1
  go_wp2_with (first
    | ((with_reducible show wpList _ _ _ ({ dst := _, op := .buildSlice 22 _ _, type := _, pos := _, after := _, guard := _ } :: _) _ _); refine wpL_buildSlice rfl _ 5 3 [(0, .const (.int .u8 97)), (1, .const (.int .u8 98)), (2, .const (.int .u8 99))] rfl _ (buildAbc _) ?_; intro w3 HB3 HF3 HS3)
    | fail)
  refine (psum_any [97, 98, 99] _ _ (Blk.bytes (E := fun _ => True) (l := [97, 98, 99]) HB3.out trivial (Nat.le_refl _)) (HG.out.no (HF2.out.trans' HF3.out)) (by decide)).mono ?_
  rintro e w4 ⟨rfl, hf4⟩
  have HF4 := hid ((HF2.out.trans' HF3.out).trans' hf4)
  clear hf4 HF2 HB3 HF3 HS3
  go_wp2_with (first
    | ((with_reducible show wpList _ _ _ ({ dst := _, op := .build 38 _, type := _, pos := _, after := _, guard := _ } :: _) _ _); refine wpL_build rfl _ [(0, .const (.int .u8 186)), (1, .const (.int .u8 120)), (2, .const (.int .u8 22)), (3, .const (.int .u8 191))] rfl (ba .u8 q1 4) (buildQ1 _) ?_)
    | fail)
  refine (begins_any _ _ _ (four_of abc_dig ⟨rfl, rfl, rfl, rfl⟩)).mono ?_
  rintro e w5 ⟨rfl, hf5⟩
  have HF5 := hid (HF4.out.trans' hf5)
  clear hf5 HF4
  go_wp2_with (first
    | ((with_reducible show wpList _ _ _ ({ dst := _, op := .buildSlice 22 _ _, type := _, pos := _, after := _, guard := _ } :: _) _ _); have := HR6; refine Hid.out ?_)
    | ((with_reducible show wpList _ _ _ ({ dst := _, op := .buildSlice 22 _ _, type := _, pos := _, after := _, guard := _ } :: _) _ _); refine wpL_buildSlice rfl _ 5 3 [(0, .const (.int .u8 107)), (1, .const (.int .u8 101)), (2, .const (.int .u8 121))] rfl (u8s foxKey) (buildKey _) ?_; intro w6 HB6 HF6 HS6)
    | ((with_reducible show wpList _ _ _ ({ dst := _, op := .convert _ 22 _, type := _, pos := _, after := _, guard := _ } :: _) _ _); refine wpL_mark rfl 22 5 _ rfl w5.heap.size (u8s foxKey) 3 3 rfl Tryd.underlying22 Tryd.underlying5 HB6.out ?_; intro w6' HR6 HF6' HS6')
    | fail)
  refine hid ?_
  refine wpL_buildSlice rfl _ 5 43 foxParts rfl (u8s fox) (buildFox _ _) ?_
  intro w7 HB7 HF7 HS7
  have hr6 := HF7.out.range HR6.out id
  have hf56 := HF5.out.trans' (HF6.out.trans HF6'.out fun i e => .inr (by have : i = w5.heap.size := e; omega))
  have HR7 := hid hr6; have HF56 := hid (hf56.trans' HF7.out)
  clear hr6 hf56
  go_wp2_with (first
    | ((with_reducible show wpList _ _ _ ({ dst := _, op := .convert _ 22 _, type := _, pos := _, after := _, guard := _ } :: _) _ _); refine wpL_mark rfl 22 5 _ rfl w6'.heap.size (u8s fox) 43 43 rfl Tryd.underlying22 Tryd.underlying5 HB7.out ?_; intro w7' HR8 HF7' HS7')
    | fail)
  have hq := fox_dig
  rw [← mac_eq] at hq
  have hlt6 : w5.heap.size < w6'.heap.size := by have := HS6.out; have := HS6'.out; omega
  have hk6 := HF7'.out.range HR7.out (fun e => by have : w5.heap.size = w6'.heap.size := e; omega)
  have hff := HF56.out.trans HF7'.out fun i e => .inr (by have := HF5.out.size; have : i = w6'.heap.size := e; omega)
  refine (pmac_any foxKey fox _ _ _ (range_bytes hk6 (by decide) (Nat.le_refl _)) (range_bytes HR8.out (by decide) (Nat.le_refl _)) (HG.out.no hff) (by decide) (by decide)).mono ?_
  rintro e w8 ⟨rfl, hf8⟩
  have HF8 := hid (hff.trans' hf8)
  have HQ := hid hq
  clear hf8 hq
  go_wp2_with (first
    | ((with_reducible show wpList _ _ _ ({ dst := _, op := .build 38 _, type := _, pos := _, after := _, guard := _ } :: _) _ _); refine wpL_build rfl _ [(0, .const (.int .u8 247)), (1, .const (.int .u8 188)), (2, .const (.int .u8 131)), (3, .const (.int .u8 244))] rfl (ba .u8 q2 4) (buildQ2 _) ?_)
    | fail)
  refine (begins_any _ _ _ (four_of HQ.out ⟨rfl, rfl, rfl, rfl⟩)).mono ?_
  rintro e w9 ⟨rfl, hf9⟩
  have HF9 := hid (HF8.out.trans' hf9)
  clear hf9 HF8
  go_wp2_with fail
  go_ret
  exact ⟨rfl, HF9.out⟩
end Go.Proofs.YtejbanlhgnlliaaDoor.SH
