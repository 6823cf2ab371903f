/-
  Part 15 of the proof: DnBd, DnP, DnPr.
-/
import Derived.Test.YtooodoacpdhbfaaGreatDoorSm14
import Derived.Test.YtooodoacpdhbfaaGreatDoorSm03
import Derived.Test.YtooodoacpdhbfaaGreatDoorSm06
import Derived.Test.YtooodoacpdhbfaaGreatDoorSm05
set_option linter.unusedSimpArgs false
set_option linter.unusedVariables false
namespace Go.Proofs.YtooodoacpdhbfaaGreatDoor.DN
set_option maxRecDepth 100000
open Go.RowKit K Go.Proofs.YtooodoacpdhbfaaGreatDoor.BE

/-- A builder in block b, below base, that holds these bytes; its row is new since base. -/
def BW (base b : Nat) (l : B) (w : World) : Prop := b < base ∧ ∃ p v, Blk w b 127 [p, v] ∧ (p = .pointer none ∨ p = .pointer (some ⟨b, 0, none⟩)) ∧ w.ownsRow base 5 1 v l.length (u8s l)
def BDm (base b : Nat) (k : Nat) : Prop := k = b ∨ base ≤ k
theorem BW.fr {base b : Nat} {l : B} {D : Nat → Prop} {w w' : World} (h : BW base b l w) (hf : Fr D w w') (hD : ∀ k, D k → k ≠ b ∧ (k < base ∨ w.heap.size ≤ k)) : BW base b l w' := by
  obtain ⟨h1, p, v, h3, h4, h5⟩ := h
  exact ⟨h1, p, v, h3.fr hf (fun e => (hD _ e).1 rfl), h4, own_fr h5 hf fun k hk e => by have := own_ge h5 k hk; have := (hD k e).2; omega⟩
theorem BW.build {base b : Nat} {l : B} {w : World} (h : BW base b l w) (b0 : Nat) (h0 : b0 ≤ b) : Bld b0 b l w := by
  obtain ⟨h1, p, v, h3, h4, h5⟩ := h
  have hl : (Lib.byteCells l).length = l.length := by simp [Lib.byteCells]
  have hB : Lib.BuilderAt 127 5 b0 b p (Lib.byteCells l) w := by
    refine ⟨h0, v, h3, ?_, fun e => by have := own_ge h5 _ e; omega⟩
    rw [hl]
    show w.ownsRow b0 5 1 v l.length (u8s l)
    refine ⟨h5.1, ?_⟩
    rcases h5.2 with e | ⟨g, cap, cur, e1, e2, e3⟩
    · exact .inl e
    · exact .inr ⟨g, cap, cur, e1, by omega, e3⟩
  rcases h4 with rfl | rfl
  · exact .inl hB
  · exact .inr hB
theorem infoB8 : (Tryz.prog.info? 120).map (·.size) = some 1 := by kernel_rfl
theorem lays240 : Go.Proofs.Lays.n240 Tryz.prog lays156_ren := { lays156 with }
theorem copyCheck_any (base b : Nat) (l : B) (w : World) (h : BW base b l w) (hbw : base ≤ w.heap.size) : Calls Tryz.prog 111 #[.pointer (some ⟨b, 0, none⟩)] w fun e w' =>
    (∃ v, e = .returned v) ∧ (∃ v, Blk w' b 127 [.pointer (some ⟨b, 0, none⟩), v] ∧ w'.ownsRow base 5 1 v l.length (u8s l)) ∧ Fr (fun k => k = b) w w' := by
  obtain ⟨h1, p, v, h3, h4, h5⟩ := h
  rcases h4 with rfl | rfl
  · refine (Any.Builder_copyCheck_fresh lays240 extra156.toX72 b w (h3.cell 0) ?_ (h3.frozen 0)).mono ?_
    · have : w.heap[b]? = _ := h3
      simp [World.shape?, this]
      rfl
    · rintro e w' ⟨rfl, rfl⟩
      have hf : Fr (fun k => k = b) w (w.setCell ⟨b, 0, none⟩ (.pointer (some ⟨b, 0, none⟩))) := (Fr.refl _ w).setCell _ _ (.inl rfl)
      refine ⟨⟨_, rfl⟩, ⟨v, h3.set 0 _, own_fr h5 hf fun k hk e => by have := own_ge h5 k hk; omega⟩, hf⟩
  · refine (Any.Builder_copyCheck_used lays240 extra156.toX72 b w (h3.cell 0)).mono ?_
    rintro e w' ⟨rfl, rfl⟩
    exact ⟨⟨_, rfl⟩, ⟨v, h3, h5⟩, Fr.refl _ _⟩
theorem BW.fin {base b n m : Nat} {w w1 w3 w4 : World} {va a3 : Option Addr} {vc cp3 : Nat} {l L : B} (hb : b < base) (hbw : base ≤ w.heap.size) (f1 : Fr (fun k => k = b) w w1) (hO1 : w1.ownsRow base 5 1 (.slice va n vc) n (u8s l))
    (f3 : Fr (fun k => (Value.slice va n vc).ownBlock = some k) w1 w3) (hO3 : w3.ownsRow base 5 1 (.slice a3 m cp3) m (u8s L)) (hm : L.length = m)
    (hB4 : Blk w4 b 127 ([.pointer (some ⟨b, 0, none⟩), .slice va n vc].set 1 (.slice a3 m cp3))) (f4 : Fr (fun k => k = b) w3 w4) : BW base b L w4 ∧ Fr (BDm base b) w w4 := by
  subst hm
  have hf : Fr (BDm base b) w w4 := ((f1.mono fun k e => .inl e).trans' (f3.mono fun k e => .inr (own_ge hO1 k e).1)).trans' (f4.mono fun k e => .inl e)
  exact ⟨⟨hb, _, _, hB4, .inr rfl, own_fr hO3 f4 fun k hk e => by have := own_ge hO3 k hk; omega⟩, hf⟩
set_option maxHeartbeats 4000000 in
theorem writeByteW_any (base b : Nat) (l : B) (c : UInt8) (w : World) (h : BW base b l w) (hbw : base ≤ w.heap.size) (hl : l.length + 1 ≤ 140737488355328) :
    Calls Tryz.prog 76 #[.pointer (some ⟨b, 0, none⟩), .int .u8 (c.toNat : Int)] w fun e w' => (∃ v, e = .returned v) ∧ BW base b (l ++ [c]) w' ∧ Fr (BDm base b) w w' := by
  obtain ⟨i0, hi0, hz0, hs0, hb0⟩ := Go.info_parts infoU
  have HH := hid h
  have HL := hid hl
  have HBW := hid hbw
  have HIS := hid hi0; have HZS := hid hz0; have HSS := hid hs0; have HBS := hid hb0
  obtain ⟨C, hC⟩ : ∃ C : Int, (c.toNat : Int) = C := ⟨_, rfl⟩
  have HC := hid hC
  rw [hC]
  clear h hl hbw hi0 hz0 hs0 hb0 hC
  go_enter Tryz.func76, Tryz.ntmps76
  go_wp2_with fail
  refine (copyCheck_any base b l w HH.out HBW.out).mono ?_
  rintro e w1 ⟨⟨v0, rfl⟩, ⟨v, hB1, hO1⟩, f1⟩
  have HB1 := hid hB1; have HO1 := hid hO1; have HF1 := hid f1
  have HN := hid (show b < base ∧ base ≤ w1.heap.size from ⟨HH.out.1, Nat.le_trans HBW.out f1.size⟩)
  obtain ⟨va, vc, rfl, -, -⟩ := own_form hO1
  have c1 : w1.cell? ⟨b, 1, none⟩ = some (.slice va l.length vc) := hB1.cell 1
  clear hB1 hO1 f1
  go_wp2_with (first
    | ((with_reducible refine K.atO (.buildSlice 120 _ _) ?_); refine wpL_buildOne rfl _ 5 _ rfl i0 _ rfl HIS.out HZS.out (by rw [HSS.out]; decide) (by rw [HSS.out]; decide) _ [.int .u8 C] rfl rfl (by rw [HSS.out]; rfl) ?_; intro w2 HA2 FA2 SA2)
    | ((with_reducible refine K.atO (.call { callee := .builtin .append, args := _, argTypes := _ }) ?_); refine wpL_append rfl _ _ 120 rfl base 5 i0 _ 1 1 Tryz.underlying120 HIS.out HZS.out HSS.out HBS.out rfl (by decide) (.slice va l.length vc) l.length (u8s l) rfl (own_fr HO1.out FA2.out (fun _ _ e => e)) (some ⟨w1.heap.size, 0, none⟩) 1 1 [.int .u8 C] rfl rfl (.inr ⟨_, rfl, HA2.out.news⟩) (by intro u hu; simp at hu; subst hu; rfl) (by unfold maxLen; have := HL.out; omega) (by have := HL.out; omega) (Nat.le_trans HN.out.2 FA2.out.size) ?_; intro a3 cp3 w3 HO3 HG3 HA3;
        (have HF3 : Hid (Fr (fun k => (Value.slice va l.length vc).ownBlock = some k) w1 w3) := hid (FA2.out.no.trans' (frown HG3.out)));
        (have HB3 : Hid (Blk w3 b 127 [.pointer (some ⟨b, 0, none⟩), .slice va l.length vc]) := hid (HB1.out.fr HF3.out (fun e => by have := own_ge HO1.out _ e; have := HN.out; omega))))
    | ((with_reducible refine K.atO (.store 120 _ _) ?_); refine wpL_setV rfl _ _ _ rfl b 1 (.slice a3 (l.length + 1) cp3) rfl rfl rfl rfl _ _ HB3.out (by simp) infoB8 ?_; intro w4 HB4 F4 HS4)
    | fail)
  go_ret
  refine ⟨⟨_, rfl⟩, ?_⟩
  refine BW.fin (L := l ++ [c]) HN.out.1 HBW.out HF1.out HO1.out HF3.out (by rw [show u8s (l ++ [c]) = u8s l ++ [.int .u8 C] by rw [← HC.out]; simp [u8s]]; exact HO3.out) (by simp) HB4.out F4.out
set_option maxHeartbeats 4000000 in
theorem writeStringW_any (base b : Nat) (l s : B) (w : World) (h : BW base b l w) (hbw : base ≤ w.heap.size) (hl : l.length + s.length ≤ 140737488355328) :
    Calls Tryz.prog 75 #[.pointer (some ⟨b, 0, none⟩), .string (sb s)] w fun e w' => (∃ v, e = .returned v) ∧ BW base b (l ++ s) w' ∧ Fr (BDm base b) w w' := by
  obtain ⟨i0, hi0, hz0, hs0, hb0⟩ := Go.info_parts infoU
  have HH := hid h
  have HL := hid hl
  have HBW := hid hbw
  have HIS := hid hi0; have HZS := hid hz0; have HSS := hid hs0; have HBS := hid hb0
  obtain ⟨SS, hSS⟩ : ∃ SS, sb s = SS := ⟨_, rfl⟩
  have HSE := hid hSS
  have HSZ : Hid (SS.size = s.length) := hid (by rw [← hSS, sb_size])
  rw [hSS]
  clear h hl hbw hi0 hz0 hs0 hb0 hSS
  go_enter Tryz.func75, Tryz.ntmps75
  go_wp2_with fail
  refine (copyCheck_any base b l w HH.out HBW.out).mono ?_
  rintro e w1 ⟨⟨v0, rfl⟩, ⟨v, hB1, hO1⟩, f1⟩
  have HB1 := hid hB1; have HO1 := hid hO1; have HF1 := hid f1
  have HN := hid (show b < base ∧ base ≤ w1.heap.size from ⟨HH.out.1, Nat.le_trans HBW.out f1.size⟩)
  obtain ⟨va, vc, rfl, -, -⟩ := own_form hO1
  have c1 : w1.cell? ⟨b, 1, none⟩ = some (.slice va l.length vc) := hB1.cell 1
  clear hB1 hO1 f1
  go_wp2_with (first
    | ((with_reducible refine K.atO (.call { callee := .builtin .append, args := _, argTypes := _ }) ?_); refine wpList_plain rfl fun K hK => ?_; refine wp_appendStr _ _ 120 9 rfl base 5 i0 Tryz.underlying120 Tryz.underlying9 HIS.out HZS.out HSS.out HBS.out (.slice va l.length vc) l.length (u8s l) rfl HO1.out SS rfl (by unfold maxLen; have := HL.out; have := HSZ.out; omega) (by have := HL.out; have := HSZ.out; omega) HN.out.2 ?_; intro a3 cp3 w3 HO3 HG3 HA3; refine hK _ _ ?_; clear hK K;
        (have HF3 : Hid (Fr (fun k => (Value.slice va l.length vc).ownBlock = some k) w1 w3) := hid (frown HG3.out));
        (have HB3 : Hid (Blk w3 b 127 [.pointer (some ⟨b, 0, none⟩), .slice va l.length vc]) := hid (HB1.out.fr HF3.out (fun e => by have := own_ge HO1.out _ e; have := HN.out; omega))))
    | ((with_reducible refine K.atO (.store 120 _ _) ?_); refine wpL_setV rfl _ _ _ rfl b 1 (.slice a3 (l.length + SS.size) cp3) rfl rfl rfl rfl _ _ HB3.out (by simp) infoB8 ?_; intro w4 HB4 F4 HS4)
    | fail)
  first | go_ret2 | go_ret
  refine ⟨⟨_, rfl⟩, ?_⟩
  refine BW.fin (L := l ++ s) HN.out.1 HBW.out HF1.out HO1.out HF3.out (by rw [show u8s (l ++ s) = u8s l ++ u8s SS.data.toList by rw [← HSE.out, sb_list]; simp [u8s]]; exact HO3.out) (by simp [HSZ.out]) HB4.out F4.out
end Go.Proofs.YtooodoacpdhbfaaGreatDoor.DN

namespace Go.Proofs.YtooodoacpdhbfaaGreatDoor.DN
set_option maxRecDepth 100000
open Go.RowKit K Go.Proofs.YtooodoacpdhbfaaGreatDoor.BE

def SG : B := [34, 43, 44, 59, 60, 62, 92]
def DG : B := [48, 49, 50, 51, 52, 53, 54, 55, 56, 57, 97, 98, 99, 100, 101, 102]
theorem sg_index (c : UInt8) : decide ((0 : Int) ≤ Lib.indexByte SG c) = sign c := by
  have := u8_all (fun c => decide ((0 : Int) ≤ Lib.indexByte SG c) == sign c) (by decide +kernel) c
  simpa using this
theorem dg_hi (c : UInt8) (h : c < 32 ∨ c = 127) : DG[c.toNat / 16]? = some (dgt (c / 16)) ∧ DG[c.toNat % 16]? = some (dgt (c % 16)) := by
  have := u8_all (fun c => !(decide (c < 32 ∨ c = 127)) || ((DG[c.toNat / 16]? == some (dgt (c / 16))) && (DG[c.toNat % 16]? == some (dgt (c % 16))))) (by decide +kernel) c
  simpa [h] using this
theorem and15 (c : UInt8) : bits .and .u8 (c.toNat : Int) 15 = ((c.toNat % 16 : Nat) : Int) := by
  have h : ∀ n : Fin 256, bits .and .u8 (n.val : Int) 15 = ((n.val % 16 : Nat) : Int) := by decide +kernel
  simpa using h ⟨c.toNat, UInt8.toNat_lt c⟩
theorem shr4 (c : UInt8) : ((c.toNat : Int) / 16) = ((c.toNat / 16 : Nat) : Int) := by omega
theorem exec_shr4 {op : Oper} {a : Act} (c : UInt8) (q : Nat) (hq : ((c.toNat : Int) / 16) = (q : Int)) (x y : Operand) {u : TypeId} (ho : op.op = .binOp .shr 5 x y u) (hx : a.eval x = .int .u8 (c.toNat : Int)) (hy : a.eval y = .int .u64 4) (w : World) :
    (execOp a.eval op).run Tryz.prog w = .ok (.value (.int .u8 (q : Int))) w := by
  rw [← hq]
  unfold execOp
  simp only [ho, hx, hy]
  simp [go_sem, eqGuard, Result.andThen]
theorem exec_and15 {op : Oper} {a : Act} (c : UInt8) (q : Nat) (hq : bits .and .u8 (c.toNat : Int) 15 = (q : Int)) (x y : Operand) {u : TypeId} (ho : op.op = .binOp .and 5 x y u) (hx : a.eval x = .int .u8 (c.toNat : Int)) (hy : a.eval y = .int .u8 15) (w : World) :
    (execOp a.eval op).run Tryz.prog w = .ok (.value (.int .u8 (q : Int))) w := by
  rw [← hq]
  unfold execOp
  simp only [ho, hx, hy]
  simp [go_sem, eqGuard, Result.andThen]
theorem exec_idx8 {op : Oper} {a : Act} (x y : Operand) (ho : op.op = .index 9 x y) (l : B) (i : Nat) (b : UInt8) (hi : l[i]? = some b) (n : Int) (hn : n = (i : Int)) (hx : a.eval x = .string (sb l)) (hy : a.eval y = .int .u8 n) (w : World) : (execOp a.eval op).run Tryz.prog w = .ok (.value (.int .u8 (b.toNat : Int))) w := by
  subst hn
  obtain ⟨hl, hb⟩ := List.getElem?_eq_some_iff.1 hi
  have hz : (sb l).size = l.length := sb_size l
  have h1 : (0 : Int) ≤ (i : Int) ∧ (i : Int) < (sb l).size := ⟨by omega, by omega⟩
  have h : (Instr.index 9 (.string (sb l)) (.int .u8 (i : Int))).run Tryz.prog w = .ok (.int .u8 (b.toNat : Int)) w := by
    rw [Go.run_index_string (P := Tryz.prog) w 9 (sb l) .u8 (i : Int) Tryz.underlying9, dif_pos h1]
    have h2 : ((sb l)[(i : Int).toNat]'(by omega)) = b := hb
    rw [h2]
  simp [execOp, ho, hx, hy, h]
/-- A slice literal, as one operation of a region, out of a closed fact. -/
theorem wp_buildRun {P : Program} {op : Oper} {a : Act} {w : World} {K : Act → World → Prop} {Q : Exit → Act → World → Prop} (t e : TypeId) (n : Nat) (parts : List (Nat × Operand)) (ho : op.op = .buildSlice t n parts.toArray) (cs : List Value)
    (hrun : (Instr.buildSlice t n (parts.map fun x => (x.1, a.eval x.2)).toArray).run P w = .ok (.slice (some ⟨w.heap.size, 0, none⟩) n n) (w.alloc (.cells cs.toArray e)))
    (h : ∀ w', Hid (Blk w' w.heap.size e cs) → Hid (Fr No w w') → Hid (w'.heap.size = w.heap.size + 1) → K (a.put op.dst (.slice (some ⟨w.heap.size, 0, none⟩) n n)) w') : op.wp P a w K Q := by
  unfold Oper.wp
  have h1 := h (w.alloc (.cells cs.toArray e)) (hid (Blk.new w e cs)) (hid ((Fr.refl _ _).alloc _)) (hid (by simp))
  simp [execOp, ho, hrun, Result.andThen]
  exact h1
theorem run_bytes (vs : List Value) (hv0 : 0 < vs.length) (hl : vs.length ≤ 16) (hv : ∀ v ∈ vs, ∃ n, v = .int .u8 n) (w : World) : (Instr.buildSlice 120 vs.length ((vs.zipIdx 0).map fun x => (x.2, x.1)).toArray).run Tryz.prog w =
    .ok (.slice (some ⟨w.heap.size, 0, none⟩) vs.length vs.length) (w.alloc (.cells vs.toArray 5)) := by
  obtain ⟨i, hi, hz, hs, hb⟩ := Go.info_parts infoU
  have h := run_buildAll (P := Tryz.prog) 120 5 vs i _ Tryz.underlying120 hi hz (by rw [hs]; decide) (by rw [hs]; omega) hv0 (fun v h => by obtain ⟨n, rfl⟩ := hv v h; rw [hs]; rfl) w
  have e : (vs.flatMap fun v => v.cells.toList) = vs := by
    clear h hv0 hl
    induction vs with
    | nil => rfl
    | cons v r ih =>
      obtain ⟨n, rfl⟩ := hv v (by simp)
      rw [List.flatMap_cons, ih (fun q hq => hv q (by simp [hq]))]
      rfl
  rw [e] at h
  exact h
section
variable {ops : Array Oper} {rest : List Oper} {o1 o2 : Oper} {a : Act} {w : World} {Q : Exit → Act → World → Prop}
/-- 'append(s, x, y)' of bytes, in a plain region. -/
theorem wpL_app2 (hg1 : o1.guard = none) (hg2 : o2.guard = none) (x x2 s y : Operand) (ho1 : o1.op = .buildSlice 120 2 #[(0, x), (1, x2)]) (ho2 : o2.op = .call { callee := .builtin .append, args := #[s, y], argTypes := #[120, 120] })
    {w0 : World} {v : Value} {l : B} (hown : OwR 5 1 w0 w v l.length (u8s l)) (c d : UInt8) (hx : a.eval x = .int .u8 (c.toNat : Int)) (hx2 : a.eval x2 = .int .u8 (d.toNat : Int))
    (hs : ∀ q, (a.put o1.dst q).eval s = v) (hy : ∀ q, (a.put o1.dst q).eval y = q) (hb : l.length + 2 ≤ 140737488355328)
    (h : ∀ q a' cap' w', Hid (OwR 5 1 w0 w' (.slice a' (l.length + 2) cap') (l.length + 2) (u8s (l ++ [c, d]))) → wpList Tryz.prog ops Q rest ((a.put o1.dst q).put o2.dst (.slice a' (l.length + 2) cap')) w') : wpList Tryz.prog ops Q (o1 :: o2 :: rest) a w := by
  refine wpL_buildSlice hg1 120 5 2 [(0, x), (1, x2)] ho1 [.int .u8 (c.toNat : Int), .int .u8 (d.toNat : Int)] ?_ ?_
  · have := run_bytes [.int .u8 (c.toNat : Int), .int .u8 (d.toNat : Int)] (by simp) (by simp) (by simp) w
    simpa [hx, hx2] using this
  · intro w1 HB HF HS
    refine wpList_plain hg2 fun K hK => ?_
    refine wp_appR s y 120 5 ho2 Tryz.underlying120 infoU rfl (by decide) (hown.no HF.out) (hs _) w.heap.size 2 2 [.int .u8 (c.toNat : Int), .int .u8 (d.toNat : Int)] (hy _) rfl HB.out (by simp [Value.oneCell']) (by omega) hb ?_
    intro a' cap' w' p q
    refine hK _ _ (h _ a' cap' w' (hid ?_))
    have := p.out
    rwa [show u8s l ++ [Value.int .u8 (c.toNat : Int), .int .u8 (d.toNat : Int)] = u8s (l ++ [c, d]) by simp [u8s]] at this
end
theorem byT_ctl {a b : Bool} {c : UInt8} (h : c < 32 ∨ c = 127) : byT a b c = [92, dgt (c / 16), dgt (c % 16)] := by unfold byT; rw [if_pos h]
theorem byT_esc {a b : Bool} {c : UInt8} (h : ¬ (c < 32 ∨ c = 127)) (h2 : (sign c || (c == 35 && a) || (c == 32 && (a || b))) = true) : byT a b c = [92, c] := by unfold byT; rw [if_neg h, h2]; rfl
theorem byT_raw {a b : Bool} {c : UInt8} (h : ¬ (c < 32 ∨ c = 127)) (h2 : (sign c || (c == 35 && a) || (c == 32 && (a || b))) = false) : byT a b c = [c] := by unfold byT; rw [if_neg h, h2]; rfl
theorem ctl_nat (c : UInt8) : (c < 32 ∨ c = 127) ↔ (c.toNat < 32 ∨ c.toNat = 127) := by
  rw [UInt8.lt_iff_toNat_lt, ← UInt8.toNat_inj]
  exact Iff.rfl
set_option maxHeartbeats 8000000 in
theorem valueText_any (s : B) (hs : s.length ≤ 4294967296) (w : World) : Calls Tryz.prog 138 #[.string (sb s)] w fun e w' => e = .returned (.string (sb (valT s))) ∧ Fr No w w' := by
  have hz : (sb s).size = s.length := sb_size s
  obtain ⟨S, hS⟩ : ∃ S, sb s = S := ⟨_, rfl⟩
  obtain ⟨n, hn⟩ : ∃ n, s.length = n := ⟨_, rfl⟩
  obtain ⟨R, hR⟩ : ∃ R, valT s = R := ⟨_, rfl⟩
  rw [hS, hR]
  rw [hS, hn] at hz
  rw [hn] at hs
  have hni : (n : Int) ≤ 4294967296 := by omega
  have hszi : (S.size : Int) = n := by omega
  have HNN := hid hn; have HS := hid hS; have HR := hid hR
  clear hs hz hS hn hR
  go_enter Tryz.func138, Tryz.ntmps138
  go_wp2_with fail
  go_loopw [3, 10] (fun sv iv wr => ∃ (i : Nat) (acc : B), iv = .int .i64 i ∧ i ≤ n ∧ acc.length ≤ 3 * i ∧ Hid (OwR 5 1 w wr sv acc.length (u8s acc)) ∧ Hid (acc ++ valFrom (i == 0) (s.drop i) = R)) (fun _ iv _ => n - (intOf iv).toNat)
  case atStart => exact ⟨0, [], rfl, Nat.zero_le _, Nat.zero_le _, hid (owR_nil (Fr.refl _ _)), hid (by rw [← HR.out]; rfl)⟩
  case round =>
    obtain ⟨i, acc, rfl, hi, hal, HO, HA⟩ := hrel
    obtain ⟨va, vc, rfl⟩ := HO.out.1
    obtain ⟨al, hal2⟩ : ∃ al, acc.length = al := ⟨_, rfl⟩
    rw [hal2] at HO hal ⊢
    have HAL := hid hal2
    have hali : (al : Int) ≤ 12884901888 := by omega
    by_cases hlt : i < n
    · obtain ⟨c, hc⟩ : ∃ c, s[i]? = some c := ⟨_, List.getElem?_eq_getElem (by rw [HNN.out]; exact hlt)⟩
      have HC := hid hc
      have hlti : (i : Int) < n := by omega
      have hi0 : (0 : Int) ≤ i := by omega
      have hsplit : s.drop i = c :: s.drop (i + 1) := by
        have hl : i < s.length := by rw [HNN.out]; exact hlt
        rw [List.drop_eq_getElem_cons hl]
        rw [List.getElem?_eq_getElem hl] at hc
        rw [Option.some.inj hc]
      have hlast : (s.drop (i + 1)).isEmpty = decide (i = n - 1) := by
        have h1 : (s.drop (i + 1)).length = n - (i + 1) := by rw [List.length_drop, HNN.out]
        cases hq : s.drop (i + 1) with
        | nil => rw [hq] at h1; simp at h1; rw [decide_eq_true (by omega)]; rfl
        | cons _ _ => rw [hq] at h1; simp at h1; rw [decide_eq_false (by omega)]; rfl
      have HA2 : Hid ((acc ++ byT (i == 0) (decide (i = n - 1)) c) ++ valFrom false (s.drop (i + 1)) = R) := hid (by
        have h := HA.out
        rw [hsplit] at h
        simp only [valFrom] at h
        rw [hlast] at h
        rw [List.append_assoc]
        exact h)
      have HLT := hid hlt
      have HAL3 := hid hal
      have hsg := sg_index c
      have HIX := hid (fun w => indexByte_any SG c w)
      obtain ⟨y, hy⟩ : ∃ y : Int, Lib.indexByte SG c = y := ⟨_, rfl⟩
      rw [hy] at hsg HIX
      have hctl := ctl_nat c
      have hd35 : (c == 35) = decide (c.toNat = 35) := by rw [Bool.eq_iff_iff]; simp [← UInt8.toNat_inj]
      have hd32 : (c == 32) = decide (c.toNat = 32) := by rw [Bool.eq_iff_iff]; simp [← UInt8.toNat_inj]
      have hlt256 := lt256 c
      clear hc hsplit hlast hy hlt hi hal HA
      by_cases hk : c < 32 ∨ c = 127
      · have hn1 : (c.toNat : Int) < 32 ∨ (¬ (c.toNat : Int) < 32 ∧ (c.toNat : Int) = 127) := by
          rcases hctl.1 hk with h | h <;> omega
        have HQ : Hid ((acc ++ [92, dgt (c / 16), dgt (c % 16)]) ++ valFrom (i + 1 == 0) (s.drop (i + 1)) = R) := hid (by have h := HA2.out; rw [byT_ctl hk] at h; exact h)
        obtain ⟨hd1, hd2⟩ := dg_hi c hk
        have HD1 := hid hd1; have HD2 := hid hd2
        have h15 := and15 c
        have hs4 := shr4 c
        have H15 := hid h15; have HS4 := hid hs4
        have hdl1 : (((c.toNat / 16 : Nat)) : Int) < 16 := by omega
        have hdl2 : (((c.toNat % 16 : Nat)) : Int) < 16 := by omega
        obtain ⟨q1, hq1⟩ : ∃ q1, c.toNat / 16 = q1 := ⟨_, rfl⟩
        obtain ⟨q2, hq2⟩ : ∃ q2, c.toNat % 16 = q2 := ⟨_, rfl⟩
        rw [hq1] at HD1 HS4 hdl1; rw [hq2] at HD2 H15 hdl2
        clear hk hctl hd35 hd32 hsg hd1 hd2 h15 hs4 HA2 hlt256 hq1 hq2
        rcases hn1 with h1 | ⟨h1, h2⟩
        · go_wp2_with (first | ((with_reducible refine K.atO (.index 9 _ _) ?_); refine wpL_valZ rfl (.int .u8 (c.toNat : Int)) (by rw [← HS.out]; exact exec_idx _ _ rfl s i c HC.out _ rfl rfl rfl _) ?_) | fail)
          have hold : Facts.hold [] wr.drew := Facts.nil_hold _
          refine wpD_region hold (by kernel_rfl) 10 rfl ?_
          (refine wpD_plain 0 (v := ?_) rfl (by kernel_rfl) (by kernel_rfl) (by kernel_rfl) (fun _ _ _ h => h) (by rfl) ?_ (by assumption) ?_; rotate_left; (intro _w; go_simp; try with_reducible rfl); simp only [Act.put, K.put3])
          (refine wpD_plain 1 (v := ?_) rfl (by kernel_rfl) (by kernel_rfl) (by kernel_rfl) (fun _ _ _ h => h) (by rfl) ?_ (by assumption) ?_; rotate_left; (intro _w; go_simp; try with_reducible rfl); simp only [Act.put, K.put3])
          (refine wpD_plain 2 (v := (.int .u8 (q1 : Int))) rfl (by kernel_rfl) (by kernel_rfl) (by kernel_rfl) (fun _ _ _ h => h) (by rfl) ?_ (by assumption) ?_; (intro _w; exact exec_shr4 c q1 HS4.out _ _ rfl rfl rfl _w); simp only [Act.put, K.put3])
          (refine wpD_plain 3 (v := (.int .u8 ((dgt (c / 16)).toNat : Int))) rfl (by kernel_rfl) (by kernel_rfl) (by kernel_rfl) (fun _ _ _ h => h) (by rfl) ?_ (by assumption) ?_; (intro _w; exact exec_idx8 _ _ rfl DG q1 _ HD1.out _ rfl rfl rfl _w); simp only [Act.put, K.put3])
          (refine wpD_plain 4 (v := ?_) rfl (by kernel_rfl) (by kernel_rfl) (by kernel_rfl) (fun _ _ _ h => h) (by rfl) ?_ (by assumption) ?_; rotate_left; (intro _w; go_simp; try with_reducible rfl); simp only [Act.put, K.put3])
          (refine wpD_plain 5 (v := (.int .u8 (q2 : Int))) rfl (by kernel_rfl) (by kernel_rfl) (by kernel_rfl) (fun _ _ _ h => h) (by rfl) ?_ (by assumption) ?_; (intro _w; exact exec_and15 c q2 H15.out _ _ rfl rfl rfl _w); simp only [Act.put, K.put3])
          (refine wpD_plain 6 (v := (.int .u8 ((dgt (c % 16)).toNat : Int))) rfl (by kernel_rfl) (by kernel_rfl) (by kernel_rfl) (fun _ _ _ h => h) (by rfl) ?_ (by assumption) ?_; (intro _w; exact exec_idx8 _ _ rfl DG q2 _ HD2.out _ rfl rfl rfl _w); simp only [Act.put, K.put3])
          clear hold
          refine wpD_only 7 [] rfl (by kernel_rfl) (by kernel_rfl) (by rfl) (fun K7 hK7 => ?_)
          refine wp_buildRun 120 5 3 [(0, .const (.int .u8 92)), (1, .tmp 37), (2, .tmp 40)] rfl [.int .u8 92, .int .u8 ((dgt (c / 16)).toNat : Int), .int .u8 ((dgt (c % 16)).toNat : Int)] (by
            have := run_bytes [.int .u8 92, .int .u8 ((dgt (c / 16)).toNat : Int), .int .u8 ((dgt (c % 16)).toNat : Int)] (by simp) (by simp) (by simp) wr.drew
            exact this) ?_
          intro w3 HB3 HF3 HS3
          refine hK7 _ _ (Facts.nil_hold _) ?_
          clear hK7 K7
          simp only [Act.put, K.put3]
          have HO3 : Hid (OwR 5 1 w w3 (.slice va al vc) al (u8s acc)) := hid (OwR.no HO.out ((Fr.refl No wr).drew.trans' HF3.out))
          refine wpD_only 8 [] rfl (by kernel_rfl) (by kernel_rfl) (by rfl) (fun K8 hK8 => ?_)
          refine wp_appR _ _ 120 5 rfl Tryz.underlying120 infoU rfl (by decide) HO3.out rfl wr.heap.size 3 3 _ rfl rfl HB3.out (by simp [Value.oneCell']) (by omega) (by omega) ?_
          intro a4 c4 w4 HO4 HF4
          refine hK8 _ _ (Facts.nil_hold _) ?_
          clear hK8 K8
          simp only [Act.put, K.put3]
          have hold : Facts.hold [] w4 := Facts.nil_hold _
          (refine wpD_plain 9 (v := ?_) rfl (by kernel_rfl) (by kernel_rfl) (by kernel_rfl) (fun _ _ _ h => h) (by rfl) ?_ (by assumption) ?_; rotate_left; (intro _w; go_simp; try with_reducible rfl); simp only [Act.put, K.put3])
          clear hold
          refine wpD_done (by kernel_rfl) ?_ _
          go_wp2_with fail
          refine ⟨⟨i + 1, acc ++ [92, dgt (c / 16), dgt (c % 16)], by go_num, HLT.out, by rw [List.length_append, HAL.out]; have := HAL3.out; simp; omega, hid ?_, hid HQ.out⟩, by have := HLT.out; simp [intOf]; omega⟩
          have h := HO4.out
          rw [show (acc ++ [92, dgt (c / 16), dgt (c % 16)]).length = al + 3 by rw [List.length_append, HAL.out]; rfl]
          rwa [show u8s acc ++ [Value.int .u8 92, .int .u8 ((dgt (c / 16)).toNat : Int), .int .u8 ((dgt (c % 16)).toNat : Int)] = u8s (acc ++ [92, dgt (c / 16), dgt (c % 16)]) by simp [u8s]] at h
        · have h3 : ((c.toNat : Int) == 127) = true := by rw [beq_iff_eq]; omega
          clear h2
          go_wp2_with (first | ((with_reducible refine K.atO (.index 9 _ _) ?_); refine wpL_valZ rfl (.int .u8 (c.toNat : Int)) (by rw [← HS.out]; exact exec_idx _ _ rfl s i c HC.out _ rfl rfl rfl _) ?_) | fail)
          have hold : Facts.hold [] wr.drew := Facts.nil_hold _
          refine wpD_region hold (by kernel_rfl) 10 rfl ?_
          (refine wpD_plain 0 (v := ?_) rfl (by kernel_rfl) (by kernel_rfl) (by kernel_rfl) (fun _ _ _ h => h) (by rfl) ?_ (by assumption) ?_; rotate_left; (intro _w; go_simp; try with_reducible rfl); simp only [Act.put, K.put3])
          (refine wpD_plain 1 (v := ?_) rfl (by kernel_rfl) (by kernel_rfl) (by kernel_rfl) (fun _ _ _ h => h) (by rfl) ?_ (by assumption) ?_; rotate_left; (intro _w; go_simp; try with_reducible rfl); simp only [Act.put, K.put3])
          (refine wpD_plain 2 (v := (.int .u8 (q1 : Int))) rfl (by kernel_rfl) (by kernel_rfl) (by kernel_rfl) (fun _ _ _ h => h) (by rfl) ?_ (by assumption) ?_; (intro _w; exact exec_shr4 c q1 HS4.out _ _ rfl rfl rfl _w); simp only [Act.put, K.put3])
          (refine wpD_plain 3 (v := (.int .u8 ((dgt (c / 16)).toNat : Int))) rfl (by kernel_rfl) (by kernel_rfl) (by kernel_rfl) (fun _ _ _ h => h) (by rfl) ?_ (by assumption) ?_; (intro _w; exact exec_idx8 _ _ rfl DG q1 _ HD1.out _ rfl rfl rfl _w); simp only [Act.put, K.put3])
          (refine wpD_plain 4 (v := ?_) rfl (by kernel_rfl) (by kernel_rfl) (by kernel_rfl) (fun _ _ _ h => h) (by rfl) ?_ (by assumption) ?_; rotate_left; (intro _w; go_simp; try with_reducible rfl); simp only [Act.put, K.put3])
          (refine wpD_plain 5 (v := (.int .u8 (q2 : Int))) rfl (by kernel_rfl) (by kernel_rfl) (by kernel_rfl) (fun _ _ _ h => h) (by rfl) ?_ (by assumption) ?_; (intro _w; exact exec_and15 c q2 H15.out _ _ rfl rfl rfl _w); simp only [Act.put, K.put3])
          (refine wpD_plain 6 (v := (.int .u8 ((dgt (c % 16)).toNat : Int))) rfl (by kernel_rfl) (by kernel_rfl) (by kernel_rfl) (fun _ _ _ h => h) (by rfl) ?_ (by assumption) ?_; (intro _w; exact exec_idx8 _ _ rfl DG q2 _ HD2.out _ rfl rfl rfl _w); simp only [Act.put, K.put3])
          clear hold
          refine wpD_only 7 [] rfl (by kernel_rfl) (by kernel_rfl) (by rfl) (fun K7 hK7 => ?_)
          refine wp_buildRun 120 5 3 [(0, .const (.int .u8 92)), (1, .tmp 37), (2, .tmp 40)] rfl [.int .u8 92, .int .u8 ((dgt (c / 16)).toNat : Int), .int .u8 ((dgt (c % 16)).toNat : Int)] (by
            have := run_bytes [.int .u8 92, .int .u8 ((dgt (c / 16)).toNat : Int), .int .u8 ((dgt (c % 16)).toNat : Int)] (by simp) (by simp) (by simp) wr.drew
            exact this) ?_
          intro w3 HB3 HF3 HS3
          refine hK7 _ _ (Facts.nil_hold _) ?_
          clear hK7 K7
          simp only [Act.put, K.put3]
          have HO3 : Hid (OwR 5 1 w w3 (.slice va al vc) al (u8s acc)) := hid (OwR.no HO.out ((Fr.refl No wr).drew.trans' HF3.out))
          refine wpD_only 8 [] rfl (by kernel_rfl) (by kernel_rfl) (by rfl) (fun K8 hK8 => ?_)
          refine wp_appR _ _ 120 5 rfl Tryz.underlying120 infoU rfl (by decide) HO3.out rfl wr.heap.size 3 3 _ rfl rfl HB3.out (by simp [Value.oneCell']) (by omega) (by omega) ?_
          intro a4 c4 w4 HO4 HF4
          refine hK8 _ _ (Facts.nil_hold _) ?_
          clear hK8 K8
          simp only [Act.put, K.put3]
          have hold : Facts.hold [] w4 := Facts.nil_hold _
          (refine wpD_plain 9 (v := ?_) rfl (by kernel_rfl) (by kernel_rfl) (by kernel_rfl) (fun _ _ _ h => h) (by rfl) ?_ (by assumption) ?_; rotate_left; (intro _w; go_simp; try with_reducible rfl); simp only [Act.put, K.put3])
          clear hold
          refine wpD_done (by kernel_rfl) ?_ _
          go_wp2_with fail
          refine ⟨⟨i + 1, acc ++ [92, dgt (c / 16), dgt (c % 16)], by go_num, HLT.out, by rw [List.length_append, HAL.out]; have := HAL3.out; simp; omega, hid ?_, hid HQ.out⟩, by have := HLT.out; simp [intOf]; omega⟩
          have h := HO4.out
          rw [show (acc ++ [92, dgt (c / 16), dgt (c % 16)]).length = al + 3 by rw [List.length_append, HAL.out]; rfl]
          rwa [show u8s acc ++ [Value.int .u8 92, .int .u8 ((dgt (c / 16)).toNat : Int), .int .u8 ((dgt (c % 16)).toNat : Int)] = u8s (acc ++ [92, dgt (c / 16), dgt (c % 16)]) by simp [u8s]] at h
      · have hn1 : ¬ (c.toNat : Int) < 32 := by intro h; exact hk (hctl.2 (.inl (by omega)))
        have hn2 : ¬ (c.toNat : Int) = 127 := by intro h; exact hk (hctl.2 (.inr (by omega)))
        have HOA : Hid (OwR 5 1 w wr (.slice va al vc) acc.length (u8s acc)) := hid (by rw [HAL.out]; exact HO.out)
        clear hctl
        cases hsn : sign c with
        | true =>
          rw [hsn] at hsg
          have hy0 := of_decide_eq_true hsg
          have HE : Hid ((sign c || (c == 35 && (i == 0)) || (c == 32 && ((i == 0) || decide (i = n - 1)))) = true) := hid (by rw [hsn]; rfl)
          clear hsg hd35 hd32 hsn hlt256
          have HQ : Hid ((acc ++ [92, c]) ++ valFrom (i + 1 == 0) (s.drop (i + 1)) = R) := hid (by have h := HA2.out; rw [byT_esc hk HE.out] at h; exact h)
          clear hk HA2 HE
          go_wp2_with (first | ((with_reducible refine K.atO (.index 9 _ _) ?_); refine wpL_valZ rfl (.int .u8 (c.toNat : Int)) (by rw [← HS.out]; exact exec_idx _ _ rfl s i c HC.out _ rfl rfl rfl _) ?_) | fail)
          refine (HIX.out _).mono ?_
          rintro e w2 ⟨rfl, rfl⟩
          go_wp2_with (first | ((with_reducible refine K.atO (.buildSlice 120 _ _) ?_); refine wpL_app2 rfl rfl _ _ _ _ rfl rfl HOA.out 92 c rfl rfl (fun _ => rfl) (fun _ => rfl) (by rw [HAL.out]; omega) ?_; intro q a4 c4 w4 HO4; rw [HAL.out] at HO4 ⊢) | fail)
          refine ⟨⟨i + 1, acc ++ [92, c], by go_num, HLT.out, by rw [List.length_append, HAL.out]; have := HAL3.out; simp; omega, hid ?_, hid HQ.out⟩, by have := HLT.out; simp [intOf]; omega⟩
          rw [show (acc ++ [92, c]).length = al + 2 by rw [List.length_append, HAL.out]; rfl]
          exact HO4.out
        | false =>
          rw [hsn] at hsg
          have hy0 := of_decide_eq_false hsg
          clear hsg
          by_cases h35 : c.toNat = 35
          · have h35i : ((c.toNat : Int) == 35) = true := by rw [beq_iff_eq]; omega
            rw [decide_eq_true h35] at hd35
            rw [decide_eq_false (by omega)] at hd32
            by_cases hz0 : i = 0
            · have hb0 : ((i : Int) == 0) = true := by subst hz0; rfl
              have HE : Hid ((sign c || (c == 35 && (i == 0)) || (c == 32 && ((i == 0) || decide (i = n - 1)))) = true) := hid (by rw [hd35, hz0]; simp)
              clear hd35 hd32 hsn hlt256 h35 hz0
              have HQ : Hid ((acc ++ [92, c]) ++ valFrom (i + 1 == 0) (s.drop (i + 1)) = R) := hid (by have h := HA2.out; rw [byT_esc hk HE.out] at h; exact h)
              clear hk HA2 HE
              go_wp2_with (first | ((with_reducible refine K.atO (.index 9 _ _) ?_); refine wpL_valZ rfl (.int .u8 (c.toNat : Int)) (by rw [← HS.out]; exact exec_idx _ _ rfl s i c HC.out _ rfl rfl rfl _) ?_) | fail)
              refine (HIX.out _).mono ?_
              rintro e w2 ⟨rfl, rfl⟩
              go_wp2_with (first | ((with_reducible refine K.atO (.buildSlice 120 _ _) ?_); refine wpL_app2 rfl rfl _ _ _ _ rfl rfl HOA.out 92 c rfl rfl (fun _ => rfl) (fun _ => rfl) (by rw [HAL.out]; omega) ?_; intro q a4 c4 w4 HO4; rw [HAL.out] at HO4 ⊢) | fail)
              refine ⟨⟨i + 1, acc ++ [92, c], by go_num, HLT.out, by rw [List.length_append, HAL.out]; have := HAL3.out; simp; omega, hid ?_, hid HQ.out⟩, by have := HLT.out; simp [intOf]; omega⟩
              rw [show (acc ++ [92, c]).length = al + 2 by rw [List.length_append, HAL.out]; rfl]
              exact HO4.out
            · have hb0 : ((i : Int) == 0) = false := by rw [beq_eq_false_iff_ne]; omega
              have HE : Hid ((sign c || (c == 35 && (i == 0)) || (c == 32 && ((i == 0) || decide (i = n - 1)))) = false) := hid (by rw [hd35, hd32, hsn]; simpa using hz0)
              clear hd35 hd32 hsn hlt256 h35 hz0
              have HQ : Hid ((acc ++ [c]) ++ valFrom (i + 1 == 0) (s.drop (i + 1)) = R) := hid (by have h := HA2.out; rw [byT_raw hk HE.out] at h; exact h)
              clear hk HA2 HE
              go_wp2_with (first | ((with_reducible refine K.atO (.index 9 _ _) ?_); refine wpL_valZ rfl (.int .u8 (c.toNat : Int)) (by rw [← HS.out]; exact exec_idx _ _ rfl s i c HC.out _ rfl rfl rfl _) ?_) | fail)
              refine (HIX.out _).mono ?_
              rintro e w2 ⟨rfl, rfl⟩
              go_wp2_with (first | ((with_reducible refine K.atO (.buildSlice 120 _ _) ?_); refine wpL_app1 rfl rfl _ _ _ 120 5 rfl rfl Tryz.underlying120 infoU rfl (by decide) (by decide) HO.out (.int .u8 (c.toNat : Int)) [.int .u8 (c.toNat : Int)] rfl rfl rfl (by simp [Value.oneCell']) (fun _ => rfl) (fun _ => rfl) (by omega) (by omega) ?_; intro q a4 c4 w4 HO4 HF4) | fail)
              refine ⟨⟨i + 1, acc ++ [c], by go_num, HLT.out, by rw [List.length_append, HAL.out]; have := HAL3.out; simp; omega, hid ?_, hid HQ.out⟩, by have := HLT.out; simp [intOf]; omega⟩
              have h := HO4.out
              rw [show (acc ++ [c]).length = al + 1 by rw [List.length_append, HAL.out]; rfl]
              rwa [show u8s acc ++ [Value.int .u8 (c.toNat : Int)] = u8s (acc ++ [c]) by simp [u8s]] at h
          · have h35i : ¬ (c.toNat : Int) = 35 := by omega
            rw [decide_eq_false h35] at hd35
            by_cases h32 : c.toNat = 32
            · have h32i : ((c.toNat : Int) == 32) = true := by rw [beq_iff_eq]; omega
              have h35j : ((c.toNat : Int) == 35) = false := by rw [beq_eq_false_iff_ne]; omega
              clear h35i
              rw [decide_eq_true h32] at hd32
              by_cases hz0 : i = 0
              · have hb0 : ((i : Int) == 0) = true := by subst hz0; rfl
                have HE : Hid ((sign c || (c == 35 && (i == 0)) || (c == 32 && ((i == 0) || decide (i = n - 1)))) = true) := hid (by rw [hd32, hz0]; simp)
                clear hd35 hd32 hsn hlt256 h35 hz0 h32
                have HQ : Hid ((acc ++ [92, c]) ++ valFrom (i + 1 == 0) (s.drop (i + 1)) = R) := hid (by have h := HA2.out; rw [byT_esc hk HE.out] at h; exact h)
                clear hk HA2 HE
                go_wp2_with (first | ((with_reducible refine K.atO (.index 9 _ _) ?_); refine wpL_valZ rfl (.int .u8 (c.toNat : Int)) (by rw [← HS.out]; exact exec_idx _ _ rfl s i c HC.out _ rfl rfl rfl _) ?_) | fail)
                refine (HIX.out _).mono ?_
                rintro e w2 ⟨rfl, rfl⟩
                go_wp2_with (first | ((with_reducible refine K.atO (.buildSlice 120 _ _) ?_); refine wpL_app2 rfl rfl _ _ _ _ rfl rfl HOA.out 92 c rfl rfl (fun _ => rfl) (fun _ => rfl) (by rw [HAL.out]; omega) ?_; intro q a4 c4 w4 HO4; rw [HAL.out] at HO4 ⊢) | fail)
                refine ⟨⟨i + 1, acc ++ [92, c], by go_num, HLT.out, by rw [List.length_append, HAL.out]; have := HAL3.out; simp; omega, hid ?_, hid HQ.out⟩, by have := HLT.out; simp [intOf]; omega⟩
                rw [show (acc ++ [92, c]).length = al + 2 by rw [List.length_append, HAL.out]; rfl]
                exact HO4.out
              · have hb0 : ((i : Int) == 0) = false := by rw [beq_eq_false_iff_ne]; omega
                by_cases hz1 : i = n - 1
                · have hb1 : ((i : Int) == (n : Int) - 1) = true := by rw [beq_iff_eq]; have := HLT.out; omega
                  have HE : Hid ((sign c || (c == 35 && (i == 0)) || (c == 32 && ((i == 0) || decide (i = n - 1)))) = true) := hid (by rw [hd32, decide_eq_true hz1]; simp)
                  clear hd35 hd32 hsn hlt256 h35 hz0 h32 hz1
                  have HQ : Hid ((acc ++ [92, c]) ++ valFrom (i + 1 == 0) (s.drop (i + 1)) = R) := hid (by have h := HA2.out; rw [byT_esc hk HE.out] at h; exact h)
                  clear hk HA2 HE
                  go_wp2_with (first | ((with_reducible refine K.atO (.index 9 _ _) ?_); refine wpL_valZ rfl (.int .u8 (c.toNat : Int)) (by rw [← HS.out]; exact exec_idx _ _ rfl s i c HC.out _ rfl rfl rfl _) ?_) | fail)
                  refine (HIX.out _).mono ?_
                  rintro e w2 ⟨rfl, rfl⟩
                  go_wp2_with (first | ((with_reducible refine K.atO (.buildSlice 120 _ _) ?_); refine wpL_app2 rfl rfl _ _ _ _ rfl rfl HOA.out 92 c rfl rfl (fun _ => rfl) (fun _ => rfl) (by rw [HAL.out]; omega) ?_; intro q a4 c4 w4 HO4; rw [HAL.out] at HO4 ⊢) | fail)
                  refine ⟨⟨i + 1, acc ++ [92, c], by go_num, HLT.out, by rw [List.length_append, HAL.out]; have := HAL3.out; simp; omega, hid ?_, hid HQ.out⟩, by have := HLT.out; simp [intOf]; omega⟩
                  rw [show (acc ++ [92, c]).length = al + 2 by rw [List.length_append, HAL.out]; rfl]
                  exact HO4.out
                · have hb1 : ((i : Int) == (n : Int) - 1) = false := by rw [beq_eq_false_iff_ne]; have := HLT.out; omega
                  have HE : Hid ((sign c || (c == 35 && (i == 0)) || (c == 32 && ((i == 0) || decide (i = n - 1)))) = false) := hid (by rw [hd35, hsn, decide_eq_false hz1]; simpa using fun _ => hz0)
                  clear hd35 hd32 hsn hlt256 h35 hz0 h32 hz1
                  have HQ : Hid ((acc ++ [c]) ++ valFrom (i + 1 == 0) (s.drop (i + 1)) = R) := hid (by have h := HA2.out; rw [byT_raw hk HE.out] at h; exact h)
                  clear hk HA2 HE
                  go_wp2_with (first | ((with_reducible refine K.atO (.index 9 _ _) ?_); refine wpL_valZ rfl (.int .u8 (c.toNat : Int)) (by rw [← HS.out]; exact exec_idx _ _ rfl s i c HC.out _ rfl rfl rfl _) ?_) | fail)
                  refine (HIX.out _).mono ?_
                  rintro e w2 ⟨rfl, rfl⟩
                  go_wp2_with (first | ((with_reducible refine K.atO (.buildSlice 120 _ _) ?_); refine wpL_app1 rfl rfl _ _ _ 120 5 rfl rfl Tryz.underlying120 infoU rfl (by decide) (by decide) HO.out (.int .u8 (c.toNat : Int)) [.int .u8 (c.toNat : Int)] rfl rfl rfl (by simp [Value.oneCell']) (fun _ => rfl) (fun _ => rfl) (by omega) (by omega) ?_; intro q a4 c4 w4 HO4 HF4) | fail)
                  refine ⟨⟨i + 1, acc ++ [c], by go_num, HLT.out, by rw [List.length_append, HAL.out]; have := HAL3.out; simp; omega, hid ?_, hid HQ.out⟩, by have := HLT.out; simp [intOf]; omega⟩
                  have h := HO4.out
                  rw [show (acc ++ [c]).length = al + 1 by rw [List.length_append, HAL.out]; rfl]
                  rwa [show u8s acc ++ [Value.int .u8 (c.toNat : Int)] = u8s (acc ++ [c]) by simp [u8s]] at h
            · have h32i : ¬ (c.toNat : Int) = 32 := by omega
              rw [decide_eq_false h32] at hd32
              have HE : Hid ((sign c || (c == 35 && (i == 0)) || (c == 32 && ((i == 0) || decide (i = n - 1)))) = false) := hid (by rw [hd35, hd32, hsn]; rfl)
              clear hd35 hd32 hsn hlt256 h35 h32
              have HQ : Hid ((acc ++ [c]) ++ valFrom (i + 1 == 0) (s.drop (i + 1)) = R) := hid (by have h := HA2.out; rw [byT_raw hk HE.out] at h; exact h)
              clear hk HA2 HE
              go_wp2_with (first | ((with_reducible refine K.atO (.index 9 _ _) ?_); refine wpL_valZ rfl (.int .u8 (c.toNat : Int)) (by rw [← HS.out]; exact exec_idx _ _ rfl s i c HC.out _ rfl rfl rfl _) ?_) | fail)
              refine (HIX.out _).mono ?_
              rintro e w2 ⟨rfl, rfl⟩
              go_wp2_with (first | ((with_reducible refine K.atO (.buildSlice 120 _ _) ?_); refine wpL_app1 rfl rfl _ _ _ 120 5 rfl rfl Tryz.underlying120 infoU rfl (by decide) (by decide) HO.out (.int .u8 (c.toNat : Int)) [.int .u8 (c.toNat : Int)] rfl rfl rfl (by simp [Value.oneCell']) (fun _ => rfl) (fun _ => rfl) (by omega) (by omega) ?_; intro q a4 c4 w4 HO4 HF4) | fail)
              refine ⟨⟨i + 1, acc ++ [c], by go_num, HLT.out, by rw [List.length_append, HAL.out]; have := HAL3.out; simp; omega, hid ?_, hid HQ.out⟩, by have := HLT.out; simp [intOf]; omega⟩
              have h := HO4.out
              rw [show (acc ++ [c]).length = al + 1 by rw [List.length_append, HAL.out]; rfl]
              rwa [show u8s acc ++ [Value.int .u8 (c.toNat : Int)] = u8s (acc ++ [c]) by simp [u8s]] at h
    · obtain rfl : i = n := by omega
      have hE := HA.out
      rw [← HNN.out, List.drop_length] at hE
      simp only [valFrom, List.append_nil] at hE
      obtain ⟨a1, c1, e1, hcap, h5⟩ := HO.out.reads
      simp only [Value.slice.injEq, true_and] at e1
      obtain ⟨rfl, rfl⟩ := e1
      have hbi : BytesIn wr (fun _ => True) (.slice va al vc) R := by
        rw [← hE]
        exact ⟨_, _, _, rfl, HAL.out, hcap, h5.imp id fun ⟨g, e, _, hg, hr⟩ => ⟨g, 0, e, trivial, hg, hr⟩⟩
      have HBI := hid hbi
      clear hE hcap h5 hbi hal hi hlt
      go_wp2_with (first
        | ((with_reducible refine K.atO (.convert _ 9 _) ?_); refine wpL_stringOf rfl _ _ _ _ rfl _ _ R rfl HBI.out Tryz.underlying120 Tryz.underlying5 Tryz.underlying9 ?_)
        | fail)
      go_ret
      exact ⟨rfl, HO.out.fr⟩
end Go.Proofs.YtooodoacpdhbfaaGreatDoor.DN

namespace Go.Proofs.YtooodoacpdhbfaaGreatDoor.DN
set_option maxRecDepth 100000
open Go.RowKit K Go.Proofs.YtooodoacpdhbfaaGreatDoor.BE

theorem joinB_len {sep : B} {m : Nat} : ∀ (L : List B), (∀ x ∈ L, x.length ≤ m) → (joinB sep L).length ≤ L.length * (m + sep.length)
  | [], _ => by simp [joinB]
  | [a], h => by
    have := h a (by simp)
    show a.length ≤ 1 * _
    omega
  | a :: b :: r, h => by
    have h1 := h a (by simp)
    have h2 := joinB_len (sep := sep) (b :: r) (fun x hx => h x (by simp [hx]))
    simp only [joinB, List.length_append, List.length_cons] at h2 ⊢
    have e : (r.length + 1 + 1) * (m + sep.length) = (r.length + 1) * (m + sep.length) + (m + sep.length) := by rw [Nat.add_mul]; omega
    rw [e]
    omega
theorem avaT_le {a : Av} (h : AvB 1048576 a) : (avaT a).length ≤ 4194305 := by
  have h1 := (valFrom_len a.2 true).2
  obtain ⟨h2, h3⟩ := h
  simp only [avaT, valT, List.length_append, List.length_singleton]
  omega
theorem stepT_le {r : Rd} (h : RdB 1048576 r) (hr : r.length ≤ 4) : (stepT r).length ≤ 16777224 := by
  have := joinB_len (sep := [43]) (m := 4194305) (r.map avaT) (fun x hx => by
    obtain ⟨a, ha, rfl⟩ := List.mem_map.1 hx
    exact avaT_le (h.2 a ha))
  rw [List.length_map] at this
  have h2 : r.length * (4194305 + [43].length) ≤ 4 * (4194305 + 1) := Nat.mul_le_mul_right _ hr
  exact Nat.le_trans this (Nat.le_trans h2 (by decide))
set_option maxHeartbeats 4000000 in
theorem avaText_any (x : Av) (hx : AvB 1048576 x) (w : World) : Calls Tryz.prog 107 #[.agg #[.string (sb x.1), .string (sb x.2)]] w fun e w' => e = .returned (.string (sb (avaT x))) ∧ Fr No w w' := by
  obtain ⟨t, v⟩ := x
  have HB := hid hx
  simp only at HB ⊢
  clear hx
  go_enter Tryz.func107, Tryz.ntmps107
  go_wp2_with (first
    | ((with_reducible refine K.atO (.box 71 _) ?_); refine wpL_box rfl _ _ rfl _ rfl [.string (sb t), .string (sb v)] rfl ?_; intro w1 HB1 HF1 HS1)
    | fail)
  obtain ⟨g, hg⟩ : ∃ g, w.heap.size = g := ⟨_, rfl⟩
  rw [hg] at HB1 ⊢
  have c0 : w1.cell? ⟨g, 0, none⟩ = some (.string (sb t)) := HB1.out.cell 0
  have c1 : w1.cell? ⟨g, 1, none⟩ = some (.string (sb v)) := HB1.out.cell 1
  have hold : Facts.hold [(1, fun w' => w'.cell? ⟨g, 0, none⟩ = some (.string (sb t))), (4, fun w' => w'.cell? ⟨g, 1, none⟩ = some (.string (sb v)))] w1.drew := Facts.cons_hold c0 (Facts.cons_hold c1 (Facts.nil_hold _))
  refine wpD_region hold (by kernel_rfl) 8 rfl ?_
  (refine wpD_plain 0 (v := ?_) rfl (by kernel_rfl) (by kernel_rfl) (by kernel_rfl) (fun _ _ _ h => h) (by rfl) ?_ (by assumption) ?_; rotate_left; (intro _w; go_simp; try with_reducible rfl); simp only [Act.put, K.put3])
  (refine wpD_plain 3 (v := ?_) rfl (by kernel_rfl) (by kernel_rfl) (by kernel_rfl) (fun _ _ _ h => h) (by rfl) ?_ (by assumption) ?_; rotate_left; (intro _w; go_simp; try with_reducible rfl); simp only [Act.put, K.put3])
  (refine wpD_take 1 _ rfl (by kernel_rfl) (by kernel_rfl) (by kernel_rfl) (fun _ _ _ h => h) List.mem_cons_self (by rfl) (v := ?_) ?_ (by assumption) ?_; rotate_left; (intro _w _hw; go_simp; try with_reducible rfl); simp only [Act.put, K.put3])
  (refine wpD_take 4 _ rfl (by kernel_rfl) (by kernel_rfl) (by kernel_rfl) (fun _ _ _ h => h) (List.mem_cons_of_mem _ List.mem_cons_self) (by rfl) (v := ?_) ?_ (by assumption) ?_; rotate_left; (intro _w _hw; go_simp; try with_reducible rfl); simp only [Act.put, K.put3])
  (refine wpD_plain 2 (v := (.string (sb (t ++ [61])))) rfl (by kernel_rfl) (by kernel_rfl) (by kernel_rfl) (fun _ _ _ h => h) (by rfl) ?_ (by assumption) ?_; (intro _w; exact exec_addS _ _ _ rfl t [61] rfl rfl (by have := HB.out.1; simp only [List.length_singleton] at *; omega) _ rfl _w); simp only [Act.put, K.put3])
  clear hold
  refine wpD_only 5 [(1, fun w' => w'.cell? ⟨g, 0, none⟩ = some (.string (sb t)))] rfl (by kernel_rfl) (by kernel_rfl) (by rfl) (fun K5 hK5 => ?_)
  refine wp_call _ _ _ rfl 138 [] rfl (fun vs w => by kernel_rfl) [.string (sb v)] (by rfl) ?_
  refine (valueText_any v (by have := HB.out.2; simp only at this; omega) w1.drew).mono ?_
  rintro e w2 ⟨rfl, f2⟩
  have c02 : w2.cell? ⟨g, 0, none⟩ = some (.string (sb t)) := f2.cell (show w1.drew.cell? _ = _ from c0) id
  have HF2 := hid (HF1.out.trans' ((Fr.refl No w1).drew.trans' f2))
  refine ⟨_, rfl, hK5 _ _ (Facts.cons_hold c02 (Facts.nil_hold _)) ?_⟩
  clear hK5 K5 f2
  simp only [Act.put, K.put3]
  have hold : Facts.hold [(1, fun w' => w'.cell? ⟨g, 0, none⟩ = some (.string (sb t)))] w2 := Facts.cons_hold c02 (Facts.nil_hold _)
  (refine wpD_plain 6 (v := (.string (sb (t ++ [61] ++ valT v)))) rfl (by kernel_rfl) (by kernel_rfl) (by kernel_rfl) (fun _ _ _ h => h) (by rfl) ?_ (by assumption) ?_; (intro _w; exact exec_addS _ _ _ rfl (t ++ [61]) (valT v) rfl rfl (by have := HB.out; have h2 := (valFrom_len v true).2; unfold AvB at this; simp only [List.length_append, List.length_singleton, valT] at *; omega) _ rfl _w); simp only [Act.put, K.put3])
  (refine wpD_plain 7 (v := ?_) rfl (by kernel_rfl) (by kernel_rfl) (by kernel_rfl) (fun _ _ _ h => h) (by rfl) ?_ (by assumption) ?_; rotate_left; (intro _w; go_simp; try with_reducible rfl); simp only [Act.put, K.put3])
  clear hold
  refine wpD_done (by kernel_rfl) ?_ _
  go_wp2_with fail
  go_ret
  exact ⟨by show Ending.returned (.string (sb (t ++ 61 :: valT v))) = _; simp [avaT], HF2.out⟩
set_option maxHeartbeats 4000000 in
theorem joinedAv_any (E : Nat → Prop) (v : Value) (r : Rd) (w : World) (h : RdIn E w v r) (hb : RdB 1048576 r) (hr : r.length ≤ 4) :
    Calls Tryz.prog 106 #[v, .string (sb [43]), .func (.func 107) #[] #[]] w fun e w' => e = .returned (.string (sb (stepT r))) ∧ Fr No w w' := by
  obtain ⟨a, cp, rfl, -, hl0⟩ := h.form
  have HX := hid h
  have HL := hid (stepT_le hb hr)
  have HB := hid hb
  obtain ⟨n, hn⟩ : ∃ n, r.length = n := ⟨_, rfl⟩
  rw [hn] at HX hr ⊢
  have HNN := hid hn
  have hni : (n : Int) ≤ 4 := by omega
  rw [show sb [43] = (⟨#[43]⟩ : ByteArray) from rfl]
  clear h hb hn hl0
  go_enter Tryz.func106, Tryz.ntmps106
  go_wp2_with fail
  go_loopw [7, 12] (fun sv iv wr => ∃ (i : Nat), iv = .int .i64 i ∧ i ≤ n ∧ Hid (OwR 9 1 w wr sv i (strs ((r.take i).map avaT)))) (fun _ iv _ => n - (intOf iv).toNat)
  case atStart => exact ⟨0, rfl, Nat.zero_le _, hid (owR_nil (Fr.refl _ _))⟩
  case round =>
    obtain ⟨i, rfl, hi, HO⟩ := hrel
    obtain ⟨va, vc, rfl⟩ := HO.out.1
    by_cases hlt : i < n
    · obtain ⟨x, hx⟩ : ∃ x, r[i]? = some x := ⟨_, List.getElem?_eq_getElem (by rw [HNN.out]; exact hlt)⟩
      have hlti : (i : Int) < n := by omega
      have hi0 : (0 : Int) ≤ i := by omega
      obtain ⟨g, o, cq, c, e1, -, hgw, hrr, hc, hxa⟩ := (RdIn.no HX.out HO.out.fr).get hx
      rw [HNN.out] at e1
      simp only [Value.slice.injEq, true_and] at e1
      obtain ⟨rfl, rfl⟩ := e1
      obtain ⟨rfl, hs1, hs2⟩ := hxa
      have HRR := hid hrr
      have HXB : Hid (AvB 1048576 x) := hid (HB.out.2 x (List.mem_of_getElem? hx))
      have HNX : Hid (strs ((r.take (i + 1)).map avaT) = strs ((r.take i).map avaT) ++ [.string (sb (avaT x))]) := hid (by
        rw [List.take_add_one, hx]
        simp [strs])
      have HLT := hid hlt
      clear hc hgw hrr hs1 hs2 hx hlt
      go_wp2_with (first
        | ((with_reducible refine K.atO (.load 71 _) ?_); (fail_if_success (have := HB2)); refine wpL_load rfl _ _ rfl g (o + i * 2) rfl [.string (sb x.1), .string (sb x.2)] _ HRR.out rfl rfl infoAv ?_)
        | ((with_reducible refine K.atO (.alloc 71) ?_); refine wpList_plain rfl fun K1 hK1 => ?_; refine wp_alloc 71 rfl (.agg #[.string ⟨#[]⟩, .string ⟨#[]⟩]) (fun _ => by kernel_rfl) [.string ⟨#[]⟩, .string ⟨#[]⟩] rfl ?_; intro w2 HB2 HF2 HS2; refine hK1 _ _ ?_; clear hK1 K1)
        | ((with_reducible refine K.atO (.store 71 _ _) ?_); refine wpL_store rfl _ _ _ rfl wr.heap.size 0 [.string (sb x.1), .string (sb x.2)] rfl rfl 71 _ HB2.out (by simp) infoAv (by simp [Value.oneCell']) ?_; intro w3 HB3 HF3 HS3)
        | ((with_reducible refine K.atO (.load 71 _) ?_); refine wpL_load rfl _ _ rfl wr.heap.size 0 rfl [.string (sb x.1), .string (sb x.2)] _ (by simpa [spl] using HB3.out.range 0 [.string (sb x.1), .string (sb x.2)] rfl) rfl rfl infoAv ?_)
        | fail)
      refine (avaText_any x HXB.out w3).mono ?_
      rintro e w4 ⟨rfl, f4⟩
      have HF4 : Hid (Fr No wr w4) := hid ((HF2.out.trans HF3.out fun k e => .inr (by have e : k = wr.heap.size := e; omega)).trans' f4)
      have HO4 := hid (OwR.no HO.out HF4.out)
      clear f4
      go_wp2_with (first
        | ((with_reducible refine K.atO (.buildSlice 42 _ _) ?_); refine wpL_app1 rfl rfl _ _ _ 42 9 rfl rfl Tryz.underlying42 infoStr rfl (by decide) (by decide) HO4.out (.string (sb (avaT x))) [.string (sb (avaT x))] rfl rfl rfl (by simp [Value.oneCell']) (fun _ => rfl) (fun _ => rfl) (by omega) (by omega) ?_; intro q a5 c5 w5 HO5 HF5)
        | fail)
      refine ⟨⟨i + 1, by go_num, HLT.out, hid (by rw [HNX.out]; exact HO5.out)⟩, ?_⟩
      have := HLT.out
      simp [intOf]; omega
    · obtain rfl : i = n := by omega
      obtain ⟨a1, c1, e1, hcap, h5⟩ := HO.out.reads
      simp only [Value.slice.injEq, true_and] at e1
      obtain ⟨rfl, rfl⟩ := e1
      have hall : (r.take i).map avaT = r.map avaT := by rw [← HNN.out, List.take_length]
      rw [hall] at h5
      have hlm : (r.map avaT).length = i := by rw [List.length_map]; exact HNN.out
      have HJ := hid (join_any (fun _ => True) (.slice va i vc) (r.map avaT) [43] wr ⟨va, vc, by rw [hlm], by rw [hlm]; exact hcap, by
        rcases h5 with h0 | ⟨g, h1, h2, h3, h4⟩
        · exact .inl (List.eq_nil_of_length_eq_zero (by omega))
        · exact .inr ⟨g, 0, h1, h3, h4⟩⟩ (by omega) (Nat.le_trans HL.out (by decide)))
      clear hcap h5 hall hlm hi hlt
      go_wp2_with fail
      refine HJ.out.mono ?_
      rintro e w6 ⟨rfl, f6⟩
      have HF6 := hid (HO.out.fr.trans' f6)
      clear f6
      go_wp2_with fail
      go_ret
      exact ⟨rfl, HF6.out⟩
theorem stepText_any (E : Nat → Prop) (v : Value) (r : Rd) (w : World) (h : RdIn E w v r) (hb : RdB 1048576 r) (hr : r.length ≤ 4) :
    Calls Tryz.prog 68 #[v] w fun e w' => e = .returned (.string (sb (stepT r))) ∧ Fr No w w' := by
  have H := hid (joinedAv_any E v r w h hb hr)
  obtain ⟨a, cp, rfl, -, -⟩ := h.form
  clear h hb hr
  go_enter Tryz.func68, Tryz.ntmps68
  go_wp2_with fail
  refine H.out.mono ?_
  rintro e w1 ⟨rfl, f1⟩
  have HF := hid f1
  clear f1
  go_wp2_with fail
  go_ret
  exact ⟨rfl, HF.out⟩
set_option maxHeartbeats 4000000 in
theorem joinedRd_any (E : Nat → Prop) (v : Value) (r : Nm) (w : World) (h : NmIn E w v r) (hb : NmB 1048576 r) (hr : r.length ≤ 16) (hs : ∀ x ∈ r, x.length ≤ 4) :
    Calls Tryz.prog 67 #[v, .string (sb [44]), .func (.func 68) #[] #[]] w fun e w' => e = .returned (.string (sb (printT r))) ∧ Fr No w w' := by
  obtain ⟨a, cp, rfl, -, hl0⟩ := h.form
  have HX := hid h
  have HL : Hid ((printT r).length ≤ 140737488355328) := hid (by
    have h1 := joinB_len (sep := [44]) (m := 16777224) (r.map stepT) (fun x hx => by
      obtain ⟨a, ha, rfl⟩ := List.mem_map.1 hx
      exact stepT_le (hb.2 a ha) (hs a ha))
    rw [List.length_map] at h1
    have h2 : r.length * (16777224 + [44].length) ≤ 16 * (16777224 + 1) := Nat.mul_le_mul_right _ hr
    exact Nat.le_trans h1 (Nat.le_trans h2 (by decide)))
  have HB := hid hb
  have HS := hid hs
  obtain ⟨n, hn⟩ : ∃ n, r.length = n := ⟨_, rfl⟩
  rw [hn] at HX hr ⊢
  have HNN := hid hn
  have hni : (n : Int) ≤ 16 := by omega
  rw [show sb [44] = (⟨#[44]⟩ : ByteArray) from rfl]
  clear h hb hn hl0 hs
  go_enter Tryz.func67, Tryz.ntmps67
  go_wp2_with fail
  go_loopw [7, 12] (fun sv iv wr => ∃ (i : Nat), iv = .int .i64 i ∧ i ≤ n ∧ Hid (OwR 9 1 w wr sv i (strs ((r.take i).map stepT)))) (fun _ iv _ => n - (intOf iv).toNat)
  case atStart => exact ⟨0, rfl, Nat.zero_le _, hid (owR_nil (Fr.refl _ _))⟩
  case round =>
    obtain ⟨i, rfl, hi, HO⟩ := hrel
    obtain ⟨va, vc, rfl⟩ := HO.out.1
    by_cases hlt : i < n
    · obtain ⟨x, hx⟩ : ∃ x, r[i]? = some x := ⟨_, List.getElem?_eq_getElem (by rw [HNN.out]; exact hlt)⟩
      have hlti : (i : Int) < n := by omega
      have hi0 : (0 : Int) ≤ i := by omega
      obtain ⟨g, o, cq, c, e1, -, hgw, hrr, hc, hxa⟩ := (NmIn.no HX.out HO.out.fr).get hx
      rw [HNN.out] at e1
      simp only [Value.slice.injEq, true_and] at e1
      obtain ⟨rfl, rfl⟩ := e1
      obtain ⟨vx, rfl, hvx⟩ := hxa
      have hcell : wr.cell? ⟨g, o + i, none⟩ = some vx := by have := hrr 0 vx rfl; simpa using this
      have HVX := hid hvx
      obtain ⟨xa, xc, rfl, -, -⟩ := Sl.form hvx
      have HXB : Hid (RdB 1048576 x ∧ x.length ≤ 4) := hid ⟨HB.out.2 x (List.mem_of_getElem? hx), HS.out x (List.mem_of_getElem? hx)⟩
      have HNX : Hid (strs ((r.take (i + 1)).map stepT) = strs ((r.take i).map stepT) ++ [.string (sb (stepT x))]) := hid (by
        rw [List.take_add_one, hx]
        simp [strs])
      have HLT := hid hlt
      clear hc hgw hrr hvx hx hlt
      go_wp2_with fail
      refine (stepText_any E _ x wr HVX.out HXB.out.1 HXB.out.2).mono ?_
      rintro e w4 ⟨rfl, f4⟩
      have HO4 := hid (OwR.no HO.out f4)
      clear f4
      go_wp2_with (first
        | ((with_reducible refine K.atO (.buildSlice 42 _ _) ?_); refine wpL_app1 rfl rfl _ _ _ 42 9 rfl rfl Tryz.underlying42 infoStr rfl (by decide) (by decide) HO4.out (.string (sb (stepT x))) [.string (sb (stepT x))] rfl rfl rfl (by simp [Value.oneCell']) (fun _ => rfl) (fun _ => rfl) (by omega) (by omega) ?_; intro q a5 c5 w5 HO5 HF5)
        | fail)
      refine ⟨⟨i + 1, by go_num, HLT.out, hid (by rw [HNX.out]; exact HO5.out)⟩, ?_⟩
      have := HLT.out
      simp [intOf]; omega
    · obtain rfl : i = n := by omega
      obtain ⟨a1, c1, e1, hcap, h5⟩ := HO.out.reads
      simp only [Value.slice.injEq, true_and] at e1
      obtain ⟨rfl, rfl⟩ := e1
      have hall : (r.take i).map stepT = r.map stepT := by rw [← HNN.out, List.take_length]
      rw [hall] at h5
      have hlm : (r.map stepT).length = i := by rw [List.length_map]; exact HNN.out
      have HJ := hid (join_any (fun _ => True) (.slice va i vc) (r.map stepT) [44] wr ⟨va, vc, by rw [hlm], by rw [hlm]; exact hcap, by
        rcases h5 with h0 | ⟨g, h1, h2, h3, h4⟩
        · exact .inl (List.eq_nil_of_length_eq_zero (by omega))
        · exact .inr ⟨g, 0, h1, h3, h4⟩⟩ (by omega) HL.out)
      clear hcap h5 hall hlm hi hlt
      go_wp2_with fail
      refine HJ.out.mono ?_
      rintro e w6 ⟨rfl, f6⟩
      have HF6 := hid (HO.out.fr.trans' f6)
      clear f6
      go_wp2_with fail
      go_ret
      exact ⟨rfl, HF6.out⟩
theorem print_any (E : Nat → Prop) (v : Value) (r : Nm) (w : World) (h : NmIn E w v r) (hb : NmB 1048576 r) (hr : r.length ≤ 16) (hs : ∀ x ∈ r, x.length ≤ 4) :
    Calls Tryz.prog 34 #[v] w fun e w' => e = .returned (.string (sb (printT r))) ∧ Fr No w w' := by
  have H := hid (joinedRd_any E v r w h hb hr hs)
  obtain ⟨a, cp, rfl, -, -⟩ := h.form
  clear h hb hr hs
  go_enter Tryz.func34, Tryz.ntmps34
  go_wp2_with fail
  refine H.out.mono ?_
  rintro e w1 ⟨rfl, f1⟩
  have HF := hid f1
  clear f1
  go_wp2_with fail
  go_ret
  exact ⟨rfl, HF.out⟩
end Go.Proofs.YtooodoacpdhbfaaGreatDoor.DN
