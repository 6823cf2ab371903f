/-
  Part 10 of the proof: DnP, DnPr, DnKy.
-/
import Derived.Test.YtnjemnmhkhkpeaaDoorDo03
import Derived.Test.YtnjemnmhkhkpeaaDoorDo04
import Derived.Test.YtnjemnmhkhkpeaaDoorDo05
import Derived.Test.YtnjemnmhkhkpeaaDoorDo09
import Derived.Shelf.Strings.BuilderK
set_option linter.unusedSimpArgs false
set_option linter.unusedVariables false
namespace Go.Proofs.YtnjemnmhkhkpeaaDoor.DN
set_option maxRecDepth 100000
open Go.RowKit K Go.Proofs.YtnjemnmhkhkpeaaDoor.BE
def SG : B := [34, 43, 44, 59, 60, 62, 92]
def DG : B := [48, 49, 50, 51, 52, 53, 54, 55, 56, 57, 97, 98, 99, 100, 101, 102]
theorem sg_index (c : UInt8) : decide ((0 : Int) ≤ Lib.indexByte SG c) = sign c := by
  have := u8_all (fun c => decide ((0 : Int) ≤ Lib.indexByte SG c) == sign c) (by decide +kernel) c
  simpa using this
theorem dg_hi (c : UInt8) (h : c < 32 ∨ c = 127) : DG[c.toNat / 16]? = some (dgt (c / 16)) ∧ DG[c.toNat % 16]? = some (dgt (c % 16)) := by
  have := u8_all (fun c => !(decide (c < 32 ∨ c = 127)) || ((DG[c.toNat / 16]? == some (dgt (c / 16))) && (DG[c.toNat % 16]? == some (dgt (c % 16))))) (by decide +kernel) c
  simpa [h] using this
theorem and15 (c : UInt8) : bits .and .u8 (c.toNat : Int) 15 = ((c.toNat % 16 : Nat) : Int) := by
  have h : ∀ n : Fin 256, bits .and .u8 (n.val : Int) 15 = ((n.val % 16 : Nat) : Int) := by decide +kernel
  simpa using h ⟨c.toNat, UInt8.toNat_lt c⟩
theorem shr4 (c : UInt8) : ((c.toNat : Int) / 16) = ((c.toNat / 16 : Nat) : Int) := by omega
theorem exec_shr4 {op : Oper} {a : Act} (c : UInt8) (q : Nat) (hq : ((c.toNat : Int) / 16) = (q : Int)) (x y : Operand) {u : TypeId} (ho : op.op = .binOp .shr 5 x y u) (hx : a.eval x = .int .u8 (c.toNat : Int)) (hy : a.eval y = .int .u64 4) (w : World) :
    (execOp a.eval op).run Tryd.prog w = .ok (.value (.int .u8 (q : Int))) w := by
  rw [← hq]
  unfold execOp
  simp only [ho, hx, hy]
  simp [go_sem, eqGuard, Result.andThen]
theorem exec_and15 {op : Oper} {a : Act} (c : UInt8) (q : Nat) (hq : bits .and .u8 (c.toNat : Int) 15 = (q : Int)) (x y : Operand) {u : TypeId} (ho : op.op = .binOp .and 5 x y u) (hx : a.eval x = .int .u8 (c.toNat : Int)) (hy : a.eval y = .int .u8 15) (w : World) :
    (execOp a.eval op).run Tryd.prog w = .ok (.value (.int .u8 (q : Int))) w := by
  rw [← hq]
  unfold execOp
  simp only [ho, hx, hy]
  simp [go_sem, eqGuard, Result.andThen]
theorem exec_idx8 {op : Oper} {a : Act} (x y : Operand) (ho : op.op = .index 9 x y) (l : B) (i : Nat) (b : UInt8) (hi : l[i]? = some b) (n : Int) (hn : n = (i : Int)) (hx : a.eval x = .string (sb l)) (hy : a.eval y = .int .u8 n) (w : World) : (execOp a.eval op).run Tryd.prog w = .ok (.value (.int .u8 (b.toNat : Int))) w := by
  subst hn
  obtain ⟨hl, hb⟩ := List.getElem?_eq_some_iff.1 hi
  have hz : (sb l).size = l.length := sb_size l
  have h1 : (0 : Int) ≤ (i : Int) ∧ (i : Int) < (sb l).size := ⟨by omega, by omega⟩
  have h : (Instr.index 9 (.string (sb l)) (.int .u8 (i : Int))).run Tryd.prog w = .ok (.int .u8 (b.toNat : Int)) w := by
    rw [Go.run_index_string (P := Tryd.prog) w 9 (sb l) .u8 (i : Int) Tryd.underlying9, dif_pos h1]
    have h2 : ((sb l)[(i : Int).toNat]'(by omega)) = b := hb
    rw [h2]
  simp [execOp, ho, hx, hy, h]
/-- A slice literal, as one operation of a region, out of a closed fact. -/
theorem wp_buildRun {P : Program} {op : Oper} {a : Act} {w : World} {K : Act → World → Prop} {Q : Exit → Act → World → Prop} (t e : TypeId) (n : Nat) (parts : List (Nat × Operand)) (ho : op.op = .buildSlice t n parts.toArray) (cs : List Value)
    (hrun : (Instr.buildSlice t n (parts.map fun x => (x.1, a.eval x.2)).toArray).run P w = .ok (.slice (some ⟨w.heap.size, 0, none⟩) n n) (w.alloc (.cells cs.toArray e)))
    (h : ∀ w', Hid (Blk w' w.heap.size e cs) → Hid (Fr No w w') → Hid (w'.heap.size = w.heap.size + 1) → K (a.put op.dst (.slice (some ⟨w.heap.size, 0, none⟩) n n)) w') : op.wp P a w K Q := by
  unfold Oper.wp
  have h1 := h (w.alloc (.cells cs.toArray e)) (hid (Blk.new w e cs)) (hid ((Fr.refl _ _).alloc _)) (hid (by simp))
  simp [execOp, ho, hrun, Result.andThen]
  exact h1
theorem run_bytes (vs : List Value) (hv0 : 0 < vs.length) (hl : vs.length ≤ 16) (hv : ∀ v ∈ vs, ∃ n, v = .int .u8 n) (w : World) : (Instr.buildSlice 51 vs.length ((vs.zipIdx 0).map fun x => (x.2, x.1)).toArray).run Tryd.prog w =
    .ok (.slice (some ⟨w.heap.size, 0, none⟩) vs.length vs.length) (w.alloc (.cells vs.toArray 5)) := by
  obtain ⟨i, hi, hz, hs, hb⟩ := Go.info_parts infoU
  have h := run_buildAll (P := Tryd.prog) 51 5 vs i _ Tryd.underlying51 hi hz (by rw [hs]; decide) (by rw [hs]; omega) hv0 (fun v h => by obtain ⟨n, rfl⟩ := hv v h; rw [hs]; rfl) w
  have e : (vs.flatMap fun v => v.cells.toList) = vs := by
    clear h hv0 hl
    induction vs with
    | nil => rfl
    | cons v r ih =>
      obtain ⟨n, rfl⟩ := hv v (by simp)
      rw [List.flatMap_cons, ih (fun q hq => hv q (by simp [hq]))]
      rfl
  rw [e] at h
  exact h
section
variable {ops : Array Oper} {rest : List Oper} {o1 o2 : Oper} {a : Act} {w : World} {Q : Exit → Act → World → Prop}
/-- 'append(s, x, y)' of bytes, in a plain region. -/
theorem wpL_app2 (hg1 : o1.guard = none) (hg2 : o2.guard = none) (x x2 s y : Operand) (ho1 : o1.op = .buildSlice 51 2 #[(0, x), (1, x2)]) (ho2 : o2.op = .call { callee := .builtin .append, args := #[s, y], argTypes := #[51, 51] })
    {w0 : World} {v : Value} {l : B} (hown : OwR 5 1 w0 w v l.length (u8s l)) (c d : UInt8) (hx : a.eval x = .int .u8 (c.toNat : Int)) (hx2 : a.eval x2 = .int .u8 (d.toNat : Int))
    (hs : ∀ q, (a.put o1.dst q).eval s = v) (hy : ∀ q, (a.put o1.dst q).eval y = q) (hb : l.length + 2 ≤ 140737488355328)
    (h : ∀ q a' cap' w', Hid (OwR 5 1 w0 w' (.slice a' (l.length + 2) cap') (l.length + 2) (u8s (l ++ [c, d]))) → wpList Tryd.prog ops Q rest ((a.put o1.dst q).put o2.dst (.slice a' (l.length + 2) cap')) w') : wpList Tryd.prog ops Q (o1 :: o2 :: rest) a w := by
  refine wpL_buildSlice hg1 51 5 2 [(0, x), (1, x2)] ho1 [.int .u8 (c.toNat : Int), .int .u8 (d.toNat : Int)] ?_ ?_
  · have := run_bytes [.int .u8 (c.toNat : Int), .int .u8 (d.toNat : Int)] (by simp) (by simp) (by simp) w
    simpa [hx, hx2] using this
  · intro w1 HB HF HS
    refine wpList_plain hg2 fun K hK => ?_
    refine wp_appR s y 51 5 ho2 Tryd.underlying51 infoU rfl (by decide) (hown.no HF.out) (hs _) w.heap.size 2 2 [.int .u8 (c.toNat : Int), .int .u8 (d.toNat : Int)] (hy _) rfl HB.out (by simp [Value.oneCell']) (by omega) hb ?_
    intro a' cap' w' p q
    refine hK _ _ (h _ a' cap' w' (hid ?_))
    have := p.out
    rwa [show u8s l ++ [Value.int .u8 (c.toNat : Int), .int .u8 (d.toNat : Int)] = u8s (l ++ [c, d]) by simp [u8s]] at this
end
theorem byT_ctl {a b : Bool} {c : UInt8} (h : c < 32 ∨ c = 127) : byT a b c = [92, dgt (c / 16), dgt (c % 16)] := by unfold byT; rw [if_pos h]
theorem byT_esc {a b : Bool} {c : UInt8} (h : ¬ (c < 32 ∨ c = 127)) (h2 : (sign c || (c == 35 && a) || (c == 32 && (a || b))) = true) : byT a b c = [92, c] := by unfold byT; rw [if_neg h, h2]; rfl
theorem byT_raw {a b : Bool} {c : UInt8} (h : ¬ (c < 32 ∨ c = 127)) (h2 : (sign c || (c == 35 && a) || (c == 32 && (a || b))) = false) : byT a b c = [c] := by unfold byT; rw [if_neg h, h2]; rfl
theorem ctl_nat (c : UInt8) : (c < 32 ∨ c = 127) ↔ (c.toNat < 32 ∨ c.toNat = 127) := by
  rw [UInt8.lt_iff_toNat_lt, ← UInt8.toNat_inj]
  exact Iff.rfl
set_option maxHeartbeats 8000000 in
theorem valueText_any (s : B) (hs : s.length ≤ 4294967296) (w : World) : Calls Tryd.prog 49 #[.string (sb s)] w fun e w' => e = .returned (.string (sb (valT s))) ∧ Fr No w w' := by
  have hz : (sb s).size = s.length := sb_size s
  obtain ⟨S, hS⟩ : ∃ S, sb s = S := ⟨_, rfl⟩
  obtain ⟨n, hn⟩ : ∃ n, s.length = n := ⟨_, rfl⟩
  obtain ⟨R, hR⟩ : ∃ R, valT s = R := ⟨_, rfl⟩
  rw [hS, hR]
  rw [hS, hn] at hz
  rw [hn] at hs
  have hni : (n : Int) ≤ 4294967296 := by omega
  have hszi : (S.size : Int) = n := by omega
  have HNN := hid hn; have HS := hid hS; have HR := hid hR
  clear hs hz hS hn hR
  go_enter Tryd.func49, Tryd.ntmps49
  go_wp2_with fail
  go_loopw [3, 10] (fun sv iv wr => ∃ (i : Nat) (acc : B), iv = .int .i64 i ∧ i ≤ n ∧ acc.length ≤ 3 * i ∧ Hid (OwR 5 1 w wr sv acc.length (u8s acc)) ∧ Hid (acc ++ valFrom (i == 0) (s.drop i) = R)) (fun _ iv _ => n - (intOf iv).toNat)
  case atStart => exact ⟨0, [], rfl, Nat.zero_le _, Nat.zero_le _, hid (owR_nil (Fr.refl _ _)), hid (by rw [← HR.out]; rfl)⟩
  case round =>
    obtain ⟨i, acc, rfl, hi, hal, HO, HA⟩ := hrel
    obtain ⟨va, vc, rfl⟩ := HO.out.1
    obtain ⟨al, hal2⟩ : ∃ al, acc.length = al := ⟨_, rfl⟩
    rw [hal2] at HO hal ⊢
    have HAL := hid hal2
    have hali : (al : Int) ≤ 12884901888 := by omega
    by_cases hlt : i < n
    · obtain ⟨c, hc⟩ : ∃ c, s[i]? = some c := ⟨_, List.getElem?_eq_getElem (by rw [HNN.out]; exact hlt)⟩
      have HC := hid hc
      have hlti : (i : Int) < n := by omega
      have hi0 : (0 : Int) ≤ i := by omega
      have hsplit : s.drop i = c :: s.drop (i + 1) := by
        have hl : i < s.length := by rw [HNN.out]; exact hlt
        rw [List.drop_eq_getElem_cons hl]
        rw [List.getElem?_eq_getElem hl] at hc
        rw [Option.some.inj hc]
      have hlast : (s.drop (i + 1)).isEmpty = decide (i = n - 1) := by
        have h1 : (s.drop (i + 1)).length = n - (i + 1) := by rw [List.length_drop, HNN.out]
        cases hq : s.drop (i + 1) with
        | nil => rw [hq] at h1; simp at h1; rw [decide_eq_true (by omega)]; rfl
        | cons _ _ => rw [hq] at h1; simp at h1; rw [decide_eq_false (by omega)]; rfl
      have HA2 : Hid ((acc ++ byT (i == 0) (decide (i = n - 1)) c) ++ valFrom false (s.drop (i + 1)) = R) := hid (by
        have h := HA.out
        rw [hsplit] at h
        simp only [valFrom] at h
        rw [hlast] at h
        rw [List.append_assoc]
        exact h)
      have HLT := hid hlt
      have HAL3 := hid hal
      have hsg := sg_index c
      have HIX := hid (fun w => indexByte_any SG c w)
      obtain ⟨y, hy⟩ : ∃ y : Int, Lib.indexByte SG c = y := ⟨_, rfl⟩
      rw [hy] at hsg HIX
      have hctl := ctl_nat c
      have hd35 : (c == 35) = decide (c.toNat = 35) := by rw [Bool.eq_iff_iff]; simp [← UInt8.toNat_inj]
      have hd32 : (c == 32) = decide (c.toNat = 32) := by rw [Bool.eq_iff_iff]; simp [← UInt8.toNat_inj]
      have hlt256 := lt256 c
      clear hc hsplit hlast hy hlt hi hal HA
      by_cases hk : c < 32 ∨ c = 127
      · have hn1 : (c.toNat : Int) < 32 ∨ (¬ (c.toNat : Int) < 32 ∧ (c.toNat : Int) = 127) := by
          rcases hctl.1 hk with h | h <;> omega
        have HQ : Hid ((acc ++ [92, dgt (c / 16), dgt (c % 16)]) ++ valFrom (i + 1 == 0) (s.drop (i + 1)) = R) := hid (by have h := HA2.out; rw [byT_ctl hk] at h; exact h)
        obtain ⟨hd1, hd2⟩ := dg_hi c hk
        have HD1 := hid hd1; have HD2 := hid hd2
        have h15 := and15 c
        have hs4 := shr4 c
        have H15 := hid h15; have HS4 := hid hs4
        have hdl1 : (((c.toNat / 16 : Nat)) : Int) < 16 := by omega
        have hdl2 : (((c.toNat % 16 : Nat)) : Int) < 16 := by omega
        obtain ⟨q1, hq1⟩ : ∃ q1, c.toNat / 16 = q1 := ⟨_, rfl⟩
        obtain ⟨q2, hq2⟩ : ∃ q2, c.toNat % 16 = q2 := ⟨_, rfl⟩
        rw [hq1] at HD1 HS4 hdl1; rw [hq2] at HD2 H15 hdl2
        clear hk hctl hd35 hd32 hsg hd1 hd2 h15 hs4 HA2 hlt256 hq1 hq2
        rcases hn1 with h1 | ⟨h1, h2⟩
        · go_wp2_with (first | ((with_reducible refine K.atO (.index 9 _ _) ?_); refine wpL_valZ rfl (.int .u8 (c.toNat : Int)) (by rw [← HS.out]; exact exec_idx _ _ rfl s i c HC.out _ rfl rfl rfl _) ?_) | fail)
          have hold : Facts.hold [] wr.drew := Facts.nil_hold _
          refine wpD_region hold (by kernel_rfl) 10 rfl ?_
          (refine K.pl 0 (v := ?_) rfl ?_ ?_; rotate_left; (intro _w; go_simp; try with_reducible rfl); simp only [Act.put, K.put3])
          (refine K.pl 1 (v := ?_) rfl ?_ ?_; rotate_left; (intro _w; go_simp; try with_reducible rfl); simp only [Act.put, K.put3])
          (refine K.pl 2 (v := (.int .u8 (q1 : Int))) rfl ?_ ?_; (intro _w; exact exec_shr4 c q1 HS4.out _ _ rfl rfl rfl _w); simp only [Act.put, K.put3])
          (refine K.pl 3 (v := (.int .u8 ((dgt (c / 16)).toNat : Int))) rfl ?_ ?_; (intro _w; exact exec_idx8 _ _ rfl DG q1 _ HD1.out _ rfl rfl rfl _w); simp only [Act.put, K.put3])
          (refine K.pl 4 (v := ?_) rfl ?_ ?_; rotate_left; (intro _w; go_simp; try with_reducible rfl); simp only [Act.put, K.put3])
          (refine K.pl 5 (v := (.int .u8 (q2 : Int))) rfl ?_ ?_; (intro _w; exact exec_and15 c q2 H15.out _ _ rfl rfl rfl _w); simp only [Act.put, K.put3])
          (refine K.pl 6 (v := (.int .u8 ((dgt (c % 16)).toNat : Int))) rfl ?_ ?_; (intro _w; exact exec_idx8 _ _ rfl DG q2 _ HD2.out _ rfl rfl rfl _w); simp only [Act.put, K.put3])
          clear hold
          refine K.on 7 [] rfl (fun K7 hK7 => ?_)
          refine wp_buildRun 51 5 3 [(0, .const (.int .u8 92)), (1, .tmp 37), (2, .tmp 40)] rfl [.int .u8 92, .int .u8 ((dgt (c / 16)).toNat : Int), .int .u8 ((dgt (c % 16)).toNat : Int)] (by
            have := run_bytes [.int .u8 92, .int .u8 ((dgt (c / 16)).toNat : Int), .int .u8 ((dgt (c % 16)).toNat : Int)] (by simp) (by simp) (by simp) wr.drew
            exact this) ?_
          intro w3 HB3 HF3 HS3
          refine hK7 _ _ (Facts.nil_hold _) ?_
          clear hK7 K7
          simp only [Act.put, K.put3]
          have HO3 : Hid (OwR 5 1 w w3 (.slice va al vc) al (u8s acc)) := hid (OwR.no HO.out ((Fr.refl No wr).drew.trans' HF3.out))
          refine K.on 8 [] rfl (fun K8 hK8 => ?_)
          refine wp_appR _ _ 51 5 rfl Tryd.underlying51 infoU rfl (by decide) HO3.out rfl wr.heap.size 3 3 _ rfl rfl HB3.out (by simp [Value.oneCell']) (by omega) (by omega) ?_
          intro a4 c4 w4 HO4 HF4
          refine hK8 _ _ (Facts.nil_hold _) ?_
          clear hK8 K8
          simp only [Act.put, K.put3]
          have hold : Facts.hold [] w4 := Facts.nil_hold _
          (refine K.pl 9 (v := ?_) rfl ?_ ?_; rotate_left; (intro _w; go_simp; try with_reducible rfl); simp only [Act.put, K.put3])
          clear hold
          refine wpD_done (by kernel_rfl) ?_ _
          go_wp2_with fail
          refine ⟨⟨i + 1, acc ++ [92, dgt (c / 16), dgt (c % 16)], by go_num, HLT.out, by rw [List.length_append, HAL.out]; have := HAL3.out; simp; omega, hid ?_, hid HQ.out⟩, by have := HLT.out; simp [intOf]; omega⟩
          have h := HO4.out
          rw [show (acc ++ [92, dgt (c / 16), dgt (c % 16)]).length = al + 3 by rw [List.length_append, HAL.out]; rfl]
          rwa [show u8s acc ++ [Value.int .u8 92, .int .u8 ((dgt (c / 16)).toNat : Int), .int .u8 ((dgt (c % 16)).toNat : Int)] = u8s (acc ++ [92, dgt (c / 16), dgt (c % 16)]) by simp [u8s]] at h
        · have h3 : ((c.toNat : Int) == 127) = true := by rw [beq_iff_eq]; omega
          clear h2
          go_wp2_with (first | ((with_reducible refine K.atO (.index 9 _ _) ?_); refine wpL_valZ rfl (.int .u8 (c.toNat : Int)) (by rw [← HS.out]; exact exec_idx _ _ rfl s i c HC.out _ rfl rfl rfl _) ?_) | fail)
          have hold : Facts.hold [] wr.drew := Facts.nil_hold _
          refine wpD_region hold (by kernel_rfl) 10 rfl ?_
          (refine K.pl 0 (v := ?_) rfl ?_ ?_; rotate_left; (intro _w; go_simp; try with_reducible rfl); simp only [Act.put, K.put3])
          (refine K.pl 1 (v := ?_) rfl ?_ ?_; rotate_left; (intro _w; go_simp; try with_reducible rfl); simp only [Act.put, K.put3])
          (refine K.pl 2 (v := (.int .u8 (q1 : Int))) rfl ?_ ?_; (intro _w; exact exec_shr4 c q1 HS4.out _ _ rfl rfl rfl _w); simp only [Act.put, K.put3])
          (refine K.pl 3 (v := (.int .u8 ((dgt (c / 16)).toNat : Int))) rfl ?_ ?_; (intro _w; exact exec_idx8 _ _ rfl DG q1 _ HD1.out _ rfl rfl rfl _w); simp only [Act.put, K.put3])
          (refine K.pl 4 (v := ?_) rfl ?_ ?_; rotate_left; (intro _w; go_simp; try with_reducible rfl); simp only [Act.put, K.put3])
          (refine K.pl 5 (v := (.int .u8 (q2 : Int))) rfl ?_ ?_; (intro _w; exact exec_and15 c q2 H15.out _ _ rfl rfl rfl _w); simp only [Act.put, K.put3])
          (refine K.pl 6 (v := (.int .u8 ((dgt (c % 16)).toNat : Int))) rfl ?_ ?_; (intro _w; exact exec_idx8 _ _ rfl DG q2 _ HD2.out _ rfl rfl rfl _w); simp only [Act.put, K.put3])
          clear hold
          refine K.on 7 [] rfl (fun K7 hK7 => ?_)
          refine wp_buildRun 51 5 3 [(0, .const (.int .u8 92)), (1, .tmp 37), (2, .tmp 40)] rfl [.int .u8 92, .int .u8 ((dgt (c / 16)).toNat : Int), .int .u8 ((dgt (c % 16)).toNat : Int)] (by
            have := run_bytes [.int .u8 92, .int .u8 ((dgt (c / 16)).toNat : Int), .int .u8 ((dgt (c % 16)).toNat : Int)] (by simp) (by simp) (by simp) wr.drew
            exact this) ?_
          intro w3 HB3 HF3 HS3
          refine hK7 _ _ (Facts.nil_hold _) ?_
          clear hK7 K7
          simp only [Act.put, K.put3]
          have HO3 : Hid (OwR 5 1 w w3 (.slice va al vc) al (u8s acc)) := hid (OwR.no HO.out ((Fr.refl No wr).drew.trans' HF3.out))
          refine K.on 8 [] rfl (fun K8 hK8 => ?_)
          refine wp_appR _ _ 51 5 rfl Tryd.underlying51 infoU rfl (by decide) HO3.out rfl wr.heap.size 3 3 _ rfl rfl HB3.out (by simp [Value.oneCell']) (by omega) (by omega) ?_
          intro a4 c4 w4 HO4 HF4
          refine hK8 _ _ (Facts.nil_hold _) ?_
          clear hK8 K8
          simp only [Act.put, K.put3]
          have hold : Facts.hold [] w4 := Facts.nil_hold _
          (refine K.pl 9 (v := ?_) rfl ?_ ?_; rotate_left; (intro _w; go_simp; try with_reducible rfl); simp only [Act.put, K.put3])
          clear hold
          refine wpD_done (by kernel_rfl) ?_ _
          go_wp2_with fail
          refine ⟨⟨i + 1, acc ++ [92, dgt (c / 16), dgt (c % 16)], by go_num, HLT.out, by rw [List.length_append, HAL.out]; have := HAL3.out; simp; omega, hid ?_, hid HQ.out⟩, by have := HLT.out; simp [intOf]; omega⟩
          have h := HO4.out
          rw [show (acc ++ [92, dgt (c / 16), dgt (c % 16)]).length = al + 3 by rw [List.length_append, HAL.out]; rfl]
          rwa [show u8s acc ++ [Value.int .u8 92, .int .u8 ((dgt (c / 16)).toNat : Int), .int .u8 ((dgt (c % 16)).toNat : Int)] = u8s (acc ++ [92, dgt (c / 16), dgt (c % 16)]) by simp [u8s]] at h
      · have hn1 : ¬ (c.toNat : Int) < 32 := by intro h; exact hk (hctl.2 (.inl (by omega)))
        have hn2 : ¬ (c.toNat : Int) = 127 := by intro h; exact hk (hctl.2 (.inr (by omega)))
        have HOA : Hid (OwR 5 1 w wr (.slice va al vc) acc.length (u8s acc)) := hid (by rw [HAL.out]; exact HO.out)
        clear hctl
        cases hsn : sign c with
        | true =>
          rw [hsn] at hsg
          have hy0 := of_decide_eq_true hsg
          have HE : Hid ((sign c || (c == 35 && (i == 0)) || (c == 32 && ((i == 0) || decide (i = n - 1)))) = true) := hid (by rw [hsn]; rfl)
          clear hsg hd35 hd32 hsn hlt256
          have HQ : Hid ((acc ++ [92, c]) ++ valFrom (i + 1 == 0) (s.drop (i + 1)) = R) := hid (by have h := HA2.out; rw [byT_esc hk HE.out] at h; exact h)
          clear hk HA2 HE
          go_wp2_with (first | ((with_reducible refine K.atO (.index 9 _ _) ?_); refine wpL_valZ rfl (.int .u8 (c.toNat : Int)) (by rw [← HS.out]; exact exec_idx _ _ rfl s i c HC.out _ rfl rfl rfl _) ?_) | fail)
          refine (HIX.out _).mono ?_
          rintro e w2 ⟨rfl, rfl⟩
          go_wp2_with (first | ((with_reducible refine K.atO (.buildSlice 51 _ _) ?_); refine wpL_app2 rfl rfl _ _ _ _ rfl rfl HOA.out 92 c rfl rfl (fun _ => rfl) (fun _ => rfl) (by rw [HAL.out]; omega) ?_; intro q a4 c4 w4 HO4; rw [HAL.out] at HO4 ⊢) | fail)
          refine ⟨⟨i + 1, acc ++ [92, c], by go_num, HLT.out, by rw [List.length_append, HAL.out]; have := HAL3.out; simp; omega, hid ?_, hid HQ.out⟩, by have := HLT.out; simp [intOf]; omega⟩
          rw [show (acc ++ [92, c]).length = al + 2 by rw [List.length_append, HAL.out]; rfl]
          exact HO4.out
        | false =>
          rw [hsn] at hsg
          have hy0 := of_decide_eq_false hsg
          clear hsg
          by_cases h35 : c.toNat = 35
          · have h35i : ((c.toNat : Int) == 35) = true := by rw [beq_iff_eq]; omega
            rw [decide_eq_true h35] at hd35
            rw [decide_eq_false (by omega)] at hd32
            by_cases hz0 : i = 0
            · have hb0 : ((i : Int) == 0) = true := by subst hz0; rfl
              have HE : Hid ((sign c || (c == 35 && (i == 0)) || (c == 32 && ((i == 0) || decide (i = n - 1)))) = true) := hid (by rw [hd35, hz0]; simp)
              clear hd35 hd32 hsn hlt256 h35 hz0
              have HQ : Hid ((acc ++ [92, c]) ++ valFrom (i + 1 == 0) (s.drop (i + 1)) = R) := hid (by have h := HA2.out; rw [byT_esc hk HE.out] at h; exact h)
              clear hk HA2 HE
              go_wp2_with (first | ((with_reducible refine K.atO (.index 9 _ _) ?_); refine wpL_valZ rfl (.int .u8 (c.toNat : Int)) (by rw [← HS.out]; exact exec_idx _ _ rfl s i c HC.out _ rfl rfl rfl _) ?_) | fail)
              refine (HIX.out _).mono ?_
              rintro e w2 ⟨rfl, rfl⟩
              go_wp2_with (first | ((with_reducible refine K.atO (.buildSlice 51 _ _) ?_); refine wpL_app2 rfl rfl _ _ _ _ rfl rfl HOA.out 92 c rfl rfl (fun _ => rfl) (fun _ => rfl) (by rw [HAL.out]; omega) ?_; intro q a4 c4 w4 HO4; rw [HAL.out] at HO4 ⊢) | fail)
              refine ⟨⟨i + 1, acc ++ [92, c], by go_num, HLT.out, by rw [List.length_append, HAL.out]; have := HAL3.out; simp; omega, hid ?_, hid HQ.out⟩, by have := HLT.out; simp [intOf]; omega⟩
              rw [show (acc ++ [92, c]).length = al + 2 by rw [List.length_append, HAL.out]; rfl]
              exact HO4.out
            · have hb0 : ((i : Int) == 0) = false := by rw [beq_eq_false_iff_ne]; omega
              have HE : Hid ((sign c || (c == 35 && (i == 0)) || (c == 32 && ((i == 0) || decide (i = n - 1)))) = false) := hid (by rw [hd35, hd32, hsn]; simpa using hz0)
              clear hd35 hd32 hsn hlt256 h35 hz0
              have HQ : Hid ((acc ++ [c]) ++ valFrom (i + 1 == 0) (s.drop (i + 1)) = R) := hid (by have h := HA2.out; rw [byT_raw hk HE.out] at h; exact h)
              clear hk HA2 HE
              go_wp2_with (first | ((with_reducible refine K.atO (.index 9 _ _) ?_); refine wpL_valZ rfl (.int .u8 (c.toNat : Int)) (by rw [← HS.out]; exact exec_idx _ _ rfl s i c HC.out _ rfl rfl rfl _) ?_) | fail)
              refine (HIX.out _).mono ?_
              rintro e w2 ⟨rfl, rfl⟩
              go_wp2_with (first | ((with_reducible refine K.atO (.buildSlice 51 _ _) ?_); refine wpL_app1 rfl rfl _ _ _ 51 5 rfl rfl Tryd.underlying51 infoU rfl (by decide) (by decide) HO.out (.int .u8 (c.toNat : Int)) [.int .u8 (c.toNat : Int)] rfl rfl rfl (by simp [Value.oneCell']) (fun _ => rfl) (fun _ => rfl) (by omega) (by omega) ?_; intro q a4 c4 w4 HO4 HF4) | fail)
              refine ⟨⟨i + 1, acc ++ [c], by go_num, HLT.out, by rw [List.length_append, HAL.out]; have := HAL3.out; simp; omega, hid ?_, hid HQ.out⟩, by have := HLT.out; simp [intOf]; omega⟩
              have h := HO4.out
              rw [show (acc ++ [c]).length = al + 1 by rw [List.length_append, HAL.out]; rfl]
              rwa [show u8s acc ++ [Value.int .u8 (c.toNat : Int)] = u8s (acc ++ [c]) by simp [u8s]] at h
          · have h35i : ¬ (c.toNat : Int) = 35 := by omega
            rw [decide_eq_false h35] at hd35
            by_cases h32 : c.toNat = 32
            · have h32i : ((c.toNat : Int) == 32) = true := by rw [beq_iff_eq]; omega
              have h35j : ((c.toNat : Int) == 35) = false := by rw [beq_eq_false_iff_ne]; omega
              clear h35i
              rw [decide_eq_true h32] at hd32
              by_cases hz0 : i = 0
              · have hb0 : ((i : Int) == 0) = true := by subst hz0; rfl
                have HE : Hid ((sign c || (c == 35 && (i == 0)) || (c == 32 && ((i == 0) || decide (i = n - 1)))) = true) := hid (by rw [hd32, hz0]; simp)
                clear hd35 hd32 hsn hlt256 h35 hz0 h32
                have HQ : Hid ((acc ++ [92, c]) ++ valFrom (i + 1 == 0) (s.drop (i + 1)) = R) := hid (by have h := HA2.out; rw [byT_esc hk HE.out] at h; exact h)
                clear hk HA2 HE
                go_wp2_with (first | ((with_reducible refine K.atO (.index 9 _ _) ?_); refine wpL_valZ rfl (.int .u8 (c.toNat : Int)) (by rw [← HS.out]; exact exec_idx _ _ rfl s i c HC.out _ rfl rfl rfl _) ?_) | fail)
                refine (HIX.out _).mono ?_
                rintro e w2 ⟨rfl, rfl⟩
                go_wp2_with (first | ((with_reducible refine K.atO (.buildSlice 51 _ _) ?_); refine wpL_app2 rfl rfl _ _ _ _ rfl rfl HOA.out 92 c rfl rfl (fun _ => rfl) (fun _ => rfl) (by rw [HAL.out]; omega) ?_; intro q a4 c4 w4 HO4; rw [HAL.out] at HO4 ⊢) | fail)
                refine ⟨⟨i + 1, acc ++ [92, c], by go_num, HLT.out, by rw [List.length_append, HAL.out]; have := HAL3.out; simp; omega, hid ?_, hid HQ.out⟩, by have := HLT.out; simp [intOf]; omega⟩
                rw [show (acc ++ [92, c]).length = al + 2 by rw [List.length_append, HAL.out]; rfl]
                exact HO4.out
              · have hb0 : ((i : Int) == 0) = false := by rw [beq_eq_false_iff_ne]; omega
                by_cases hz1 : i = n - 1
                · have hb1 : ((i : Int) == (n : Int) - 1) = true := by rw [beq_iff_eq]; have := HLT.out; omega
                  have HE : Hid ((sign c || (c == 35 && (i == 0)) || (c == 32 && ((i == 0) || decide (i = n - 1)))) = true) := hid (by rw [hd32, decide_eq_true hz1]; simp)
                  clear hd35 hd32 hsn hlt256 h35 hz0 h32 hz1
                  have HQ : Hid ((acc ++ [92, c]) ++ valFrom (i + 1 == 0) (s.drop (i + 1)) = R) := hid (by have h := HA2.out; rw [byT_esc hk HE.out] at h; exact h)
                  clear hk HA2 HE
                  go_wp2_with (first | ((with_reducible refine K.atO (.index 9 _ _) ?_); refine wpL_valZ rfl (.int .u8 (c.toNat : Int)) (by rw [← HS.out]; exact exec_idx _ _ rfl s i c HC.out _ rfl rfl rfl _) ?_) | fail)
                  refine (HIX.out _).mono ?_
                  rintro e w2 ⟨rfl, rfl⟩
                  go_wp2_with (first | ((with_reducible refine K.atO (.buildSlice 51 _ _) ?_); refine wpL_app2 rfl rfl _ _ _ _ rfl rfl HOA.out 92 c rfl rfl (fun _ => rfl) (fun _ => rfl) (by rw [HAL.out]; omega) ?_; intro q a4 c4 w4 HO4; rw [HAL.out] at HO4 ⊢) | fail)
                  refine ⟨⟨i + 1, acc ++ [92, c], by go_num, HLT.out, by rw [List.length_append, HAL.out]; have := HAL3.out; simp; omega, hid ?_, hid HQ.out⟩, by have := HLT.out; simp [intOf]; omega⟩
                  rw [show (acc ++ [92, c]).length = al + 2 by rw [List.length_append, HAL.out]; rfl]
                  exact HO4.out
                · have hb1 : ((i : Int) == (n : Int) - 1) = false := by rw [beq_eq_false_iff_ne]; have := HLT.out; omega
                  have HE : Hid ((sign c || (c == 35 && (i == 0)) || (c == 32 && ((i == 0) || decide (i = n - 1)))) = false) := hid (by rw [hd35, hsn, decide_eq_false hz1]; simpa using fun _ => hz0)
                  clear hd35 hd32 hsn hlt256 h35 hz0 h32 hz1
                  have HQ : Hid ((acc ++ [c]) ++ valFrom (i + 1 == 0) (s.drop (i + 1)) = R) := hid (by have h := HA2.out; rw [byT_raw hk HE.out] at h; exact h)
                  clear hk HA2 HE
                  go_wp2_with (first | ((with_reducible refine K.atO (.index 9 _ _) ?_); refine wpL_valZ rfl (.int .u8 (c.toNat : Int)) (by rw [← HS.out]; exact exec_idx _ _ rfl s i c HC.out _ rfl rfl rfl _) ?_) | fail)
                  refine (HIX.out _).mono ?_
                  rintro e w2 ⟨rfl, rfl⟩
                  go_wp2_with (first | ((with_reducible refine K.atO (.buildSlice 51 _ _) ?_); refine wpL_app1 rfl rfl _ _ _ 51 5 rfl rfl Tryd.underlying51 infoU rfl (by decide) (by decide) HO.out (.int .u8 (c.toNat : Int)) [.int .u8 (c.toNat : Int)] rfl rfl rfl (by simp [Value.oneCell']) (fun _ => rfl) (fun _ => rfl) (by omega) (by omega) ?_; intro q a4 c4 w4 HO4 HF4) | fail)
                  refine ⟨⟨i + 1, acc ++ [c], by go_num, HLT.out, by rw [List.length_append, HAL.out]; have := HAL3.out; simp; omega, hid ?_, hid HQ.out⟩, by have := HLT.out; simp [intOf]; omega⟩
                  have h := HO4.out
                  rw [show (acc ++ [c]).length = al + 1 by rw [List.length_append, HAL.out]; rfl]
                  rwa [show u8s acc ++ [Value.int .u8 (c.toNat : Int)] = u8s (acc ++ [c]) by simp [u8s]] at h
            · have h32i : ¬ (c.toNat : Int) = 32 := by omega
              rw [decide_eq_false h32] at hd32
              have HE : Hid ((sign c || (c == 35 && (i == 0)) || (c == 32 && ((i == 0) || decide (i = n - 1)))) = false) := hid (by rw [hd35, hd32, hsn]; rfl)
              clear hd35 hd32 hsn hlt256 h35 h32
              have HQ : Hid ((acc ++ [c]) ++ valFrom (i + 1 == 0) (s.drop (i + 1)) = R) := hid (by have h := HA2.out; rw [byT_raw hk HE.out] at h; exact h)
              clear hk HA2 HE
              go_wp2_with (first | ((with_reducible refine K.atO (.index 9 _ _) ?_); refine wpL_valZ rfl (.int .u8 (c.toNat : Int)) (by rw [← HS.out]; exact exec_idx _ _ rfl s i c HC.out _ rfl rfl rfl _) ?_) | fail)
              refine (HIX.out _).mono ?_
              rintro e w2 ⟨rfl, rfl⟩
              go_wp2_with (first | ((with_reducible refine K.atO (.buildSlice 51 _ _) ?_); refine wpL_app1 rfl rfl _ _ _ 51 5 rfl rfl Tryd.underlying51 infoU rfl (by decide) (by decide) HO.out (.int .u8 (c.toNat : Int)) [.int .u8 (c.toNat : Int)] rfl rfl rfl (by simp [Value.oneCell']) (fun _ => rfl) (fun _ => rfl) (by omega) (by omega) ?_; intro q a4 c4 w4 HO4 HF4) | fail)
              refine ⟨⟨i + 1, acc ++ [c], by go_num, HLT.out, by rw [List.length_append, HAL.out]; have := HAL3.out; simp; omega, hid ?_, hid HQ.out⟩, by have := HLT.out; simp [intOf]; omega⟩
              have h := HO4.out
              rw [show (acc ++ [c]).length = al + 1 by rw [List.length_append, HAL.out]; rfl]
              rwa [show u8s acc ++ [Value.int .u8 (c.toNat : Int)] = u8s (acc ++ [c]) by simp [u8s]] at h
    · obtain rfl : i = n := by omega
      have hE := HA.out
      rw [← HNN.out, List.drop_length] at hE
      simp only [valFrom, List.append_nil] at hE
      obtain ⟨a1, c1, e1, hcap, h5⟩ := HO.out.reads
      simp only [Value.slice.injEq, true_and] at e1
      obtain ⟨rfl, rfl⟩ := e1
      have hbi : BytesIn wr (fun _ => True) (.slice va al vc) R := by
        rw [← hE]
        exact ⟨_, _, _, rfl, HAL.out, hcap, h5.imp id fun ⟨g, e, _, hg, hr⟩ => ⟨g, 0, e, trivial, hg, hr⟩⟩
      have HBI := hid hbi
      clear hE hcap h5 hbi hal hi hlt
      go_wp2_with (first
        | ((with_reducible refine K.atO (.convert _ 9 _) ?_); refine wpL_stringOf rfl _ _ _ _ rfl _ _ R rfl HBI.out Tryd.underlying51 Tryd.underlying5 Tryd.underlying9 ?_)
        | fail)
      go_ret
      exact ⟨rfl, HO.out.fr⟩
theorem joinB_len {sep : B} {m : Nat} : ∀ (L : List B), (∀ x ∈ L, x.length ≤ m) → (joinB sep L).length ≤ L.length * (m + sep.length)
  | [], _ => by simp [joinB]
  | [a], h => by
    have := h a (by simp)
    show a.length ≤ 1 * _
    omega
  | a :: b :: r, h => by
    have h1 := h a (by simp)
    have h2 := joinB_len (sep := sep) (b :: r) (fun x hx => h x (by simp [hx]))
    simp only [joinB, List.length_append, List.length_cons] at h2 ⊢
    have e : (r.length + 1 + 1) * (m + sep.length) = (r.length + 1) * (m + sep.length) + (m + sep.length) := by rw [Nat.add_mul]; omega
    rw [e]
    omega
theorem avaT_le {a : Av} (h : AvB 1048576 a) : (avaT a).length ≤ 4194305 := by
  have h1 := (valFrom_len a.2 true).2
  obtain ⟨h2, h3⟩ := h
  simp only [avaT, valT, List.length_append, List.length_singleton]
  omega
theorem stepT_le {r : Rd} (h : RdB 1048576 r) (hr : r.length ≤ 4) : (stepT r).length ≤ 16777224 := by
  have := joinB_len (sep := [43]) (m := 4194305) (r.map avaT) (fun x hx => by
    obtain ⟨a, ha, rfl⟩ := List.mem_map.1 hx
    exact avaT_le (h.2 a ha))
  rw [List.length_map] at this
  have h2 : r.length * (4194305 + [43].length) ≤ 4 * (4194305 + 1) := Nat.mul_le_mul_right _ hr
  exact Nat.le_trans this (Nat.le_trans h2 (by decide))
set_option maxHeartbeats 4000000 in
theorem avaText_any (x : Av) (hx : AvB 1048576 x) (w : World) : Calls Tryd.prog 37 #[.agg #[.string (sb x.1), .string (sb x.2)]] w fun e w' => e = .returned (.string (sb (avaT x))) ∧ Fr No w w' := by
  obtain ⟨t, v⟩ := x
  have HB := hid hx
  simp only at HB ⊢
  clear hx
  go_enter Tryd.func37, Tryd.ntmps37
  go_wp2_with (first
    | ((with_reducible refine K.atO (.box 37 _) ?_); refine wpL_box rfl _ _ rfl _ rfl [.string (sb t), .string (sb v)] rfl ?_; intro w1 HB1 HF1 HS1)
    | fail)
  obtain ⟨g, hg⟩ : ∃ g, w.heap.size = g := ⟨_, rfl⟩
  rw [hg] at HB1 ⊢
  have c0 : w1.cell? ⟨g, 0, none⟩ = some (.string (sb t)) := HB1.out.cell 0
  have c1 : w1.cell? ⟨g, 1, none⟩ = some (.string (sb v)) := HB1.out.cell 1
  have hold : Facts.hold [(1, fun w' => w'.cell? ⟨g, 0, none⟩ = some (.string (sb t))), (4, fun w' => w'.cell? ⟨g, 1, none⟩ = some (.string (sb v)))] w1.drew := Facts.cons_hold c0 (Facts.cons_hold c1 (Facts.nil_hold _))
  refine wpD_region hold (by kernel_rfl) 8 rfl ?_
  (refine K.pl 0 (v := ?_) rfl ?_ ?_; rotate_left; (intro _w; go_simp; try with_reducible rfl); simp only [Act.put, K.put3])
  (refine K.pl 3 (v := ?_) rfl ?_ ?_; rotate_left; (intro _w; go_simp; try with_reducible rfl); simp only [Act.put, K.put3])
  (refine K.tk 1 _ rfl K.m0 (v := ?_) ?_ ?_; rotate_left; (intro _w _hw; go_simp; try with_reducible rfl); simp only [Act.put, K.put3])
  (refine K.tk 4 _ rfl K.m1 (v := ?_) ?_ ?_; rotate_left; (intro _w _hw; go_simp; try with_reducible rfl); simp only [Act.put, K.put3])
  (refine K.pl 2 (v := (.string (sb (t ++ [61])))) rfl ?_ ?_; (intro _w; exact exec_addS _ _ _ rfl t [61] rfl rfl (by have := HB.out.1; simp only [List.length_singleton] at *; omega) _ rfl _w); simp only [Act.put, K.put3])
  clear hold
  refine K.on 5 [(1, fun w' => w'.cell? ⟨g, 0, none⟩ = some (.string (sb t)))] rfl (fun K5 hK5 => ?_)
  refine wp_call _ _ _ rfl 49 [] rfl (fun vs w => by kernel_rfl) [.string (sb v)] (by rfl) ?_
  refine (valueText_any v (by have := HB.out.2; simp only at this; omega) w1.drew).mono ?_
  rintro e w2 ⟨rfl, f2⟩
  have c02 : w2.cell? ⟨g, 0, none⟩ = some (.string (sb t)) := f2.cell (show w1.drew.cell? _ = _ from c0) id
  have HF2 := hid (HF1.out.trans' ((Fr.refl No w1).drew.trans' f2))
  refine ⟨_, rfl, hK5 _ _ (Facts.cons_hold c02 (Facts.nil_hold _)) ?_⟩
  clear hK5 K5 f2
  simp only [Act.put, K.put3]
  have hold : Facts.hold [(1, fun w' => w'.cell? ⟨g, 0, none⟩ = some (.string (sb t)))] w2 := Facts.cons_hold c02 (Facts.nil_hold _)
  (refine K.pl 6 (v := (.string (sb (t ++ [61] ++ valT v)))) rfl ?_ ?_; (intro _w; exact exec_addS _ _ _ rfl (t ++ [61]) (valT v) rfl rfl (by have := HB.out; have h2 := (valFrom_len v true).2; unfold AvB at this; simp only [List.length_append, List.length_singleton, valT] at *; omega) _ rfl _w); simp only [Act.put, K.put3])
  (refine K.pl 7 (v := ?_) rfl ?_ ?_; rotate_left; (intro _w; go_simp; try with_reducible rfl); simp only [Act.put, K.put3])
  clear hold
  refine wpD_done (by kernel_rfl) ?_ _
  go_wp2_with fail
  go_ret
  exact ⟨by show Ending.returned (.string (sb (t ++ 61 :: valT v))) = _; simp [avaT], HF2.out⟩
set_option maxHeartbeats 4000000 in
theorem joinedAv_any (E : Nat → Prop) (v : Value) (r : Rd) (w : World) (h : RdIn E w v r) (hb : RdB 1048576 r) (hr : r.length ≤ 4) :
    Calls Tryd.prog 36 #[v, .string (sb [43]), .func (.func 37) #[] #[]] w fun e w' => e = .returned (.string (sb (stepT r))) ∧ Fr No w w' := by
  obtain ⟨a, cp, rfl, -, hl0⟩ := h.form
  have HX := hid h
  have HL := hid (stepT_le hb hr)
  have HB := hid hb
  obtain ⟨n, hn⟩ : ∃ n, r.length = n := ⟨_, rfl⟩
  rw [hn] at HX hr ⊢
  have HNN := hid hn
  have hni : (n : Int) ≤ 4 := by omega
  rw [show sb [43] = (⟨#[43]⟩ : ByteArray) from rfl]
  clear h hb hn hl0
  go_enter Tryd.func36, Tryd.ntmps36
  go_wp2_with fail
  go_loopw [7, 12] (fun sv iv wr => ∃ (i : Nat), iv = .int .i64 i ∧ i ≤ n ∧ Hid (OwR 9 1 w wr sv i (strs ((r.take i).map avaT)))) (fun _ iv _ => n - (intOf iv).toNat)
  case atStart => exact ⟨0, rfl, Nat.zero_le _, hid (owR_nil (Fr.refl _ _))⟩
  case round =>
    obtain ⟨i, rfl, hi, HO⟩ := hrel
    obtain ⟨va, vc, rfl⟩ := HO.out.1
    by_cases hlt : i < n
    · obtain ⟨x, hx⟩ : ∃ x, r[i]? = some x := ⟨_, List.getElem?_eq_getElem (by rw [HNN.out]; exact hlt)⟩
      have hlti : (i : Int) < n := by omega
      have hi0 : (0 : Int) ≤ i := by omega
      obtain ⟨g, o, cq, c, e1, -, hgw, hrr, hc, hxa⟩ := (RdIn.no HX.out HO.out.fr).get hx
      rw [HNN.out] at e1
      simp only [Value.slice.injEq, true_and] at e1
      obtain ⟨rfl, rfl⟩ := e1
      obtain ⟨rfl, hs1, hs2⟩ := hxa
      have HRR := hid hrr
      have HXB : Hid (AvB 1048576 x) := hid (HB.out.2 x (List.mem_of_getElem? hx))
      have HNX : Hid (strs ((r.take (i + 1)).map avaT) = strs ((r.take i).map avaT) ++ [.string (sb (avaT x))]) := hid (by
        rw [List.take_add_one, hx]
        simp [strs])
      have HLT := hid hlt
      clear hc hgw hrr hs1 hs2 hx hlt
      go_wp2_with (first
        | ((with_reducible refine K.atO (.load 37 _) ?_); (fail_if_success (have := HB2)); refine wpL_load rfl _ _ rfl g (o + i * 2) rfl [.string (sb x.1), .string (sb x.2)] _ HRR.out rfl rfl infoAv ?_)
        | ((with_reducible refine K.atO (.alloc 37) ?_); refine wpList_plain rfl fun K1 hK1 => ?_; refine wp_alloc 37 rfl (.agg #[.string ⟨#[]⟩, .string ⟨#[]⟩]) (fun _ => by kernel_rfl) [.string ⟨#[]⟩, .string ⟨#[]⟩] rfl ?_; intro w2 HB2 HF2 HS2; refine hK1 _ _ ?_; clear hK1 K1)
        | ((with_reducible refine K.atO (.store 37 _ _) ?_); refine wpL_store rfl _ _ _ rfl wr.heap.size 0 [.string (sb x.1), .string (sb x.2)] rfl rfl 37 _ HB2.out (by simp) infoAv (by simp [Value.oneCell']) ?_; intro w3 HB3 HF3 HS3)
        | ((with_reducible refine K.atO (.load 37 _) ?_); refine wpL_load rfl _ _ rfl wr.heap.size 0 rfl [.string (sb x.1), .string (sb x.2)] _ (by simpa [spl] using HB3.out.range 0 [.string (sb x.1), .string (sb x.2)] rfl) rfl rfl infoAv ?_)
        | fail)
      refine (avaText_any x HXB.out w3).mono ?_
      rintro e w4 ⟨rfl, f4⟩
      have HF4 : Hid (Fr No wr w4) := hid ((HF2.out.trans HF3.out fun k e => .inr (by have e : k = wr.heap.size := e; omega)).trans' f4)
      have HO4 := hid (OwR.no HO.out HF4.out)
      clear f4
      go_wp2_with (first
        | ((with_reducible refine K.atO (.buildSlice 40 _ _) ?_); refine wpL_app1 rfl rfl _ _ _ 40 9 rfl rfl Tryd.underlying40 infoStr rfl (by decide) (by decide) HO4.out (.string (sb (avaT x))) [.string (sb (avaT x))] rfl rfl rfl (by simp [Value.oneCell']) (fun _ => rfl) (fun _ => rfl) (by omega) (by omega) ?_; intro q a5 c5 w5 HO5 HF5)
        | fail)
      refine ⟨⟨i + 1, by go_num, HLT.out, hid (by rw [HNX.out]; exact HO5.out)⟩, ?_⟩
      have := HLT.out
      simp [intOf]; omega
    · obtain rfl : i = n := by omega
      obtain ⟨a1, c1, e1, hcap, h5⟩ := HO.out.reads
      simp only [Value.slice.injEq, true_and] at e1
      obtain ⟨rfl, rfl⟩ := e1
      have hall : (r.take i).map avaT = r.map avaT := by rw [← HNN.out, List.take_length]
      rw [hall] at h5
      have hlm : (r.map avaT).length = i := by rw [List.length_map]; exact HNN.out
      have HJ := hid (join_any (fun _ => True) (.slice va i vc) (r.map avaT) [43] wr ⟨va, vc, by rw [hlm], by rw [hlm]; exact hcap, by
        rcases h5 with h0 | ⟨g, h1, h2, h3, h4⟩
        · exact .inl (List.eq_nil_of_length_eq_zero (by omega))
        · exact .inr ⟨g, 0, h1, h3, h4⟩⟩ (by omega) (Nat.le_trans HL.out (by decide)))
      clear hcap h5 hall hlm hi hlt
      go_wp2_with fail
      refine HJ.out.mono ?_
      rintro e w6 ⟨rfl, f6⟩
      have HF6 := hid (HO.out.fr.trans' f6)
      clear f6
      go_wp2_with fail
      go_ret
      exact ⟨rfl, HF6.out⟩
theorem stepText_any (E : Nat → Prop) (v : Value) (r : Rd) (w : World) (h : RdIn E w v r) (hb : RdB 1048576 r) (hr : r.length ≤ 4) :
    Calls Tryd.prog 24 #[v] w fun e w' => e = .returned (.string (sb (stepT r))) ∧ Fr No w w' := by
  have H := hid (joinedAv_any E v r w h hb hr)
  obtain ⟨a, cp, rfl, -, -⟩ := h.form
  clear h hb hr
  go_enter Tryd.func24, Tryd.ntmps24
  go_wp2_with fail
  refine H.out.mono ?_
  rintro e w1 ⟨rfl, f1⟩
  have HF := hid f1
  clear f1
  go_wp2_with fail
  go_ret
  exact ⟨rfl, HF.out⟩
set_option maxHeartbeats 4000000 in
theorem joinedRd_any (E : Nat → Prop) (v : Value) (r : Nm) (w : World) (h : NmIn E w v r) (hb : NmB 1048576 r) (hr : r.length ≤ 16) (hs : ∀ x ∈ r, x.length ≤ 4) :
    Calls Tryd.prog 23 #[v, .string (sb [44]), .func (.func 24) #[] #[]] w fun e w' => e = .returned (.string (sb (printT r))) ∧ Fr No w w' := by
  obtain ⟨a, cp, rfl, -, hl0⟩ := h.form
  have HX := hid h
  have HL : Hid ((printT r).length ≤ 140737488355328) := hid (by
    have h1 := joinB_len (sep := [44]) (m := 16777224) (r.map stepT) (fun x hx => by
      obtain ⟨a, ha, rfl⟩ := List.mem_map.1 hx
      exact stepT_le (hb.2 a ha) (hs a ha))
    rw [List.length_map] at h1
    have h2 : r.length * (16777224 + [44].length) ≤ 16 * (16777224 + 1) := Nat.mul_le_mul_right _ hr
    exact Nat.le_trans h1 (Nat.le_trans h2 (by decide)))
  have HB := hid hb
  have HS := hid hs
  obtain ⟨n, hn⟩ : ∃ n, r.length = n := ⟨_, rfl⟩
  rw [hn] at HX hr ⊢
  have HNN := hid hn
  have hni : (n : Int) ≤ 16 := by omega
  rw [show sb [44] = (⟨#[44]⟩ : ByteArray) from rfl]
  clear h hb hn hl0 hs
  go_enter Tryd.func23, Tryd.ntmps23
  go_wp2_with fail
  go_loopw [7, 12] (fun sv iv wr => ∃ (i : Nat), iv = .int .i64 i ∧ i ≤ n ∧ Hid (OwR 9 1 w wr sv i (strs ((r.take i).map stepT)))) (fun _ iv _ => n - (intOf iv).toNat)
  case atStart => exact ⟨0, rfl, Nat.zero_le _, hid (owR_nil (Fr.refl _ _))⟩
  case round =>
    obtain ⟨i, rfl, hi, HO⟩ := hrel
    obtain ⟨va, vc, rfl⟩ := HO.out.1
    by_cases hlt : i < n
    · obtain ⟨x, hx⟩ : ∃ x, r[i]? = some x := ⟨_, List.getElem?_eq_getElem (by rw [HNN.out]; exact hlt)⟩
      have hlti : (i : Int) < n := by omega
      have hi0 : (0 : Int) ≤ i := by omega
      obtain ⟨g, o, cq, c, e1, -, hgw, hrr, hc, hxa⟩ := (NmIn.no HX.out HO.out.fr).get hx
      rw [HNN.out] at e1
      simp only [Value.slice.injEq, true_and] at e1
      obtain ⟨rfl, rfl⟩ := e1
      obtain ⟨vx, rfl, hvx⟩ := hxa
      have hcell : wr.cell? ⟨g, o + i, none⟩ = some vx := by have := hrr 0 vx rfl; simpa using this
      have HVX := hid hvx
      obtain ⟨xa, xc, rfl, -, -⟩ := Sl.form hvx
      have HXB : Hid (RdB 1048576 x ∧ x.length ≤ 4) := hid ⟨HB.out.2 x (List.mem_of_getElem? hx), HS.out x (List.mem_of_getElem? hx)⟩
      have HNX : Hid (strs ((r.take (i + 1)).map stepT) = strs ((r.take i).map stepT) ++ [.string (sb (stepT x))]) := hid (by
        rw [List.take_add_one, hx]
        simp [strs])
      have HLT := hid hlt
      clear hc hgw hrr hvx hx hlt
      go_wp2_with fail
      refine (stepText_any E _ x wr HVX.out HXB.out.1 HXB.out.2).mono ?_
      rintro e w4 ⟨rfl, f4⟩
      have HO4 := hid (OwR.no HO.out f4)
      clear f4
      go_wp2_with (first
        | ((with_reducible refine K.atO (.buildSlice 40 _ _) ?_); refine wpL_app1 rfl rfl _ _ _ 40 9 rfl rfl Tryd.underlying40 infoStr rfl (by decide) (by decide) HO4.out (.string (sb (stepT x))) [.string (sb (stepT x))] rfl rfl rfl (by simp [Value.oneCell']) (fun _ => rfl) (fun _ => rfl) (by omega) (by omega) ?_; intro q a5 c5 w5 HO5 HF5)
        | fail)
      refine ⟨⟨i + 1, by go_num, HLT.out, hid (by rw [HNX.out]; exact HO5.out)⟩, ?_⟩
      have := HLT.out
      simp [intOf]; omega
    · obtain rfl : i = n := by omega
      obtain ⟨a1, c1, e1, hcap, h5⟩ := HO.out.reads
      simp only [Value.slice.injEq, true_and] at e1
      obtain ⟨rfl, rfl⟩ := e1
      have hall : (r.take i).map stepT = r.map stepT := by rw [← HNN.out, List.take_length]
      rw [hall] at h5
      have hlm : (r.map stepT).length = i := by rw [List.length_map]; exact HNN.out
      have HJ := hid (join_any (fun _ => True) (.slice va i vc) (r.map stepT) [44] wr ⟨va, vc, by rw [hlm], by rw [hlm]; exact hcap, by
        rcases h5 with h0 | ⟨g, h1, h2, h3, h4⟩
        · exact .inl (List.eq_nil_of_length_eq_zero (by omega))
        · exact .inr ⟨g, 0, h1, h3, h4⟩⟩ (by omega) HL.out)
      clear hcap h5 hall hlm hi hlt
      go_wp2_with fail
      refine HJ.out.mono ?_
      rintro e w6 ⟨rfl, f6⟩
      have HF6 := hid (HO.out.fr.trans' f6)
      clear f6
      go_wp2_with fail
      go_ret
      exact ⟨rfl, HF6.out⟩
theorem print_any (E : Nat → Prop) (v : Value) (r : Nm) (w : World) (h : NmIn E w v r) (hb : NmB 1048576 r) (hr : r.length ≤ 16) (hs : ∀ x ∈ r, x.length ≤ 4) :
    Calls Tryd.prog 12 #[v] w fun e w' => e = .returned (.string (sb (printT r))) ∧ Fr No w w' := by
  have H := hid (joinedRd_any E v r w h hb hr hs)
  obtain ⟨a, cp, rfl, -, -⟩ := h.form
  clear h hb hr hs
  go_enter Tryd.func12, Tryd.ntmps12
  go_wp2_with fail
  refine H.out.mono ?_
  rintro e w1 ⟨rfl, f1⟩
  have HF := hid f1
  clear f1
  go_wp2_with fail
  go_ret
  exact ⟨rfl, HF.out⟩
theorem marks_tmp {P : Program} {fn : Func} {R : Ending → World → Prop} {a : Act} {w : World} {D p : Nat} (hd : a.defers = [{ target := .collected D, args := #[] }]) (hK : w.heap[D]? = some (.deferred (some []))) (hr : fn.results = #[.tmp p]) (v : Value) (hv : a.tmps.getD p undef = v)
    (h : ∀ w', Fr (fun k => k = D) w w' → R (.returned v) w') : bodyPostM Fence.wide 3 P fn R .ret a w := by
  show LeavesInM Fence.wide 3 P fn a.tmps R a.defers .returning w
  rw [hd]
  refine ⟨by simp, .inl ⟨D, _, rfl, run_takeDeferred hK, ?_⟩⟩
  refine ⟨v, ?_, h _ (fr_put D (.deferred none))⟩
  have := results_tmp hr a.tmps P (w.putObj D (.deferred none))
  rw [hv] at this
  exact this
theorem normR_len (r : Rd) : (normR r).length = r.length := by simp [normR, srt_len]
theorem normR_b {k : Nat} {r : Rd} (h : RdB k r) : RdB k (normR r) := by
  refine ⟨by rw [normR_len]; exact h.1, fun x hx => ?_⟩
  obtain ⟨a, ha, rfl⟩ := List.mem_map.1 (srt_mem.1 hx)
  have := h.2 a ha
  exact ⟨by show (low a.1).length ≤ k; rw [low_length]; exact this.1, Nat.le_trans (fold_len a.2) this.2⟩
theorem norm_b {k : Nat} {n : Nm} (h : NmB k n) : NmB k (norm n) := by
  refine ⟨by rw [norm_length]; exact h.1, fun r hr => ?_⟩
  obtain ⟨q, hq, rfl⟩ := List.mem_map.1 hr
  exact normR_b (h.2 q hq)
theorem keyL_len {m : Nat} : ∀ {L : Nm}, (∀ r ∈ L, (stepT r).length ≤ m) → (keyL L).length ≤ L.length * (m + 1)
  | [], _ => by simp [keyL]
  | r :: L, h => by
    have ih := keyL_len (fun x hx => h x (List.mem_cons_of_mem _ hx))
    have h0 := h r List.mem_cons_self
    have e : keyL (r :: L) = stepT r ++ 0 :: keyL L := by simp [keyL]
    rw [e, List.length_append, List.length_cons, List.length_cons, Nat.add_mul]
    omega
theorem keyL_snoc (L : Nm) (r : Rd) : keyL (L ++ [r]) = keyL L ++ stepT r ++ [0] := by simp [keyL]
/-- The rows of a name, as they lie there. -/
theorem nm_rows {E : Nat → Prop} {w : World} {u : Value} {N : Nm} (h : NmIn E w u N) : ∃ a cap vs, u = .slice a N.length cap ∧ N.length ≤ cap ∧ vs.length = N.length ∧ (N.length = 0 ∨ ∃ g o, a = some ⟨g, o, none⟩ ∧ E g ∧ g < w.heap.size ∧ w.rangeAt g o vs) ∧ ∀ j r, N[j]? = some r → RdIn E w (vs.getD j undef) r := by
  obtain ⟨a, cap, rfl, hc, -⟩ := h.form
  by_cases h0 : N.length = 0
  · refine ⟨a, cap, List.replicate N.length undef, rfl, hc, by simp, .inl h0, fun j r hr => ?_⟩
    have := (List.getElem?_eq_some_iff.1 hr).1
    omega
  · obtain ⟨x0, hx0⟩ : ∃ x, N[0]? = some x := ⟨_, List.getElem?_eq_getElem (by omega)⟩
    obtain ⟨g, o, cq, c, e1, hE, hgw, -, -, -⟩ := h.get hx0
    simp only [Value.slice.injEq, true_and] at e1
    obtain ⟨rfl, rfl⟩ := e1
    have hall : ∀ j r, N[j]? = some r → ∃ v, w.cell? ⟨g, o + j, none⟩ = some v ∧ RdIn E w v r := fun j r hr => by
      obtain ⟨g', o', cq', c', e1, -, -, hrr, -, hxa⟩ := h.get hr
      simp only [Value.slice.injEq, true_and, Option.some.injEq, Addr.mk.injEq] at e1
      obtain ⟨⟨rfl, rfl, -⟩, rfl⟩ := e1
      obtain ⟨v, rfl, hv⟩ := hxa
      exact ⟨v, by have := hrr 0 v rfl; simpa using this, hv⟩
    refine ⟨_, cap, (List.range N.length).map fun j => (w.cell? ⟨g, o + j, none⟩).getD undef, rfl, hc, by simp, .inr ⟨g, o, rfl, hE, hgw, ?_⟩, fun j r hr => ?_⟩
    · intro j v hj
      have hjl : j < N.length := by have := (List.getElem?_eq_some_iff.1 hj).1; simpa using this
      obtain ⟨v', hv', -⟩ := hall j _ (List.getElem?_eq_getElem hjl)
      simp [hjl, hv'] at hj
      rw [← hj]
      exact hv'
    · have hjl := (List.getElem?_eq_some_iff.1 hr).1
      obtain ⟨v', hv', hr'⟩ := hall j r hr
      rw [List.getD_eq_getElem?_getD]
      simp [hjl, hv']
      exact hr'
theorem zeroBd : ∀ w, (zeroValue 53).run Tryd.prog w = .ok (.agg #[.pointer none, .slice none 0 0]) w := fun _ => by kernel_rfl
theorem builderStringK (base b : Nat) (l : B) (w : World) (h : Bld base b l w) (hb : base ≤ w.heap.size) :
    Calls Tryd.prog 28 #[.pointer (some ⟨b, 0, none⟩)] w fun e w' => e = .returned (.string (sb l)) ∧ Fr (fun k => base ≤ k) w w' ∧ ∀ (k : Nat) d, w.heap[k]? = some (Obj.deferred d) → w'.heap[k]? = some (Obj.deferred d) := by
  refine (Any.Builder_String_any_k lays169 extra156 base b l w (Lib.IsBuilderF.of h) hb).mono ?_
  rintro e w' ⟨rfl, -, h2, h3⟩
  refine ⟨rfl, below_fr' h2, fun k d hk => h3 k _ hk (fun e => ?_) (fun c fz e => by cases e)⟩
  obtain rfl : k = b := Option.some.inj e
  rcases h with h | h <;>
  · obtain ⟨_, v, hv, _⟩ := h
    rw [hv] at hk
    cases hk
/-- Between two rounds: the keys of k steps are written. -/
def KyI (w3 : World) (base b : Nat) (N : Nm) (k : Nat) (W : World) : Prop := BW base b (keyL (N.reverse.take k)) W ∧ Fr (BDm base b) w3 W
set_option maxHeartbeats 8000000 in
theorem key_any (E : Nat → Prop) (v : Value) (n : Nm) (w : World) (h : NmIn E w v n) (hb : NmB 1048576 n) (hs : Short n) (h16 : n.length ≤ 16) (h4 : ∀ r ∈ n, r.length ≤ 4) :
    Calls Tryd.prog 13 #[v] w fun e w' => e = .returned (.string (sb (key n))) ∧ Fr No w w' := by
  have HX := hid h; have HB := hid hb; have HSh := hid hs
  obtain ⟨N, hN⟩ : ∃ N, norm n = N := ⟨_, rfl⟩
  have HNE := hid hN
  have HNL : Hid (N.length ≤ 16 ∧ ∀ r ∈ N, r.length ≤ 4 ∧ RdB 1048576 r) := hid (by
    rw [← hN]
    refine ⟨by rw [norm_length]; exact h16, fun r hr => ⟨?_, (norm_b hb).2 r hr⟩⟩
    obtain ⟨q, hq, rfl⟩ := List.mem_map.1 hr
    rw [normR_len]
    exact h4 q hq)
  obtain ⟨va, vc, rfl, -, -⟩ := h.form
  rw [show key n = keyL N.reverse by rw [key_eq, hN]]
  generalize n.length = m at HX ⊢
  clear h hb hs h16 h4 hN
  refine calls_marks Tryd.func13 rfl ?_
  simp only [Tryd.ntmps13, List.size_toArray, List.length_cons, List.length_nil, Nat.reduceAdd, Nat.reduceSub, Array.replicate_succ, Array.replicate_zero, List.push_toArray, List.append_toArray, List.nil_append, List.cons_append]
  go_wp2_with (first
    | ((with_reducible refine K.atO (.alloc 53) ?_); refine wpL_alloc rfl _ rfl _ zeroBd [.pointer none, .slice none 0 0] rfl ?_; intro w1 HB1 F1 HS1; refine Hid.out ?_)
    | fail)
  have H1 := norm_any E _ n w1 (HX.out.no F1.out) HB.out HSh.out
  rw [HNE.out] at H1
  refine hid ?_
  go_wp2_with fail
  refine H1.mono ?_
  rintro e w2 ⟨u, rfl, hu, f2⟩
  obtain ⟨a, cap, vs, rfl, hcap, hvl, hvs, hvr⟩ := nm_rows hu
  refine hid ?_
  clear H1
  have HU := hid hu; have HF2 := hid (F1.out.trans' f2)
  have HF12 := hid f2
  clear hu f2
  go_wp2_with fail
  refine (backward_any _ rfl w2).mono ?_
  rintro e w3 ⟨rfl, hbx, f3, hs3⟩
  obtain ⟨bx, hbx0⟩ : ∃ x, w2.heap.size = x := ⟨_, rfl⟩
  obtain ⟨b, hb0⟩ : ∃ x, w.heap.size = x := ⟨_, rfl⟩
  rw [hbx0, hb0]
  rw [hbx0] at hbx hs3
  obtain ⟨g, o, hg, hgl⟩ : ∃ g o, (N.length = 0 ∨ (a = some ⟨g, o, none⟩ ∧ w3.rangeAt g o vs)) ∧ b < g ∧ g ≤ bx := by
    rcases hvs with h0 | ⟨g, o, h1, h2, h3, h4⟩
    · exact ⟨bx, 0, .inl h0, by have := HS1.out; have := HF12.out.size; omega, Nat.le_refl _⟩
    · exact ⟨g, o, .inr ⟨h1, f3.range h4 id⟩, by have := HS1.out; have h2 : w1.heap.size ≤ g := h2; omega, by omega⟩
  have hbb : b < bx := by omega
  have HNM := hid (show w3.heap.size = bx + 1 ∧ b < g ∧ g ≤ bx ∧ b < bx ∧ w1.heap.size = b + 1 from ⟨hs3, hgl.1, hgl.2, hbb, by have := HS1.out; omega⟩)
  have HROW : Hid (∀ j r, N[j]? = some r → RdIn (fun k => w1.heap.size ≤ k) w3 (vs.getD j undef) r ∧ (∀ (D : Nat → Prop) (A : World), True → Fr (BDm (bx + 3) b) w3 A → RdIn (fun k => w1.heap.size ≤ k) A (vs.getD j undef) r)) := hid fun j r hr => by
    have h1 := (hvr j r hr).no f3
    refine ⟨h1, fun D A _ hf => h1.fr hf fun i hi hl e => ?_⟩
    have hi : w1.heap.size ≤ i := hi
    have := HNM.out
    rcases e with e | e <;> omega
  have HB3 : Hid (Blk w3 b 53 [.pointer none, .slice none 0 0]) := hid (by rw [← hb0]; exact HB1.out.fr (HF12.out.trans' f3) id)
  have HF3 := hid (HF2.out.trans' f3)
  have HW3 := hid hs3
  have hseq := backward_seq bx g o N.length cap a vs (by have := HNL.out.1; omega) hcap hvl w3 hbx hg
  refine hid ?_
  clear HB1 F1 HS1 HU HF2 HF12 hvs hvr hbx f3 hs3 hg hgl hbb
  go_wp2_with fail
  refine wp_rangePb (gf := 38) (lb := #[.pointer (some ⟨bx, 0, none⟩)]) rfl (fun vs w => by kernel_rfl) (bx := fun i => i = bx ∨ i = g) (by intro i hi; have := HNM.out; omega)
    hseq (fun k x hx => ⟨_, _, (yb_at hx).2⟩) (by simp)
    (KyI w3 (bx + 3) b N) (fun _ _ => False) ?_ (fun _ _ _ h _ => h.elim) ?_ ?_ ?_ (fun _ _ h _ => h.elim)
  · intro k A B h hf
    exact ⟨h.1.fr hf fun i e => by have := HNM.out; omega, h.2.trans hf fun i e => .inr (by omega)⟩
  · exact ⟨⟨by have := HNM.out; omega, _, _, HB3.out, .inl rfl, World.ownsRow_nil _ _ _ _⟩, Fr.refl _ _⟩
  · rintro l k v0 v1 W hx hW hI
    obtain ⟨hk, hx'⟩ := yb_at hx
    obtain ⟨v2, hv2⟩ : ∃ v2, vs.getD (N.length - 1 - k) undef = v2 := ⟨_, rfl⟩
    rw [hv2] at hx'
    obtain ⟨rfl, rfl⟩ : v0 = .int .i64 ((N.length - 1 - k : Nat) : Int) ∧ v1 = v2 := by simpa using hx'
    obtain ⟨r, hr⟩ : ∃ r, N[N.length - 1 - k]? = some r := ⟨_, List.getElem?_eq_getElem (by omega)⟩
    have hrm : r ∈ N := List.mem_of_getElem? hr
    have HR := (HROW.out _ r hr).2 (fun _ => True) W trivial hI.2
    rw [hv2] at HR
    have HST := hid (stepText_any _ _ r W HR (HNL.out.2 r hrm).2 (HNL.out.2 r hrm).1)
    have HSL := hid (stepT_le (HNL.out.2 r hrm).2 (HNL.out.2 r hrm).1)
    have HTK : Hid (N.reverse.take (k + 1) = N.reverse.take k ++ [r]) := hid (by
      rw [List.take_add_one, List.getElem?_reverse hk, hr]
      rfl)
    have HKL : Hid ((keyL (N.reverse.take k)).length ≤ 268435600) := hid (by
      have h1 := keyL_len (L := N.reverse.take k) (m := 16777224) (fun q hq => stepT_le (HNL.out.2 q (List.mem_reverse.1 (List.mem_of_mem_take hq))).2 (HNL.out.2 q (List.mem_reverse.1 (List.mem_of_mem_take hq))).1)
      have h2 : (N.reverse.take k).length ≤ 16 := by rw [List.length_take, List.length_reverse]; have := HNL.out.1; omega
      have h3 := Nat.mul_le_mul_right (16777224 + 1) h2
      omega)
    have HI := hid hI; have HW := hid hW
    obtain ⟨ra, rc, rfl, -, -⟩ := HR.form
    obtain ⟨i, hi⟩ : ∃ i : Int, ((N.length - 1 - k : Nat) : Int) = i := ⟨_, rfl⟩
    rw [hi]
    clear hx' hx hk hr hrm HR hI hW hi hseq hv2
    simp only [List.setIfInBounds_toArray, List.set_cons_zero, List.set_cons_succ]
    refine wpIn_block ?_
    refine wpIn_seq ?_
    refine wpIn_region_plain (by rfl) (fun ⟨_, _, h⟩ => h) ?_
    go_wp2_with fail
    refine HST.out.mono ?_
    rintro e W1 ⟨rfl, f1⟩
    have HF1 := hid f1
    clear f1
    go_wp2_with fail
    have hbw1 : bx + 3 ≤ W1.heap.size := by have := HW.out; have := HW3.out; have := HF1.out.size; omega
    refine (writeStringW_any (bx + 3) b (keyL (N.reverse.take k)) (stepT r) W1 (HI.out.1.fr HF1.out (fun k e => e.elim)) hbw1 (by have := HKL.out; have := HSL.out; omega)).mono ?_
    rintro e W2 ⟨⟨v3, rfl⟩, hB2, f2⟩
    have HF2 := hid f2; have HB2 := hid hB2; have HBW := hid hbw1
    clear f2 hB2 hbw1
    go_wp2_with fail
    refine wpIn_region_plain (by rfl) (fun ⟨_, _, h⟩ => h) ?_
    go_wp2_with fail
    have H0 := writeByteW_any (bx + 3) b (keyL (N.reverse.take k) ++ stepT r) 0 W2 HB2.out (Nat.le_trans HBW.out HF2.out.size) (by rw [List.length_append]; have := HKL.out; have := HSL.out; omega)
    rw [show (((0 : UInt8).toNat : Nat) : Int) = 0 from rfl] at H0
    refine H0.mono ?_
    rintro e W3 ⟨⟨v4, rfl⟩, hB3, f3⟩
    have HF4 := hid f3; have HB4 := hid hB3
    clear f3 hB3 H0
    go_wp2_with fail
    have hf : Fr (BDm (bx + 3) b) W W3 := (HF1.out.no.trans' HF2.out).trans' HF4.out
    refine ⟨KP_fr hf fun i hi e => ?_, ?_, HI.out.2.trans' hf⟩
    · have := HNM.out
      have := HW3.out
      rcases e with e | e <;> omega
    · rw [HTK.out, keyL_snoc]
      exact HB4.out
  · intro W hI hK
    rw [yb_length, show N.length = N.reverse.length by simp] at hI
    have hI1 := hI.1
    rw [List.take_length] at hI1
    have HI1 := hid hI1; have HI2 := hid hI.2; have HK := hid hK
    have HSW := hid (show b ≤ W.heap.size by have := hI.2.size; have := HNM.out; omega)
    clear hI hK hI1 hseq
    refine hid ?_
    go_wp2_with fail
    refine (builderStringK b b _ W (HI1.out.build b (Nat.le_refl _)) HSW.out).mono ?_
    rintro e W1 ⟨rfl, f1, hk1⟩
    have HF4 := hid f1
    have HK1 := hid (hk1 _ _ HK.out)
    clear f1 hk1
    go_wp2_with fail
    refine marks_tmp rfl HK1.out rfl _ rfl ?_
    intro w' hf'
    refine ⟨rfl, ?_⟩
    have h1 := HF3.out.trans HI2.out (fun i e => .inr (by have := HNM.out; have e : i = b ∨ bx + 3 ≤ i := e; omega))
    have h2 := h1.trans HF4.out (fun i e => .inr (by have e : b ≤ i := e; omega))
    exact h2.trans hf' (fun i e => .inr (by have e : i = w3.heap.size := e; have := HNM.out; omega))
end Go.Proofs.YtnjemnmhkhkpeaaDoor.DN
