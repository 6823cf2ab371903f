/-
  The program's valueText.
-/
import Derived.Test.YthjmkfpdbbfcpaaGreatDoorDnI
import Derived.Test.YthjmkfpdbbfcpaaGreatDoorDnO
set_option linter.unusedVariables false
set_option linter.unusedSimpArgs false
namespace Go.Proofs.YthjmkfpdbbfcpaaGreatDoor.DN
set_option maxRecDepth 100000
open Go.RowKit K Go.Proofs.YthjmkfpdbbfcpaaGreatDoor.BE

def SG : B := [34, 43, 44, 59, 60, 62, 92]
def DG : B := [48, 49, 50, 51, 52, 53, 54, 55, 56, 57, 97, 98, 99, 100, 101, 102]
theorem sg_index (c : UInt8) : decide ((0 : Int) ≤ Lib.indexByte SG c) = sign c := by
  have := u8_all (fun c => decide ((0 : Int) ≤ Lib.indexByte SG c) == sign c) (by decide +kernel) c
  simpa using this
theorem dg_hi (c : UInt8) (h : c < 32 ∨ c = 127) : DG[c.toNat / 16]? = some (dgt (c / 16)) ∧ DG[c.toNat % 16]? = some (dgt (c % 16)) := by
  have := u8_all (fun c => !(decide (c < 32 ∨ c = 127)) || ((DG[c.toNat / 16]? == some (dgt (c / 16))) && (DG[c.toNat % 16]? == some (dgt (c % 16))))) (by decide +kernel) c
  simpa [h] using this
theorem and15 (c : UInt8) : bits .and .u8 (c.toNat : Int) 15 = ((c.toNat % 16 : Nat) : Int) := by
  have h : ∀ n : Fin 256, bits .and .u8 (n.val : Int) 15 = ((n.val % 16 : Nat) : Int) := by decide +kernel
  simpa using h ⟨c.toNat, UInt8.toNat_lt c⟩
theorem shr4 (c : UInt8) : ((c.toNat : Int) / 16) = ((c.toNat / 16 : Nat) : Int) := by omega
theorem exec_shr4 {op : Oper} {a : Act} (c : UInt8) (q : Nat) (hq : ((c.toNat : Int) / 16) = (q : Int)) (x y : Operand) {u : TypeId} (ho : op.op = .binOp .shr 5 x y u) (hx : a.eval x = .int .u8 (c.toNat : Int)) (hy : a.eval y = .int .u64 4) (w : World) :
    (execOp a.eval op).run Tryz.prog w = .ok (.value (.int .u8 (q : Int))) w := by
  rw [← hq]
  unfold execOp
  simp only [ho, hx, hy]
  simp [go_sem, eqGuard, Result.andThen]
theorem exec_and15 {op : Oper} {a : Act} (c : UInt8) (q : Nat) (hq : bits .and .u8 (c.toNat : Int) 15 = (q : Int)) (x y : Operand) {u : TypeId} (ho : op.op = .binOp .and 5 x y u) (hx : a.eval x = .int .u8 (c.toNat : Int)) (hy : a.eval y = .int .u8 15) (w : World) :
    (execOp a.eval op).run Tryz.prog w = .ok (.value (.int .u8 (q : Int))) w := by
  rw [← hq]
  unfold execOp
  simp only [ho, hx, hy]
  simp [go_sem, eqGuard, Result.andThen]
theorem exec_idx8 {op : Oper} {a : Act} (x y : Operand) (ho : op.op = .index 9 x y) (l : B) (i : Nat) (b : UInt8) (hi : l[i]? = some b) (n : Int) (hn : n = (i : Int)) (hx : a.eval x = .string (sb l)) (hy : a.eval y = .int .u8 n) (w : World) : (execOp a.eval op).run Tryz.prog w = .ok (.value (.int .u8 (b.toNat : Int))) w := by
  subst hn
  obtain ⟨hl, hb⟩ := List.getElem?_eq_some_iff.1 hi
  have hz : (sb l).size = l.length := sb_size l
  have h1 : (0 : Int) ≤ (i : Int) ∧ (i : Int) < (sb l).size := ⟨by omega, by omega⟩
  have h : (Instr.index 9 (.string (sb l)) (.int .u8 (i : Int))).run Tryz.prog w = .ok (.int .u8 (b.toNat : Int)) w := by
    rw [Go.run_index_string (P := Tryz.prog) w 9 (sb l) .u8 (i : Int) Tryz.underlying9, dif_pos h1]
    have h2 : ((sb l)[(i : Int).toNat]'(by omega)) = b := hb
    rw [h2]
  simp [execOp, ho, hx, hy, h]
/-- A slice literal, as one operation of a region, out of a closed fact. -/
theorem wp_buildRun {P : Program} {op : Oper} {a : Act} {w : World} {K : Act → World → Prop} {Q : Exit → Act → World → Prop} (t e : TypeId) (n : Nat) (parts : List (Nat × Operand)) (ho : op.op = .buildSlice t n parts.toArray) (cs : List Value)
    (hrun : (Instr.buildSlice t n (parts.map fun x => (x.1, a.eval x.2)).toArray).run P w = .ok (.slice (some ⟨w.heap.size, 0, none⟩) n n) (w.alloc (.cells cs.toArray e)))
    (h : ∀ w', Hid (Blk w' w.heap.size e cs) → Hid (Fr No w w') → Hid (w'.heap.size = w.heap.size + 1) → K (a.put op.dst (.slice (some ⟨w.heap.size, 0, none⟩) n n)) w') : op.wp P a w K Q := by
  unfold Oper.wp
  have h1 := h (w.alloc (.cells cs.toArray e)) (hid (Blk.new w e cs)) (hid ((Fr.refl _ _).alloc _)) (hid (by simp))
  simp [execOp, ho, hrun, Result.andThen]
  exact h1
theorem run_bytes (vs : List Value) (hv0 : 0 < vs.length) (hl : vs.length ≤ 16) (hv : ∀ v ∈ vs, ∃ n, v = .int .u8 n) (w : World) : (Instr.buildSlice 49 vs.length ((vs.zipIdx 0).map fun x => (x.2, x.1)).toArray).run Tryz.prog w =
    .ok (.slice (some ⟨w.heap.size, 0, none⟩) vs.length vs.length) (w.alloc (.cells vs.toArray 5)) := by
  obtain ⟨i, hi, hz, hs, hb⟩ := Go.info_parts infoU
  have h := run_buildAll (P := Tryz.prog) 49 5 vs i _ Tryz.underlying49 hi hz (by rw [hs]; decide) (by rw [hs]; omega) hv0 (fun v h => by obtain ⟨n, rfl⟩ := hv v h; rw [hs]; rfl) w
  have e : (vs.flatMap fun v => v.cells.toList) = vs := by
    clear h hv0 hl
    induction vs with
    | nil => rfl
    | cons v r ih =>
      obtain ⟨n, rfl⟩ := hv v (by simp)
      rw [List.flatMap_cons, ih (fun q hq => hv q (by simp [hq]))]
      rfl
  rw [e] at h
  exact h
section
variable {ops : Array Oper} {rest : List Oper} {o1 o2 : Oper} {a : Act} {w : World} {Q : Exit → Act → World → Prop}
/-- 'append(s, x, y)' of bytes, in a plain region. -/
theorem wpL_app2 (hg1 : o1.guard = none) (hg2 : o2.guard = none) (x x2 s y : Operand) (ho1 : o1.op = .buildSlice 49 2 #[(0, x), (1, x2)]) (ho2 : o2.op = .call { callee := .builtin .append, args := #[s, y], argTypes := #[49, 49] })
    {w0 : World} {v : Value} {l : B} (hown : OwR 5 1 w0 w v l.length (u8s l)) (c d : UInt8) (hx : a.eval x = .int .u8 (c.toNat : Int)) (hx2 : a.eval x2 = .int .u8 (d.toNat : Int))
    (hs : ∀ q, (a.put o1.dst q).eval s = v) (hy : ∀ q, (a.put o1.dst q).eval y = q) (hb : l.length + 2 ≤ 140737488355328)
    (h : ∀ q a' cap' w', Hid (OwR 5 1 w0 w' (.slice a' (l.length + 2) cap') (l.length + 2) (u8s (l ++ [c, d]))) → wpList Tryz.prog ops Q rest ((a.put o1.dst q).put o2.dst (.slice a' (l.length + 2) cap')) w') : wpList Tryz.prog ops Q (o1 :: o2 :: rest) a w := by
  refine wpL_buildSlice hg1 49 5 2 [(0, x), (1, x2)] ho1 [.int .u8 (c.toNat : Int), .int .u8 (d.toNat : Int)] ?_ ?_
  · have := run_bytes [.int .u8 (c.toNat : Int), .int .u8 (d.toNat : Int)] (by simp) (by simp) (by simp) w
    simpa [hx, hx2] using this
  · intro w1 HB HF HS
    refine wpList_plain hg2 fun K hK => ?_
    refine wp_appR s y 49 5 ho2 Tryz.underlying49 infoU rfl (by decide) (hown.no HF.out) (hs _) w.heap.size 2 2 [.int .u8 (c.toNat : Int), .int .u8 (d.toNat : Int)] (hy _) rfl HB.out (by simp [Value.oneCell']) (by omega) hb ?_
    intro a' cap' w' p q
    refine hK _ _ (h _ a' cap' w' (hid ?_))
    have := p.out
    rwa [show u8s l ++ [Value.int .u8 (c.toNat : Int), .int .u8 (d.toNat : Int)] = u8s (l ++ [c, d]) by simp [u8s]] at this
end
theorem byT_ctl {a b : Bool} {c : UInt8} (h : c < 32 ∨ c = 127) : byT a b c = [92, dgt (c / 16), dgt (c % 16)] := by unfold byT; rw [if_pos h]
theorem byT_esc {a b : Bool} {c : UInt8} (h : ¬ (c < 32 ∨ c = 127)) (h2 : (sign c || (c == 35 && a) || (c == 32 && (a || b))) = true) : byT a b c = [92, c] := by unfold byT; rw [if_neg h, h2]; rfl
theorem byT_raw {a b : Bool} {c : UInt8} (h : ¬ (c < 32 ∨ c = 127)) (h2 : (sign c || (c == 35 && a) || (c == 32 && (a || b))) = false) : byT a b c = [c] := by unfold byT; rw [if_neg h, h2]; rfl
theorem ctl_nat (c : UInt8) : (c < 32 ∨ c = 127) ↔ (c.toNat < 32 ∨ c.toNat = 127) := by
  rw [UInt8.lt_iff_toNat_lt, ← UInt8.toNat_inj]
  exact Iff.rfl
set_option maxHeartbeats 8000000 in
theorem valueText_any (s : B) (hs : s.length ≤ 4294967296) (w : World) : Calls Tryz.prog 53 #[.string (sb s)] w fun e w' => e = .returned (.string (sb (valT s))) ∧ Fr No w w' := by
  have hz : (sb s).size = s.length := sb_size s
  obtain ⟨S, hS⟩ : ∃ S, sb s = S := ⟨_, rfl⟩
  obtain ⟨n, hn⟩ : ∃ n, s.length = n := ⟨_, rfl⟩
  obtain ⟨R, hR⟩ : ∃ R, valT s = R := ⟨_, rfl⟩
  rw [hS, hR]
  rw [hS, hn] at hz
  rw [hn] at hs
  have hni : (n : Int) ≤ 4294967296 := by omega
  have hszi : (S.size : Int) = n := by omega
  have HNN := hid hn; have HS := hid hS; have HR := hid hR
  clear hs hz hS hn hR
  go_enter Tryz.func53, Tryz.ntmps53
  go_wp2_with fail
  go_loopw [3, 10] (fun sv iv wr => ∃ (i : Nat) (acc : B), iv = .int .i64 i ∧ i ≤ n ∧ acc.length ≤ 3 * i ∧ Hid (OwR 5 1 w wr sv acc.length (u8s acc)) ∧ Hid (acc ++ valFrom (i == 0) (s.drop i) = R)) (fun _ iv _ => n - (intOf iv).toNat)
  case atStart => exact ⟨0, [], rfl, Nat.zero_le _, Nat.zero_le _, hid (owR_nil (Fr.refl _ _)), hid (by rw [← HR.out]; rfl)⟩
  case round =>
    obtain ⟨i, acc, rfl, hi, hal, HO, HA⟩ := hrel
    obtain ⟨va, vc, rfl⟩ := HO.out.1
    obtain ⟨al, hal2⟩ : ∃ al, acc.length = al := ⟨_, rfl⟩
    rw [hal2] at HO hal ⊢
    have HAL := hid hal2
    have hali : (al : Int) ≤ 12884901888 := by omega
    by_cases hlt : i < n
    · obtain ⟨c, hc⟩ : ∃ c, s[i]? = some c := ⟨_, List.getElem?_eq_getElem (by rw [HNN.out]; exact hlt)⟩
      have HC := hid hc
      have hlti : (i : Int) < n := by omega
      have hi0 : (0 : Int) ≤ i := by omega
      have hsplit : s.drop i = c :: s.drop (i + 1) := by
        have hl : i < s.length := by rw [HNN.out]; exact hlt
        rw [List.drop_eq_getElem_cons hl]
        rw [List.getElem?_eq_getElem hl] at hc
        rw [Option.some.inj hc]
      have hlast : (s.drop (i + 1)).isEmpty = decide (i = n - 1) := by
        have h1 : (s.drop (i + 1)).length = n - (i + 1) := by rw [List.length_drop, HNN.out]
        cases hq : s.drop (i + 1) with
        | nil => rw [hq] at h1; simp at h1; rw [decide_eq_true (by omega)]; rfl
        | cons _ _ => rw [hq] at h1; simp at h1; rw [decide_eq_false (by omega)]; rfl
      have HA2 : Hid ((acc ++ byT (i == 0) (decide (i = n - 1)) c) ++ valFrom false (s.drop (i + 1)) = R) := hid (by
        have h := HA.out
        rw [hsplit] at h
        simp only [valFrom] at h
        rw [hlast] at h
        rw [List.append_assoc]
        exact h)
      have HLT := hid hlt
      have HAL3 := hid hal
      have hsg := sg_index c
      have HIX := hid (fun w => indexByte_any SG c w)
      obtain ⟨y, hy⟩ : ∃ y : Int, Lib.indexByte SG c = y := ⟨_, rfl⟩
      rw [hy] at hsg HIX
      have hctl := ctl_nat c
      have hd35 : (c == 35) = decide (c.toNat = 35) := by rw [Bool.eq_iff_iff]; simp [← UInt8.toNat_inj]
      have hd32 : (c == 32) = decide (c.toNat = 32) := by rw [Bool.eq_iff_iff]; simp [← UInt8.toNat_inj]
      have hlt256 := lt256 c
      clear hc hsplit hlast hy hlt hi hal HA
      by_cases hk : c < 32 ∨ c = 127
      · have hn1 : (c.toNat : Int) < 32 ∨ (¬ (c.toNat : Int) < 32 ∧ (c.toNat : Int) = 127) := by
          rcases hctl.1 hk with h | h <;> omega
        have HQ : Hid ((acc ++ [92, dgt (c / 16), dgt (c % 16)]) ++ valFrom (i + 1 == 0) (s.drop (i + 1)) = R) := hid (by have h := HA2.out; rw [byT_ctl hk] at h; exact h)
        obtain ⟨hd1, hd2⟩ := dg_hi c hk
        have HD1 := hid hd1; have HD2 := hid hd2
        have h15 := and15 c
        have hs4 := shr4 c
        have H15 := hid h15; have HS4 := hid hs4
        have hdl1 : (((c.toNat / 16 : Nat)) : Int) < 16 := by omega
        have hdl2 : (((c.toNat % 16 : Nat)) : Int) < 16 := by omega
        obtain ⟨q1, hq1⟩ : ∃ q1, c.toNat / 16 = q1 := ⟨_, rfl⟩
        obtain ⟨q2, hq2⟩ : ∃ q2, c.toNat % 16 = q2 := ⟨_, rfl⟩
        rw [hq1] at HD1 HS4 hdl1; rw [hq2] at HD2 H15 hdl2
        clear hk hctl hd35 hd32 hsg hd1 hd2 h15 hs4 HA2 hlt256 hq1 hq2
        rcases hn1 with h1 | ⟨h1, h2⟩
        · go_wp2_with (first | ((with_reducible refine K.atO (.index 9 _ _) ?_); refine wpL_valZ rfl (.int .u8 (c.toNat : Int)) (by rw [← HS.out]; exact exec_idx _ _ rfl s i c HC.out _ rfl rfl rfl _) ?_) | fail)
          have hold : Facts.hold [] wr.drew := Facts.nil_hold _
          refine wpD_region hold (by kernel_rfl) 10 rfl ?_
          (refine wpD_plain 0 (v := ?_) rfl (by kernel_rfl) (by kernel_rfl) (by kernel_rfl) (fun _ _ _ h => h) (by rfl) ?_ (by assumption) ?_; rotate_left; (intro _w; go_simp; try with_reducible rfl); simp only [Act.put, K.put3])
          (refine wpD_plain 1 (v := ?_) rfl (by kernel_rfl) (by kernel_rfl) (by kernel_rfl) (fun _ _ _ h => h) (by rfl) ?_ (by assumption) ?_; rotate_left; (intro _w; go_simp; try with_reducible rfl); simp only [Act.put, K.put3])
          (refine wpD_plain 2 (v := (.int .u8 (q1 : Int))) rfl (by kernel_rfl) (by kernel_rfl) (by kernel_rfl) (fun _ _ _ h => h) (by rfl) ?_ (by assumption) ?_; (intro _w; exact exec_shr4 c q1 HS4.out _ _ rfl rfl rfl _w); simp only [Act.put, K.put3])
          (refine wpD_plain 3 (v := (.int .u8 ((dgt (c / 16)).toNat : Int))) rfl (by kernel_rfl) (by kernel_rfl) (by kernel_rfl) (fun _ _ _ h => h) (by rfl) ?_ (by assumption) ?_; (intro _w; exact exec_idx8 _ _ rfl DG q1 _ HD1.out _ rfl rfl rfl _w); simp only [Act.put, K.put3])
          (refine wpD_plain 4 (v := ?_) rfl (by kernel_rfl) (by kernel_rfl) (by kernel_rfl) (fun _ _ _ h => h) (by rfl) ?_ (by assumption) ?_; rotate_left; (intro _w; go_simp; try with_reducible rfl); simp only [Act.put, K.put3])
          (refine wpD_plain 5 (v := (.int .u8 (q2 : Int))) rfl (by kernel_rfl) (by kernel_rfl) (by kernel_rfl) (fun _ _ _ h => h) (by rfl) ?_ (by assumption) ?_; (intro _w; exact exec_and15 c q2 H15.out _ _ rfl rfl rfl _w); simp only [Act.put, K.put3])
          (refine wpD_plain 6 (v := (.int .u8 ((dgt (c % 16)).toNat : Int))) rfl (by kernel_rfl) (by kernel_rfl) (by kernel_rfl) (fun _ _ _ h => h) (by rfl) ?_ (by assumption) ?_; (intro _w; exact exec_idx8 _ _ rfl DG q2 _ HD2.out _ rfl rfl rfl _w); simp only [Act.put, K.put3])
          clear hold
          refine wpD_only 7 [] rfl (by kernel_rfl) (by kernel_rfl) (by rfl) (fun K7 hK7 => ?_)
          refine wp_buildRun 49 5 3 [(0, .const (.int .u8 92)), (1, .tmp 37), (2, .tmp 40)] rfl [.int .u8 92, .int .u8 ((dgt (c / 16)).toNat : Int), .int .u8 ((dgt (c % 16)).toNat : Int)] (by
            have := run_bytes [.int .u8 92, .int .u8 ((dgt (c / 16)).toNat : Int), .int .u8 ((dgt (c % 16)).toNat : Int)] (by simp) (by simp) (by simp) wr.drew
            exact this) ?_
          intro w3 HB3 HF3 HS3
          refine hK7 _ _ (Facts.nil_hold _) ?_
          clear hK7 K7
          simp only [Act.put, K.put3]
          have HO3 : Hid (OwR 5 1 w w3 (.slice va al vc) al (u8s acc)) := hid (OwR.no HO.out ((Fr.refl No wr).drew.trans' HF3.out))
          refine wpD_only 8 [] rfl (by kernel_rfl) (by kernel_rfl) (by rfl) (fun K8 hK8 => ?_)
          refine wp_appR _ _ 49 5 rfl Tryz.underlying49 infoU rfl (by decide) HO3.out rfl wr.heap.size 3 3 _ rfl rfl HB3.out (by simp [Value.oneCell']) (by omega) (by omega) ?_
          intro a4 c4 w4 HO4 HF4
          refine hK8 _ _ (Facts.nil_hold _) ?_
          clear hK8 K8
          simp only [Act.put, K.put3]
          have hold : Facts.hold [] w4 := Facts.nil_hold _
          (refine wpD_plain 9 (v := ?_) rfl (by kernel_rfl) (by kernel_rfl) (by kernel_rfl) (fun _ _ _ h => h) (by rfl) ?_ (by assumption) ?_; rotate_left; (intro _w; go_simp; try with_reducible rfl); simp only [Act.put, K.put3])
          clear hold
          refine wpD_done (by kernel_rfl) ?_ _
          go_wp2_with fail
          refine ⟨⟨i + 1, acc ++ [92, dgt (c / 16), dgt (c % 16)], by go_num, HLT.out, by rw [List.length_append, HAL.out]; have := HAL3.out; simp; omega, hid ?_, hid HQ.out⟩, by have := HLT.out; simp [intOf]; omega⟩
          have h := HO4.out
          rw [show (acc ++ [92, dgt (c / 16), dgt (c % 16)]).length = al + 3 by rw [List.length_append, HAL.out]; rfl]
          rwa [show u8s acc ++ [Value.int .u8 92, .int .u8 ((dgt (c / 16)).toNat : Int), .int .u8 ((dgt (c % 16)).toNat : Int)] = u8s (acc ++ [92, dgt (c / 16), dgt (c % 16)]) by simp [u8s]] at h
        · have h3 : ((c.toNat : Int) == 127) = true := by rw [beq_iff_eq]; omega
          clear h2
          go_wp2_with (first | ((with_reducible refine K.atO (.index 9 _ _) ?_); refine wpL_valZ rfl (.int .u8 (c.toNat : Int)) (by rw [← HS.out]; exact exec_idx _ _ rfl s i c HC.out _ rfl rfl rfl _) ?_) | fail)
          have hold : Facts.hold [] wr.drew := Facts.nil_hold _
          refine wpD_region hold (by kernel_rfl) 10 rfl ?_
          (refine wpD_plain 0 (v := ?_) rfl (by kernel_rfl) (by kernel_rfl) (by kernel_rfl) (fun _ _ _ h => h) (by rfl) ?_ (by assumption) ?_; rotate_left; (intro _w; go_simp; try with_reducible rfl); simp only [Act.put, K.put3])
          (refine wpD_plain 1 (v := ?_) rfl (by kernel_rfl) (by kernel_rfl) (by kernel_rfl) (fun _ _ _ h => h) (by rfl) ?_ (by assumption) ?_; rotate_left; (intro _w; go_simp; try with_reducible rfl); simp only [Act.put, K.put3])
          (refine wpD_plain 2 (v := (.int .u8 (q1 : Int))) rfl (by kernel_rfl) (by kernel_rfl) (by kernel_rfl) (fun _ _ _ h => h) (by rfl) ?_ (by assumption) ?_; (intro _w; exact exec_shr4 c q1 HS4.out _ _ rfl rfl rfl _w); simp only [Act.put, K.put3])
          (refine wpD_plain 3 (v := (.int .u8 ((dgt (c / 16)).toNat : Int))) rfl (by kernel_rfl) (by kernel_rfl) (by kernel_rfl) (fun _ _ _ h => h) (by rfl) ?_ (by assumption) ?_; (intro _w; exact exec_idx8 _ _ rfl DG q1 _ HD1.out _ rfl rfl rfl _w); simp only [Act.put, K.put3])
          (refine wpD_plain 4 (v := ?_) rfl (by kernel_rfl) (by kernel_rfl) (by kernel_rfl) (fun _ _ _ h => h) (by rfl) ?_ (by assumption) ?_; rotate_left; (intro _w; go_simp; try with_reducible rfl); simp only [Act.put, K.put3])
          (refine wpD_plain 5 (v := (.int .u8 (q2 : Int))) rfl (by kernel_rfl) (by kernel_rfl) (by kernel_rfl) (fun _ _ _ h => h) (by rfl) ?_ (by assumption) ?_; (intro _w; exact exec_and15 c q2 H15.out _ _ rfl rfl rfl _w); simp only [Act.put, K.put3])
          (refine wpD_plain 6 (v := (.int .u8 ((dgt (c % 16)).toNat : Int))) rfl (by kernel_rfl) (by kernel_rfl) (by kernel_rfl) (fun _ _ _ h => h) (by rfl) ?_ (by assumption) ?_; (intro _w; exact exec_idx8 _ _ rfl DG q2 _ HD2.out _ rfl rfl rfl _w); simp only [Act.put, K.put3])
          clear hold
          refine wpD_only 7 [] rfl (by kernel_rfl) (by kernel_rfl) (by rfl) (fun K7 hK7 => ?_)
          refine wp_buildRun 49 5 3 [(0, .const (.int .u8 92)), (1, .tmp 37), (2, .tmp 40)] rfl [.int .u8 92, .int .u8 ((dgt (c / 16)).toNat : Int), .int .u8 ((dgt (c % 16)).toNat : Int)] (by
            have := run_bytes [.int .u8 92, .int .u8 ((dgt (c / 16)).toNat : Int), .int .u8 ((dgt (c % 16)).toNat : Int)] (by simp) (by simp) (by simp) wr.drew
            exact this) ?_
          intro w3 HB3 HF3 HS3
          refine hK7 _ _ (Facts.nil_hold _) ?_
          clear hK7 K7
          simp only [Act.put, K.put3]
          have HO3 : Hid (OwR 5 1 w w3 (.slice va al vc) al (u8s acc)) := hid (OwR.no HO.out ((Fr.refl No wr).drew.trans' HF3.out))
          refine wpD_only 8 [] rfl (by kernel_rfl) (by kernel_rfl) (by rfl) (fun K8 hK8 => ?_)
          refine wp_appR _ _ 49 5 rfl Tryz.underlying49 infoU rfl (by decide) HO3.out rfl wr.heap.size 3 3 _ rfl rfl HB3.out (by simp [Value.oneCell']) (by omega) (by omega) ?_
          intro a4 c4 w4 HO4 HF4
          refine hK8 _ _ (Facts.nil_hold _) ?_
          clear hK8 K8
          simp only [Act.put, K.put3]
          have hold : Facts.hold [] w4 := Facts.nil_hold _
          (refine wpD_plain 9 (v := ?_) rfl (by kernel_rfl) (by kernel_rfl) (by kernel_rfl) (fun _ _ _ h => h) (by rfl) ?_ (by assumption) ?_; rotate_left; (intro _w; go_simp; try with_reducible rfl); simp only [Act.put, K.put3])
          clear hold
          refine wpD_done (by kernel_rfl) ?_ _
          go_wp2_with fail
          refine ⟨⟨i + 1, acc ++ [92, dgt (c / 16), dgt (c % 16)], by go_num, HLT.out, by rw [List.length_append, HAL.out]; have := HAL3.out; simp; omega, hid ?_, hid HQ.out⟩, by have := HLT.out; simp [intOf]; omega⟩
          have h := HO4.out
          rw [show (acc ++ [92, dgt (c / 16), dgt (c % 16)]).length = al + 3 by rw [List.length_append, HAL.out]; rfl]
          rwa [show u8s acc ++ [Value.int .u8 92, .int .u8 ((dgt (c / 16)).toNat : Int), .int .u8 ((dgt (c % 16)).toNat : Int)] = u8s (acc ++ [92, dgt (c / 16), dgt (c % 16)]) by simp [u8s]] at h
      · have hn1 : ¬ (c.toNat : Int) < 32 := by intro h; exact hk (hctl.2 (.inl (by omega)))
        have hn2 : ¬ (c.toNat : Int) = 127 := by intro h; exact hk (hctl.2 (.inr (by omega)))
        have HOA : Hid (OwR 5 1 w wr (.slice va al vc) acc.length (u8s acc)) := hid (by rw [HAL.out]; exact HO.out)
        clear hctl
        cases hsn : sign c with
        | true =>
          rw [hsn] at hsg
          have hy0 := of_decide_eq_true hsg
          have HE : Hid ((sign c || (c == 35 && (i == 0)) || (c == 32 && ((i == 0) || decide (i = n - 1)))) = true) := hid (by rw [hsn]; rfl)
          clear hsg hd35 hd32 hsn hlt256
          have HQ : Hid ((acc ++ [92, c]) ++ valFrom (i + 1 == 0) (s.drop (i + 1)) = R) := hid (by have h := HA2.out; rw [byT_esc hk HE.out] at h; exact h)
          clear hk HA2 HE
          go_wp2_with (first | ((with_reducible refine K.atO (.index 9 _ _) ?_); refine wpL_valZ rfl (.int .u8 (c.toNat : Int)) (by rw [← HS.out]; exact exec_idx _ _ rfl s i c HC.out _ rfl rfl rfl _) ?_) | fail)
          refine (HIX.out _).mono ?_
          rintro e w2 ⟨rfl, rfl⟩
          go_wp2_with (first | ((with_reducible refine K.atO (.buildSlice 49 _ _) ?_); refine wpL_app2 rfl rfl _ _ _ _ rfl rfl HOA.out 92 c rfl rfl (fun _ => rfl) (fun _ => rfl) (by rw [HAL.out]; omega) ?_; intro q a4 c4 w4 HO4; rw [HAL.out] at HO4 ⊢) | fail)
          refine ⟨⟨i + 1, acc ++ [92, c], by go_num, HLT.out, by rw [List.length_append, HAL.out]; have := HAL3.out; simp; omega, hid ?_, hid HQ.out⟩, by have := HLT.out; simp [intOf]; omega⟩
          rw [show (acc ++ [92, c]).length = al + 2 by rw [List.length_append, HAL.out]; rfl]
          exact HO4.out
        | false =>
          rw [hsn] at hsg
          have hy0 := of_decide_eq_false hsg
          clear hsg
          by_cases h35 : c.toNat = 35
          · have h35i : ((c.toNat : Int) == 35) = true := by rw [beq_iff_eq]; omega
            rw [decide_eq_true h35] at hd35
            rw [decide_eq_false (by omega)] at hd32
            by_cases hz0 : i = 0
            · have hb0 : ((i : Int) == 0) = true := by subst hz0; rfl
              have HE : Hid ((sign c || (c == 35 && (i == 0)) || (c == 32 && ((i == 0) || decide (i = n - 1)))) = true) := hid (by rw [hd35, hz0]; simp)
              clear hd35 hd32 hsn hlt256 h35 hz0
              have HQ : Hid ((acc ++ [92, c]) ++ valFrom (i + 1 == 0) (s.drop (i + 1)) = R) := hid (by have h := HA2.out; rw [byT_esc hk HE.out] at h; exact h)
              clear hk HA2 HE
              go_wp2_with (first | ((with_reducible refine K.atO (.index 9 _ _) ?_); refine wpL_valZ rfl (.int .u8 (c.toNat : Int)) (by rw [← HS.out]; exact exec_idx _ _ rfl s i c HC.out _ rfl rfl rfl _) ?_) | fail)
              refine (HIX.out _).mono ?_
              rintro e w2 ⟨rfl, rfl⟩
              go_wp2_with (first | ((with_reducible refine K.atO (.buildSlice 49 _ _) ?_); refine wpL_app2 rfl rfl _ _ _ _ rfl rfl HOA.out 92 c rfl rfl (fun _ => rfl) (fun _ => rfl) (by rw [HAL.out]; omega) ?_; intro q a4 c4 w4 HO4; rw [HAL.out] at HO4 ⊢) | fail)
              refine ⟨⟨i + 1, acc ++ [92, c], by go_num, HLT.out, by rw [List.length_append, HAL.out]; have := HAL3.out; simp; omega, hid ?_, hid HQ.out⟩, by have := HLT.out; simp [intOf]; omega⟩
              rw [show (acc ++ [92, c]).length = al + 2 by rw [List.length_append, HAL.out]; rfl]
              exact HO4.out
            · have hb0 : ((i : Int) == 0) = false := by rw [beq_eq_false_iff_ne]; omega
              have HE : Hid ((sign c || (c == 35 && (i == 0)) || (c == 32 && ((i == 0) || decide (i = n - 1)))) = false) := hid (by rw [hd35, hd32, hsn]; simpa using hz0)
              clear hd35 hd32 hsn hlt256 h35 hz0
              have HQ : Hid ((acc ++ [c]) ++ valFrom (i + 1 == 0) (s.drop (i + 1)) = R) := hid (by have h := HA2.out; rw [byT_raw hk HE.out] at h; exact h)
              clear hk HA2 HE
              go_wp2_with (first | ((with_reducible refine K.atO (.index 9 _ _) ?_); refine wpL_valZ rfl (.int .u8 (c.toNat : Int)) (by rw [← HS.out]; exact exec_idx _ _ rfl s i c HC.out _ rfl rfl rfl _) ?_) | fail)
              refine (HIX.out _).mono ?_
              rintro e w2 ⟨rfl, rfl⟩
              go_wp2_with (first | ((with_reducible refine K.atO (.buildSlice 49 _ _) ?_); refine wpL_app1 rfl rfl _ _ _ 49 5 rfl rfl Tryz.underlying49 infoU rfl (by decide) (by decide) HO.out (.int .u8 (c.toNat : Int)) [.int .u8 (c.toNat : Int)] rfl rfl rfl (by simp [Value.oneCell']) (fun _ => rfl) (fun _ => rfl) (by omega) (by omega) ?_; intro q a4 c4 w4 HO4 HF4) | fail)
              refine ⟨⟨i + 1, acc ++ [c], by go_num, HLT.out, by rw [List.length_append, HAL.out]; have := HAL3.out; simp; omega, hid ?_, hid HQ.out⟩, by have := HLT.out; simp [intOf]; omega⟩
              have h := HO4.out
              rw [show (acc ++ [c]).length = al + 1 by rw [List.length_append, HAL.out]; rfl]
              rwa [show u8s acc ++ [Value.int .u8 (c.toNat : Int)] = u8s (acc ++ [c]) by simp [u8s]] at h
          · have h35i : ¬ (c.toNat : Int) = 35 := by omega
            rw [decide_eq_false h35] at hd35
            by_cases h32 : c.toNat = 32
            · have h32i : ((c.toNat : Int) == 32) = true := by rw [beq_iff_eq]; omega
              have h35j : ((c.toNat : Int) == 35) = false := by rw [beq_eq_false_iff_ne]; omega
              clear h35i
              rw [decide_eq_true h32] at hd32
              by_cases hz0 : i = 0
              · have hb0 : ((i : Int) == 0) = true := by subst hz0; rfl
                have HE : Hid ((sign c || (c == 35 && (i == 0)) || (c == 32 && ((i == 0) || decide (i = n - 1)))) = true) := hid (by rw [hd32, hz0]; simp)
                clear hd35 hd32 hsn hlt256 h35 hz0 h32
                have HQ : Hid ((acc ++ [92, c]) ++ valFrom (i + 1 == 0) (s.drop (i + 1)) = R) := hid (by have h := HA2.out; rw [byT_esc hk HE.out] at h; exact h)
                clear hk HA2 HE
                go_wp2_with (first | ((with_reducible refine K.atO (.index 9 _ _) ?_); refine wpL_valZ rfl (.int .u8 (c.toNat : Int)) (by rw [← HS.out]; exact exec_idx _ _ rfl s i c HC.out _ rfl rfl rfl _) ?_) | fail)
                refine (HIX.out _).mono ?_
                rintro e w2 ⟨rfl, rfl⟩
                go_wp2_with (first | ((with_reducible refine K.atO (.buildSlice 49 _ _) ?_); refine wpL_app2 rfl rfl _ _ _ _ rfl rfl HOA.out 92 c rfl rfl (fun _ => rfl) (fun _ => rfl) (by rw [HAL.out]; omega) ?_; intro q a4 c4 w4 HO4; rw [HAL.out] at HO4 ⊢) | fail)
                refine ⟨⟨i + 1, acc ++ [92, c], by go_num, HLT.out, by rw [List.length_append, HAL.out]; have := HAL3.out; simp; omega, hid ?_, hid HQ.out⟩, by have := HLT.out; simp [intOf]; omega⟩
                rw [show (acc ++ [92, c]).length = al + 2 by rw [List.length_append, HAL.out]; rfl]
                exact HO4.out
              · have hb0 : ((i : Int) == 0) = false := by rw [beq_eq_false_iff_ne]; omega
                by_cases hz1 : i = n - 1
                · have hb1 : ((i : Int) == (n : Int) - 1) = true := by rw [beq_iff_eq]; have := HLT.out; omega
                  have HE : Hid ((sign c || (c == 35 && (i == 0)) || (c == 32 && ((i == 0) || decide (i = n - 1)))) = true) := hid (by rw [hd32, decide_eq_true hz1]; simp)
                  clear hd35 hd32 hsn hlt256 h35 hz0 h32 hz1
                  have HQ : Hid ((acc ++ [92, c]) ++ valFrom (i + 1 == 0) (s.drop (i + 1)) = R) := hid (by have h := HA2.out; rw [byT_esc hk HE.out] at h; exact h)
                  clear hk HA2 HE
                  go_wp2_with (first | ((with_reducible refine K.atO (.index 9 _ _) ?_); refine wpL_valZ rfl (.int .u8 (c.toNat : Int)) (by rw [← HS.out]; exact exec_idx _ _ rfl s i c HC.out _ rfl rfl rfl _) ?_) | fail)
                  refine (HIX.out _).mono ?_
                  rintro e w2 ⟨rfl, rfl⟩
                  go_wp2_with (first | ((with_reducible refine K.atO (.buildSlice 49 _ _) ?_); refine wpL_app2 rfl rfl _ _ _ _ rfl rfl HOA.out 92 c rfl rfl (fun _ => rfl) (fun _ => rfl) (by rw [HAL.out]; omega) ?_; intro q a4 c4 w4 HO4; rw [HAL.out] at HO4 ⊢) | fail)
                  refine ⟨⟨i + 1, acc ++ [92, c], by go_num, HLT.out, by rw [List.length_append, HAL.out]; have := HAL3.out; simp; omega, hid ?_, hid HQ.out⟩, by have := HLT.out; simp [intOf]; omega⟩
                  rw [show (acc ++ [92, c]).length = al + 2 by rw [List.length_append, HAL.out]; rfl]
                  exact HO4.out
                · have hb1 : ((i : Int) == (n : Int) - 1) = false := by rw [beq_eq_false_iff_ne]; have := HLT.out; omega
                  have HE : Hid ((sign c || (c == 35 && (i == 0)) || (c == 32 && ((i == 0) || decide (i = n - 1)))) = false) := hid (by rw [hd35, hsn, decide_eq_false hz1]; simpa using fun _ => hz0)
                  clear hd35 hd32 hsn hlt256 h35 hz0 h32 hz1
                  have HQ : Hid ((acc ++ [c]) ++ valFrom (i + 1 == 0) (s.drop (i + 1)) = R) := hid (by have h := HA2.out; rw [byT_raw hk HE.out] at h; exact h)
                  clear hk HA2 HE
                  go_wp2_with (first | ((with_reducible refine K.atO (.index 9 _ _) ?_); refine wpL_valZ rfl (.int .u8 (c.toNat : Int)) (by rw [← HS.out]; exact exec_idx _ _ rfl s i c HC.out _ rfl rfl rfl _) ?_) | fail)
                  refine (HIX.out _).mono ?_
                  rintro e w2 ⟨rfl, rfl⟩
                  go_wp2_with (first | ((with_reducible refine K.atO (.buildSlice 49 _ _) ?_); refine wpL_app1 rfl rfl _ _ _ 49 5 rfl rfl Tryz.underlying49 infoU rfl (by decide) (by decide) HO.out (.int .u8 (c.toNat : Int)) [.int .u8 (c.toNat : Int)] rfl rfl rfl (by simp [Value.oneCell']) (fun _ => rfl) (fun _ => rfl) (by omega) (by omega) ?_; intro q a4 c4 w4 HO4 HF4) | fail)
                  refine ⟨⟨i + 1, acc ++ [c], by go_num, HLT.out, by rw [List.length_append, HAL.out]; have := HAL3.out; simp; omega, hid ?_, hid HQ.out⟩, by have := HLT.out; simp [intOf]; omega⟩
                  have h := HO4.out
                  rw [show (acc ++ [c]).length = al + 1 by rw [List.length_append, HAL.out]; rfl]
                  rwa [show u8s acc ++ [Value.int .u8 (c.toNat : Int)] = u8s (acc ++ [c]) by simp [u8s]] at h
            · have h32i : ¬ (c.toNat : Int) = 32 := by omega
              rw [decide_eq_false h32] at hd32
              have HE : Hid ((sign c || (c == 35 && (i == 0)) || (c == 32 && ((i == 0) || decide (i = n - 1)))) = false) := hid (by rw [hd35, hd32, hsn]; rfl)
              clear hd35 hd32 hsn hlt256 h35 h32
              have HQ : Hid ((acc ++ [c]) ++ valFrom (i + 1 == 0) (s.drop (i + 1)) = R) := hid (by have h := HA2.out; rw [byT_raw hk HE.out] at h; exact h)
              clear hk HA2 HE
              go_wp2_with (first | ((with_reducible refine K.atO (.index 9 _ _) ?_); refine wpL_valZ rfl (.int .u8 (c.toNat : Int)) (by rw [← HS.out]; exact exec_idx _ _ rfl s i c HC.out _ rfl rfl rfl _) ?_) | fail)
              refine (HIX.out _).mono ?_
              rintro e w2 ⟨rfl, rfl⟩
              go_wp2_with (first | ((with_reducible refine K.atO (.buildSlice 49 _ _) ?_); refine wpL_app1 rfl rfl _ _ _ 49 5 rfl rfl Tryz.underlying49 infoU rfl (by decide) (by decide) HO.out (.int .u8 (c.toNat : Int)) [.int .u8 (c.toNat : Int)] rfl rfl rfl (by simp [Value.oneCell']) (fun _ => rfl) (fun _ => rfl) (by omega) (by omega) ?_; intro q a4 c4 w4 HO4 HF4) | fail)
              refine ⟨⟨i + 1, acc ++ [c], by go_num, HLT.out, by rw [List.length_append, HAL.out]; have := HAL3.out; simp; omega, hid ?_, hid HQ.out⟩, by have := HLT.out; simp [intOf]; omega⟩
              have h := HO4.out
              rw [show (acc ++ [c]).length = al + 1 by rw [List.length_append, HAL.out]; rfl]
              rwa [show u8s acc ++ [Value.int .u8 (c.toNat : Int)] = u8s (acc ++ [c]) by simp [u8s]] at h
    · obtain rfl : i = n := by omega
      have hE := HA.out
      rw [← HNN.out, List.drop_length] at hE
      simp only [valFrom, List.append_nil] at hE
      obtain ⟨a1, c1, e1, hcap, h5⟩ := HO.out.reads
      simp only [Value.slice.injEq, true_and] at e1
      obtain ⟨rfl, rfl⟩ := e1
      have hbi : BytesIn wr (fun _ => True) (.slice va al vc) R := by
        rw [← hE]
        exact ⟨_, _, _, rfl, HAL.out, hcap, h5.imp id fun ⟨g, e, _, hg, hr⟩ => ⟨g, 0, e, trivial, hg, hr⟩⟩
      have HBI := hid hbi
      clear hE hcap h5 hbi hal hi hlt
      go_wp2_with (first
        | ((with_reducible refine K.atO (.convert _ 9 _) ?_); refine wpL_stringOf rfl _ _ _ _ rfl _ _ R rfl HBI.out Tryz.underlying49 Tryz.underlying5 Tryz.underlying9 ?_)
        | fail)
      go_ret
      exact ⟨rfl, HO.out.fr⟩
end Go.Proofs.YthjmkfpdbbfcpaaGreatDoor.DN
