/-
  The program's ParseUint of two bytes, whole; escapes.
-/
import Derived.Test.YthjmkfpdbbfcpaaGreatDoorDnU
set_option linter.unusedVariables false
set_option linter.unusedSimpArgs false
namespace Go.Proofs.YthjmkfpdbbfcpaaGreatDoor.DN
set_option maxRecDepth 100000
open Go.RowKit K Go.Proofs.YthjmkfpdbbfcpaaGreatDoor.BE

/-- The library's error of syntax lies where it was laid. -/
def Gl (w : World) : Prop := ∃ t u, w.cell? ⟨1, 0, none⟩ = some (.iface t u)
theorem Gl.fr {D : Nat → Prop} {w w' : World} (h : Gl w) (hf : Fr D w w') (hd : ¬ D 1) : Gl w' := by
  obtain ⟨t, u, h⟩ := h
  exact ⟨t, u, hf.cell h hd⟩
theorem Gl.no {w w' : World} (h : Gl w) (hf : Fr No w w') : Gl w' := h.fr hf id
theorem Gl.lt {w : World} (h : Gl w) : 1 < w.heap.size := by
  obtain ⟨t, u, h⟩ := h
  exact World.block_lt_of_cell? w _ h
section
variable {P : Program} {Q : Exit → Act → World → Prop} {op : Oper} {a : Act} {w : World} {K : Act → World → Prop}
theorem wp_boxD (t : TypeId) (x : Operand) (ho : op.op = .box t x) (v : Value) (hv : a.eval x = v) (cs : List Value) (hcs : v.cells = cs.toArray)
    (h : ∀ w', Hid (Blk w' w.heap.size t cs) → Hid (Fr No w w') → Hid (w'.heap.size = w.heap.size + 1) → K (a.put op.dst (.pointer (some ⟨w.heap.size, 0, none⟩))) w') : op.wp P a w K Q := by
  unfold Oper.wp
  have h1 := h (w.alloc (.cells v.cells t)) (hid (by rw [hcs]; exact Blk.new w t cs)) (hid ((Fr.refl _ _).alloc _)) (hid (by simp))
  simp [execOp, ho, Instr.box, hv, newVar, newRow, Result.andThen]
  exact h1
theorem wp_valD (v : Value) (hy : (execOp a.eval op).run P w = .ok (.value v) w) (h : K (a.put op.dst v) w) : op.wp P a w K Q := by
  unfold Oper.wp
  rw [hy]
  exact h
end
theorem syntaxError_any (f s : B) (hs : Sz s) (w : World) (hG : Gl w) : Calls Tryz.prog 82 #[.string (sb f), .string (sb s)] w fun e w' => (∃ b, e = .returned (.pointer (some ⟨b, 0, none⟩))) ∧ Fr No w w' := by
  obtain ⟨t, u, hc⟩ := hG
  have HC := hid hc
  have HS := hid hs
  clear hs hc
  go_enter Tryz.func82, Tryz.ntmps82
  go_wp2_with fail
  have hold : Facts.hold [(3, fun w' => w'.cell? ⟨1, 0, none⟩ = some (.iface t u))] w.drew := Facts.cons_hold HC.out (Facts.nil_hold _)
  refine wpD_region hold (by kernel_rfl) 7 rfl ?_
  (refine wpD_plain 0 (v := ?_) rfl (by kernel_rfl) (by kernel_rfl) (by kernel_rfl) (fun _ _ _ h => h) (by rfl) ?_ (by assumption) ?_; rotate_left; (intro _w; go_simp; try with_reducible rfl); simp only [Act.put, K.put3])
  (refine wpD_plain 1 (v := ?_) rfl (by kernel_rfl) (by kernel_rfl) (by kernel_rfl) (fun _ _ _ h => h) (by rfl) ?_ (by assumption) ?_; rotate_left; (intro _w; go_simp; try with_reducible rfl); simp only [Act.put, K.put3])
  clear hold
  refine wpD_two 2 3 [(3, fun w' => w'.cell? ⟨1, 0, none⟩ = some (.iface t u))] [] rfl rfl (by kernel_rfl) (by kernel_rfl) (by kernel_rfl) (by rfl) (by rfl) ?_ ?_
  · intro K hK
    refine wp_call (.func 87) _ _ rfl 87 [] rfl (fun vs w => by kernel_rfl) [.string (sb s)] (by rfl) ?_
    refine (cloneL_any s w.drew (by have := HS.out; unfold Sz at this; omega)).mono ?_
    rintro e w7 ⟨rfl, f7⟩
    have c7 : w7.cell? ⟨1, 0, none⟩ = some (.iface t u) := f7.cell (show w.drew.cell? _ = _ from HC.out) id
    have HFR := hid ((Fr.refl No w).drew.trans' f7)
    refine ⟨_, rfl, hK _ _ (Facts.cons_hold c7 (Facts.nil_hold _)) ?_⟩
    clear hK K
    · simp only [Act.put, K.put3]
      refine wpD_only 3 [] rfl (by kernel_rfl) (by kernel_rfl) (by rfl) (fun K3 hK3 => ?_)
      refine wp_valD (.iface t u) (by go_simp) ?_
      refine hK3 _ _ (Facts.nil_hold _) ?_
      clear hK3 K3
      clear c7 f7
      try (simp only [Act.put, K.put3])
      have hold : Facts.hold [] w7 := Facts.nil_hold _
      (refine wpD_plain 4 (v := (.agg #[.string (sb f), .string (sb s), .iface t u])) rfl (by kernel_rfl) (by kernel_rfl) (by kernel_rfl) (fun _ _ _ h => h) (by rfl) ?_ (by assumption) ?_; (intro _w; go_simp; skip); simp only [Act.put, K.put3])
      clear hold
      refine wpD_only 5 [] rfl (by kernel_rfl) (by kernel_rfl) (by rfl) (fun K5 hK5 => ?_)
      refine wp_boxD _ _ rfl (.agg #[.string (sb f), .string (sb s), .iface t u]) rfl [.string (sb f), .string (sb s), .iface t u] rfl ?_
      intro w8 HB8 HF8 HS8
      refine hK5 _ _ (Facts.nil_hold _) ?_
      clear hK5 K5
      simp only [Act.put, K.put3]
      have hold : Facts.hold [] w8 := Facts.nil_hold _
      (refine wpD_plain 6 (v := ?_) rfl (by kernel_rfl) (by kernel_rfl) (by kernel_rfl) (fun _ _ _ h => h) (by rfl) ?_ (by assumption) ?_; rotate_left; (intro _w; go_simp; try with_reducible rfl); simp only [Act.put, K.put3])
      clear hold
      refine wpD_done (by kernel_rfl) ?_ _
      go_wp2_with fail
      go_ret
      exact ⟨⟨_, rfl⟩, HFR.out.trans' HF8.out⟩
  · intro K hK
    refine wp_valD (.iface t u) (by have c0 : w.drew.cell? ⟨1, 0, none⟩ = some (.iface t u) := HC.out; go_simp) ?_
    refine hK _ _ (Facts.nil_hold _) ?_
    clear hK K
    simp only [Act.put, K.put3]
    refine wpD_only 2 [] rfl (by kernel_rfl) (by kernel_rfl) (by rfl) (fun K2 hK2 => ?_)
    refine wp_call (.func 87) _ _ rfl 87 [] rfl (fun vs w => by kernel_rfl) [.string (sb s)] (by rfl) ?_
    refine (cloneL_any s w.drew (by have := HS.out; unfold Sz at this; omega)).mono ?_
    rintro e w7 ⟨rfl, f7⟩
    have HFR := hid ((Fr.refl No w).drew.trans' f7)
    refine ⟨_, rfl, hK2 _ _ (Facts.nil_hold _) ?_⟩
    clear hK2 K2
    · try (simp only [Act.put, K.put3])
      have hold : Facts.hold [] w7 := Facts.nil_hold _
      (refine wpD_plain 4 (v := (.agg #[.string (sb f), .string (sb s), .iface t u])) rfl (by kernel_rfl) (by kernel_rfl) (by kernel_rfl) (fun _ _ _ h => h) (by rfl) ?_ (by assumption) ?_; (intro _w; go_simp; skip); simp only [Act.put, K.put3])
      clear hold
      refine wpD_only 5 [] rfl (by kernel_rfl) (by kernel_rfl) (by rfl) (fun K5 hK5 => ?_)
      refine wp_boxD _ _ rfl (.agg #[.string (sb f), .string (sb s), .iface t u]) rfl [.string (sb f), .string (sb s), .iface t u] rfl ?_
      intro w8 HB8 HF8 HS8
      refine hK5 _ _ (Facts.nil_hold _) ?_
      clear hK5 K5
      simp only [Act.put, K.put3]
      have hold : Facts.hold [] w8 := Facts.nil_hold _
      (refine wpD_plain 6 (v := ?_) rfl (by kernel_rfl) (by kernel_rfl) (by kernel_rfl) (fun _ _ _ h => h) (by rfl) ?_ (by assumption) ?_; rotate_left; (intro _w; go_simp; try with_reducible rfl); simp only [Act.put, K.put3])
      clear hold
      refine wpD_done (by kernel_rfl) ?_ _
      go_wp2_with fail
      go_ret
      exact ⟨⟨_, rfl⟩, HFR.out.trans' HF8.out⟩
/-- What is told of two digits: an error is never nil. -/
def ToldU (l : B) (e : Ending) : Prop := match hexs 0 l with
  | some n => e = .returned (.tuple #[.int .u64 (n : Int), .nilIface])
  | none => ∃ t u, e = .returned (.tuple #[.int .u64 0, .iface t u])
set_option maxHeartbeats 4000000 in
theorem toError_any (f s : B) (hs : Sz s) (w : World) (hG : Gl w) : Calls Tryz.prog 76 #[.string (sb f), .string (sb s), .int .i64 16, .int .i64 8, .iface 106 (.int .i64 2)] w fun e w' => (∃ t u, e = .returned (.iface t u)) ∧ Fr No w w' := by
  have H := hid (syntaxError_any f s hs w hG)
  clear hs hG
  go_enter Tryz.func76, Tryz.ntmps76
  go_wp2_with (first | ((with_reducible refine K.atO (.binOp .eql 57 _ _ _) ?_); refine wpL_valZ rfl (.bool true) (by kernel_rfl) ?_) | fail)
  refine H.out.mono ?_
  rintro e w1 ⟨⟨b, rfl⟩, f1⟩
  have HF := hid f1
  clear f1
  go_wp2_with fail
  go_ret
  exact ⟨⟨_, _, rfl⟩, HF.out⟩
set_option maxHeartbeats 4000000 in
theorem parseUint_any (x y : UInt8) (w : World) (hG : Gl w) : Calls Tryz.prog 67 #[.string (sb [x, y]), .int .i64 16, .int .i64 8] w fun e w' => ToldU [x, y] e ∧ Fr No w w' := by
  have H := hid (iparse_any x y w)
  have HG := hid hG
  have HZ : Hid (Sz [x, y]) := hid (by unfold Sz; simp)
  unfold ToldU
  clear hG
  cases hr : hexs 0 [x, y] with
  | some n =>
    rw [hr] at H
    clear hr
    go_enter Tryz.func67, Tryz.ntmps67
    go_wp2_with fail
    refine H.out.mono ?_
    rintro e w1 ⟨rfl, f1⟩
    have HF := hid f1
    clear f1
    unfold puR
    go_wp2_with fail
    go_ret2
    exact ⟨rfl, HF.out⟩
  | none =>
    rw [hr] at H
    clear hr
    go_enter Tryz.func67, Tryz.ntmps67
    go_wp2_with fail
    refine H.out.mono ?_
    rintro e w1 ⟨rfl, f1⟩
    have HF := hid f1
    clear f1
    unfold puR
    go_wp2_with fail
    refine (toError_any [80, 97, 114, 115, 101, 85, 105, 110, 116] [x, y] HZ.out w1 (HG.out.no HF.out)).mono ?_
    rintro e w2 ⟨⟨t, u, rfl⟩, f2⟩
    have HF2 := hid (HF.out.trans' f2)
    clear f2
    go_wp2_with fail
    go_ret2
    exact ⟨⟨_, _, rfl⟩, HF2.out⟩
end Go.Proofs.YthjmkfpdbbfcpaaGreatDoor.DN
