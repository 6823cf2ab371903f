/-
  LogPlays: an act by both.
-/
import Derived.Test.YtlnolnaapnijbaaLogPl
import Derived.Test.YtlnolnaapnijbaaLogAc
namespace Go.Proofs.Ytlnolnaapnijbaa.L
set_option maxRecDepth 100000
open Go.RowKit K

theorem hentAppendP (vs : Array Value) (w : World) : (callFunc 23 vs).run Try.prog w = .ok (.enter 23 vs) w := by kernel_rfl
theorem hentRAppendP (vs : Array Value) (w : World) : (callFunc 31 vs).run Try.prog w = .ok (.enter 31 vs) w := by kernel_rfl
theorem hentCrashP (vs : Array Value) (w : World) : (callFunc 26 vs).run Try.prog w = .ok (.enter 26 vs) w := by kernel_rfl
theorem hentRCrashP (vs : Array Value) (w : World) : (callFunc 33 vs).run Try.prog w = .ok (.enter 33 vs) w := by kernel_rfl
theorem hentArmP (vs : Array Value) (w : World) : (callFunc 34 vs).run Try.prog w = .ok (.enter 34 vs) w := by kernel_rfl
theorem hentRArmP (vs : Array Value) (w : World) : (callFunc 35 vs).run Try.prog w = .ok (.enter 35 vs) w := by kernel_rfl
theorem hentWriteP (vs : Array Value) (w : World) : (callFunc 36 vs).run Try.prog w = .ok (.enter 36 vs) w := by kernel_rfl
theorem hentRWriteP (vs : Array Value) (w : World) : (callFunc 37 vs).run Try.prog w = .ok (.enter 37 vs) w := by kernel_rfl
theorem hentRMadeP (vs : Array Value) (w : World) : (callFunc 38 vs).run Try.prog w = .ok (.enter 38 vs) w := by kernel_rfl
theorem crash_len (u : U) (k : List Bool) : (u.crash k).2.L.length = u.L.length ∧ (u.crash k).2.P.length = 0 := by
  have h : ∀ (P : List (Nat × List UInt8)) (L : List (List UInt8)), (applied L P).length = L.length := by
    intro P
    induction P with
    | nil => intro L; rfl
    | cons p r ih => intro L; have := ih (L.set p.1 p.2); simpa [applied] using this
  exact ⟨h _ _, rfl⟩
theorem arm_len (u : U) (n : Int) : (u.arm n).2.L.length = u.L.length ∧ (u.arm n).2.P.length = u.P.length := by
  unfold U.arm
  (repeat' split) <;> exact ⟨rfl, rfl⟩
theorem flush_len2 (u : U) : u.flush.2.L.length = u.L.length ∧ u.flush.2.P.length ≤ u.P.length := by
  refine ⟨flush_L u, ?_⟩
  unfold U.flush
  (repeat' split) <;> simp
def La.agg (kv : Value) (x : La) : Value := .agg #[.int .i64 x.how, .int .i64 x.at_, .int .i64 x.n, .string x.txt, .int .u32 x.ep, .int .u32 x.li, kv]
set_option maxHeartbeats 32000000 in
theorem does_any (W w : World) (bx bd be : Nat) (fs cn : Int) (ep N M : Nat) (kv : Value) (x : La) (h : Alike W w bx bd be fs cn ep N M) (hx : LaIn W W.heap.size kv x) (hat : 0 ≤ x.at_) (h0 : 0 ≤ fs) (h9 : fs ≤ 4096) (he : ep < 4294967296) (hM : M < 800000) :
    Calls Try.prog 10 #[pt bx, x.agg kv] w fun e w' => e = .returned (.bool true) ∧ Alike W w' bx bd be fs cn ep N (M + 43) := by
  obtain ⟨Z, Y, a, lv, mv, hd, hl, hn, hp⟩ := h
  have H := hid hd; have HL := hid hl; have HN := hid hn; have HP := hid hp; have HX := hid hx; have HAT := hid hat; have H9 := hid h9; have HE := hid he; have HM := hid hM; have H0 := hid h0
  obtain ⟨how, at_, n, txt, ae, al, keep⟩ := x
  show Calls _ _ #[pt bx, .agg #[.int .i64 how, .int .i64 at_, .int .i64 n, .string txt, .int .u32 (ae : Int), .int .u32 (al : Int), kv]] _ _
  clear hd hl hn hp hx hat h9 he hM h0
  obtain ⟨ka, kl, kc, rfl, -⟩ := HX.out.k
  by_cases h1 : how = 1
  · subst h1
    rcases HL.out with ⟨rfl, rfl⟩ | ⟨bg, bm, g, rfl, rfl, hdl⟩
    · go_enter Try.func10, Try.ntmps10
      go_wp2_with ((with_reducible show wpList _ _ _ ({ dst := _, op := .box 39 _, type := _, pos := _, after := _, guard := _ } :: _) _ _); refine wpL_box rfl _ _ rfl _ rfl [(.int .i64 1), (.int .i64 at_), (.int .i64 n), (.string txt), (.int .u32 (ae : Int)), (.int .u32 (al : Int)), .slice ka kl kc] rfl ?_; intro w1 HB1 F1 HS1; have H1 := hid (H.out.no F1.out); have x0 : w1.cell? ⟨bx, 0, none⟩ = some (pt bd) := H1.out.blk.cell 0; have x1 : w1.cell? ⟨bx, 1, none⟩ = some (.pointer none) := H1.out.blk.cell 1; have x2 : w1.cell? ⟨bx, 2, none⟩ = some (pt be) := H1.out.blk.cell 2; have x3 : w1.cell? ⟨bx, 3, none⟩ = some (.pointer none) := H1.out.blk.cell 3; have x4 : w1.cell? ⟨bx, 4, none⟩ = some (.int .i64 fs) := H1.out.blk.cell 4; have a0 : w1.cell? ⟨w.heap.size, 0, none⟩ = some (.int .i64 1) := HB1.out.cell 0; have a1 : w1.cell? ⟨w.heap.size, 1, none⟩ = some (.int .i64 at_) := HB1.out.cell 1; have a2 : w1.cell? ⟨w.heap.size, 2, none⟩ = some (.int .i64 n) := HB1.out.cell 2; have a3 : w1.cell? ⟨w.heap.size, 3, none⟩ = some (.string txt) := HB1.out.cell 3; have a4 : w1.cell? ⟨w.heap.size, 4, none⟩ = some (.int .u32 (ae : Int)) := HB1.out.cell 4; have a5 : w1.cell? ⟨w.heap.size, 5, none⟩ = some (.int .u32 (al : Int)) := HB1.out.cell 5; have a6 : w1.cell? ⟨w.heap.size, 6, none⟩ = some (.slice ka kl kc) := HB1.out.cell 6)
      go_ret
      exact ⟨rfl, Z, Y, a, _, _, H1.out, .inl ⟨rfl, rfl⟩, HN.out, by have := HP.out; omega⟩
    · have HD := hid (hdl)
      clear hdl HL
      go_enter Try.func10, Try.ntmps10
      go_wp2_with ((with_reducible show wpList _ _ _ ({ dst := _, op := .box 39 _, type := _, pos := _, after := _, guard := _ } :: _) _ _); refine wpL_box rfl _ _ rfl _ rfl [(.int .i64 1), (.int .i64 at_), (.int .i64 n), (.string txt), (.int .u32 (ae : Int)), (.int .u32 (al : Int)), .slice ka kl kc] rfl ?_; intro w1 HB1 F1 HS1; have H1 := hid (H.out.no F1.out); have x0 : w1.cell? ⟨bx, 0, none⟩ = some (pt bd) := H1.out.blk.cell 0; have x1 : w1.cell? ⟨bx, 1, none⟩ = some (pt bg) := H1.out.blk.cell 1; have x2 : w1.cell? ⟨bx, 2, none⟩ = some (pt be) := H1.out.blk.cell 2; have x3 : w1.cell? ⟨bx, 3, none⟩ = some (pt bm) := H1.out.blk.cell 3; have x4 : w1.cell? ⟨bx, 4, none⟩ = some (.int .i64 fs) := H1.out.blk.cell 4; have a0 : w1.cell? ⟨w.heap.size, 0, none⟩ = some (.int .i64 1) := HB1.out.cell 0; have a1 : w1.cell? ⟨w.heap.size, 1, none⟩ = some (.int .i64 at_) := HB1.out.cell 1; have a2 : w1.cell? ⟨w.heap.size, 2, none⟩ = some (.int .i64 n) := HB1.out.cell 2; have a3 : w1.cell? ⟨w.heap.size, 3, none⟩ = some (.string txt) := HB1.out.cell 3; have a4 : w1.cell? ⟨w.heap.size, 4, none⟩ = some (.int .u32 (ae : Int)) := HB1.out.cell 4; have a5 : w1.cell? ⟨w.heap.size, 5, none⟩ = some (.int .u32 (al : Int)) := HB1.out.cell 5; have a6 : w1.cell? ⟨w.heap.size, 6, none⟩ = some (.slice ka kl kc) := HB1.out.cell 6)
      have HD1 := hid (HD.out.no F1.out)
      have hold : Facts.hold [(3, fun w' => w'.cell? ⟨bx, 1, none⟩ = some (pt bg)), (5, fun w' => w'.cell? ⟨w.heap.size, 3, none⟩ = some (.string txt))] w1.drew := Facts.cons_hold x1 (Facts.cons_hold a3 (Facts.nil_hold _))
      refine wpD_region hold (by kernel_rfl) 8 rfl ?_
      (refine wpD_plain 0 (v := ?_) rfl (by kernel_rfl) (by kernel_rfl) (by kernel_rfl) (fun _ _ _ h => h) (by rfl) ?_ (by assumption) ?_; rotate_left; (intro _w; go_simp; try with_reducible rfl); simp only [Act.put, List.setIfInBounds_toArray, List.set_cons_zero, List.set_cons_succ])
      (refine wpD_plain 1 (v := ?_) rfl (by kernel_rfl) (by kernel_rfl) (by kernel_rfl) (fun _ _ _ h => h) (by rfl) ?_ (by assumption) ?_; rotate_left; (intro _w; go_simp; try with_reducible rfl); simp only [Act.put, List.setIfInBounds_toArray, List.set_cons_zero, List.set_cons_succ])
      (refine wpD_plain 2 (v := ?_) rfl (by kernel_rfl) (by kernel_rfl) (by kernel_rfl) (fun _ _ _ h => h) (by rfl) ?_ (by assumption) ?_; rotate_left; (intro _w; go_simp; try with_reducible rfl); simp only [Act.put, List.setIfInBounds_toArray, List.set_cons_zero, List.set_cons_succ])
      (refine wpD_take 3 _ rfl (by kernel_rfl) (by kernel_rfl) (by kernel_rfl) (fun _ _ _ h => h) List.mem_cons_self (by rfl) (v := ?_) ?_ (by assumption) ?_; rotate_left; (intro _w _hw; go_simp; try with_reducible rfl); simp only [Act.put, List.setIfInBounds_toArray, List.set_cons_zero, List.set_cons_succ])
      (refine wpD_plain 4 (v := ?_) rfl (by kernel_rfl) (by kernel_rfl) (by kernel_rfl) (fun _ _ _ h => h) (by rfl) ?_ (by assumption) ?_; rotate_left; (intro _w; go_simp; try with_reducible rfl); simp only [Act.put, List.setIfInBounds_toArray, List.set_cons_zero, List.set_cons_succ])
      (refine wpD_take 5 _ rfl (by kernel_rfl) (by kernel_rfl) (by kernel_rfl) (fun _ _ _ h => h) (List.mem_cons_of_mem _ List.mem_cons_self) (by rfl) (v := ?_) ?_ (by assumption) ?_; rotate_left; (intro _w _hw; go_simp; try with_reducible rfl); simp only [Act.put, List.setIfInBounds_toArray, List.set_cons_zero, List.set_cons_succ])
      refine wpD_only 6 [] rfl (by kernel_rfl) (by kernel_rfl) (by rfl) (fun K6 hK6 => ?_)
      refine wp_call (.func 23) _ _ rfl 23 [] rfl hentAppendP [pt bg, .string txt] (by rfl) ?_
      refine (append_any w1.drew bg bd Z g a txt ((H1.out.at_ HD1.out).no (Fr.refl No w1).drew) (by have := HX.out.rl; simp only at this; omega) (by have := HP.out; have := HM.out; omega)).mono ?_
      rintro e w2 ⟨rfl, Z2, t2, f2, g2⟩
      have HD2 := hid ((HD1.out.no (Fr.refl No w1).drew).ofAt t2 f2 g2)
      have H2 := hid ((H1.out.no (Fr.refl No w1).drew).ofD t2.1 f2 g2 (fun k hk => hk.elim (H1.out.zD k) (fun e => by rw [e]; exact ⟨HD1.out.gw, HD1.out.gy, HD1.out.gx⟩)))
      have HB2 : Hid (Blk w2 w.heap.size 39 [(.int .i64 1), (.int .i64 at_), (.int .i64 n), (.string txt), (.int .u32 (ae : Int)), (.int .u32 (al : Int)), .slice ka kl kc]) := hid ((HB1.out.fr (Fr.refl No w1).drew id).fr f2 (fun e => e.elim (fun e => by have := H.out.d.lt _ e; omega) (fun e => by have := HD.out.gl.lt; omega)))
      clear t2 f2 g2 x0 x1 x2 x3 x4 a0 a1 a2 a3 a4 a5 a6
      refine ⟨_, rfl, ?_⟩
      refine hK6 _ _ (Facts.nil_hold _) ?_
      clear hK6 K6 hold
      simp only [Act.put, List.setIfInBounds_toArray, List.set_cons_zero, List.set_cons_succ]
      have hold : Facts.hold [] w2 := Facts.nil_hold _
      (refine wpD_plain 7 (v := ?_) rfl (by kernel_rfl) (by kernel_rfl) (by kernel_rfl) (fun _ _ _ h => h) (by rfl) ?_ (by assumption) ?_; rotate_left; (intro _w; go_simp; try with_reducible rfl); simp only [Act.put, List.setIfInBounds_toArray, List.set_cons_zero, List.set_cons_succ])
      clear hold
      refine wpD_done (by kernel_rfl) ?_ _
      try simp only [Act.put, List.setIfInBounds_toArray, List.set_cons_zero, List.set_cons_succ]
      have x0 : w2.cell? ⟨bx, 0, none⟩ = some (pt bd) := H2.out.blk.cell 0
      have x1 : w2.cell? ⟨bx, 1, none⟩ = some (pt bg) := H2.out.blk.cell 1
      have x2 : w2.cell? ⟨bx, 2, none⟩ = some (pt be) := H2.out.blk.cell 2
      have x3 : w2.cell? ⟨bx, 3, none⟩ = some (pt bm) := H2.out.blk.cell 3
      have x4 : w2.cell? ⟨bx, 4, none⟩ = some (.int .i64 fs) := H2.out.blk.cell 4
      have a0 : w2.cell? ⟨w.heap.size, 0, none⟩ = some (.int .i64 1) := HB2.out.cell 0
      have a1 : w2.cell? ⟨w.heap.size, 1, none⟩ = some (.int .i64 at_) := HB2.out.cell 1
      have a2 : w2.cell? ⟨w.heap.size, 2, none⟩ = some (.int .i64 n) := HB2.out.cell 2
      have a3 : w2.cell? ⟨w.heap.size, 3, none⟩ = some (.string txt) := HB2.out.cell 3
      have a4 : w2.cell? ⟨w.heap.size, 4, none⟩ = some (.int .u32 (ae : Int)) := HB2.out.cell 4
      have a5 : w2.cell? ⟨w.heap.size, 5, none⟩ = some (.int .u32 (al : Int)) := HB2.out.cell 5
      have a6 : w2.cell? ⟨w.heap.size, 6, none⟩ = some (.slice ka kl kc) := HB2.out.cell 6
      go_wp2_with fail
      have hold : Facts.hold [(3, fun w' => w'.cell? ⟨bx, 3, none⟩ = some (pt bm)), (5, fun w' => w'.cell? ⟨w.heap.size, 3, none⟩ = some (.string txt))] w2.drew := Facts.cons_hold x3 (Facts.cons_hold a3 (Facts.nil_hold _))
      refine wpD_region hold (by kernel_rfl) 8 rfl ?_
      (refine wpD_plain 0 (v := ?_) rfl (by kernel_rfl) (by kernel_rfl) (by kernel_rfl) (fun _ _ _ h => h) (by rfl) ?_ (by assumption) ?_; rotate_left; (intro _w; go_simp; try with_reducible rfl); simp only [Act.put, List.setIfInBounds_toArray, List.set_cons_zero, List.set_cons_succ])
      (refine wpD_plain 1 (v := ?_) rfl (by kernel_rfl) (by kernel_rfl) (by kernel_rfl) (fun _ _ _ h => h) (by rfl) ?_ (by assumption) ?_; rotate_left; (intro _w; go_simp; try with_reducible rfl); simp only [Act.put, List.setIfInBounds_toArray, List.set_cons_zero, List.set_cons_succ])
      (refine wpD_plain 2 (v := ?_) rfl (by kernel_rfl) (by kernel_rfl) (by kernel_rfl) (fun _ _ _ h => h) (by rfl) ?_ (by assumption) ?_; rotate_left; (intro _w; go_simp; try with_reducible rfl); simp only [Act.put, List.setIfInBounds_toArray, List.set_cons_zero, List.set_cons_succ])
      (refine wpD_take 3 _ rfl (by kernel_rfl) (by kernel_rfl) (by kernel_rfl) (fun _ _ _ h => h) List.mem_cons_self (by rfl) (v := ?_) ?_ (by assumption) ?_; rotate_left; (intro _w _hw; go_simp; try with_reducible rfl); simp only [Act.put, List.setIfInBounds_toArray, List.set_cons_zero, List.set_cons_succ])
      (refine wpD_plain 4 (v := ?_) rfl (by kernel_rfl) (by kernel_rfl) (by kernel_rfl) (fun _ _ _ h => h) (by rfl) ?_ (by assumption) ?_; rotate_left; (intro _w; go_simp; try with_reducible rfl); simp only [Act.put, List.setIfInBounds_toArray, List.set_cons_zero, List.set_cons_succ])
      (refine wpD_take 5 _ rfl (by kernel_rfl) (by kernel_rfl) (by kernel_rfl) (fun _ _ _ h => h) (List.mem_cons_of_mem _ List.mem_cons_self) (by rfl) (v := ?_) ?_ (by assumption) ?_; rotate_left; (intro _w _hw; go_simp; try with_reducible rfl); simp only [Act.put, List.setIfInBounds_toArray, List.set_cons_zero, List.set_cons_succ])
      refine wpD_only 6 [] rfl (by kernel_rfl) (by kernel_rfl) (by rfl) (fun K6 hK6 => ?_)
      refine wp_call (.func 31) _ _ rfl 31 [] rfl hentRAppendP [pt bm, .string txt] (by rfl) ?_
      refine (rappend_any w2.drew bm be Y g a txt ((H2.out.atR HD2.out).no (Fr.refl No w2).drew) (by have := HX.out.rl; simp only at this; omega) (by have := HP.out; have := HM.out; omega)).mono ?_
      rintro e w3 ⟨rfl, Y3, t3, f3, g3⟩
      have HD3 := hid ((HD2.out.no (Fr.refl No w2).drew).ofAtR t3 f3 g3)
      have H3 := hid ((H2.out.no (Fr.refl No w2).drew).ofE t3.1 f3 g3 (fun k hk => hk.elim (H2.out.yD k) (fun e => by rw [e]; exact ⟨HD2.out.mw, HD2.out.mz, HD2.out.mx⟩)))
      clear t3 f3 g3 x0 x1 x2 x3 x4 a0 a1 a2 a3 a4 a5 a6
      refine ⟨_, rfl, ?_⟩
      refine hK6 _ _ (Facts.nil_hold _) ?_
      clear hK6 K6 hold
      simp only [Act.put, List.setIfInBounds_toArray, List.set_cons_zero, List.set_cons_succ]
      have hold : Facts.hold [] w3 := Facts.nil_hold _
      (refine wpD_plain 7 (v := ?_) rfl (by kernel_rfl) (by kernel_rfl) (by kernel_rfl) (fun _ _ _ h => h) (by rfl) ?_ (by assumption) ?_; rotate_left; (intro _w; go_simp; try with_reducible rfl); simp only [Act.put, List.setIfInBounds_toArray, List.set_cons_zero, List.set_cons_succ])
      clear hold
      refine wpD_done (by kernel_rfl) ?_ _
      try simp only [Act.put, List.setIfInBounds_toArray, List.set_cons_zero, List.set_cons_succ]
      have HQL := hid (append_L a g txt.data.toList); have HQP := hid (append_P a g txt.data.toList)
      go_wp2_with fail
      go_ret
      exact ⟨by simp, Z2, Y3, _, _, _, H3.out, .inr ⟨bg, bm, _, rfl, rfl, HD3.out⟩, by rw [HQL.out]; exact HN.out, by have := HQP.out; have := HP.out; omega⟩
  by_cases h2 : how = 2
  · subst h2
    clear h1
    rcases HL.out with ⟨rfl, rfl⟩ | ⟨bg, bm, g, rfl, rfl, hdl⟩
    · go_enter Try.func10, Try.ntmps10
      go_wp2_with ((with_reducible show wpList _ _ _ ({ dst := _, op := .box 39 _, type := _, pos := _, after := _, guard := _ } :: _) _ _); refine wpL_box rfl _ _ rfl _ rfl [(.int .i64 2), (.int .i64 at_), (.int .i64 n), (.string txt), (.int .u32 (ae : Int)), (.int .u32 (al : Int)), .slice ka kl kc] rfl ?_; intro w1 HB1 F1 HS1; have H1 := hid (H.out.no F1.out); have x0 : w1.cell? ⟨bx, 0, none⟩ = some (pt bd) := H1.out.blk.cell 0; have x1 : w1.cell? ⟨bx, 1, none⟩ = some (.pointer none) := H1.out.blk.cell 1; have x2 : w1.cell? ⟨bx, 2, none⟩ = some (pt be) := H1.out.blk.cell 2; have x3 : w1.cell? ⟨bx, 3, none⟩ = some (.pointer none) := H1.out.blk.cell 3; have x4 : w1.cell? ⟨bx, 4, none⟩ = some (.int .i64 fs) := H1.out.blk.cell 4; have a0 : w1.cell? ⟨w.heap.size, 0, none⟩ = some (.int .i64 2) := HB1.out.cell 0; have a1 : w1.cell? ⟨w.heap.size, 1, none⟩ = some (.int .i64 at_) := HB1.out.cell 1; have a2 : w1.cell? ⟨w.heap.size, 2, none⟩ = some (.int .i64 n) := HB1.out.cell 2; have a3 : w1.cell? ⟨w.heap.size, 3, none⟩ = some (.string txt) := HB1.out.cell 3; have a4 : w1.cell? ⟨w.heap.size, 4, none⟩ = some (.int .u32 (ae : Int)) := HB1.out.cell 4; have a5 : w1.cell? ⟨w.heap.size, 5, none⟩ = some (.int .u32 (al : Int)) := HB1.out.cell 5; have a6 : w1.cell? ⟨w.heap.size, 6, none⟩ = some (.slice ka kl kc) := HB1.out.cell 6)
      go_ret
      exact ⟨rfl, Z, Y, a, _, _, H1.out, .inl ⟨rfl, rfl⟩, HN.out, by have := HP.out; omega⟩
    · have HD := hid (hdl)
      clear hdl HL
      go_enter Try.func10, Try.ntmps10
      go_wp2_with ((with_reducible show wpList _ _ _ ({ dst := _, op := .box 39 _, type := _, pos := _, after := _, guard := _ } :: _) _ _); refine wpL_box rfl _ _ rfl _ rfl [(.int .i64 2), (.int .i64 at_), (.int .i64 n), (.string txt), (.int .u32 (ae : Int)), (.int .u32 (al : Int)), .slice ka kl kc] rfl ?_; intro w1 HB1 F1 HS1; have H1 := hid (H.out.no F1.out); have x0 : w1.cell? ⟨bx, 0, none⟩ = some (pt bd) := H1.out.blk.cell 0; have x1 : w1.cell? ⟨bx, 1, none⟩ = some (pt bg) := H1.out.blk.cell 1; have x2 : w1.cell? ⟨bx, 2, none⟩ = some (pt be) := H1.out.blk.cell 2; have x3 : w1.cell? ⟨bx, 3, none⟩ = some (pt bm) := H1.out.blk.cell 3; have x4 : w1.cell? ⟨bx, 4, none⟩ = some (.int .i64 fs) := H1.out.blk.cell 4; have a0 : w1.cell? ⟨w.heap.size, 0, none⟩ = some (.int .i64 2) := HB1.out.cell 0; have a1 : w1.cell? ⟨w.heap.size, 1, none⟩ = some (.int .i64 at_) := HB1.out.cell 1; have a2 : w1.cell? ⟨w.heap.size, 2, none⟩ = some (.int .i64 n) := HB1.out.cell 2; have a3 : w1.cell? ⟨w.heap.size, 3, none⟩ = some (.string txt) := HB1.out.cell 3; have a4 : w1.cell? ⟨w.heap.size, 4, none⟩ = some (.int .u32 (ae : Int)) := HB1.out.cell 4; have a5 : w1.cell? ⟨w.heap.size, 5, none⟩ = some (.int .u32 (al : Int)) := HB1.out.cell 5; have a6 : w1.cell? ⟨w.heap.size, 6, none⟩ = some (.slice ka kl kc) := HB1.out.cell 6)
      have HD1 := hid (HD.out.no F1.out)
      refine (sync_any (H1.out.at_ HD1.out)).mono ?_
      rintro e w2 ⟨rfl, t2, f2⟩
      have HD2 := hid (HD1.out.ofAt t2 (f2.mono (fun k hk => .inl hk)) (Grows.refl _ _))
      have H2 := hid (H1.out.ofD t2.1 f2 (Grows.refl _ _) H1.out.zD)
      have HB2 : Hid (Blk w2 w.heap.size 39 [(.int .i64 2), (.int .i64 at_), (.int .i64 n), (.string txt), (.int .u32 (ae : Int)), (.int .u32 (al : Int)), .slice ka kl kc]) := hid (HB1.out.fr f2 (fun e => by have := H.out.d.lt _ e; omega))
      clear t2 f2 x0 x1 x2 x3 x4 a0 a1 a2 a3 a4 a5 a6
      have x0 : w2.cell? ⟨bx, 0, none⟩ = some (pt bd) := H2.out.blk.cell 0
      have x1 : w2.cell? ⟨bx, 1, none⟩ = some (pt bg) := H2.out.blk.cell 1
      have x2 : w2.cell? ⟨bx, 2, none⟩ = some (pt be) := H2.out.blk.cell 2
      have x3 : w2.cell? ⟨bx, 3, none⟩ = some (pt bm) := H2.out.blk.cell 3
      have x4 : w2.cell? ⟨bx, 4, none⟩ = some (.int .i64 fs) := H2.out.blk.cell 4
      have a0 : w2.cell? ⟨w.heap.size, 0, none⟩ = some (.int .i64 2) := HB2.out.cell 0
      have a1 : w2.cell? ⟨w.heap.size, 1, none⟩ = some (.int .i64 at_) := HB2.out.cell 1
      have a2 : w2.cell? ⟨w.heap.size, 2, none⟩ = some (.int .i64 n) := HB2.out.cell 2
      have a3 : w2.cell? ⟨w.heap.size, 3, none⟩ = some (.string txt) := HB2.out.cell 3
      have a4 : w2.cell? ⟨w.heap.size, 4, none⟩ = some (.int .u32 (ae : Int)) := HB2.out.cell 4
      have a5 : w2.cell? ⟨w.heap.size, 5, none⟩ = some (.int .u32 (al : Int)) := HB2.out.cell 5
      have a6 : w2.cell? ⟨w.heap.size, 6, none⟩ = some (.slice ka kl kc) := HB2.out.cell 6
      go_wp2_with fail
      refine (rflush_any H2.out.e).mono ?_
      rintro e w3 ⟨rfl, t3, f3⟩
      have HQ := hid (flush_len2 a)
      have HD3 := hid (HD2.out.ofE (b' := a.flush.2) f3 (Grows.refl _ _) HQ.out.1)
      have H3 := hid (H2.out.ofE t3 f3 (Grows.refl _ _) H2.out.yD)
      clear t3 f3 x0 x1 x2 x3 x4 a0 a1 a2 a3 a4 a5 a6
      go_wp2_with fail
      go_ret
      exact ⟨by simp, Z, Y, _, _, _, H3.out, .inr ⟨bg, bm, _, rfl, rfl, HD3.out⟩, by rw [HQ.out.1]; exact HN.out, by have := HQ.out.2; have := HP.out; omega⟩
  by_cases h3 : how = 3
  · subst h3
    clear h1 h2
    go_enter Try.func10, Try.ntmps10
    go_wp2_with ((with_reducible show wpList _ _ _ ({ dst := _, op := .box 39 _, type := _, pos := _, after := _, guard := _ } :: _) _ _); refine wpL_box rfl _ _ rfl _ rfl [(.int .i64 3), (.int .i64 at_), (.int .i64 n), (.string txt), (.int .u32 (ae : Int)), (.int .u32 (al : Int)), .slice ka kl kc] rfl ?_; intro w1 HB1 F1 HS1; have H1 := hid (H.out.no F1.out); have x0 : w1.cell? ⟨bx, 0, none⟩ = some (pt bd) := H1.out.blk.cell 0; have x1 : w1.cell? ⟨bx, 1, none⟩ = some lv := H1.out.blk.cell 1; have x2 : w1.cell? ⟨bx, 2, none⟩ = some (pt be) := H1.out.blk.cell 2; have x3 : w1.cell? ⟨bx, 3, none⟩ = some mv := H1.out.blk.cell 3; have x4 : w1.cell? ⟨bx, 4, none⟩ = some (.int .i64 fs) := H1.out.blk.cell 4; have a0 : w1.cell? ⟨w.heap.size, 0, none⟩ = some (.int .i64 3) := HB1.out.cell 0; have a1 : w1.cell? ⟨w.heap.size, 1, none⟩ = some (.int .i64 at_) := HB1.out.cell 1; have a2 : w1.cell? ⟨w.heap.size, 2, none⟩ = some (.int .i64 n) := HB1.out.cell 2; have a3 : w1.cell? ⟨w.heap.size, 3, none⟩ = some (.string txt) := HB1.out.cell 3; have a4 : w1.cell? ⟨w.heap.size, 4, none⟩ = some (.int .u32 (ae : Int)) := HB1.out.cell 4; have a5 : w1.cell? ⟨w.heap.size, 5, none⟩ = some (.int .u32 (al : Int)) := HB1.out.cell 5; have a6 : w1.cell? ⟨w.heap.size, 6, none⟩ = some (.slice ka kl kc) := HB1.out.cell 6)
    have hold : Facts.hold [(3, fun w' => w'.cell? ⟨bx, 0, none⟩ = some (pt bd)), (5, fun w' => w'.cell? ⟨w.heap.size, 6, none⟩ = some (.slice ka kl kc))] w1.drew := Facts.cons_hold x0 (Facts.cons_hold a6 (Facts.nil_hold _))
    refine wpD_region hold (by kernel_rfl) 8 rfl ?_
    (refine wpD_plain 0 (v := ?_) rfl (by kernel_rfl) (by kernel_rfl) (by kernel_rfl) (fun _ _ _ h => h) (by rfl) ?_ (by assumption) ?_; rotate_left; (intro _w; go_simp; try with_reducible rfl); simp only [Act.put, List.setIfInBounds_toArray, List.set_cons_zero, List.set_cons_succ])
    (refine wpD_plain 1 (v := ?_) rfl (by kernel_rfl) (by kernel_rfl) (by kernel_rfl) (fun _ _ _ h => h) (by rfl) ?_ (by assumption) ?_; rotate_left; (intro _w; go_simp; try with_reducible rfl); simp only [Act.put, List.setIfInBounds_toArray, List.set_cons_zero, List.set_cons_succ])
    (refine wpD_plain 2 (v := ?_) rfl (by kernel_rfl) (by kernel_rfl) (by kernel_rfl) (fun _ _ _ h => h) (by rfl) ?_ (by assumption) ?_; rotate_left; (intro _w; go_simp; try with_reducible rfl); simp only [Act.put, List.setIfInBounds_toArray, List.set_cons_zero, List.set_cons_succ])
    (refine wpD_take 3 _ rfl (by kernel_rfl) (by kernel_rfl) (by kernel_rfl) (fun _ _ _ h => h) List.mem_cons_self (by rfl) (v := ?_) ?_ (by assumption) ?_; rotate_left; (intro _w _hw; go_simp; try with_reducible rfl); simp only [Act.put, List.setIfInBounds_toArray, List.set_cons_zero, List.set_cons_succ])
    (refine wpD_plain 4 (v := ?_) rfl (by kernel_rfl) (by kernel_rfl) (by kernel_rfl) (fun _ _ _ h => h) (by rfl) ?_ (by assumption) ?_; rotate_left; (intro _w; go_simp; try with_reducible rfl); simp only [Act.put, List.setIfInBounds_toArray, List.set_cons_zero, List.set_cons_succ])
    (refine wpD_take 5 _ rfl (by kernel_rfl) (by kernel_rfl) (by kernel_rfl) (fun _ _ _ h => h) (List.mem_cons_of_mem _ List.mem_cons_self) (by rfl) (v := ?_) ?_ (by assumption) ?_; rotate_left; (intro _w _hw; go_simp; try with_reducible rfl); simp only [Act.put, List.setIfInBounds_toArray, List.set_cons_zero, List.set_cons_succ])
    refine wpD_only 6 [] rfl (by kernel_rfl) (by kernel_rfl) (by rfl) (fun K6 hK6 => ?_)
    refine wp_call (.func 26) _ _ rfl 26 [] rfl hentCrashP [pt bd, .slice ka kl kc] (by rfl) ?_
    refine (dcrash_any (w := w1.drew) (.slice ka kl kc) keep (fun k => k < W.heap.size) (HX.out.k.fr (Fr.trans' (b := w1) (H1.out.fr) (Fr.refl No w1).drew) (fun _ _ _ e => e)) (fun k hk e => by have := H.out.zw k e; omega) (by have := HX.out.kl; simp only at this; omega) (D.Rep.no H1.out.d (Fr.refl No w1).drew)).mono ?_
    rintro e w2 ⟨rfl, t2, f2⟩
    have H2 := hid ((H1.out.no (Fr.refl No w1).drew).ofD t2 f2 (Grows.refl _ _) H1.out.zD)
    have F12 : Hid (Fr Z w1 w2) := hid (Fr.trans' (b := w1.drew) (Fr.refl Z w1).drew f2)
    have HB2 : Hid (Blk w2 w.heap.size 39 [(.int .i64 3), (.int .i64 at_), (.int .i64 n), (.string txt), (.int .u32 (ae : Int)), (.int .u32 (al : Int)), .slice ka kl kc]) := hid (HB1.out.fr F12.out (fun e => by have := H.out.d.lt _ e; omega))
    clear t2 f2 x0 x1 x2 x3 x4 a0 a1 a2 a3 a4 a5 a6
    refine ⟨_, rfl, ?_⟩
    refine hK6 _ _ (Facts.nil_hold _) ?_
    clear hK6 K6 hold
    simp only [Act.put, List.setIfInBounds_toArray, List.set_cons_zero, List.set_cons_succ]
    have hold : Facts.hold [] w2 := Facts.nil_hold _
    (refine wpD_plain 7 (v := ?_) rfl (by kernel_rfl) (by kernel_rfl) (by kernel_rfl) (fun _ _ _ h => h) (by rfl) ?_ (by assumption) ?_; rotate_left; (intro _w; go_simp; try with_reducible rfl); simp only [Act.put, List.setIfInBounds_toArray, List.set_cons_zero, List.set_cons_succ])
    clear hold
    refine wpD_done (by kernel_rfl) ?_ _
    try simp only [Act.put, List.setIfInBounds_toArray, List.set_cons_zero, List.set_cons_succ]
    have x0 : w2.cell? ⟨bx, 0, none⟩ = some (pt bd) := H2.out.blk.cell 0
    have x1 : w2.cell? ⟨bx, 1, none⟩ = some lv := H2.out.blk.cell 1
    have x2 : w2.cell? ⟨bx, 2, none⟩ = some (pt be) := H2.out.blk.cell 2
    have x3 : w2.cell? ⟨bx, 3, none⟩ = some mv := H2.out.blk.cell 3
    have x4 : w2.cell? ⟨bx, 4, none⟩ = some (.int .i64 fs) := H2.out.blk.cell 4
    have a0 : w2.cell? ⟨w.heap.size, 0, none⟩ = some (.int .i64 3) := HB2.out.cell 0
    have a1 : w2.cell? ⟨w.heap.size, 1, none⟩ = some (.int .i64 at_) := HB2.out.cell 1
    have a2 : w2.cell? ⟨w.heap.size, 2, none⟩ = some (.int .i64 n) := HB2.out.cell 2
    have a3 : w2.cell? ⟨w.heap.size, 3, none⟩ = some (.string txt) := HB2.out.cell 3
    have a4 : w2.cell? ⟨w.heap.size, 4, none⟩ = some (.int .u32 (ae : Int)) := HB2.out.cell 4
    have a5 : w2.cell? ⟨w.heap.size, 5, none⟩ = some (.int .u32 (al : Int)) := HB2.out.cell 5
    have a6 : w2.cell? ⟨w.heap.size, 6, none⟩ = some (.slice ka kl kc) := HB2.out.cell 6
    go_wp2_with fail
    have hold : Facts.hold [(3, fun w' => w'.cell? ⟨bx, 2, none⟩ = some (pt be)), (5, fun w' => w'.cell? ⟨w.heap.size, 6, none⟩ = some (.slice ka kl kc))] w2.drew := Facts.cons_hold x2 (Facts.cons_hold a6 (Facts.nil_hold _))
    refine wpD_region hold (by kernel_rfl) 8 rfl ?_
    (refine wpD_plain 0 (v := ?_) rfl (by kernel_rfl) (by kernel_rfl) (by kernel_rfl) (fun _ _ _ h => h) (by rfl) ?_ (by assumption) ?_; rotate_left; (intro _w; go_simp; try with_reducible rfl); simp only [Act.put, List.setIfInBounds_toArray, List.set_cons_zero, List.set_cons_succ])
    (refine wpD_plain 1 (v := ?_) rfl (by kernel_rfl) (by kernel_rfl) (by kernel_rfl) (fun _ _ _ h => h) (by rfl) ?_ (by assumption) ?_; rotate_left; (intro _w; go_simp; try with_reducible rfl); simp only [Act.put, List.setIfInBounds_toArray, List.set_cons_zero, List.set_cons_succ])
    (refine wpD_plain 2 (v := ?_) rfl (by kernel_rfl) (by kernel_rfl) (by kernel_rfl) (fun _ _ _ h => h) (by rfl) ?_ (by assumption) ?_; rotate_left; (intro _w; go_simp; try with_reducible rfl); simp only [Act.put, List.setIfInBounds_toArray, List.set_cons_zero, List.set_cons_succ])
    (refine wpD_take 3 _ rfl (by kernel_rfl) (by kernel_rfl) (by kernel_rfl) (fun _ _ _ h => h) List.mem_cons_self (by rfl) (v := ?_) ?_ (by assumption) ?_; rotate_left; (intro _w _hw; go_simp; try with_reducible rfl); simp only [Act.put, List.setIfInBounds_toArray, List.set_cons_zero, List.set_cons_succ])
    (refine wpD_plain 4 (v := ?_) rfl (by kernel_rfl) (by kernel_rfl) (by kernel_rfl) (fun _ _ _ h => h) (by rfl) ?_ (by assumption) ?_; rotate_left; (intro _w; go_simp; try with_reducible rfl); simp only [Act.put, List.setIfInBounds_toArray, List.set_cons_zero, List.set_cons_succ])
    (refine wpD_take 5 _ rfl (by kernel_rfl) (by kernel_rfl) (by kernel_rfl) (fun _ _ _ h => h) (List.mem_cons_of_mem _ List.mem_cons_self) (by rfl) (v := ?_) ?_ (by assumption) ?_; rotate_left; (intro _w _hw; go_simp; try with_reducible rfl); simp only [Act.put, List.setIfInBounds_toArray, List.set_cons_zero, List.set_cons_succ])
    refine wpD_only 6 [] rfl (by kernel_rfl) (by kernel_rfl) (by rfl) (fun K6 hK6 => ?_)
    refine wp_call (.func 33) _ _ rfl 33 [] rfl hentRCrashP [pt be, .slice ka kl kc] (by rfl) ?_
    refine (rcrash_any (w := w2.drew) (.slice ka kl kc) keep (fun k => k < W.heap.size) (HX.out.k.fr (Fr.trans' (b := w2) (H2.out.fr) (Fr.refl No w2).drew) (fun _ _ _ e => e)) (fun k hk e => by have := H.out.yw k e; omega) (by have := HX.out.kl; simp only at this; omega) (D.Rep.no H2.out.e (Fr.refl No w2).drew)).mono ?_
    rintro e w3 ⟨rfl, t3, f3⟩
    have H3 := hid ((H2.out.no (Fr.refl No w2).drew).ofE t3 f3 (Grows.refl _ _) H2.out.yD)
    have F23 : Hid (Fr Y w2 w3) := hid (Fr.trans' (b := w2.drew) (Fr.refl Y w2).drew f3)
    have HQ := hid (crash_len a keep)
    have HL3 : Hid ((lv = .pointer none ∧ mv = .pointer none) ∨ ∃ bg bm g, lv = pt bg ∧ mv = pt bm ∧ Dl W w3 bx bd be Z Y (a.crash keep).2 (a.crash keep).2 bg bm g g) := hid (HL.out.imp id (fun ⟨bg, bm, g, e1, e2, l⟩ => ⟨bg, bm, g, e1, e2, (((l.no F1.out).ofD F12.out (Grows.refl _ _) HQ.out.1).ofE F23.out (Grows.refl _ _) HQ.out.1)⟩))
    have HB3 : Hid (Blk w3 w.heap.size 39 [(.int .i64 3), (.int .i64 at_), (.int .i64 n), (.string txt), (.int .u32 (ae : Int)), (.int .u32 (al : Int)), .slice ka kl kc]) := hid (HB2.out.fr F23.out (fun e => by have := H.out.e.lt _ e; omega))
    clear t3 f3 x0 x1 x2 x3 x4 a0 a1 a2 a3 a4 a5 a6
    refine ⟨_, rfl, ?_⟩
    refine hK6 _ _ (Facts.nil_hold _) ?_
    clear hK6 K6 hold
    simp only [Act.put, List.setIfInBounds_toArray, List.set_cons_zero, List.set_cons_succ]
    have hold : Facts.hold [] w3 := Facts.nil_hold _
    (refine wpD_plain 7 (v := ?_) rfl (by kernel_rfl) (by kernel_rfl) (by kernel_rfl) (fun _ _ _ h => h) (by rfl) ?_ (by assumption) ?_; rotate_left; (intro _w; go_simp; try with_reducible rfl); simp only [Act.put, List.setIfInBounds_toArray, List.set_cons_zero, List.set_cons_succ])
    clear hold
    refine wpD_done (by kernel_rfl) ?_ _
    try simp only [Act.put, List.setIfInBounds_toArray, List.set_cons_zero, List.set_cons_succ]
    have a0 : w3.cell? ⟨w.heap.size, 0, none⟩ = some (.int .i64 3) := HB3.out.cell 0
    go_wp2_with fail
    refine (opened_any W w3 bx bd be Z Y (a.crash keep).2 lv mv fs cn ep H3.out (by have := H9.out; omega) HE.out (by have := HQ.out.2; omega)).mono ?_
    rintro e w4 ⟨rfl, ha, -⟩
    have HA := hid ha
    clear ha a0
    go_wp2_with fail
    go_ret
    refine ⟨rfl, ?_⟩
    obtain ⟨Z4, Y4, a4, l4, m4, q1, q2, q3, q4⟩ := HA.out
    exact ⟨Z4, Y4, a4, l4, m4, q1, q2, by rw [q3, HQ.out.1]; exact HN.out, by have := HQ.out.2; omega⟩
  by_cases h4 : how = 4
  · subst h4
    clear h1 h2 h3
    go_enter Try.func10, Try.ntmps10
    go_wp2_with ((with_reducible show wpList _ _ _ ({ dst := _, op := .box 39 _, type := _, pos := _, after := _, guard := _ } :: _) _ _); refine wpL_box rfl _ _ rfl _ rfl [(.int .i64 4), (.int .i64 at_), (.int .i64 n), (.string txt), (.int .u32 (ae : Int)), (.int .u32 (al : Int)), .slice ka kl kc] rfl ?_; intro w1 HB1 F1 HS1; have H1 := hid (H.out.no F1.out); have x0 : w1.cell? ⟨bx, 0, none⟩ = some (pt bd) := H1.out.blk.cell 0; have x1 : w1.cell? ⟨bx, 1, none⟩ = some lv := H1.out.blk.cell 1; have x2 : w1.cell? ⟨bx, 2, none⟩ = some (pt be) := H1.out.blk.cell 2; have x3 : w1.cell? ⟨bx, 3, none⟩ = some mv := H1.out.blk.cell 3; have x4 : w1.cell? ⟨bx, 4, none⟩ = some (.int .i64 fs) := H1.out.blk.cell 4; have a0 : w1.cell? ⟨w.heap.size, 0, none⟩ = some (.int .i64 4) := HB1.out.cell 0; have a1 : w1.cell? ⟨w.heap.size, 1, none⟩ = some (.int .i64 at_) := HB1.out.cell 1; have a2 : w1.cell? ⟨w.heap.size, 2, none⟩ = some (.int .i64 n) := HB1.out.cell 2; have a3 : w1.cell? ⟨w.heap.size, 3, none⟩ = some (.string txt) := HB1.out.cell 3; have a4 : w1.cell? ⟨w.heap.size, 4, none⟩ = some (.int .u32 (ae : Int)) := HB1.out.cell 4; have a5 : w1.cell? ⟨w.heap.size, 5, none⟩ = some (.int .u32 (al : Int)) := HB1.out.cell 5; have a6 : w1.cell? ⟨w.heap.size, 6, none⟩ = some (.slice ka kl kc) := HB1.out.cell 6)
    have hold : Facts.hold [(3, fun w' => w'.cell? ⟨bx, 0, none⟩ = some (pt bd)), (5, fun w' => w'.cell? ⟨w.heap.size, 6, none⟩ = some (.slice ka kl kc))] w1.drew := Facts.cons_hold x0 (Facts.cons_hold a6 (Facts.nil_hold _))
    refine wpD_region hold (by kernel_rfl) 8 rfl ?_
    (refine wpD_plain 0 (v := ?_) rfl (by kernel_rfl) (by kernel_rfl) (by kernel_rfl) (fun _ _ _ h => h) (by rfl) ?_ (by assumption) ?_; rotate_left; (intro _w; go_simp; try with_reducible rfl); simp only [Act.put, List.setIfInBounds_toArray, List.set_cons_zero, List.set_cons_succ])
    (refine wpD_plain 1 (v := ?_) rfl (by kernel_rfl) (by kernel_rfl) (by kernel_rfl) (fun _ _ _ h => h) (by rfl) ?_ (by assumption) ?_; rotate_left; (intro _w; go_simp; try with_reducible rfl); simp only [Act.put, List.setIfInBounds_toArray, List.set_cons_zero, List.set_cons_succ])
    (refine wpD_plain 2 (v := ?_) rfl (by kernel_rfl) (by kernel_rfl) (by kernel_rfl) (fun _ _ _ h => h) (by rfl) ?_ (by assumption) ?_; rotate_left; (intro _w; go_simp; try with_reducible rfl); simp only [Act.put, List.setIfInBounds_toArray, List.set_cons_zero, List.set_cons_succ])
    (refine wpD_take 3 _ rfl (by kernel_rfl) (by kernel_rfl) (by kernel_rfl) (fun _ _ _ h => h) List.mem_cons_self (by rfl) (v := ?_) ?_ (by assumption) ?_; rotate_left; (intro _w _hw; go_simp; try with_reducible rfl); simp only [Act.put, List.setIfInBounds_toArray, List.set_cons_zero, List.set_cons_succ])
    (refine wpD_plain 4 (v := ?_) rfl (by kernel_rfl) (by kernel_rfl) (by kernel_rfl) (fun _ _ _ h => h) (by rfl) ?_ (by assumption) ?_; rotate_left; (intro _w; go_simp; try with_reducible rfl); simp only [Act.put, List.setIfInBounds_toArray, List.set_cons_zero, List.set_cons_succ])
    (refine wpD_take 5 _ rfl (by kernel_rfl) (by kernel_rfl) (by kernel_rfl) (fun _ _ _ h => h) (List.mem_cons_of_mem _ List.mem_cons_self) (by rfl) (v := ?_) ?_ (by assumption) ?_; rotate_left; (intro _w _hw; go_simp; try with_reducible rfl); simp only [Act.put, List.setIfInBounds_toArray, List.set_cons_zero, List.set_cons_succ])
    refine wpD_only 6 [] rfl (by kernel_rfl) (by kernel_rfl) (by rfl) (fun K6 hK6 => ?_)
    refine wp_call (.func 26) _ _ rfl 26 [] rfl hentCrashP [pt bd, .slice ka kl kc] (by rfl) ?_
    refine (dcrash_any (w := w1.drew) (.slice ka kl kc) keep (fun k => k < W.heap.size) (HX.out.k.fr (Fr.trans' (b := w1) (H1.out.fr) (Fr.refl No w1).drew) (fun _ _ _ e => e)) (fun k hk e => by have := H.out.zw k e; omega) (by have := HX.out.kl; simp only at this; omega) (D.Rep.no H1.out.d (Fr.refl No w1).drew)).mono ?_
    rintro e w2 ⟨rfl, t2, f2⟩
    have H2 := hid ((H1.out.no (Fr.refl No w1).drew).ofD t2 f2 (Grows.refl _ _) H1.out.zD)
    have F12 : Hid (Fr Z w1 w2) := hid (Fr.trans' (b := w1.drew) (Fr.refl Z w1).drew f2)
    have HB2 : Hid (Blk w2 w.heap.size 39 [(.int .i64 4), (.int .i64 at_), (.int .i64 n), (.string txt), (.int .u32 (ae : Int)), (.int .u32 (al : Int)), .slice ka kl kc]) := hid (HB1.out.fr F12.out (fun e => by have := H.out.d.lt _ e; omega))
    clear t2 f2 x0 x1 x2 x3 x4 a0 a1 a2 a3 a4 a5 a6
    refine ⟨_, rfl, ?_⟩
    refine hK6 _ _ (Facts.nil_hold _) ?_
    clear hK6 K6 hold
    simp only [Act.put, List.setIfInBounds_toArray, List.set_cons_zero, List.set_cons_succ]
    have hold : Facts.hold [] w2 := Facts.nil_hold _
    (refine wpD_plain 7 (v := ?_) rfl (by kernel_rfl) (by kernel_rfl) (by kernel_rfl) (fun _ _ _ h => h) (by rfl) ?_ (by assumption) ?_; rotate_left; (intro _w; go_simp; try with_reducible rfl); simp only [Act.put, List.setIfInBounds_toArray, List.set_cons_zero, List.set_cons_succ])
    clear hold
    refine wpD_done (by kernel_rfl) ?_ _
    try simp only [Act.put, List.setIfInBounds_toArray, List.set_cons_zero, List.set_cons_succ]
    have x0 : w2.cell? ⟨bx, 0, none⟩ = some (pt bd) := H2.out.blk.cell 0
    have x1 : w2.cell? ⟨bx, 1, none⟩ = some lv := H2.out.blk.cell 1
    have x2 : w2.cell? ⟨bx, 2, none⟩ = some (pt be) := H2.out.blk.cell 2
    have x3 : w2.cell? ⟨bx, 3, none⟩ = some mv := H2.out.blk.cell 3
    have x4 : w2.cell? ⟨bx, 4, none⟩ = some (.int .i64 fs) := H2.out.blk.cell 4
    have a0 : w2.cell? ⟨w.heap.size, 0, none⟩ = some (.int .i64 4) := HB2.out.cell 0
    have a1 : w2.cell? ⟨w.heap.size, 1, none⟩ = some (.int .i64 at_) := HB2.out.cell 1
    have a2 : w2.cell? ⟨w.heap.size, 2, none⟩ = some (.int .i64 n) := HB2.out.cell 2
    have a3 : w2.cell? ⟨w.heap.size, 3, none⟩ = some (.string txt) := HB2.out.cell 3
    have a4 : w2.cell? ⟨w.heap.size, 4, none⟩ = some (.int .u32 (ae : Int)) := HB2.out.cell 4
    have a5 : w2.cell? ⟨w.heap.size, 5, none⟩ = some (.int .u32 (al : Int)) := HB2.out.cell 5
    have a6 : w2.cell? ⟨w.heap.size, 6, none⟩ = some (.slice ka kl kc) := HB2.out.cell 6
    go_wp2_with fail
    have hold : Facts.hold [(3, fun w' => w'.cell? ⟨bx, 2, none⟩ = some (pt be)), (5, fun w' => w'.cell? ⟨w.heap.size, 6, none⟩ = some (.slice ka kl kc))] w2.drew := Facts.cons_hold x2 (Facts.cons_hold a6 (Facts.nil_hold _))
    refine wpD_region hold (by kernel_rfl) 8 rfl ?_
    (refine wpD_plain 0 (v := ?_) rfl (by kernel_rfl) (by kernel_rfl) (by kernel_rfl) (fun _ _ _ h => h) (by rfl) ?_ (by assumption) ?_; rotate_left; (intro _w; go_simp; try with_reducible rfl); simp only [Act.put, List.setIfInBounds_toArray, List.set_cons_zero, List.set_cons_succ])
    (refine wpD_plain 1 (v := ?_) rfl (by kernel_rfl) (by kernel_rfl) (by kernel_rfl) (fun _ _ _ h => h) (by rfl) ?_ (by assumption) ?_; rotate_left; (intro _w; go_simp; try with_reducible rfl); simp only [Act.put, List.setIfInBounds_toArray, List.set_cons_zero, List.set_cons_succ])
    (refine wpD_plain 2 (v := ?_) rfl (by kernel_rfl) (by kernel_rfl) (by kernel_rfl) (fun _ _ _ h => h) (by rfl) ?_ (by assumption) ?_; rotate_left; (intro _w; go_simp; try with_reducible rfl); simp only [Act.put, List.setIfInBounds_toArray, List.set_cons_zero, List.set_cons_succ])
    (refine wpD_take 3 _ rfl (by kernel_rfl) (by kernel_rfl) (by kernel_rfl) (fun _ _ _ h => h) List.mem_cons_self (by rfl) (v := ?_) ?_ (by assumption) ?_; rotate_left; (intro _w _hw; go_simp; try with_reducible rfl); simp only [Act.put, List.setIfInBounds_toArray, List.set_cons_zero, List.set_cons_succ])
    (refine wpD_plain 4 (v := ?_) rfl (by kernel_rfl) (by kernel_rfl) (by kernel_rfl) (fun _ _ _ h => h) (by rfl) ?_ (by assumption) ?_; rotate_left; (intro _w; go_simp; try with_reducible rfl); simp only [Act.put, List.setIfInBounds_toArray, List.set_cons_zero, List.set_cons_succ])
    (refine wpD_take 5 _ rfl (by kernel_rfl) (by kernel_rfl) (by kernel_rfl) (fun _ _ _ h => h) (List.mem_cons_of_mem _ List.mem_cons_self) (by rfl) (v := ?_) ?_ (by assumption) ?_; rotate_left; (intro _w _hw; go_simp; try with_reducible rfl); simp only [Act.put, List.setIfInBounds_toArray, List.set_cons_zero, List.set_cons_succ])
    refine wpD_only 6 [] rfl (by kernel_rfl) (by kernel_rfl) (by rfl) (fun K6 hK6 => ?_)
    refine wp_call (.func 33) _ _ rfl 33 [] rfl hentRCrashP [pt be, .slice ka kl kc] (by rfl) ?_
    refine (rcrash_any (w := w2.drew) (.slice ka kl kc) keep (fun k => k < W.heap.size) (HX.out.k.fr (Fr.trans' (b := w2) (H2.out.fr) (Fr.refl No w2).drew) (fun _ _ _ e => e)) (fun k hk e => by have := H.out.yw k e; omega) (by have := HX.out.kl; simp only at this; omega) (D.Rep.no H2.out.e (Fr.refl No w2).drew)).mono ?_
    rintro e w3 ⟨rfl, t3, f3⟩
    have H3 := hid ((H2.out.no (Fr.refl No w2).drew).ofE t3 f3 (Grows.refl _ _) H2.out.yD)
    have F23 : Hid (Fr Y w2 w3) := hid (Fr.trans' (b := w2.drew) (Fr.refl Y w2).drew f3)
    have HQ := hid (crash_len a keep)
    have HL3 : Hid ((lv = .pointer none ∧ mv = .pointer none) ∨ ∃ bg bm g, lv = pt bg ∧ mv = pt bm ∧ Dl W w3 bx bd be Z Y (a.crash keep).2 (a.crash keep).2 bg bm g g) := hid (HL.out.imp id (fun ⟨bg, bm, g, e1, e2, l⟩ => ⟨bg, bm, g, e1, e2, (((l.no F1.out).ofD F12.out (Grows.refl _ _) HQ.out.1).ofE F23.out (Grows.refl _ _) HQ.out.1)⟩))
    have HB3 : Hid (Blk w3 w.heap.size 39 [(.int .i64 4), (.int .i64 at_), (.int .i64 n), (.string txt), (.int .u32 (ae : Int)), (.int .u32 (al : Int)), .slice ka kl kc]) := hid (HB2.out.fr F23.out (fun e => by have := H.out.e.lt _ e; omega))
    clear t3 f3 x0 x1 x2 x3 x4 a0 a1 a2 a3 a4 a5 a6
    refine ⟨_, rfl, ?_⟩
    refine hK6 _ _ (Facts.nil_hold _) ?_
    clear hK6 K6 hold
    simp only [Act.put, List.setIfInBounds_toArray, List.set_cons_zero, List.set_cons_succ]
    have hold : Facts.hold [] w3 := Facts.nil_hold _
    (refine wpD_plain 7 (v := ?_) rfl (by kernel_rfl) (by kernel_rfl) (by kernel_rfl) (fun _ _ _ h => h) (by rfl) ?_ (by assumption) ?_; rotate_left; (intro _w; go_simp; try with_reducible rfl); simp only [Act.put, List.setIfInBounds_toArray, List.set_cons_zero, List.set_cons_succ])
    clear hold
    refine wpD_done (by kernel_rfl) ?_ _
    try simp only [Act.put, List.setIfInBounds_toArray, List.set_cons_zero, List.set_cons_succ]
    have a0 : w3.cell? ⟨w.heap.size, 0, none⟩ = some (.int .i64 4) := HB3.out.cell 0
    go_wp2_with fail
    go_ret
    exact ⟨by simp, Z, Y, _, _, _, H3.out, HL3.out, by rw [HQ.out.1]; exact HN.out, by have := HQ.out.2; omega⟩
  by_cases h5 : how = 5
  · subst h5
    clear h1 h2 h3 h4
    go_enter Try.func10, Try.ntmps10
    go_wp2_with ((with_reducible show wpList _ _ _ ({ dst := _, op := .box 39 _, type := _, pos := _, after := _, guard := _ } :: _) _ _); refine wpL_box rfl _ _ rfl _ rfl [(.int .i64 5), (.int .i64 at_), (.int .i64 n), (.string txt), (.int .u32 (ae : Int)), (.int .u32 (al : Int)), .slice ka kl kc] rfl ?_; intro w1 HB1 F1 HS1; have H1 := hid (H.out.no F1.out); have x0 : w1.cell? ⟨bx, 0, none⟩ = some (pt bd) := H1.out.blk.cell 0; have x1 : w1.cell? ⟨bx, 1, none⟩ = some lv := H1.out.blk.cell 1; have x2 : w1.cell? ⟨bx, 2, none⟩ = some (pt be) := H1.out.blk.cell 2; have x3 : w1.cell? ⟨bx, 3, none⟩ = some mv := H1.out.blk.cell 3; have x4 : w1.cell? ⟨bx, 4, none⟩ = some (.int .i64 fs) := H1.out.blk.cell 4; have a0 : w1.cell? ⟨w.heap.size, 0, none⟩ = some (.int .i64 5) := HB1.out.cell 0; have a1 : w1.cell? ⟨w.heap.size, 1, none⟩ = some (.int .i64 at_) := HB1.out.cell 1; have a2 : w1.cell? ⟨w.heap.size, 2, none⟩ = some (.int .i64 n) := HB1.out.cell 2; have a3 : w1.cell? ⟨w.heap.size, 3, none⟩ = some (.string txt) := HB1.out.cell 3; have a4 : w1.cell? ⟨w.heap.size, 4, none⟩ = some (.int .u32 (ae : Int)) := HB1.out.cell 4; have a5 : w1.cell? ⟨w.heap.size, 5, none⟩ = some (.int .u32 (al : Int)) := HB1.out.cell 5; have a6 : w1.cell? ⟨w.heap.size, 6, none⟩ = some (.slice ka kl kc) := HB1.out.cell 6)
    have hold : Facts.hold [(3, fun w' => w'.cell? ⟨bx, 0, none⟩ = some (pt bd)), (5, fun w' => w'.cell? ⟨w.heap.size, 2, none⟩ = some (.int .i64 n))] w1.drew := Facts.cons_hold x0 (Facts.cons_hold a2 (Facts.nil_hold _))
    refine wpD_region hold (by kernel_rfl) 8 rfl ?_
    (refine wpD_plain 0 (v := ?_) rfl (by kernel_rfl) (by kernel_rfl) (by kernel_rfl) (fun _ _ _ h => h) (by rfl) ?_ (by assumption) ?_; rotate_left; (intro _w; go_simp; try with_reducible rfl); simp only [Act.put, List.setIfInBounds_toArray, List.set_cons_zero, List.set_cons_succ])
    (refine wpD_plain 1 (v := ?_) rfl (by kernel_rfl) (by kernel_rfl) (by kernel_rfl) (fun _ _ _ h => h) (by rfl) ?_ (by assumption) ?_; rotate_left; (intro _w; go_simp; try with_reducible rfl); simp only [Act.put, List.setIfInBounds_toArray, List.set_cons_zero, List.set_cons_succ])
    (refine wpD_plain 2 (v := ?_) rfl (by kernel_rfl) (by kernel_rfl) (by kernel_rfl) (fun _ _ _ h => h) (by rfl) ?_ (by assumption) ?_; rotate_left; (intro _w; go_simp; try with_reducible rfl); simp only [Act.put, List.setIfInBounds_toArray, List.set_cons_zero, List.set_cons_succ])
    (refine wpD_take 3 _ rfl (by kernel_rfl) (by kernel_rfl) (by kernel_rfl) (fun _ _ _ h => h) List.mem_cons_self (by rfl) (v := ?_) ?_ (by assumption) ?_; rotate_left; (intro _w _hw; go_simp; try with_reducible rfl); simp only [Act.put, List.setIfInBounds_toArray, List.set_cons_zero, List.set_cons_succ])
    (refine wpD_plain 4 (v := ?_) rfl (by kernel_rfl) (by kernel_rfl) (by kernel_rfl) (fun _ _ _ h => h) (by rfl) ?_ (by assumption) ?_; rotate_left; (intro _w; go_simp; try with_reducible rfl); simp only [Act.put, List.setIfInBounds_toArray, List.set_cons_zero, List.set_cons_succ])
    (refine wpD_take 5 _ rfl (by kernel_rfl) (by kernel_rfl) (by kernel_rfl) (fun _ _ _ h => h) (List.mem_cons_of_mem _ List.mem_cons_self) (by rfl) (v := ?_) ?_ (by assumption) ?_; rotate_left; (intro _w _hw; go_simp; try with_reducible rfl); simp only [Act.put, List.setIfInBounds_toArray, List.set_cons_zero, List.set_cons_succ])
    refine wpD_only 6 [] rfl (by kernel_rfl) (by kernel_rfl) (by rfl) (fun K6 hK6 => ?_)
    refine wp_call (.func 34) _ _ rfl 34 [] rfl hentArmP [pt bd, .int .i64 n] (by rfl) ?_
    refine (darm_any (w := w1.drew) n HX.out.n1 (D.Rep.no H1.out.d (Fr.refl No w1).drew)).mono ?_
    rintro e w2 ⟨rfl, t2, f2⟩
    have H2 := hid ((H1.out.no (Fr.refl No w1).drew).ofD t2 f2 (Grows.refl _ _) H1.out.zD)
    have F12 : Hid (Fr Z w1 w2) := hid (Fr.trans' (b := w1.drew) (Fr.refl Z w1).drew f2)
    have HB2 : Hid (Blk w2 w.heap.size 39 [(.int .i64 5), (.int .i64 at_), (.int .i64 n), (.string txt), (.int .u32 (ae : Int)), (.int .u32 (al : Int)), .slice ka kl kc]) := hid (HB1.out.fr F12.out (fun e => by have := H.out.d.lt _ e; omega))
    clear t2 f2 x0 x1 x2 x3 x4 a0 a1 a2 a3 a4 a5 a6
    refine ⟨_, rfl, ?_⟩
    refine hK6 _ _ (Facts.nil_hold _) ?_
    clear hK6 K6 hold
    simp only [Act.put, List.setIfInBounds_toArray, List.set_cons_zero, List.set_cons_succ]
    have hold : Facts.hold [] w2 := Facts.nil_hold _
    (refine wpD_plain 7 (v := ?_) rfl (by kernel_rfl) (by kernel_rfl) (by kernel_rfl) (fun _ _ _ h => h) (by rfl) ?_ (by assumption) ?_; rotate_left; (intro _w; go_simp; try with_reducible rfl); simp only [Act.put, List.setIfInBounds_toArray, List.set_cons_zero, List.set_cons_succ])
    clear hold
    refine wpD_done (by kernel_rfl) ?_ _
    try simp only [Act.put, List.setIfInBounds_toArray, List.set_cons_zero, List.set_cons_succ]
    have x0 : w2.cell? ⟨bx, 0, none⟩ = some (pt bd) := H2.out.blk.cell 0
    have x1 : w2.cell? ⟨bx, 1, none⟩ = some lv := H2.out.blk.cell 1
    have x2 : w2.cell? ⟨bx, 2, none⟩ = some (pt be) := H2.out.blk.cell 2
    have x3 : w2.cell? ⟨bx, 3, none⟩ = some mv := H2.out.blk.cell 3
    have x4 : w2.cell? ⟨bx, 4, none⟩ = some (.int .i64 fs) := H2.out.blk.cell 4
    have a0 : w2.cell? ⟨w.heap.size, 0, none⟩ = some (.int .i64 5) := HB2.out.cell 0
    have a1 : w2.cell? ⟨w.heap.size, 1, none⟩ = some (.int .i64 at_) := HB2.out.cell 1
    have a2 : w2.cell? ⟨w.heap.size, 2, none⟩ = some (.int .i64 n) := HB2.out.cell 2
    have a3 : w2.cell? ⟨w.heap.size, 3, none⟩ = some (.string txt) := HB2.out.cell 3
    have a4 : w2.cell? ⟨w.heap.size, 4, none⟩ = some (.int .u32 (ae : Int)) := HB2.out.cell 4
    have a5 : w2.cell? ⟨w.heap.size, 5, none⟩ = some (.int .u32 (al : Int)) := HB2.out.cell 5
    have a6 : w2.cell? ⟨w.heap.size, 6, none⟩ = some (.slice ka kl kc) := HB2.out.cell 6
    go_wp2_with fail
    have hold : Facts.hold [(3, fun w' => w'.cell? ⟨bx, 2, none⟩ = some (pt be)), (5, fun w' => w'.cell? ⟨w.heap.size, 2, none⟩ = some (.int .i64 n))] w2.drew := Facts.cons_hold x2 (Facts.cons_hold a2 (Facts.nil_hold _))
    refine wpD_region hold (by kernel_rfl) 8 rfl ?_
    (refine wpD_plain 0 (v := ?_) rfl (by kernel_rfl) (by kernel_rfl) (by kernel_rfl) (fun _ _ _ h => h) (by rfl) ?_ (by assumption) ?_; rotate_left; (intro _w; go_simp; try with_reducible rfl); simp only [Act.put, List.setIfInBounds_toArray, List.set_cons_zero, List.set_cons_succ])
    (refine wpD_plain 1 (v := ?_) rfl (by kernel_rfl) (by kernel_rfl) (by kernel_rfl) (fun _ _ _ h => h) (by rfl) ?_ (by assumption) ?_; rotate_left; (intro _w; go_simp; try with_reducible rfl); simp only [Act.put, List.setIfInBounds_toArray, List.set_cons_zero, List.set_cons_succ])
    (refine wpD_plain 2 (v := ?_) rfl (by kernel_rfl) (by kernel_rfl) (by kernel_rfl) (fun _ _ _ h => h) (by rfl) ?_ (by assumption) ?_; rotate_left; (intro _w; go_simp; try with_reducible rfl); simp only [Act.put, List.setIfInBounds_toArray, List.set_cons_zero, List.set_cons_succ])
    (refine wpD_take 3 _ rfl (by kernel_rfl) (by kernel_rfl) (by kernel_rfl) (fun _ _ _ h => h) List.mem_cons_self (by rfl) (v := ?_) ?_ (by assumption) ?_; rotate_left; (intro _w _hw; go_simp; try with_reducible rfl); simp only [Act.put, List.setIfInBounds_toArray, List.set_cons_zero, List.set_cons_succ])
    (refine wpD_plain 4 (v := ?_) rfl (by kernel_rfl) (by kernel_rfl) (by kernel_rfl) (fun _ _ _ h => h) (by rfl) ?_ (by assumption) ?_; rotate_left; (intro _w; go_simp; try with_reducible rfl); simp only [Act.put, List.setIfInBounds_toArray, List.set_cons_zero, List.set_cons_succ])
    (refine wpD_take 5 _ rfl (by kernel_rfl) (by kernel_rfl) (by kernel_rfl) (fun _ _ _ h => h) (List.mem_cons_of_mem _ List.mem_cons_self) (by rfl) (v := ?_) ?_ (by assumption) ?_; rotate_left; (intro _w _hw; go_simp; try with_reducible rfl); simp only [Act.put, List.setIfInBounds_toArray, List.set_cons_zero, List.set_cons_succ])
    refine wpD_only 6 [] rfl (by kernel_rfl) (by kernel_rfl) (by rfl) (fun K6 hK6 => ?_)
    refine wp_call (.func 35) _ _ rfl 35 [] rfl hentRArmP [pt be, .int .i64 n] (by rfl) ?_
    refine (rarm_any (w := w2.drew) n HX.out.n1 (D.Rep.no H2.out.e (Fr.refl No w2).drew)).mono ?_
    rintro e w3 ⟨rfl, t3, f3⟩
    have H3 := hid ((H2.out.no (Fr.refl No w2).drew).ofE t3 f3 (Grows.refl _ _) H2.out.yD)
    have F23 : Hid (Fr Y w2 w3) := hid (Fr.trans' (b := w2.drew) (Fr.refl Y w2).drew f3)
    have HQ := hid (arm_len a n)
    have HL3 : Hid ((lv = .pointer none ∧ mv = .pointer none) ∨ ∃ bg bm g, lv = pt bg ∧ mv = pt bm ∧ Dl W w3 bx bd be Z Y (a.arm n).2 (a.arm n).2 bg bm g g) := hid (HL.out.imp id (fun ⟨bg, bm, g, e1, e2, l⟩ => ⟨bg, bm, g, e1, e2, (((l.no F1.out).ofD F12.out (Grows.refl _ _) HQ.out.1).ofE F23.out (Grows.refl _ _) HQ.out.1)⟩))
    clear t3 f3 x0 x1 x2 x3 x4 a0 a1 a2 a3 a4 a5 a6
    refine ⟨_, rfl, ?_⟩
    refine hK6 _ _ (Facts.nil_hold _) ?_
    clear hK6 K6 hold
    simp only [Act.put, List.setIfInBounds_toArray, List.set_cons_zero, List.set_cons_succ]
    have hold : Facts.hold [] w3 := Facts.nil_hold _
    (refine wpD_plain 7 (v := ?_) rfl (by kernel_rfl) (by kernel_rfl) (by kernel_rfl) (fun _ _ _ h => h) (by rfl) ?_ (by assumption) ?_; rotate_left; (intro _w; go_simp; try with_reducible rfl); simp only [Act.put, List.setIfInBounds_toArray, List.set_cons_zero, List.set_cons_succ])
    clear hold
    refine wpD_done (by kernel_rfl) ?_ _
    try simp only [Act.put, List.setIfInBounds_toArray, List.set_cons_zero, List.set_cons_succ]
    go_wp2_with fail
    go_ret
    exact ⟨by simp, Z, Y, _, _, _, H3.out, HL3.out, by rw [HQ.out.1]; exact HN.out, by have := HQ.out.2; have := HP.out; omega⟩
  by_cases h6 : how = 6
  · subst h6
    clear h1 h2 h3 h4 h5
    go_enter Try.func10, Try.ntmps10
    go_wp2_with ((with_reducible show wpList _ _ _ ({ dst := _, op := .box 39 _, type := _, pos := _, after := _, guard := _ } :: _) _ _); refine wpL_box rfl _ _ rfl _ rfl [(.int .i64 6), (.int .i64 at_), (.int .i64 n), (.string txt), (.int .u32 (ae : Int)), (.int .u32 (al : Int)), .slice ka kl kc] rfl ?_; intro w1 HB1 F1 HS1; have H1 := hid (H.out.no F1.out); have x0 : w1.cell? ⟨bx, 0, none⟩ = some (pt bd) := H1.out.blk.cell 0; have x1 : w1.cell? ⟨bx, 1, none⟩ = some lv := H1.out.blk.cell 1; have x2 : w1.cell? ⟨bx, 2, none⟩ = some (pt be) := H1.out.blk.cell 2; have x3 : w1.cell? ⟨bx, 3, none⟩ = some mv := H1.out.blk.cell 3; have x4 : w1.cell? ⟨bx, 4, none⟩ = some (.int .i64 fs) := H1.out.blk.cell 4; have a0 : w1.cell? ⟨w.heap.size, 0, none⟩ = some (.int .i64 6) := HB1.out.cell 0; have a1 : w1.cell? ⟨w.heap.size, 1, none⟩ = some (.int .i64 at_) := HB1.out.cell 1; have a2 : w1.cell? ⟨w.heap.size, 2, none⟩ = some (.int .i64 n) := HB1.out.cell 2; have a3 : w1.cell? ⟨w.heap.size, 3, none⟩ = some (.string txt) := HB1.out.cell 3; have a4 : w1.cell? ⟨w.heap.size, 4, none⟩ = some (.int .u32 (ae : Int)) := HB1.out.cell 4; have a5 : w1.cell? ⟨w.heap.size, 5, none⟩ = some (.int .u32 (al : Int)) := HB1.out.cell 5; have a6 : w1.cell? ⟨w.heap.size, 6, none⟩ = some (.slice ka kl kc) := HB1.out.cell 6)
    have hold : Facts.hold [(3, fun w' => w'.cell? ⟨bx, 0, none⟩ = some (pt bd)), (5, fun w' => w'.cell? ⟨w.heap.size, 1, none⟩ = some (.int .i64 at_)), (7, fun w' => w'.cell? ⟨w.heap.size, 3, none⟩ = some (.string txt))] w1.drew := Facts.cons_hold x0 (Facts.cons_hold a1 (Facts.cons_hold a3 (Facts.nil_hold _)))
    refine wpD_region hold (by kernel_rfl) 11 rfl ?_
    (refine wpD_plain 0 (v := ?_) rfl (by kernel_rfl) (by kernel_rfl) (by kernel_rfl) (fun _ _ _ h => h) (by rfl) ?_ (by assumption) ?_; rotate_left; (intro _w; go_simp; try with_reducible rfl); simp only [Act.put, List.setIfInBounds_toArray, List.set_cons_zero, List.set_cons_succ])
    (refine wpD_plain 1 (v := ?_) rfl (by kernel_rfl) (by kernel_rfl) (by kernel_rfl) (fun _ _ _ h => h) (by rfl) ?_ (by assumption) ?_; rotate_left; (intro _w; go_simp; try with_reducible rfl); simp only [Act.put, List.setIfInBounds_toArray, List.set_cons_zero, List.set_cons_succ])
    (refine wpD_plain 2 (v := ?_) rfl (by kernel_rfl) (by kernel_rfl) (by kernel_rfl) (fun _ _ _ h => h) (by rfl) ?_ (by assumption) ?_; rotate_left; (intro _w; go_simp; try with_reducible rfl); simp only [Act.put, List.setIfInBounds_toArray, List.set_cons_zero, List.set_cons_succ])
    (refine wpD_take 3 _ rfl (by kernel_rfl) (by kernel_rfl) (by kernel_rfl) (fun _ _ _ h => h) List.mem_cons_self (by rfl) (v := ?_) ?_ (by assumption) ?_; rotate_left; (intro _w _hw; go_simp; try with_reducible rfl); simp only [Act.put, List.setIfInBounds_toArray, List.set_cons_zero, List.set_cons_succ])
    (refine wpD_plain 4 (v := ?_) rfl (by kernel_rfl) (by kernel_rfl) (by kernel_rfl) (fun _ _ _ h => h) (by rfl) ?_ (by assumption) ?_; rotate_left; (intro _w; go_simp; try with_reducible rfl); simp only [Act.put, List.setIfInBounds_toArray, List.set_cons_zero, List.set_cons_succ])
    (refine wpD_take 5 _ rfl (by kernel_rfl) (by kernel_rfl) (by kernel_rfl) (fun _ _ _ h => h) (List.mem_cons_of_mem _ List.mem_cons_self) (by rfl) (v := ?_) ?_ (by assumption) ?_; rotate_left; (intro _w _hw; go_simp; try with_reducible rfl); simp only [Act.put, List.setIfInBounds_toArray, List.set_cons_zero, List.set_cons_succ])
    (refine wpD_plain 6 (v := ?_) rfl (by kernel_rfl) (by kernel_rfl) (by kernel_rfl) (fun _ _ _ h => h) (by rfl) ?_ (by assumption) ?_; rotate_left; (intro _w; go_simp; try with_reducible rfl); simp only [Act.put, List.setIfInBounds_toArray, List.set_cons_zero, List.set_cons_succ])
    (refine wpD_take 7 _ rfl (by kernel_rfl) (by kernel_rfl) (by kernel_rfl) (fun _ _ _ h => h) (List.mem_cons_of_mem _ (List.mem_cons_of_mem _ List.mem_cons_self)) (by rfl) (v := ?_) ?_ (by assumption) ?_; rotate_left; (intro _w _hw; go_simp; try with_reducible rfl); simp only [Act.put, List.setIfInBounds_toArray, List.set_cons_zero, List.set_cons_succ])
    refine wpD_only 8 [(3, fun w' => w'.cell? ⟨bx, 0, none⟩ = some (pt bd)), (5, fun w' => w'.cell? ⟨w.heap.size, 1, none⟩ = some (.int .i64 at_))] rfl (by kernel_rfl) (by kernel_rfl) (by rfl) (fun K8 hK8 => ?_)
    refine wp_bytesOf _ _ 5 _ rfl txt rfl Try.underlying9 Try.underlying66 Try.underlying5 ?_
    intro c8 w8 HB8 HF8
    have HF8' : Hid (Fr No w1 w8) := hid (Fr.trans' (b := w1.drew) (Fr.refl No w1).drew HF8.out)
    have x0' : w8.cell? ⟨bx, 0, none⟩ = some (pt bd) := HF8'.out.cell x0 id
    have a1' : w8.cell? ⟨w.heap.size, 1, none⟩ = some (.int .i64 at_) := HF8'.out.cell a1 id
    have hold : Facts.hold [(3, fun w' => w'.cell? ⟨bx, 0, none⟩ = some (pt bd)), (5, fun w' => w'.cell? ⟨w.heap.size, 1, none⟩ = some (.int .i64 at_))] w8 := Facts.cons_hold x0' (Facts.cons_hold a1' (Facts.nil_hold _))
    refine hK8 _ _ hold ?_
    clear hK8 K8
    simp only [Act.put, List.setIfInBounds_toArray, List.set_cons_zero, List.set_cons_succ]
    refine wpD_only 9 [] rfl (by kernel_rfl) (by kernel_rfl) (by rfl) (fun K9 hK9 => ?_)
    refine wp_call (.func 36) _ _ rfl 36 [] rfl hentWriteP [pt bd, .int .i64 at_, .slice (some ⟨w1.drew.heap.size, 0, none⟩) txt.size c8] (by rfl) ?_
    have H8 := hid (H1.out.no HF8'.out)
    refine (dwrite_any at_ _ _ _ HB8.out (fun k hk e => by have h1 := H.out.d.lt k e; have h2 := F1.out.size; have h3 : w1.heap.size ≤ k := hk; omega) H8.out.d (by have := HP.out; have := HM.out; omega)).mono ?_
    rintro e w2 ⟨rfl, Z2, t2, f2, g2⟩
    have H2 := hid (H8.out.ofD t2 f2 g2 H8.out.zD)
    have HB2 : Hid (Blk w2 w.heap.size 39 [(.int .i64 6), (.int .i64 at_), (.int .i64 n), (.string txt), (.int .u32 (ae : Int)), (.int .u32 (al : Int)), .slice ka kl kc]) := hid ((HB1.out.fr HF8'.out id).fr f2 (fun e => by have := H.out.d.lt _ e; omega))
    have F82 := hid f2; have G82 := hid g2
    have HF18 := HF8'
    clear t2 f2 g2 x0' a1' HF8 HF8' x0 x1 x2 x3 x4 a0 a1 a2 a3 a4 a5 a6
    refine ⟨_, rfl, ?_⟩
    refine hK9 _ _ (Facts.nil_hold _) ?_
    clear hK9 K9 hold
    simp only [Act.put, List.setIfInBounds_toArray, List.set_cons_zero, List.set_cons_succ]
    have hold : Facts.hold [] w2 := Facts.nil_hold _
    (refine wpD_plain 10 (v := ?_) rfl (by kernel_rfl) (by kernel_rfl) (by kernel_rfl) (fun _ _ _ h => h) (by rfl) ?_ (by assumption) ?_; rotate_left; (intro _w; go_simp; try with_reducible rfl); simp only [Act.put, List.setIfInBounds_toArray, List.set_cons_zero, List.set_cons_succ])
    clear hold
    refine wpD_done (by kernel_rfl) ?_ _
    try simp only [Act.put, List.setIfInBounds_toArray, List.set_cons_zero, List.set_cons_succ]
    have x0 : w2.cell? ⟨bx, 0, none⟩ = some (pt bd) := H2.out.blk.cell 0
    have x1 : w2.cell? ⟨bx, 1, none⟩ = some lv := H2.out.blk.cell 1
    have x2 : w2.cell? ⟨bx, 2, none⟩ = some (pt be) := H2.out.blk.cell 2
    have x3 : w2.cell? ⟨bx, 3, none⟩ = some mv := H2.out.blk.cell 3
    have x4 : w2.cell? ⟨bx, 4, none⟩ = some (.int .i64 fs) := H2.out.blk.cell 4
    have a0 : w2.cell? ⟨w.heap.size, 0, none⟩ = some (.int .i64 6) := HB2.out.cell 0
    have a1 : w2.cell? ⟨w.heap.size, 1, none⟩ = some (.int .i64 at_) := HB2.out.cell 1
    have a2 : w2.cell? ⟨w.heap.size, 2, none⟩ = some (.int .i64 n) := HB2.out.cell 2
    have a3 : w2.cell? ⟨w.heap.size, 3, none⟩ = some (.string txt) := HB2.out.cell 3
    have a4 : w2.cell? ⟨w.heap.size, 4, none⟩ = some (.int .u32 (ae : Int)) := HB2.out.cell 4
    have a5 : w2.cell? ⟨w.heap.size, 5, none⟩ = some (.int .u32 (al : Int)) := HB2.out.cell 5
    have a6 : w2.cell? ⟨w.heap.size, 6, none⟩ = some (.slice ka kl kc) := HB2.out.cell 6
    go_wp2_with fail
    have hold : Facts.hold [(3, fun w' => w'.cell? ⟨bx, 2, none⟩ = some (pt be)), (5, fun w' => w'.cell? ⟨w.heap.size, 1, none⟩ = some (.int .i64 at_)), (7, fun w' => w'.cell? ⟨w.heap.size, 3, none⟩ = some (.string txt))] w2.drew := Facts.cons_hold x2 (Facts.cons_hold a1 (Facts.cons_hold a3 (Facts.nil_hold _)))
    refine wpD_region hold (by kernel_rfl) 11 rfl ?_
    (refine wpD_plain 0 (v := ?_) rfl (by kernel_rfl) (by kernel_rfl) (by kernel_rfl) (fun _ _ _ h => h) (by rfl) ?_ (by assumption) ?_; rotate_left; (intro _w; go_simp; try with_reducible rfl); simp only [Act.put, List.setIfInBounds_toArray, List.set_cons_zero, List.set_cons_succ])
    (refine wpD_plain 1 (v := ?_) rfl (by kernel_rfl) (by kernel_rfl) (by kernel_rfl) (fun _ _ _ h => h) (by rfl) ?_ (by assumption) ?_; rotate_left; (intro _w; go_simp; try with_reducible rfl); simp only [Act.put, List.setIfInBounds_toArray, List.set_cons_zero, List.set_cons_succ])
    (refine wpD_plain 2 (v := ?_) rfl (by kernel_rfl) (by kernel_rfl) (by kernel_rfl) (fun _ _ _ h => h) (by rfl) ?_ (by assumption) ?_; rotate_left; (intro _w; go_simp; try with_reducible rfl); simp only [Act.put, List.setIfInBounds_toArray, List.set_cons_zero, List.set_cons_succ])
    (refine wpD_take 3 _ rfl (by kernel_rfl) (by kernel_rfl) (by kernel_rfl) (fun _ _ _ h => h) List.mem_cons_self (by rfl) (v := ?_) ?_ (by assumption) ?_; rotate_left; (intro _w _hw; go_simp; try with_reducible rfl); simp only [Act.put, List.setIfInBounds_toArray, List.set_cons_zero, List.set_cons_succ])
    (refine wpD_plain 4 (v := ?_) rfl (by kernel_rfl) (by kernel_rfl) (by kernel_rfl) (fun _ _ _ h => h) (by rfl) ?_ (by assumption) ?_; rotate_left; (intro _w; go_simp; try with_reducible rfl); simp only [Act.put, List.setIfInBounds_toArray, List.set_cons_zero, List.set_cons_succ])
    (refine wpD_take 5 _ rfl (by kernel_rfl) (by kernel_rfl) (by kernel_rfl) (fun _ _ _ h => h) (List.mem_cons_of_mem _ List.mem_cons_self) (by rfl) (v := ?_) ?_ (by assumption) ?_; rotate_left; (intro _w _hw; go_simp; try with_reducible rfl); simp only [Act.put, List.setIfInBounds_toArray, List.set_cons_zero, List.set_cons_succ])
    (refine wpD_plain 6 (v := ?_) rfl (by kernel_rfl) (by kernel_rfl) (by kernel_rfl) (fun _ _ _ h => h) (by rfl) ?_ (by assumption) ?_; rotate_left; (intro _w; go_simp; try with_reducible rfl); simp only [Act.put, List.setIfInBounds_toArray, List.set_cons_zero, List.set_cons_succ])
    (refine wpD_take 7 _ rfl (by kernel_rfl) (by kernel_rfl) (by kernel_rfl) (fun _ _ _ h => h) (List.mem_cons_of_mem _ (List.mem_cons_of_mem _ List.mem_cons_self)) (by rfl) (v := ?_) ?_ (by assumption) ?_; rotate_left; (intro _w _hw; go_simp; try with_reducible rfl); simp only [Act.put, List.setIfInBounds_toArray, List.set_cons_zero, List.set_cons_succ])
    refine wpD_only 8 [(3, fun w' => w'.cell? ⟨bx, 2, none⟩ = some (pt be)), (5, fun w' => w'.cell? ⟨w.heap.size, 1, none⟩ = some (.int .i64 at_))] rfl (by kernel_rfl) (by kernel_rfl) (by rfl) (fun K8 hK8 => ?_)
    refine wp_bytesOf _ _ 5 _ rfl txt rfl Try.underlying9 Try.underlying66 Try.underlying5 ?_
    intro c9 w9 HB9 HF9
    have HF9' : Hid (Fr No w2 w9) := hid (Fr.trans' (b := w2.drew) (Fr.refl No w2).drew HF9.out)
    have x2' : w9.cell? ⟨bx, 2, none⟩ = some (pt be) := HF9'.out.cell x2 id
    have a1' : w9.cell? ⟨w.heap.size, 1, none⟩ = some (.int .i64 at_) := HF9'.out.cell a1 id
    have hold : Facts.hold [(3, fun w' => w'.cell? ⟨bx, 2, none⟩ = some (pt be)), (5, fun w' => w'.cell? ⟨w.heap.size, 1, none⟩ = some (.int .i64 at_))] w9 := Facts.cons_hold x2' (Facts.cons_hold a1' (Facts.nil_hold _))
    refine hK8 _ _ hold ?_
    clear hK8 K8
    simp only [Act.put, List.setIfInBounds_toArray, List.set_cons_zero, List.set_cons_succ]
    refine wpD_only 9 [] rfl (by kernel_rfl) (by kernel_rfl) (by rfl) (fun K9 hK9 => ?_)
    refine wp_call (.func 37) _ _ rfl 37 [] rfl hentRWriteP [pt be, .int .i64 at_, .slice (some ⟨w2.drew.heap.size, 0, none⟩) txt.size c9] (by rfl) ?_
    have H9' := hid (H2.out.no HF9'.out)
    refine (rwrite_any at_ _ _ _ HB9.out (fun k hk e => by have h1 := H2.out.e.lt k e; have h3 : w2.heap.size ≤ k := hk; omega) H9'.out.e (by have := HP.out; have := HM.out; omega)).mono ?_
    rintro e w3 ⟨rfl, Y3, t3, f3, g3⟩
    have H3 := hid (H9'.out.ofE t3 f3 g3 H9'.out.yD)
    have F93 := hid f3; have G93 := hid g3
    have HF29 := HF9'
    have HQL := hid (write_L a at_ txt.data.toList); have HQP := hid (write_P a at_ txt.data.toList)
    have HL3 : Hid ((lv = .pointer none ∧ mv = .pointer none) ∨ ∃ bg bm g, lv = pt bg ∧ mv = pt bm ∧ Dl W w3 bx bd be Z2 Y3 (a.write at_ txt.data.toList).2 (a.write at_ txt.data.toList).2 bg bm g g) := hid (HL.out.imp id (fun ⟨bg, bm, g, e1, e2, l⟩ => ⟨bg, bm, g, e1, e2, (((((l.no F1.out).no HF18.out).ofD F82.out G82.out (congrArg List.length HQL.out)).no HF29.out).ofE F93.out G93.out (congrArg List.length HQL.out))⟩))
    clear t3 f3 g3 x2' a1' HF9 HF9' x0 x1 x2 x3 x4 a0 a1 a2 a3 a4 a5 a6
    refine ⟨_, rfl, ?_⟩
    refine hK9 _ _ (Facts.nil_hold _) ?_
    clear hK9 K9 hold
    simp only [Act.put, List.setIfInBounds_toArray, List.set_cons_zero, List.set_cons_succ]
    have hold : Facts.hold [] w3 := Facts.nil_hold _
    (refine wpD_plain 10 (v := ?_) rfl (by kernel_rfl) (by kernel_rfl) (by kernel_rfl) (fun _ _ _ h => h) (by rfl) ?_ (by assumption) ?_; rotate_left; (intro _w; go_simp; try with_reducible rfl); simp only [Act.put, List.setIfInBounds_toArray, List.set_cons_zero, List.set_cons_succ])
    clear hold
    refine wpD_done (by kernel_rfl) ?_ _
    try simp only [Act.put, List.setIfInBounds_toArray, List.set_cons_zero, List.set_cons_succ]
    go_wp2_with fail
    go_ret
    exact ⟨by simp, Z2, Y3, _, _, _, H3.out, HL3.out, by rw [HQL.out]; exact HN.out, by have := HQP.out; have := HP.out; omega⟩
  by_cases h7 : how = 7
  · subst h7
    clear h1 h2 h3 h4 h5 h6
    obtain ⟨m7, hm7⟩ : ∃ m : Nat, m = at_.toNat % 4096 := ⟨_, rfl⟩
    have WM : Hid (at_ % 4096 = (m7 : Int)) := hid (by have := HAT.out; simp only at this; omega)
    have WT : Hid (at_.tmod 4096 = (m7 : Int)) := hid (by rw [Int.tmod_eq_emod_of_nonneg (by have := HAT.out; simpa using this)]; exact WM.out)
    have HM7 : Hid (m7 < 4096) := hid (by omega)
    obtain ⟨mn, hmn⟩ : ∃ m : Nat, m = min txt.size 48 := ⟨_, rfl⟩
    have HMN := hid hmn
    obtain ⟨sl, hsl⟩ : ∃ s : ByteArray, s = txt.extract 0 mn := ⟨_, rfl⟩
    have HMT : Hid (mn ≤ txt.size) := hid (by omega)
    have HSLE : Hid (txt.extract 0 mn = sl) := hid hsl.symm
    have HBL : Hid (sl.data.toList.length ≤ 48) := hid (by rw [hsl]; simp; omega)
    obtain ⟨q, hq⟩ : ∃ q : Int, q = fs + (m7 : Int) := ⟨_, rfl⟩
    have WQ : Hid (IntKind.i64.wrap (fs + (m7 : Int)) = q) := hid ((wrap_small (by have := H0.out; omega) (by have := H9.out; have := HM7.out; omega)).trans hq.symm)
    have hat0 : 0 ≤ at_ := HAT.out
    have htx : (txt.size : Int) ≤ 140737488351232 := by have := HX.out.rl; simp only at this; omega
    clear hm7 hmn hsl hq
    go_enter Try.func10, Try.ntmps10
    go_wp2_with ((with_reducible show wpList _ _ _ ({ dst := _, op := .box 39 _, type := _, pos := _, after := _, guard := _ } :: _) _ _); refine wpL_box rfl _ _ rfl _ rfl [(.int .i64 7), (.int .i64 at_), (.int .i64 n), (.string txt), (.int .u32 (ae : Int)), (.int .u32 (al : Int)), .slice ka kl kc] rfl ?_; intro w1 HB1 F1 HS1; have H1 := hid (H.out.no F1.out); have x0 : w1.cell? ⟨bx, 0, none⟩ = some (pt bd) := H1.out.blk.cell 0; have x1 : w1.cell? ⟨bx, 1, none⟩ = some lv := H1.out.blk.cell 1; have x2 : w1.cell? ⟨bx, 2, none⟩ = some (pt be) := H1.out.blk.cell 2; have x3 : w1.cell? ⟨bx, 3, none⟩ = some mv := H1.out.blk.cell 3; have x4 : w1.cell? ⟨bx, 4, none⟩ = some (.int .i64 fs) := H1.out.blk.cell 4; have a0 : w1.cell? ⟨w.heap.size, 0, none⟩ = some (.int .i64 7) := HB1.out.cell 0; have a1 : w1.cell? ⟨w.heap.size, 1, none⟩ = some (.int .i64 at_) := HB1.out.cell 1; have a2 : w1.cell? ⟨w.heap.size, 2, none⟩ = some (.int .i64 n) := HB1.out.cell 2; have a3 : w1.cell? ⟨w.heap.size, 3, none⟩ = some (.string txt) := HB1.out.cell 3; have a4 : w1.cell? ⟨w.heap.size, 4, none⟩ = some (.int .u32 (ae : Int)) := HB1.out.cell 4; have a5 : w1.cell? ⟨w.heap.size, 5, none⟩ = some (.int .u32 (al : Int)) := HB1.out.cell 5; have a6 : w1.cell? ⟨w.heap.size, 6, none⟩ = some (.slice ka kl kc) := HB1.out.cell 6)
    have hold : Facts.hold [(1, fun w' => w'.cell? ⟨w.heap.size, 4, none⟩ = some (.int .u32 (ae : Int))), (3, fun w' => w'.cell? ⟨w.heap.size, 5, none⟩ = some (.int .u32 (al : Int))), (5, fun w' => w'.cell? ⟨w.heap.size, 1, none⟩ = some (.int .i64 at_)), (8, fun w' => w'.cell? ⟨w.heap.size, 2, none⟩ = some (.int .i64 n)), (10, fun w' => w'.cell? ⟨w.heap.size, 3, none⟩ = some (.string txt)), (12, fun w' => w'.cell? ⟨w.heap.size, 3, none⟩ = some (.string txt))] w1.drew := Facts.cons_hold a4 (Facts.cons_hold a5 (Facts.cons_hold a1 (Facts.cons_hold a2 (Facts.cons_hold a3 (Facts.cons_hold a3 (Facts.nil_hold _))))))
    refine wpD_region hold (by kernel_rfl) 19 rfl ?_
    (refine wpD_plain 0 (v := ?_) rfl (by kernel_rfl) (by kernel_rfl) (by kernel_rfl) (fun _ _ _ h => h) (by rfl) ?_ (by assumption) ?_; rotate_left; (intro _w; go_simp; try with_reducible rfl); simp only [Act.put, List.setIfInBounds_toArray, List.set_cons_zero, List.set_cons_succ])
    (refine wpD_take 1 _ rfl (by kernel_rfl) (by kernel_rfl) (by kernel_rfl) (fun _ _ _ h => h) List.mem_cons_self (by rfl) (v := ?_) ?_ (by assumption) ?_; rotate_left; (intro _w _hw; go_simp; try with_reducible rfl); simp only [Act.put, List.setIfInBounds_toArray, List.set_cons_zero, List.set_cons_succ])
    (refine wpD_plain 2 (v := ?_) rfl (by kernel_rfl) (by kernel_rfl) (by kernel_rfl) (fun _ _ _ h => h) (by rfl) ?_ (by assumption) ?_; rotate_left; (intro _w; go_simp; try with_reducible rfl); simp only [Act.put, List.setIfInBounds_toArray, List.set_cons_zero, List.set_cons_succ])
    (refine wpD_take 3 _ rfl (by kernel_rfl) (by kernel_rfl) (by kernel_rfl) (fun _ _ _ h => h) (List.mem_cons_of_mem _ List.mem_cons_self) (by rfl) (v := ?_) ?_ (by assumption) ?_; rotate_left; (intro _w _hw; go_simp; try with_reducible rfl); simp only [Act.put, List.setIfInBounds_toArray, List.set_cons_zero, List.set_cons_succ])
    (refine wpD_plain 4 (v := ?_) rfl (by kernel_rfl) (by kernel_rfl) (by kernel_rfl) (fun _ _ _ h => h) (by rfl) ?_ (by assumption) ?_; rotate_left; (intro _w; go_simp; try with_reducible rfl); simp only [Act.put, List.setIfInBounds_toArray, List.set_cons_zero, List.set_cons_succ])
    (refine wpD_take 5 _ rfl (by kernel_rfl) (by kernel_rfl) (by kernel_rfl) (fun _ _ _ h => h) (List.mem_cons_of_mem _ (List.mem_cons_of_mem _ List.mem_cons_self)) (by rfl) (v := ?_) ?_ (by assumption) ?_; rotate_left; (intro _w _hw; go_simp; try with_reducible rfl); simp only [Act.put, List.setIfInBounds_toArray, List.set_cons_zero, List.set_cons_succ])
    (refine wpD_plain 6 (v := (.int .i64 (m7 : Int))) rfl (by kernel_rfl) (by kernel_rfl) (by kernel_rfl) (fun _ _ _ h => h) (by rfl) ?_ (by assumption) ?_; (intro _w; go_simp; (first | exact WM.out | exact WT.out | (rw [WT.out]) | (rw [WM.out]))); simp only [Act.put, List.setIfInBounds_toArray, List.set_cons_zero, List.set_cons_succ])
    (refine wpD_plain 7 (v := ?_) rfl (by kernel_rfl) (by kernel_rfl) (by kernel_rfl) (fun _ _ _ h => h) (by rfl) ?_ (by assumption) ?_; rotate_left; (intro _w; go_simp; try with_reducible rfl); simp only [Act.put, List.setIfInBounds_toArray, List.set_cons_zero, List.set_cons_succ])
    (refine wpD_take 8 _ rfl (by kernel_rfl) (by kernel_rfl) (by kernel_rfl) (fun _ _ _ h => h) (List.mem_cons_of_mem _ (List.mem_cons_of_mem _ (List.mem_cons_of_mem _ List.mem_cons_self))) (by rfl) (v := ?_) ?_ (by assumption) ?_; rotate_left; (intro _w _hw; go_simp; try with_reducible rfl); simp only [Act.put, List.setIfInBounds_toArray, List.set_cons_zero, List.set_cons_succ])
    (refine wpD_plain 9 (v := ?_) rfl (by kernel_rfl) (by kernel_rfl) (by kernel_rfl) (fun _ _ _ h => h) (by rfl) ?_ (by assumption) ?_; rotate_left; (intro _w; go_simp; try with_reducible rfl); simp only [Act.put, List.setIfInBounds_toArray, List.set_cons_zero, List.set_cons_succ])
    (refine wpD_take 10 _ rfl (by kernel_rfl) (by kernel_rfl) (by kernel_rfl) (fun _ _ _ h => h) (List.mem_cons_of_mem _ (List.mem_cons_of_mem _ (List.mem_cons_of_mem _ (List.mem_cons_of_mem _ List.mem_cons_self)))) (by rfl) (v := ?_) ?_ (by assumption) ?_; rotate_left; (intro _w _hw; go_simp; try with_reducible rfl); simp only [Act.put, List.setIfInBounds_toArray, List.set_cons_zero, List.set_cons_succ])
    (refine wpD_plain 11 (v := ?_) rfl (by kernel_rfl) (by kernel_rfl) (by kernel_rfl) (fun _ _ _ h => h) (by rfl) ?_ (by assumption) ?_; rotate_left; (intro _w; go_simp; try with_reducible rfl); simp only [Act.put, List.setIfInBounds_toArray, List.set_cons_zero, List.set_cons_succ])
    (refine wpD_take 12 _ rfl (by kernel_rfl) (by kernel_rfl) (by kernel_rfl) (fun _ _ _ h => h) (List.mem_cons_of_mem _ (List.mem_cons_of_mem _ (List.mem_cons_of_mem _ (List.mem_cons_of_mem _ (List.mem_cons_of_mem _ List.mem_cons_self))))) (by rfl) (v := ?_) ?_ (by assumption) ?_; rotate_left; (intro _w _hw; go_simp; try with_reducible rfl); simp only [Act.put, List.setIfInBounds_toArray, List.set_cons_zero, List.set_cons_succ])
    (refine wpD_plain 13 (v := ?_) rfl (by kernel_rfl) (by kernel_rfl) (by kernel_rfl) (fun _ _ _ h => h) (by rfl) ?_ (by assumption) ?_; rotate_left; (intro _w; go_simp; try with_reducible rfl); simp only [Act.put, List.setIfInBounds_toArray, List.set_cons_zero, List.set_cons_succ])
    (refine wpD_plain 14 (v := (.int .i64 (mn : Int))) rfl (by kernel_rfl) (by kernel_rfl) (by kernel_rfl) (fun _ _ _ h => h) (by rfl) ?_ (by assumption) ?_; (intro _w; go_simp; (have := HMN.out; split <;> omega)); simp only [Act.put, List.setIfInBounds_toArray, List.set_cons_zero, List.set_cons_succ])
    (refine wpD_plain 15 (v := (.string sl)) rfl (by kernel_rfl) (by kernel_rfl) (by kernel_rfl) (fun _ _ _ h => h) (by rfl) ?_ (by assumption) ?_; (intro _w; go_simp; (rw [if_pos HMT.out, HSLE.out])); simp only [Act.put, List.setIfInBounds_toArray, List.set_cons_zero, List.set_cons_succ])
    refine wpD_only 16 [(1, fun w' => w'.cell? ⟨w.heap.size, 4, none⟩ = some (.int .u32 (ae : Int))), (3, fun w' => w'.cell? ⟨w.heap.size, 5, none⟩ = some (.int .u32 (al : Int))), (5, fun w' => w'.cell? ⟨w.heap.size, 1, none⟩ = some (.int .i64 at_)), (8, fun w' => w'.cell? ⟨w.heap.size, 2, none⟩ = some (.int .i64 n)), (10, fun w' => w'.cell? ⟨w.heap.size, 3, none⟩ = some (.string txt)), (12, fun w' => w'.cell? ⟨w.heap.size, 3, none⟩ = some (.string txt))] rfl (by kernel_rfl) (by kernel_rfl) (by rfl) (fun K16 hK16 => ?_)
    refine wp_bytesOf _ _ 5 _ rfl sl rfl Try.underlying9 Try.underlying66 Try.underlying5 ?_
    intro c8 w8 HB8 HF8
    have HF8' : Hid (Fr No w1 w8) := hid (Fr.trans' (b := w1.drew) (Fr.refl No w1).drew HF8.out)
    have HBA8 : Hid (Blk w8 w.heap.size 39 [(.int .i64 7), (.int .i64 at_), (.int .i64 n), (.string txt), (.int .u32 (ae : Int)), (.int .u32 (al : Int)), .slice ka kl kc]) := hid (HB1.out.fr HF8'.out id)
    refine hK16 _ _ (Facts.cons_hold (HBA8.out.cell 4) (Facts.cons_hold (HBA8.out.cell 5) (Facts.cons_hold (HBA8.out.cell 1) (Facts.cons_hold (HBA8.out.cell 2) (Facts.cons_hold (HBA8.out.cell 3) (Facts.cons_hold (HBA8.out.cell 3) (Facts.nil_hold _))))))) ?_
    clear hK16 K16 hold
    simp only [Act.put, List.setIfInBounds_toArray, List.set_cons_zero, List.set_cons_succ]
    refine wpD_only 17 [(5, fun w' => w'.cell? ⟨w.heap.size, 1, none⟩ = some (.int .i64 at_)), (10, fun w' => w'.cell? ⟨w.heap.size, 3, none⟩ = some (.string txt)), (12, fun w' => w'.cell? ⟨w.heap.size, 3, none⟩ = some (.string txt))] rfl (by kernel_rfl) (by kernel_rfl) (by rfl) (fun K17 hK17 => ?_)
    refine wp_call (.func 38) _ _ rfl 38 [] rfl hentRMadeP [.int .u32 (ae : Int), .int .u32 (al : Int), .int .i64 (m7 : Int), .int .i64 n, .slice (some ⟨w1.drew.heap.size, 0, none⟩) sl.size c8] (by rfl) ?_
    refine (rmade_any ae al m7 n _ _ _ w8 HX.out.ep HX.out.li (by have := HM7.out; omega) HB8.out HBL.out).mono ?_
    rintro e w9 ⟨a9, c9, rfl, o9, f9⟩
    refine ⟨_, rfl, ?_⟩
    have HO9 := hid (own_bytes o9)
    have HF9 : Hid (Fr No w1 w9) := hid (HF8'.out.trans' f9)
    have HBA9 : Hid (Blk w9 w.heap.size 39 [(.int .i64 7), (.int .i64 at_), (.int .i64 n), (.string txt), (.int .u32 (ae : Int)), (.int .u32 (al : Int)), .slice ka kl kc]) := hid (HB1.out.fr HF9.out id)
    have hold : Facts.hold [(5, fun w' => w'.cell? ⟨w.heap.size, 1, none⟩ = some (.int .i64 at_)), (10, fun w' => w'.cell? ⟨w.heap.size, 3, none⟩ = some (.string txt)), (12, fun w' => w'.cell? ⟨w.heap.size, 3, none⟩ = some (.string txt))] w9 := Facts.cons_hold (HBA9.out.cell 1) (Facts.cons_hold (HBA9.out.cell 3) (Facts.cons_hold (HBA9.out.cell 3) (Facts.nil_hold _)))
    refine hK17 _ _ hold ?_
    clear hK17 K17 f9 o9
    simp only [Act.put, List.setIfInBounds_toArray, List.set_cons_zero, List.set_cons_succ]
    (refine wpD_plain 18 (v := ?_) rfl (by kernel_rfl) (by kernel_rfl) (by kernel_rfl) (fun _ _ _ h => h) (by rfl) ?_ (by assumption) ?_; rotate_left; (intro _w; go_simp; try with_reducible rfl); simp only [Act.put, List.setIfInBounds_toArray, List.set_cons_zero, List.set_cons_succ])
    clear hold
    refine wpD_done (by kernel_rfl) ?_ _
    try simp only [Act.put, List.setIfInBounds_toArray, List.set_cons_zero, List.set_cons_succ]
    have H9' := hid (H1.out.no HF9.out)
    have HLE8 : Hid (w1.heap.size ≤ w8.heap.size) := hid HF8'.out.size
    generalize made ae al m7 ((n % 256).toNat) sl.data.toList.length (pad48 sl.data.toList) = mb at HO9
    clear x0 x1 x2 x3 x4 a0 a1 a2 a3 a4 a5 a6
    have x0 : w9.cell? ⟨bx, 0, none⟩ = some (pt bd) := H9'.out.blk.cell 0
    have x1 : w9.cell? ⟨bx, 1, none⟩ = some lv := H9'.out.blk.cell 1
    have x2 : w9.cell? ⟨bx, 2, none⟩ = some (pt be) := H9'.out.blk.cell 2
    have x3 : w9.cell? ⟨bx, 3, none⟩ = some mv := H9'.out.blk.cell 3
    have x4 : w9.cell? ⟨bx, 4, none⟩ = some (.int .i64 fs) := H9'.out.blk.cell 4
    have a0 : w9.cell? ⟨w.heap.size, 0, none⟩ = some (.int .i64 7) := HBA9.out.cell 0
    have a1 : w9.cell? ⟨w.heap.size, 1, none⟩ = some (.int .i64 at_) := HBA9.out.cell 1
    have a2 : w9.cell? ⟨w.heap.size, 2, none⟩ = some (.int .i64 n) := HBA9.out.cell 2
    have a3 : w9.cell? ⟨w.heap.size, 3, none⟩ = some (.string txt) := HBA9.out.cell 3
    have a4 : w9.cell? ⟨w.heap.size, 4, none⟩ = some (.int .u32 (ae : Int)) := HBA9.out.cell 4
    have a5 : w9.cell? ⟨w.heap.size, 5, none⟩ = some (.int .u32 (al : Int)) := HBA9.out.cell 5
    have a6 : w9.cell? ⟨w.heap.size, 6, none⟩ = some (.slice ka kl kc) := HBA9.out.cell 6
    go_wp2_with fail
    have hold : Facts.hold [(3, fun w' => w'.cell? ⟨bx, 0, none⟩ = some (pt bd)), (7, fun w' => w'.cell? ⟨bx, 4, none⟩ = some (.int .i64 fs)), (9, fun w' => w'.cell? ⟨w.heap.size, 1, none⟩ = some (.int .i64 at_))] w9.drew := Facts.cons_hold x0 (Facts.cons_hold x4 (Facts.cons_hold a1 (Facts.nil_hold _)))
    refine wpD_region hold (by kernel_rfl) 15 rfl ?_
    (refine wpD_plain 0 (v := ?_) rfl (by kernel_rfl) (by kernel_rfl) (by kernel_rfl) (fun _ _ _ h => h) (by rfl) ?_ (by assumption) ?_; rotate_left; (intro _w; go_simp; try with_reducible rfl); simp only [Act.put, List.setIfInBounds_toArray, List.set_cons_zero, List.set_cons_succ])
    (refine wpD_plain 1 (v := ?_) rfl (by kernel_rfl) (by kernel_rfl) (by kernel_rfl) (fun _ _ _ h => h) (by rfl) ?_ (by assumption) ?_; rotate_left; (intro _w; go_simp; try with_reducible rfl); simp only [Act.put, List.setIfInBounds_toArray, List.set_cons_zero, List.set_cons_succ])
    (refine wpD_plain 2 (v := ?_) rfl (by kernel_rfl) (by kernel_rfl) (by kernel_rfl) (fun _ _ _ h => h) (by rfl) ?_ (by assumption) ?_; rotate_left; (intro _w; go_simp; try with_reducible rfl); simp only [Act.put, List.setIfInBounds_toArray, List.set_cons_zero, List.set_cons_succ])
    (refine wpD_take 3 _ rfl (by kernel_rfl) (by kernel_rfl) (by kernel_rfl) (fun _ _ _ h => h) List.mem_cons_self (by rfl) (v := ?_) ?_ (by assumption) ?_; rotate_left; (intro _w _hw; go_simp; try with_reducible rfl); simp only [Act.put, List.setIfInBounds_toArray, List.set_cons_zero, List.set_cons_succ])
    (refine wpD_plain 4 (v := ?_) rfl (by kernel_rfl) (by kernel_rfl) (by kernel_rfl) (fun _ _ _ h => h) (by rfl) ?_ (by assumption) ?_; rotate_left; (intro _w; go_simp; try with_reducible rfl); simp only [Act.put, List.setIfInBounds_toArray, List.set_cons_zero, List.set_cons_succ])
    (refine wpD_plain 5 (v := ?_) rfl (by kernel_rfl) (by kernel_rfl) (by kernel_rfl) (fun _ _ _ h => h) (by rfl) ?_ (by assumption) ?_; rotate_left; (intro _w; go_simp; try with_reducible rfl); simp only [Act.put, List.setIfInBounds_toArray, List.set_cons_zero, List.set_cons_succ])
    (refine wpD_plain 6 (v := ?_) rfl (by kernel_rfl) (by kernel_rfl) (by kernel_rfl) (fun _ _ _ h => h) (by rfl) ?_ (by assumption) ?_; rotate_left; (intro _w; go_simp; try with_reducible rfl); simp only [Act.put, List.setIfInBounds_toArray, List.set_cons_zero, List.set_cons_succ])
    (refine wpD_take 7 _ rfl (by kernel_rfl) (by kernel_rfl) (by kernel_rfl) (fun _ _ _ h => h) (List.mem_cons_of_mem _ List.mem_cons_self) (by rfl) (v := ?_) ?_ (by assumption) ?_; rotate_left; (intro _w _hw; go_simp; try with_reducible rfl); simp only [Act.put, List.setIfInBounds_toArray, List.set_cons_zero, List.set_cons_succ])
    (refine wpD_plain 8 (v := ?_) rfl (by kernel_rfl) (by kernel_rfl) (by kernel_rfl) (fun _ _ _ h => h) (by rfl) ?_ (by assumption) ?_; rotate_left; (intro _w; go_simp; try with_reducible rfl); simp only [Act.put, List.setIfInBounds_toArray, List.set_cons_zero, List.set_cons_succ])
    (refine wpD_take 9 _ rfl (by kernel_rfl) (by kernel_rfl) (by kernel_rfl) (fun _ _ _ h => h) (List.mem_cons_of_mem _ (List.mem_cons_of_mem _ List.mem_cons_self)) (by rfl) (v := ?_) ?_ (by assumption) ?_; rotate_left; (intro _w _hw; go_simp; try with_reducible rfl); simp only [Act.put, List.setIfInBounds_toArray, List.set_cons_zero, List.set_cons_succ])
    (refine wpD_plain 10 (v := (.int .i64 (m7 : Int))) rfl (by kernel_rfl) (by kernel_rfl) (by kernel_rfl) (fun _ _ _ h => h) (by rfl) ?_ (by assumption) ?_; (intro _w; go_simp; (first | exact WM.out | exact WT.out | (rw [WT.out]) | (rw [WM.out]))); simp only [Act.put, List.setIfInBounds_toArray, List.set_cons_zero, List.set_cons_succ])
    (refine wpD_plain 11 (v := (.int .i64 q)) rfl (by kernel_rfl) (by kernel_rfl) (by kernel_rfl) (fun _ _ _ h => h) (by rfl) ?_ (by assumption) ?_; (intro _w; go_simp; exact WQ.out); simp only [Act.put, List.setIfInBounds_toArray, List.set_cons_zero, List.set_cons_succ])
    (refine wpD_plain 12 (v := ?_) rfl (by kernel_rfl) (by kernel_rfl) (by kernel_rfl) (fun _ _ _ h => h) (by rfl) ?_ (by assumption) ?_; rotate_left; (intro _w; go_simp; try with_reducible rfl); simp only [Act.put, List.setIfInBounds_toArray, List.set_cons_zero, List.set_cons_succ])
    refine wpD_only 13 [(7, fun w' => w'.cell? ⟨bx, 4, none⟩ = some (.int .i64 fs)), (9, fun w' => w'.cell? ⟨w.heap.size, 1, none⟩ = some (.int .i64 at_))] rfl (by kernel_rfl) (by kernel_rfl) (by rfl) (fun K13 hK13 => ?_)
    refine wp_call (.func 36) _ _ rfl 36 [] rfl hentWriteP [pt bd, .int .i64 q, .slice a9 64 c9] (by rfl) ?_
    refine (dwrite_any q _ _ _ (HO9.out.no (Fr.refl No w9).drew) (fun k hk e => by have h1 := H.out.d.lt k e; have h2 := F1.out.size; have := HLE8.out; omega) (H9'.out.no (Fr.refl No w9).drew).d (by have := HP.out; have := HM.out; omega)).mono ?_
    rintro e w2 ⟨rfl, Z2, t2, f2, g2⟩
    have H2 := hid ((H9'.out.no (Fr.refl No w9).drew).ofD t2 f2 g2 H9'.out.zD)
    have F92 : Hid (Fr Z w9 w2) := hid (Fr.trans' (b := w9.drew) (Fr.refl Z w9).drew f2)
    have G92 := hid g2
    have HB2 : Hid (Blk w2 w.heap.size 39 [(.int .i64 7), (.int .i64 at_), (.int .i64 n), (.string txt), (.int .u32 (ae : Int)), (.int .u32 (al : Int)), .slice ka kl kc]) := hid (HBA9.out.fr F92.out (fun e => by have := H.out.d.lt _ e; omega))
    have HO2 := hid (HO9.out.fr F92.out (fun k hk _ e => by have h1 := H.out.d.lt k e; have h2 := F1.out.size; have := HLE8.out; omega))
    clear t2 f2 g2 x0 x1 x2 x3 x4 a0 a1 a2 a3 a4 a5 a6
    refine ⟨_, rfl, ?_⟩
    have hold : Facts.hold [(7, fun w' => w'.cell? ⟨bx, 4, none⟩ = some (.int .i64 fs)), (9, fun w' => w'.cell? ⟨w.heap.size, 1, none⟩ = some (.int .i64 at_))] w2 := Facts.cons_hold (H2.out.blk.cell 4) (Facts.cons_hold (HB2.out.cell 1) (Facts.nil_hold _))
    refine hK13 _ _ hold ?_
    clear hK13 K13
    simp only [Act.put, List.setIfInBounds_toArray, List.set_cons_zero, List.set_cons_succ]
    (refine wpD_plain 14 (v := ?_) rfl (by kernel_rfl) (by kernel_rfl) (by kernel_rfl) (fun _ _ _ h => h) (by rfl) ?_ (by assumption) ?_; rotate_left; (intro _w; go_simp; try with_reducible rfl); simp only [Act.put, List.setIfInBounds_toArray, List.set_cons_zero, List.set_cons_succ])
    clear hold
    refine wpD_done (by kernel_rfl) ?_ _
    try simp only [Act.put, List.setIfInBounds_toArray, List.set_cons_zero, List.set_cons_succ]
    have x0 : w2.cell? ⟨bx, 0, none⟩ = some (pt bd) := H2.out.blk.cell 0
    have x1 : w2.cell? ⟨bx, 1, none⟩ = some lv := H2.out.blk.cell 1
    have x2 : w2.cell? ⟨bx, 2, none⟩ = some (pt be) := H2.out.blk.cell 2
    have x3 : w2.cell? ⟨bx, 3, none⟩ = some mv := H2.out.blk.cell 3
    have x4 : w2.cell? ⟨bx, 4, none⟩ = some (.int .i64 fs) := H2.out.blk.cell 4
    have a0 : w2.cell? ⟨w.heap.size, 0, none⟩ = some (.int .i64 7) := HB2.out.cell 0
    have a1 : w2.cell? ⟨w.heap.size, 1, none⟩ = some (.int .i64 at_) := HB2.out.cell 1
    have a2 : w2.cell? ⟨w.heap.size, 2, none⟩ = some (.int .i64 n) := HB2.out.cell 2
    have a3 : w2.cell? ⟨w.heap.size, 3, none⟩ = some (.string txt) := HB2.out.cell 3
    have a4 : w2.cell? ⟨w.heap.size, 4, none⟩ = some (.int .u32 (ae : Int)) := HB2.out.cell 4
    have a5 : w2.cell? ⟨w.heap.size, 5, none⟩ = some (.int .u32 (al : Int)) := HB2.out.cell 5
    have a6 : w2.cell? ⟨w.heap.size, 6, none⟩ = some (.slice ka kl kc) := HB2.out.cell 6
    go_wp2_with fail
    have hold : Facts.hold [(3, fun w' => w'.cell? ⟨bx, 2, none⟩ = some (pt be)), (7, fun w' => w'.cell? ⟨bx, 4, none⟩ = some (.int .i64 fs)), (9, fun w' => w'.cell? ⟨w.heap.size, 1, none⟩ = some (.int .i64 at_))] w2.drew := Facts.cons_hold x2 (Facts.cons_hold x4 (Facts.cons_hold a1 (Facts.nil_hold _)))
    refine wpD_region hold (by kernel_rfl) 15 rfl ?_
    (refine wpD_plain 0 (v := ?_) rfl (by kernel_rfl) (by kernel_rfl) (by kernel_rfl) (fun _ _ _ h => h) (by rfl) ?_ (by assumption) ?_; rotate_left; (intro _w; go_simp; try with_reducible rfl); simp only [Act.put, List.setIfInBounds_toArray, List.set_cons_zero, List.set_cons_succ])
    (refine wpD_plain 1 (v := ?_) rfl (by kernel_rfl) (by kernel_rfl) (by kernel_rfl) (fun _ _ _ h => h) (by rfl) ?_ (by assumption) ?_; rotate_left; (intro _w; go_simp; try with_reducible rfl); simp only [Act.put, List.setIfInBounds_toArray, List.set_cons_zero, List.set_cons_succ])
    (refine wpD_plain 2 (v := ?_) rfl (by kernel_rfl) (by kernel_rfl) (by kernel_rfl) (fun _ _ _ h => h) (by rfl) ?_ (by assumption) ?_; rotate_left; (intro _w; go_simp; try with_reducible rfl); simp only [Act.put, List.setIfInBounds_toArray, List.set_cons_zero, List.set_cons_succ])
    (refine wpD_take 3 _ rfl (by kernel_rfl) (by kernel_rfl) (by kernel_rfl) (fun _ _ _ h => h) List.mem_cons_self (by rfl) (v := ?_) ?_ (by assumption) ?_; rotate_left; (intro _w _hw; go_simp; try with_reducible rfl); simp only [Act.put, List.setIfInBounds_toArray, List.set_cons_zero, List.set_cons_succ])
    (refine wpD_plain 4 (v := ?_) rfl (by kernel_rfl) (by kernel_rfl) (by kernel_rfl) (fun _ _ _ h => h) (by rfl) ?_ (by assumption) ?_; rotate_left; (intro _w; go_simp; try with_reducible rfl); simp only [Act.put, List.setIfInBounds_toArray, List.set_cons_zero, List.set_cons_succ])
    (refine wpD_plain 5 (v := ?_) rfl (by kernel_rfl) (by kernel_rfl) (by kernel_rfl) (fun _ _ _ h => h) (by rfl) ?_ (by assumption) ?_; rotate_left; (intro _w; go_simp; try with_reducible rfl); simp only [Act.put, List.setIfInBounds_toArray, List.set_cons_zero, List.set_cons_succ])
    (refine wpD_plain 6 (v := ?_) rfl (by kernel_rfl) (by kernel_rfl) (by kernel_rfl) (fun _ _ _ h => h) (by rfl) ?_ (by assumption) ?_; rotate_left; (intro _w; go_simp; try with_reducible rfl); simp only [Act.put, List.setIfInBounds_toArray, List.set_cons_zero, List.set_cons_succ])
    (refine wpD_take 7 _ rfl (by kernel_rfl) (by kernel_rfl) (by kernel_rfl) (fun _ _ _ h => h) (List.mem_cons_of_mem _ List.mem_cons_self) (by rfl) (v := ?_) ?_ (by assumption) ?_; rotate_left; (intro _w _hw; go_simp; try with_reducible rfl); simp only [Act.put, List.setIfInBounds_toArray, List.set_cons_zero, List.set_cons_succ])
    (refine wpD_plain 8 (v := ?_) rfl (by kernel_rfl) (by kernel_rfl) (by kernel_rfl) (fun _ _ _ h => h) (by rfl) ?_ (by assumption) ?_; rotate_left; (intro _w; go_simp; try with_reducible rfl); simp only [Act.put, List.setIfInBounds_toArray, List.set_cons_zero, List.set_cons_succ])
    (refine wpD_take 9 _ rfl (by kernel_rfl) (by kernel_rfl) (by kernel_rfl) (fun _ _ _ h => h) (List.mem_cons_of_mem _ (List.mem_cons_of_mem _ List.mem_cons_self)) (by rfl) (v := ?_) ?_ (by assumption) ?_; rotate_left; (intro _w _hw; go_simp; try with_reducible rfl); simp only [Act.put, List.setIfInBounds_toArray, List.set_cons_zero, List.set_cons_succ])
    (refine wpD_plain 10 (v := (.int .i64 (m7 : Int))) rfl (by kernel_rfl) (by kernel_rfl) (by kernel_rfl) (fun _ _ _ h => h) (by rfl) ?_ (by assumption) ?_; (intro _w; go_simp; (first | exact WM.out | exact WT.out | (rw [WT.out]) | (rw [WM.out]))); simp only [Act.put, List.setIfInBounds_toArray, List.set_cons_zero, List.set_cons_succ])
    (refine wpD_plain 11 (v := (.int .i64 q)) rfl (by kernel_rfl) (by kernel_rfl) (by kernel_rfl) (fun _ _ _ h => h) (by rfl) ?_ (by assumption) ?_; (intro _w; go_simp; exact WQ.out); simp only [Act.put, List.setIfInBounds_toArray, List.set_cons_zero, List.set_cons_succ])
    (refine wpD_plain 12 (v := ?_) rfl (by kernel_rfl) (by kernel_rfl) (by kernel_rfl) (fun _ _ _ h => h) (by rfl) ?_ (by assumption) ?_; rotate_left; (intro _w; go_simp; try with_reducible rfl); simp only [Act.put, List.setIfInBounds_toArray, List.set_cons_zero, List.set_cons_succ])
    refine wpD_only 13 [(7, fun w' => w'.cell? ⟨bx, 4, none⟩ = some (.int .i64 fs)), (9, fun w' => w'.cell? ⟨w.heap.size, 1, none⟩ = some (.int .i64 at_))] rfl (by kernel_rfl) (by kernel_rfl) (by rfl) (fun K13 hK13 => ?_)
    refine wp_call (.func 37) _ _ rfl 37 [] rfl hentRWriteP [pt be, .int .i64 q, .slice a9 64 c9] (by rfl) ?_
    refine (rwrite_any q _ _ _ (HO2.out.no (Fr.refl No w2).drew) (fun k hk e => by have h1 := H.out.e.lt k e; have h2 := F1.out.size; have := HLE8.out; omega) (H2.out.no (Fr.refl No w2).drew).e (by have := HP.out; have := HM.out; omega)).mono ?_
    rintro e w3 ⟨rfl, Y3, t3, f3, g3⟩
    have H3 := hid ((H2.out.no (Fr.refl No w2).drew).ofE t3 f3 g3 H2.out.yD)
    have F23 : Hid (Fr Y w2 w3) := hid (Fr.trans' (b := w2.drew) (Fr.refl Y w2).drew f3)
    have G23 := hid g3
    have HB3 : Hid (Blk w3 w.heap.size 39 [(.int .i64 7), (.int .i64 at_), (.int .i64 n), (.string txt), (.int .u32 (ae : Int)), (.int .u32 (al : Int)), .slice ka kl kc]) := hid (HB2.out.fr F23.out (fun e => by have := H.out.e.lt _ e; omega))
    have HQL := hid (write_L a q mb); have HQP := hid (write_P a q mb)
    have HL3 : Hid ((lv = .pointer none ∧ mv = .pointer none) ∨ ∃ bg bm g, lv = pt bg ∧ mv = pt bm ∧ Dl W w3 bx bd be Z2 Y3 (a.write q mb).2 (a.write q mb).2 bg bm g g) := hid (HL.out.imp id (fun ⟨bg, bm, g, e1, e2, l⟩ => ⟨bg, bm, g, e1, e2, (((l.no F1.out).no HF9.out).ofD F92.out G92.out (congrArg List.length HQL.out)).ofE F23.out G23.out (congrArg List.length HQL.out)⟩))
    clear t3 f3 g3 x0 x1 x2 x3 x4 a0 a1 a2 a3 a4 a5 a6
    refine ⟨_, rfl, ?_⟩
    have hold : Facts.hold [(7, fun w' => w'.cell? ⟨bx, 4, none⟩ = some (.int .i64 fs)), (9, fun w' => w'.cell? ⟨w.heap.size, 1, none⟩ = some (.int .i64 at_))] w3 := Facts.cons_hold (H3.out.blk.cell 4) (Facts.cons_hold (HB3.out.cell 1) (Facts.nil_hold _))
    refine hK13 _ _ hold ?_
    clear hK13 K13
    simp only [Act.put, List.setIfInBounds_toArray, List.set_cons_zero, List.set_cons_succ]
    (refine wpD_plain 14 (v := ?_) rfl (by kernel_rfl) (by kernel_rfl) (by kernel_rfl) (fun _ _ _ h => h) (by rfl) ?_ (by assumption) ?_; rotate_left; (intro _w; go_simp; try with_reducible rfl); simp only [Act.put, List.setIfInBounds_toArray, List.set_cons_zero, List.set_cons_succ])
    clear hold
    refine wpD_done (by kernel_rfl) ?_ _
    try simp only [Act.put, List.setIfInBounds_toArray, List.set_cons_zero, List.set_cons_succ]
    go_wp2_with fail
    go_ret
    exact ⟨by simp, Z2, Y3, _, _, _, H3.out, HL3.out, by rw [HQL.out]; exact HN.out, by have := HQP.out; have := HP.out; omega⟩
  · go_enter Try.func10, Try.ntmps10
    go_wp2_with ((with_reducible show wpList _ _ _ ({ dst := _, op := .box 39 _, type := _, pos := _, after := _, guard := _ } :: _) _ _); refine wpL_box rfl _ _ rfl _ rfl [(.int .i64 how), (.int .i64 at_), (.int .i64 n), (.string txt), (.int .u32 (ae : Int)), (.int .u32 (al : Int)), .slice ka kl kc] rfl ?_; intro w1 HB1 F1 HS1; have H1 := hid (H.out.no F1.out); have x0 : w1.cell? ⟨bx, 0, none⟩ = some (pt bd) := H1.out.blk.cell 0; have x1 : w1.cell? ⟨bx, 1, none⟩ = some lv := H1.out.blk.cell 1; have x2 : w1.cell? ⟨bx, 2, none⟩ = some (pt be) := H1.out.blk.cell 2; have x3 : w1.cell? ⟨bx, 3, none⟩ = some mv := H1.out.blk.cell 3; have x4 : w1.cell? ⟨bx, 4, none⟩ = some (.int .i64 fs) := H1.out.blk.cell 4; have a0 : w1.cell? ⟨w.heap.size, 0, none⟩ = some (.int .i64 how) := HB1.out.cell 0; have a1 : w1.cell? ⟨w.heap.size, 1, none⟩ = some (.int .i64 at_) := HB1.out.cell 1; have a2 : w1.cell? ⟨w.heap.size, 2, none⟩ = some (.int .i64 n) := HB1.out.cell 2; have a3 : w1.cell? ⟨w.heap.size, 3, none⟩ = some (.string txt) := HB1.out.cell 3; have a4 : w1.cell? ⟨w.heap.size, 4, none⟩ = some (.int .u32 (ae : Int)) := HB1.out.cell 4; have a5 : w1.cell? ⟨w.heap.size, 5, none⟩ = some (.int .u32 (al : Int)) := HB1.out.cell 5; have a6 : w1.cell? ⟨w.heap.size, 6, none⟩ = some (.slice ka kl kc) := HB1.out.cell 6)
    go_ret
    exact ⟨rfl, Z, Y, a, _, _, H1.out, HL.out.imp id (fun ⟨bg, bm, g, e1, e2, l⟩ => ⟨bg, bm, g, e1, e2, l.no F1.out⟩), HN.out, by have := HP.out; omega⟩
end Go.Proofs.Ytlnolnaapnijbaa.L
