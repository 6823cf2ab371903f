/-
  Package ber: Head.
-/
import Derived.Test.YtoikiokcpakokaaBeH
import Derived.Test.YtoikiokcpakokaaBeS
set_option linter.unusedVariables false
set_option linter.unusedSimpArgs false
namespace Go.Proofs.Ytoikiokcpakokaa.BE
set_option maxRecDepth 100000
open Go.RowKit K

/-- What Head tells. -/
def headN (s : B) : Nat × Nat × Nat × Nat := match hdS s with
  | .error k => (0, 0, 0, k)
  | .ok (t, c, h) => (t, c, h, 0)
def toldH (x : Nat × Nat × Nat × Nat) : Ending := .returned (.tuple #[.int .i64 (x.1 : Int), .int .i64 (x.2.1 : Int), .int .i64 (x.2.2.1 : Int), .int .i64 (x.2.2.2 : Int)])
def HeadP (s : B) (p1 p2 p3 : Nat) (o : Option Nat) (w1 w2 : World) : Prop := Fr (fun k => k = p1 ∨ k = p2 ∨ k = p3) w1 w2 ∧ o.getD 0 = (headN s).2.2.2 ∧ Blk w2 p1 3 [.int .i64 ((headN s).1 : Int)] ∧ Blk w2 p2 3 [.int .i64 ((headN s).2.1 : Int)] ∧ Blk w2 p3 3 [.int .i64 ((headN s).2.2.1 : Int)]
theorem run_loadI {P : Program} {w : World} {ti t2 : TypeId} {c : Nat} {x : Int} (hC : Blk w c t2 [.int .i64 x]) (hui : P.underlying ti = some (.int .i64)) : (loadVar ti ⟨c, 0, none⟩).run P w = .ok (.int .i64 x) w := by
  have hc := hC.cell 0
  simp only [List.getElem?_cons_zero] at hc
  simp [loadVar, isAgg, run_underlying hui, hc, go_sem]
/-- Four results, of which the first three are numbers in memory. -/
theorem ret_ccct {P : Program} {a : Act} {w : World} {fn : Func} {R : Ending → World → Prop} {p q r u : Tmp} {ti t1 t2 t3 : TypeId} {b c d : Nat} {x y z : Int} (hr : fn.results = #[.cell p ti, .cell q ti, .cell r ti, .tmp u]) (hp : a.tmps.getD p undef = .pointer (some ⟨b, 0, none⟩)) (hB : Blk w b t1 [.int .i64 x])
    (hq : a.tmps.getD q undef = .pointer (some ⟨c, 0, none⟩)) (hC : Blk w c t2 [.int .i64 y]) (hrr : a.tmps.getD r undef = .pointer (some ⟨d, 0, none⟩)) (hD : Blk w d t3 [.int .i64 z]) (hui : P.underlying ti = some (.int .i64)) (hdf : a.defers = [])
    (h : R (.returned (.tuple #[.int .i64 x, .int .i64 y, .int .i64 z, a.tmps.getD u undef])) w) : bodyPost P fn R .ret a w := by
  refine bodyPost_ret ?_ hdf h
  have hp' : a.tmps[p]?.getD undef = .pointer (some ⟨b, 0, none⟩) := by simpa using hp
  have hq' : a.tmps[q]?.getD undef = .pointer (some ⟨c, 0, none⟩) := by simpa using hq
  have hr' : a.tmps[r]?.getD undef = .pointer (some ⟨d, 0, none⟩) := by simpa using hrr
  simp [results, hr, hp', hq', hr', asAddr, run_loadI hB hui, run_loadI hC hui, run_loadI hD hui]
set_option maxHeartbeats 4000000 in
theorem head_any (s : B) (w : World) (hs : s.length ≤ 281474976710656) : Calls Try.prog 31 #[.string (sb s)] w fun e w' => e = toldH (headN s) ∧ Fr No w w' := by
  have HS := hid hs
  obtain ⟨ss, hss⟩ : ∃ ss, sb s = ss := ⟨_, rfl⟩
  rw [hss]
  have HSS := hid hss
  clear hs hss
  have hmf : ∀ (fn : Fn) (first cap : Array Value) (w : World), (Instr.makeFunc fn first cap).run Try.prog w = .ok (.func fn first cap) w := fun _ _ _ _ => rfl
  go_enter Try.func31, Try.ntmps31
  go_wp2_with (first
    | ((with_reducible show wpList _ _ _ (⟨_, .box 9 _, _, _, _, _⟩ :: _) _ _); refine wpL_box rfl _ _ rfl _ rfl [.string ss] rfl ?_; intro w1 HB1 F1 HS1)
    | ((with_reducible show wpList _ _ _ (⟨_, .alloc 3, _, _, _, _⟩ :: _) _ _); (have := HS1); (fail_if_success (have := HS2)); refine wpL_alloc rfl _ rfl _ zeroI [.int .i64 0] rfl ?_; intro w2 HB2 F2 HS2)
    | ((with_reducible show wpList _ _ _ (⟨_, .alloc 3, _, _, _, _⟩ :: _) _ _); (have := HS2); (fail_if_success (have := HS3)); refine wpL_alloc rfl _ rfl _ zeroI [.int .i64 0] rfl ?_; intro w3 HB3 F3 HS3)
    | ((with_reducible show wpList _ _ _ (⟨_, .alloc 3, _, _, _, _⟩ :: _) _ _); refine wpL_alloc rfl _ rfl _ zeroI [.int .i64 0] rfl ?_; intro w4 HB4 F4 HS4))
  have f24 := F3.out.trans' F4.out
  have f14 := F2.out.trans' f24
  have hf4 : Fr No w w4 := F1.out.trans' f14
  have hs1 := HS1.out; have hs2 := HS2.out; have hs3 := HS3.out; have hs4 := HS4.out
  refine (caught_any 37 [.pointer (some ⟨w.heap.size, 0, none⟩), .pointer (some ⟨w1.heap.size, 0, none⟩), .pointer (some ⟨w2.heap.size, 0, none⟩), .pointer (some ⟨w3.heap.size, 0, none⟩)] (HeadP s w1.heap.size w2.heap.size w3.heap.size) (fun k => k = w1.heap.size ∨ k = w2.heap.size ∨ k = w3.heap.size) w4 (by omega) (fun vs w => by kernel_rfl) (fun o a b h => h.1) ?_).mono ?_
  · intro v0 f0 hs0
    have hb1 : Blk v0 w.heap.size 9 [.string ss] := (HB1.out.fr f14 id).fr f0 id
    have HBa : Hid (Blk v0 w1.heap.size 3 [.int .i64 0]) := hid ((HB2.out.fr f24 id).fr f0 id)
    have HBb : Hid (Blk v0 w2.heap.size 3 [.int .i64 0]) := hid ((HB3.out.fr F4.out id).fr f0 id)
    have HBc : Hid (Blk v0 w3.heap.size 3 [.int .i64 0]) := hid (HB4.out.fr f0 id)
    have c1 : v0.cell? ⟨w.heap.size, 0, none⟩ = some (.string ss) := hb1.cell 0
    have HZ := hid (show w1.heap.size ≠ w2.heap.size ∧ w1.heap.size ≠ w3.heap.size ∧ w2.heap.size ≠ w3.heap.size by omega)
    clear hb1 f0 hs0 f24 f14 hf4 hs1 hs2 hs3 hs4
    show Calls Try.prog _ #[.pointer (some ⟨w.heap.size, 0, none⟩), .pointer (some ⟨w1.heap.size, 0, none⟩), .pointer (some ⟨w2.heap.size, 0, none⟩), .pointer (some ⟨w3.heap.size, 0, none⟩)] v0 _
    go_enter Try.func37, Try.ntmps37
    go_wp2_with fail
    rw [← HSS.out]
    refine (readHead_any s HS.out v0).mono ?_
    rintro e v1 ⟨f1, hm⟩
    have HF1 := hid f1
    have HBa1 := hid (HBa.out.fr f1 id); have HBb1 := hid (HBb.out.fr f1 id); have HBc1 := hid (HBc.out.fr f1 id)
    cases hr : hdS s with
    | error k =>
      rw [hr] at hm
      simp only at hm
      subst hm
      have hde : headN s = (0, 0, 0, k) := by unfold headN; rw [hr]
      exact ⟨rfl, .inr ⟨k, rfl, f1.no, by rw [hde]; rfl, by rw [hde]; exact HBa1.out, by rw [hde]; exact HBb1.out, by rw [hde]; exact HBc1.out⟩⟩
    | ok p =>
      obtain ⟨t, c, h⟩ := p
      rw [hr] at hm
      simp only at hm
      subst hm
      have hde : headN s = (t, c, h, 0) := by unfold headN; rw [hr]
      have HDE := hid hde
      clear hr hde f1 c1
      go_wp2_with (first
        | ((with_reducible show wpList _ _ _ (⟨_, .store 3 _ _, _, _, _, _⟩ :: _) _ _); refine wpL_setV rfl _ _ _ rfl w1.heap.size 0 (.int .i64 (t : Int)) rfl rfl rfl rfl _ _ HBa1.out (by simp) infoI ?_; intro v2 HB5 F5 HS5;
            have HBb2 : Hid (Blk v2 w2.heap.size 3 [.int .i64 0]) := hid (HBb1.out.fr F5.out (fun e => HZ.out.1 e.symm));
            have HBc2 : Hid (Blk v2 w3.heap.size 3 [.int .i64 0]) := hid (HBc1.out.fr F5.out (fun e => HZ.out.2.1 e.symm)))
        | ((with_reducible show wpList _ _ _ (⟨_, .store 3 _ _, _, _, _, _⟩ :: _) _ _); refine wpL_setV rfl _ _ _ rfl w2.heap.size 0 (.int .i64 (c : Int)) rfl rfl rfl rfl _ _ HBb2.out (by simp) infoI ?_; intro v3 HB6 F6 HS6;
            have HBc3 : Hid (Blk v3 w3.heap.size 3 [.int .i64 0]) := hid (HBc2.out.fr F6.out (fun e => HZ.out.2.2 e.symm)))
        | ((with_reducible show wpList _ _ _ (⟨_, .store 3 _ _, _, _, _, _⟩ :: _) _ _); refine wpL_setV rfl _ _ _ rfl w3.heap.size 0 (.int .i64 (h : Int)) rfl rfl rfl rfl _ _ HBc3.out (by simp) infoI ?_; intro v4 HB7 F7 HS7))
      go_end0
      refine .inl ⟨rfl, ((HF1.out.no.trans' (F5.out.mono fun k hk => .inl hk)).trans' (F6.out.mono fun k hk => .inr (.inl hk))).trans' (F7.out.mono fun k hk => .inr (.inr hk)), by rw [HDE.out]; rfl, ?_, ?_, ?_⟩
      · rw [HDE.out]; exact (HB5.out.fr F6.out (fun e => HZ.out.1 e)).fr F7.out (fun e => HZ.out.2.1 e)
      · rw [HDE.out]; exact HB6.out.fr F7.out (fun e => HZ.out.2.2 e)
      · rw [HDE.out]; exact HB7.out
  · rintro e w7 ⟨o, w5, w6, rfl, f5, hs5, ⟨f6, hoe, hpa, hpb, hpc⟩, f7⟩
    have ha : Blk w7 w1.heap.size 3 [.int .i64 ((headN s).1 : Int)] := hpa.fr f7 (fun e => by have e : w1.heap.size = w4.heap.size := e; omega)
    have hb : Blk w7 w2.heap.size 3 [.int .i64 ((headN s).2.1 : Int)] := hpb.fr f7 (fun e => by have e : w2.heap.size = w4.heap.size := e; omega)
    have hc : Blk w7 w3.heap.size 3 [.int .i64 ((headN s).2.2.1 : Int)] := hpc.fr f7 (fun e => by have e : w3.heap.size = w4.heap.size := e; omega)
    have hff : Fr No w w7 := ((hf4.trans' f5).trans f6 (fun k hk => .inr (by have h : k = w1.heap.size ∨ k = w2.heap.size ∨ k = w3.heap.size := hk; omega))).trans f7 (fun k hk => .inr (by have e : k = w4.heap.size := hk; omega))
    have HFF := hid hff
    have HW := hid (show w.heap.size ≤ w1.heap.size ∧ w.heap.size ≤ w2.heap.size ∧ w.heap.size ≤ w3.heap.size ∧ w1.heap.size ≠ w2.heap.size ∧ w1.heap.size ≠ w3.heap.size ∧ w2.heap.size ≠ w3.heap.size by omega)
    rw [hoe]
    obtain ⟨X, hX⟩ : ∃ X, headN s = X := ⟨_, rfl⟩
    rw [hX] at ha hb hc ⊢
    obtain ⟨xt, xc, xh, xe⟩ := X
    have HX := hid hX
    simp only at ha hb hc
    have HA := hid ha; have HB := hid hb; have HC := hid hc
    clear f5 hs5 f6 hoe hpa hpb hpc f7 ha hb hc hff f24 f14 hf4 hs1 hs2 hs3 hs4 HB1 HB2 HB3 HB4 hX
    have k1 : w7.cell? ⟨w1.heap.size, 0, none⟩ = some (.int .i64 (xt : Int)) := HA.out.cell 0
    have k2 : w7.cell? ⟨w2.heap.size, 0, none⟩ = some (.int .i64 (xc : Int)) := HB.out.cell 0
    have k3 : w7.cell? ⟨w3.heap.size, 0, none⟩ = some (.int .i64 (xh : Int)) := HC.out.cell 0
    show (match Ending.returned (.int .i64 (xe : Int)), w7 with | _, _ => _)
    go_wp2_with fail
    have hold : Facts.hold [(0, fun w' => w'.cell? ⟨w1.heap.size, 0, none⟩ = some (.int .i64 (xt : Int))), (1, fun w' => w'.cell? ⟨w2.heap.size, 0, none⟩ = some (.int .i64 (xc : Int))), (2, fun w' => w'.cell? ⟨w3.heap.size, 0, none⟩ = some (.int .i64 (xh : Int)))] w7.drew := Facts.cons_hold k1 (Facts.cons_hold k2 (Facts.cons_hold k3 (Facts.nil_hold _)))
    refine wpD_region hold (by kernel_rfl) 8 rfl ?_
    (refine wpD_take 0 _ rfl (by kernel_rfl) (by kernel_rfl) (by kernel_rfl) (fun _ _ _ h => h) List.mem_cons_self (by rfl) (v := ?_) ?_ (by assumption) ?_; rotate_left; (intro _w _hw; go_simp; try with_reducible rfl); simp only [Act.put, List.setIfInBounds_toArray, List.set_cons_zero, List.set_cons_succ])
    (refine wpD_take 1 _ rfl (by kernel_rfl) (by kernel_rfl) (by kernel_rfl) (fun _ _ _ h => h) (List.mem_cons_of_mem _ List.mem_cons_self) (by rfl) (v := ?_) ?_ (by assumption) ?_; rotate_left; (intro _w _hw; go_simp; try with_reducible rfl); simp only [Act.put, List.setIfInBounds_toArray, List.set_cons_zero, List.set_cons_succ])
    (refine wpD_take 2 _ rfl (by kernel_rfl) (by kernel_rfl) (by kernel_rfl) (fun _ _ _ h => h) (List.mem_cons_of_mem _ (List.mem_cons_of_mem _ List.mem_cons_self)) (by rfl) (v := ?_) ?_ (by assumption) ?_; rotate_left; (intro _w _hw; go_simp; try with_reducible rfl); simp only [Act.put, List.setIfInBounds_toArray, List.set_cons_zero, List.set_cons_succ])
    (refine wpD_plain 3 (v := ?_) rfl (by kernel_rfl) (by kernel_rfl) (by kernel_rfl) (fun _ _ _ h => h) (by rfl) ?_ (by assumption) ?_; rotate_left; (intro _w; go_simp; try with_reducible rfl); simp only [Act.put, List.setIfInBounds_toArray, List.set_cons_zero, List.set_cons_succ])
    clear hold
    refine wpD_only 4 [(1, fun w' => w'.cell? ⟨w2.heap.size, 0, none⟩ = some (.int .i64 (xc : Int))), (2, fun w' => w'.cell? ⟨w3.heap.size, 0, none⟩ = some (.int .i64 (xh : Int)))] rfl (by kernel_rfl) (by kernel_rfl) (by rfl) (fun K4 hK4 => ?_)
    refine wp_storeV _ _ _ rfl w1.heap.size 0 (.int .i64 (xt : Int)) [.int .i64 (xt : Int)] rfl rfl rfl _ _ HA.out (by simp) infoI (by intro u hu; simp at hu; rcases hu with rfl; rfl) ?_
    intro w8 HB8 F8 HS8
    have f8 : Fr (fun k => k = w1.heap.size) w7 w8 := (Fr.refl _ w7).drew.trans' F8.out
    have a8 : Blk w8 w1.heap.size 3 [.int .i64 (xt : Int)] := by simpa [spl] using HB8.out
    have b8 : Blk w8 w2.heap.size 3 [.int .i64 (xc : Int)] := HB.out.fr f8 (fun e => HW.out.2.2.2.1 e.symm)
    have c8 : Blk w8 w3.heap.size 3 [.int .i64 (xh : Int)] := HC.out.fr f8 (fun e => HW.out.2.2.2.2.1 e.symm)
    refine hK4 _ _ (Facts.cons_hold (b8.cell 0) (Facts.cons_hold (c8.cell 0) (Facts.nil_hold _))) ?_
    clear hK4 K4
    simp only [Act.put, List.setIfInBounds_toArray, List.set_cons_zero, List.set_cons_succ]
    refine wpD_only 5 [(2, fun w' => w'.cell? ⟨w3.heap.size, 0, none⟩ = some (.int .i64 (xh : Int)))] rfl (by kernel_rfl) (by kernel_rfl) (by rfl) (fun K5 hK5 => ?_)
    refine wp_storeV _ _ _ rfl w2.heap.size 0 (.int .i64 (xc : Int)) [.int .i64 (xc : Int)] rfl rfl rfl _ _ b8 (by simp) infoI (by intro u hu; simp at hu; rcases hu with rfl; rfl) ?_
    intro w9 HB9 F9 HS9
    have a9 : Blk w9 w1.heap.size 3 [.int .i64 (xt : Int)] := a8.fr F9.out (fun e => HW.out.2.2.2.1 e)
    have b9 : Blk w9 w2.heap.size 3 [.int .i64 (xc : Int)] := by simpa [spl] using HB9.out
    have c9 : Blk w9 w3.heap.size 3 [.int .i64 (xh : Int)] := c8.fr F9.out (fun e => HW.out.2.2.2.2.2 e.symm)
    refine hK5 _ _ (Facts.cons_hold (c9.cell 0) (Facts.nil_hold _)) ?_
    clear hK5 K5
    simp only [Act.put, List.setIfInBounds_toArray, List.set_cons_zero, List.set_cons_succ]
    refine wpD_only 6 [] rfl (by kernel_rfl) (by kernel_rfl) (by rfl) (fun K6 hK6 => ?_)
    refine wp_storeV _ _ _ rfl w3.heap.size 0 (.int .i64 (xh : Int)) [.int .i64 (xh : Int)] rfl rfl rfl _ _ c9 (by simp) infoI (by intro u hu; simp at hu; rcases hu with rfl; rfl) ?_
    intro w10 HB10 F10 HS10
    have a10 : Blk w10 w1.heap.size 3 [.int .i64 (xt : Int)] := a9.fr F10.out (fun e => HW.out.2.2.2.2.1 e)
    have b10 : Blk w10 w2.heap.size 3 [.int .i64 (xc : Int)] := b9.fr F10.out (fun e => HW.out.2.2.2.2.2 e)
    have c10 : Blk w10 w3.heap.size 3 [.int .i64 (xh : Int)] := by simpa [spl] using HB10.out
    refine hK6 _ _ (Facts.nil_hold _) ?_
    clear hK6 K6
    simp only [Act.put, List.setIfInBounds_toArray, List.set_cons_zero, List.set_cons_succ]
    have hold : Facts.hold [] w10 := Facts.nil_hold _
    (refine wpD_plain 7 (v := ?_) rfl (by kernel_rfl) (by kernel_rfl) (by kernel_rfl) (fun _ _ _ h => h) (by rfl) ?_ (by assumption) ?_; rotate_left; (intro _w; go_simp; try with_reducible rfl); simp only [Act.put, List.setIfInBounds_toArray, List.set_cons_zero, List.set_cons_succ])
    clear hold
    refine wpD_done (by kernel_rfl) ?_ _
    go_wp2_with fail
    refine ret_ccct rfl rfl a10 rfl b10 rfl c10 Try.underlying3 rfl ?_
    have hw := HW.out
    rw [HX.out]
    exact ⟨rfl, ((HFF.out.trans f8 (fun k hk => .inr (by have e : k = w1.heap.size := hk; omega))).trans F9.out (fun k hk => .inr (by have e : k = w2.heap.size := hk; omega))).trans F10.out (fun k hk => .inr (by have e : k = w3.heap.size := hk; omega))⟩
end Go.Proofs.Ytoikiokcpakokaa.BE
