/-
  Part 25 of the proof: StZ.
-/
import Derived.Test.YtflfmkokfbgclaaGreatRc24
import Derived.Test.YtflfmkokfbgclaaGreatRc18
set_option linter.unusedSimpArgs false
set_option linter.unusedVariables false
namespace Go.Proofs.YtflfmkokfbgclaaGreat.ST
set_option maxRecDepth 100000
open Go.RowKit K L

/-- A root is made durable: the answer, and the disk. -/
def U.wroot (u : U) (r : Rt) : Int × U := if (u.write 0 r.sec).1 = 0 then (u.write 0 r.sec).2.flush else u.write 0 r.sec
section
variable {w : World} {bd : Nat} {Z : Nat → Prop} {u : U}
theorem hentDW (vs : Array Value) (w : World) : (callFunc 85 vs).run Tryz.prog w = .ok (.enter 85 vs) w := by kernel_rfl
set_option maxHeartbeats 16000000 in
theorem writeRoot_any (r : Rt) (hr : r.Ok) (h : Dk w bd Z u) (hp : u.P.length < 1000000) : Calls Tryz.prog 65 #[vol bd, .agg r.cells.toArray] w fun e w' =>
    e = .returned (.int .i64 (U.wroot u r).1) ∧ ∃ Z', Dk w' bd Z' (U.wroot u r).2 ∧ Fr Z w w' ∧ Grows w Z Z' := by
  have H := hid h
  have HP := hid hp
  have HOK := hid hr
  have hZ : ∀ j, Z j → j < w.heap.size := h.lt
  have HZ := hid hZ
  obtain ⟨R, hR⟩ : ∃ R, U.wroot u r = R := ⟨_, rfl⟩
  have HR := hid hR
  rw [hR]
  clear h hR hp hr hZ
  go_enter Tryz.func65, Tryz.ntmps65
  go_wp2_with (first
    | ((with_reducible show wpList _ _ _ (⟨_, .box 59 _, _, _, _, _⟩ :: _) _ _); refine wpL_box rfl _ _ rfl _ rfl [pt bd] rfl ?_; intro w1 HB1 F1 HS1)
    | ((with_reducible show wpList _ _ _ (⟨_, .box 66 _, _, _, _, _⟩ :: _) _ _); refine wpL_box rfl _ _ rfl _ rfl r.cells rfl ?_; intro w2 HB2 F2 HS2; have hrq := HB2.out.range 0 r.cells rfl)
    | ((with_reducible show wpList _ _ _ (⟨_, .load 66 _, _, _, _, _⟩ :: _) _ _); refine wpL_load rfl _ _ rfl w1.heap.size 0 rfl r.cells _ hrq rfl rfl infoRt ?_)
    | fail)
  refine (sector_any r HOK.out w2).mono ?_
  rintro e w3 ⟨rfl, f3⟩
  have HV3 := hid ((HB1.out.fr F2.out id).fr f3 id)
  have HF3 := hid ((F1.out.trans' F2.out).trans' f3)
  clear f3 hrq HB1 F1 HS1 HB2 F2 HS2
  go_wp2_with (first
    | ((with_reducible show wpList _ _ _ (⟨_, .alloc 101, _, _, _, _⟩ :: _) _ _); refine wpL_alloc rfl _ rfl _ zero89 (u8s zeros64) rfl ?_; intro w4 HB4 F4 HS4)
    | ((with_reducible show wpList _ _ _ (⟨_, .store 101 _ _, _, _, _, _⟩ :: _) _ _); refine TR.wpL_storeV rfl _ _ _ rfl w3.heap.size 0 (.agg (u8s r.sec).toArray) (u8s r.sec) rfl rfl rfl _ _ HB4.out (by simp [u8s_length, Rt.sec_len, zeros64]) (by simp [info101, u8s_length, Rt.sec_len]) (u8s_one _) ?_; intro w5 HB5 F5 HS5; refine Hid.out ?_)
    | fail)
  refine hid ?_
  obtain ⟨bs, hbs⟩ : ∃ b, w3.heap.size = b := ⟨_, rfl⟩
  have HW3 := hid (show w.heap.size ≤ bs by have := HF3.out.size; omega)
  have f35 : Fr (fun k => k = bs) w3 w5 := F4.out.no.trans F5.out (fun k hk => .inl (by have e' : k = w3.heap.size := hk; omega))
  have HF5 := hid ((HF3.out.trans f35 (fun k hk => .inr (by have e' : k = bs := hk; have := HW3.out; omega))).drew)
  have HB5s : Hid (Blk w5.drew bs 101 (u8s r.sec)) := hid (by have h := HB5.out; rw [spl_full (by simp [u8s_length, Rt.sec_len, zeros64]), hbs] at h; exact h.drew)
  obtain ⟨bv, hbv⟩ : ∃ b, w.heap.size = b := ⟨_, rfl⟩
  rw [hbv] at HV3 ⊢
  have HV5 := hid ((HV3.out.fr f35 (fun e => by have e' : bv = bs := e; have := HV3.out.lt; omega)).drew)
  rw [hbs]
  have HVS := hid (show bv < bs by have := HV3.out.lt; omega)
  have HVW := hid hbv
  have H5 := hid (D.Rep.no H.out HF5.out)
  clear hbs hbv f35 HB4 F4 HS4 HB5 F5 HS5 HV3 HF3
  go_wp2_with fail
  have c0 : w5.cell? ⟨bv, 0, none⟩ = some (pt bd) := HV5.out.cell 0
  have hold : Facts.hold [(1, fun w' => w'.cell? ⟨bv, 0, none⟩ = some (pt bd))] w5.drew := Facts.cons_hold c0 (Facts.nil_hold _)
  refine wpD_region hold (by kernel_rfl) 5 rfl ?_
  (refine wpD_plain 0 (v := ?_) rfl (by kernel_rfl) (by kernel_rfl) (by kernel_rfl) (fun _ _ _ h => h) (by rfl) ?_ (by assumption) ?_; rotate_left; (intro _w; go_simp; try with_reducible rfl); simp only [Act.put, List.setIfInBounds_toArray, List.set_cons_zero, List.set_cons_succ])
  (refine wpD_take 1 _ rfl (by kernel_rfl) (by kernel_rfl) (by kernel_rfl) (fun _ _ _ h => h) List.mem_cons_self (by rfl) (v := ?_) ?_ (by assumption) ?_; rotate_left; (intro _w _hw; go_simp; try with_reducible rfl); simp only [Act.put, List.setIfInBounds_toArray, List.set_cons_zero, List.set_cons_succ])
  (refine wpD_plain 2 (v := ?_) rfl (by kernel_rfl) (by kernel_rfl) (by kernel_rfl) (fun _ _ _ h => h) (by rfl) ?_ (by assumption) ?_; rotate_left; (intro _w; go_simp; try with_reducible rfl); simp only [Act.put, List.setIfInBounds_toArray, List.set_cons_zero, List.set_cons_succ])
  clear hold
  refine wpD_only 3 [] rfl (by kernel_rfl) (by kernel_rfl) (by rfl) (fun K3 hK3 => ?_)
  refine wp_call (.func 85) _ _ rfl 85 [] rfl hentDW [.pointer (some ⟨bd, 0, none⟩), .int .i64 0, .slice (some ⟨bs, 0, none⟩) 64 64] (by rfl) ?_
  refine (dwrite_any 0 _ r.sec (fun j => j = bs) ⟨_, 64, 64, rfl, Rt.sec_len r, Nat.le_refl _, .inr ⟨_, 0, rfl, rfl, HB5s.out.lt, HB5s.out.range 0 _ (by rw [List.drop_zero, List.take_length])⟩⟩ (fun j hj hz => by have := HZ.out j hz; have := HW3.out; omega) H5.out HP.out).mono ?_
  rintro e' w6 ⟨rfl, Z', h1, h2, h3⟩
  have hold : Facts.hold [] w6 := Facts.nil_hold _
  refine ⟨_, rfl, hK3 _ _ hold ?_⟩
  clear hK3 K3
  simp only [Act.put, List.setIfInBounds_toArray, List.set_cons_zero, List.set_cons_succ]
  (refine wpD_plain 4 (v := ?_) rfl (by kernel_rfl) (by kernel_rfl) (by kernel_rfl) (fun _ _ _ h => h) (by rfl) ?_ (by assumption) ?_; rotate_left; (intro _w; go_simp; try with_reducible rfl); simp only [Act.put, List.setIfInBounds_toArray, List.set_cons_zero, List.set_cons_succ])
  refine wpD_done (by kernel_rfl) ?_ _
  clear hold
  have HD6 := hid h1
  have HF6 : Hid (Fr Z w w6) := hid (HF5.out.no.trans' h2)
  have HG6 : Hid (Grows w Z Z') := hid (fun j hj => (h3 j hj).imp id (fun hge => by have hge' : w5.drew.heap.size ≤ j := hge; have := HF5.out.size; omega))
  have c6 : w6.cell? ⟨bv, 0, none⟩ = some (pt bd) := h2.cell (w := w5.drew) c0 (fun hz => by have hz' : Z bv := hz; have := HZ.out _ hz'; have := HVW.out; omega)
  clear h1 h2 h3 c0
  obtain ⟨p, hp⟩ : ∃ p, u.write 0 r.sec = p := ⟨_, rfl⟩
  rw [hp] at HD6 ⊢
  have HRP : Hid ((if p.1 = 0 then p.2.flush else p) = R) := hid (by have h := HR.out; unfold U.wroot at h; rw [hp] at h; exact h)
  obtain ⟨c, u2⟩ := p
  simp only at HD6 HRP ⊢
  clear HR hp
  by_cases hc : c = 0
  · have HRQ : Hid (R = u2.flush) := hid (by have h := HRP.out; rw [if_pos hc] at h; exact h.symm)
    subst hc
    go_wp2_with fail
    refine (dflush_any HD6.out).mono ?_
    rintro e w7 ⟨rfl, h1, h2⟩
    go_wp2_with fail
    go_ret
    rw [HRQ.out]
    exact ⟨rfl, Z', h1, HF6.out.trans h2 HG6.out, HG6.out⟩
  · have HRQ : Hid (R = (c, u2)) := hid (by have h := HRP.out; rw [if_neg hc] at h; exact h.symm)
    go_wp2_with fail
    go_ret
    rw [HRQ.out]
    exact ⟨rfl, Z', HD6.out, HF6.out, HG6.out⟩
end
end Go.Proofs.YtflfmkokfbgclaaGreat.ST
