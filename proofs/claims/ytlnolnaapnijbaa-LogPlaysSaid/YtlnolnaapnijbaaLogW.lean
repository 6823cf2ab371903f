/-
  Package log: a sector is written.
-/
import Derived.Test.YtlnolnaapnijbaaLogC
namespace Go.Proofs.Ytlnolnaapnijbaa.L
set_option maxRecDepth 100000
open Go.RowKit K

@[simp] theorem write_L (u : U) (n : Int) (b : List UInt8) : (u.write n b).2.L = u.L := by
  unfold U.write
  (repeat' split) <;> simp
theorem putl_end {X b : List UInt8} (h : X.length = 64) (hb : b.length = 48) : putl X 16 b = X.take 16 ++ b := by
  simp [putl, hb, h]
theorem spl_u8s (X xs : List UInt8) (o : Nat) : spl (u8s X) o (u8s xs) = u8s (putl X o xs) := by
  simp [spl, putl, u8s]
def head6 (e l p f s : Nat) : List UInt8 := putl (putl (putl (putl (putl zeros64 4 (le 4 e)) 8 (le 4 l)) 12 (le 2 p)) 14 (le 1 f)) 15 (le 1 s)
theorem putl64 {l : List UInt8} {o k n : Nat} (h1 : l.length = 64) (h2 : o + k ≤ 64) : (putl l o (le k n)).length = 64 := by rw [putl_length (by simp; omega), h1]
theorem head6_len (e l p f s : Nat) : (head6 e l p f s).length = 64 :=
  putl64 (putl64 (putl64 (putl64 (putl64 rfl (by decide)) (by decide)) (by decide)) (by decide)) (by decide)
theorem head6_16 (e l p f s : Nat) (b : List UInt8) : (head6 e l p f s).take 16 ++ b = [0, 0, 0, 0] ++ rest e l p f s b := rfl
theorem made_put (e l p f s : Nat) (b : List UInt8) : putl ([0, 0, 0, 0] ++ rest e l p f s b) 0 (le 4 (S.add 0 (rest e l p f s b))) = made e l p f s b := by
  simp [putl, made]
theorem zero89 (w : World) : (zeroValue 116).run Try.prog w = .ok (.agg (u8s zeros64).toArray) w := by kernel_rfl
theorem hentWrite (vs : Array Value) (w : World) : (callFunc 36 vs).run Try.prog w = .ok (.enter 36 vs) w := by kernel_rfl

set_option maxHeartbeats 4000000 in
theorem write_any (w : World) (bg bd : Nat) (Z : Nat → Prop) (g : Lg) (u : U) (s : Sec) (h : At w bg bd Z g u) (hs : s.Ok) (hp : u.P.length < 1000000) :
    Calls Try.prog 59 #[.pointer (some ⟨bg, 0, none⟩), .agg (secCells s).toArray] w fun e w' =>
      e = .returned (.int .i64 (u.write (g.first + s.place : Nat) (made s.epoch s.life s.place s.kind s.size s.bytes)).1) ∧
        ∃ Z', At w' bg bd Z' g (u.write (g.first + s.place : Nat) (made s.epoch s.life s.place s.kind s.size s.bytes)).2 ∧ Fr Z w w' ∧ Grows w Z Z' := by
  obtain ⟨r, e, l, p, k, z, b⟩ := s
  obtain ⟨he, hl, hpl, hk, hz, h48⟩ := hs
  simp only at he hl hpl hk hz h48 ⊢
  have hL := h.lens
  have hf0 : (g.first : Int) ≤ 4096 := by have := h.2.2.2.fit; omega
  have HA := hid h
  have HP := hid hp
  have H48 := hid h48
  clear h hp h48
  have hmf : ∀ (fn : Fn) (first cap : Array Value) (w : World), (Instr.makeFunc fn first cap).run Try.prog w = .ok (.func fn first cap) w := fun _ _ _ _ => rfl
  go_enter Try.func59, Try.ntmps59
  go_wp2_with (first
    | ((with_reducible show wpList _ _ _ ({ dst := _, op := .box 114 _, type := _, pos := _, after := _, guard := _ } :: _) _ _); refine wpL_box rfl _ _ rfl _ rfl (secCells ⟨false, e, l, p, k, z, b⟩) rfl ?_; intro w1 HB1 HF1 HS1;
        have d0 : w1.cell? ⟨w.heap.size, 0, none⟩ = some (.int .u32 e) := HB1.out.cell 0)
    | ((with_reducible show wpList _ _ _ ({ dst := _, op := .alloc 116, type := _, pos := _, after := _, guard := _ } :: _) _ _); refine wpL_alloc rfl _ rfl _ zero89 (u8s zeros64) rfl ?_; intro w2 HB2 HF2 HS2; replace d0 := HF2.out.cell d0 id))
  have HZ : Hid (Fr No w w2) := hid (HF1.out.trans' HF2.out)
  have HBs : Hid (Blk w2 w.heap.size 114 (secCells ⟨false, e, l, p, k, z, b⟩)) := hid (HB1.out.fr HF2.out id)
  have HS2' : Hid (w1.heap.size = w.heap.size + 1) := HS1
  have hb1 : w1.heap.size ≠ w.heap.size := by have := HS1.out; omega
  refine (put_any w1.heap.size 4 4 e zeros64 w2 HB2.out rfl (by decide) he).mono ?_
  rintro e' w3 ⟨rfl, h1, h2, h3⟩
  have HP3 := hid h1; have HF3 := hid h2; clear h1 h2 h3
  have d1 : w3.cell? ⟨w.heap.size, 1, none⟩ = some (.int .u32 l) := HF3.out.cell (HBs.out.cell 1) (Ne.symm hb1)
  go_wp2_with fail
  have q1 : (putl zeros64 4 (le 4 e)).length = 64 := putl64 rfl (by decide)
  have q2 : (putl (putl zeros64 4 (le 4 e)) 8 (le 4 l)).length = 64 := putl64 q1 (by decide)
  have q3 : (putl (putl (putl zeros64 4 (le 4 e)) 8 (le 4 l)) 12 (le 2 p)).length = 64 := putl64 q2 (by decide)
  have q4 : (putl (putl (putl (putl zeros64 4 (le 4 e)) 8 (le 4 l)) 12 (le 2 p)) 14 (le 1 k)).length = 64 := putl64 q3 (by decide)
  have Q1 := hid q1; have Q2 := hid q2; have Q3 := hid q3; have Q4 := hid q4
  clear q1 q2 q3 q4
  refine (put_any w1.heap.size 8 4 l _ w3 HP3.out Q1.out (by decide) hl).mono ?_
  rintro e' w4 ⟨rfl, h1, h2, h3⟩
  have HP4 := hid h1; have HF4 := hid (HF3.out.trans' h2); clear h1 h2 h3 d1
  have d2 : w4.cell? ⟨w.heap.size, 2, none⟩ = some (.int .i64 p) := HF4.out.cell (HBs.out.cell 2) (Ne.symm hb1)
  go_wp2_with fail
  refine (put_any w1.heap.size 12 2 p _ w4 HP4.out Q2.out (by decide) (by omega)).mono ?_
  rintro e' w5 ⟨rfl, h1, h2, h3⟩
  have HP5 := hid h1; have HF5 := hid (HF4.out.trans' h2); clear h1 h2 h3 d2
  have d3 : w5.cell? ⟨w.heap.size, 3, none⟩ = some (.int .i64 k) := HF5.out.cell (HBs.out.cell 3) (Ne.symm hb1)
  go_wp2_with fail
  refine (put_any w1.heap.size 14 1 k _ w5 HP5.out Q3.out (by decide) (by omega)).mono ?_
  rintro e' w6 ⟨rfl, h1, h2, h3⟩
  have HP6 := hid h1; have HF6 := hid (HF5.out.trans' h2); clear h1 h2 h3 d3
  have d4 : w6.cell? ⟨w.heap.size, 4, none⟩ = some (.int .i64 z) := HF6.out.cell (HBs.out.cell 4) (Ne.symm hb1)
  go_wp2_with fail
  refine (put_any w1.heap.size 15 1 z _ w6 HP6.out Q4.out (by decide) (by omega)).mono ?_
  rintro e' w7 ⟨rfl, h1, h2, h3⟩
  have HP7 : Hid (Blk w7 w1.heap.size 116 (u8s (head6 e l p k z))) := hid h1
  have HF7 := hid (HF6.out.trans' h2); clear h1 h2 h3 d4
  go_wp2_with fail
  have HBs7 : Hid (Blk w7 w.heap.size 114 (secCells ⟨false, e, l, p, k, z, b⟩)) := hid (HBs.out.fr HF7.out (Ne.symm hb1))
  clear HP3 HP4 HP5 HP6 HF3 HF4 HF5 HF6 Q1 Q2 Q3 Q4 d0
  have hold : Facts.hold [] w7.drew := Facts.nil_hold _
  refine wpD_region hold (by kernel_rfl) 4 rfl ?_
  (refine wpD_plain 0 (v := ?_) rfl (by kernel_rfl) (by kernel_rfl) (by kernel_rfl) (fun _ _ _ h => h) (by rfl) ?_ (by assumption) ?_; rotate_left; (intro _w; go_simp; try with_reducible rfl); simp only [Act.put, List.setIfInBounds_toArray, List.set_cons_zero, List.set_cons_succ])
  (refine wpD_plain 1 (v := ?_) rfl (by kernel_rfl) (by kernel_rfl) (by kernel_rfl) (fun _ _ _ h => h) (by rfl) ?_ (by assumption) ?_; rotate_left; (intro _w; go_simp; try with_reducible rfl); simp only [Act.put, List.setIfInBounds_toArray, List.set_cons_zero, List.set_cons_succ])
  (refine wpD_plain 2 (v := ?_) rfl (by kernel_rfl) (by kernel_rfl) (by kernel_rfl) (fun _ _ _ h => h) (by rfl) ?_ (by assumption) ?_; rotate_left; (intro _w; go_simp; try with_reducible rfl); simp only [Act.put, List.setIfInBounds_toArray, List.set_cons_zero, List.set_cons_succ])
  refine wpD_only 3 [] rfl (by kernel_rfl) (by kernel_rfl) (by rfl) (fun K3 hK3 => ?_)
  refine wp_copyB _ _ _ _ rfl 5 rfl info8 w1.heap.size 16 48 48 (some ⟨w.heap.size, 5, none⟩) 48 48 (by rfl) (by rfl) 116 _ HP7.out.drew (u8s b) (by rw [u8s_length, H48.out]; rfl) ⟨_, rfl, ?_⟩ (by rw [u8s_length, u8s_length, H48.out, head6_len]; decide) (u8s_one _) ?_
  · refine range_loads (HBs7.out.range 5 (u8s b) ?_)
    simp only [secCells, List.drop_succ_cons, List.drop_zero, List.take_length]
  intro w8 HB8 HF8 HS8
  refine hK3 _ _ (Facts.nil_hold _) ?_
  clear hK3 K3 hold
  simp only [Act.put, List.setIfInBounds_toArray, List.set_cons_zero, List.set_cons_succ]
  refine wpD_done (by kernel_rfl) ?_ _
  have HP8 : Hid (Blk w8 w1.heap.size 116 (u8s ([0, 0, 0, 0] ++ rest e l p k z b))) := hid (by
    have := HB8.out
    rwa [spl_u8s, putl_end (head6_len e l p k z) H48.out, head6_16] at this)
  have HF8' : Hid (Fr (fun j => j = w1.heap.size) w2 w8) := hid (HF7.out.drew.trans' HF8.out)
  clear HB8 HF8 HP7
  have HX : Hid (([0, 0, 0, 0] ++ rest e l p k z b).drop 4 = rest e l p k z b) := hid rfl
  have HXl : Hid ((rest e l p k z b).length = 60) := hid (by rw [rest_length, H48.out])
  have HSum := hid (S.sum_at (rest e l p k z b) (some ⟨w1.heap.size, 4, none⟩) 60 w8 (fun i hi => ⟨_, _, rfl, by
    have := HP8.out.cell (4 + i)
    rw [this, u8s_get _ _ (by simp; omega), List.getElem_append_right (by simp)]
    simp⟩) (by rw [HXl.out]; decide))
  rw [HXl.out] at HSum
  have HSl : Hid (S.add 0 (rest e l p k z b) < 4294967296) := hid (S.add_lt (by decide) _)
  have HM : Hid (putl ([0, 0, 0, 0] ++ rest e l p k z b) 0 (le 4 (S.add 0 (rest e l p k z b))) = made e l p k z b) := hid (made_put _ _ _ _ _ _)
  go_wp2_with fail
  refine HSum.out.mono ?_
  rintro e' w' ⟨rfl, rfl⟩
  go_wp2_with fail
  refine (put_any w1.heap.size 0 4 _ _ w8 HP8.out (by simp [HXl.out]) (by decide) HSl.out).mono ?_
  rintro e' w9 ⟨rfl, h1, h2, h3⟩
  rw [HM.out] at h1
  have HP9 := hid h1; have HBs9 : Hid (Blk w9 w.heap.size 114 (secCells ⟨false, e, l, p, k, z, b⟩)) := hid (HBs.out.fr (HF8'.out.trans' h2) (Ne.symm hb1)); have HF9 : Hid (Fr No w w9) := hid ((HZ.out.trans (HF8'.out.trans' h2) (fun j hj => .inr (by have := HS1.out; omega)))); clear h1 h2 h3
  have HS9 : Hid (w.heap.size + 1 < w9.heap.size) := hid (by have := HS1.out; have := HP9.out.lt; omega)
  go_wp2_with fail
  have HA9 : Hid (At w9.drew bg bd Z g u) := hid (HA.out.no HF9.out.drew)
  have c0 : w9.cell? ⟨bg, 0, none⟩ = some (.pointer (some ⟨bd, 0, none⟩)) := HF9.out.cell (HA.out.2.1.cell 0) id
  have c1 : w9.cell? ⟨bg, 1, none⟩ = some (.int .i64 g.first) := HF9.out.cell (HA.out.2.1.cell 1) id
  have c2 : w9.cell? ⟨w.heap.size, 2, none⟩ = some (.int .i64 p) := HBs9.out.cell 2
  have hold : Facts.hold [(3, fun w' => w'.cell? ⟨bg, 0, none⟩ = some (.pointer (some ⟨bd, 0, none⟩))), (7, fun w' => w'.cell? ⟨bg, 1, none⟩ = some (.int .i64 g.first)), (9, fun w' => w'.cell? ⟨w.heap.size, 2, none⟩ = some (.int .i64 p))] w9.drew := Facts.cons_hold c0 (Facts.cons_hold c1 (Facts.cons_hold c2 (Facts.nil_hold _)))
  have WS : Hid (IntKind.i64.wrap ((g.first : Int) + p) = ((g.first + p : Nat) : Int)) := hid ((wrap_small (by omega) (by omega)).trans (by omega))
  refine wpD_region hold (by kernel_rfl) 14 rfl ?_
  (refine wpD_plain 0 (v := ?_) rfl (by kernel_rfl) (by kernel_rfl) (by kernel_rfl) (fun _ _ _ h => h) (by rfl) ?_ (by assumption) ?_; rotate_left; (intro _w; go_simp; try with_reducible rfl); simp only [Act.put, List.setIfInBounds_toArray, List.set_cons_zero, List.set_cons_succ])
  (refine wpD_plain 1 (v := ?_) rfl (by kernel_rfl) (by kernel_rfl) (by kernel_rfl) (fun _ _ _ h => h) (by rfl) ?_ (by assumption) ?_; rotate_left; (intro _w; go_simp; try with_reducible rfl); simp only [Act.put, List.setIfInBounds_toArray, List.set_cons_zero, List.set_cons_succ])
  (refine wpD_plain 2 (v := ?_) rfl (by kernel_rfl) (by kernel_rfl) (by kernel_rfl) (fun _ _ _ h => h) (by rfl) ?_ (by assumption) ?_; rotate_left; (intro _w; go_simp; try with_reducible rfl); simp only [Act.put, List.setIfInBounds_toArray, List.set_cons_zero, List.set_cons_succ])
  (refine wpD_take 3 _ rfl (by kernel_rfl) (by kernel_rfl) (by kernel_rfl) (fun _ _ _ h => h) List.mem_cons_self (by rfl) (v := ?_) ?_ (by assumption) ?_; rotate_left; (intro _w _hw; go_simp; try with_reducible rfl); simp only [Act.put, List.setIfInBounds_toArray, List.set_cons_zero, List.set_cons_succ])
  (refine wpD_plain 4 (v := ?_) rfl (by kernel_rfl) (by kernel_rfl) (by kernel_rfl) (fun _ _ _ h => h) (by rfl) ?_ (by assumption) ?_; rotate_left; (intro _w; go_simp; try with_reducible rfl); simp only [Act.put, List.setIfInBounds_toArray, List.set_cons_zero, List.set_cons_succ])
  (refine wpD_plain 5 (v := ?_) rfl (by kernel_rfl) (by kernel_rfl) (by kernel_rfl) (fun _ _ _ h => h) (by rfl) ?_ (by assumption) ?_; rotate_left; (intro _w; go_simp; try with_reducible rfl); simp only [Act.put, List.setIfInBounds_toArray, List.set_cons_zero, List.set_cons_succ])
  (refine wpD_plain 6 (v := ?_) rfl (by kernel_rfl) (by kernel_rfl) (by kernel_rfl) (fun _ _ _ h => h) (by rfl) ?_ (by assumption) ?_; rotate_left; (intro _w; go_simp; try with_reducible rfl); simp only [Act.put, List.setIfInBounds_toArray, List.set_cons_zero, List.set_cons_succ])
  (refine wpD_take 7 _ rfl (by kernel_rfl) (by kernel_rfl) (by kernel_rfl) (fun _ _ _ h => h) (List.mem_cons_of_mem _ List.mem_cons_self) (by rfl) (v := ?_) ?_ (by assumption) ?_; rotate_left; (intro _w _hw; go_simp; try with_reducible rfl); simp only [Act.put, List.setIfInBounds_toArray, List.set_cons_zero, List.set_cons_succ])
  (refine wpD_plain 8 (v := ?_) rfl (by kernel_rfl) (by kernel_rfl) (by kernel_rfl) (fun _ _ _ h => h) (by rfl) ?_ (by assumption) ?_; rotate_left; (intro _w; go_simp; try with_reducible rfl); simp only [Act.put, List.setIfInBounds_toArray, List.set_cons_zero, List.set_cons_succ])
  (refine wpD_take 9 _ rfl (by kernel_rfl) (by kernel_rfl) (by kernel_rfl) (fun _ _ _ h => h) (List.mem_cons_of_mem _ (List.mem_cons_of_mem _ List.mem_cons_self)) (by rfl) (v := ?_) ?_ (by assumption) ?_; rotate_left; (intro _w _hw; go_simp; try with_reducible rfl); simp only [Act.put, List.setIfInBounds_toArray, List.set_cons_zero, List.set_cons_succ])
  (refine wpD_plain 10 (v := (.int .i64 ((g.first + p : Nat) : Int))) rfl (by kernel_rfl) (by kernel_rfl) (by kernel_rfl) (fun _ _ _ h => h) (by rfl) ?_ (by assumption) ?_; (intro _w; go_simp; exact WS.out); simp only [Act.put, List.setIfInBounds_toArray, List.set_cons_zero, List.set_cons_succ])
  (refine wpD_plain 11 (v := ?_) rfl (by kernel_rfl) (by kernel_rfl) (by kernel_rfl) (fun _ _ _ h => h) (by rfl) ?_ (by assumption) ?_; rotate_left; (intro _w; go_simp; try with_reducible rfl); simp only [Act.put, List.setIfInBounds_toArray, List.set_cons_zero, List.set_cons_succ])
  refine wpD_only 12 [(7, fun w' => w'.cell? ⟨bg, 1, none⟩ = some (.int .i64 g.first)), (9, fun w' => w'.cell? ⟨w.heap.size, 2, none⟩ = some (.int .i64 p))] rfl (by kernel_rfl) (by kernel_rfl) (by rfl) (fun K12 hK12 => ?_)
  refine wp_call (.func 36) _ _ rfl 36 [] rfl hentWrite [.pointer (some ⟨bd, 0, none⟩), .int .i64 ((g.first + p : Nat) : Int), .slice (some ⟨w1.heap.size, 0, none⟩) 64 64] (by rfl) ?_
  have hlt : ∀ j, Z j → j < w.heap.size := HA.out.1.lt
  refine (dwrite_any ((g.first + p : Nat) : Int) _ (made e l p k z b) (fun j => j = w1.heap.size) ⟨_, 64, 64, rfl, made_length H48.out, Nat.le_refl _, .inr ⟨_, 0, rfl, rfl, HP9.out.drew.lt, HP9.out.drew.range 0 _ (by rw [List.drop_zero, List.take_length])⟩⟩ (fun j hj hz => by have := hlt j hz; have := HS1.out; omega) HA9.out.1 HP.out).mono ?_
  rintro e' w10 ⟨rfl, Z', h1, h2, h3⟩
  have f1 : w10.cell? ⟨bg, 1, none⟩ = some (.int .i64 g.first) := h2.cell (w := w9.drew) c1 HA.out.2.2.1
  have f2 : w10.cell? ⟨w.heap.size, 2, none⟩ = some (.int .i64 p) := h2.cell (w := w9.drew) c2 (fun hz => by have := hlt _ hz; exact Nat.lt_irrefl _ this)
  have hold2 : Facts.hold [(7, fun w' => w'.cell? ⟨bg, 1, none⟩ = some (.int .i64 g.first)), (9, fun w' => w'.cell? ⟨w.heap.size, 2, none⟩ = some (.int .i64 p))] w10 := Facts.cons_hold f1 (Facts.cons_hold f2 (Facts.nil_hold _))
  refine ⟨_, rfl, hK12 _ _ hold2 ?_⟩
  clear hK12 K12 hold
  simp only [Act.put, List.setIfInBounds_toArray, List.set_cons_zero, List.set_cons_succ]
  (refine wpD_plain 13 (v := ?_) rfl (by kernel_rfl) (by kernel_rfl) (by kernel_rfl) (fun _ _ _ h => h) (by rfl) ?_ (by assumption) ?_; rotate_left; (intro _w; go_simp; try with_reducible rfl); simp only [Act.put, List.setIfInBounds_toArray, List.set_cons_zero, List.set_cons_succ])
  refine wpD_done (by kernel_rfl) ?_ _
  go_wp2_with fail
  go_ret
  have hbg : ¬ Z' bg := fun hz => (h3 bg hz).elim HA.out.2.2.1 (fun hge => by
    have hge' : w9.heap.size ≤ bg := hge
    have := HA.out.2.1.lt
    have := HS9.out
    omega)
  refine ⟨rfl, Z', ⟨h1, HA9.out.2.1.fr h2 HA.out.2.2.1, hbg, ?_⟩, HF9.out.drew.no.trans' h2, fun j hj => (h3 j hj).imp id (fun hge => by
    have hge' : w9.heap.size ≤ j := hge
    have := HS9.out
    omega)⟩
  have hok := HA.out.2.2.2
  rwa [show (u.write ((g.first + p : Nat) : Int) (made e l p k z b)).2.L.length = u.L.length by rw [write_L]]
end Go.Proofs.Ytlnolnaapnijbaa.L
