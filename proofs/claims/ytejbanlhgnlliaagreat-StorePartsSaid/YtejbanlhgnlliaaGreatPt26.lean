/-
  Part 26 of the proof: StY, StZ.
-/
import Derived.Test.YtejbanlhgnlliaaGreatPt24
import Derived.Test.YtejbanlhgnlliaaGreatPt25
import Derived.Test.YtejbanlhgnlliaaGreatPt19
namespace Go.Proofs.YtejbanlhgnlliaaGreat.ST
set_option maxRecDepth 100000
open Go.RowKit K L

/-- What readRoot tells of a disk, and its error. -/
def rootU (u : U) : Rt × Int :=
  if u.up = false then (⟨0, 0, 0, 0⟩, 10)
  else if 1 < (rtOf (u.sec 0)).area ∨ areaN u.L.length * 64 < (rtOf (u.sec 0)).len ∨ (rtOf (u.sec 0)).sec ≠ u.sec 0 then (⟨1, 0, 0, 0⟩, 0) else (rtOf (u.sec 0), 0)
theorem nm4_lt (l : List UInt8) : nm (l.take 4) < 4294967296 := Nat.lt_of_lt_of_le (nm_lt _) (Nat.pow_le_pow_right (by decide) (by simp; omega) : 256 ^ (l.take 4).length ≤ 256 ^ 4)
theorem rtOf_ok (l : List UInt8) : (rtOf l).Ok := ⟨(l.getD 6 0).toNat_lt, nm4_lt _, nm4_lt _, nm4_lt _⟩
theorem rt_one (r : Rt) : ∀ v ∈ r.cells, v.oneCell' = true := by
  intro v hv; simp [Rt.cells] at hv; rcases hv with rfl | rfl | rfl | rfl <;> rfl
theorem buildRt0 (w : World) : (Instr.build 66 #[]).run Tryz.prog w = .ok (.agg (Rt.cells ⟨0, 0, 0, 0⟩).toArray) w := by kernel_rfl
theorem buildRt1 (w : World) : (Instr.build 66 #[(0, .int .i64 1)]).run Tryz.prog w = .ok (.agg (Rt.cells ⟨1, 0, 0, 0⟩).toArray) w := by kernel_rfl
theorem zeroRt' (w : World) : (zeroValue 66).run Tryz.prog w = .ok (.agg (Rt.cells ⟨0, 0, 0, 0⟩).toArray) w := by kernel_rfl
theorem hentCap (vs : Array Value) (w : World) : (callFunc 36 vs).run Tryz.prog w = .ok (.enter 36 vs) w := by kernel_rfl
theorem hentSec (vs : Array Value) (w : World) : (callFunc 69 vs).run Tryz.prog w = .ok (.enter 69 vs) w := by kernel_rfl
theorem spl_rt (r r' : Rt) : spl r.cells 0 r'.cells = r'.cells := by simp [spl, Rt.cells]
theorem spl_full {cs vs : List Value} (h : vs.length = cs.length) : spl cs 0 vs = vs := by simp [spl, h]
section
variable {w : World} {bd : Nat} {Z : Nat → Prop} {u : U}
set_option maxHeartbeats 16000000 in
theorem readRoot_any (h : Dk w bd Z u) : Calls Tryz.prog 49 #[vol bd] w fun e w' => e = .returned (.tuple #[.agg (rootU u).1.cells.toArray, .int .i64 (rootU u).2]) ∧ Fr No w w' := by
  have H := hid h
  have hl := dk_len h
  obtain ⟨R, hR⟩ : ∃ R, rootU u = R := ⟨_, rfl⟩
  have HR := hid hR
  rw [hR]
  clear h hR
  have HN := hid hl.1
  clear hl
  go_enter Tryz.func49, Tryz.ntmps49
  go_wp2_with (first
    | ((with_reducible show wpList _ _ _ ({ dst := _, op := .box 59 _, type := _, pos := _, after := _, guard := _ } :: _) _ _); refine wpL_box rfl _ _ rfl _ rfl [pt bd] rfl ?_; intro w1 HB1 F1 HS1)
    | ((with_reducible show wpList _ _ _ ({ dst := _, op := .alloc 66, type := _, pos := _, after := _, guard := _ } :: _) _ _); refine wpL_alloc rfl _ rfl _ zeroRt' (Rt.cells ⟨0, 0, 0, 0⟩) rfl ?_; intro w2 HB2 F2 HS2; have x0 : w2.cell? ⟨w.heap.size, 0, none⟩ = some (pt bd) := F2.out.cell (HB1.out.cell 0) id)
    | fail)
  have HV2 := hid (HB1.out.fr F2.out id)
  have HZ2 : Hid (Fr No w w2) := hid (F1.out.trans' F2.out)
  have H2 := hid (D.Rep.no H.out HZ2.out)
  obtain ⟨br, hbr⟩ : ∃ b, w1.heap.size = b := ⟨_, rfl⟩
  obtain ⟨b0, hb0⟩ : ∃ b, w.heap.size = b := ⟨_, rfl⟩
  have HLE : Hid (b0 < br ∧ w.heap.size = b0 ∧ br < w2.heap.size) := hid (by have := HS1.out; have := HS2.out; omega)
  rw [hb0] at x0 HV2 ⊢
  rw [hbr] at HB2 ⊢
  clear hbr hb0 HB1 F1 HS1 F2 HS2
  cases hup : u.up with
  | false =>
    have HR2 : Hid (R = (⟨0, 0, 0, 0⟩, 10)) := hid (by have h := HR.out; unfold rootU at h; rw [if_pos hup] at h; exact h.symm)
    refine (dread_down 0 H2.out HN.out hup).mono ?_
    rintro e w3 ⟨ad, cap, rfl, f3⟩
    have HF3 := hid f3
    have HB3 := hid (HB2.out.fr f3 id)
    clear f3 HB2 hup HR
    go_wp2_with (first
      | ((with_reducible show wpList _ _ _ ({ dst := _, op := .build 66 _, type := _, pos := _, after := _, guard := _ } :: _) _ _); refine wpL_build rfl _ [] rfl (.agg (Rt.cells ⟨0, 0, 0, 0⟩).toArray) (buildRt0 _) ?_)
      | ((with_reducible show wpList _ _ _ ({ dst := _, op := .store 66 _ _, type := _, pos := _, after := _, guard := _ } :: _) _ _); refine TR.wpL_storeV rfl _ _ _ rfl br 0 (.agg (Rt.cells ⟨0, 0, 0, 0⟩).toArray) (Rt.cells ⟨0, 0, 0, 0⟩) rfl rfl rfl _ _ HB3.out (by simp [Rt.cells]) infoRt (rt_one _) ?_; intro w4 HB4 HF4 HS4)
      | fail)
    refine ret_cell2 rfl _ rfl HB4.out rfl rfl (by simp [spl, infoRt, Rt.cells]) rfl ?_
    rw [HR2.out, spl_rt]
    have hle := HLE.out
    exact ⟨rfl, (HZ2.out.trans' HF3.out).trans HF4.out (fun k hk => .inr (by have e' : k = br := hk; omega))⟩
  | true =>
    have h64 := sec64 H2.out HN.out
    obtain ⟨s, hs⟩ : ∃ s, u.sec 0 = s := ⟨_, rfl⟩
    have HR2 : Hid ((if 1 < (rtOf s).area ∨ areaN u.L.length * 64 < (rtOf s).len ∨ (rtOf s).sec ≠ s then (⟨1, 0, 0, 0⟩, 0) else (rtOf s, 0)) = R) := hid (by have h := HR.out; unfold rootU at h; rw [if_neg (by simp [hup]), hs] at h; exact h)
    refine (dread_any 0 H2.out HN.out hup).mono ?_
    rintro e w3 ⟨ad, cap, rfl, hcap, hat, ⟨k0, o0, rfl, hk1, hk2⟩, f3⟩
    rw [hs] at h64 hat
    have HS64 := hid h64; have HAT := hid hat
    have HF3 := hid f3
    have HB3 := hid (HB2.out.fr f3 id); have HV3 := hid (HV2.out.fr f3 id)
    have HK := hid (And.intro hk1 hk2)
    clear f3 HB2 HV2 hup HR hs h64 hat hk1 hk2 x0
    have hrg := at_range HAT.out
    go_wp2_with (first
      | ((with_reducible show wpList _ _ _ ({ dst := _, op := .sliceToArrayPointer 101 _, type := _, pos := _, after := _, guard := _ } :: _) _ _); refine wpL_toArr rfl _ _ rfl 64 _ Tryz.underlying101 _ _ _ rfl (Nat.le_refl _) ?_)
      | ((with_reducible show wpList _ _ _ ({ dst := _, op := .load 101 _, type := _, pos := _, after := _, guard := _ } :: _) _ _); refine wpL_load rfl _ _ rfl k0 o0 rfl (u8s s) _ hrg rfl rfl (by simp [info101, u8s_length, HS64.out]) ?_)
      | ((with_reducible show wpList _ _ _ ({ dst := _, op := .alloc 101, type := _, pos := _, after := _, guard := _ } :: _) _ _); refine wpL_alloc rfl _ rfl _ zero89 (u8s zeros64) rfl ?_; intro w4 HB4 F4 HS4)
      | ((with_reducible show wpList _ _ _ ({ dst := _, op := .store 101 _ _, type := _, pos := _, after := _, guard := _ } :: _) _ _); refine TR.wpL_storeV rfl _ _ _ rfl w3.heap.size 0 (.agg (u8s s).toArray) (u8s s) rfl rfl rfl _ _ HB4.out (by simp [u8s_length, HS64.out, zeros64]) (by simp [info101, u8s_length, HS64.out]) (u8s_one _) ?_; intro w5 HB5 F5 HS5; refine Hid.out ?_)
      | fail)
    refine hid ?_
    have HB5s : Hid (Blk w5 w3.heap.size 101 (u8s s)) := hid (by have h := HB5.out; rwa [spl_full (by simp [u8s_length, HS64.out, zeros64])] at h)
    have HF5 : Hid (Fr No w2 w5) := hid ((HF3.out.trans' F4.out).trans F5.out (fun k hk => .inr (by have e' : k = w3.heap.size := hk; have := HF3.out.size; omega)))
    have hbs : w2.heap.size ≤ w3.heap.size := HF3.out.size
    obtain ⟨bs, hbse⟩ : ∃ b, w3.heap.size = b := ⟨_, rfl⟩
    have HNS := hid (show br < bs by have := HLE.out; omega)
    have HB5r := hid (HB3.out.fr (F4.out.no.trans F5.out (fun k hk => .inl hk)) (fun e => by have e' : br = w3.heap.size := e; have := HNS.out; omega))
    have HV5 := hid (HV3.out.fr (F4.out.no.trans F5.out (fun k hk => .inl hk)) (fun e => by have e' : b0 = w3.heap.size := e; have := HNS.out; have := HLE.out; omega))
    rw [hbse] at HB5s ⊢
    clear hbse hbs HB4 F4 HS4 HB5 F5 HS5 HB3 HV3 HAT hrg HF3
    have hrs := HB5s.out.range 0 (u8s s) (by simp)
    go_wp2_with (first
      | ((with_reducible show wpList _ _ _ ({ dst := _, op := .load 101 _, type := _, pos := _, after := _, guard := _ } :: _) _ _); refine wpL_load rfl _ _ rfl bs 0 rfl (u8s s) _ hrs rfl rfl (by simp [info101, u8s_length, HS64.out]) ?_)
      | fail)
    refine (rootOf_any s HS64.out w5).mono ?_
    rintro e w6 ⟨rfl, f6⟩
    have HOK := hid (rtOf_ok s)
    obtain ⟨r, hr⟩ : ∃ r, rtOf s = r := ⟨_, rfl⟩
    rw [hr] at HR2 HOK ⊢
    have HF6 := hid (HF5.out.trans' f6)
    have HB6s := hid (HB5s.out.fr f6 id); have HB6r := hid (HB5r.out.fr f6 id); have HV6 := hid (HV5.out.fr f6 id)
    clear f6 hr HB5s HB5r HV5 HF5 hrs
    go_wp2_with (first
      | ((with_reducible show wpList _ _ _ ({ dst := _, op := .alloc 66, type := _, pos := _, after := _, guard := _ } :: _) _ _); refine wpL_alloc rfl _ rfl _ zeroRt' (Rt.cells ⟨0, 0, 0, 0⟩) rfl ?_; intro w7 HB7 F7 HS7)
      | ((with_reducible show wpList _ _ _ ({ dst := _, op := .store 66 _ _, type := _, pos := _, after := _, guard := _ } :: _) _ _); refine TR.wpL_storeV rfl _ _ _ rfl w6.heap.size 0 (.agg r.cells.toArray) r.cells rfl rfl rfl _ _ HB7.out (by simp [Rt.cells]) infoRt (rt_one _) ?_; intro w8 HB8 F8 HS8; refine Hid.out ?_)
      | fail)
    refine hid ?_
    have hle := HLE.out
    have h26 := HF6.out.size
    have HNB := hid (show bs < w6.heap.size from HB6s.out.lt)
    obtain ⟨bq, hbq⟩ : ∃ b, w6.heap.size = b := ⟨_, rfl⟩
    have f68 : Fr (fun k => k = bq) w6 w8 := F7.out.no.trans F8.out (fun k hk => .inl (by have e' : k = w6.heap.size := hk; omega))
    have HF8 : Hid (Fr No w w8.drew) := hid ((HZ2.out.trans' (HF6.out.trans f68 (fun k hk => .inr (by have e' : k = bq := hk; omega)))).drew)
    rw [hbq] at HNB
    have HNQ := hid (show br < bq ∧ b0 < bq ∧ bs < bq by have := HNB.out; have := HNS.out; omega)
    have HB8s := hid (HB6s.out.fr f68 (fun e => by have e' : bs = bq := e; have := HNQ.out; omega)).drew
    have HB8r := hid (HB6r.out.fr f68 (fun e => by have e' : br = bq := e; have := HNQ.out; omega)).drew
    have HV8 := hid (HV6.out.fr f68 (fun e => by have e' : b0 = bq := e; have := HNQ.out; omega)).drew
    have HB8q : Hid (Blk w8.drew bq 66 r.cells) := hid (by have h := HB8.out; rw [spl_rt, hbq] at h; exact h.drew)
    rw [hbq]
    have H8 := hid (D.Rep.no H.out HF8.out)
    clear f68 hbq hle h26 HB7 F7 HS7 HB8 F8 HS8 HB6s HB6r HV6 HF6 HZ2 H2
    go_wp2_with fail
    have q0 : w8.cell? ⟨bq, 0, none⟩ = some (.int .i64 (r.area : Int)) := HB8q.out.cell 0
    have q2 : w8.cell? ⟨bq, 2, none⟩ = some (.int .i64 (r.len : Int)) := HB8q.out.cell 2
    have hold : Facts.hold [(1, fun w' => w'.cell? ⟨bq, 0, none⟩ = some (.int .i64 (r.area : Int))), (5, fun w' => w'.cell? ⟨bq, 2, none⟩ = some (.int .i64 (r.len : Int))), (6, fun w' => w'.rangeAt b0 0 [pt bd]), (11, fun w' => w'.rangeAt bq 0 r.cells), (13, fun w' => w'.rangeAt bs 0 (u8s s))] w8.drew := Facts.cons_hold q0 (Facts.cons_hold q2 (Facts.cons_hold (HV8.out.range 0 _ rfl) (Facts.cons_hold (HB8q.out.range 0 _ rfl) (Facts.cons_hold (HB8s.out.range 0 _ (by simp)) (Facts.nil_hold _)))))
    by_cases ha : 1 < r.area
    · have HR3 : Hid (R = (⟨1, 0, 0, 0⟩, 0)) := hid (by have h := HR2.out; rw [if_pos (.inl ha)] at h; exact h.symm)
      have hai : (1 : Int) < r.area := by omega
      refine wpD_region hold (by kernel_rfl) 16 rfl ?_
      (refine wpD_plain 0 (v := ?_) rfl (by kernel_rfl) (by kernel_rfl) (by kernel_rfl) (fun _ _ _ h => h) (by rfl) ?_ (by assumption) ?_; rotate_left; (intro _w; go_simp; try with_reducible rfl); simp only [Act.put, List.setIfInBounds_toArray, List.set_cons_zero, List.set_cons_succ])
      (refine wpD_take 1 _ rfl (by kernel_rfl) (by kernel_rfl) (by kernel_rfl) (fun _ _ _ h => h) List.mem_cons_self (by rfl) (v := ?_) ?_ (by assumption) ?_; rotate_left; (intro _w _hw; go_simp; try with_reducible rfl); simp only [Act.put, List.setIfInBounds_toArray, List.set_cons_zero, List.set_cons_succ])
      (refine wpD_plain 2 (v := (.bool true)) rfl (by kernel_rfl) (by kernel_rfl) (by kernel_rfl) (fun _ _ _ h => h) (by rfl) ?_ (by assumption) ?_; (intro _w; go_simp; skip); simp only [Act.put, List.setIfInBounds_toArray, List.set_cons_zero, List.set_cons_succ])
      (refine wpD_plain 3 (v := ?_) rfl (by kernel_rfl) (by kernel_rfl) (by kernel_rfl) (fun _ _ _ h => h) (by rfl) ?_ (by assumption) ?_; rotate_left; (intro _w; go_simp; try with_reducible rfl); simp only [Act.put, List.setIfInBounds_toArray, List.set_cons_zero, List.set_cons_succ])
      (refine wpD_skip 4 rfl (by kernel_rfl) (by kernel_rfl) (by kernel_rfl) (fun _ _ _ h => h) (by rfl) (by assumption) ?_; simp only [Act.put, List.setIfInBounds_toArray, List.set_cons_zero, List.set_cons_succ])
      (refine wpD_skip 5 rfl (by kernel_rfl) (by kernel_rfl) (by kernel_rfl) (fun _ _ _ h => h) (by rfl) (by assumption) ?_; simp only [Act.put, List.setIfInBounds_toArray, List.set_cons_zero, List.set_cons_succ])
      (refine wpD_skip 6 rfl (by kernel_rfl) (by kernel_rfl) (by kernel_rfl) (fun _ _ _ h => h) (by rfl) (by assumption) ?_; simp only [Act.put, List.setIfInBounds_toArray, List.set_cons_zero, List.set_cons_succ])
      (refine wpD_skip 7 rfl (by kernel_rfl) (by kernel_rfl) (by kernel_rfl) (fun _ _ _ h => h) (by rfl) (by assumption) ?_; simp only [Act.put, List.setIfInBounds_toArray, List.set_cons_zero, List.set_cons_succ])
      (refine wpD_skip 8 rfl (by kernel_rfl) (by kernel_rfl) (by kernel_rfl) (fun _ _ _ h => h) (by rfl) (by assumption) ?_; simp only [Act.put, List.setIfInBounds_toArray, List.set_cons_zero, List.set_cons_succ])
      (refine wpD_plain 9 (v := ?_) rfl (by kernel_rfl) (by kernel_rfl) (by kernel_rfl) (fun _ _ _ h => h) (by rfl) ?_ (by assumption) ?_; rotate_left; (intro _w; go_simp; try with_reducible rfl); simp only [Act.put, List.setIfInBounds_toArray, List.set_cons_zero, List.set_cons_succ])
      (refine wpD_plain 10 (v := ?_) rfl (by kernel_rfl) (by kernel_rfl) (by kernel_rfl) (fun _ _ _ h => h) (by rfl) ?_ (by assumption) ?_; rotate_left; (intro _w; go_simp; try with_reducible rfl); simp only [Act.put, List.setIfInBounds_toArray, List.set_cons_zero, List.set_cons_succ])
      (refine wpD_skip 11 rfl (by kernel_rfl) (by kernel_rfl) (by kernel_rfl) (fun _ _ _ h => h) (by rfl) (by assumption) ?_; simp only [Act.put, List.setIfInBounds_toArray, List.set_cons_zero, List.set_cons_succ])
      (refine wpD_skip 12 rfl (by kernel_rfl) (by kernel_rfl) (by kernel_rfl) (fun _ _ _ h => h) (by rfl) (by assumption) ?_; simp only [Act.put, List.setIfInBounds_toArray, List.set_cons_zero, List.set_cons_succ])
      (refine wpD_skip 13 rfl (by kernel_rfl) (by kernel_rfl) (by kernel_rfl) (fun _ _ _ h => h) (by rfl) (by assumption) ?_; simp only [Act.put, List.setIfInBounds_toArray, List.set_cons_zero, List.set_cons_succ])
      (refine wpD_skip 14 rfl (by kernel_rfl) (by kernel_rfl) (by kernel_rfl) (fun _ _ _ h => h) (by rfl) (by assumption) ?_; simp only [Act.put, List.setIfInBounds_toArray, List.set_cons_zero, List.set_cons_succ])
      (refine wpD_plain 15 (v := ?_) rfl (by kernel_rfl) (by kernel_rfl) (by kernel_rfl) (fun _ _ _ h => h) (by rfl) ?_ (by assumption) ?_; rotate_left; (intro _w; go_simp; try with_reducible rfl); simp only [Act.put, List.setIfInBounds_toArray, List.set_cons_zero, List.set_cons_succ])
      refine wpD_done (by kernel_rfl) ?_ _
      clear hold
      go_wp2_with (first
        | ((with_reducible show wpList _ _ _ ({ dst := _, op := .build 66 _, type := _, pos := _, after := _, guard := _ } :: _) _ _); refine wpL_build rfl _ [(0, .const (.int .i64 1))] rfl (.agg (Rt.cells ⟨1, 0, 0, 0⟩).toArray) (buildRt1 _) ?_)
        | ((with_reducible show wpList _ _ _ ({ dst := _, op := .store 66 _ _, type := _, pos := _, after := _, guard := _ } :: _) _ _); refine TR.wpL_storeV rfl _ _ _ rfl br 0 (.agg (Rt.cells ⟨1, 0, 0, 0⟩).toArray) (Rt.cells ⟨1, 0, 0, 0⟩) rfl rfl rfl _ _ HB8r.out (by simp [Rt.cells]) infoRt (rt_one _) ?_; intro w4 HB4 HF4 HS4)
        | fail)
      refine ret_cell2 rfl _ rfl HB4.out rfl rfl (by simp [spl, infoRt, Rt.cells]) rfl ?_
      rw [HR3.out, spl_rt]
      have hle := HLE.out
      exact ⟨rfl, HF8.out.trans HF4.out (fun k hk => .inr (by have e' : k = br := hk; omega))⟩
    · have hai : ¬ (1 : Int) < r.area := by omega
      by_cases hn : areaN u.L.length * 64 < r.len
      · have HR3 : Hid (R = (⟨1, 0, 0, 0⟩, 0)) := hid (by have h := HR2.out; rw [if_pos (.inr (.inl hn))] at h; exact h.symm)
        have hni : ((areaN u.L.length * 64 : Nat) : Int) < r.len := by omega
        obtain ⟨c, hc⟩ : ∃ c, ((areaN u.L.length * 64 : Nat) : Int) = c := ⟨_, rfl⟩
        have HCP := hid hc
        rw [hc] at hni
        clear hc
        refine wpD_region hold (by kernel_rfl) 16 rfl ?_
        (refine wpD_plain 0 (v := ?_) rfl (by kernel_rfl) (by kernel_rfl) (by kernel_rfl) (fun _ _ _ h => h) (by rfl) ?_ (by assumption) ?_; rotate_left; (intro _w; go_simp; try with_reducible rfl); simp only [Act.put, List.setIfInBounds_toArray, List.set_cons_zero, List.set_cons_succ])
        (refine wpD_take 1 _ rfl (by kernel_rfl) (by kernel_rfl) (by kernel_rfl) (fun _ _ _ h => h) List.mem_cons_self (by rfl) (v := ?_) ?_ (by assumption) ?_; rotate_left; (intro _w _hw; go_simp; try with_reducible rfl); simp only [Act.put, List.setIfInBounds_toArray, List.set_cons_zero, List.set_cons_succ])
        (refine wpD_plain 2 (v := (.bool false)) rfl (by kernel_rfl) (by kernel_rfl) (by kernel_rfl) (fun _ _ _ h => h) (by rfl) ?_ (by assumption) ?_; (intro _w; go_simp; skip); simp only [Act.put, List.setIfInBounds_toArray, List.set_cons_zero, List.set_cons_succ])
        (refine wpD_plain 3 (v := ?_) rfl (by kernel_rfl) (by kernel_rfl) (by kernel_rfl) (fun _ _ _ h => h) (by rfl) ?_ (by assumption) ?_; rotate_left; (intro _w; go_simp; try with_reducible rfl); simp only [Act.put, List.setIfInBounds_toArray, List.set_cons_zero, List.set_cons_succ])
        (refine wpD_plain 4 (v := ?_) rfl (by kernel_rfl) (by kernel_rfl) (by kernel_rfl) (fun _ _ _ h => h) (by rfl) ?_ (by assumption) ?_; rotate_left; (intro _w; go_simp; try with_reducible rfl); simp only [Act.put, List.setIfInBounds_toArray, List.set_cons_zero, List.set_cons_succ])
        (refine wpD_take 5 _ rfl (by kernel_rfl) (by kernel_rfl) (by kernel_rfl) (fun _ _ _ h => h) (List.mem_cons_of_mem _ List.mem_cons_self) (by rfl) (v := ?_) ?_ (by assumption) ?_; rotate_left; (intro _w _hw; go_simp; try with_reducible rfl); simp only [Act.put, List.setIfInBounds_toArray, List.set_cons_zero, List.set_cons_succ])
        (refine wpD_take 6 _ rfl (by kernel_rfl) (by kernel_rfl) (by kernel_rfl) (fun _ _ _ h => h) (List.mem_cons_of_mem _ (List.mem_cons_of_mem _ List.mem_cons_self)) (by rfl) (exec_load _ _ rfl b0 0 rfl _ _ rfl rfl infoVol) (by assumption) ?_; simp only [Act.put, List.setIfInBounds_toArray, List.set_cons_zero, List.set_cons_succ])
        clear hold
        refine wpD_only 7 [(1, fun w' => w'.cell? ⟨bq, 0, none⟩ = some (.int .i64 (r.area : Int))), (5, fun w' => w'.cell? ⟨bq, 2, none⟩ = some (.int .i64 (r.len : Int))), (11, fun w' => w'.rangeAt bq 0 r.cells), (13, fun w' => w'.rangeAt bs 0 (u8s s))] rfl (by kernel_rfl) (by kernel_rfl) (by rfl) (fun K7 hK7 => ?_)
        refine wp_call (.func 36) _ _ rfl 36 [] rfl hentCap [vol bd] (by rfl) ?_
        refine (capacity_any H8.out).mono ?_
        rintro e w9 ⟨rfl, f9⟩
        have hold : Facts.hold [(1, fun w' => w'.cell? ⟨bq, 0, none⟩ = some (.int .i64 (r.area : Int))), (5, fun w' => w'.cell? ⟨bq, 2, none⟩ = some (.int .i64 (r.len : Int))), (11, fun w' => w'.rangeAt bq 0 r.cells), (13, fun w' => w'.rangeAt bs 0 (u8s s))] w9 := Facts.cons_hold (f9.cell (w := w8.drew) q0 id) (Facts.cons_hold (f9.cell (w := w8.drew) q2 id) (Facts.cons_hold ((HB8q.out.fr f9 id).range 0 _ rfl) (Facts.cons_hold ((HB8s.out.fr f9 id).range 0 _ (by simp)) (Facts.nil_hold _))))
        refine ⟨_, rfl, hK7 _ _ hold ?_⟩
        clear hK7 K7
        have HB9r := hid (HB8r.out.fr f9 id)
        have HF9 := hid (HF8.out.trans' f9)
        have HB9q := hid (HB8q.out.fr f9 id)
        have HB9s := hid (HB8s.out.fr f9 id)
        clear f9
        simp only [Act.put, List.setIfInBounds_toArray, List.set_cons_zero, List.set_cons_succ]
        rw [HCP.out]
        (refine wpD_plain 8 (v := (.bool true)) rfl (by kernel_rfl) (by kernel_rfl) (by kernel_rfl) (fun _ _ _ h => h) (by rfl) ?_ (by assumption) ?_; (intro _w; go_simp; skip); simp only [Act.put, List.setIfInBounds_toArray, List.set_cons_zero, List.set_cons_succ])
        (refine wpD_plain 9 (v := ?_) rfl (by kernel_rfl) (by kernel_rfl) (by kernel_rfl) (fun _ _ _ h => h) (by rfl) ?_ (by assumption) ?_; rotate_left; (intro _w; go_simp; try with_reducible rfl); simp only [Act.put, List.setIfInBounds_toArray, List.set_cons_zero, List.set_cons_succ])
        (refine wpD_plain 10 (v := ?_) rfl (by kernel_rfl) (by kernel_rfl) (by kernel_rfl) (fun _ _ _ h => h) (by rfl) ?_ (by assumption) ?_; rotate_left; (intro _w; go_simp; try with_reducible rfl); simp only [Act.put, List.setIfInBounds_toArray, List.set_cons_zero, List.set_cons_succ])
        (refine wpD_skip 11 rfl (by kernel_rfl) (by kernel_rfl) (by kernel_rfl) (fun _ _ _ h => h) (by rfl) (by assumption) ?_; simp only [Act.put, List.setIfInBounds_toArray, List.set_cons_zero, List.set_cons_succ])
        (refine wpD_skip 12 rfl (by kernel_rfl) (by kernel_rfl) (by kernel_rfl) (fun _ _ _ h => h) (by rfl) (by assumption) ?_; simp only [Act.put, List.setIfInBounds_toArray, List.set_cons_zero, List.set_cons_succ])
        (refine wpD_skip 13 rfl (by kernel_rfl) (by kernel_rfl) (by kernel_rfl) (fun _ _ _ h => h) (by rfl) (by assumption) ?_; simp only [Act.put, List.setIfInBounds_toArray, List.set_cons_zero, List.set_cons_succ])
        (refine wpD_skip 14 rfl (by kernel_rfl) (by kernel_rfl) (by kernel_rfl) (fun _ _ _ h => h) (by rfl) (by assumption) ?_; simp only [Act.put, List.setIfInBounds_toArray, List.set_cons_zero, List.set_cons_succ])
        (refine wpD_plain 15 (v := ?_) rfl (by kernel_rfl) (by kernel_rfl) (by kernel_rfl) (fun _ _ _ h => h) (by rfl) ?_ (by assumption) ?_; rotate_left; (intro _w; go_simp; try with_reducible rfl); simp only [Act.put, List.setIfInBounds_toArray, List.set_cons_zero, List.set_cons_succ])
        refine wpD_done (by kernel_rfl) ?_ _
        clear hold
        go_wp2_with (first
          | ((with_reducible show wpList _ _ _ ({ dst := _, op := .build 66 _, type := _, pos := _, after := _, guard := _ } :: _) _ _); refine wpL_build rfl _ [(0, .const (.int .i64 1))] rfl (.agg (Rt.cells ⟨1, 0, 0, 0⟩).toArray) (buildRt1 _) ?_)
          | ((with_reducible show wpList _ _ _ ({ dst := _, op := .store 66 _ _, type := _, pos := _, after := _, guard := _ } :: _) _ _); refine TR.wpL_storeV rfl _ _ _ rfl br 0 (.agg (Rt.cells ⟨1, 0, 0, 0⟩).toArray) (Rt.cells ⟨1, 0, 0, 0⟩) rfl rfl rfl _ _ HB9r.out (by simp [Rt.cells]) infoRt (rt_one _) ?_; intro w4 HB4 HF4 HS4)
          | fail)
        refine ret_cell2 rfl _ rfl HB4.out rfl rfl (by simp [spl, infoRt, Rt.cells]) rfl ?_
        rw [HR3.out, spl_rt]
        have hle := HLE.out
        exact ⟨rfl, HF9.out.trans HF4.out (fun k hk => .inr (by have e' : k = br := hk; omega))⟩
      · have hni : ¬ ((areaN u.L.length * 64 : Nat) : Int) < r.len := by omega
        obtain ⟨c, hc⟩ : ∃ c, ((areaN u.L.length * 64 : Nat) : Int) = c := ⟨_, rfl⟩
        have HCP := hid hc
        have HNA := hid (And.intro ha hn)
        rw [hc] at hni
        clear hc ha hn
        refine wpD_region hold (by kernel_rfl) 16 rfl ?_
        (refine wpD_plain 0 (v := ?_) rfl (by kernel_rfl) (by kernel_rfl) (by kernel_rfl) (fun _ _ _ h => h) (by rfl) ?_ (by assumption) ?_; rotate_left; (intro _w; go_simp; try with_reducible rfl); simp only [Act.put, List.setIfInBounds_toArray, List.set_cons_zero, List.set_cons_succ])
        (refine wpD_take 1 _ rfl (by kernel_rfl) (by kernel_rfl) (by kernel_rfl) (fun _ _ _ h => h) List.mem_cons_self (by rfl) (v := ?_) ?_ (by assumption) ?_; rotate_left; (intro _w _hw; go_simp; try with_reducible rfl); simp only [Act.put, List.setIfInBounds_toArray, List.set_cons_zero, List.set_cons_succ])
        (refine wpD_plain 2 (v := (.bool false)) rfl (by kernel_rfl) (by kernel_rfl) (by kernel_rfl) (fun _ _ _ h => h) (by rfl) ?_ (by assumption) ?_; (intro _w; go_simp; skip); simp only [Act.put, List.setIfInBounds_toArray, List.set_cons_zero, List.set_cons_succ])
        (refine wpD_plain 3 (v := ?_) rfl (by kernel_rfl) (by kernel_rfl) (by kernel_rfl) (fun _ _ _ h => h) (by rfl) ?_ (by assumption) ?_; rotate_left; (intro _w; go_simp; try with_reducible rfl); simp only [Act.put, List.setIfInBounds_toArray, List.set_cons_zero, List.set_cons_succ])
        (refine wpD_plain 4 (v := ?_) rfl (by kernel_rfl) (by kernel_rfl) (by kernel_rfl) (fun _ _ _ h => h) (by rfl) ?_ (by assumption) ?_; rotate_left; (intro _w; go_simp; try with_reducible rfl); simp only [Act.put, List.setIfInBounds_toArray, List.set_cons_zero, List.set_cons_succ])
        (refine wpD_take 5 _ rfl (by kernel_rfl) (by kernel_rfl) (by kernel_rfl) (fun _ _ _ h => h) (List.mem_cons_of_mem _ List.mem_cons_self) (by rfl) (v := ?_) ?_ (by assumption) ?_; rotate_left; (intro _w _hw; go_simp; try with_reducible rfl); simp only [Act.put, List.setIfInBounds_toArray, List.set_cons_zero, List.set_cons_succ])
        (refine wpD_take 6 _ rfl (by kernel_rfl) (by kernel_rfl) (by kernel_rfl) (fun _ _ _ h => h) (List.mem_cons_of_mem _ (List.mem_cons_of_mem _ List.mem_cons_self)) (by rfl) (exec_load _ _ rfl b0 0 rfl _ _ rfl rfl infoVol) (by assumption) ?_; simp only [Act.put, List.setIfInBounds_toArray, List.set_cons_zero, List.set_cons_succ])
        clear hold
        refine wpD_only 7 [(1, fun w' => w'.cell? ⟨bq, 0, none⟩ = some (.int .i64 (r.area : Int))), (5, fun w' => w'.cell? ⟨bq, 2, none⟩ = some (.int .i64 (r.len : Int))), (11, fun w' => w'.rangeAt bq 0 r.cells), (13, fun w' => w'.rangeAt bs 0 (u8s s))] rfl (by kernel_rfl) (by kernel_rfl) (by rfl) (fun K7 hK7 => ?_)
        refine wp_call (.func 36) _ _ rfl 36 [] rfl hentCap [vol bd] (by rfl) ?_
        refine (capacity_any H8.out).mono ?_
        rintro e w9 ⟨rfl, f9⟩
        have hold : Facts.hold [(1, fun w' => w'.cell? ⟨bq, 0, none⟩ = some (.int .i64 (r.area : Int))), (5, fun w' => w'.cell? ⟨bq, 2, none⟩ = some (.int .i64 (r.len : Int))), (11, fun w' => w'.rangeAt bq 0 r.cells), (13, fun w' => w'.rangeAt bs 0 (u8s s))] w9 := Facts.cons_hold (f9.cell (w := w8.drew) q0 id) (Facts.cons_hold (f9.cell (w := w8.drew) q2 id) (Facts.cons_hold ((HB8q.out.fr f9 id).range 0 _ rfl) (Facts.cons_hold ((HB8s.out.fr f9 id).range 0 _ (by simp)) (Facts.nil_hold _))))
        refine ⟨_, rfl, hK7 _ _ hold ?_⟩
        clear hK7 K7
        have HB9r := hid (HB8r.out.fr f9 id)
        have HF9 := hid (HF8.out.trans' f9)
        have HB9q := hid (HB8q.out.fr f9 id)
        have HB9s := hid (HB8s.out.fr f9 id)
        clear f9
        simp only [Act.put, List.setIfInBounds_toArray, List.set_cons_zero, List.set_cons_succ]
        rw [HCP.out]
        (refine wpD_plain 8 (v := (.bool false)) rfl (by kernel_rfl) (by kernel_rfl) (by kernel_rfl) (fun _ _ _ h => h) (by rfl) ?_ (by assumption) ?_; (intro _w; go_simp; skip); simp only [Act.put, List.setIfInBounds_toArray, List.set_cons_zero, List.set_cons_succ])
        (refine wpD_plain 9 (v := ?_) rfl (by kernel_rfl) (by kernel_rfl) (by kernel_rfl) (fun _ _ _ h => h) (by rfl) ?_ (by assumption) ?_; rotate_left; (intro _w; go_simp; try with_reducible rfl); simp only [Act.put, List.setIfInBounds_toArray, List.set_cons_zero, List.set_cons_succ])
        (refine wpD_plain 10 (v := ?_) rfl (by kernel_rfl) (by kernel_rfl) (by kernel_rfl) (fun _ _ _ h => h) (by rfl) ?_ (by assumption) ?_; rotate_left; (intro _w; go_simp; try with_reducible rfl); simp only [Act.put, List.setIfInBounds_toArray, List.set_cons_zero, List.set_cons_succ])
        (refine wpD_take 11 _ rfl (by kernel_rfl) (by kernel_rfl) (by kernel_rfl) (fun _ _ _ h => h) (List.mem_cons_of_mem _ (List.mem_cons_of_mem _ List.mem_cons_self)) (by rfl) (exec_load _ _ rfl bq 0 rfl _ _ rfl rfl infoRt) (by assumption) ?_; simp only [Act.put, List.setIfInBounds_toArray, List.set_cons_zero, List.set_cons_succ])
        (refine wpD_take 13 _ rfl (by kernel_rfl) (by kernel_rfl) (by kernel_rfl) (fun _ _ _ h => h) (List.mem_cons_of_mem _ (List.mem_cons_of_mem _ (List.mem_cons_of_mem _ List.mem_cons_self))) (by rfl) (exec_load _ _ rfl bs 0 rfl _ _ rfl rfl (by simp [info101, u8s_length, HS64.out])) (by assumption) ?_; simp only [Act.put, List.setIfInBounds_toArray, List.set_cons_zero, List.set_cons_succ])
        clear hold
        refine wpD_only 12 [(1, fun w' => w'.cell? ⟨bq, 0, none⟩ = some (.int .i64 (r.area : Int))), (5, fun w' => w'.cell? ⟨bq, 2, none⟩ = some (.int .i64 (r.len : Int))), (13, fun w' => w'.rangeAt bs 0 (u8s s))] rfl (by kernel_rfl) (by kernel_rfl) (by rfl) (fun K12 hK12 => ?_)
        refine wp_call (.func 69) _ _ rfl 69 [] rfl hentSec [.agg r.cells.toArray] (by rfl) ?_
        refine (sector_any r HOK.out w9).mono ?_
        rintro e w10 ⟨rfl, f10⟩
        have g0 : w10.cell? ⟨bq, 0, none⟩ = some (.int .i64 (r.area : Int)) := (HB9q.out.fr f10 id).cell 0
        have g2 : w10.cell? ⟨bq, 2, none⟩ = some (.int .i64 (r.len : Int)) := (HB9q.out.fr f10 id).cell 2
        have hold : Facts.hold [(1, fun w' => w'.cell? ⟨bq, 0, none⟩ = some (.int .i64 (r.area : Int))), (5, fun w' => w'.cell? ⟨bq, 2, none⟩ = some (.int .i64 (r.len : Int))), (13, fun w' => w'.rangeAt bs 0 (u8s s))] w10 := Facts.cons_hold g0 (Facts.cons_hold g2 (Facts.cons_hold ((HB9s.out.fr f10 id).range 0 _ (by simp)) (Facts.nil_hold _)))
        refine ⟨_, rfl, hK12 _ _ hold ?_⟩
        clear hK12 K12
        have HB10r := hid (HB9r.out.fr f10 id)
        have HF10 := hid (HF9.out.trans' f10)
        have HB10q := hid (HB9q.out.fr f10 id)
        clear f10
        simp only [Act.put, List.setIfInBounds_toArray, List.set_cons_zero, List.set_cons_succ]
        by_cases hs : r.sec = s
        · have HR3 : Hid (R = (r, 0)) := hid (by have h := HR2.out; rw [if_neg (by intro hx; rcases hx with h | h | h; exact HNA.out.1 h; exact HNA.out.2 h; exact h hs)] at h; exact h.symm)
          refine wpD_plain 14 (v := .bool false) rfl (by kernel_rfl) (by kernel_rfl) (by kernel_rfl) (fun _ _ _ h => h) (by rfl) (exec_neq64 _ _ _ rfl r.sec s (Rt.sec_len r) HS64.out false (by simp [hs]) rfl rfl) hold ?_
          simp only [Act.put, List.setIfInBounds_toArray, List.set_cons_zero, List.set_cons_succ]
          (refine wpD_plain 15 (v := ?_) rfl (by kernel_rfl) (by kernel_rfl) (by kernel_rfl) (fun _ _ _ h => h) (by rfl) ?_ (by assumption) ?_; rotate_left; (intro _w; go_simp; try with_reducible rfl); simp only [Act.put, List.setIfInBounds_toArray, List.set_cons_zero, List.set_cons_succ])
          refine wpD_done (by kernel_rfl) ?_ _
          clear hold
          have hrq := HB10q.out.range 0 r.cells rfl
          go_wp2_with (first
            | ((with_reducible show wpList _ _ _ ({ dst := _, op := .load 66 _, type := _, pos := _, after := _, guard := _ } :: _) _ _); refine wpL_load rfl _ _ rfl bq 0 rfl r.cells _ hrq rfl rfl infoRt ?_)
            | ((with_reducible show wpList _ _ _ ({ dst := _, op := .store 66 _ _, type := _, pos := _, after := _, guard := _ } :: _) _ _); refine TR.wpL_storeV rfl _ _ _ rfl br 0 (.agg r.cells.toArray) r.cells rfl rfl rfl _ _ HB10r.out (by simp [Rt.cells]) infoRt (rt_one _) ?_; intro w4 HB4 HF4 HS4)
            | fail)
          refine ret_cell2 rfl _ rfl HB4.out rfl rfl (by simp [spl, infoRt, Rt.cells]) rfl ?_
          rw [HR3.out, spl_rt]
          have hle := HLE.out
          exact ⟨rfl, HF10.out.trans HF4.out (fun k hk => .inr (by have e' : k = br := hk; omega))⟩
        · have HR3 : Hid (R = (⟨1, 0, 0, 0⟩, 0)) := hid (by have h := HR2.out; rw [if_pos (.inr (.inr hs))] at h; exact h.symm)
          refine wpD_plain 14 (v := .bool true) rfl (by kernel_rfl) (by kernel_rfl) (by kernel_rfl) (fun _ _ _ h => h) (by rfl) (exec_neq64 _ _ _ rfl r.sec s (Rt.sec_len r) HS64.out true (by simp [hs]) rfl rfl) hold ?_
          simp only [Act.put, List.setIfInBounds_toArray, List.set_cons_zero, List.set_cons_succ]
          (refine wpD_plain 15 (v := ?_) rfl (by kernel_rfl) (by kernel_rfl) (by kernel_rfl) (fun _ _ _ h => h) (by rfl) ?_ (by assumption) ?_; rotate_left; (intro _w; go_simp; try with_reducible rfl); simp only [Act.put, List.setIfInBounds_toArray, List.set_cons_zero, List.set_cons_succ])
          refine wpD_done (by kernel_rfl) ?_ _
          clear hold
          go_wp2_with (first
            | ((with_reducible show wpList _ _ _ ({ dst := _, op := .build 66 _, type := _, pos := _, after := _, guard := _ } :: _) _ _); refine wpL_build rfl _ [(0, .const (.int .i64 1))] rfl (.agg (Rt.cells ⟨1, 0, 0, 0⟩).toArray) (buildRt1 _) ?_)
            | ((with_reducible show wpList _ _ _ ({ dst := _, op := .store 66 _ _, type := _, pos := _, after := _, guard := _ } :: _) _ _); refine TR.wpL_storeV rfl _ _ _ rfl br 0 (.agg (Rt.cells ⟨1, 0, 0, 0⟩).toArray) (Rt.cells ⟨1, 0, 0, 0⟩) rfl rfl rfl _ _ HB10r.out (by simp [Rt.cells]) infoRt (rt_one _) ?_; intro w4 HB4 HF4 HS4)
            | fail)
          refine ret_cell2 rfl _ rfl HB4.out rfl rfl (by simp [spl, infoRt, Rt.cells]) rfl ?_
          rw [HR3.out, spl_rt]
          have hle := HLE.out
          exact ⟨rfl, HF10.out.trans HF4.out (fun k hk => .inr (by have e' : k = br := hk; omega))⟩
end
end Go.Proofs.YtejbanlhgnlliaaGreat.ST

namespace Go.Proofs.YtejbanlhgnlliaaGreat.ST
set_option maxRecDepth 100000
open Go.RowKit K L

/-- A root is made durable: the answer, and the disk. -/
def U.wroot (u : U) (r : Rt) : Int × U := if (u.write 0 r.sec).1 = 0 then (u.write 0 r.sec).2.flush else u.write 0 r.sec
section
variable {w : World} {bd : Nat} {Z : Nat → Prop} {u : U}
theorem hentDW (vs : Array Value) (w : World) : (callFunc 85 vs).run Tryz.prog w = .ok (.enter 85 vs) w := by kernel_rfl
set_option maxHeartbeats 16000000 in
theorem writeRoot_any (r : Rt) (hr : r.Ok) (h : Dk w bd Z u) (hp : u.P.length < 1000000) : Calls Tryz.prog 65 #[vol bd, .agg r.cells.toArray] w fun e w' =>
    e = .returned (.int .i64 (U.wroot u r).1) ∧ ∃ Z', Dk w' bd Z' (U.wroot u r).2 ∧ Fr Z w w' ∧ Grows w Z Z' := by
  have H := hid h
  have HP := hid hp
  have HOK := hid hr
  have hZ : ∀ j, Z j → j < w.heap.size := h.lt
  have HZ := hid hZ
  obtain ⟨R, hR⟩ : ∃ R, U.wroot u r = R := ⟨_, rfl⟩
  have HR := hid hR
  rw [hR]
  clear h hR hp hr hZ
  go_enter Tryz.func65, Tryz.ntmps65
  go_wp2_with (first
    | ((with_reducible show wpList _ _ _ ({ dst := _, op := .box 59 _, type := _, pos := _, after := _, guard := _ } :: _) _ _); refine wpL_box rfl _ _ rfl _ rfl [pt bd] rfl ?_; intro w1 HB1 F1 HS1)
    | ((with_reducible show wpList _ _ _ ({ dst := _, op := .box 66 _, type := _, pos := _, after := _, guard := _ } :: _) _ _); refine wpL_box rfl _ _ rfl _ rfl r.cells rfl ?_; intro w2 HB2 F2 HS2; have hrq := HB2.out.range 0 r.cells rfl)
    | ((with_reducible show wpList _ _ _ ({ dst := _, op := .load 66 _, type := _, pos := _, after := _, guard := _ } :: _) _ _); refine wpL_load rfl _ _ rfl w1.heap.size 0 rfl r.cells _ hrq rfl rfl infoRt ?_)
    | fail)
  refine (sector_any r HOK.out w2).mono ?_
  rintro e w3 ⟨rfl, f3⟩
  have HV3 := hid ((HB1.out.fr F2.out id).fr f3 id)
  have HF3 := hid ((F1.out.trans' F2.out).trans' f3)
  clear f3 hrq HB1 F1 HS1 HB2 F2 HS2
  go_wp2_with (first
    | ((with_reducible show wpList _ _ _ ({ dst := _, op := .alloc 101, type := _, pos := _, after := _, guard := _ } :: _) _ _); refine wpL_alloc rfl _ rfl _ zero89 (u8s zeros64) rfl ?_; intro w4 HB4 F4 HS4)
    | ((with_reducible show wpList _ _ _ ({ dst := _, op := .store 101 _ _, type := _, pos := _, after := _, guard := _ } :: _) _ _); refine TR.wpL_storeV rfl _ _ _ rfl w3.heap.size 0 (.agg (u8s r.sec).toArray) (u8s r.sec) rfl rfl rfl _ _ HB4.out (by simp [u8s_length, Rt.sec_len, zeros64]) (by simp [info101, u8s_length, Rt.sec_len]) (u8s_one _) ?_; intro w5 HB5 F5 HS5; refine Hid.out ?_)
    | fail)
  refine hid ?_
  obtain ⟨bs, hbs⟩ : ∃ b, w3.heap.size = b := ⟨_, rfl⟩
  have HW3 := hid (show w.heap.size ≤ bs by have := HF3.out.size; omega)
  have f35 : Fr (fun k => k = bs) w3 w5 := F4.out.no.trans F5.out (fun k hk => .inl (by have e' : k = w3.heap.size := hk; omega))
  have HF5 := hid ((HF3.out.trans f35 (fun k hk => .inr (by have e' : k = bs := hk; have := HW3.out; omega))).drew)
  have HB5s : Hid (Blk w5.drew bs 101 (u8s r.sec)) := hid (by have h := HB5.out; rw [spl_full (by simp [u8s_length, Rt.sec_len, zeros64]), hbs] at h; exact h.drew)
  obtain ⟨bv, hbv⟩ : ∃ b, w.heap.size = b := ⟨_, rfl⟩
  rw [hbv] at HV3 ⊢
  have HV5 := hid ((HV3.out.fr f35 (fun e => by have e' : bv = bs := e; have := HV3.out.lt; omega)).drew)
  rw [hbs]
  have HVS := hid (show bv < bs by have := HV3.out.lt; omega)
  have HVW := hid hbv
  have H5 := hid (D.Rep.no H.out HF5.out)
  clear hbs hbv f35 HB4 F4 HS4 HB5 F5 HS5 HV3 HF3
  go_wp2_with fail
  have c0 : w5.cell? ⟨bv, 0, none⟩ = some (pt bd) := HV5.out.cell 0
  have hold : Facts.hold [(1, fun w' => w'.cell? ⟨bv, 0, none⟩ = some (pt bd))] w5.drew := Facts.cons_hold c0 (Facts.nil_hold _)
  refine wpD_region hold (by kernel_rfl) 5 rfl ?_
  (refine wpD_plain 0 (v := ?_) rfl (by kernel_rfl) (by kernel_rfl) (by kernel_rfl) (fun _ _ _ h => h) (by rfl) ?_ (by assumption) ?_; rotate_left; (intro _w; go_simp; try with_reducible rfl); simp only [Act.put, List.setIfInBounds_toArray, List.set_cons_zero, List.set_cons_succ])
  (refine wpD_take 1 _ rfl (by kernel_rfl) (by kernel_rfl) (by kernel_rfl) (fun _ _ _ h => h) List.mem_cons_self (by rfl) (v := ?_) ?_ (by assumption) ?_; rotate_left; (intro _w _hw; go_simp; try with_reducible rfl); simp only [Act.put, List.setIfInBounds_toArray, List.set_cons_zero, List.set_cons_succ])
  (refine wpD_plain 2 (v := ?_) rfl (by kernel_rfl) (by kernel_rfl) (by kernel_rfl) (fun _ _ _ h => h) (by rfl) ?_ (by assumption) ?_; rotate_left; (intro _w; go_simp; try with_reducible rfl); simp only [Act.put, List.setIfInBounds_toArray, List.set_cons_zero, List.set_cons_succ])
  clear hold
  refine wpD_only 3 [] rfl (by kernel_rfl) (by kernel_rfl) (by rfl) (fun K3 hK3 => ?_)
  refine wp_call (.func 85) _ _ rfl 85 [] rfl hentDW [.pointer (some ⟨bd, 0, none⟩), .int .i64 0, .slice (some ⟨bs, 0, none⟩) 64 64] (by rfl) ?_
  refine (dwrite_any 0 _ r.sec (fun j => j = bs) ⟨_, 64, 64, rfl, Rt.sec_len r, Nat.le_refl _, .inr ⟨_, 0, rfl, rfl, HB5s.out.lt, HB5s.out.range 0 _ (by rw [List.drop_zero, List.take_length])⟩⟩ (fun j hj hz => by have := HZ.out j hz; have := HW3.out; omega) H5.out HP.out).mono ?_
  rintro e' w6 ⟨rfl, Z', h1, h2, h3⟩
  have hold : Facts.hold [] w6 := Facts.nil_hold _
  refine ⟨_, rfl, hK3 _ _ hold ?_⟩
  clear hK3 K3
  simp only [Act.put, List.setIfInBounds_toArray, List.set_cons_zero, List.set_cons_succ]
  (refine wpD_plain 4 (v := ?_) rfl (by kernel_rfl) (by kernel_rfl) (by kernel_rfl) (fun _ _ _ h => h) (by rfl) ?_ (by assumption) ?_; rotate_left; (intro _w; go_simp; try with_reducible rfl); simp only [Act.put, List.setIfInBounds_toArray, List.set_cons_zero, List.set_cons_succ])
  refine wpD_done (by kernel_rfl) ?_ _
  clear hold
  have HD6 := hid h1
  have HF6 : Hid (Fr Z w w6) := hid (HF5.out.no.trans' h2)
  have HG6 : Hid (Grows w Z Z') := hid (fun j hj => (h3 j hj).imp id (fun hge => by have hge' : w5.drew.heap.size ≤ j := hge; have := HF5.out.size; omega))
  have c6 : w6.cell? ⟨bv, 0, none⟩ = some (pt bd) := h2.cell (w := w5.drew) c0 (fun hz => by have hz' : Z bv := hz; have := HZ.out _ hz'; have := HVW.out; omega)
  clear h1 h2 h3 c0
  obtain ⟨p, hp⟩ : ∃ p, u.write 0 r.sec = p := ⟨_, rfl⟩
  rw [hp] at HD6 ⊢
  have HRP : Hid ((if p.1 = 0 then p.2.flush else p) = R) := hid (by have h := HR.out; unfold U.wroot at h; rw [hp] at h; exact h)
  obtain ⟨c, u2⟩ := p
  simp only at HD6 HRP ⊢
  clear HR hp
  by_cases hc : c = 0
  · have HRQ : Hid (R = u2.flush) := hid (by have h := HRP.out; rw [if_pos hc] at h; exact h.symm)
    subst hc
    go_wp2_with fail
    refine (dflush_any HD6.out).mono ?_
    rintro e w7 ⟨rfl, h1, h2⟩
    go_wp2_with fail
    go_ret
    rw [HRQ.out]
    exact ⟨rfl, Z', h1, HF6.out.trans h2 HG6.out, HG6.out⟩
  · have HRQ : Hid (R = (c, u2)) := hid (by have h := HRP.out; rw [if_neg hc] at h; exact h.symm)
    go_wp2_with fail
    go_ret
    rw [HRQ.out]
    exact ⟨rfl, Z', HD6.out, HF6.out, HG6.out⟩
end
end Go.Proofs.YtejbanlhgnlliaaGreat.ST
