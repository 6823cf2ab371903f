/-
  Part 28 of the proof: LogA.
-/
import Derived.Test.YtflfmkokfbgclaaGreatRc22
set_option linter.unusedSimpArgs false
set_option linter.unusedVariables false
namespace Go.Proofs.YtflfmkokfbgclaaGreat.L
set_option maxRecDepth 100000
open Go.RowKit K

theorem secsN_secs (l : List UInt8) : ((secsN l : Nat) : Int) = secs l.length := by
  unfold secsN secs
  split
  · rw [if_pos (by omega)]; rfl
  · rw [if_neg (by omega)]; omega
theorem secsN_pos (l : List UInt8) : 1 ≤ secsN l := by unfold secsN; split <;> omega
theorem secsN_le {l : List UInt8} (h : l.length ≤ 2000) : secsN l ≤ 42 := by unfold secsN; split <;> omega
theorem secsN_fit (l : List UInt8) {i : Nat} (h : i < secsN l) : i = 0 ∨ 48 * i < l.length := by
  unfold secsN at h
  split at h
  · left; omega
  · right; omega
@[simp] theorem puts_L (g : Lg) (r : List UInt8) (n : Nat) : ∀ (m i : Nat) (u : U), (u.puts g r n m i).2.L = u.L
  | 0, _, _ => rfl
  | m + 1, i, u => by
    unfold U.puts
    simp only
    split
    · exact write_L _ _ _
    · rw [puts_L g r n m]; exact write_L _ _ _
theorem write_P (u : U) (n : Int) (b : List UInt8) : (u.write n b).2.P.length ≤ u.P.length + 1 := by
  unfold U.write
  (repeat' split) <;> simp
@[simp] theorem append_L (u : U) (g : Lg) (l : List UInt8) : (u.append g l).2.1.L = u.L := by
  unfold U.append
  simp only
  (repeat' split) <;> simp
theorem ext_list (x : ByteArray) (a : Nat) : (x.extract a x.size).data.toList = x.data.toList.drop a := by
  rw [ByteArray.data_extract]
  simp [List.extract_eq_take_drop]
  exact List.take_of_length_le (by simp)
theorem puts_step (g : Lg) (r : List UInt8) (n m i : Nat) (u : U) : u.puts g r n (m + 1) i = (let a := u.write (g.first + (g.next + i) : Nat) (recSec g r n i); if a.1 ≠ 0 then a else a.2.puts g r n m (i + 1)) := rfl
theorem spl_sec {e l p k z : Nat} {b : List UInt8} : spl (secCells ⟨false, e, l, p, k, z, zeros48⟩) 5 (u8s b) = secCells ⟨false, e, l, p, k, z, pad48 b⟩ := by
  unfold spl
  simp only [secCells, List.take_succ_cons, List.take_zero, u8s_length, Nat.add_comm 5, List.drop_succ_cons]
  simp only [pad48, u8s, zeros48, List.map_append, List.map_replicate, List.drop_replicate, List.cons_append, List.nil_append]
theorem size8 (w : World) : (Go.sizeOf 5).run Tryz.prog w = .ok 1 w := by kernel_rfl
set_option maxHeartbeats 8000000 in
theorem append_any (w : World) (bg bd : Nat) (Z : Nat → Prop) (g : Lg) (u : U) (x : ByteArray) (h : At w bg bd Z g u) (hx : x.size ≤ 9223372036854775807) (hp : u.P.length < 900000) :
    Calls Tryz.prog 57 #[.pointer (some ⟨bg, 0, none⟩), .string x] w fun e w' =>
      e = .returned (.int .i64 (u.append g x.data.toList).1) ∧ ∃ Z', At w' bg bd Z' (u.append g x.data.toList).2.2 (u.append g x.data.toList).2.1 ∧ Fr (fun k => Z k ∨ k = bg) w w' ∧ Grows w Z Z' := by
  have hxl : x.data.toList.length = x.size := by simp
  have HR : Hid (u.append g x.data.toList = (if 2000 < x.size then (2, u, g) else if g.count < g.next + secsN x.data.toList then (3, u, g) else
    let a := u.puts g x.data.toList (secsN x.data.toList) (secsN x.data.toList) 0
    if a.1 ≠ 0 then (a.1, a.2, g) else (0, a.2, { g with next := g.next + secsN x.data.toList }))) := hid (by unfold U.append; rw [hxl])
  generalize u.append g x.data.toList = r at HR ⊢
  have HA := hid h; have HP := hid hp
  by_cases h1 : 2000 < x.size
  · have e1 : r = (2, u, g) := HR.out.trans (if_pos h1)
    have h1i : (2000 : Int) < x.size := by omega
    rw [e1]
    clear h hp e1 h1 hxl
    go_enter Tryz.func57, Tryz.ntmps57
    go_wp2
    go_ret
    exact ⟨rfl, Z, HA.out, Fr.refl _ _, Grows.refl _ _⟩
  · have h1i : ¬ (2000 : Int) < x.size := by omega
    have hxs : x.size ≤ 2000 := by omega
    have hS := secsN_secs x.data.toList
    rw [hxl] at hS
    have HS := hid (sectors_any (x.size : Int) w (by omega) (by omega))
    rw [← hS] at HS
    have hn1 := secsN_pos x.data.toList
    have hn42 := secsN_le (l := x.data.toList) (by omega)
    have HFitN : Hid (∀ i, i < secsN x.data.toList → i = 0 ∨ 48 * i < x.size) := hid (fun i hi => by have := secsN_fit x.data.toList hi; rwa [hxl] at this)
    have hr2 := HR.out
    rw [if_neg h1] at hr2
    generalize hNe : secsN x.data.toList = n at HS hn1 hn42 HFitN hr2
    have hcn : (g.count : Int) ≤ 4096 := by have := h.2.2.2.fit; have := h.lens; omega
    have hnn : (g.next : Int) ≤ g.count := by have := h.2.2.2.nc; omega
    have HRo := hid (room_any h)
    have HR2 := hid hr2
    clear HR hr2 hS
    by_cases h2 : g.count < g.next + n
    · have e1 : r = (3, u, g) := HR2.out.trans (if_pos h2)
      have h2i : (g.count : Int) - g.next < n := by omega
      rw [e1]
      clear h hp e1 h1 h2 hxl hNe
      go_enter Tryz.func57, Tryz.ntmps57
      go_wp2_with (first
        | (go_at_call 38; refine HS.out.mono ?_; rintro e' w' ⟨rfl, rfl⟩)
        | (go_at_call 23; refine HRo.out.mono ?_; rintro e' w1 ⟨rfl, hf⟩; have HF1 := hid hf; clear hf))
      go_ret
      exact ⟨rfl, Z, HA.out.no HF1.out, HF1.out.no, Grows.refl _ _⟩
    · have h2i : ¬ (g.count : Int) - g.next < n := by omega
      have h2j : (g.next : Int) + n ≤ 4096 := by omega
      have h2n : g.next + n ≤ g.count := by omega
      have H2n := hid h2n
      have HR3 : Hid (r = (let a := u.puts g x.data.toList n n 0; if a.1 ≠ 0 then (a.1, a.2, g) else (0, a.2, { g with next := g.next + n }))) := hid (HR2.out.trans (if_neg h2))
      have HXS := hid hxs
      clear h hp h1 h2 hxl HR2 h2n hxs hNe
      go_enter Tryz.func57, Tryz.ntmps57
      go_wp2_with (first
        | (go_at_call 38; refine HS.out.mono ?_; rintro e' w' ⟨rfl, rfl⟩)
        | (go_at_call 23; refine HRo.out.mono ?_; rintro e' w1 ⟨rfl, hf⟩; have HF1 := hid hf; clear hf))
      have HA1 := hid (HA.out.no HF1.out)
      go_loopw [20] (fun iv wr => ∃ (i : Nat) (ui : U) (Zi : Nat → Prop), iv = .int .i64 (i : Int) ∧ i ≤ n ∧ Hid (ui.puts g x.data.toList n (n - i) i = u.puts g x.data.toList n n 0) ∧ Hid (ui.P.length ≤ u.P.length + i) ∧
        Hid (At wr bg bd Zi g ui) ∧ Hid (Fr (fun k => Z k ∨ k = bg) w wr) ∧ Hid (Grows w Z Zi)) (fun iv _ => n - (intOf iv).toNat)
      case atStart => exact ⟨0, u, Z, rfl, Nat.zero_le _, hid rfl, hid (Nat.le_refl _), HA1, hid HF1.out.no, hid (Grows.refl _ _)⟩
      case round =>
        obtain ⟨i, ui, Zi, rfl, hi, HPu, HPl, HAi, HFi, HGi⟩ := hrel
        by_cases hlt : i < n
        · have hlti : (i : Int) < n := by omega
          have c3 : wr.cell? ⟨bg, 3, none⟩ = some (.int .u32 g.epoch) := HAi.out.2.1.cell 3
          have c4 : wr.cell? ⟨bg, 4, none⟩ = some (.int .u32 g.life) := HAi.out.2.1.cell 4
          have c5 : wr.cell? ⟨bg, 5, none⟩ = some (.int .i64 g.next) := HAi.out.2.1.cell 5
          have WS : Hid (IntKind.i64.wrap ((g.next : Int) + i) = ((g.next + i : Nat) : Int)) := hid ((wrap_small (by omega) (by omega)).trans (by omega))
          have WM : Hid (IntKind.i64.wrap ((i : Int) * 48) = ((48 * i : Nat) : Int)) := hid ((wrap_small (by omega) (by omega)).trans (by omega))
          go_wp2_with fail
          have hold : Facts.hold [(3, fun w' => w'.cell? ⟨bg, 3, none⟩ = some (.int .u32 g.epoch)), (7, fun w' => w'.cell? ⟨bg, 4, none⟩ = some (.int .u32 g.life)), (11, fun w' => w'.cell? ⟨bg, 5, none⟩ = some (.int .i64 g.next))] wr.drew := Facts.cons_hold c3 (Facts.cons_hold c4 (Facts.cons_hold c5 (Facts.nil_hold _)))
          refine wpD_region hold (by kernel_rfl) 17 rfl ?_
          (refine wpD_plain 0 (v := ?_) rfl (by kernel_rfl) (by kernel_rfl) (by kernel_rfl) (fun _ _ _ h => h) (by rfl) ?_ (by assumption) ?_; rotate_left; (intro _w; go_simp; try with_reducible rfl); simp only [Act.put, List.setIfInBounds_toArray, List.set_cons_zero, List.set_cons_succ])
          (refine wpD_plain 1 (v := ?_) rfl (by kernel_rfl) (by kernel_rfl) (by kernel_rfl) (fun _ _ _ h => h) (by rfl) ?_ (by assumption) ?_; rotate_left; (intro _w; go_simp; try with_reducible rfl); simp only [Act.put, List.setIfInBounds_toArray, List.set_cons_zero, List.set_cons_succ])
          (refine wpD_plain 2 (v := ?_) rfl (by kernel_rfl) (by kernel_rfl) (by kernel_rfl) (fun _ _ _ h => h) (by rfl) ?_ (by assumption) ?_; rotate_left; (intro _w; go_simp; try with_reducible rfl); simp only [Act.put, List.setIfInBounds_toArray, List.set_cons_zero, List.set_cons_succ])
          (refine wpD_take 3 _ rfl (by kernel_rfl) (by kernel_rfl) (by kernel_rfl) (fun _ _ _ h => h) List.mem_cons_self (by rfl) (v := ?_) ?_ (by assumption) ?_; rotate_left; (intro _w _hw; go_simp; try with_reducible rfl); simp only [Act.put, List.setIfInBounds_toArray, List.set_cons_zero, List.set_cons_succ])
          (refine wpD_plain 4 (v := ?_) rfl (by kernel_rfl) (by kernel_rfl) (by kernel_rfl) (fun _ _ _ h => h) (by rfl) ?_ (by assumption) ?_; rotate_left; (intro _w; go_simp; try with_reducible rfl); simp only [Act.put, List.setIfInBounds_toArray, List.set_cons_zero, List.set_cons_succ])
          (refine wpD_plain 5 (v := ?_) rfl (by kernel_rfl) (by kernel_rfl) (by kernel_rfl) (fun _ _ _ h => h) (by rfl) ?_ (by assumption) ?_; rotate_left; (intro _w; go_simp; try with_reducible rfl); simp only [Act.put, List.setIfInBounds_toArray, List.set_cons_zero, List.set_cons_succ])
          (refine wpD_plain 6 (v := ?_) rfl (by kernel_rfl) (by kernel_rfl) (by kernel_rfl) (fun _ _ _ h => h) (by rfl) ?_ (by assumption) ?_; rotate_left; (intro _w; go_simp; try with_reducible rfl); simp only [Act.put, List.setIfInBounds_toArray, List.set_cons_zero, List.set_cons_succ])
          (refine wpD_take 7 _ rfl (by kernel_rfl) (by kernel_rfl) (by kernel_rfl) (fun _ _ _ h => h) (List.mem_cons_of_mem _ List.mem_cons_self) (by rfl) (v := ?_) ?_ (by assumption) ?_; rotate_left; (intro _w _hw; go_simp; try with_reducible rfl); simp only [Act.put, List.setIfInBounds_toArray, List.set_cons_zero, List.set_cons_succ])
          (refine wpD_plain 8 (v := ?_) rfl (by kernel_rfl) (by kernel_rfl) (by kernel_rfl) (fun _ _ _ h => h) (by rfl) ?_ (by assumption) ?_; rotate_left; (intro _w; go_simp; try with_reducible rfl); simp only [Act.put, List.setIfInBounds_toArray, List.set_cons_zero, List.set_cons_succ])
          (refine wpD_plain 9 (v := ?_) rfl (by kernel_rfl) (by kernel_rfl) (by kernel_rfl) (fun _ _ _ h => h) (by rfl) ?_ (by assumption) ?_; rotate_left; (intro _w; go_simp; try with_reducible rfl); simp only [Act.put, List.setIfInBounds_toArray, List.set_cons_zero, List.set_cons_succ])
          (refine wpD_plain 10 (v := ?_) rfl (by kernel_rfl) (by kernel_rfl) (by kernel_rfl) (fun _ _ _ h => h) (by rfl) ?_ (by assumption) ?_; rotate_left; (intro _w; go_simp; try with_reducible rfl); simp only [Act.put, List.setIfInBounds_toArray, List.set_cons_zero, List.set_cons_succ])
          (refine wpD_take 11 _ rfl (by kernel_rfl) (by kernel_rfl) (by kernel_rfl) (fun _ _ _ h => h) (List.mem_cons_of_mem _ (List.mem_cons_of_mem _ List.mem_cons_self)) (by rfl) (v := ?_) ?_ (by assumption) ?_; rotate_left; (intro _w _hw; go_simp; try with_reducible rfl); simp only [Act.put, List.setIfInBounds_toArray, List.set_cons_zero, List.set_cons_succ])
          (refine wpD_plain 12 (v := ?_) rfl (by kernel_rfl) (by kernel_rfl) (by kernel_rfl) (fun _ _ _ h => h) (by rfl) ?_ (by assumption) ?_; rotate_left; (intro _w; go_simp; try with_reducible rfl); simp only [Act.put, List.setIfInBounds_toArray, List.set_cons_zero, List.set_cons_succ])
          (refine wpD_plain 13 (v := (.int .i64 ((g.next + i : Nat) : Int))) rfl (by kernel_rfl) (by kernel_rfl) (by kernel_rfl) (fun _ _ _ h => h) (by rfl) ?_ (by assumption) ?_; (intro _w; go_simp; exact WS.out); simp only [Act.put, List.setIfInBounds_toArray, List.set_cons_zero, List.set_cons_succ])
          (refine wpD_plain 14 (v := (.agg (secCells ⟨false, g.epoch, g.life, g.next + i, 0, 0, zeros48⟩).toArray)) rfl (by kernel_rfl) (by kernel_rfl) (by kernel_rfl) (fun _ _ _ h => h) (by rfl) ?_ (by assumption) ?_; (intro _w; go_simp; rfl); simp only [Act.put, List.setIfInBounds_toArray, List.set_cons_zero, List.set_cons_succ])
          refine wpD_only 15 [(3, fun w' => w'.cell? ⟨bg, 3, none⟩ = some (.int .u32 g.epoch)), (7, fun w' => w'.cell? ⟨bg, 4, none⟩ = some (.int .u32 g.life)), (11, fun w' => w'.cell? ⟨bg, 5, none⟩ = some (.int .i64 g.next))] rfl (by kernel_rfl) (by kernel_rfl) (by rfl) (fun K15 hK15 => ?_)
          refine wp_alloc _ rfl _ zero87 (secCells noSec) rfl ?_
          intro w2 HB2 HF2 HS2
          refine hK15 _ _ (Facts.cons_hold (HF2.out.cell (w := wr.drew) c3 id) (Facts.cons_hold (HF2.out.cell (w := wr.drew) c4 id) (Facts.cons_hold (HF2.out.cell (w := wr.drew) c5 id) (Facts.nil_hold _)))) ?_
          clear hK15 K15 hold
          simp only [Act.put, List.setIfInBounds_toArray, List.set_cons_zero, List.set_cons_succ]
          refine wpD_only 16 [] rfl (by kernel_rfl) (by kernel_rfl) (by rfl) (fun K16 hK16 => ?_)
          refine wp_storeB _ _ _ rfl wr.heap.size 0 (secCells ⟨false, g.epoch, g.life, g.next + i, 0, 0, zeros48⟩) (by rfl) (by rfl) 148 _ HB2.out (by simp only [sec_len]; decide) (by rw [info87, sec_len]; rfl) (sec_one _) ?_
          intro w3 HB3 HF3 HS3
          refine hK16 _ _ (Facts.nil_hold _) ?_
          clear hK16 K16
          simp only [Act.put, List.setIfInBounds_toArray, List.set_cons_zero, List.set_cons_succ]
          refine wpD_done (by kernel_rfl) ?_ _
          have HB3' : Hid (Blk w3 wr.heap.size 148 (secCells ⟨false, g.epoch, g.life, g.next + i, 0, 0, zeros48⟩)) := hid (by
            have := HB3.out
            rwa [spl_all (by simp only [sec_len]; rfl)] at this)
          have HF3' : Hid (Fr No wr w3) := hid ((Fr.trans' (b := wr.drew) (Fr.refl No wr).drew HF2.out).trans HF3.out (fun k hk => .inr (Nat.le_of_eq hk.symm)))
          have or01 : bits .or .i64 0 1 = 1 := by decide
          have or02 : bits .or .i64 0 2 = 2 := by decide
          have or12 : bits .or .i64 1 2 = 3 := by decide
          have b3 : w3.cell? ⟨wr.heap.size, 3, none⟩ = some (.int .i64 0) := HB3'.out.cell 3
          have q3 : w3.frozen? ⟨wr.heap.size, 3, none⟩ = false := HB3'.out.frozen 3
          clear HB2 HF2 HS2 HB3 HF3 HS3 c3 c4 c5
          have hni : (n : Int) ≤ 42 := by omega
          by_cases hi0 : i = 0
          · have hi0i : ((i : Int) == 0) = true := by simp; omega
            by_cases hil : i + 1 = n
            · have hili : ((i : Int) == (n : Int) - 1) = true := by simp; omega
              go_wp2_with fail
              obtain ⟨k, HBk, HK, hkv⟩ : ∃ k : Nat, Hid (Blk ((w3.setCell ⟨wr.heap.size, 3, none⟩ (.int .i64 1)).setCell ⟨wr.heap.size, 3, none⟩ (.int .i64 3)) wr.heap.size 148 (secCells ⟨false, g.epoch, g.life, g.next + i, k, 0, zeros48⟩)) ∧ Hid (k = (if i = 0 then 1 else 0) + (if i + 1 = n then 2 else 0)) ∧ (k : Int) ≤ 3 :=
                ⟨3, hid ((HB3'.out.set 3 (.int .i64 1)).set 3 (.int .i64 3)), hid (by rw [if_pos hi0, if_pos hil]), by decide⟩
              have HFk : Hid (Fr No wr ((w3.setCell ⟨wr.heap.size, 3, none⟩ (.int .i64 1)).setCell ⟨wr.heap.size, 3, none⟩ (.int .i64 3))) := hid (((HF3'.out).setCell _ _ (.inr (Nat.le_refl _))).setCell _ _ (.inr (Nat.le_refl _)))
              clear b3 q3
              generalize (w3.setCell ⟨wr.heap.size, 3, none⟩ (.int .i64 1)).setCell ⟨wr.heap.size, 3, none⟩ (.int .i64 3) = w4 at HBk HFk ⊢
              clear hi0 hil hi0i hili
              have hold : Facts.hold [] w4.drew := Facts.nil_hold _
              refine wpD_region hold (by kernel_rfl) 9 rfl ?_
              (refine wpD_plain 0 (v := ?_) rfl (by kernel_rfl) (by kernel_rfl) (by kernel_rfl) (fun _ _ _ h => h) (by rfl) ?_ (by assumption) ?_; rotate_left; (intro _w; go_simp; try with_reducible rfl); simp only [Act.put, List.setIfInBounds_toArray, List.set_cons_zero, List.set_cons_succ])
              (refine wpD_plain 1 (v := ?_) rfl (by kernel_rfl) (by kernel_rfl) (by kernel_rfl) (fun _ _ _ h => h) (by rfl) ?_ (by assumption) ?_; rotate_left; (intro _w; go_simp; try with_reducible rfl); simp only [Act.put, List.setIfInBounds_toArray, List.set_cons_zero, List.set_cons_succ])
              (refine wpD_plain 2 (v := ?_) rfl (by kernel_rfl) (by kernel_rfl) (by kernel_rfl) (fun _ _ _ h => h) (by rfl) ?_ (by assumption) ?_; rotate_left; (intro _w; go_simp; try with_reducible rfl); simp only [Act.put, List.setIfInBounds_toArray, List.set_cons_zero, List.set_cons_succ])
              (refine wpD_plain 3 (v := ?_) rfl (by kernel_rfl) (by kernel_rfl) (by kernel_rfl) (fun _ _ _ h => h) (by rfl) ?_ (by assumption) ?_; rotate_left; (intro _w; go_simp; try with_reducible rfl); simp only [Act.put, List.setIfInBounds_toArray, List.set_cons_zero, List.set_cons_succ])
              (refine wpD_plain 4 (v := (.int .i64 ((48 * i : Nat) : Int))) rfl (by kernel_rfl) (by kernel_rfl) (by kernel_rfl) (fun _ _ _ h => h) (by rfl) ?_ (by assumption) ?_; (intro _w; go_simp; exact WM.out); simp only [Act.put, List.setIfInBounds_toArray, List.set_cons_zero, List.set_cons_succ])
              have hle : 48 * i ≤ x.size := by rcases HFitN.out i (by omega) with h0 | h0 <;> omega
              (refine wpD_plain 5 (v := (.string (x.extract (48 * i) x.size))) rfl (by kernel_rfl) (by kernel_rfl) (by kernel_rfl) (fun _ _ _ h => h) (by rfl) ?_ (by assumption) ?_; (intro _w; go_simp; (rw [if_pos ⟨by omega, by omega⟩, show (48 * (i : Int)).toNat = 48 * i by omega])); simp only [Act.put, List.setIfInBounds_toArray, List.set_cons_zero, List.set_cons_succ])
              have HCs : Hid ((x.data.toList.drop (48 * i)).take 48 = (x.extract (48 * i) x.size).data.toList.take 48) := hid (by rw [ext_list])
              have hb48 : ((x.data.toList.drop (48 * i)).take 48).length ≤ 48 := by rw [List.length_take]; omega
              have HRec : Hid (recSec g x.data.toList n i = made g.epoch g.life (g.next + i) k ((x.data.toList.drop (48 * i)).take 48).length (pad48 ((x.data.toList.drop (48 * i)).take 48))) := hid (by rw [HK.out]; rfl)
              have HPut := hid (puts_step g x.data.toList n (n - (i + 1)) i ui)
              rw [show n - (i + 1) + 1 = n - i by omega] at HPut
              generalize (x.data.toList.drop (48 * i)).take 48 = b at HCs hb48 HRec
              have HB48 := hid hb48
              refine wpD_only 6 [] rfl (by kernel_rfl) (by kernel_rfl) (by rfl) (fun K6 hK6 => ?_)
              refine wp_copyS _ _ _ _ rfl 5 rfl size8 wr.heap.size 5 48 48 (by rfl) (x.extract (48 * i) x.size) (by rfl) 148 _ HBk.out.drew b HCs.out (by rw [sec_len]; simp only [zeros48, List.length_replicate]; omega) ?_
              intro w5 HB5 HF5 HS5
              refine hK6 _ _ (Facts.nil_hold _) ?_
              clear hK6 K6 hold
              simp only [Act.put, List.setIfInBounds_toArray, List.set_cons_zero, List.set_cons_succ]
              have HB5' : Hid (Blk w5 wr.heap.size 148 (secCells ⟨false, g.epoch, g.life, g.next + i, k, 0, pad48 b⟩)) := hid (by
                have := HB5.out
                rwa [spl_sec] at this)
              have hold : Facts.hold [] w5 := Facts.nil_hold _
              (refine wpD_plain 7 (v := ?_) rfl (by kernel_rfl) (by kernel_rfl) (by kernel_rfl) (fun _ _ _ h => h) (by rfl) ?_ (by assumption) ?_; rotate_left; (intro _w; go_simp; try with_reducible rfl); simp only [Act.put, List.setIfInBounds_toArray, List.set_cons_zero, List.set_cons_succ])
              have b4 : w5.cell? ⟨wr.heap.size, 4, none⟩ = some (.int .i64 0) := HB5'.out.cell 4
              have q4 : w5.frozen? ⟨wr.heap.size, 4, none⟩ = false := HB5'.out.frozen 4
              refine wpD_only 8 [] rfl (by kernel_rfl) (by kernel_rfl) (by rfl) (fun K8 hK8 => ?_)
              go_simp
              refine hK8 _ _ (Facts.nil_hold _) ?_
              clear hK8 K8 hold
              refine wpD_done (by kernel_rfl) ?_ _
              have HB6 : Hid (Blk (w5.setCell ⟨wr.heap.size, 4, none⟩ (.int .i64 b.length)) wr.heap.size 148 (secCells ⟨false, g.epoch, g.life, g.next + i, k, b.length, pad48 b⟩)) := hid (HB5'.out.set 4 _)
              have HN6 : Hid (Fr No wr (w5.setCell ⟨wr.heap.size, 4, none⟩ (.int .i64 b.length))) := hid ((HFk.out.drew.trans HF5.out (fun j hj => .inr (Nat.le_of_eq hj.symm))).setCell _ _ (.inr (Nat.le_refl _)))
              clear HB5 HF5 HS5 HB5' b4 q4
              generalize w5.setCell ⟨wr.heap.size, 4, none⟩ (.int .i64 b.length) = w6 at HB6 HN6 ⊢
              have HA6 := hid (HAi.out.no HN6.out)
              have HR6 : Hid (w6.rangeAt wr.heap.size 0 (secCells ⟨false, g.epoch, g.life, g.next + i, k, b.length, pad48 b⟩)) := hid (HB6.out.range 0 _ (by rw [List.drop_zero, List.take_length]))
              have HOk : Hid ((⟨false, g.epoch, g.life, g.next + i, k, b.length, pad48 b⟩ : Sec).Ok) := hid ⟨HAi.out.2.2.2.ep, HAi.out.2.2.2.li, by simp only; omega, by simp only; omega, by simp only; omega, pad48_length HB48.out⟩
              go_wp2_with ((with_reducible show wpList _ _ _ (⟨_, .load 148 _, _, _, _, _⟩ :: _) _ _); refine wpL_load rfl _ _ rfl wr.heap.size 0 rfl (secCells ⟨false, g.epoch, g.life, g.next + i, k, b.length, pad48 b⟩) _ HR6.out rfl rfl (by rw [info87, sec_len, HOk.out.by48]) ?_)
              refine (write_any w6 bg bd Zi g ui ⟨false, g.epoch, g.life, g.next + i, k, b.length, pad48 b⟩ HA6.out HOk.out (by have := HPl.out; have := HP.out; omega)).mono ?_
              rintro e' w7 ⟨rfl, Z7, hA, hF, hG⟩
              simp only at hA hF hG ⊢
              rw [← HRec.out] at hA ⊢
              have HWP := hid (write_P ui ((g.first + (g.next + i) : Nat) : Int) (recSec g x.data.toList n i))
              have hput := HPut.out
              clear HPut
              generalize ui.write ((g.first + (g.next + i) : Nat) : Int) (recSec g x.data.toList n i) = a at hA hput HWP ⊢
              obtain ⟨a1, a2⟩ := a
              simp only at hA hput ⊢
              have HPut := hid hput
              clear hput
              have HA7 := hid hA
              have HG7 : Hid (Grows w Z Z7) := hid (HGi.out.trans (fun j hj => (hG j hj).imp id (fun hge => Nat.le_trans HN6.out.size hge)) HFi.out.size)
              have HF7 : Hid (Fr (fun k => Z k ∨ k = bg) w w7) := hid ((HFi.out.trans' HN6.out.no).trans hF (fun j hj => (HGi.out j hj).imp .inl id))
              clear hA hF hG
              by_cases ha : a1 = 0
              · subst ha
                have HPu' : Hid (a2.puts g x.data.toList n (n - (i + 1)) (i + 1) = u.puts g x.data.toList n n 0) := hid (by
                  have h1 := HPut.out
                  rw [if_neg (by simp)] at h1
                  exact h1.symm.trans HPu.out)
                go_wp2_with fail
                exact ⟨⟨i + 1, a2, Z7, by go_num, by omega, HPu', hid (by have h1 : a2.P.length ≤ ui.P.length + 1 := HWP.out; have := HPl.out; omega), HA7, HF7, HG7⟩, by simp [intOf]; omega⟩
              · have HPu' : Hid (u.puts g x.data.toList n n 0 = (a1, a2)) := hid (by
                  have h1 := HPut.out
                  rw [if_pos ha] at h1
                  exact HPu.out.symm.trans h1)
                have a0 : (a1 != 0) = true := by simp [ha]
                have HR4 : Hid (r = (a1, a2, g)) := hid (by
                  have h1 := HR3.out
                  simp only [HPu'.out] at h1
                  rw [if_pos ha] at h1
                  exact h1)
                clear ha
                go_wp2_with fail
                go_ret
                rw [HR4.out]
                exact ⟨rfl, Z7, HA7.out, HF7.out, HG7.out⟩

            · have hili : ((i : Int) == (n : Int) - 1) = false := by simp; omega
              go_wp2_with fail
              obtain ⟨k, HBk, HK, hkv⟩ : ∃ k : Nat, Hid (Blk (w3.setCell ⟨wr.heap.size, 3, none⟩ (.int .i64 1)) wr.heap.size 148 (secCells ⟨false, g.epoch, g.life, g.next + i, k, 0, zeros48⟩)) ∧ Hid (k = (if i = 0 then 1 else 0) + (if i + 1 = n then 2 else 0)) ∧ (k : Int) ≤ 3 :=
                ⟨1, hid (HB3'.out.set 3 (.int .i64 1)), hid (by rw [if_pos hi0, if_neg hil]), by decide⟩
              have HFk : Hid (Fr No wr (w3.setCell ⟨wr.heap.size, 3, none⟩ (.int .i64 1))) := hid ((HF3'.out).setCell _ _ (.inr (Nat.le_refl _)))
              clear b3 q3
              generalize w3.setCell ⟨wr.heap.size, 3, none⟩ (.int .i64 1) = w4 at HBk HFk ⊢
              clear hi0 hil hi0i hili
              have hold : Facts.hold [] w4.drew := Facts.nil_hold _
              refine wpD_region hold (by kernel_rfl) 9 rfl ?_
              (refine wpD_plain 0 (v := ?_) rfl (by kernel_rfl) (by kernel_rfl) (by kernel_rfl) (fun _ _ _ h => h) (by rfl) ?_ (by assumption) ?_; rotate_left; (intro _w; go_simp; try with_reducible rfl); simp only [Act.put, List.setIfInBounds_toArray, List.set_cons_zero, List.set_cons_succ])
              (refine wpD_plain 1 (v := ?_) rfl (by kernel_rfl) (by kernel_rfl) (by kernel_rfl) (fun _ _ _ h => h) (by rfl) ?_ (by assumption) ?_; rotate_left; (intro _w; go_simp; try with_reducible rfl); simp only [Act.put, List.setIfInBounds_toArray, List.set_cons_zero, List.set_cons_succ])
              (refine wpD_plain 2 (v := ?_) rfl (by kernel_rfl) (by kernel_rfl) (by kernel_rfl) (fun _ _ _ h => h) (by rfl) ?_ (by assumption) ?_; rotate_left; (intro _w; go_simp; try with_reducible rfl); simp only [Act.put, List.setIfInBounds_toArray, List.set_cons_zero, List.set_cons_succ])
              (refine wpD_plain 3 (v := ?_) rfl (by kernel_rfl) (by kernel_rfl) (by kernel_rfl) (fun _ _ _ h => h) (by rfl) ?_ (by assumption) ?_; rotate_left; (intro _w; go_simp; try with_reducible rfl); simp only [Act.put, List.setIfInBounds_toArray, List.set_cons_zero, List.set_cons_succ])
              (refine wpD_plain 4 (v := (.int .i64 ((48 * i : Nat) : Int))) rfl (by kernel_rfl) (by kernel_rfl) (by kernel_rfl) (fun _ _ _ h => h) (by rfl) ?_ (by assumption) ?_; (intro _w; go_simp; exact WM.out); simp only [Act.put, List.setIfInBounds_toArray, List.set_cons_zero, List.set_cons_succ])
              have hle : 48 * i ≤ x.size := by rcases HFitN.out i (by omega) with h0 | h0 <;> omega
              (refine wpD_plain 5 (v := (.string (x.extract (48 * i) x.size))) rfl (by kernel_rfl) (by kernel_rfl) (by kernel_rfl) (fun _ _ _ h => h) (by rfl) ?_ (by assumption) ?_; (intro _w; go_simp; (rw [if_pos ⟨by omega, by omega⟩, show (48 * (i : Int)).toNat = 48 * i by omega])); simp only [Act.put, List.setIfInBounds_toArray, List.set_cons_zero, List.set_cons_succ])
              have HCs : Hid ((x.data.toList.drop (48 * i)).take 48 = (x.extract (48 * i) x.size).data.toList.take 48) := hid (by rw [ext_list])
              have hb48 : ((x.data.toList.drop (48 * i)).take 48).length ≤ 48 := by rw [List.length_take]; omega
              have HRec : Hid (recSec g x.data.toList n i = made g.epoch g.life (g.next + i) k ((x.data.toList.drop (48 * i)).take 48).length (pad48 ((x.data.toList.drop (48 * i)).take 48))) := hid (by rw [HK.out]; rfl)
              have HPut := hid (puts_step g x.data.toList n (n - (i + 1)) i ui)
              rw [show n - (i + 1) + 1 = n - i by omega] at HPut
              generalize (x.data.toList.drop (48 * i)).take 48 = b at HCs hb48 HRec
              have HB48 := hid hb48
              refine wpD_only 6 [] rfl (by kernel_rfl) (by kernel_rfl) (by rfl) (fun K6 hK6 => ?_)
              refine wp_copyS _ _ _ _ rfl 5 rfl size8 wr.heap.size 5 48 48 (by rfl) (x.extract (48 * i) x.size) (by rfl) 148 _ HBk.out.drew b HCs.out (by rw [sec_len]; simp only [zeros48, List.length_replicate]; omega) ?_
              intro w5 HB5 HF5 HS5
              refine hK6 _ _ (Facts.nil_hold _) ?_
              clear hK6 K6 hold
              simp only [Act.put, List.setIfInBounds_toArray, List.set_cons_zero, List.set_cons_succ]
              have HB5' : Hid (Blk w5 wr.heap.size 148 (secCells ⟨false, g.epoch, g.life, g.next + i, k, 0, pad48 b⟩)) := hid (by
                have := HB5.out
                rwa [spl_sec] at this)
              have hold : Facts.hold [] w5 := Facts.nil_hold _
              (refine wpD_plain 7 (v := ?_) rfl (by kernel_rfl) (by kernel_rfl) (by kernel_rfl) (fun _ _ _ h => h) (by rfl) ?_ (by assumption) ?_; rotate_left; (intro _w; go_simp; try with_reducible rfl); simp only [Act.put, List.setIfInBounds_toArray, List.set_cons_zero, List.set_cons_succ])
              have b4 : w5.cell? ⟨wr.heap.size, 4, none⟩ = some (.int .i64 0) := HB5'.out.cell 4
              have q4 : w5.frozen? ⟨wr.heap.size, 4, none⟩ = false := HB5'.out.frozen 4
              refine wpD_only 8 [] rfl (by kernel_rfl) (by kernel_rfl) (by rfl) (fun K8 hK8 => ?_)
              go_simp
              refine hK8 _ _ (Facts.nil_hold _) ?_
              clear hK8 K8 hold
              refine wpD_done (by kernel_rfl) ?_ _
              have HB6 : Hid (Blk (w5.setCell ⟨wr.heap.size, 4, none⟩ (.int .i64 b.length)) wr.heap.size 148 (secCells ⟨false, g.epoch, g.life, g.next + i, k, b.length, pad48 b⟩)) := hid (HB5'.out.set 4 _)
              have HN6 : Hid (Fr No wr (w5.setCell ⟨wr.heap.size, 4, none⟩ (.int .i64 b.length))) := hid ((HFk.out.drew.trans HF5.out (fun j hj => .inr (Nat.le_of_eq hj.symm))).setCell _ _ (.inr (Nat.le_refl _)))
              clear HB5 HF5 HS5 HB5' b4 q4
              generalize w5.setCell ⟨wr.heap.size, 4, none⟩ (.int .i64 b.length) = w6 at HB6 HN6 ⊢
              have HA6 := hid (HAi.out.no HN6.out)
              have HR6 : Hid (w6.rangeAt wr.heap.size 0 (secCells ⟨false, g.epoch, g.life, g.next + i, k, b.length, pad48 b⟩)) := hid (HB6.out.range 0 _ (by rw [List.drop_zero, List.take_length]))
              have HOk : Hid ((⟨false, g.epoch, g.life, g.next + i, k, b.length, pad48 b⟩ : Sec).Ok) := hid ⟨HAi.out.2.2.2.ep, HAi.out.2.2.2.li, by simp only; omega, by simp only; omega, by simp only; omega, pad48_length HB48.out⟩
              go_wp2_with ((with_reducible show wpList _ _ _ (⟨_, .load 148 _, _, _, _, _⟩ :: _) _ _); refine wpL_load rfl _ _ rfl wr.heap.size 0 rfl (secCells ⟨false, g.epoch, g.life, g.next + i, k, b.length, pad48 b⟩) _ HR6.out rfl rfl (by rw [info87, sec_len, HOk.out.by48]) ?_)
              refine (write_any w6 bg bd Zi g ui ⟨false, g.epoch, g.life, g.next + i, k, b.length, pad48 b⟩ HA6.out HOk.out (by have := HPl.out; have := HP.out; omega)).mono ?_
              rintro e' w7 ⟨rfl, Z7, hA, hF, hG⟩
              simp only at hA hF hG ⊢
              rw [← HRec.out] at hA ⊢
              have HWP := hid (write_P ui ((g.first + (g.next + i) : Nat) : Int) (recSec g x.data.toList n i))
              have hput := HPut.out
              clear HPut
              generalize ui.write ((g.first + (g.next + i) : Nat) : Int) (recSec g x.data.toList n i) = a at hA hput HWP ⊢
              obtain ⟨a1, a2⟩ := a
              simp only at hA hput ⊢
              have HPut := hid hput
              clear hput
              have HA7 := hid hA
              have HG7 : Hid (Grows w Z Z7) := hid (HGi.out.trans (fun j hj => (hG j hj).imp id (fun hge => Nat.le_trans HN6.out.size hge)) HFi.out.size)
              have HF7 : Hid (Fr (fun k => Z k ∨ k = bg) w w7) := hid ((HFi.out.trans' HN6.out.no).trans hF (fun j hj => (HGi.out j hj).imp .inl id))
              clear hA hF hG
              by_cases ha : a1 = 0
              · subst ha
                have HPu' : Hid (a2.puts g x.data.toList n (n - (i + 1)) (i + 1) = u.puts g x.data.toList n n 0) := hid (by
                  have h1 := HPut.out
                  rw [if_neg (by simp)] at h1
                  exact h1.symm.trans HPu.out)
                go_wp2_with fail
                exact ⟨⟨i + 1, a2, Z7, by go_num, by omega, HPu', hid (by have h1 : a2.P.length ≤ ui.P.length + 1 := HWP.out; have := HPl.out; omega), HA7, HF7, HG7⟩, by simp [intOf]; omega⟩
              · have HPu' : Hid (u.puts g x.data.toList n n 0 = (a1, a2)) := hid (by
                  have h1 := HPut.out
                  rw [if_pos ha] at h1
                  exact HPu.out.symm.trans h1)
                have a0 : (a1 != 0) = true := by simp [ha]
                have HR4 : Hid (r = (a1, a2, g)) := hid (by
                  have h1 := HR3.out
                  simp only [HPu'.out] at h1
                  rw [if_pos ha] at h1
                  exact h1)
                clear ha
                go_wp2_with fail
                go_ret
                rw [HR4.out]
                exact ⟨rfl, Z7, HA7.out, HF7.out, HG7.out⟩

          · have hi0i : ((i : Int) == 0) = false := by simp; omega
            by_cases hil : i + 1 = n
            · have hili : ((i : Int) == (n : Int) - 1) = true := by simp; omega
              go_wp2_with fail
              obtain ⟨k, HBk, HK, hkv⟩ : ∃ k : Nat, Hid (Blk (w3.setCell ⟨wr.heap.size, 3, none⟩ (.int .i64 2)) wr.heap.size 148 (secCells ⟨false, g.epoch, g.life, g.next + i, k, 0, zeros48⟩)) ∧ Hid (k = (if i = 0 then 1 else 0) + (if i + 1 = n then 2 else 0)) ∧ (k : Int) ≤ 3 :=
                ⟨2, hid (HB3'.out.set 3 (.int .i64 2)), hid (by rw [if_neg hi0, if_pos hil]), by decide⟩
              have HFk : Hid (Fr No wr (w3.setCell ⟨wr.heap.size, 3, none⟩ (.int .i64 2))) := hid ((HF3'.out).setCell _ _ (.inr (Nat.le_refl _)))
              clear b3 q3
              generalize w3.setCell ⟨wr.heap.size, 3, none⟩ (.int .i64 2) = w4 at HBk HFk ⊢
              clear hi0 hil hi0i hili
              have hold : Facts.hold [] w4.drew := Facts.nil_hold _
              refine wpD_region hold (by kernel_rfl) 9 rfl ?_
              (refine wpD_plain 0 (v := ?_) rfl (by kernel_rfl) (by kernel_rfl) (by kernel_rfl) (fun _ _ _ h => h) (by rfl) ?_ (by assumption) ?_; rotate_left; (intro _w; go_simp; try with_reducible rfl); simp only [Act.put, List.setIfInBounds_toArray, List.set_cons_zero, List.set_cons_succ])
              (refine wpD_plain 1 (v := ?_) rfl (by kernel_rfl) (by kernel_rfl) (by kernel_rfl) (fun _ _ _ h => h) (by rfl) ?_ (by assumption) ?_; rotate_left; (intro _w; go_simp; try with_reducible rfl); simp only [Act.put, List.setIfInBounds_toArray, List.set_cons_zero, List.set_cons_succ])
              (refine wpD_plain 2 (v := ?_) rfl (by kernel_rfl) (by kernel_rfl) (by kernel_rfl) (fun _ _ _ h => h) (by rfl) ?_ (by assumption) ?_; rotate_left; (intro _w; go_simp; try with_reducible rfl); simp only [Act.put, List.setIfInBounds_toArray, List.set_cons_zero, List.set_cons_succ])
              (refine wpD_plain 3 (v := ?_) rfl (by kernel_rfl) (by kernel_rfl) (by kernel_rfl) (fun _ _ _ h => h) (by rfl) ?_ (by assumption) ?_; rotate_left; (intro _w; go_simp; try with_reducible rfl); simp only [Act.put, List.setIfInBounds_toArray, List.set_cons_zero, List.set_cons_succ])
              (refine wpD_plain 4 (v := (.int .i64 ((48 * i : Nat) : Int))) rfl (by kernel_rfl) (by kernel_rfl) (by kernel_rfl) (fun _ _ _ h => h) (by rfl) ?_ (by assumption) ?_; (intro _w; go_simp; exact WM.out); simp only [Act.put, List.setIfInBounds_toArray, List.set_cons_zero, List.set_cons_succ])
              have hle : 48 * i ≤ x.size := by rcases HFitN.out i (by omega) with h0 | h0 <;> omega
              (refine wpD_plain 5 (v := (.string (x.extract (48 * i) x.size))) rfl (by kernel_rfl) (by kernel_rfl) (by kernel_rfl) (fun _ _ _ h => h) (by rfl) ?_ (by assumption) ?_; (intro _w; go_simp; (rw [if_pos ⟨by omega, by omega⟩, show (48 * (i : Int)).toNat = 48 * i by omega])); simp only [Act.put, List.setIfInBounds_toArray, List.set_cons_zero, List.set_cons_succ])
              have HCs : Hid ((x.data.toList.drop (48 * i)).take 48 = (x.extract (48 * i) x.size).data.toList.take 48) := hid (by rw [ext_list])
              have hb48 : ((x.data.toList.drop (48 * i)).take 48).length ≤ 48 := by rw [List.length_take]; omega
              have HRec : Hid (recSec g x.data.toList n i = made g.epoch g.life (g.next + i) k ((x.data.toList.drop (48 * i)).take 48).length (pad48 ((x.data.toList.drop (48 * i)).take 48))) := hid (by rw [HK.out]; rfl)
              have HPut := hid (puts_step g x.data.toList n (n - (i + 1)) i ui)
              rw [show n - (i + 1) + 1 = n - i by omega] at HPut
              generalize (x.data.toList.drop (48 * i)).take 48 = b at HCs hb48 HRec
              have HB48 := hid hb48
              refine wpD_only 6 [] rfl (by kernel_rfl) (by kernel_rfl) (by rfl) (fun K6 hK6 => ?_)
              refine wp_copyS _ _ _ _ rfl 5 rfl size8 wr.heap.size 5 48 48 (by rfl) (x.extract (48 * i) x.size) (by rfl) 148 _ HBk.out.drew b HCs.out (by rw [sec_len]; simp only [zeros48, List.length_replicate]; omega) ?_
              intro w5 HB5 HF5 HS5
              refine hK6 _ _ (Facts.nil_hold _) ?_
              clear hK6 K6 hold
              simp only [Act.put, List.setIfInBounds_toArray, List.set_cons_zero, List.set_cons_succ]
              have HB5' : Hid (Blk w5 wr.heap.size 148 (secCells ⟨false, g.epoch, g.life, g.next + i, k, 0, pad48 b⟩)) := hid (by
                have := HB5.out
                rwa [spl_sec] at this)
              have hold : Facts.hold [] w5 := Facts.nil_hold _
              (refine wpD_plain 7 (v := ?_) rfl (by kernel_rfl) (by kernel_rfl) (by kernel_rfl) (fun _ _ _ h => h) (by rfl) ?_ (by assumption) ?_; rotate_left; (intro _w; go_simp; try with_reducible rfl); simp only [Act.put, List.setIfInBounds_toArray, List.set_cons_zero, List.set_cons_succ])
              have b4 : w5.cell? ⟨wr.heap.size, 4, none⟩ = some (.int .i64 0) := HB5'.out.cell 4
              have q4 : w5.frozen? ⟨wr.heap.size, 4, none⟩ = false := HB5'.out.frozen 4
              refine wpD_only 8 [] rfl (by kernel_rfl) (by kernel_rfl) (by rfl) (fun K8 hK8 => ?_)
              go_simp
              refine hK8 _ _ (Facts.nil_hold _) ?_
              clear hK8 K8 hold
              refine wpD_done (by kernel_rfl) ?_ _
              have HB6 : Hid (Blk (w5.setCell ⟨wr.heap.size, 4, none⟩ (.int .i64 b.length)) wr.heap.size 148 (secCells ⟨false, g.epoch, g.life, g.next + i, k, b.length, pad48 b⟩)) := hid (HB5'.out.set 4 _)
              have HN6 : Hid (Fr No wr (w5.setCell ⟨wr.heap.size, 4, none⟩ (.int .i64 b.length))) := hid ((HFk.out.drew.trans HF5.out (fun j hj => .inr (Nat.le_of_eq hj.symm))).setCell _ _ (.inr (Nat.le_refl _)))
              clear HB5 HF5 HS5 HB5' b4 q4
              generalize w5.setCell ⟨wr.heap.size, 4, none⟩ (.int .i64 b.length) = w6 at HB6 HN6 ⊢
              have HA6 := hid (HAi.out.no HN6.out)
              have HR6 : Hid (w6.rangeAt wr.heap.size 0 (secCells ⟨false, g.epoch, g.life, g.next + i, k, b.length, pad48 b⟩)) := hid (HB6.out.range 0 _ (by rw [List.drop_zero, List.take_length]))
              have HOk : Hid ((⟨false, g.epoch, g.life, g.next + i, k, b.length, pad48 b⟩ : Sec).Ok) := hid ⟨HAi.out.2.2.2.ep, HAi.out.2.2.2.li, by simp only; omega, by simp only; omega, by simp only; omega, pad48_length HB48.out⟩
              go_wp2_with ((with_reducible show wpList _ _ _ (⟨_, .load 148 _, _, _, _, _⟩ :: _) _ _); refine wpL_load rfl _ _ rfl wr.heap.size 0 rfl (secCells ⟨false, g.epoch, g.life, g.next + i, k, b.length, pad48 b⟩) _ HR6.out rfl rfl (by rw [info87, sec_len, HOk.out.by48]) ?_)
              refine (write_any w6 bg bd Zi g ui ⟨false, g.epoch, g.life, g.next + i, k, b.length, pad48 b⟩ HA6.out HOk.out (by have := HPl.out; have := HP.out; omega)).mono ?_
              rintro e' w7 ⟨rfl, Z7, hA, hF, hG⟩
              simp only at hA hF hG ⊢
              rw [← HRec.out] at hA ⊢
              have HWP := hid (write_P ui ((g.first + (g.next + i) : Nat) : Int) (recSec g x.data.toList n i))
              have hput := HPut.out
              clear HPut
              generalize ui.write ((g.first + (g.next + i) : Nat) : Int) (recSec g x.data.toList n i) = a at hA hput HWP ⊢
              obtain ⟨a1, a2⟩ := a
              simp only at hA hput ⊢
              have HPut := hid hput
              clear hput
              have HA7 := hid hA
              have HG7 : Hid (Grows w Z Z7) := hid (HGi.out.trans (fun j hj => (hG j hj).imp id (fun hge => Nat.le_trans HN6.out.size hge)) HFi.out.size)
              have HF7 : Hid (Fr (fun k => Z k ∨ k = bg) w w7) := hid ((HFi.out.trans' HN6.out.no).trans hF (fun j hj => (HGi.out j hj).imp .inl id))
              clear hA hF hG
              by_cases ha : a1 = 0
              · subst ha
                have HPu' : Hid (a2.puts g x.data.toList n (n - (i + 1)) (i + 1) = u.puts g x.data.toList n n 0) := hid (by
                  have h1 := HPut.out
                  rw [if_neg (by simp)] at h1
                  exact h1.symm.trans HPu.out)
                go_wp2_with fail
                exact ⟨⟨i + 1, a2, Z7, by go_num, by omega, HPu', hid (by have h1 : a2.P.length ≤ ui.P.length + 1 := HWP.out; have := HPl.out; omega), HA7, HF7, HG7⟩, by simp [intOf]; omega⟩
              · have HPu' : Hid (u.puts g x.data.toList n n 0 = (a1, a2)) := hid (by
                  have h1 := HPut.out
                  rw [if_pos ha] at h1
                  exact HPu.out.symm.trans h1)
                have a0 : (a1 != 0) = true := by simp [ha]
                have HR4 : Hid (r = (a1, a2, g)) := hid (by
                  have h1 := HR3.out
                  simp only [HPu'.out] at h1
                  rw [if_pos ha] at h1
                  exact h1)
                clear ha
                go_wp2_with fail
                go_ret
                rw [HR4.out]
                exact ⟨rfl, Z7, HA7.out, HF7.out, HG7.out⟩

            · have hili : ((i : Int) == (n : Int) - 1) = false := by simp; omega
              go_wp2_with fail
              obtain ⟨k, HBk, HK, hkv⟩ : ∃ k : Nat, Hid (Blk (w3) wr.heap.size 148 (secCells ⟨false, g.epoch, g.life, g.next + i, k, 0, zeros48⟩)) ∧ Hid (k = (if i = 0 then 1 else 0) + (if i + 1 = n then 2 else 0)) ∧ (k : Int) ≤ 3 :=
                ⟨0, hid (HB3'.out), hid (by rw [if_neg hi0, if_neg hil]), by decide⟩
              have HFk : Hid (Fr No wr (w3)) := hid (HF3'.out)
              clear b3 q3
              generalize hw4 : w3 = w4 at HBk HFk ⊢; clear hw4
              clear hi0 hil hi0i hili
              have hold : Facts.hold [] w4.drew := Facts.nil_hold _
              refine wpD_region hold (by kernel_rfl) 9 rfl ?_
              (refine wpD_plain 0 (v := ?_) rfl (by kernel_rfl) (by kernel_rfl) (by kernel_rfl) (fun _ _ _ h => h) (by rfl) ?_ (by assumption) ?_; rotate_left; (intro _w; go_simp; try with_reducible rfl); simp only [Act.put, List.setIfInBounds_toArray, List.set_cons_zero, List.set_cons_succ])
              (refine wpD_plain 1 (v := ?_) rfl (by kernel_rfl) (by kernel_rfl) (by kernel_rfl) (fun _ _ _ h => h) (by rfl) ?_ (by assumption) ?_; rotate_left; (intro _w; go_simp; try with_reducible rfl); simp only [Act.put, List.setIfInBounds_toArray, List.set_cons_zero, List.set_cons_succ])
              (refine wpD_plain 2 (v := ?_) rfl (by kernel_rfl) (by kernel_rfl) (by kernel_rfl) (fun _ _ _ h => h) (by rfl) ?_ (by assumption) ?_; rotate_left; (intro _w; go_simp; try with_reducible rfl); simp only [Act.put, List.setIfInBounds_toArray, List.set_cons_zero, List.set_cons_succ])
              (refine wpD_plain 3 (v := ?_) rfl (by kernel_rfl) (by kernel_rfl) (by kernel_rfl) (fun _ _ _ h => h) (by rfl) ?_ (by assumption) ?_; rotate_left; (intro _w; go_simp; try with_reducible rfl); simp only [Act.put, List.setIfInBounds_toArray, List.set_cons_zero, List.set_cons_succ])
              (refine wpD_plain 4 (v := (.int .i64 ((48 * i : Nat) : Int))) rfl (by kernel_rfl) (by kernel_rfl) (by kernel_rfl) (fun _ _ _ h => h) (by rfl) ?_ (by assumption) ?_; (intro _w; go_simp; exact WM.out); simp only [Act.put, List.setIfInBounds_toArray, List.set_cons_zero, List.set_cons_succ])
              have hle : 48 * i ≤ x.size := by rcases HFitN.out i (by omega) with h0 | h0 <;> omega
              (refine wpD_plain 5 (v := (.string (x.extract (48 * i) x.size))) rfl (by kernel_rfl) (by kernel_rfl) (by kernel_rfl) (fun _ _ _ h => h) (by rfl) ?_ (by assumption) ?_; (intro _w; go_simp; (rw [if_pos ⟨by omega, by omega⟩, show (48 * (i : Int)).toNat = 48 * i by omega])); simp only [Act.put, List.setIfInBounds_toArray, List.set_cons_zero, List.set_cons_succ])
              have HCs : Hid ((x.data.toList.drop (48 * i)).take 48 = (x.extract (48 * i) x.size).data.toList.take 48) := hid (by rw [ext_list])
              have hb48 : ((x.data.toList.drop (48 * i)).take 48).length ≤ 48 := by rw [List.length_take]; omega
              have HRec : Hid (recSec g x.data.toList n i = made g.epoch g.life (g.next + i) k ((x.data.toList.drop (48 * i)).take 48).length (pad48 ((x.data.toList.drop (48 * i)).take 48))) := hid (by rw [HK.out]; rfl)
              have HPut := hid (puts_step g x.data.toList n (n - (i + 1)) i ui)
              rw [show n - (i + 1) + 1 = n - i by omega] at HPut
              generalize (x.data.toList.drop (48 * i)).take 48 = b at HCs hb48 HRec
              have HB48 := hid hb48
              refine wpD_only 6 [] rfl (by kernel_rfl) (by kernel_rfl) (by rfl) (fun K6 hK6 => ?_)
              refine wp_copyS _ _ _ _ rfl 5 rfl size8 wr.heap.size 5 48 48 (by rfl) (x.extract (48 * i) x.size) (by rfl) 148 _ HBk.out.drew b HCs.out (by rw [sec_len]; simp only [zeros48, List.length_replicate]; omega) ?_
              intro w5 HB5 HF5 HS5
              refine hK6 _ _ (Facts.nil_hold _) ?_
              clear hK6 K6 hold
              simp only [Act.put, List.setIfInBounds_toArray, List.set_cons_zero, List.set_cons_succ]
              have HB5' : Hid (Blk w5 wr.heap.size 148 (secCells ⟨false, g.epoch, g.life, g.next + i, k, 0, pad48 b⟩)) := hid (by
                have := HB5.out
                rwa [spl_sec] at this)
              have hold : Facts.hold [] w5 := Facts.nil_hold _
              (refine wpD_plain 7 (v := ?_) rfl (by kernel_rfl) (by kernel_rfl) (by kernel_rfl) (fun _ _ _ h => h) (by rfl) ?_ (by assumption) ?_; rotate_left; (intro _w; go_simp; try with_reducible rfl); simp only [Act.put, List.setIfInBounds_toArray, List.set_cons_zero, List.set_cons_succ])
              have b4 : w5.cell? ⟨wr.heap.size, 4, none⟩ = some (.int .i64 0) := HB5'.out.cell 4
              have q4 : w5.frozen? ⟨wr.heap.size, 4, none⟩ = false := HB5'.out.frozen 4
              refine wpD_only 8 [] rfl (by kernel_rfl) (by kernel_rfl) (by rfl) (fun K8 hK8 => ?_)
              go_simp
              refine hK8 _ _ (Facts.nil_hold _) ?_
              clear hK8 K8 hold
              refine wpD_done (by kernel_rfl) ?_ _
              have HB6 : Hid (Blk (w5.setCell ⟨wr.heap.size, 4, none⟩ (.int .i64 b.length)) wr.heap.size 148 (secCells ⟨false, g.epoch, g.life, g.next + i, k, b.length, pad48 b⟩)) := hid (HB5'.out.set 4 _)
              have HN6 : Hid (Fr No wr (w5.setCell ⟨wr.heap.size, 4, none⟩ (.int .i64 b.length))) := hid ((HFk.out.drew.trans HF5.out (fun j hj => .inr (Nat.le_of_eq hj.symm))).setCell _ _ (.inr (Nat.le_refl _)))
              clear HB5 HF5 HS5 HB5' b4 q4
              generalize w5.setCell ⟨wr.heap.size, 4, none⟩ (.int .i64 b.length) = w6 at HB6 HN6 ⊢
              have HA6 := hid (HAi.out.no HN6.out)
              have HR6 : Hid (w6.rangeAt wr.heap.size 0 (secCells ⟨false, g.epoch, g.life, g.next + i, k, b.length, pad48 b⟩)) := hid (HB6.out.range 0 _ (by rw [List.drop_zero, List.take_length]))
              have HOk : Hid ((⟨false, g.epoch, g.life, g.next + i, k, b.length, pad48 b⟩ : Sec).Ok) := hid ⟨HAi.out.2.2.2.ep, HAi.out.2.2.2.li, by simp only; omega, by simp only; omega, by simp only; omega, pad48_length HB48.out⟩
              go_wp2_with ((with_reducible show wpList _ _ _ (⟨_, .load 148 _, _, _, _, _⟩ :: _) _ _); refine wpL_load rfl _ _ rfl wr.heap.size 0 rfl (secCells ⟨false, g.epoch, g.life, g.next + i, k, b.length, pad48 b⟩) _ HR6.out rfl rfl (by rw [info87, sec_len, HOk.out.by48]) ?_)
              refine (write_any w6 bg bd Zi g ui ⟨false, g.epoch, g.life, g.next + i, k, b.length, pad48 b⟩ HA6.out HOk.out (by have := HPl.out; have := HP.out; omega)).mono ?_
              rintro e' w7 ⟨rfl, Z7, hA, hF, hG⟩
              simp only at hA hF hG ⊢
              rw [← HRec.out] at hA ⊢
              have HWP := hid (write_P ui ((g.first + (g.next + i) : Nat) : Int) (recSec g x.data.toList n i))
              have hput := HPut.out
              clear HPut
              generalize ui.write ((g.first + (g.next + i) : Nat) : Int) (recSec g x.data.toList n i) = a at hA hput HWP ⊢
              obtain ⟨a1, a2⟩ := a
              simp only at hA hput ⊢
              have HPut := hid hput
              clear hput
              have HA7 := hid hA
              have HG7 : Hid (Grows w Z Z7) := hid (HGi.out.trans (fun j hj => (hG j hj).imp id (fun hge => Nat.le_trans HN6.out.size hge)) HFi.out.size)
              have HF7 : Hid (Fr (fun k => Z k ∨ k = bg) w w7) := hid ((HFi.out.trans' HN6.out.no).trans hF (fun j hj => (HGi.out j hj).imp .inl id))
              clear hA hF hG
              by_cases ha : a1 = 0
              · subst ha
                have HPu' : Hid (a2.puts g x.data.toList n (n - (i + 1)) (i + 1) = u.puts g x.data.toList n n 0) := hid (by
                  have h1 := HPut.out
                  rw [if_neg (by simp)] at h1
                  exact h1.symm.trans HPu.out)
                go_wp2_with fail
                exact ⟨⟨i + 1, a2, Z7, by go_num, by omega, HPu', hid (by have h1 : a2.P.length ≤ ui.P.length + 1 := HWP.out; have := HPl.out; omega), HA7, HF7, HG7⟩, by simp [intOf]; omega⟩
              · have HPu' : Hid (u.puts g x.data.toList n n 0 = (a1, a2)) := hid (by
                  have h1 := HPut.out
                  rw [if_pos ha] at h1
                  exact HPu.out.symm.trans h1)
                have a0 : (a1 != 0) = true := by simp [ha]
                have HR4 : Hid (r = (a1, a2, g)) := hid (by
                  have h1 := HR3.out
                  simp only [HPu'.out] at h1
                  rw [if_pos ha] at h1
                  exact h1)
                clear ha
                go_wp2_with fail
                go_ret
                rw [HR4.out]
                exact ⟨rfl, Z7, HA7.out, HF7.out, HG7.out⟩

        · have hin : i = n := by omega
          have hgei : ¬ ((i : Int) < n) := by omega
          have c5 : wr.cell? ⟨bg, 5, none⟩ = some (.int .i64 g.next) := HAi.out.2.1.cell 5
          have f5 : wr.frozen? ⟨bg, 5, none⟩ = false := HAi.out.2.1.frozen 5
          have HPu' : Hid (u.puts g x.data.toList n n 0 = (0, ui)) := hid (by
            have h1 := HPu.out
            rw [hin, Nat.sub_self] at h1
            exact h1.symm)
          have HR4 : Hid (r = (0, ui, { g with next := g.next + n })) := hid (by
            have h1 := HR3.out
            simp only [HPu'.out] at h1
            rw [if_neg (by simp)] at h1
            exact h1)
          have HN1 := hid hn1
          clear hin hlt
          go_wp2_with fail
          go_ret
          rw [HR4.out]
          have hA := HAi.out.setNext (g.next + n) (by have := HN1.out; omega) H2n.out
          exact ⟨rfl, Zi, hA, HFi.out.setCell _ _ (.inl (.inr rfl)), HGi.out⟩
end Go.Proofs.YtflfmkokfbgclaaGreat.L
