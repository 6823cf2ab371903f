/-
  Package aes: following.
-/
import Derived.Test.YtgbcddhgeepjgaaAesR
namespace Go.Proofs.Ytgbcddhgeepjgaa.AE
set_option maxRecDepth 100000
open Go.RowKit K

theorem zero4 (w : World) : (zeroValue 38).run Try.prog w = .ok (bk (fun _ => 0) 4) w := by kernel_rfl
set_option maxHeartbeats 4000000 in
theorem fol_any (f : Nat → Nat) (c : Nat) (w : World) (hf : By f) (hc : c < 256) : Calls Try.prog 24 #[bk f 16, .int .u8 (c : Int)] w fun e w' =>
    e = .returned (bk (fol f c) 16) ∧ Fr No w w' := by
  have HF := hid hf; have HC := hid hc; clear hf hc
  go_enter Try.func24, Try.ntmps24
  go_wp2_with (first
    | ((with_reducible show wpList _ _ _ ({ dst := _, op := .box 27 _, type := _, pos := _, after := _, guard := _ } :: _) _ _); refine wpL_box rfl _ _ rfl (bk f 16) rfl (b8 f 16) rfl ?_; intro w1 HB1 HF1 HS1)
    | ((with_reducible show wpList _ _ _ ({ dst := _, op := .alloc 27, type := _, pos := _, after := _, guard := _ } :: _) _ _); refine wpL_alloc rfl _ rfl _ zero16 (b8 (fun _ => 0) 16) rfl ?_; intro w2 HB2 HF2 HS2))
  have hB1 := HB1.out.fr HF2.out id
  have hB2 := HB2.out
  have hf3 := HF1.out.trans' HF2.out
  obtain ⟨b1, hb1⟩ : ∃ b, w.heap.size = b := ⟨_, rfl⟩
  obtain ⟨b2, hb2⟩ : ∃ b, w1.heap.size = b := ⟨_, rfl⟩
  have hs1 := HS1.out
  have hs2 := HS2.out
  rw [hb1, hb2] at hs1
  rw [hb2] at hs2
  rw [hb1] at hB1; rw [hb2] at hB2
  rw [hb1, hb2]
  have HW := hid (show w.heap.size ≤ b1 ∧ w.heap.size ≤ b2 ∧ w2.heap.size = b1 + 2 ∧ b2 = b1 + 1 by omega)
  have HR := hid (show Blk w2 b1 27 (b8 f 16) ∧ Blk w2 b2 27 (b8 (fun _ => 0) 16) ∧ Fr No w w2 from ⟨hB1, hB2, hf3⟩)
  clear HB1 HB2 HF1 HF2 HS1 HS2 hB1 hB2 hf3 hb1 hb2 hs1 hs2
  have c1 := blk_at HR.out.1 (i := 13) (by decide)
  have c2 := blk_at HR.out.1 (i := 14) (by decide)
  have c3 := blk_at HR.out.1 (i := 15) (by decide)
  have c4 := blk_at HR.out.1 (i := 12) (by decide)
  have hx : bits .xor .u8 (box (f 13) : Nat) (c : Int) = ((box (f 13) ^^^ c : Nat) : Int) := xor8 (box_lt (HF.out 13)) HC.out
  have hold : Facts.hold [(1, fun w' => w'.cell? ⟨b1, 13, none⟩ = some (.int .u8 (f 13 : Int))), (6, fun w' => w'.cell? ⟨b1, 14, none⟩ = some (.int .u8 (f 14 : Int))), (9, fun w' => w'.cell? ⟨b1, 15, none⟩ = some (.int .u8 (f 15 : Int))), (12, fun w' => w'.cell? ⟨b1, 12, none⟩ = some (.int .u8 (f 12 : Int)))] w2.drew :=
    Facts.cons_hold c1 (Facts.cons_hold c2 (Facts.cons_hold c3 (Facts.cons_hold c4 (Facts.nil_hold _))))
  refine wpD_region hold (by kernel_rfl) 17 rfl ?_
  (refine wpD_plain 0 (v := ?_) rfl (by kernel_rfl) (by kernel_rfl) (by kernel_rfl) (fun _ _ _ h => h) (by rfl) ?_ (by assumption) ?_; rotate_left; (intro _w; go_simp; try with_reducible rfl); simp only [Act.put, List.setIfInBounds_toArray, List.set_cons_zero, List.set_cons_succ])
  (refine wpD_take 1 _ rfl (by kernel_rfl) (by kernel_rfl) (by kernel_rfl) (fun _ _ _ h => h) List.mem_cons_self (by rfl) (v := ?_) ?_ (by assumption) ?_; rotate_left; (intro _w _hw; go_simp; try with_reducible rfl); simp only [Act.put, List.setIfInBounds_toArray, List.set_cons_zero, List.set_cons_succ])
  (refine wpD_plain 3 (v := ?_) rfl (by kernel_rfl) (by kernel_rfl) (by kernel_rfl) (fun _ _ _ h => h) (by rfl) ?_ (by assumption) ?_; rotate_left; (intro _w; go_simp; try with_reducible rfl); simp only [Act.put, List.setIfInBounds_toArray, List.set_cons_zero, List.set_cons_succ])
  (refine wpD_plain 5 (v := ?_) rfl (by kernel_rfl) (by kernel_rfl) (by kernel_rfl) (fun _ _ _ h => h) (by rfl) ?_ (by assumption) ?_; rotate_left; (intro _w; go_simp; try with_reducible rfl); simp only [Act.put, List.setIfInBounds_toArray, List.set_cons_zero, List.set_cons_succ])
  (refine wpD_take 6 _ rfl (by kernel_rfl) (by kernel_rfl) (by kernel_rfl) (fun _ _ _ h => h) (List.mem_cons_of_mem _ List.mem_cons_self) (by rfl) (v := ?_) ?_ (by assumption) ?_; rotate_left; (intro _w _hw; go_simp; try with_reducible rfl); simp only [Act.put, List.setIfInBounds_toArray, List.set_cons_zero, List.set_cons_succ])
  (refine wpD_plain 8 (v := ?_) rfl (by kernel_rfl) (by kernel_rfl) (by kernel_rfl) (fun _ _ _ h => h) (by rfl) ?_ (by assumption) ?_; rotate_left; (intro _w; go_simp; try with_reducible rfl); simp only [Act.put, List.setIfInBounds_toArray, List.set_cons_zero, List.set_cons_succ])
  (refine wpD_take 9 _ rfl (by kernel_rfl) (by kernel_rfl) (by kernel_rfl) (fun _ _ _ h => h) (List.mem_cons_of_mem _ (List.mem_cons_of_mem _ List.mem_cons_self)) (by rfl) (v := ?_) ?_ (by assumption) ?_; rotate_left; (intro _w _hw; go_simp; try with_reducible rfl); simp only [Act.put, List.setIfInBounds_toArray, List.set_cons_zero, List.set_cons_succ])
  (refine wpD_plain 11 (v := ?_) rfl (by kernel_rfl) (by kernel_rfl) (by kernel_rfl) (fun _ _ _ h => h) (by rfl) ?_ (by assumption) ?_; rotate_left; (intro _w; go_simp; try with_reducible rfl); simp only [Act.put, List.setIfInBounds_toArray, List.set_cons_zero, List.set_cons_succ])
  (refine wpD_take 12 _ rfl (by kernel_rfl) (by kernel_rfl) (by kernel_rfl) (fun _ _ _ h => h) (List.mem_cons_of_mem _ (List.mem_cons_of_mem _ (List.mem_cons_of_mem _ List.mem_cons_self))) (by rfl) (v := ?_) ?_ (by assumption) ?_; rotate_left; (intro _w _hw; go_simp; try with_reducible rfl); simp only [Act.put, List.setIfInBounds_toArray, List.set_cons_zero, List.set_cons_succ])
  refine wpD_join (fun _ a' w' => a' = ⟨#[bk f 16, .int .u8 (c : Int), .pointer (some ⟨b1, 0, none⟩), undef, .pointer (some ⟨b2, 0, none⟩), .pointer (some ⟨w2.heap.size, 0, none⟩), undef, .pointer (some ⟨b1, 13, none⟩), .int .u8 (f 13 : Int), .int .u8 (box (f 13) : Nat), .int .u8 (c : Int), .int .u8 ((box (f 13) ^^^ c : Nat) : Int), .pointer (some ⟨b1, 14, none⟩), .int .u8 (f 14 : Int), .int .u8 (box (f 14) : Nat), .pointer (some ⟨b1, 15, none⟩), .int .u8 (f 15 : Int), .int .u8 (box (f 15) : Nat), .pointer (some ⟨b1, 12, none⟩), .int .u8 (f 12 : Int), .int .u8 (box (f 12) : Nat), bk (t0 f c) 4, undef, undef, undef, undef, undef, undef, undef, undef, undef, undef, undef, undef, undef, undef, undef, undef, undef, undef, undef, undef], []⟩ ∧ Blk w' w2.heap.size 38 (b8 (fun _ => 0) 4) ∧ Fr No w2.drew w') [] 1 ((((Array.replicate 17 true).setIfInBounds 16 false))) (fun tail => ?_) ?_
  · skip
    refine wpD_two 2 15 [(6, fun w' => w'.cell? ⟨b1, 14, none⟩ = some (.int .u8 (f 14 : Int))), (9, fun w' => w'.cell? ⟨b1, 15, none⟩ = some (.int .u8 (f 15 : Int))), (12, fun w' => w'.cell? ⟨b1, 12, none⟩ = some (.int .u8 (f 12 : Int)))] [(1, fun w' => w'.cell? ⟨b1, 13, none⟩ = some (.int .u8 (f 13 : Int))), (6, fun w' => w'.cell? ⟨b1, 14, none⟩ = some (.int .u8 (f 14 : Int))), (9, fun w' => w'.cell? ⟨b1, 15, none⟩ = some (.int .u8 (f 15 : Int))), (12, fun w' => w'.cell? ⟨b1, 12, none⟩ = some (.int .u8 (f 12 : Int)))] rfl rfl (by kernel_rfl) (by kernel_rfl) (by kernel_rfl) (by rfl) (by rfl) ?_ ?_
    · intro K hK
      refine wp_call _ [_] _ rfl _ [] rfl (fun _ _ => by kernel_rfl) [.int .u8 (f 13 : Int)] rfl ?_
      refine (box_any (f 13) _ (HF.out 13)).mono ?_
      rintro e w' ⟨rfl, rfl⟩
      refine ⟨_, rfl, hK _ _ (Facts.cons_hold c2 (Facts.cons_hold c3 (Facts.cons_hold c4 (Facts.nil_hold _)))) ?_⟩
      clear hK K
      simp only [Act.put, List.setIfInBounds_toArray, List.set_cons_zero, List.set_cons_succ]
      replace hold : Facts.hold [(6, fun w' => w'.cell? ⟨b1, 14, none⟩ = some (.int .u8 (f 14 : Int))), (9, fun w' => w'.cell? ⟨b1, 15, none⟩ = some (.int .u8 (f 15 : Int))), (12, fun w' => w'.cell? ⟨b1, 12, none⟩ = some (.int .u8 (f 12 : Int)))] w2.drew := (Facts.cons_hold c2 (Facts.cons_hold c3 (Facts.cons_hold c4 (Facts.nil_hold _))))
      (refine wpD_plain 4 (v := ?_) rfl (by kernel_rfl) (by kernel_rfl) (by kernel_rfl) (fun _ _ _ h => h) (by rfl) ?_ (by assumption) ?_; rotate_left; (intro _w; go_simp; try with_reducible rfl); simp only [Act.put, List.setIfInBounds_toArray, List.set_cons_zero, List.set_cons_succ])
      refine wpD_two 7 15 [(9, fun w' => w'.cell? ⟨b1, 15, none⟩ = some (.int .u8 (f 15 : Int))), (12, fun w' => w'.cell? ⟨b1, 12, none⟩ = some (.int .u8 (f 12 : Int)))] [(6, fun w' => w'.cell? ⟨b1, 14, none⟩ = some (.int .u8 (f 14 : Int))), (9, fun w' => w'.cell? ⟨b1, 15, none⟩ = some (.int .u8 (f 15 : Int))), (12, fun w' => w'.cell? ⟨b1, 12, none⟩ = some (.int .u8 (f 12 : Int)))] rfl rfl (by kernel_rfl) (by kernel_rfl) (by kernel_rfl) (by rfl) (by rfl) ?_ ?_
      · intro K hK
        refine wp_call _ [_] _ rfl _ [] rfl (fun _ _ => by kernel_rfl) [.int .u8 (f 14 : Int)] rfl ?_
        refine (box_any (f 14) _ (HF.out 14)).mono ?_
        rintro e w' ⟨rfl, rfl⟩
        refine ⟨_, rfl, hK _ _ (Facts.cons_hold c3 (Facts.cons_hold c4 (Facts.nil_hold _))) ?_⟩
        clear hK K
        simp only [Act.put, List.setIfInBounds_toArray, List.set_cons_zero, List.set_cons_succ]
        replace hold : Facts.hold [(9, fun w' => w'.cell? ⟨b1, 15, none⟩ = some (.int .u8 (f 15 : Int))), (12, fun w' => w'.cell? ⟨b1, 12, none⟩ = some (.int .u8 (f 12 : Int)))] w2.drew := (Facts.cons_hold c3 (Facts.cons_hold c4 (Facts.nil_hold _)))
        refine wpD_two 10 15 [(12, fun w' => w'.cell? ⟨b1, 12, none⟩ = some (.int .u8 (f 12 : Int)))] [(9, fun w' => w'.cell? ⟨b1, 15, none⟩ = some (.int .u8 (f 15 : Int))), (12, fun w' => w'.cell? ⟨b1, 12, none⟩ = some (.int .u8 (f 12 : Int)))] rfl rfl (by kernel_rfl) (by kernel_rfl) (by kernel_rfl) (by rfl) (by rfl) ?_ ?_
        · intro K hK
          refine wp_call _ [_] _ rfl _ [] rfl (fun _ _ => by kernel_rfl) [.int .u8 (f 15 : Int)] rfl ?_
          refine (box_any (f 15) _ (HF.out 15)).mono ?_
          rintro e w' ⟨rfl, rfl⟩
          refine ⟨_, rfl, hK _ _ (Facts.cons_hold c4 (Facts.nil_hold _)) ?_⟩
          clear hK K
          simp only [Act.put, List.setIfInBounds_toArray, List.set_cons_zero, List.set_cons_succ]
          replace hold : Facts.hold [(12, fun w' => w'.cell? ⟨b1, 12, none⟩ = some (.int .u8 (f 12 : Int)))] w2.drew := (Facts.cons_hold c4 (Facts.nil_hold _))
          refine wpD_two 13 15 [] [(12, fun w' => w'.cell? ⟨b1, 12, none⟩ = some (.int .u8 (f 12 : Int)))] rfl rfl (by kernel_rfl) (by kernel_rfl) (by kernel_rfl) (by rfl) (by rfl) ?_ ?_
          · intro K hK
            refine wp_call _ [_] _ rfl _ [] rfl (fun _ _ => by kernel_rfl) [.int .u8 (f 12 : Int)] rfl ?_
            refine (box_any (f 12) _ (HF.out 12)).mono ?_
            rintro e w' ⟨rfl, rfl⟩
            refine ⟨_, rfl, hK _ _ (Facts.nil_hold _) ?_⟩
            clear hK K
            simp only [Act.put, List.setIfInBounds_toArray, List.set_cons_zero, List.set_cons_succ]
            replace hold : Facts.hold [] w2.drew := (Facts.nil_hold _)
            (refine wpD_plain 14 (v := (bk (t0 f c) 4)) rfl (by kernel_rfl) (by kernel_rfl) (by kernel_rfl) (fun _ _ _ h => h) (by rfl) ?_ (by assumption) ?_; (intro _w; go_simp; rfl); simp only [Act.put, List.setIfInBounds_toArray, List.set_cons_zero, List.set_cons_succ])
            refine wpD_only 15 [] rfl (by kernel_rfl) (by kernel_rfl) (by rfl) (fun K hK => ?_)
            refine wp_alloc _ rfl _ zero4 (b8 (fun _ => 0) 4) rfl ?_
            intro w3 HB3 HF3 HS3
            refine hK _ _ (Facts.nil_hold _) ?_
            clear hK K
            simp only [Act.put, List.setIfInBounds_toArray, List.set_cons_zero, List.set_cons_succ]
            exact wpD_cast (by kernel_rfl) (tail _ _ ⟨rfl, HB3.out, HF3.out⟩ (Facts.nil_hold _))
          · intro K hK
            refine wp_alloc _ rfl _ zero4 (b8 (fun _ => 0) 4) rfl ?_
            intro w3 HB3 HF3 HS3
            have d1 := HF3.out.cell (w := w2.drew) c1 id
            have d2 := HF3.out.cell (w := w2.drew) c2 id
            have d3 := HF3.out.cell (w := w2.drew) c3 id
            have d4 := HF3.out.cell (w := w2.drew) c4 id
            refine hK _ _ (Facts.cons_hold d4 (Facts.nil_hold _)) ?_
            clear hK K
            simp only [Act.put, List.setIfInBounds_toArray, List.set_cons_zero, List.set_cons_succ]
            replace hold : Facts.hold [(12, fun w' => w'.cell? ⟨b1, 12, none⟩ = some (.int .u8 (f 12 : Int)))] w3 := (Facts.cons_hold d4 (Facts.nil_hold _))
            refine wpD_only 13 [] rfl (by kernel_rfl) (by kernel_rfl) (by rfl) (fun K hK => ?_)
            refine wp_call _ [_] _ rfl _ [] rfl (fun _ _ => by kernel_rfl) [.int .u8 (f 12 : Int)] rfl ?_
            refine (box_any (f 12) _ (HF.out 12)).mono ?_
            rintro e w' ⟨rfl, rfl⟩
            refine ⟨_, rfl, hK _ _ (Facts.nil_hold _) ?_⟩
            clear hK K
            simp only [Act.put, List.setIfInBounds_toArray, List.set_cons_zero, List.set_cons_succ]
            replace hold : Facts.hold [] w3 := (Facts.nil_hold _)
            (refine wpD_plain 14 (v := (bk (t0 f c) 4)) rfl (by kernel_rfl) (by kernel_rfl) (by kernel_rfl) (fun _ _ _ h => h) (by rfl) ?_ (by assumption) ?_; (intro _w; go_simp; rfl); simp only [Act.put, List.setIfInBounds_toArray, List.set_cons_zero, List.set_cons_succ])
            exact wpD_cast (by kernel_rfl) (tail _ _ ⟨rfl, HB3.out, HF3.out⟩ (Facts.nil_hold _))
        · intro K hK
          refine wp_alloc _ rfl _ zero4 (b8 (fun _ => 0) 4) rfl ?_
          intro w3 HB3 HF3 HS3
          have d1 := HF3.out.cell (w := w2.drew) c1 id
          have d2 := HF3.out.cell (w := w2.drew) c2 id
          have d3 := HF3.out.cell (w := w2.drew) c3 id
          have d4 := HF3.out.cell (w := w2.drew) c4 id
          refine hK _ _ (Facts.cons_hold d3 (Facts.cons_hold d4 (Facts.nil_hold _))) ?_
          clear hK K
          simp only [Act.put, List.setIfInBounds_toArray, List.set_cons_zero, List.set_cons_succ]
          replace hold : Facts.hold [(9, fun w' => w'.cell? ⟨b1, 15, none⟩ = some (.int .u8 (f 15 : Int))), (12, fun w' => w'.cell? ⟨b1, 12, none⟩ = some (.int .u8 (f 12 : Int)))] w3 := (Facts.cons_hold d3 (Facts.cons_hold d4 (Facts.nil_hold _)))
          refine wpD_only 10 [(12, fun w' => w'.cell? ⟨b1, 12, none⟩ = some (.int .u8 (f 12 : Int)))] rfl (by kernel_rfl) (by kernel_rfl) (by rfl) (fun K hK => ?_)
          refine wp_call _ [_] _ rfl _ [] rfl (fun _ _ => by kernel_rfl) [.int .u8 (f 15 : Int)] rfl ?_
          refine (box_any (f 15) _ (HF.out 15)).mono ?_
          rintro e w' ⟨rfl, rfl⟩
          refine ⟨_, rfl, hK _ _ (Facts.cons_hold d4 (Facts.nil_hold _)) ?_⟩
          clear hK K
          simp only [Act.put, List.setIfInBounds_toArray, List.set_cons_zero, List.set_cons_succ]
          replace hold : Facts.hold [(12, fun w' => w'.cell? ⟨b1, 12, none⟩ = some (.int .u8 (f 12 : Int)))] w3 := (Facts.cons_hold d4 (Facts.nil_hold _))
          refine wpD_only 13 [] rfl (by kernel_rfl) (by kernel_rfl) (by rfl) (fun K hK => ?_)
          refine wp_call _ [_] _ rfl _ [] rfl (fun _ _ => by kernel_rfl) [.int .u8 (f 12 : Int)] rfl ?_
          refine (box_any (f 12) _ (HF.out 12)).mono ?_
          rintro e w' ⟨rfl, rfl⟩
          refine ⟨_, rfl, hK _ _ (Facts.nil_hold _) ?_⟩
          clear hK K
          simp only [Act.put, List.setIfInBounds_toArray, List.set_cons_zero, List.set_cons_succ]
          replace hold : Facts.hold [] w3 := (Facts.nil_hold _)
          (refine wpD_plain 14 (v := (bk (t0 f c) 4)) rfl (by kernel_rfl) (by kernel_rfl) (by kernel_rfl) (fun _ _ _ h => h) (by rfl) ?_ (by assumption) ?_; (intro _w; go_simp; rfl); simp only [Act.put, List.setIfInBounds_toArray, List.set_cons_zero, List.set_cons_succ])
          exact wpD_cast (by kernel_rfl) (tail _ _ ⟨rfl, HB3.out, HF3.out⟩ (Facts.nil_hold _))
      · intro K hK
        refine wp_alloc _ rfl _ zero4 (b8 (fun _ => 0) 4) rfl ?_
        intro w3 HB3 HF3 HS3
        have d1 := HF3.out.cell (w := w2.drew) c1 id
        have d2 := HF3.out.cell (w := w2.drew) c2 id
        have d3 := HF3.out.cell (w := w2.drew) c3 id
        have d4 := HF3.out.cell (w := w2.drew) c4 id
        refine hK _ _ (Facts.cons_hold d2 (Facts.cons_hold d3 (Facts.cons_hold d4 (Facts.nil_hold _)))) ?_
        clear hK K
        simp only [Act.put, List.setIfInBounds_toArray, List.set_cons_zero, List.set_cons_succ]
        replace hold : Facts.hold [(6, fun w' => w'.cell? ⟨b1, 14, none⟩ = some (.int .u8 (f 14 : Int))), (9, fun w' => w'.cell? ⟨b1, 15, none⟩ = some (.int .u8 (f 15 : Int))), (12, fun w' => w'.cell? ⟨b1, 12, none⟩ = some (.int .u8 (f 12 : Int)))] w3 := (Facts.cons_hold d2 (Facts.cons_hold d3 (Facts.cons_hold d4 (Facts.nil_hold _))))
        refine wpD_only 7 [(9, fun w' => w'.cell? ⟨b1, 15, none⟩ = some (.int .u8 (f 15 : Int))), (12, fun w' => w'.cell? ⟨b1, 12, none⟩ = some (.int .u8 (f 12 : Int)))] rfl (by kernel_rfl) (by kernel_rfl) (by rfl) (fun K hK => ?_)
        refine wp_call _ [_] _ rfl _ [] rfl (fun _ _ => by kernel_rfl) [.int .u8 (f 14 : Int)] rfl ?_
        refine (box_any (f 14) _ (HF.out 14)).mono ?_
        rintro e w' ⟨rfl, rfl⟩
        refine ⟨_, rfl, hK _ _ (Facts.cons_hold d3 (Facts.cons_hold d4 (Facts.nil_hold _))) ?_⟩
        clear hK K
        simp only [Act.put, List.setIfInBounds_toArray, List.set_cons_zero, List.set_cons_succ]
        replace hold : Facts.hold [(9, fun w' => w'.cell? ⟨b1, 15, none⟩ = some (.int .u8 (f 15 : Int))), (12, fun w' => w'.cell? ⟨b1, 12, none⟩ = some (.int .u8 (f 12 : Int)))] w3 := (Facts.cons_hold d3 (Facts.cons_hold d4 (Facts.nil_hold _)))
        refine wpD_only 10 [(12, fun w' => w'.cell? ⟨b1, 12, none⟩ = some (.int .u8 (f 12 : Int)))] rfl (by kernel_rfl) (by kernel_rfl) (by rfl) (fun K hK => ?_)
        refine wp_call _ [_] _ rfl _ [] rfl (fun _ _ => by kernel_rfl) [.int .u8 (f 15 : Int)] rfl ?_
        refine (box_any (f 15) _ (HF.out 15)).mono ?_
        rintro e w' ⟨rfl, rfl⟩
        refine ⟨_, rfl, hK _ _ (Facts.cons_hold d4 (Facts.nil_hold _)) ?_⟩
        clear hK K
        simp only [Act.put, List.setIfInBounds_toArray, List.set_cons_zero, List.set_cons_succ]
        replace hold : Facts.hold [(12, fun w' => w'.cell? ⟨b1, 12, none⟩ = some (.int .u8 (f 12 : Int)))] w3 := (Facts.cons_hold d4 (Facts.nil_hold _))
        refine wpD_only 13 [] rfl (by kernel_rfl) (by kernel_rfl) (by rfl) (fun K hK => ?_)
        refine wp_call _ [_] _ rfl _ [] rfl (fun _ _ => by kernel_rfl) [.int .u8 (f 12 : Int)] rfl ?_
        refine (box_any (f 12) _ (HF.out 12)).mono ?_
        rintro e w' ⟨rfl, rfl⟩
        refine ⟨_, rfl, hK _ _ (Facts.nil_hold _) ?_⟩
        clear hK K
        simp only [Act.put, List.setIfInBounds_toArray, List.set_cons_zero, List.set_cons_succ]
        replace hold : Facts.hold [] w3 := (Facts.nil_hold _)
        (refine wpD_plain 14 (v := (bk (t0 f c) 4)) rfl (by kernel_rfl) (by kernel_rfl) (by kernel_rfl) (fun _ _ _ h => h) (by rfl) ?_ (by assumption) ?_; (intro _w; go_simp; rfl); simp only [Act.put, List.setIfInBounds_toArray, List.set_cons_zero, List.set_cons_succ])
        exact wpD_cast (by kernel_rfl) (tail _ _ ⟨rfl, HB3.out, HF3.out⟩ (Facts.nil_hold _))
    · intro K hK
      refine wp_alloc _ rfl _ zero4 (b8 (fun _ => 0) 4) rfl ?_
      intro w3 HB3 HF3 HS3
      have d1 := HF3.out.cell (w := w2.drew) c1 id
      have d2 := HF3.out.cell (w := w2.drew) c2 id
      have d3 := HF3.out.cell (w := w2.drew) c3 id
      have d4 := HF3.out.cell (w := w2.drew) c4 id
      refine hK _ _ (Facts.cons_hold d1 (Facts.cons_hold d2 (Facts.cons_hold d3 (Facts.cons_hold d4 (Facts.nil_hold _))))) ?_
      clear hK K
      simp only [Act.put, List.setIfInBounds_toArray, List.set_cons_zero, List.set_cons_succ]
      replace hold : Facts.hold [(1, fun w' => w'.cell? ⟨b1, 13, none⟩ = some (.int .u8 (f 13 : Int))), (6, fun w' => w'.cell? ⟨b1, 14, none⟩ = some (.int .u8 (f 14 : Int))), (9, fun w' => w'.cell? ⟨b1, 15, none⟩ = some (.int .u8 (f 15 : Int))), (12, fun w' => w'.cell? ⟨b1, 12, none⟩ = some (.int .u8 (f 12 : Int)))] w3 := (Facts.cons_hold d1 (Facts.cons_hold d2 (Facts.cons_hold d3 (Facts.cons_hold d4 (Facts.nil_hold _)))))
      refine wpD_only 2 [(6, fun w' => w'.cell? ⟨b1, 14, none⟩ = some (.int .u8 (f 14 : Int))), (9, fun w' => w'.cell? ⟨b1, 15, none⟩ = some (.int .u8 (f 15 : Int))), (12, fun w' => w'.cell? ⟨b1, 12, none⟩ = some (.int .u8 (f 12 : Int)))] rfl (by kernel_rfl) (by kernel_rfl) (by rfl) (fun K hK => ?_)
      refine wp_call _ [_] _ rfl _ [] rfl (fun _ _ => by kernel_rfl) [.int .u8 (f 13 : Int)] rfl ?_
      refine (box_any (f 13) _ (HF.out 13)).mono ?_
      rintro e w' ⟨rfl, rfl⟩
      refine ⟨_, rfl, hK _ _ (Facts.cons_hold d2 (Facts.cons_hold d3 (Facts.cons_hold d4 (Facts.nil_hold _)))) ?_⟩
      clear hK K
      simp only [Act.put, List.setIfInBounds_toArray, List.set_cons_zero, List.set_cons_succ]
      replace hold : Facts.hold [(6, fun w' => w'.cell? ⟨b1, 14, none⟩ = some (.int .u8 (f 14 : Int))), (9, fun w' => w'.cell? ⟨b1, 15, none⟩ = some (.int .u8 (f 15 : Int))), (12, fun w' => w'.cell? ⟨b1, 12, none⟩ = some (.int .u8 (f 12 : Int)))] w3 := (Facts.cons_hold d2 (Facts.cons_hold d3 (Facts.cons_hold d4 (Facts.nil_hold _))))
      (refine wpD_plain 4 (v := ?_) rfl (by kernel_rfl) (by kernel_rfl) (by kernel_rfl) (fun _ _ _ h => h) (by rfl) ?_ (by assumption) ?_; rotate_left; (intro _w; go_simp; try with_reducible rfl); simp only [Act.put, List.setIfInBounds_toArray, List.set_cons_zero, List.set_cons_succ])
      refine wpD_only 7 [(9, fun w' => w'.cell? ⟨b1, 15, none⟩ = some (.int .u8 (f 15 : Int))), (12, fun w' => w'.cell? ⟨b1, 12, none⟩ = some (.int .u8 (f 12 : Int)))] rfl (by kernel_rfl) (by kernel_rfl) (by rfl) (fun K hK => ?_)
      refine wp_call _ [_] _ rfl _ [] rfl (fun _ _ => by kernel_rfl) [.int .u8 (f 14 : Int)] rfl ?_
      refine (box_any (f 14) _ (HF.out 14)).mono ?_
      rintro e w' ⟨rfl, rfl⟩
      refine ⟨_, rfl, hK _ _ (Facts.cons_hold d3 (Facts.cons_hold d4 (Facts.nil_hold _))) ?_⟩
      clear hK K
      simp only [Act.put, List.setIfInBounds_toArray, List.set_cons_zero, List.set_cons_succ]
      replace hold : Facts.hold [(9, fun w' => w'.cell? ⟨b1, 15, none⟩ = some (.int .u8 (f 15 : Int))), (12, fun w' => w'.cell? ⟨b1, 12, none⟩ = some (.int .u8 (f 12 : Int)))] w3 := (Facts.cons_hold d3 (Facts.cons_hold d4 (Facts.nil_hold _)))
      refine wpD_only 10 [(12, fun w' => w'.cell? ⟨b1, 12, none⟩ = some (.int .u8 (f 12 : Int)))] rfl (by kernel_rfl) (by kernel_rfl) (by rfl) (fun K hK => ?_)
      refine wp_call _ [_] _ rfl _ [] rfl (fun _ _ => by kernel_rfl) [.int .u8 (f 15 : Int)] rfl ?_
      refine (box_any (f 15) _ (HF.out 15)).mono ?_
      rintro e w' ⟨rfl, rfl⟩
      refine ⟨_, rfl, hK _ _ (Facts.cons_hold d4 (Facts.nil_hold _)) ?_⟩
      clear hK K
      simp only [Act.put, List.setIfInBounds_toArray, List.set_cons_zero, List.set_cons_succ]
      replace hold : Facts.hold [(12, fun w' => w'.cell? ⟨b1, 12, none⟩ = some (.int .u8 (f 12 : Int)))] w3 := (Facts.cons_hold d4 (Facts.nil_hold _))
      refine wpD_only 13 [] rfl (by kernel_rfl) (by kernel_rfl) (by rfl) (fun K hK => ?_)
      refine wp_call _ [_] _ rfl _ [] rfl (fun _ _ => by kernel_rfl) [.int .u8 (f 12 : Int)] rfl ?_
      refine (box_any (f 12) _ (HF.out 12)).mono ?_
      rintro e w' ⟨rfl, rfl⟩
      refine ⟨_, rfl, hK _ _ (Facts.nil_hold _) ?_⟩
      clear hK K
      simp only [Act.put, List.setIfInBounds_toArray, List.set_cons_zero, List.set_cons_succ]
      replace hold : Facts.hold [] w3 := (Facts.nil_hold _)
      (refine wpD_plain 14 (v := (bk (t0 f c) 4)) rfl (by kernel_rfl) (by kernel_rfl) (by kernel_rfl) (fun _ _ _ h => h) (by rfl) ?_ (by assumption) ?_; (intro _w; go_simp; rfl); simp only [Act.put, List.setIfInBounds_toArray, List.set_cons_zero, List.set_cons_succ])
      exact wpD_cast (by kernel_rfl) (tail _ _ ⟨rfl, HB3.out, HF3.out⟩ (Facts.nil_hold _))
  · rintro a' w4 ⟨rfl, hB3, hf4⟩ _
    clear hold c1 c2 c3 c4 hx
    obtain ⟨b3, hb3⟩ : ∃ b, w2.heap.size = b := ⟨_, rfl⟩
    rw [hb3] at hB3
    rw [hb3]
    have HB := hid hB3
    have HN := hid (show b1 ≠ b3 ∧ b2 ≠ b3 ∧ b1 ≠ b2 by have := HW.out; omega)
    have HW3 := hid (show w.heap.size ≤ b3 by have := HW.out; omega)
    have HQ := hid (show Blk w4 b1 27 (b8 f 16) ∧ Blk w4 b2 27 (b8 (fun _ => 0) 16) ∧ Fr No w w4 from ⟨HR.out.1.drew.fr hf4 id, HR.out.2.1.drew.fr hf4 id, HR.out.2.2.drew.trans' hf4⟩)
    clear HR hb3 hf4 hB3
    refine wpD_only 16 [] rfl (by kernel_rfl) (by kernel_rfl) (by rfl) (fun K16 hK16 => ?_)
    refine wp_row _ _ _ rfl b3 0 (t0 f c) 4 rfl rfl _ _ 4 HB.out (by decide) info4 ?_
    intro w5 HB5 HF5 HS5
    have hb5 := HB5.out
    rw [over_all] at hb5
    refine hK16 _ _ (Facts.nil_hold _) ?_
    clear hK16 K16
    simp only [Act.put, List.setIfInBounds_toArray, List.set_cons_zero, List.set_cons_succ]
    refine wpD_done (by kernel_rfl) ?_ _
    have HR := hid (show Blk w5 b1 27 (b8 (upto 0 (fol f c) f) 16) ∧ Blk w5 b2 27 (b8 (fun _ => 0) 16) ∧ Blk w5 b3 38 (b8 (tS (t0 f c) f 0) 4) ∧ Fr No w w5 by
      rw [upto_zero]
      exact ⟨HQ.out.1.fr HF5.out HN.out.1, HQ.out.2.1.fr HF5.out HN.out.2.1, hb5, HQ.out.2.2.trans HF5.out fun i e => .inr (by have := HW3.out; have : i = b3 := e; omega)⟩)
    clear HQ HB HB5 HF5 HS5 hb5
    go_wp2_with fail
    go_loopw [6, 22] (fun _ i wr => ∃ n : Nat, n ≤ 16 ∧ i = .int .i64 n ∧ Hid (Blk wr b1 27 (b8 (upto n (fol f c) f) 16) ∧ Blk wr b2 27 (b8 (fun _ => 0) 16) ∧ Blk wr b3 38 (b8 (tS (t0 f c) f n) 4) ∧ Fr No w wr)) (fun _ i _ => 16 - (intOf i).toNat)
    case atStart => exact ⟨0, by omega, rfl, HR⟩
    case round =>
      clear HR
      obtain ⟨n, hn, rfl, HR⟩ := hrel
      by_cases hlt : n < 16
      · go_wp2_with fail
        obtain ⟨Y, hY⟩ : ∃ Y, n % 4 = Y := ⟨_, rfl⟩
        have hY4 : Y < 4 := by omega
        have hYi : (Y : Int) < 4 := by omega
        have c1 := blk_at HR.out.1 hlt
        have c2 := blk_at HR.out.2.2.1 hY4
        rw [upto_get _ _ (Nat.le_refl n)] at c1
        have hold : Facts.hold [(2, fun w' => w'.cell? ⟨b1, n, none⟩ = some (.int .u8 (f n : Int))), (6, fun w' => w'.cell? ⟨b3, Y, none⟩ = some (.int .u8 (tS (t0 f c) f n Y : Int)))] wr.drew := Facts.cons_hold c1 (Facts.cons_hold c2 (Facts.nil_hold _))
        have hx : bits .xor .u8 (f n : Int) (tS (t0 f c) f n Y : Int) = ((fol f c n : Nat) : Int) := by
          rw [xor8 (HF.out n) (tS_lt (t0_by HF.out HC.out) HF.out n Y), ← hY]
          rfl
        have HY := hid hY
        clear hY
        refine wpD_region hold (by kernel_rfl) 10 rfl ?_
        (refine wpD_plain 0 (v := ?_) rfl (by kernel_rfl) (by kernel_rfl) (by kernel_rfl) (fun _ _ _ h => h) (by rfl) ?_ (by assumption) ?_; rotate_left; (intro _w; go_simp; try with_reducible rfl); simp only [Act.put, List.setIfInBounds_toArray, List.set_cons_zero, List.set_cons_succ])
        (refine wpD_plain 1 (v := ?_) rfl (by kernel_rfl) (by kernel_rfl) (by kernel_rfl) (fun _ _ _ h => h) (by rfl) ?_ (by assumption) ?_; rotate_left; (intro _w; go_simp; try with_reducible rfl); simp only [Act.put, List.setIfInBounds_toArray, List.set_cons_zero, List.set_cons_succ])
        (refine wpD_take 2 _ rfl (by kernel_rfl) (by kernel_rfl) (by kernel_rfl) (fun _ _ _ h => h) List.mem_cons_self (by rfl) (v := ?_) ?_ (by assumption) ?_; rotate_left; (intro _w _hw; go_simp; try with_reducible rfl); simp only [Act.put, List.setIfInBounds_toArray, List.set_cons_zero, List.set_cons_succ])
        (refine wpD_plain 3 (v := ?_) rfl (by kernel_rfl) (by kernel_rfl) (by kernel_rfl) (fun _ _ _ h => h) (by rfl) ?_ (by assumption) ?_; rotate_left; (intro _w; go_simp; try with_reducible rfl); simp only [Act.put, List.setIfInBounds_toArray, List.set_cons_zero, List.set_cons_succ])
        (refine wpD_plain 4 (v := (.int .i64 (Y : Int))) rfl (by kernel_rfl) (by kernel_rfl) (by kernel_rfl) (fun _ _ _ h => h) (by rfl) ?_ (by assumption) ?_; (intro _w; go_simp; (have := HY.out; rw [Int.tmod_eq_emod_of_nonneg (by omega)]; omega)); simp only [Act.put, List.setIfInBounds_toArray, List.set_cons_zero, List.set_cons_succ])
        (refine wpD_plain 5 (v := ?_) rfl (by kernel_rfl) (by kernel_rfl) (by kernel_rfl) (fun _ _ _ h => h) (by rfl) ?_ (by assumption) ?_; rotate_left; (intro _w; go_simp; try with_reducible rfl); simp only [Act.put, List.setIfInBounds_toArray, List.set_cons_zero, List.set_cons_succ])
        (refine wpD_take 6 _ rfl (by kernel_rfl) (by kernel_rfl) (by kernel_rfl) (fun _ _ _ h => h) (List.mem_cons_of_mem _ List.mem_cons_self) (by rfl) (v := ?_) ?_ (by assumption) ?_; rotate_left; (intro _w _hw; go_simp; try with_reducible rfl); simp only [Act.put, List.setIfInBounds_toArray, List.set_cons_zero, List.set_cons_succ])
        (refine wpD_plain 7 (v := ?_) rfl (by kernel_rfl) (by kernel_rfl) (by kernel_rfl) (fun _ _ _ h => h) (by rfl) ?_ (by assumption) ?_; rotate_left; (intro _w; go_simp; try with_reducible rfl); simp only [Act.put, List.setIfInBounds_toArray, List.set_cons_zero, List.set_cons_succ])
        (refine wpD_plain 8 (v := ?_) rfl (by kernel_rfl) (by kernel_rfl) (by kernel_rfl) (fun _ _ _ h => h) (by rfl) ?_ (by assumption) ?_; rotate_left; (intro _w; go_simp; try with_reducible rfl); simp only [Act.put, List.setIfInBounds_toArray, List.set_cons_zero, List.set_cons_succ])
        refine wpD_only 9 [] rfl (by kernel_rfl) (by kernel_rfl) (by rfl) (fun K9 hK9 => ?_)
        refine wp_put _ _ _ rfl b1 n (fol f c n) rfl rfl _ _ 16 HR.out.1.drew hlt info1 ?_
        intro w5 HB5 HF5 HS5
        refine hK9 _ _ (Facts.nil_hold _) ?_
        clear hK9 K9
        simp only [Act.put, List.setIfInBounds_toArray, List.set_cons_zero, List.set_cons_succ]
        refine wpD_done (by kernel_rfl) ?_ _
        have HR' := hid (show Blk w5 b1 27 (b8 (upto (n + 1) (fol f c) f) 16) ∧ Blk w5 b2 27 (b8 (fun _ => 0) 16) ∧ Blk w5 b3 38 (b8 (tS (t0 f c) f n) 4) ∧ Fr No w w5 by
          rw [← upto_set]
          exact ⟨HB5.out, HR.out.2.1.drew.fr HF5.out (fun e => HN.out.2.2 e.symm), HR.out.2.2.1.drew.fr HF5.out (fun e => HN.out.1 e.symm), HR.out.2.2.2.drew.trans HF5.out fun i e => .inr (by have := HW.out; have : i = b1 := e; omega)⟩)
        clear HR HB5 HF5 HS5 hold c1 c2 hx hYi
        have c1 := blk_at HR'.out.1 hlt
        have e1 : upto (n + 1) (fol f c) f n = fol f c n := by unfold upto; rw [if_pos (by omega)]
        rw [e1] at c1
        clear e1
        have hi4 : ((n : Int) % 4) < 4 := by omega
        go_wp2_with (first
          | ((with_reducible show wpList _ _ _ ({ dst := _, op := .store 5 _ _, type := _, pos := _, after := _, guard := _ } :: _) _ _); refine wpL_put rfl _ _ _ rfl b3 (n % 4) (fol f c n) rfl rfl _ _ 4 HR'.out.2.2.1 (Nat.mod_lt _ (by decide)) info1 ?_; intro w6 HB6 HF6 HS6)
          | fail)
        have HR2 := hid (show Blk w6 b1 27 (b8 (upto (n + 1) (fol f c) f) 16) ∧ Blk w6 b2 27 (b8 (fun _ => 0) 16) ∧ Blk w6 b3 38 (b8 (tS (t0 f c) f (n + 1)) 4) ∧ Fr No w w6 from
          ⟨HR'.out.1.fr HF6.out HN.out.1, HR'.out.2.1.fr HF6.out HN.out.2.1, HB6.out, HR'.out.2.2.2.trans HF6.out fun i e => .inr (by have := HW3.out; have : i = b3 := e; omega)⟩)
        clear HR' HB6 HF6 HS6 c1
        go_wp2_with fail
        go_roundw
        case rel => exact ⟨n + 1, by omega, by go_num, HR2⟩
        case measure => simp [intOf]; omega
      · obtain rfl : n = 16 := by omega
        go_wp2_with (first
          | ((with_reducible show wpList _ _ _ ({ dst := _, op := .load 27 _, type := _, pos := _, after := _, guard := _ } :: _) _ _); refine wpL_all rfl _ _ rfl b1 rfl _ (upto 16 (fol f c) f) 16 _ HR.out.1 rfl rfl info16 ?_)
          | ((with_reducible show wpList _ _ _ ({ dst := _, op := .store 27 _ _, type := _, pos := _, after := _, guard := _ } :: _) _ _); refine wpL_whole rfl _ _ _ rfl b2 (upto 16 (fol f c) f) 16 rfl rfl _ _ HR.out.2.1 info16 ?_; intro w5 HB5 HF5 HS5)
          | fail)
        have hB5 := HB5.out
        rw [upto_all] at hB5
        refine ret_cell rfl _ rfl hB5 rfl rfl (by simpa using info16) rfl ?_
        exact ⟨rfl, HR.out.2.2.2.trans HF5.out fun i e => .inr (by have := HW.out; have : i = b2 := e; omega)⟩
end Go.Proofs.Ytgbcddhgeepjgaa.AE
