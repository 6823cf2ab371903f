/-
  The law's 'awake'.
-/
import Derived.Test.YtgbcddhgeepjgaaAesV
namespace Go.Proofs.Ytgbcddhgeepjgaa.AE
set_option maxRecDepth 100000
open Go.RowKit K

theorem blk_whole {w : World} {b : Nat} {t : TypeId} {f : Nat → Nat} {n : Nat} (h : Blk w b t (b8 f n)) : w.rangeAt b 0 (b8 f n) := h.range 0 _ (by rw [b8_length, List.drop_zero, List.take_of_length_le (by simp)])
theorem buildSt (w : World) : (Instr.build 27 #[(0, .int .u8 105), (1, .int .u8 196), (2, .int .u8 224), (3, .int .u8 216), (4, .int .u8 106), (5, .int .u8 123), (6, .int .u8 4), (7, .int .u8 48), (8, .int .u8 216), (9, .int .u8 205), (10, .int .u8 183), (11, .int .u8 128), (12, .int .u8 112), (13, .int .u8 180), (14, .int .u8 197), (15, .int .u8 90)]).run Try.prog w = .ok (bk (lit sl10) 16) w := by kernel_rfl

set_option maxHeartbeats 1000000 in
theorem awake_any (w : World) : Calls Try.prog 17 #[] w fun e w' => e = .returned (.bool true) ∧ Fr No w w' := by
  go_enter Try.func17, Try.ntmps17
  go_wp2_with fail
  refine (rising_any 1 _ (by decide)).mono ?_
  rintro e w1 ⟨rfl, hf1⟩
  go_wp2_with fail
  refine (rising_any 17 _ (by decide)).mono ?_
  rintro e w2 ⟨rfl, hf2⟩
  go_wp2_with fail
  refine (enc_any (ris 1) (ris 17) _ (ris_by 1) (ris_by 17)).mono ?_
  rintro e w3 ⟨rfl, hf3⟩
  have hE : eqB (enc (ris 1) (ris 17)) (lit sl10) 16 = true := eqB_E.2 example_enc
  have hD : eqB (dec (ris 1) (enc (ris 1) (ris 17))) (ris 17) 16 = true := eqB_E.2 (dec_enc (ris_by 1) (ris_by 17))
  have hB := enc_by (ris_by 1) (ris_by 17)
  obtain ⟨c, hc⟩ : ∃ c, enc (ris 1) (ris 17) = c := ⟨_, rfl⟩
  rw [hc] at hE hD hB ⊢
  have HE := hid hE; have HD := hid hD; have HC := hid hB
  have HF := hid ((hf1.trans' hf2).trans' hf3)
  clear hE hD hB hc hf1 hf2 hf3
  go_wp2_with (first
    | ((with_reducible show wpList _ _ _ ({ dst := _, op := .alloc 27, type := _, pos := _, after := _, guard := _ } :: _) _ _); refine wpL_alloc rfl _ rfl _ zero16 (b8 (fun _ => 0) 16) rfl ?_; intro w4 HB4 HF4 HS4)
    | ((with_reducible show wpList _ _ _ ({ dst := _, op := .store 27 _ _, type := _, pos := _, after := _, guard := _ } :: _) _ _); refine wpL_whole rfl _ _ _ rfl w3.heap.size c 16 rfl rfl _ _ HB4.out info16 ?_; intro w5 HB5 HF5 HS5))
  obtain ⟨b1, hb1⟩ : ∃ b, w3.heap.size = b := ⟨_, rfl⟩
  have hB1 := HB5.out
  have hs := HF.out.size
  have hf5 := (HF.out.trans' HF4.out).trans HF5.out fun i e => .inr (by have : i = w3.heap.size := e; omega)
  rw [hb1] at hB1 hs
  rw [hb1]
  have HB := hid hB1; have HW := hid hs; have HG := hid hf5
  clear HB4 HF4 HS4 HB5 HF5 HS5 HF hB1 hs hf5 hb1
  have q1 := blk_whole HB.out
  have hold : Facts.hold [(1, fun w' => w'.rangeAt b1 0 (b8 c 16))] w5.drew := Facts.cons_hold q1 (Facts.nil_hold _)
  refine wpD_region hold (by kernel_rfl) 5 rfl ?_
  (refine wpD_take 1 _ rfl (by kernel_rfl) (by kernel_rfl) (by kernel_rfl) (fun _ _ _ h => h) List.mem_cons_self (by rfl) (exec_load _ _ rfl b1 0 rfl _ _ rfl rfl (by simpa using info16)) (by assumption) ?_; simp only [Act.put, List.setIfInBounds_toArray, List.set_cons_zero, List.set_cons_succ])
  refine wpD_join (fun _ a' w' => ∃ b, a' = ⟨#[.bool false, .pointer (some ⟨b1, 0, none⟩), .pointer (some ⟨b, 0, none⟩), bk (ris 1) 16, bk (ris 17) 16, bk c 16, bk (ris 1) 16, bk c 16, bk (dec (ris 1) c) 16, undef, undef, undef, undef, undef, undef, undef, undef], []⟩ ∧ Blk w' b 27 (b8 (fun _ => 0) 16) ∧ Blk w' b1 27 (b8 c 16) ∧ w.heap.size ≤ b ∧ b1 ≠ b ∧ Fr No w w') [] 1 ((Array.replicate 5 true).setIfInBounds 4 false) (fun tail => ?_) ?_
  · refine wpD_two 0 3 [(1, fun w' => w'.rangeAt b1 0 (b8 c 16))] [(1, fun w' => w'.rangeAt b1 0 (b8 c 16))] rfl rfl (by kernel_rfl) (by kernel_rfl) (by kernel_rfl) (by rfl) (by rfl) ?_ ?_
    · intro K hK
      refine wp_call _ [_] _ rfl _ [] rfl (fun _ _ => by kernel_rfl) [.int .u8 1] rfl ?_
      refine (rising_any 1 _ (by decide)).mono ?_
      rintro e w6 ⟨rfl, hf6⟩
      have hb6 := HB.out.drew.fr hf6 id
      have hg6 := HG.out.drew.trans' hf6
      refine ⟨_, rfl, hK _ _ (Facts.cons_hold (blk_whole hb6) (Facts.nil_hold _)) ?_⟩
      clear hK K
      simp only [Act.put, List.setIfInBounds_toArray, List.set_cons_zero, List.set_cons_succ]
      refine wpD_two 2 3 [] [(1, fun w' => w'.rangeAt b1 0 (b8 c 16))] rfl rfl (by kernel_rfl) (by kernel_rfl) (by kernel_rfl) (by rfl) (by rfl) ?_ ?_
      · intro K hK
        refine wp_call _ [_, _] _ rfl _ [] rfl (fun _ _ => by kernel_rfl) [bk (ris 1) 16, bk c 16] rfl ?_
        refine (dec_any (ris 1) c _ (ris_by 1) HC.out).mono ?_
        rintro e w7 ⟨rfl, hf7⟩
        refine ⟨_, rfl, hK _ _ (Facts.nil_hold _) ?_⟩
        clear hK K
        simp only [Act.put, List.setIfInBounds_toArray, List.set_cons_zero, List.set_cons_succ]
        have hb7 := hb6.fr hf7 id
        have hg7 := hg6.trans' hf7
        refine wpD_only 3 [] rfl (by kernel_rfl) (by kernel_rfl) (by rfl) (fun K hK => ?_)
        refine wp_alloc _ rfl _ zero16 (b8 (fun _ => 0) 16) rfl ?_
        intro w8 HB8 HF8 HS8
        refine hK _ _ (Facts.nil_hold _) ?_
        clear hK K
        simp only [Act.put, List.setIfInBounds_toArray, List.set_cons_zero, List.set_cons_succ]
        exact wpD_cast (by kernel_rfl) (tail _ _ ⟨_, rfl, HB8.out, hb7.fr HF8.out id, hg7.size, by have := hb7.lt; omega, hg7.trans' HF8.out⟩ (Facts.nil_hold _))
      · intro K hK
        refine wp_alloc _ rfl _ zero16 (b8 (fun _ => 0) 16) rfl ?_
        intro w8 HB8 HF8 HS8
        have hb8 := hb6.fr HF8.out id
        refine hK _ _ (Facts.cons_hold (blk_whole hb8) (Facts.nil_hold _)) ?_
        clear hK K
        simp only [Act.put, List.setIfInBounds_toArray, List.set_cons_zero, List.set_cons_succ]
        refine wpD_only 2 [] rfl (by kernel_rfl) (by kernel_rfl) (by rfl) (fun K hK => ?_)
        refine wp_call _ [_, _] _ rfl _ [] rfl (fun _ _ => by kernel_rfl) [bk (ris 1) 16, bk c 16] rfl ?_
        refine (dec_any (ris 1) c _ (ris_by 1) HC.out).mono ?_
        rintro e w7 ⟨rfl, hf7⟩
        refine ⟨_, rfl, hK _ _ (Facts.nil_hold _) ?_⟩
        clear hK K
        simp only [Act.put, List.setIfInBounds_toArray, List.set_cons_zero, List.set_cons_succ]
        exact wpD_cast (by kernel_rfl) (tail _ _ ⟨_, rfl, HB8.out.fr hf7 id, hb8.fr hf7 id, hg6.size, by have := hb6.lt; omega, (hg6.trans' HF8.out).trans' hf7⟩ (Facts.nil_hold _))
    · intro K hK
      refine wp_alloc _ rfl _ zero16 (b8 (fun _ => 0) 16) rfl ?_
      intro w8 HB8 HF8 HS8
      have hb8 := HB.out.drew.fr HF8.out id
      have hg8 := HG.out.drew.trans' HF8.out
      refine hK _ _ (Facts.cons_hold (blk_whole hb8) (Facts.nil_hold _)) ?_
      clear hK K
      simp only [Act.put, List.setIfInBounds_toArray, List.set_cons_zero, List.set_cons_succ]
      refine wpD_only 0 [(1, fun w' => w'.rangeAt b1 0 (b8 c 16))] rfl (by kernel_rfl) (by kernel_rfl) (by rfl) (fun K hK => ?_)
      refine wp_call _ [_] _ rfl _ [] rfl (fun _ _ => by kernel_rfl) [.int .u8 1] rfl ?_
      refine (rising_any 1 _ (by decide)).mono ?_
      rintro e w6 ⟨rfl, hf6⟩
      have hb6 := hb8.fr hf6 id
      refine ⟨_, rfl, hK _ _ (Facts.cons_hold (blk_whole hb6) (Facts.nil_hold _)) ?_⟩
      clear hK K
      simp only [Act.put, List.setIfInBounds_toArray, List.set_cons_zero, List.set_cons_succ]
      refine wpD_only 2 [] rfl (by kernel_rfl) (by kernel_rfl) (by rfl) (fun K hK => ?_)
      refine wp_call _ [_, _] _ rfl _ [] rfl (fun _ _ => by kernel_rfl) [bk (ris 1) 16, bk c 16] rfl ?_
      refine (dec_any (ris 1) c _ (ris_by 1) HC.out).mono ?_
      rintro e w7 ⟨rfl, hf7⟩
      refine ⟨_, rfl, hK _ _ (Facts.nil_hold _) ?_⟩
      clear hK K
      simp only [Act.put, List.setIfInBounds_toArray, List.set_cons_zero, List.set_cons_succ]
      exact wpD_cast (by kernel_rfl) (tail _ _ ⟨_, rfl, (HB8.out.fr hf6 id).fr hf7 id, hb6.fr hf7 id, HG.out.size, by have := HB.out.lt; have : w5.drew.heap.size = w5.heap.size := rfl; omega, (hg8.trans' hf6).trans' hf7⟩ (Facts.nil_hold _))
  · rintro a' w6 ⟨b2, rfl, hB2, hB1, hw2, hne, hf6⟩ _
    clear hold q1
    have HB2 := hid hB2; have HB1 := hid hB1; have HW2 := hid hw2; have HN := hid hne; have HF := hid hf6
    clear hB2 hB1 hw2 hne hf6
    refine wpD_only 4 [] rfl (by kernel_rfl) (by kernel_rfl) (by rfl) (fun K4 hK4 => ?_)
    refine wp_row _ _ _ rfl b2 0 (dec (ris 1) c) 16 rfl rfl _ _ 16 HB2.out (by decide) info16 ?_
    intro w7 HB7 HF7 HS7
    have hB2 := HB7.out
    rw [over_all] at hB2
    refine hK4 _ _ (Facts.nil_hold _) ?_
    clear hK4 K4
    simp only [Act.put, List.setIfInBounds_toArray, List.set_cons_zero, List.set_cons_succ]
    refine wpD_done (by kernel_rfl) ?_ _
    have hB1 := HB1.out.fr HF7.out HN.out
    have HR := hid (show Blk w7 b1 27 (b8 c 16) ∧ Blk w7 b2 27 (b8 (dec (ris 1) c) 16) ∧ Fr No w w7 from ⟨hB1, hB2, HF.out.trans HF7.out fun i e => .inr (by have := HW2.out; have : i = b2 := e; omega)⟩)
    clear HB2 HB1 HW2 HF HB7 HF7 HS7 hB1 hB2 HB HG
    go_wp2_with fail
    have hold : Facts.hold [(0, fun w' => w'.rangeAt b1 0 (b8 c 16)), (4, fun w' => w'.rangeAt b2 0 (b8 (dec (ris 1) c) 16))] w7.drew := Facts.cons_hold (blk_whole HR.out.1) (Facts.cons_hold (blk_whole HR.out.2.1) (Facts.nil_hold _))
    refine wpD_region hold (by kernel_rfl) 9 rfl ?_
    (refine wpD_take 0 _ rfl (by kernel_rfl) (by kernel_rfl) (by kernel_rfl) (fun _ _ _ h => h) List.mem_cons_self (by rfl) (exec_load _ _ rfl b1 0 rfl _ _ rfl rfl (by simpa using info16)) (by assumption) ?_; simp only [Act.put, List.setIfInBounds_toArray, List.set_cons_zero, List.set_cons_succ])
    (refine wpD_plain 1 (v := (bk (lit sl10) 16)) rfl (by kernel_rfl) (by kernel_rfl) (by kernel_rfl) (fun _ _ _ h => h) (by rfl) ?_ (by assumption) ?_; (intro _w; go_simp; rfl); simp only [Act.put, List.setIfInBounds_toArray, List.set_cons_zero, List.set_cons_succ])
    refine wpD_plain 2 (v := .bool true) rfl (by kernel_rfl) (by kernel_rfl) (by kernel_rfl) (fun _ _ _ h => h) (by rfl) (exec_eq16 _ _ _ rfl c (lit sl10) true HE.out rfl rfl) hold ?_
    simp only [Act.put, List.setIfInBounds_toArray, List.set_cons_zero, List.set_cons_succ]
    (refine wpD_plain 3 (v := ?_) rfl (by kernel_rfl) (by kernel_rfl) (by kernel_rfl) (fun _ _ _ h => h) (by rfl) ?_ (by assumption) ?_; rotate_left; (intro _w; go_simp; try with_reducible rfl); simp only [Act.put, List.setIfInBounds_toArray, List.set_cons_zero, List.set_cons_succ])
    (refine wpD_take 4 _ rfl (by kernel_rfl) (by kernel_rfl) (by kernel_rfl) (fun _ _ _ h => h) (List.mem_cons_of_mem _ List.mem_cons_self) (by rfl) (exec_load _ _ rfl b2 0 rfl _ _ rfl rfl (by simpa using info16)) (by assumption) ?_; simp only [Act.put, List.setIfInBounds_toArray, List.set_cons_zero, List.set_cons_succ])
    refine wpD_only 5 [(0, fun w' => w'.rangeAt b1 0 (b8 c 16)), (4, fun w' => w'.rangeAt b2 0 (b8 (dec (ris 1) c) 16))] rfl (by kernel_rfl) (by kernel_rfl) (by rfl) (fun K5 hK5 => ?_)
    refine wp_call _ [_] _ rfl _ [] rfl (fun _ _ => by kernel_rfl) [.int .u8 17] rfl ?_
    refine (rising_any 17 _ (by decide)).mono ?_
    rintro e w8 ⟨rfl, hf8⟩
    have hold8 : Facts.hold [(0, fun w' => w'.rangeAt b1 0 (b8 c 16)), (4, fun w' => w'.rangeAt b2 0 (b8 (dec (ris 1) c) 16))] w8 := Facts.cons_hold (blk_whole (HR.out.1.drew.fr hf8 id)) (Facts.cons_hold (blk_whole (HR.out.2.1.drew.fr hf8 id)) (Facts.nil_hold _))
    refine ⟨_, rfl, hK5 _ _ hold8 ?_⟩
    clear hK5 K5 hold
    simp only [Act.put, List.setIfInBounds_toArray, List.set_cons_zero, List.set_cons_succ]
    refine wpD_plain 6 (v := .bool true) rfl (by kernel_rfl) (by kernel_rfl) (by kernel_rfl) (fun _ _ _ h => h) (by rfl) (exec_eq16 _ _ _ rfl (dec (ris 1) c) (ris 17) true HD.out rfl rfl) hold8 ?_
    simp only [Act.put, List.setIfInBounds_toArray, List.set_cons_zero, List.set_cons_succ]
    (refine wpD_plain 7 (v := ?_) rfl (by kernel_rfl) (by kernel_rfl) (by kernel_rfl) (fun _ _ _ h => h) (by rfl) ?_ (by assumption) ?_; rotate_left; (intro _w; go_simp; try with_reducible rfl); simp only [Act.put, List.setIfInBounds_toArray, List.set_cons_zero, List.set_cons_succ])
    (refine wpD_plain 8 (v := ?_) rfl (by kernel_rfl) (by kernel_rfl) (by kernel_rfl) (fun _ _ _ h => h) (by rfl) ?_ (by assumption) ?_; rotate_left; (intro _w; go_simp; try with_reducible rfl); simp only [Act.put, List.setIfInBounds_toArray, List.set_cons_zero, List.set_cons_succ])
    refine wpD_done (by kernel_rfl) ?_ _
    go_wp2_with fail
    go_ret
    exact ⟨rfl, HR.out.2.2.drew.trans' hf8⟩
end Go.Proofs.Ytgbcddhgeepjgaa.AE
