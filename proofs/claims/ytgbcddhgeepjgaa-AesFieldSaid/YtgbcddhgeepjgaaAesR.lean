/-
  Package aes: replace, mix, following.
-/
import Derived.Test.YtgbcddhgeepjgaaAesK
namespace Go.Proofs.Ytgbcddhgeepjgaa.AE
set_option maxRecDepth 100000
open Go.RowKit K

/-- A function of bytes, as a value. -/
def ByteFn (fid : FuncId) (g : Nat → Nat) : Prop :=
  (∀ (vs : Array Value) (w : World), (callFunc fid vs).run Try.prog w = .ok (.enter fid vs) w) ∧
  ∀ (x : Nat) (w : World), x < 256 → Calls Try.prog fid #[.int .u8 (x : Int)] w fun e w' => e = .returned (.int .u8 (g x : Nat)) ∧ w = w'
theorem box_fn : ByteFn 13 box := ⟨fun _ _ => by kernel_rfl, fun x w h => box_any x w h⟩
theorem unbox_fn : ByteFn 31 unbox := ⟨fun _ _ => by kernel_rfl, fun x w h => unbox_any x w h⟩

theorem rep_any (fid : FuncId) (g f : Nat → Nat) (w : World) (hg : ByteFn fid g) (hf : By f) : Calls Try.prog 28 #[bk f 16, .func (.func fid) #[] #[]] w fun e w' =>
    e = .returned (bk (rep g f) 16) ∧ Fr No w w' := by
  have HF := hid hf; have HI := hid hg; clear hf hg
  go_enter Try.func28, Try.ntmps28
  go_wp2_with (first
    | ((with_reducible show wpList _ _ _ ({ dst := _, op := .box 27 _, type := _, pos := _, after := _, guard := _ } :: _) _ _); refine wpL_box rfl _ _ rfl (bk f 16) rfl (b8 f 16) rfl ?_; intro w1 HB1 HF1 HS1)
    | ((with_reducible show wpList _ _ _ ({ dst := _, op := .alloc 27, type := _, pos := _, after := _, guard := _ } :: _) _ _); refine wpL_alloc rfl _ rfl _ zero16 (b8 (fun _ => 0) 16) rfl ?_; intro w2 HB2 HF2 HS2))
  have hB1 := HB1.out.fr HF2.out id
  have hB2 := HB2.out
  have hf3 := HF1.out.trans' HF2.out
  obtain ⟨b1, hb1⟩ : ∃ b, w.heap.size = b := ⟨_, rfl⟩
  obtain ⟨b2, hb2⟩ : ∃ b, w1.heap.size = b := ⟨_, rfl⟩
  have hs1 := HS1.out
  rw [hb1, hb2] at hs1
  rw [hb1] at hB1; rw [hb2] at hB2
  rw [hb1, hb2]
  have HW := hid (show w.heap.size ≤ b1 ∧ w.heap.size ≤ b2 by omega); have HN := hid (show b1 ≠ b2 by omega)
  have HR := hid (show Blk w2 b1 27 (b8 (upto 0 (rep g f) f) 16) ∧ Blk w2 b2 27 (b8 (fun _ => 0) 16) ∧ Fr No w w2 by rw [upto_zero]; exact ⟨hB1, hB2, hf3⟩)
  clear HB1 HB2 HF1 HF2 HS1 HS2 hB1 hB2 hf3 hb1 hb2 hs1
  go_loopw [5, 6] (fun _ i wr => ∃ n : Nat, n ≤ 16 ∧ i = .int .i64 n ∧ Hid (Blk wr b1 27 (b8 (upto n (rep g f) f) 16) ∧ Blk wr b2 27 (b8 (fun _ => 0) 16) ∧ Fr No w wr)) (fun _ i _ => 16 - (intOf i).toNat)
  case atStart => exact ⟨0, by omega, rfl, HR⟩
  case round =>
    clear HR
    obtain ⟨n, hn, rfl, HR⟩ := hrel
    by_cases hlt : n < 16
    · have c1 := blk_at HR.out.1 hlt
      rw [upto_get _ _ (Nat.le_refl n)] at c1
      go_wp2_with (first
        | ((with_reducible show wpList _ _ _ ({ dst := _, op := .call { callee := .value _, args := _, argTypes := _ }, type := _, pos := _, after := _, guard := _ } :: _) _ _); refine wpL_callF rfl _ [_] _ rfl fid [] rfl HI.out.1 [.int .u8 (f n : Int)] rfl ?_)
        | fail)
      refine (HI.out.2 (f n) _ (HF.out n)).mono ?_
      rintro e w' ⟨rfl, rfl⟩
      refine ⟨_, rfl, ?_⟩
      go_wp2_with (first
        | ((with_reducible show wpList _ _ _ ({ dst := _, op := .store 5 _ _, type := _, pos := _, after := _, guard := _ } :: _) _ _); refine wpL_put rfl _ _ _ rfl b1 n (rep g f n) rfl rfl _ _ 16 HR.out.1 hlt info1 ?_; intro w5 HB5 HF5 HS5)
        | fail)
      have HR' := hid (show Blk w5 b1 27 (b8 (upto (n + 1) (rep g f) f) 16) ∧ Blk w5 b2 27 (b8 (fun _ => 0) 16) ∧ Fr No w w5 by
        rw [← upto_set]
        exact ⟨HB5.out, HR.out.2.1.fr HF5.out (fun e => HN.out e.symm), HR.out.2.2.trans HF5.out fun i e => .inr (by have := HW.out; have : i = b1 := e; omega)⟩)
      clear HR HB5 HF5 HS5 c1
      go_wp2_with fail
      go_roundw
      case rel => exact ⟨n + 1, by omega, by go_num, HR'⟩
      case measure => simp [intOf]; omega
    · obtain rfl : n = 16 := by omega
      go_wp2_with (first
        | ((with_reducible show wpList _ _ _ ({ dst := _, op := .load 27 _, type := _, pos := _, after := _, guard := _ } :: _) _ _); refine wpL_all rfl _ _ rfl b1 rfl _ (upto 16 (rep g f) f) 16 _ HR.out.1 rfl rfl info16 ?_)
        | ((with_reducible show wpList _ _ _ ({ dst := _, op := .store 27 _ _, type := _, pos := _, after := _, guard := _ } :: _) _ _); refine wpL_whole rfl _ _ _ rfl b2 (upto 16 (rep g f) f) 16 rfl rfl _ _ HR.out.2.1 info16 ?_; intro w5 HB5 HF5 HS5)
        | fail)
      have hB5 := HB5.out
      rw [upto_all] at hB5
      refine ret_cell rfl _ rfl hB5 rfl rfl (by simpa using info16) rfl ?_
      exact ⟨rfl, HR.out.2.2.trans HF5.out fun i e => .inr (by have := HW.out; have : i = b2 := e; omega)⟩

theorem info4 : (Try.prog.info? 38).map (·.size) = some 4 := by kernel_rfl
/-- A partial block of mix. -/
def mxp (v f : Nat → Nat) (n m : Nat) : Nat → Nat := upd (upto n (mx v f) fun _ => 0) n (mxs v f n m)
theorem mxp_zero (v f : Nat → Nat) (n : Nat) : mxp v f n 0 = upto n (mx v f) fun _ => 0 := by
  have h := upd_self (upto n (mx v f) fun _ => 0) n
  rw [upto_get _ _ (Nat.le_refl n)] at h
  exact h
theorem mxp_four (v f : Nat → Nat) (n : Nat) : mxp v f n 4 = upto (n + 1) (mx v f) fun _ => 0 := upto_set (mx v f) (fun _ => 0) n
theorem mxp_step (v f : Nat → Nat) (n m : Nat) : upd (mxp v f n m) n (mxs v f n (m + 1)) = mxp v f n (m + 1) := upd_upd _ _ _ _
theorem mix_any (v f : Nat → Nat) (w : World) (hv : By v) (hf : By f) : Calls Try.prog 29 #[bk f 16, bk v 4] w fun e w' =>
    e = .returned (bk (mx v f) 16) ∧ Fr No w w' := by
  have HF := hid hf; have HV := hid hv; clear hf hv
  go_enter Try.func29, Try.ntmps29
  go_wp2_with (first
    | ((with_reducible show wpList _ _ _ ({ dst := _, op := .box 27 _, type := _, pos := _, after := _, guard := _ } :: _) _ _); refine wpL_box rfl _ _ rfl (bk f 16) rfl (b8 f 16) rfl ?_; intro w1 HB1 HF1 HS1)
    | ((with_reducible show wpList _ _ _ ({ dst := _, op := .box 38 _, type := _, pos := _, after := _, guard := _ } :: _) _ _); refine wpL_box rfl _ _ rfl (bk v 4) rfl (b8 v 4) rfl ?_; intro w2 HB2 HF2 HS2)
    | ((with_reducible show wpList _ _ _ ({ dst := _, op := .alloc 27, type := _, pos := _, after := _, guard := _ } :: _) _ _); have := HB3; refine wpL_alloc rfl _ rfl _ zero16 (b8 (fun _ => 0) 16) rfl ?_; intro w4 HB4 HF4 HS4)
    | ((with_reducible show wpList _ _ _ ({ dst := _, op := .alloc 27, type := _, pos := _, after := _, guard := _ } :: _) _ _); refine wpL_alloc rfl _ rfl _ zero16 (b8 (fun _ => 0) 16) rfl ?_; intro w3 HB3 HF3 HS3))
  have hB1 := ((HB1.out.fr HF2.out id).fr HF3.out id).fr HF4.out id
  have hB2 := (HB2.out.fr HF3.out id).fr HF4.out id
  have hB3 := HB3.out.fr HF4.out id
  have hB4 := HB4.out
  have hf4 := ((HF1.out.trans' HF2.out).trans' HF3.out).trans' HF4.out
  obtain ⟨b1, hb1⟩ : ∃ b, w.heap.size = b := ⟨_, rfl⟩
  obtain ⟨b2, hb2⟩ : ∃ b, w1.heap.size = b := ⟨_, rfl⟩
  obtain ⟨b3, hb3⟩ : ∃ b, w2.heap.size = b := ⟨_, rfl⟩
  obtain ⟨b4, hb4⟩ : ∃ b, w3.heap.size = b := ⟨_, rfl⟩
  have hs1 := HS1.out; have hs2 := HS2.out; have hs3 := HS3.out
  rw [hb1, hb2] at hs1; rw [hb2, hb3] at hs2; rw [hb3, hb4] at hs3
  rw [hb1] at hB1; rw [hb2] at hB2; rw [hb3] at hB3; rw [hb4] at hB4
  rw [hb1, hb2, hb3, hb4]
  have HW := hid (show w.heap.size ≤ b3 ∧ w.heap.size ≤ b4 by omega); have HN := hid (show b1 ≠ b4 ∧ b2 ≠ b4 ∧ b3 ≠ b4 by omega)
  have HR := hid (show Blk w4 b1 27 (b8 f 16) ∧ Blk w4 b2 38 (b8 v 4) ∧ Blk w4 b3 27 (b8 (fun _ => 0) 16) ∧ Blk w4 b4 27 (b8 (upto 0 (mx v f) fun _ => 0) 16) ∧ Fr No w w4 by rw [upto_zero]; exact ⟨hB1, hB2, hB3, hB4, hf4⟩)
  clear HB1 HB2 HB3 HB4 HF1 HF2 HF3 HF4 HS1 HS2 HS3 HS4 this hB1 hB2 hB3 hB4 hf4 hb1 hb2 hb3 hb4 hs1 hs2 hs3
  go_loopw [6, 7, 8, 9] (fun _ _ _ i wr => ∃ n : Nat, n ≤ 16 ∧ i = .int .i64 n ∧ Hid (Blk wr b1 27 (b8 f 16) ∧ Blk wr b2 38 (b8 v 4) ∧ Blk wr b3 27 (b8 (fun _ => 0) 16) ∧ Blk wr b4 27 (b8 (upto n (mx v f) fun _ => 0) 16) ∧ Fr No w wr)) (fun _ _ _ i _ => 16 - (intOf i).toNat)
  case atStart => exact ⟨0, by omega, rfl, HR⟩
  case round =>
    clear HR
    obtain ⟨n, hn, rfl, HR⟩ := hrel
    by_cases hlt : n < 16
    · go_wp2_with fail
      rw [← mxp_zero] at HR
      go_loopw [8, 16] (fun _ k wr => ∃ m : Nat, m ≤ 4 ∧ k = .int .i64 m ∧ Hid (Blk wr b1 27 (b8 f 16) ∧ Blk wr b2 38 (b8 v 4) ∧ Blk wr b3 27 (b8 (fun _ => 0) 16) ∧ Blk wr b4 27 (b8 (mxp v f n m) 16) ∧ Fr No w wr)) (fun _ k _ => 4 - (intOf k).toNat)
      case atStart => exact ⟨0, by omega, rfl, HR⟩
      case round =>
        clear HR
        obtain ⟨m, hm, rfl, HR⟩ := hrel
        by_cases hlt2 : m < 4
        · go_wp2_with fail
          have c1 := blk_at HR.out.2.2.2.1 hlt
          have c2 := blk_at HR.out.2.1 hlt2
          obtain ⟨X, hX⟩ : ∃ X, n - n % 4 + (n + m) % 4 = X := ⟨_, rfl⟩
          have hX16 : X < 16 := by omega
          have hXi : (X : Int) < 16 := by omega
          have c3 := blk_at HR.out.1 hX16
          have hold : Facts.hold [(2, fun w' => w'.cell? ⟨b4, n, none⟩ = some (.int .u8 (mxp v f n m n : Int))), (5, fun w' => w'.cell? ⟨b2, m, none⟩ = some (.int .u8 (v m : Int))), (13, fun w' => w'.cell? ⟨b1, X, none⟩ = some (.int .u8 (f X : Int)))] wr.drew :=
            Facts.cons_hold c1 (Facts.cons_hold c2 (Facts.cons_hold c3 (Facts.nil_hold _)))
          have HX := hid hX
          clear hX
          refine wpD_region hold (by kernel_rfl) 18 rfl ?_
          (refine wpD_plain 0 (v := ?_) rfl (by kernel_rfl) (by kernel_rfl) (by kernel_rfl) (fun _ _ _ h => h) (by rfl) ?_ (by assumption) ?_; rotate_left; (intro _w; go_simp; try with_reducible rfl); simp only [Act.put, List.setIfInBounds_toArray, List.set_cons_zero, List.set_cons_succ])
          (refine wpD_plain 1 (v := ?_) rfl (by kernel_rfl) (by kernel_rfl) (by kernel_rfl) (fun _ _ _ h => h) (by rfl) ?_ (by assumption) ?_; rotate_left; (intro _w; go_simp; try with_reducible rfl); simp only [Act.put, List.setIfInBounds_toArray, List.set_cons_zero, List.set_cons_succ])
          (refine wpD_take 2 _ rfl (by kernel_rfl) (by kernel_rfl) (by kernel_rfl) (fun _ _ _ h => h) List.mem_cons_self (by rfl) (v := ?_) ?_ (by assumption) ?_; rotate_left; (intro _w _hw; go_simp; try with_reducible rfl); simp only [Act.put, List.setIfInBounds_toArray, List.set_cons_zero, List.set_cons_succ])
          (refine wpD_plain 3 (v := ?_) rfl (by kernel_rfl) (by kernel_rfl) (by kernel_rfl) (fun _ _ _ h => h) (by rfl) ?_ (by assumption) ?_; rotate_left; (intro _w; go_simp; try with_reducible rfl); simp only [Act.put, List.setIfInBounds_toArray, List.set_cons_zero, List.set_cons_succ])
          (refine wpD_plain 4 (v := ?_) rfl (by kernel_rfl) (by kernel_rfl) (by kernel_rfl) (fun _ _ _ h => h) (by rfl) ?_ (by assumption) ?_; rotate_left; (intro _w; go_simp; try with_reducible rfl); simp only [Act.put, List.setIfInBounds_toArray, List.set_cons_zero, List.set_cons_succ])
          (refine wpD_take 5 _ rfl (by kernel_rfl) (by kernel_rfl) (by kernel_rfl) (fun _ _ _ h => h) (List.mem_cons_of_mem _ List.mem_cons_self) (by rfl) (v := ?_) ?_ (by assumption) ?_; rotate_left; (intro _w _hw; go_simp; try with_reducible rfl); simp only [Act.put, List.setIfInBounds_toArray, List.set_cons_zero, List.set_cons_succ])
          (refine wpD_plain 6 (v := ?_) rfl (by kernel_rfl) (by kernel_rfl) (by kernel_rfl) (fun _ _ _ h => h) (by rfl) ?_ (by assumption) ?_; rotate_left; (intro _w; go_simp; try with_reducible rfl); simp only [Act.put, List.setIfInBounds_toArray, List.set_cons_zero, List.set_cons_succ])
          (refine wpD_plain 7 (v := ?_) rfl (by kernel_rfl) (by kernel_rfl) (by kernel_rfl) (fun _ _ _ h => h) (by rfl) ?_ (by assumption) ?_; rotate_left; (intro _w; go_simp; try with_reducible rfl); simp only [Act.put, List.setIfInBounds_toArray, List.set_cons_zero, List.set_cons_succ])
          (refine wpD_plain 8 (v := ?_) rfl (by kernel_rfl) (by kernel_rfl) (by kernel_rfl) (fun _ _ _ h => h) (by rfl) ?_ (by assumption) ?_; rotate_left; (intro _w; go_simp; try with_reducible rfl); simp only [Act.put, List.setIfInBounds_toArray, List.set_cons_zero, List.set_cons_succ])
          (refine wpD_plain 9 (v := (.int .i64 ((n + m : Nat) : Int))) rfl (by kernel_rfl) (by kernel_rfl) (by kernel_rfl) (fun _ _ _ h => h) (by rfl) ?_ (by assumption) ?_; (intro _w; go_simp; (rw [IntKind.wrap_i64]; omega)); simp only [Act.put, List.setIfInBounds_toArray, List.set_cons_zero, List.set_cons_succ])
          (refine wpD_plain 10 (v := (.int .i64 (((n + m) % 4 : Nat) : Int))) rfl (by kernel_rfl) (by kernel_rfl) (by kernel_rfl) (fun _ _ _ h => h) (by rfl) ?_ (by assumption) ?_; (intro _w; go_simp; rw [Int.tmod_eq_emod_of_nonneg (by omega)]); simp only [Act.put, List.setIfInBounds_toArray, List.set_cons_zero, List.set_cons_succ])
          (refine wpD_plain 11 (v := (.int .i64 (X : Int))) rfl (by kernel_rfl) (by kernel_rfl) (by kernel_rfl) (fun _ _ _ h => h) (by rfl) ?_ (by assumption) ?_; (intro _w; go_simp; (have := HX.out; rw [IntKind.wrap_i64]; omega)); simp only [Act.put, List.setIfInBounds_toArray, List.set_cons_zero, List.set_cons_succ])
          (refine wpD_plain 12 (v := ?_) rfl (by kernel_rfl) (by kernel_rfl) (by kernel_rfl) (fun _ _ _ h => h) (by rfl) ?_ (by assumption) ?_; rotate_left; (intro _w; go_simp; try with_reducible rfl); simp only [Act.put, List.setIfInBounds_toArray, List.set_cons_zero, List.set_cons_succ])
          (refine wpD_take 13 _ rfl (by kernel_rfl) (by kernel_rfl) (by kernel_rfl) (fun _ _ _ h => h) (List.mem_cons_of_mem _ (List.mem_cons_of_mem _ List.mem_cons_self)) (by rfl) (v := ?_) ?_ (by assumption) ?_; rotate_left; (intro _w _hw; go_simp; try with_reducible rfl); simp only [Act.put, List.setIfInBounds_toArray, List.set_cons_zero, List.set_cons_succ])
          refine wpD_only 14 [(2, fun w' => w'.cell? ⟨b4, n, none⟩ = some (.int .u8 (mxp v f n m n : Int)))] rfl (by kernel_rfl) (by kernel_rfl) (by rfl) (fun K14 hK14 => ?_)
          refine wp_call _ [_, _] _ rfl _ [] rfl (fun _ _ => by kernel_rfl) [.int .u8 (v m : Int), .int .u8 (f X : Int)] rfl ?_
          refine (times_any (v m) (f X) _ (HV.out m) (HF.out X)).mono ?_
          rintro e w' ⟨rfl, rfl⟩
          refine ⟨_, rfl, hK14 _ _ (Facts.cons_hold c1 (Facts.nil_hold _)) ?_⟩
          clear hK14 K14
          simp only [Act.put, List.setIfInBounds_toArray, List.set_cons_zero, List.set_cons_succ]
          have hold2 : Facts.hold [(2, fun w' => w'.cell? ⟨b4, n, none⟩ = some (.int .u8 (mxp v f n m n : Int)))] wr.drew := Facts.cons_hold c1 (Facts.nil_hold _)
          have hx : bits .xor .u8 (mxp v f n m n : Int) (times (v m) (f X) : Nat) = ((mxs v f n (m + 1) : Nat) : Int) := by
            rw [xor8 (by rw [mxp, upd_at]; exact mxs_lt HV.out n m) (times_lt (HV.out m) _), mxp, upd_at, ← HX.out]
            rfl
          (refine wpD_plain 15 (v := ?_) rfl (by kernel_rfl) (by kernel_rfl) (by kernel_rfl) (fun _ _ _ h => h) (by rfl) ?_ (by assumption) ?_; rotate_left; (intro _w; go_simp; try with_reducible rfl); simp only [Act.put, List.setIfInBounds_toArray, List.set_cons_zero, List.set_cons_succ])
          (refine wpD_plain 16 (v := ?_) rfl (by kernel_rfl) (by kernel_rfl) (by kernel_rfl) (fun _ _ _ h => h) (by rfl) ?_ (by assumption) ?_; rotate_left; (intro _w; go_simp; try with_reducible rfl); simp only [Act.put, List.setIfInBounds_toArray, List.set_cons_zero, List.set_cons_succ])
          refine wpD_only 17 [] rfl (by kernel_rfl) (by kernel_rfl) (by rfl) (fun K17 hK17 => ?_)
          refine wp_put _ _ _ rfl b4 n (mxs v f n (m + 1)) rfl rfl _ _ 16 HR.out.2.2.2.1.drew hlt info1 ?_
          intro w5 HB5 HF5 HS5
          refine hK17 _ _ (Facts.nil_hold _) ?_
          clear hK17 K17
          simp only [Act.put, List.setIfInBounds_toArray, List.set_cons_zero, List.set_cons_succ]
          refine wpD_done (by kernel_rfl) ?_ _
          have HR' := hid (show Blk w5 b1 27 (b8 f 16) ∧ Blk w5 b2 38 (b8 v 4) ∧ Blk w5 b3 27 (b8 (fun _ => 0) 16) ∧ Blk w5 b4 27 (b8 (mxp v f n (m + 1)) 16) ∧ Fr No w w5 by
            rw [← mxp_step]
            exact ⟨HR.out.1.drew.fr HF5.out HN.out.1, HR.out.2.1.drew.fr HF5.out HN.out.2.1, HR.out.2.2.1.drew.fr HF5.out HN.out.2.2, HB5.out, HR.out.2.2.2.2.drew.trans HF5.out fun i e => .inr (by have := HW.out; have : i = b4 := e; omega)⟩)
          clear HR HB5 HF5 HS5 hold hold2 c1 c2 c3 hx hXi
          go_wp2_with fail
          go_roundw
          case rel => exact ⟨m + 1, by omega, by go_num, HR'⟩
          case measure => simp [intOf]; omega
        · obtain rfl : m = 4 := by omega
          rw [mxp_four] at HR
          go_wp2_with fail
          go_roundw
          case rel => exact ⟨n + 1, by omega, by go_num, HR⟩
          case measure => simp [intOf]; omega
    · obtain rfl : n = 16 := by omega
      go_wp2_with (first
        | ((with_reducible show wpList _ _ _ ({ dst := _, op := .load 27 _, type := _, pos := _, after := _, guard := _ } :: _) _ _); refine wpL_all rfl _ _ rfl b4 rfl _ (upto 16 (mx v f) fun _ => 0) 16 _ HR.out.2.2.2.1 rfl rfl info16 ?_)
        | ((with_reducible show wpList _ _ _ ({ dst := _, op := .store 27 _ _, type := _, pos := _, after := _, guard := _ } :: _) _ _); refine wpL_whole rfl _ _ _ rfl b3 (upto 16 (mx v f) fun _ => 0) 16 rfl rfl _ _ HR.out.2.2.1 info16 ?_; intro w5 HB5 HF5 HS5)
        | fail)
      have hB5 := HB5.out
      rw [upto_all] at hB5
      refine ret_cell rfl _ rfl hB5 rfl rfl (by simpa using info16) rfl ?_
      exact ⟨rfl, HR.out.2.2.2.2.trans HF5.out fun i e => .inr (by have := HW.out; have : i = b3 := e; omega)⟩
end Go.Proofs.Ytgbcddhgeepjgaa.AE
