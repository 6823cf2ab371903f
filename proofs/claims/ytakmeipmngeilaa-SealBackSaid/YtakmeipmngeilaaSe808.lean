/-
  Part 8 of the proof: AesR, AesF, AesE.
-/
import Derived.Test.YtakmeipmngeilaaSe807
set_option linter.unusedVariables false
set_option linter.unusedSimpArgs false
namespace Go.Proofs.Ytakmeipmngeilaa.AE
set_option maxRecDepth 100000
open Go.RowKit K

/-- A function of bytes, as a value. -/
def ByteFn (fid : FuncId) (g : Nat → Nat) : Prop :=
  (∀ (vs : Array Value) (w : World), (callFunc fid vs).run Try.prog w = .ok (.enter fid vs) w) ∧
  ∀ (x : Nat) (w : World), x < 256 → Calls Try.prog fid #[.int .u8 (x : Int)] w fun e w' => e = .returned (.int .u8 (g x : Nat)) ∧ w = w'
theorem box_fn : ByteFn 77 box := ⟨fun _ _ => by kernel_rfl, fun x w h => box_any x w h⟩
theorem rep_any (fid : FuncId) (g f : Nat → Nat) (w : World) (hg : ByteFn fid g) (hf : By f) : Calls Try.prog 76 #[bk f 16, .func (.func fid) #[] #[]] w fun e w' =>
    e = .returned (bk (rep g f) 16) ∧ Fr No w w' := by
  have HF := hid hf; have HI := hid hg; clear hf hg
  go_enter Try.func76, Try.ntmps76
  go_wp2_with (first
    | ((with_reducible show wpList _ _ _ (⟨_, .box 57 _, _, _, _, _⟩ :: _) _ _); refine wpL_box rfl _ _ rfl (bk f 16) rfl (b8 f 16) rfl ?_; intro w1 HB1 HF1 HS1)
    | ((with_reducible show wpList _ _ _ (⟨_, .alloc 57, _, _, _, _⟩ :: _) _ _); refine wpL_alloc rfl _ rfl _ zero16 (b8 (fun _ => 0) 16) rfl ?_; intro w2 HB2 HF2 HS2))
  have hB1 := HB1.out.fr HF2.out id
  have hB2 := HB2.out
  have hf3 := HF1.out.trans' HF2.out
  obtain ⟨b1, hb1⟩ : ∃ b, w.heap.size = b := ⟨_, rfl⟩
  obtain ⟨b2, hb2⟩ : ∃ b, w1.heap.size = b := ⟨_, rfl⟩
  have hs1 := HS1.out
  rw [hb1, hb2] at hs1
  rw [hb1] at hB1; rw [hb2] at hB2
  rw [hb1, hb2]
  have HW := hid (show w.heap.size ≤ b1 ∧ w.heap.size ≤ b2 by omega); have HN := hid (show b1 ≠ b2 by omega)
  have HR := hid (show Blk w2 b1 57 (b8 (upto 0 (rep g f) f) 16) ∧ Blk w2 b2 57 (b8 (fun _ => 0) 16) ∧ Fr No w w2 by rw [upto_zero]; exact ⟨hB1, hB2, hf3⟩)
  clear HB1 HB2 HF1 HF2 HS1 HS2 hB1 hB2 hf3 hb1 hb2 hs1
  go_loopw [5, 6] (fun _ i wr => ∃ n : Nat, n ≤ 16 ∧ i = .int .i64 n ∧ Hid (Blk wr b1 57 (b8 (upto n (rep g f) f) 16) ∧ Blk wr b2 57 (b8 (fun _ => 0) 16) ∧ Fr No w wr)) (fun _ i _ => 16 - (intOf i).toNat)
  case atStart => exact ⟨0, by omega, rfl, HR⟩
  case round =>
    clear HR
    obtain ⟨n, hn, rfl, HR⟩ := hrel
    by_cases hlt : n < 16
    · have c1 := blk_at HR.out.1 hlt
      rw [upto_get _ _ (Nat.le_refl n)] at c1
      go_wp2_with (first
        | ((with_reducible show wpList _ _ _ (⟨_, .call { callee := .value _, args := _, argTypes := _ }, _, _, _, _⟩ :: _) _ _); refine wpL_callF rfl _ [_] _ rfl fid [] rfl HI.out.1 [.int .u8 (f n : Int)] rfl ?_)
        | fail)
      refine (HI.out.2 (f n) _ (HF.out n)).mono ?_
      rintro e w' ⟨rfl, rfl⟩
      refine ⟨_, rfl, ?_⟩
      go_wp2_with (first
        | ((with_reducible show wpList _ _ _ (⟨_, .store 5 _ _, _, _, _, _⟩ :: _) _ _); refine wpL_put rfl _ _ _ rfl b1 n (rep g f n) rfl rfl _ _ 16 HR.out.1 hlt info1 ?_; intro w5 HB5 HF5 HS5)
        | fail)
      have HR' := hid (show Blk w5 b1 57 (b8 (upto (n + 1) (rep g f) f) 16) ∧ Blk w5 b2 57 (b8 (fun _ => 0) 16) ∧ Fr No w w5 by
        rw [← upto_set]
        exact ⟨HB5.out, HR.out.2.1.fr HF5.out (fun e => HN.out e.symm), HR.out.2.2.trans HF5.out fun i e => .inr (by have := HW.out; have : i = b1 := e; omega)⟩)
      clear HR HB5 HF5 HS5 c1
      go_wp2_with fail
      go_roundw
      case rel => exact ⟨n + 1, by omega, by go_num, HR'⟩
      case measure => simp [intOf]; omega
    · obtain rfl : n = 16 := by omega
      go_wp2_with (first
        | ((with_reducible show wpList _ _ _ (⟨_, .load 57 _, _, _, _, _⟩ :: _) _ _); refine wpL_all rfl _ _ rfl b1 rfl _ (upto 16 (rep g f) f) 16 _ HR.out.1 rfl rfl info16 ?_)
        | ((with_reducible show wpList _ _ _ (⟨_, .store 57 _ _, _, _, _, _⟩ :: _) _ _); refine wpL_whole rfl _ _ _ rfl b2 (upto 16 (rep g f) f) 16 rfl rfl _ _ HR.out.2.1 info16 ?_; intro w5 HB5 HF5 HS5)
        | fail)
      have hB5 := HB5.out
      rw [upto_all] at hB5
      refine ret_cell rfl _ rfl hB5 rfl rfl (by simpa using info16) rfl ?_
      exact ⟨rfl, HR.out.2.2.trans HF5.out fun i e => .inr (by have := HW.out; have : i = b2 := e; omega)⟩

theorem info4 : (Try.prog.info? 84).map (·.size) = some 4 := by kernel_rfl
/-- A partial block of mix. -/
def mxp (v f : Nat → Nat) (n m : Nat) : Nat → Nat := upd (upto n (mx v f) fun _ => 0) n (mxs v f n m)
theorem mxp_zero (v f : Nat → Nat) (n : Nat) : mxp v f n 0 = upto n (mx v f) fun _ => 0 := by
  have h := upd_self (upto n (mx v f) fun _ => 0) n
  rw [upto_get _ _ (Nat.le_refl n)] at h
  exact h
theorem mxp_four (v f : Nat → Nat) (n : Nat) : mxp v f n 4 = upto (n + 1) (mx v f) fun _ => 0 := upto_set (mx v f) (fun _ => 0) n
theorem mxp_step (v f : Nat → Nat) (n m : Nat) : upd (mxp v f n m) n (mxs v f n (m + 1)) = mxp v f n (m + 1) := upd_upd _ _ _ _
theorem mix_any (v f : Nat → Nat) (w : World) (hv : By v) (hf : By f) : Calls Try.prog 78 #[bk f 16, bk v 4] w fun e w' =>
    e = .returned (bk (mx v f) 16) ∧ Fr No w w' := by
  have HF := hid hf; have HV := hid hv; clear hf hv
  go_enter Try.func78, Try.ntmps78
  go_wp2_with (first
    | ((with_reducible show wpList _ _ _ (⟨_, .box 57 _, _, _, _, _⟩ :: _) _ _); refine wpL_box rfl _ _ rfl (bk f 16) rfl (b8 f 16) rfl ?_; intro w1 HB1 HF1 HS1)
    | ((with_reducible show wpList _ _ _ (⟨_, .box 84 _, _, _, _, _⟩ :: _) _ _); refine wpL_box rfl _ _ rfl (bk v 4) rfl (b8 v 4) rfl ?_; intro w2 HB2 HF2 HS2)
    | ((with_reducible show wpList _ _ _ (⟨_, .alloc 57, _, _, _, _⟩ :: _) _ _); have := HB3; refine wpL_alloc rfl _ rfl _ zero16 (b8 (fun _ => 0) 16) rfl ?_; intro w4 HB4 HF4 HS4)
    | ((with_reducible show wpList _ _ _ (⟨_, .alloc 57, _, _, _, _⟩ :: _) _ _); refine wpL_alloc rfl _ rfl _ zero16 (b8 (fun _ => 0) 16) rfl ?_; intro w3 HB3 HF3 HS3))
  have hB1 := ((HB1.out.fr HF2.out id).fr HF3.out id).fr HF4.out id
  have hB2 := (HB2.out.fr HF3.out id).fr HF4.out id
  have hB3 := HB3.out.fr HF4.out id
  have hB4 := HB4.out
  have hf4 := ((HF1.out.trans' HF2.out).trans' HF3.out).trans' HF4.out
  obtain ⟨b1, hb1⟩ : ∃ b, w.heap.size = b := ⟨_, rfl⟩
  obtain ⟨b2, hb2⟩ : ∃ b, w1.heap.size = b := ⟨_, rfl⟩
  obtain ⟨b3, hb3⟩ : ∃ b, w2.heap.size = b := ⟨_, rfl⟩
  obtain ⟨b4, hb4⟩ : ∃ b, w3.heap.size = b := ⟨_, rfl⟩
  have hs1 := HS1.out; have hs2 := HS2.out; have hs3 := HS3.out
  rw [hb1, hb2] at hs1; rw [hb2, hb3] at hs2; rw [hb3, hb4] at hs3
  rw [hb1] at hB1; rw [hb2] at hB2; rw [hb3] at hB3; rw [hb4] at hB4
  rw [hb1, hb2, hb3, hb4]
  have HW := hid (show w.heap.size ≤ b3 ∧ w.heap.size ≤ b4 by omega); have HN := hid (show b1 ≠ b4 ∧ b2 ≠ b4 ∧ b3 ≠ b4 by omega)
  have HR := hid (show Blk w4 b1 57 (b8 f 16) ∧ Blk w4 b2 84 (b8 v 4) ∧ Blk w4 b3 57 (b8 (fun _ => 0) 16) ∧ Blk w4 b4 57 (b8 (upto 0 (mx v f) fun _ => 0) 16) ∧ Fr No w w4 by rw [upto_zero]; exact ⟨hB1, hB2, hB3, hB4, hf4⟩)
  clear HB1 HB2 HB3 HB4 HF1 HF2 HF3 HF4 HS1 HS2 HS3 HS4 this hB1 hB2 hB3 hB4 hf4 hb1 hb2 hb3 hb4 hs1 hs2 hs3
  go_loopw [6, 7, 8, 9] (fun _ _ _ i wr => ∃ n : Nat, n ≤ 16 ∧ i = .int .i64 n ∧ Hid (Blk wr b1 57 (b8 f 16) ∧ Blk wr b2 84 (b8 v 4) ∧ Blk wr b3 57 (b8 (fun _ => 0) 16) ∧ Blk wr b4 57 (b8 (upto n (mx v f) fun _ => 0) 16) ∧ Fr No w wr)) (fun _ _ _ i _ => 16 - (intOf i).toNat)
  case atStart => exact ⟨0, by omega, rfl, HR⟩
  case round =>
    clear HR
    obtain ⟨n, hn, rfl, HR⟩ := hrel
    by_cases hlt : n < 16
    · go_wp2_with fail
      rw [← mxp_zero] at HR
      go_loopw [8, 16] (fun _ k wr => ∃ m : Nat, m ≤ 4 ∧ k = .int .i64 m ∧ Hid (Blk wr b1 57 (b8 f 16) ∧ Blk wr b2 84 (b8 v 4) ∧ Blk wr b3 57 (b8 (fun _ => 0) 16) ∧ Blk wr b4 57 (b8 (mxp v f n m) 16) ∧ Fr No w wr)) (fun _ k _ => 4 - (intOf k).toNat)
      case atStart => exact ⟨0, by omega, rfl, HR⟩
      case round =>
        clear HR
        obtain ⟨m, hm, rfl, HR⟩ := hrel
        by_cases hlt2 : m < 4
        · go_wp2_with fail
          have c1 := blk_at HR.out.2.2.2.1 hlt
          have c2 := blk_at HR.out.2.1 hlt2
          obtain ⟨X, hX⟩ : ∃ X, n - n % 4 + (n + m) % 4 = X := ⟨_, rfl⟩
          have hX16 : X < 16 := by omega
          have hXi : (X : Int) < 16 := by omega
          have c3 := blk_at HR.out.1 hX16
          have hold : Facts.hold [(2, fun w' => w'.cell? ⟨b4, n, none⟩ = some (.int .u8 (mxp v f n m n : Int))), (5, fun w' => w'.cell? ⟨b2, m, none⟩ = some (.int .u8 (v m : Int))), (13, fun w' => w'.cell? ⟨b1, X, none⟩ = some (.int .u8 (f X : Int)))] wr.drew :=
            Facts.cons_hold c1 (Facts.cons_hold c2 (Facts.cons_hold c3 (Facts.nil_hold _)))
          have HX := hid hX
          clear hX
          refine wpD_region hold (by kernel_rfl) 18 rfl ?_
          (refine wpD_plain 0 (v := ?_) rfl (by kernel_rfl) (by kernel_rfl) (by kernel_rfl) (fun _ _ _ h => h) (by rfl) ?_ (by assumption) ?_; rotate_left; (intro _w; go_simp; try with_reducible rfl); simp only [Act.put, List.setIfInBounds_toArray, List.set_cons_zero, List.set_cons_succ])
          (refine wpD_plain 1 (v := ?_) rfl (by kernel_rfl) (by kernel_rfl) (by kernel_rfl) (fun _ _ _ h => h) (by rfl) ?_ (by assumption) ?_; rotate_left; (intro _w; go_simp; try with_reducible rfl); simp only [Act.put, List.setIfInBounds_toArray, List.set_cons_zero, List.set_cons_succ])
          (refine wpD_take 2 _ rfl (by kernel_rfl) (by kernel_rfl) (by kernel_rfl) (fun _ _ _ h => h) List.mem_cons_self (by rfl) (v := ?_) ?_ (by assumption) ?_; rotate_left; (intro _w _hw; go_simp; try with_reducible rfl); simp only [Act.put, List.setIfInBounds_toArray, List.set_cons_zero, List.set_cons_succ])
          (refine wpD_plain 3 (v := ?_) rfl (by kernel_rfl) (by kernel_rfl) (by kernel_rfl) (fun _ _ _ h => h) (by rfl) ?_ (by assumption) ?_; rotate_left; (intro _w; go_simp; try with_reducible rfl); simp only [Act.put, List.setIfInBounds_toArray, List.set_cons_zero, List.set_cons_succ])
          (refine wpD_plain 4 (v := ?_) rfl (by kernel_rfl) (by kernel_rfl) (by kernel_rfl) (fun _ _ _ h => h) (by rfl) ?_ (by assumption) ?_; rotate_left; (intro _w; go_simp; try with_reducible rfl); simp only [Act.put, List.setIfInBounds_toArray, List.set_cons_zero, List.set_cons_succ])
          (refine wpD_take 5 _ rfl (by kernel_rfl) (by kernel_rfl) (by kernel_rfl) (fun _ _ _ h => h) (List.mem_cons_of_mem _ List.mem_cons_self) (by rfl) (v := ?_) ?_ (by assumption) ?_; rotate_left; (intro _w _hw; go_simp; try with_reducible rfl); simp only [Act.put, List.setIfInBounds_toArray, List.set_cons_zero, List.set_cons_succ])
          (refine wpD_plain 6 (v := ?_) rfl (by kernel_rfl) (by kernel_rfl) (by kernel_rfl) (fun _ _ _ h => h) (by rfl) ?_ (by assumption) ?_; rotate_left; (intro _w; go_simp; try with_reducible rfl); simp only [Act.put, List.setIfInBounds_toArray, List.set_cons_zero, List.set_cons_succ])
          (refine wpD_plain 7 (v := ?_) rfl (by kernel_rfl) (by kernel_rfl) (by kernel_rfl) (fun _ _ _ h => h) (by rfl) ?_ (by assumption) ?_; rotate_left; (intro _w; go_simp; try with_reducible rfl); simp only [Act.put, List.setIfInBounds_toArray, List.set_cons_zero, List.set_cons_succ])
          (refine wpD_plain 8 (v := ?_) rfl (by kernel_rfl) (by kernel_rfl) (by kernel_rfl) (fun _ _ _ h => h) (by rfl) ?_ (by assumption) ?_; rotate_left; (intro _w; go_simp; try with_reducible rfl); simp only [Act.put, List.setIfInBounds_toArray, List.set_cons_zero, List.set_cons_succ])
          (refine wpD_plain 9 (v := (.int .i64 ((n + m : Nat) : Int))) rfl (by kernel_rfl) (by kernel_rfl) (by kernel_rfl) (fun _ _ _ h => h) (by rfl) ?_ (by assumption) ?_; (intro _w; go_simp; (rw [IntKind.wrap_i64]; omega)); simp only [Act.put, List.setIfInBounds_toArray, List.set_cons_zero, List.set_cons_succ])
          (refine wpD_plain 10 (v := (.int .i64 (((n + m) % 4 : Nat) : Int))) rfl (by kernel_rfl) (by kernel_rfl) (by kernel_rfl) (fun _ _ _ h => h) (by rfl) ?_ (by assumption) ?_; (intro _w; go_simp; rw [Int.tmod_eq_emod_of_nonneg (by omega)]); simp only [Act.put, List.setIfInBounds_toArray, List.set_cons_zero, List.set_cons_succ])
          (refine wpD_plain 11 (v := (.int .i64 (X : Int))) rfl (by kernel_rfl) (by kernel_rfl) (by kernel_rfl) (fun _ _ _ h => h) (by rfl) ?_ (by assumption) ?_; (intro _w; go_simp; (have := HX.out; rw [IntKind.wrap_i64]; omega)); simp only [Act.put, List.setIfInBounds_toArray, List.set_cons_zero, List.set_cons_succ])
          (refine wpD_plain 12 (v := ?_) rfl (by kernel_rfl) (by kernel_rfl) (by kernel_rfl) (fun _ _ _ h => h) (by rfl) ?_ (by assumption) ?_; rotate_left; (intro _w; go_simp; try with_reducible rfl); simp only [Act.put, List.setIfInBounds_toArray, List.set_cons_zero, List.set_cons_succ])
          (refine wpD_take 13 _ rfl (by kernel_rfl) (by kernel_rfl) (by kernel_rfl) (fun _ _ _ h => h) (List.mem_cons_of_mem _ (List.mem_cons_of_mem _ List.mem_cons_self)) (by rfl) (v := ?_) ?_ (by assumption) ?_; rotate_left; (intro _w _hw; go_simp; try with_reducible rfl); simp only [Act.put, List.setIfInBounds_toArray, List.set_cons_zero, List.set_cons_succ])
          refine wpD_only 14 [(2, fun w' => w'.cell? ⟨b4, n, none⟩ = some (.int .u8 (mxp v f n m n : Int)))] rfl (by kernel_rfl) (by kernel_rfl) (by rfl) (fun K14 hK14 => ?_)
          refine wp_call _ [_, _] _ rfl _ [] rfl (fun _ _ => by kernel_rfl) [.int .u8 (v m : Int), .int .u8 (f X : Int)] rfl ?_
          refine (times_any (v m) (f X) _ (HV.out m) (HF.out X)).mono ?_
          rintro e w' ⟨rfl, rfl⟩
          refine ⟨_, rfl, hK14 _ _ (Facts.cons_hold c1 (Facts.nil_hold _)) ?_⟩
          clear hK14 K14
          simp only [Act.put, List.setIfInBounds_toArray, List.set_cons_zero, List.set_cons_succ]
          have hold2 : Facts.hold [(2, fun w' => w'.cell? ⟨b4, n, none⟩ = some (.int .u8 (mxp v f n m n : Int)))] wr.drew := Facts.cons_hold c1 (Facts.nil_hold _)
          have hx : bits .xor .u8 (mxp v f n m n : Int) (times (v m) (f X) : Nat) = ((mxs v f n (m + 1) : Nat) : Int) := by
            rw [xor8 (by rw [mxp, upd_at]; exact mxs_lt HV.out n m) (times_lt (HV.out m) _), mxp, upd_at, ← HX.out]
            rfl
          (refine wpD_plain 15 (v := ?_) rfl (by kernel_rfl) (by kernel_rfl) (by kernel_rfl) (fun _ _ _ h => h) (by rfl) ?_ (by assumption) ?_; rotate_left; (intro _w; go_simp; try with_reducible rfl); simp only [Act.put, List.setIfInBounds_toArray, List.set_cons_zero, List.set_cons_succ])
          (refine wpD_plain 16 (v := ?_) rfl (by kernel_rfl) (by kernel_rfl) (by kernel_rfl) (fun _ _ _ h => h) (by rfl) ?_ (by assumption) ?_; rotate_left; (intro _w; go_simp; try with_reducible rfl); simp only [Act.put, List.setIfInBounds_toArray, List.set_cons_zero, List.set_cons_succ])
          refine wpD_only 17 [] rfl (by kernel_rfl) (by kernel_rfl) (by rfl) (fun K17 hK17 => ?_)
          refine wp_put _ _ _ rfl b4 n (mxs v f n (m + 1)) rfl rfl _ _ 16 HR.out.2.2.2.1.drew hlt info1 ?_
          intro w5 HB5 HF5 HS5
          refine hK17 _ _ (Facts.nil_hold _) ?_
          clear hK17 K17
          simp only [Act.put, List.setIfInBounds_toArray, List.set_cons_zero, List.set_cons_succ]
          refine wpD_done (by kernel_rfl) ?_ _
          have HR' := hid (show Blk w5 b1 57 (b8 f 16) ∧ Blk w5 b2 84 (b8 v 4) ∧ Blk w5 b3 57 (b8 (fun _ => 0) 16) ∧ Blk w5 b4 57 (b8 (mxp v f n (m + 1)) 16) ∧ Fr No w w5 by
            rw [← mxp_step]
            exact ⟨HR.out.1.drew.fr HF5.out HN.out.1, HR.out.2.1.drew.fr HF5.out HN.out.2.1, HR.out.2.2.1.drew.fr HF5.out HN.out.2.2, HB5.out, HR.out.2.2.2.2.drew.trans HF5.out fun i e => .inr (by have := HW.out; have : i = b4 := e; omega)⟩)
          clear HR HB5 HF5 HS5 hold hold2 c1 c2 c3 hx hXi
          go_wp2_with fail
          go_roundw
          case rel => exact ⟨m + 1, by omega, by go_num, HR'⟩
          case measure => simp [intOf]; omega
        · obtain rfl : m = 4 := by omega
          rw [mxp_four] at HR
          go_wp2_with fail
          go_roundw
          case rel => exact ⟨n + 1, by omega, by go_num, HR⟩
          case measure => simp [intOf]; omega
    · obtain rfl : n = 16 := by omega
      go_wp2_with (first
        | ((with_reducible show wpList _ _ _ (⟨_, .load 57 _, _, _, _, _⟩ :: _) _ _); refine wpL_all rfl _ _ rfl b4 rfl _ (upto 16 (mx v f) fun _ => 0) 16 _ HR.out.2.2.2.1 rfl rfl info16 ?_)
        | ((with_reducible show wpList _ _ _ (⟨_, .store 57 _ _, _, _, _, _⟩ :: _) _ _); refine wpL_whole rfl _ _ _ rfl b3 (upto 16 (mx v f) fun _ => 0) 16 rfl rfl _ _ HR.out.2.2.1 info16 ?_; intro w5 HB5 HF5 HS5)
        | fail)
      have hB5 := HB5.out
      rw [upto_all] at hB5
      refine ret_cell rfl _ rfl hB5 rfl rfl (by simpa using info16) rfl ?_
      exact ⟨rfl, HR.out.2.2.2.2.trans HF5.out fun i e => .inr (by have := HW.out; have : i = b3 := e; omega)⟩
end Go.Proofs.Ytakmeipmngeilaa.AE

set_option linter.unusedVariables false
set_option linter.unusedSimpArgs false
namespace Go.Proofs.Ytakmeipmngeilaa.AE
set_option maxRecDepth 100000
open Go.RowKit K

theorem zero4 (w : World) : (zeroValue 84).run Try.prog w = .ok (bk (fun _ => 0) 4) w := by kernel_rfl
set_option maxHeartbeats 4000000 in
theorem fol_any (f : Nat → Nat) (c : Nat) (w : World) (hf : By f) (hc : c < 256) : Calls Try.prog 84 #[bk f 16, .int .u8 (c : Int)] w fun e w' =>
    e = .returned (bk (fol f c) 16) ∧ Fr No w w' := by
  have HF := hid hf; have HC := hid hc; clear hf hc
  go_enter Try.func84, Try.ntmps84
  go_wp2_with (first
    | ((with_reducible show wpList _ _ _ (⟨_, .box 57 _, _, _, _, _⟩ :: _) _ _); refine wpL_box rfl _ _ rfl (bk f 16) rfl (b8 f 16) rfl ?_; intro w1 HB1 HF1 HS1)
    | ((with_reducible show wpList _ _ _ (⟨_, .alloc 57, _, _, _, _⟩ :: _) _ _); refine wpL_alloc rfl _ rfl _ zero16 (b8 (fun _ => 0) 16) rfl ?_; intro w2 HB2 HF2 HS2))
  have hB1 := HB1.out.fr HF2.out id
  have hB2 := HB2.out
  have hf3 := HF1.out.trans' HF2.out
  obtain ⟨b1, hb1⟩ : ∃ b, w.heap.size = b := ⟨_, rfl⟩
  obtain ⟨b2, hb2⟩ : ∃ b, w1.heap.size = b := ⟨_, rfl⟩
  have hs1 := HS1.out
  have hs2 := HS2.out
  rw [hb1, hb2] at hs1
  rw [hb2] at hs2
  rw [hb1] at hB1; rw [hb2] at hB2
  rw [hb1, hb2]
  have HW := hid (show w.heap.size ≤ b1 ∧ w.heap.size ≤ b2 ∧ w2.heap.size = b1 + 2 ∧ b2 = b1 + 1 by omega)
  have HR := hid (show Blk w2 b1 57 (b8 f 16) ∧ Blk w2 b2 57 (b8 (fun _ => 0) 16) ∧ Fr No w w2 from ⟨hB1, hB2, hf3⟩)
  clear HB1 HB2 HF1 HF2 HS1 HS2 hB1 hB2 hf3 hb1 hb2 hs1 hs2
  have c1 := blk_at HR.out.1 (i := 13) (by decide)
  have c2 := blk_at HR.out.1 (i := 14) (by decide)
  have c3 := blk_at HR.out.1 (i := 15) (by decide)
  have c4 := blk_at HR.out.1 (i := 12) (by decide)
  have hx : bits .xor .u8 (box (f 13) : Nat) (c : Int) = ((box (f 13) ^^^ c : Nat) : Int) := xor8 (box_lt (HF.out 13)) HC.out
  have hold : Facts.hold [(1, fun w' => w'.cell? ⟨b1, 13, none⟩ = some (.int .u8 (f 13 : Int))), (6, fun w' => w'.cell? ⟨b1, 14, none⟩ = some (.int .u8 (f 14 : Int))), (9, fun w' => w'.cell? ⟨b1, 15, none⟩ = some (.int .u8 (f 15 : Int))), (12, fun w' => w'.cell? ⟨b1, 12, none⟩ = some (.int .u8 (f 12 : Int)))] w2.drew :=
    Facts.cons_hold c1 (Facts.cons_hold c2 (Facts.cons_hold c3 (Facts.cons_hold c4 (Facts.nil_hold _))))
  refine wpD_region hold (by kernel_rfl) 17 rfl ?_
  (refine wpD_plain 0 (v := ?_) rfl (by kernel_rfl) (by kernel_rfl) (by kernel_rfl) (fun _ _ _ h => h) (by rfl) ?_ (by assumption) ?_; rotate_left; (intro _w; go_simp; try with_reducible rfl); simp only [Act.put, List.setIfInBounds_toArray, List.set_cons_zero, List.set_cons_succ])
  (refine wpD_take 1 _ rfl (by kernel_rfl) (by kernel_rfl) (by kernel_rfl) (fun _ _ _ h => h) List.mem_cons_self (by rfl) (v := ?_) ?_ (by assumption) ?_; rotate_left; (intro _w _hw; go_simp; try with_reducible rfl); simp only [Act.put, List.setIfInBounds_toArray, List.set_cons_zero, List.set_cons_succ])
  (refine wpD_plain 3 (v := ?_) rfl (by kernel_rfl) (by kernel_rfl) (by kernel_rfl) (fun _ _ _ h => h) (by rfl) ?_ (by assumption) ?_; rotate_left; (intro _w; go_simp; try with_reducible rfl); simp only [Act.put, List.setIfInBounds_toArray, List.set_cons_zero, List.set_cons_succ])
  (refine wpD_plain 5 (v := ?_) rfl (by kernel_rfl) (by kernel_rfl) (by kernel_rfl) (fun _ _ _ h => h) (by rfl) ?_ (by assumption) ?_; rotate_left; (intro _w; go_simp; try with_reducible rfl); simp only [Act.put, List.setIfInBounds_toArray, List.set_cons_zero, List.set_cons_succ])
  (refine wpD_take 6 _ rfl (by kernel_rfl) (by kernel_rfl) (by kernel_rfl) (fun _ _ _ h => h) (List.mem_cons_of_mem _ List.mem_cons_self) (by rfl) (v := ?_) ?_ (by assumption) ?_; rotate_left; (intro _w _hw; go_simp; try with_reducible rfl); simp only [Act.put, List.setIfInBounds_toArray, List.set_cons_zero, List.set_cons_succ])
  (refine wpD_plain 8 (v := ?_) rfl (by kernel_rfl) (by kernel_rfl) (by kernel_rfl) (fun _ _ _ h => h) (by rfl) ?_ (by assumption) ?_; rotate_left; (intro _w; go_simp; try with_reducible rfl); simp only [Act.put, List.setIfInBounds_toArray, List.set_cons_zero, List.set_cons_succ])
  (refine wpD_take 9 _ rfl (by kernel_rfl) (by kernel_rfl) (by kernel_rfl) (fun _ _ _ h => h) (List.mem_cons_of_mem _ (List.mem_cons_of_mem _ List.mem_cons_self)) (by rfl) (v := ?_) ?_ (by assumption) ?_; rotate_left; (intro _w _hw; go_simp; try with_reducible rfl); simp only [Act.put, List.setIfInBounds_toArray, List.set_cons_zero, List.set_cons_succ])
  (refine wpD_plain 11 (v := ?_) rfl (by kernel_rfl) (by kernel_rfl) (by kernel_rfl) (fun _ _ _ h => h) (by rfl) ?_ (by assumption) ?_; rotate_left; (intro _w; go_simp; try with_reducible rfl); simp only [Act.put, List.setIfInBounds_toArray, List.set_cons_zero, List.set_cons_succ])
  (refine wpD_take 12 _ rfl (by kernel_rfl) (by kernel_rfl) (by kernel_rfl) (fun _ _ _ h => h) (List.mem_cons_of_mem _ (List.mem_cons_of_mem _ (List.mem_cons_of_mem _ List.mem_cons_self))) (by rfl) (v := ?_) ?_ (by assumption) ?_; rotate_left; (intro _w _hw; go_simp; try with_reducible rfl); simp only [Act.put, List.setIfInBounds_toArray, List.set_cons_zero, List.set_cons_succ])
  refine wpD_join (fun _ a' w' => a' = ⟨#[bk f 16, .int .u8 (c : Int), .pointer (some ⟨b1, 0, none⟩), undef, .pointer (some ⟨b2, 0, none⟩), .pointer (some ⟨w2.heap.size, 0, none⟩), undef, .pointer (some ⟨b1, 13, none⟩), .int .u8 (f 13 : Int), .int .u8 (box (f 13) : Nat), .int .u8 (c : Int), .int .u8 ((box (f 13) ^^^ c : Nat) : Int), .pointer (some ⟨b1, 14, none⟩), .int .u8 (f 14 : Int), .int .u8 (box (f 14) : Nat), .pointer (some ⟨b1, 15, none⟩), .int .u8 (f 15 : Int), .int .u8 (box (f 15) : Nat), .pointer (some ⟨b1, 12, none⟩), .int .u8 (f 12 : Int), .int .u8 (box (f 12) : Nat), bk (t0 f c) 4, undef, undef, undef, undef, undef, undef, undef, undef, undef, undef, undef, undef, undef, undef, undef, undef, undef, undef, undef, undef], []⟩ ∧ Blk w' w2.heap.size 84 (b8 (fun _ => 0) 4) ∧ Fr No w2.drew w') [] 1 ((((Array.replicate 17 true).setIfInBounds 16 false))) (fun tail => ?_) ?_
  · skip
    refine wpD_two 2 15 [(6, fun w' => w'.cell? ⟨b1, 14, none⟩ = some (.int .u8 (f 14 : Int))), (9, fun w' => w'.cell? ⟨b1, 15, none⟩ = some (.int .u8 (f 15 : Int))), (12, fun w' => w'.cell? ⟨b1, 12, none⟩ = some (.int .u8 (f 12 : Int)))] [(1, fun w' => w'.cell? ⟨b1, 13, none⟩ = some (.int .u8 (f 13 : Int))), (6, fun w' => w'.cell? ⟨b1, 14, none⟩ = some (.int .u8 (f 14 : Int))), (9, fun w' => w'.cell? ⟨b1, 15, none⟩ = some (.int .u8 (f 15 : Int))), (12, fun w' => w'.cell? ⟨b1, 12, none⟩ = some (.int .u8 (f 12 : Int)))] rfl rfl (by kernel_rfl) (by kernel_rfl) (by kernel_rfl) (by rfl) (by rfl) ?_ ?_
    · intro K hK
      refine wp_call _ [_] _ rfl _ [] rfl (fun _ _ => by kernel_rfl) [.int .u8 (f 13 : Int)] rfl ?_
      refine (box_any (f 13) _ (HF.out 13)).mono ?_
      rintro e w' ⟨rfl, rfl⟩
      refine ⟨_, rfl, hK _ _ (Facts.cons_hold c2 (Facts.cons_hold c3 (Facts.cons_hold c4 (Facts.nil_hold _)))) ?_⟩
      clear hK K
      simp only [Act.put, List.setIfInBounds_toArray, List.set_cons_zero, List.set_cons_succ]
      replace hold : Facts.hold [(6, fun w' => w'.cell? ⟨b1, 14, none⟩ = some (.int .u8 (f 14 : Int))), (9, fun w' => w'.cell? ⟨b1, 15, none⟩ = some (.int .u8 (f 15 : Int))), (12, fun w' => w'.cell? ⟨b1, 12, none⟩ = some (.int .u8 (f 12 : Int)))] w2.drew := (Facts.cons_hold c2 (Facts.cons_hold c3 (Facts.cons_hold c4 (Facts.nil_hold _))))
      (refine wpD_plain 4 (v := ?_) rfl (by kernel_rfl) (by kernel_rfl) (by kernel_rfl) (fun _ _ _ h => h) (by rfl) ?_ (by assumption) ?_; rotate_left; (intro _w; go_simp; try with_reducible rfl); simp only [Act.put, List.setIfInBounds_toArray, List.set_cons_zero, List.set_cons_succ])
      refine wpD_two 7 15 [(9, fun w' => w'.cell? ⟨b1, 15, none⟩ = some (.int .u8 (f 15 : Int))), (12, fun w' => w'.cell? ⟨b1, 12, none⟩ = some (.int .u8 (f 12 : Int)))] [(6, fun w' => w'.cell? ⟨b1, 14, none⟩ = some (.int .u8 (f 14 : Int))), (9, fun w' => w'.cell? ⟨b1, 15, none⟩ = some (.int .u8 (f 15 : Int))), (12, fun w' => w'.cell? ⟨b1, 12, none⟩ = some (.int .u8 (f 12 : Int)))] rfl rfl (by kernel_rfl) (by kernel_rfl) (by kernel_rfl) (by rfl) (by rfl) ?_ ?_
      · intro K hK
        refine wp_call _ [_] _ rfl _ [] rfl (fun _ _ => by kernel_rfl) [.int .u8 (f 14 : Int)] rfl ?_
        refine (box_any (f 14) _ (HF.out 14)).mono ?_
        rintro e w' ⟨rfl, rfl⟩
        refine ⟨_, rfl, hK _ _ (Facts.cons_hold c3 (Facts.cons_hold c4 (Facts.nil_hold _))) ?_⟩
        clear hK K
        simp only [Act.put, List.setIfInBounds_toArray, List.set_cons_zero, List.set_cons_succ]
        replace hold : Facts.hold [(9, fun w' => w'.cell? ⟨b1, 15, none⟩ = some (.int .u8 (f 15 : Int))), (12, fun w' => w'.cell? ⟨b1, 12, none⟩ = some (.int .u8 (f 12 : Int)))] w2.drew := (Facts.cons_hold c3 (Facts.cons_hold c4 (Facts.nil_hold _)))
        refine wpD_two 10 15 [(12, fun w' => w'.cell? ⟨b1, 12, none⟩ = some (.int .u8 (f 12 : Int)))] [(9, fun w' => w'.cell? ⟨b1, 15, none⟩ = some (.int .u8 (f 15 : Int))), (12, fun w' => w'.cell? ⟨b1, 12, none⟩ = some (.int .u8 (f 12 : Int)))] rfl rfl (by kernel_rfl) (by kernel_rfl) (by kernel_rfl) (by rfl) (by rfl) ?_ ?_
        · intro K hK
          refine wp_call _ [_] _ rfl _ [] rfl (fun _ _ => by kernel_rfl) [.int .u8 (f 15 : Int)] rfl ?_
          refine (box_any (f 15) _ (HF.out 15)).mono ?_
          rintro e w' ⟨rfl, rfl⟩
          refine ⟨_, rfl, hK _ _ (Facts.cons_hold c4 (Facts.nil_hold _)) ?_⟩
          clear hK K
          simp only [Act.put, List.setIfInBounds_toArray, List.set_cons_zero, List.set_cons_succ]
          replace hold : Facts.hold [(12, fun w' => w'.cell? ⟨b1, 12, none⟩ = some (.int .u8 (f 12 : Int)))] w2.drew := (Facts.cons_hold c4 (Facts.nil_hold _))
          refine wpD_two 13 15 [] [(12, fun w' => w'.cell? ⟨b1, 12, none⟩ = some (.int .u8 (f 12 : Int)))] rfl rfl (by kernel_rfl) (by kernel_rfl) (by kernel_rfl) (by rfl) (by rfl) ?_ ?_
          · intro K hK
            refine wp_call _ [_] _ rfl _ [] rfl (fun _ _ => by kernel_rfl) [.int .u8 (f 12 : Int)] rfl ?_
            refine (box_any (f 12) _ (HF.out 12)).mono ?_
            rintro e w' ⟨rfl, rfl⟩
            refine ⟨_, rfl, hK _ _ (Facts.nil_hold _) ?_⟩
            clear hK K
            simp only [Act.put, List.setIfInBounds_toArray, List.set_cons_zero, List.set_cons_succ]
            replace hold : Facts.hold [] w2.drew := (Facts.nil_hold _)
            (refine wpD_plain 14 (v := (bk (t0 f c) 4)) rfl (by kernel_rfl) (by kernel_rfl) (by kernel_rfl) (fun _ _ _ h => h) (by rfl) ?_ (by assumption) ?_; (intro _w; go_simp; rfl); simp only [Act.put, List.setIfInBounds_toArray, List.set_cons_zero, List.set_cons_succ])
            refine wpD_only 15 [] rfl (by kernel_rfl) (by kernel_rfl) (by rfl) (fun K hK => ?_)
            refine wp_alloc _ rfl _ zero4 (b8 (fun _ => 0) 4) rfl ?_
            intro w3 HB3 HF3 HS3
            refine hK _ _ (Facts.nil_hold _) ?_
            clear hK K
            simp only [Act.put, List.setIfInBounds_toArray, List.set_cons_zero, List.set_cons_succ]
            exact wpD_cast (by kernel_rfl) (tail _ _ ⟨rfl, HB3.out, HF3.out⟩ (Facts.nil_hold _))
          · intro K hK
            refine wp_alloc _ rfl _ zero4 (b8 (fun _ => 0) 4) rfl ?_
            intro w3 HB3 HF3 HS3
            have d1 := HF3.out.cell (w := w2.drew) c1 id
            have d2 := HF3.out.cell (w := w2.drew) c2 id
            have d3 := HF3.out.cell (w := w2.drew) c3 id
            have d4 := HF3.out.cell (w := w2.drew) c4 id
            refine hK _ _ (Facts.cons_hold d4 (Facts.nil_hold _)) ?_
            clear hK K
            simp only [Act.put, List.setIfInBounds_toArray, List.set_cons_zero, List.set_cons_succ]
            replace hold : Facts.hold [(12, fun w' => w'.cell? ⟨b1, 12, none⟩ = some (.int .u8 (f 12 : Int)))] w3 := (Facts.cons_hold d4 (Facts.nil_hold _))
            refine wpD_only 13 [] rfl (by kernel_rfl) (by kernel_rfl) (by rfl) (fun K hK => ?_)
            refine wp_call _ [_] _ rfl _ [] rfl (fun _ _ => by kernel_rfl) [.int .u8 (f 12 : Int)] rfl ?_
            refine (box_any (f 12) _ (HF.out 12)).mono ?_
            rintro e w' ⟨rfl, rfl⟩
            refine ⟨_, rfl, hK _ _ (Facts.nil_hold _) ?_⟩
            clear hK K
            simp only [Act.put, List.setIfInBounds_toArray, List.set_cons_zero, List.set_cons_succ]
            replace hold : Facts.hold [] w3 := (Facts.nil_hold _)
            (refine wpD_plain 14 (v := (bk (t0 f c) 4)) rfl (by kernel_rfl) (by kernel_rfl) (by kernel_rfl) (fun _ _ _ h => h) (by rfl) ?_ (by assumption) ?_; (intro _w; go_simp; rfl); simp only [Act.put, List.setIfInBounds_toArray, List.set_cons_zero, List.set_cons_succ])
            exact wpD_cast (by kernel_rfl) (tail _ _ ⟨rfl, HB3.out, HF3.out⟩ (Facts.nil_hold _))
        · intro K hK
          refine wp_alloc _ rfl _ zero4 (b8 (fun _ => 0) 4) rfl ?_
          intro w3 HB3 HF3 HS3
          have d1 := HF3.out.cell (w := w2.drew) c1 id
          have d2 := HF3.out.cell (w := w2.drew) c2 id
          have d3 := HF3.out.cell (w := w2.drew) c3 id
          have d4 := HF3.out.cell (w := w2.drew) c4 id
          refine hK _ _ (Facts.cons_hold d3 (Facts.cons_hold d4 (Facts.nil_hold _))) ?_
          clear hK K
          simp only [Act.put, List.setIfInBounds_toArray, List.set_cons_zero, List.set_cons_succ]
          replace hold : Facts.hold [(9, fun w' => w'.cell? ⟨b1, 15, none⟩ = some (.int .u8 (f 15 : Int))), (12, fun w' => w'.cell? ⟨b1, 12, none⟩ = some (.int .u8 (f 12 : Int)))] w3 := (Facts.cons_hold d3 (Facts.cons_hold d4 (Facts.nil_hold _)))
          refine wpD_only 10 [(12, fun w' => w'.cell? ⟨b1, 12, none⟩ = some (.int .u8 (f 12 : Int)))] rfl (by kernel_rfl) (by kernel_rfl) (by rfl) (fun K hK => ?_)
          refine wp_call _ [_] _ rfl _ [] rfl (fun _ _ => by kernel_rfl) [.int .u8 (f 15 : Int)] rfl ?_
          refine (box_any (f 15) _ (HF.out 15)).mono ?_
          rintro e w' ⟨rfl, rfl⟩
          refine ⟨_, rfl, hK _ _ (Facts.cons_hold d4 (Facts.nil_hold _)) ?_⟩
          clear hK K
          simp only [Act.put, List.setIfInBounds_toArray, List.set_cons_zero, List.set_cons_succ]
          replace hold : Facts.hold [(12, fun w' => w'.cell? ⟨b1, 12, none⟩ = some (.int .u8 (f 12 : Int)))] w3 := (Facts.cons_hold d4 (Facts.nil_hold _))
          refine wpD_only 13 [] rfl (by kernel_rfl) (by kernel_rfl) (by rfl) (fun K hK => ?_)
          refine wp_call _ [_] _ rfl _ [] rfl (fun _ _ => by kernel_rfl) [.int .u8 (f 12 : Int)] rfl ?_
          refine (box_any (f 12) _ (HF.out 12)).mono ?_
          rintro e w' ⟨rfl, rfl⟩
          refine ⟨_, rfl, hK _ _ (Facts.nil_hold _) ?_⟩
          clear hK K
          simp only [Act.put, List.setIfInBounds_toArray, List.set_cons_zero, List.set_cons_succ]
          replace hold : Facts.hold [] w3 := (Facts.nil_hold _)
          (refine wpD_plain 14 (v := (bk (t0 f c) 4)) rfl (by kernel_rfl) (by kernel_rfl) (by kernel_rfl) (fun _ _ _ h => h) (by rfl) ?_ (by assumption) ?_; (intro _w; go_simp; rfl); simp only [Act.put, List.setIfInBounds_toArray, List.set_cons_zero, List.set_cons_succ])
          exact wpD_cast (by kernel_rfl) (tail _ _ ⟨rfl, HB3.out, HF3.out⟩ (Facts.nil_hold _))
      · intro K hK
        refine wp_alloc _ rfl _ zero4 (b8 (fun _ => 0) 4) rfl ?_
        intro w3 HB3 HF3 HS3
        have d1 := HF3.out.cell (w := w2.drew) c1 id
        have d2 := HF3.out.cell (w := w2.drew) c2 id
        have d3 := HF3.out.cell (w := w2.drew) c3 id
        have d4 := HF3.out.cell (w := w2.drew) c4 id
        refine hK _ _ (Facts.cons_hold d2 (Facts.cons_hold d3 (Facts.cons_hold d4 (Facts.nil_hold _)))) ?_
        clear hK K
        simp only [Act.put, List.setIfInBounds_toArray, List.set_cons_zero, List.set_cons_succ]
        replace hold : Facts.hold [(6, fun w' => w'.cell? ⟨b1, 14, none⟩ = some (.int .u8 (f 14 : Int))), (9, fun w' => w'.cell? ⟨b1, 15, none⟩ = some (.int .u8 (f 15 : Int))), (12, fun w' => w'.cell? ⟨b1, 12, none⟩ = some (.int .u8 (f 12 : Int)))] w3 := (Facts.cons_hold d2 (Facts.cons_hold d3 (Facts.cons_hold d4 (Facts.nil_hold _))))
        refine wpD_only 7 [(9, fun w' => w'.cell? ⟨b1, 15, none⟩ = some (.int .u8 (f 15 : Int))), (12, fun w' => w'.cell? ⟨b1, 12, none⟩ = some (.int .u8 (f 12 : Int)))] rfl (by kernel_rfl) (by kernel_rfl) (by rfl) (fun K hK => ?_)
        refine wp_call _ [_] _ rfl _ [] rfl (fun _ _ => by kernel_rfl) [.int .u8 (f 14 : Int)] rfl ?_
        refine (box_any (f 14) _ (HF.out 14)).mono ?_
        rintro e w' ⟨rfl, rfl⟩
        refine ⟨_, rfl, hK _ _ (Facts.cons_hold d3 (Facts.cons_hold d4 (Facts.nil_hold _))) ?_⟩
        clear hK K
        simp only [Act.put, List.setIfInBounds_toArray, List.set_cons_zero, List.set_cons_succ]
        replace hold : Facts.hold [(9, fun w' => w'.cell? ⟨b1, 15, none⟩ = some (.int .u8 (f 15 : Int))), (12, fun w' => w'.cell? ⟨b1, 12, none⟩ = some (.int .u8 (f 12 : Int)))] w3 := (Facts.cons_hold d3 (Facts.cons_hold d4 (Facts.nil_hold _)))
        refine wpD_only 10 [(12, fun w' => w'.cell? ⟨b1, 12, none⟩ = some (.int .u8 (f 12 : Int)))] rfl (by kernel_rfl) (by kernel_rfl) (by rfl) (fun K hK => ?_)
        refine wp_call _ [_] _ rfl _ [] rfl (fun _ _ => by kernel_rfl) [.int .u8 (f 15 : Int)] rfl ?_
        refine (box_any (f 15) _ (HF.out 15)).mono ?_
        rintro e w' ⟨rfl, rfl⟩
        refine ⟨_, rfl, hK _ _ (Facts.cons_hold d4 (Facts.nil_hold _)) ?_⟩
        clear hK K
        simp only [Act.put, List.setIfInBounds_toArray, List.set_cons_zero, List.set_cons_succ]
        replace hold : Facts.hold [(12, fun w' => w'.cell? ⟨b1, 12, none⟩ = some (.int .u8 (f 12 : Int)))] w3 := (Facts.cons_hold d4 (Facts.nil_hold _))
        refine wpD_only 13 [] rfl (by kernel_rfl) (by kernel_rfl) (by rfl) (fun K hK => ?_)
        refine wp_call _ [_] _ rfl _ [] rfl (fun _ _ => by kernel_rfl) [.int .u8 (f 12 : Int)] rfl ?_
        refine (box_any (f 12) _ (HF.out 12)).mono ?_
        rintro e w' ⟨rfl, rfl⟩
        refine ⟨_, rfl, hK _ _ (Facts.nil_hold _) ?_⟩
        clear hK K
        simp only [Act.put, List.setIfInBounds_toArray, List.set_cons_zero, List.set_cons_succ]
        replace hold : Facts.hold [] w3 := (Facts.nil_hold _)
        (refine wpD_plain 14 (v := (bk (t0 f c) 4)) rfl (by kernel_rfl) (by kernel_rfl) (by kernel_rfl) (fun _ _ _ h => h) (by rfl) ?_ (by assumption) ?_; (intro _w; go_simp; rfl); simp only [Act.put, List.setIfInBounds_toArray, List.set_cons_zero, List.set_cons_succ])
        exact wpD_cast (by kernel_rfl) (tail _ _ ⟨rfl, HB3.out, HF3.out⟩ (Facts.nil_hold _))
    · intro K hK
      refine wp_alloc _ rfl _ zero4 (b8 (fun _ => 0) 4) rfl ?_
      intro w3 HB3 HF3 HS3
      have d1 := HF3.out.cell (w := w2.drew) c1 id
      have d2 := HF3.out.cell (w := w2.drew) c2 id
      have d3 := HF3.out.cell (w := w2.drew) c3 id
      have d4 := HF3.out.cell (w := w2.drew) c4 id
      refine hK _ _ (Facts.cons_hold d1 (Facts.cons_hold d2 (Facts.cons_hold d3 (Facts.cons_hold d4 (Facts.nil_hold _))))) ?_
      clear hK K
      simp only [Act.put, List.setIfInBounds_toArray, List.set_cons_zero, List.set_cons_succ]
      replace hold : Facts.hold [(1, fun w' => w'.cell? ⟨b1, 13, none⟩ = some (.int .u8 (f 13 : Int))), (6, fun w' => w'.cell? ⟨b1, 14, none⟩ = some (.int .u8 (f 14 : Int))), (9, fun w' => w'.cell? ⟨b1, 15, none⟩ = some (.int .u8 (f 15 : Int))), (12, fun w' => w'.cell? ⟨b1, 12, none⟩ = some (.int .u8 (f 12 : Int)))] w3 := (Facts.cons_hold d1 (Facts.cons_hold d2 (Facts.cons_hold d3 (Facts.cons_hold d4 (Facts.nil_hold _)))))
      refine wpD_only 2 [(6, fun w' => w'.cell? ⟨b1, 14, none⟩ = some (.int .u8 (f 14 : Int))), (9, fun w' => w'.cell? ⟨b1, 15, none⟩ = some (.int .u8 (f 15 : Int))), (12, fun w' => w'.cell? ⟨b1, 12, none⟩ = some (.int .u8 (f 12 : Int)))] rfl (by kernel_rfl) (by kernel_rfl) (by rfl) (fun K hK => ?_)
      refine wp_call _ [_] _ rfl _ [] rfl (fun _ _ => by kernel_rfl) [.int .u8 (f 13 : Int)] rfl ?_
      refine (box_any (f 13) _ (HF.out 13)).mono ?_
      rintro e w' ⟨rfl, rfl⟩
      refine ⟨_, rfl, hK _ _ (Facts.cons_hold d2 (Facts.cons_hold d3 (Facts.cons_hold d4 (Facts.nil_hold _)))) ?_⟩
      clear hK K
      simp only [Act.put, List.setIfInBounds_toArray, List.set_cons_zero, List.set_cons_succ]
      replace hold : Facts.hold [(6, fun w' => w'.cell? ⟨b1, 14, none⟩ = some (.int .u8 (f 14 : Int))), (9, fun w' => w'.cell? ⟨b1, 15, none⟩ = some (.int .u8 (f 15 : Int))), (12, fun w' => w'.cell? ⟨b1, 12, none⟩ = some (.int .u8 (f 12 : Int)))] w3 := (Facts.cons_hold d2 (Facts.cons_hold d3 (Facts.cons_hold d4 (Facts.nil_hold _))))
      (refine wpD_plain 4 (v := ?_) rfl (by kernel_rfl) (by kernel_rfl) (by kernel_rfl) (fun _ _ _ h => h) (by rfl) ?_ (by assumption) ?_; rotate_left; (intro _w; go_simp; try with_reducible rfl); simp only [Act.put, List.setIfInBounds_toArray, List.set_cons_zero, List.set_cons_succ])
      refine wpD_only 7 [(9, fun w' => w'.cell? ⟨b1, 15, none⟩ = some (.int .u8 (f 15 : Int))), (12, fun w' => w'.cell? ⟨b1, 12, none⟩ = some (.int .u8 (f 12 : Int)))] rfl (by kernel_rfl) (by kernel_rfl) (by rfl) (fun K hK => ?_)
      refine wp_call _ [_] _ rfl _ [] rfl (fun _ _ => by kernel_rfl) [.int .u8 (f 14 : Int)] rfl ?_
      refine (box_any (f 14) _ (HF.out 14)).mono ?_
      rintro e w' ⟨rfl, rfl⟩
      refine ⟨_, rfl, hK _ _ (Facts.cons_hold d3 (Facts.cons_hold d4 (Facts.nil_hold _))) ?_⟩
      clear hK K
      simp only [Act.put, List.setIfInBounds_toArray, List.set_cons_zero, List.set_cons_succ]
      replace hold : Facts.hold [(9, fun w' => w'.cell? ⟨b1, 15, none⟩ = some (.int .u8 (f 15 : Int))), (12, fun w' => w'.cell? ⟨b1, 12, none⟩ = some (.int .u8 (f 12 : Int)))] w3 := (Facts.cons_hold d3 (Facts.cons_hold d4 (Facts.nil_hold _)))
      refine wpD_only 10 [(12, fun w' => w'.cell? ⟨b1, 12, none⟩ = some (.int .u8 (f 12 : Int)))] rfl (by kernel_rfl) (by kernel_rfl) (by rfl) (fun K hK => ?_)
      refine wp_call _ [_] _ rfl _ [] rfl (fun _ _ => by kernel_rfl) [.int .u8 (f 15 : Int)] rfl ?_
      refine (box_any (f 15) _ (HF.out 15)).mono ?_
      rintro e w' ⟨rfl, rfl⟩
      refine ⟨_, rfl, hK _ _ (Facts.cons_hold d4 (Facts.nil_hold _)) ?_⟩
      clear hK K
      simp only [Act.put, List.setIfInBounds_toArray, List.set_cons_zero, List.set_cons_succ]
      replace hold : Facts.hold [(12, fun w' => w'.cell? ⟨b1, 12, none⟩ = some (.int .u8 (f 12 : Int)))] w3 := (Facts.cons_hold d4 (Facts.nil_hold _))
      refine wpD_only 13 [] rfl (by kernel_rfl) (by kernel_rfl) (by rfl) (fun K hK => ?_)
      refine wp_call _ [_] _ rfl _ [] rfl (fun _ _ => by kernel_rfl) [.int .u8 (f 12 : Int)] rfl ?_
      refine (box_any (f 12) _ (HF.out 12)).mono ?_
      rintro e w' ⟨rfl, rfl⟩
      refine ⟨_, rfl, hK _ _ (Facts.nil_hold _) ?_⟩
      clear hK K
      simp only [Act.put, List.setIfInBounds_toArray, List.set_cons_zero, List.set_cons_succ]
      replace hold : Facts.hold [] w3 := (Facts.nil_hold _)
      (refine wpD_plain 14 (v := (bk (t0 f c) 4)) rfl (by kernel_rfl) (by kernel_rfl) (by kernel_rfl) (fun _ _ _ h => h) (by rfl) ?_ (by assumption) ?_; (intro _w; go_simp; rfl); simp only [Act.put, List.setIfInBounds_toArray, List.set_cons_zero, List.set_cons_succ])
      exact wpD_cast (by kernel_rfl) (tail _ _ ⟨rfl, HB3.out, HF3.out⟩ (Facts.nil_hold _))
  · rintro a' w4 ⟨rfl, hB3, hf4⟩ _
    clear hold c1 c2 c3 c4 hx
    obtain ⟨b3, hb3⟩ : ∃ b, w2.heap.size = b := ⟨_, rfl⟩
    rw [hb3] at hB3
    rw [hb3]
    have HB := hid hB3
    have HN := hid (show b1 ≠ b3 ∧ b2 ≠ b3 ∧ b1 ≠ b2 by have := HW.out; omega)
    have HW3 := hid (show w.heap.size ≤ b3 by have := HW.out; omega)
    have HQ := hid (show Blk w4 b1 57 (b8 f 16) ∧ Blk w4 b2 57 (b8 (fun _ => 0) 16) ∧ Fr No w w4 from ⟨HR.out.1.drew.fr hf4 id, HR.out.2.1.drew.fr hf4 id, HR.out.2.2.drew.trans' hf4⟩)
    clear HR hb3 hf4 hB3
    refine wpD_only 16 [] rfl (by kernel_rfl) (by kernel_rfl) (by rfl) (fun K16 hK16 => ?_)
    refine wp_row _ _ _ rfl b3 0 (t0 f c) 4 rfl rfl _ _ 4 HB.out (by decide) info4 ?_
    intro w5 HB5 HF5 HS5
    have hb5 := HB5.out
    rw [over_all] at hb5
    refine hK16 _ _ (Facts.nil_hold _) ?_
    clear hK16 K16
    simp only [Act.put, List.setIfInBounds_toArray, List.set_cons_zero, List.set_cons_succ]
    refine wpD_done (by kernel_rfl) ?_ _
    have HR := hid (show Blk w5 b1 57 (b8 (upto 0 (fol f c) f) 16) ∧ Blk w5 b2 57 (b8 (fun _ => 0) 16) ∧ Blk w5 b3 84 (b8 (tS (t0 f c) f 0) 4) ∧ Fr No w w5 by
      rw [upto_zero]
      exact ⟨HQ.out.1.fr HF5.out HN.out.1, HQ.out.2.1.fr HF5.out HN.out.2.1, hb5, HQ.out.2.2.trans HF5.out fun i e => .inr (by have := HW3.out; have : i = b3 := e; omega)⟩)
    clear HQ HB HB5 HF5 HS5 hb5
    go_wp2_with fail
    go_loopw [6, 22] (fun _ i wr => ∃ n : Nat, n ≤ 16 ∧ i = .int .i64 n ∧ Hid (Blk wr b1 57 (b8 (upto n (fol f c) f) 16) ∧ Blk wr b2 57 (b8 (fun _ => 0) 16) ∧ Blk wr b3 84 (b8 (tS (t0 f c) f n) 4) ∧ Fr No w wr)) (fun _ i _ => 16 - (intOf i).toNat)
    case atStart => exact ⟨0, by omega, rfl, HR⟩
    case round =>
      clear HR
      obtain ⟨n, hn, rfl, HR⟩ := hrel
      by_cases hlt : n < 16
      · go_wp2_with fail
        obtain ⟨Y, hY⟩ : ∃ Y, n % 4 = Y := ⟨_, rfl⟩
        have hY4 : Y < 4 := by omega
        have hYi : (Y : Int) < 4 := by omega
        have c1 := blk_at HR.out.1 hlt
        have c2 := blk_at HR.out.2.2.1 hY4
        rw [upto_get _ _ (Nat.le_refl n)] at c1
        have hold : Facts.hold [(2, fun w' => w'.cell? ⟨b1, n, none⟩ = some (.int .u8 (f n : Int))), (6, fun w' => w'.cell? ⟨b3, Y, none⟩ = some (.int .u8 (tS (t0 f c) f n Y : Int)))] wr.drew := Facts.cons_hold c1 (Facts.cons_hold c2 (Facts.nil_hold _))
        have hx : bits .xor .u8 (f n : Int) (tS (t0 f c) f n Y : Int) = ((fol f c n : Nat) : Int) := by
          rw [xor8 (HF.out n) (tS_lt (t0_by HF.out HC.out) HF.out n Y), ← hY]
          rfl
        have HY := hid hY
        clear hY
        refine wpD_region hold (by kernel_rfl) 10 rfl ?_
        (refine wpD_plain 0 (v := ?_) rfl (by kernel_rfl) (by kernel_rfl) (by kernel_rfl) (fun _ _ _ h => h) (by rfl) ?_ (by assumption) ?_; rotate_left; (intro _w; go_simp; try with_reducible rfl); simp only [Act.put, List.setIfInBounds_toArray, List.set_cons_zero, List.set_cons_succ])
        (refine wpD_plain 1 (v := ?_) rfl (by kernel_rfl) (by kernel_rfl) (by kernel_rfl) (fun _ _ _ h => h) (by rfl) ?_ (by assumption) ?_; rotate_left; (intro _w; go_simp; try with_reducible rfl); simp only [Act.put, List.setIfInBounds_toArray, List.set_cons_zero, List.set_cons_succ])
        (refine wpD_take 2 _ rfl (by kernel_rfl) (by kernel_rfl) (by kernel_rfl) (fun _ _ _ h => h) List.mem_cons_self (by rfl) (v := ?_) ?_ (by assumption) ?_; rotate_left; (intro _w _hw; go_simp; try with_reducible rfl); simp only [Act.put, List.setIfInBounds_toArray, List.set_cons_zero, List.set_cons_succ])
        (refine wpD_plain 3 (v := ?_) rfl (by kernel_rfl) (by kernel_rfl) (by kernel_rfl) (fun _ _ _ h => h) (by rfl) ?_ (by assumption) ?_; rotate_left; (intro _w; go_simp; try with_reducible rfl); simp only [Act.put, List.setIfInBounds_toArray, List.set_cons_zero, List.set_cons_succ])
        (refine wpD_plain 4 (v := (.int .i64 (Y : Int))) rfl (by kernel_rfl) (by kernel_rfl) (by kernel_rfl) (fun _ _ _ h => h) (by rfl) ?_ (by assumption) ?_; (intro _w; go_simp; (have := HY.out; rw [Int.tmod_eq_emod_of_nonneg (by omega)]; omega)); simp only [Act.put, List.setIfInBounds_toArray, List.set_cons_zero, List.set_cons_succ])
        (refine wpD_plain 5 (v := ?_) rfl (by kernel_rfl) (by kernel_rfl) (by kernel_rfl) (fun _ _ _ h => h) (by rfl) ?_ (by assumption) ?_; rotate_left; (intro _w; go_simp; try with_reducible rfl); simp only [Act.put, List.setIfInBounds_toArray, List.set_cons_zero, List.set_cons_succ])
        (refine wpD_take 6 _ rfl (by kernel_rfl) (by kernel_rfl) (by kernel_rfl) (fun _ _ _ h => h) (List.mem_cons_of_mem _ List.mem_cons_self) (by rfl) (v := ?_) ?_ (by assumption) ?_; rotate_left; (intro _w _hw; go_simp; try with_reducible rfl); simp only [Act.put, List.setIfInBounds_toArray, List.set_cons_zero, List.set_cons_succ])
        (refine wpD_plain 7 (v := ?_) rfl (by kernel_rfl) (by kernel_rfl) (by kernel_rfl) (fun _ _ _ h => h) (by rfl) ?_ (by assumption) ?_; rotate_left; (intro _w; go_simp; try with_reducible rfl); simp only [Act.put, List.setIfInBounds_toArray, List.set_cons_zero, List.set_cons_succ])
        (refine wpD_plain 8 (v := ?_) rfl (by kernel_rfl) (by kernel_rfl) (by kernel_rfl) (fun _ _ _ h => h) (by rfl) ?_ (by assumption) ?_; rotate_left; (intro _w; go_simp; try with_reducible rfl); simp only [Act.put, List.setIfInBounds_toArray, List.set_cons_zero, List.set_cons_succ])
        refine wpD_only 9 [] rfl (by kernel_rfl) (by kernel_rfl) (by rfl) (fun K9 hK9 => ?_)
        refine wp_put _ _ _ rfl b1 n (fol f c n) rfl rfl _ _ 16 HR.out.1.drew hlt info1 ?_
        intro w5 HB5 HF5 HS5
        refine hK9 _ _ (Facts.nil_hold _) ?_
        clear hK9 K9
        simp only [Act.put, List.setIfInBounds_toArray, List.set_cons_zero, List.set_cons_succ]
        refine wpD_done (by kernel_rfl) ?_ _
        have HR' := hid (show Blk w5 b1 57 (b8 (upto (n + 1) (fol f c) f) 16) ∧ Blk w5 b2 57 (b8 (fun _ => 0) 16) ∧ Blk w5 b3 84 (b8 (tS (t0 f c) f n) 4) ∧ Fr No w w5 by
          rw [← upto_set]
          exact ⟨HB5.out, HR.out.2.1.drew.fr HF5.out (fun e => HN.out.2.2 e.symm), HR.out.2.2.1.drew.fr HF5.out (fun e => HN.out.1 e.symm), HR.out.2.2.2.drew.trans HF5.out fun i e => .inr (by have := HW.out; have : i = b1 := e; omega)⟩)
        clear HR HB5 HF5 HS5 hold c1 c2 hx hYi
        have c1 := blk_at HR'.out.1 hlt
        have e1 : upto (n + 1) (fol f c) f n = fol f c n := by unfold upto; rw [if_pos (by omega)]
        rw [e1] at c1
        clear e1
        have hi4 : ((n : Int) % 4) < 4 := by omega
        go_wp2_with (first
          | ((with_reducible show wpList _ _ _ (⟨_, .store 5 _ _, _, _, _, _⟩ :: _) _ _); refine wpL_put rfl _ _ _ rfl b3 (n % 4) (fol f c n) rfl rfl _ _ 4 HR'.out.2.2.1 (Nat.mod_lt _ (by decide)) info1 ?_; intro w6 HB6 HF6 HS6)
          | fail)
        have HR2 := hid (show Blk w6 b1 57 (b8 (upto (n + 1) (fol f c) f) 16) ∧ Blk w6 b2 57 (b8 (fun _ => 0) 16) ∧ Blk w6 b3 84 (b8 (tS (t0 f c) f (n + 1)) 4) ∧ Fr No w w6 from
          ⟨HR'.out.1.fr HF6.out HN.out.1, HR'.out.2.1.fr HF6.out HN.out.2.1, HB6.out, HR'.out.2.2.2.trans HF6.out fun i e => .inr (by have := HW3.out; have : i = b3 := e; omega)⟩)
        clear HR' HB6 HF6 HS6 c1
        go_wp2_with fail
        go_roundw
        case rel => exact ⟨n + 1, by omega, by go_num, HR2⟩
        case measure => simp [intOf]; omega
      · obtain rfl : n = 16 := by omega
        go_wp2_with (first
          | ((with_reducible show wpList _ _ _ (⟨_, .load 57 _, _, _, _, _⟩ :: _) _ _); refine wpL_all rfl _ _ rfl b1 rfl _ (upto 16 (fol f c) f) 16 _ HR.out.1 rfl rfl info16 ?_)
          | ((with_reducible show wpList _ _ _ (⟨_, .store 57 _ _, _, _, _, _⟩ :: _) _ _); refine wpL_whole rfl _ _ _ rfl b2 (upto 16 (fol f c) f) 16 rfl rfl _ _ HR.out.2.1 info16 ?_; intro w5 HB5 HF5 HS5)
          | fail)
        have hB5 := HB5.out
        rw [upto_all] at hB5
        refine ret_cell rfl _ rfl hB5 rfl rfl (by simpa using info16) rfl ?_
        exact ⟨rfl, HR.out.2.2.2.trans HF5.out fun i e => .inr (by have := HW.out; have : i = b2 := e; omega)⟩
end Go.Proofs.Ytakmeipmngeilaa.AE

set_option linter.unusedVariables false
set_option linter.unusedSimpArgs false
namespace Go.Proofs.Ytakmeipmngeilaa.AE
set_option maxRecDepth 100000
open Go.RowKit K

theorem zero176 (w : World) : (zeroValue 82).run Try.prog w = .ok (bk (fun _ => 0) 176) w := by kernel_rfl
theorem info176 : (Try.prog.info? 82).map (·.size) = some 176 := by kernel_rfl
/-- The first n round keys. -/
def kb (k : Nat → Nat) (n : Nat) : Nat → Nat := upto (16 * n) (fl (keys k)) fun _ => 0
theorem kb_zero (k : Nat → Nat) : kb k 0 = fun _ => 0 := upto_zero _ _
theorem kb_step (k : Nat → Nat) (n : Nat) (o : Nat) (ho : o = n * 16) : ∀ i, i < 176 → over (kb k n) o 16 (keys k n) i = kb k (n + 1) i := by
  intro i _
  subst ho
  unfold over kb upto fl
  by_cases h1 : n * 16 ≤ i ∧ i < n * 16 + 16
  · rw [if_pos h1, if_pos (by omega), show i / 16 = n by omega, show i % 16 = i - n * 16 by omega]
  · rw [if_neg h1]
    by_cases h2 : i < 16 * n
    · rw [if_pos h2, if_pos (by omega)]
    · rw [if_neg h2, if_neg (by omega)]
theorem kb_at (k : Nat → Nat) {n r : Nat} (hr : r < n) : ∀ i, i < 16 → kb k n (r * 16 + i) = keys k r i := by
  intro i hi
  unfold kb upto fl
  rw [if_pos (by omega), show (r * 16 + i) / 16 = r by omega, show (r * 16 + i) % 16 = i by omega]
theorem kb_all (k : Nat → Nat) : b8 (kb k 11) 176 = b8 (fl (keys k)) 176 := upto_all _ _ 176
theorem fl_at (k : Nat → Nat → Nat) (r : Nat) : ∀ i, i < 16 → fl k (r * 16 + i) = k r i := by
  intro i hi
  unfold fl
  rw [show (r * 16 + i) / 16 = r by omega, show (r * 16 + i) % 16 = i by omega]

theorem exp_any (k : Nat → Nat) (w : World) (hk : By k) : Calls Try.prog 73 #[bk k 16] w fun e w' =>
    e = .returned (bk (fl (keys k)) 176) ∧ Fr No w w' := by
  have HK := hid hk; clear hk
  go_enter Try.func73, Try.ntmps73
  go_wp2_with (first
    | ((with_reducible show wpList _ _ _ (⟨_, .box 57 _, _, _, _, _⟩ :: _) _ _); refine wpL_box rfl _ _ rfl (bk k 16) rfl (b8 k 16) rfl ?_; intro w1 HB1 HF1 HS1)
    | ((with_reducible show wpList _ _ _ (⟨_, .alloc 82, _, _, _, _⟩ :: _) _ _); have := HB2; refine wpL_alloc rfl _ rfl _ zero176 (b8 (fun _ => 0) 176) rfl ?_; intro w3 HB3 HF3 HS3)
    | ((with_reducible show wpList _ _ _ (⟨_, .alloc 82, _, _, _, _⟩ :: _) _ _); refine wpL_alloc rfl _ rfl _ zero176 (b8 (fun _ => 0) 176) rfl ?_; intro w2 HB2 HF2 HS2)
    | ((with_reducible show wpList _ _ _ (⟨_, .load 57 _, _, _, _, _⟩ :: _) _ _); refine wpL_all rfl _ _ rfl w.heap.size rfl _ k 16 _ ((HB1.out.fr HF2.out id).fr HF3.out id) rfl rfl info16 ?_)
    | ((with_reducible show wpList _ _ _ (⟨_, .store 57 _ _, _, _, _, _⟩ :: _) _ _); refine wpL_rowG rfl _ _ _ rfl w2.heap.size 0 k 16 rfl rfl _ _ (kb k 1) 176 HB3.out (by decide) (by have := kb_step k 0 0 rfl; rw [kb_zero] at this; exact this) info16 ?_; intro w4 HB4 HF4 HS4))
  have hB2 := (HB2.out.fr HF3.out id).fr HF4.out (fun e => by have := HS2.out; have : w1.heap.size = w2.heap.size := e; omega)
  have hB3 := HB4.out
  have hf3 := ((HF1.out.trans' HF2.out).trans' HF3.out).trans HF4.out fun i e => .inr (by have := HS1.out; have := HS2.out; have : i = w2.heap.size := e; omega)
  obtain ⟨b2, hb2⟩ : ∃ b, w1.heap.size = b := ⟨_, rfl⟩
  obtain ⟨b3, hb3⟩ : ∃ b, w2.heap.size = b := ⟨_, rfl⟩
  obtain ⟨b1, hb1⟩ : ∃ b, w.heap.size = b := ⟨_, rfl⟩
  have hs1 := HS1.out; have hs2 := HS2.out
  rw [hb2] at hs1; rw [hb2, hb3] at hs2
  rw [hb2] at hB2; rw [hb3] at hB3
  rw [hb2, hb3, hb1]
  have HW := hid (show w.heap.size ≤ b2 ∧ w.heap.size ≤ b3 by omega); have HN := hid (show b2 ≠ b3 by omega)
  have HR := hid (show Blk w4 b2 82 (b8 (fun _ => 0) 176) ∧ Blk w4 b3 82 (b8 (kb k (0 + 1)) 176) ∧ Fr No w w4 from ⟨hB2, hB3, hf3⟩)
  clear HB1 HB2 HB3 HB4 HF1 HF2 HF3 HF4 HS1 HS2 HS3 HS4 this hB2 hB3 hf3 hb1 hb2 hb3 hs1 hs2
  go_loopw [4, 5, 8] (fun c _ i wr => ∃ n : Nat, n ≤ 10 ∧ i = .int .i64 n ∧ c = .int .u8 (con n : Nat) ∧ Hid (Blk wr b2 82 (b8 (fun _ => 0) 176) ∧ Blk wr b3 82 (b8 (kb k (n + 1)) 176) ∧ Fr No w wr)) (fun _ _ i _ => 10 - (intOf i).toNat)
  case atStart => exact ⟨0, by omega, rfl, rfl, HR⟩
  case round =>
    clear HR
    obtain ⟨n, hn, rfl, rfl, HR⟩ := hrel
    by_cases hlt : n < 10
    · go_wp2_with (first
        | ((with_reducible show wpList _ _ _ (⟨_, .load 57 _, _, _, _, _⟩ :: _) _ _); refine wpL_partG rfl _ _ rfl b3 (n * 16) 16 rfl _ (kb k (n + 1)) (keys k n) 176 _ HR.out.2.1 (by omega) (kb_at k (by omega)) rfl rfl info16 ?_)
        | fail)
      refine (fol_any (keys k n) (con n) _ (keys_by HK.out n) (con_lt n)).mono ?_
      rintro e w5 ⟨rfl, hf5⟩
      have hr := HR.out
      have HR5 := hid (show Blk w5 b2 82 (b8 (fun _ => 0) 176) ∧ Blk w5 b3 82 (b8 (kb k (n + 1)) 176) ∧ Fr No w w5 from ⟨hr.1.fr hf5 id, hr.2.1.fr hf5 id, hr.2.2.trans' hf5⟩)
      clear HR hr hf5
      go_wp2_with (first
        | ((with_reducible show wpList _ _ _ (⟨_, .store 57 _ _, _, _, _, _⟩ :: _) _ _); refine wpL_rowG rfl _ _ _ rfl b3 ((n + 1) * 16) (keys k (n + 1)) 16 rfl rfl _ _ (kb k (n + 1 + 1)) 176 HR5.out.2.1 (by omega) (kb_step k (n + 1) _ rfl) info16 ?_; intro w6 HB6 HF6 HS6)
        | fail)
      refine (times_any (con n) 2 _ (con_lt n) (by decide)).mono ?_
      rintro e w' ⟨rfl, rfl⟩
      have HR' := hid (show Blk w6 b2 82 (b8 (fun _ => 0) 176) ∧ Blk w6 b3 82 (b8 (kb k (n + 1 + 1)) 176) ∧ Fr No w w6 from
        ⟨HR5.out.1.fr HF6.out HN.out, HB6.out, HR5.out.2.2.trans HF6.out fun i e => .inr (by have := HW.out; have : i = b3 := e; omega)⟩)
      clear HR5 HB6 HF6 HS6
      go_wp2_with fail
      go_roundw
      case rel => exact ⟨n + 1, by omega, by go_num, rfl, HR'⟩
      case measure => simp [intOf]; omega
    · obtain rfl : n = 10 := by omega
      go_wp2_with (first
        | ((with_reducible show wpList _ _ _ (⟨_, .load 82 _, _, _, _, _⟩ :: _) _ _); refine wpL_all rfl _ _ rfl b3 rfl _ (kb k 11) 176 _ HR.out.2.1 rfl rfl info176 ?_)
        | ((with_reducible show wpList _ _ _ (⟨_, .store 82 _ _, _, _, _, _⟩ :: _) _ _); refine wpL_whole rfl _ _ _ rfl b2 (kb k 11) 176 rfl rfl _ _ HR.out.1 info176 ?_; intro w5 HB5 HF5 HS5)
        | fail)
      have hB5 := HB5.out
      rw [kb_all] at hB5
      refine ret_cell rfl _ rfl hB5 rfl rfl (by simpa using info176) rfl ?_
      exact ⟨rfl, HR.out.2.2.trans HF5.out fun i e => .inr (by have := HW.out; have : i = b2 := e; omega)⟩
end Go.Proofs.Ytakmeipmngeilaa.AE
