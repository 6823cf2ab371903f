/-
  The chapter's examples: the law's awake.
-/
import Derived.Test.YthnahoodgkeaiaaBeL
import Derived.Test.YthnahoodgkeaiaaBeE
import Derived.Test.YthnahoodgkeaiaaBeA
import Derived.Test.YthnahoodgkeaiaaBf8
set_option linter.unusedVariables false
set_option linter.unusedSimpArgs false
namespace Go.Proofs.Ythnahoodgkeaiaa.BE
set_option maxRecDepth 100000
open Go.RowKit K

def exN : Nd := .mk 48 [] [.mk 2 [5] [], .mk 4 [97, 98] []]
theorem ex_err : errN exN = 0 := by decide +kernel
theorem ex_enc : encS exN = [48, 7, 2, 1, 5, 4, 2, 97, 98] := by decide +kernel
theorem ex_dec : decN [48, 7, 2, 1, 5, 4, 2, 97, 98, 120] = (exN, 9, 0) := by kernel_rfl
theorem ex_short : (decN [48, 3, 2, 1]).2 = (0, 92) := by kernel_rfl
theorem ex_ber : (decN [48, 3, 2, 2, 5]).2 = (0, 90) := by kernel_rfl
theorem ex_int : intG 7 128 = [0, 128] := by kernel_rfl
theorem ex_num : numS [0, 128] = (128, true) := by kernel_rfl
def exCells : List Value := [.int .i64 2, .string (sb [5]), .slice none 0 0, .int .i64 4, .string (sb [97, 98]), .slice none 0 0]
theorem build2n (w : World) : (Instr.buildSlice 22 2 #[(0, .agg #[.int .i64 2, .string (sb [5]), .slice none 0 0]), (1, .agg #[.int .i64 4, .string (sb [97, 98]), .slice none 0 0])]).run Try.prog w = .ok (.slice (some ⟨w.heap.size, 0, none⟩) 2 2) (w.alloc (.cells exCells.toArray 24)) := by kernel_rfl
theorem ex_nd {w : World} {g N : Nat} (hB : Blk w g 24 exCells) (hg : g < N) : NdAt 2 (Lo N) w exN [.int .i64 48, .string ⟨#[]⟩, .slice (some ⟨g, 0, none⟩) 2 2] := by
  refine ⟨some ⟨g, 0, none⟩, 2, rfl, by decide, by simp [exN, Nd.body], by simp [exN, Nd.kids], .inr ⟨g, 0, [[.int .i64 2, .string (sb [5]), .slice none 0 0], [.int .i64 4, .string (sb [97, 98]), .slice none 0 0]], rfl, hg, hB.lt, hB.range 0 _ rfl, rfl, ?_⟩⟩
  intro j x c hx hc
  match j, hx, hc with
  | 0, hx, hc =>
    cases hx; cases hc
    exact ⟨none, 0, rfl, by decide, by simp [Nd.body], Nat.zero_le _, .inl rfl⟩
  | 1, hx, hc =>
    cases hx; cases hc
    exact ⟨none, 0, rfl, by decide, by simp [Nd.body], Nat.zero_le _, .inl rfl⟩
  | j + 2, hx, hc => simp at hc
set_option maxHeartbeats 16000000 in
theorem awake_any (w : World) : Calls Try.prog 10 #[] w fun e w' => e = .returned (.bool true) ∧ Fr No w w' := by
  go_enter Try.func10, Try.ntmps10
  go_wp2_with (first
    | ((with_reducible show wpList _ _ _ (⟨_, .buildSlice 22 _ _, _, _, _, _⟩ :: _) _ _); refine wpL_buildSlice rfl _ 24 2 [(0, .tmp 17), (1, .tmp 18)] rfl exCells (build2n _) ?_; intro w0 HB0 F0 HS0)
    | ((with_reducible show wpList _ _ _ (⟨_, .alloc 24, _, _, _, _⟩ :: _) _ _); (fail_if_success (have := HS1)); refine wpL_alloc rfl _ rfl _ zeroN zN rfl ?_; intro w1 HB1 F1 HS1)
    | ((with_reducible show wpList _ _ _ (⟨_, .store 24 _ _, _, _, _, _⟩ :: _) _ _); refine wpL_storeV rfl _ _ _ rfl w0.heap.size 0 (.agg #[.int .i64 48, .string ⟨#[]⟩, .slice (some ⟨w.heap.size, 0, none⟩) 2 2]) [.int .i64 48, .string ⟨#[]⟩, .slice (some ⟨w.heap.size, 0, none⟩) 2 2] rfl rfl rfl _ _ HB1.out (by simp [zN]) infoN (by intro u hu; simp at hu; rcases hu with rfl | rfl | rfl <;> rfl) ?_; intro w2 HB2 F2 HS2;
        have HBn : Hid (Blk w2 w0.heap.size 24 [.int .i64 48, .string ⟨#[]⟩, .slice (some ⟨w.heap.size, 0, none⟩) 2 2]) := hid (by have h := HB2.out; rwa [spl_all (by simp [zN])] at h);
        have F02 : Hid (Fr No w0 w2) := hid (F1.out.trans F2.out (fun i e => .inr (by have e : i = w0.heap.size := e; omega)));
        have HBk : Hid (Blk w2 w.heap.size 24 exCells) := hid (HB0.out.fr F02.out id); have HFW2 : Hid (Fr No w w2) := hid (F0.out.trans' F02.out))
    | ((with_reducible show wpList _ _ _ (⟨_, .load 24 _, _, _, _, _⟩ :: _) _ _); refine wpL_load rfl _ _ rfl w0.heap.size 0 rfl [.int .i64 48, .string ⟨#[]⟩, .slice (some ⟨w.heap.size, 0, none⟩) 2 2] _ (HBn.out.range 0 _ rfl) rfl rfl infoN ?_)
    | fail)
  have HW0 := hid (show w.heap.size < w2.heap.size by have := HBk.out.lt; exact this)
  refine (encode_any 2 w2.heap.size exN [.int .i64 48, .string ⟨#[]⟩, .slice (some ⟨w.heap.size, 0, none⟩) 2 2] w2 (ex_nd HBk.out HW0.out) (Nat.le_refl _)).mono ?_
  rintro e w3 ⟨rfl, f3⟩
  rw [ex_err, ex_enc]
  have F3 := hid f3
  clear f3
  go_wp2_with (first
    | ((with_reducible show wpList _ _ _ (⟨_, .binOp .add 9 _ _ _, _, _, _, _⟩ :: _) _ _); refine wpL_valZ rfl (.string (sb [48, 7, 2, 1, 5, 4, 2, 97, 98, 120])) (exec_addS _ _ _ rfl [48, 7, 2, 1, 5, 4, 2, 97, 98] [120] rfl rfl (by decide) _ rfl _) ?_)
    | fail)
  refine (decode_any [48, 7, 2, 1, 5, 4, 2, 97, 98, 120] w3 (by decide)).mono ?_
  rintro e w4 ⟨f4, cs, rfl, hn⟩
  rw [ex_dec] at hn ⊢
  obtain ⟨x, y, z, hcs⟩ := box_kid cs hn.len
  subst hcs
  have F4 := hid f4; have HN4 := hid hn
  have HE4 : Hid ((exN, 9, 0).2.1 = 9) := hid rfl
  have BN4 : Hid (Blk w4 w0.heap.size 24 [.int .i64 48, .string ⟨#[]⟩, .slice (some ⟨w.heap.size, 0, none⟩) 2 2]) := hid ((HBn.out.fr F3.out id).fr f4 id)
  clear f4 hn
  show (match Ending.returned (Value.tuple #[.agg #[x, y, z], .int .i64 9, .int .i64 0]), w4 with | _, _ => _)
  go_wp2_with (first
    | ((with_reducible show wpList _ _ _ (⟨_, .alloc 24, _, _, _, _⟩ :: _) _ _); (fail_if_success (have := HA4)); refine wpL_alloc rfl _ rfl _ zeroN zN rfl ?_; intro a4 HA4 FA4 SA4)
    | ((with_reducible show wpList _ _ _ (⟨_, .store 24 _ _, _, _, _, _⟩ :: _) _ _); (have := HA4); refine wpL_storeV rfl _ _ _ rfl w4.heap.size 0 (.agg #[x, y, z]) [x, y, z] rfl rfl rfl _ _ HA4.out (by simp [zN]) infoN (by intro u hu; exact HN4.out.one u hu) ?_; intro b4 HB4 FB4 SB4;
        have BX4 : Hid (Blk b4 w4.heap.size 24 [x, y, z]) := hid (by have h := HB4.out; rwa [spl_all (by simp [zN])] at h);
        have GF4 : Hid (Fr No w4 b4) := hid (FA4.out.trans FB4.out (fun i e => .inr (by have e : i = w4.heap.size := e; omega))); have BN5 : Hid (Blk b4 w0.heap.size 24 [.int .i64 48, .string ⟨#[]⟩, .slice (some ⟨w.heap.size, 0, none⟩) 2 2]) := hid (BN4.out.fr GF4.out id))
    | ((with_reducible show wpList _ _ _ (⟨_, .load 24 _, _, _, _, _⟩ :: _) _ _); refine wpL_load rfl _ _ rfl w0.heap.size 0 rfl [.int .i64 48, .string ⟨#[]⟩, .slice (some ⟨w.heap.size, 0, none⟩) 2 2] _ (BN5.out.range 0 _ rfl) rfl rfl infoN ?_)
    | ((with_reducible show wpList _ _ _ (⟨_, .load 24 _, _, _, _, _⟩ :: _) _ _); refine wpL_load rfl _ _ rfl w4.heap.size 0 rfl [x, y, z] _ (BX4.out.range 0 _ rfl) rfl rfl infoN ?_)
    | fail)
  have F2b : Hid (Fr No w2 b4) := hid ((F3.out.trans' F4.out).trans' GF4.out)
  refine (same_any 2 8 b4.heap.size exN [.int .i64 48, .string ⟨#[]⟩, .slice (some ⟨w.heap.size, 0, none⟩) 2 2] [x, y, z] b4 (ex_nd (HBk.out.fr F2b.out id) (by have := F2b.out.size; have := HW0.out; omega)) (NdAt.mono (fun k hk _ => hk) (HN4.out.no GF4.out)) (Nat.le_refl _)).mono ?_
  rintro e w5 ⟨rfl, f5⟩
  have F5 : Hid (Fr No w w5) := hid ((HFW2.out.trans' F2b.out).trans' f5)
  clear f5
  go_wp2_with fail
  refine (decode_any [48, 3, 2, 1] w5 (by decide)).mono ?_
  rintro e w6 ⟨f6, cs, rfl, hn⟩
  rw [show (decN [48, 3, 2, 1]).2.1 = 0 from congrArg Prod.fst ex_short, show (decN [48, 3, 2, 1]).2.2 = 92 from congrArg Prod.snd ex_short]
  obtain ⟨x6, y6, z6, hcs⟩ := box_kid cs hn.len
  subst hcs
  have F6 := hid (F5.out.trans' f6); have HN6 := hid hn
  clear f6 hn
  show (match Ending.returned (Value.tuple #[.agg #[x6, y6, z6], .int .i64 0, .int .i64 92]), w6 with | _, _ => _)
  go_wp2_with (first
    | ((with_reducible show wpList _ _ _ (⟨_, .alloc 24, _, _, _, _⟩ :: _) _ _); (fail_if_success (have := HA6)); refine wpL_alloc rfl _ rfl _ zeroN zN rfl ?_; intro a6 HA6 FA6 SA6)
    | ((with_reducible show wpList _ _ _ (⟨_, .store 24 _ _, _, _, _, _⟩ :: _) _ _); (have := HA6); refine wpL_storeV rfl _ _ _ rfl w6.heap.size 0 (.agg #[x6, y6, z6]) [x6, y6, z6] rfl rfl rfl _ _ HA6.out (by simp [zN]) infoN (by intro u hu; exact HN6.out.one u hu) ?_; intro b6 HB6 FB6 SB6;
        have BX6 : Hid (Blk b6 w6.heap.size 24 [x6, y6, z6]) := hid (by have h := HB6.out; rwa [spl_all (by simp [zN])] at h);
        have GF6 : Hid (Fr No w6 b6) := hid (FA6.out.trans FB6.out (fun i e => .inr (by have e : i = w6.heap.size := e; omega))); have F7 : Hid (Fr No w b6) := hid (F6.out.trans' GF6.out))
    | fail)
  refine (decode_any [48, 3, 2, 2, 5] b6 (by decide)).mono ?_
  rintro e w8 ⟨f8, cs, rfl, hn⟩
  rw [show (decN [48, 3, 2, 2, 5]).2.1 = 0 from congrArg Prod.fst ex_ber, show (decN [48, 3, 2, 2, 5]).2.2 = 90 from congrArg Prod.snd ex_ber]
  obtain ⟨x8, y8, z8, hcs⟩ := box_kid cs hn.len
  subst hcs
  have F8 := hid (F7.out.trans' f8); have HN8 := hid hn
  clear f8 hn
  show (match Ending.returned (Value.tuple #[.agg #[x8, y8, z8], .int .i64 0, .int .i64 90]), w8 with | _, _ => _)
  go_wp2_with (first
    | ((with_reducible show wpList _ _ _ (⟨_, .alloc 24, _, _, _, _⟩ :: _) _ _); (fail_if_success (have := HA8)); refine wpL_alloc rfl _ rfl _ zeroN zN rfl ?_; intro a8 HA8 FA8 SA8)
    | ((with_reducible show wpList _ _ _ (⟨_, .store 24 _ _, _, _, _, _⟩ :: _) _ _); (have := HA8); refine wpL_storeV rfl _ _ _ rfl w8.heap.size 0 (.agg #[x8, y8, z8]) [x8, y8, z8] rfl rfl rfl _ _ HA8.out (by simp [zN]) infoN (by intro u hu; exact HN8.out.one u hu) ?_; intro b8 HB8 FB8 SB8;
        have BX8 : Hid (Blk b8 w8.heap.size 24 [x8, y8, z8]) := hid (by have h := HB8.out; rwa [spl_all (by simp [zN])] at h);
        have GF8 : Hid (Fr No w8 b8) := hid (FA8.out.trans FB8.out (fun i e => .inr (by have e : i = w8.heap.size := e; omega))); have F9 : Hid (Fr No w b8) := hid (F8.out.trans' GF8.out))
    | fail)
  refine (int_any 7 128 b8 (Nat.le_refl _) (by decide) (by decide) (by decide)).mono ?_
  rintro e w10 ⟨rfl, f10⟩
  rw [ex_int]
  have F10 := hid (F9.out.trans' f10)
  clear f10
  go_wp2_with fail
  refine (number_any [0, 128] w10 (by decide)).mono ?_
  rintro e w11 ⟨rfl, f11⟩
  rw [ex_num]
  have F11 := hid (F10.out.trans' f11)
  clear f11
  go_wp2_with (first
    | ((with_reducible show wpList _ _ _ (⟨_, .binOp .eql 9 _ _ _, _, _, _, _⟩ :: _) _ _); refine wpL_valZ (by rfl) (.bool true) ((exec_eqS _ _ _ rfl [48, 7, 2, 1, 5, 4, 2, 97, 98] [48, 7, 2, 1, 5, 4, 2, 97, 98] rfl rfl _).trans (by simp)) ?_)
    | ((with_reducible show wpList _ _ _ (⟨_, .binOp .eql 9 _ _ _, _, _, _, _⟩ :: _) _ _); refine wpL_valZ (by rfl) (.bool true) ((exec_eqS _ _ _ rfl [0, 128] [0, 128] rfl rfl _).trans (by simp)) ?_)
    | fail)
  go_ret
  exact ⟨rfl, F11.out⟩
end Go.Proofs.Ythnahoodgkeaiaa.BE
