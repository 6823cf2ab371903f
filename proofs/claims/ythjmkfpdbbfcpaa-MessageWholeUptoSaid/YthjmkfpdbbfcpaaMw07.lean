/-
  Part 7 of the proof: MpL.
-/
import Derived.Test.YthjmkfpdbbfcpaaMw05
set_option linter.unusedSimpArgs false
set_option linter.unusedVariables false
namespace Go.Proofs.Ythjmkfpdbbfcpaa.ME
set_option maxRecDepth 100000
open Go.RowKit K Go.Proofs.Ythjmkfpdbbfcpaa.BE Go.Proofs.Ythjmkfpdbbfcpaa.FR

theorem wleaf_any (t : Int) (S : ByteArray) (w : World) : Calls Try.prog 45 #[.int .i64 t, .string S] w fun e w' => e = .returned (.agg #[.int .i64 t, .string S, .slice none 0 0]) ∧ Fr No w w' := by
  go_enter Try.func45, Try.ntmps45
  go_wp2_with (first
    | ((with_reducible refine K.atO (.alloc 44) ?_); refine wpL_alloc rfl _ rfl _ zeroN [.int .i64 0, .string ⟨#[]⟩, .slice none 0 0] rfl ?_; intro w1 HB1 F1 HS1)
    | ((with_reducible refine K.atO (.store 44 _ _) ?_); refine wpL_storeV rfl _ _ _ rfl w.heap.size 0 (.agg #[.int .i64 t, .string S, .slice none 0 0]) [.int .i64 t, .string S, .slice none 0 0] rfl rfl rfl _ _ HB1.out (by simp) infoN (by intro u hu; simp at hu; rcases hu with rfl | rfl | rfl <;> rfl) ?_; intro w2 HB2 F2 HS2)
    | fail)
  refine ret_cell rfl _ rfl HB2.out rfl rfl infoN rfl ?_
  exact ⟨rfl, F1.out.trans F2.out fun i e => .inr (by have e : i = w.heap.size := e; omega)⟩
theorem wof_any (t : Int) (a : Option Addr) (n c : Nat) (w : World) : Calls Try.prog 23 #[.int .i64 t, .slice a n c] w fun e w' => e = .returned (.agg #[.int .i64 t, .string ⟨#[]⟩, .slice a n c]) ∧ Fr No w w' := by
  go_enter Try.func23, Try.ntmps23
  go_wp2_with (first
    | ((with_reducible refine K.atO (.alloc 44) ?_); refine wpL_alloc rfl _ rfl _ zeroN [.int .i64 0, .string ⟨#[]⟩, .slice none 0 0] rfl ?_; intro w1 HB1 F1 HS1)
    | ((with_reducible refine K.atO (.store 44 _ _) ?_); refine wpL_storeV rfl _ _ _ rfl w.heap.size 0 (.agg #[.int .i64 t, .string ⟨#[]⟩, .slice a n c]) [.int .i64 t, .string ⟨#[]⟩, .slice a n c] rfl rfl rfl _ _ HB1.out (by simp) infoN (by intro u hu; simp at hu; rcases hu with rfl | rfl | rfl <;> rfl) ?_; intro w2 HB2 F2 HS2)
    | fail)
  refine ret_cell rfl _ rfl HB2.out rfl rfl infoN rfl ?_
  exact ⟨rfl, F1.out.trans F2.out fun i e => .inr (by have e : i = w.heap.size := e; omega)⟩
theorem wtext_any (S : ByteArray) (w : World) : Calls Try.prog 71 #[.string S] w fun e w' => e = .returned (.agg #[.int .i64 4, .string S, .slice none 0 0]) ∧ Fr No w w' := by
  go_enter Try.func71, Try.ntmps71
  go_wp2_with (first
    | ((with_reducible refine K.atO (.alloc 44) ?_); refine wpL_alloc rfl _ rfl _ zeroN [.int .i64 0, .string ⟨#[]⟩, .slice none 0 0] rfl ?_; intro w1 HB1 F1 HS1)
    | fail)
  refine (wleaf_any 4 S w1).mono ?_
  rintro e w2 ⟨rfl, f2⟩
  have HB2 := hid (HB1.out.fr f2 id)
  have HF2 := hid (F1.out.trans' f2)
  clear f2
  go_wp2_with (first
    | ((with_reducible refine K.atO (.store 44 _ _) ?_); refine wpL_storeV rfl _ _ _ rfl w.heap.size 0 (.agg #[.int .i64 4, .string S, .slice none 0 0]) [.int .i64 4, .string S, .slice none 0 0] rfl rfl rfl _ _ HB2.out (by simp) infoN (by intro u hu; simp at hu; rcases hu with rfl | rfl | rfl <;> rfl) ?_; intro w3 HB3 F3 HS3)
    | fail)
  refine ret_cell rfl _ rfl HB3.out rfl rfl infoN rfl ?_
  exact ⟨rfl, HF2.out.trans F3.out fun i e => .inr (by have e : i = w.heap.size := e; omega)⟩
theorem wnumber_any (n : Int) (w : World) (hn : I64 n) : Calls Try.prog 24 #[.int .i64 n] w fun e w' => e = .returned (.agg #[.int .i64 2, .string (sb (intS n)), .slice none 0 0]) ∧ Fr No w w' := by
  have HNN := hid hn
  clear hn
  go_enter Try.func24, Try.ntmps24
  go_wp2_with (first
    | ((with_reducible refine K.atO (.alloc 44) ?_); refine wpL_alloc rfl _ rfl _ zeroN [.int .i64 0, .string ⟨#[]⟩, .slice none 0 0] rfl ?_; intro w1 HB1 F1 HS1)
    | fail)
  refine (int_any 7 n w1 (Nat.le_refl _) (by have h := HNN.out.1; omega) (by have h := HNN.out.2; omega) HNN.out).mono ?_
  rintro e w2 ⟨rfl, f2⟩
  have HB2 := hid (HB1.out.fr f2 id)
  have HF2 := hid (F1.out.trans' f2)
  obtain ⟨S, hS⟩ : ∃ S, sb (intS n) = S := ⟨_, rfl⟩
  have hS' : sb (intG 7 n) = S := hS
  rw [hS']
  have HSS := hid hS
  clear f2 hS hS'
  go_wp2_with fail
  refine (wleaf_any 2 S w2).mono ?_
  rintro e w3 ⟨rfl, f3⟩
  have HB3 := hid (HB2.out.fr f3 id)
  have HF3 := hid (HF2.out.trans' f3)
  clear f3
  go_wp2_with (first
    | ((with_reducible refine K.atO (.store 44 _ _) ?_); refine wpL_storeV rfl _ _ _ rfl w.heap.size 0 (.agg #[.int .i64 2, .string S, .slice none 0 0]) [.int .i64 2, .string S, .slice none 0 0] rfl rfl rfl _ _ HB3.out (by simp) infoN (by intro u hu; simp at hu; rcases hu with rfl | rfl | rfl <;> rfl) ?_; intro w4 HB4 F4 HS4)
    | fail)
  refine ret_cell rfl _ rfl HB4.out rfl rfl infoN rfl ?_
  exact ⟨by rw [HSS.out]; rfl, HF3.out.trans F4.out fun i e => .inr (by have e : i = w.heap.size := e; omega)⟩
theorem wchoice_any (n : Int) (w : World) (hn : I64 n) : Calls Try.prog 72 #[.int .i64 n] w fun e w' => e = .returned (.agg #[.int .i64 10, .string (sb (intS n)), .slice none 0 0]) ∧ Fr No w w' := by
  have HNN := hid hn
  clear hn
  go_enter Try.func72, Try.ntmps72
  go_wp2_with (first
    | ((with_reducible refine K.atO (.alloc 44) ?_); refine wpL_alloc rfl _ rfl _ zeroN [.int .i64 0, .string ⟨#[]⟩, .slice none 0 0] rfl ?_; intro w1 HB1 F1 HS1)
    | fail)
  refine (int_any 7 n w1 (Nat.le_refl _) (by have h := HNN.out.1; omega) (by have h := HNN.out.2; omega) HNN.out).mono ?_
  rintro e w2 ⟨rfl, f2⟩
  have HB2 := hid (HB1.out.fr f2 id)
  have HF2 := hid (F1.out.trans' f2)
  obtain ⟨S, hS⟩ : ∃ S, sb (intS n) = S := ⟨_, rfl⟩
  have hS' : sb (intG 7 n) = S := hS
  rw [hS']
  have HSS := hid hS
  clear f2 hS hS'
  go_wp2_with fail
  refine (wleaf_any 10 S w2).mono ?_
  rintro e w3 ⟨rfl, f3⟩
  have HB3 := hid (HB2.out.fr f3 id)
  have HF3 := hid (HF2.out.trans' f3)
  clear f3
  go_wp2_with (first
    | ((with_reducible refine K.atO (.store 44 _ _) ?_); refine wpL_storeV rfl _ _ _ rfl w.heap.size 0 (.agg #[.int .i64 10, .string S, .slice none 0 0]) [.int .i64 10, .string S, .slice none 0 0] rfl rfl rfl _ _ HB3.out (by simp) infoN (by intro u hu; simp at hu; rcases hu with rfl | rfl | rfl <;> rfl) ?_; intro w4 HB4 F4 HS4)
    | fail)
  refine ret_cell rfl _ rfl HB4.out rfl rfl infoN rfl ?_
  exact ⟨by rw [HSS.out]; rfl, HF3.out.trans F4.out fun i e => .inr (by have e : i = w.heap.size := e; omega)⟩
theorem wtruth_any (b : Bool) (w : World) : Calls Try.prog 73 #[.bool b] w fun e w' => e = .returned (.agg #[.int .i64 1, .string (sb (if b then [255] else [0])), .slice none 0 0]) ∧ Fr No w w' := by
  cases b with
  | true =>
    go_enter Try.func73, Try.ntmps73
    go_wp2_with (first
      | ((with_reducible refine K.atO (.alloc 44) ?_); refine wpL_alloc rfl _ rfl _ zeroN [.int .i64 0, .string ⟨#[]⟩, .slice none 0 0] rfl ?_; intro w1 HB1 F1 HS1)
      | fail)
    refine (wleaf_any 1 ⟨#[255]⟩ w1).mono ?_
    rintro e w2 ⟨rfl, f2⟩
    have HB2 := hid (HB1.out.fr f2 id)
    have HF2 := hid (F1.out.trans' f2)
    clear f2
    go_wp2_with (first
      | ((with_reducible refine K.atO (.store 44 _ _) ?_); refine wpL_storeV rfl _ _ _ rfl w.heap.size 0 (.agg #[.int .i64 1, .string ⟨#[255]⟩, .slice none 0 0]) [.int .i64 1, .string ⟨#[255]⟩, .slice none 0 0] rfl rfl rfl _ _ HB2.out (by simp) infoN (by intro u hu; simp at hu; rcases hu with rfl | rfl | rfl <;> rfl) ?_; intro w3 HB3 F3 HS3)
      | fail)
    refine ret_cell rfl _ rfl HB3.out rfl rfl infoN rfl ?_
    exact ⟨rfl, HF2.out.trans F3.out fun i e => .inr (by have e : i = w.heap.size := e; omega)⟩
  | false =>
    go_enter Try.func73, Try.ntmps73
    go_wp2_with (first
      | ((with_reducible refine K.atO (.alloc 44) ?_); refine wpL_alloc rfl _ rfl _ zeroN [.int .i64 0, .string ⟨#[]⟩, .slice none 0 0] rfl ?_; intro w1 HB1 F1 HS1)
      | fail)
    refine (wleaf_any 1 ⟨#[0]⟩ w1).mono ?_
    rintro e w2 ⟨rfl, f2⟩
    have HB2 := hid (HB1.out.fr f2 id)
    have HF2 := hid (F1.out.trans' f2)
    clear f2
    go_wp2_with (first
      | ((with_reducible refine K.atO (.store 44 _ _) ?_); refine wpL_storeV rfl _ _ _ rfl w.heap.size 0 (.agg #[.int .i64 1, .string ⟨#[0]⟩, .slice none 0 0]) [.int .i64 1, .string ⟨#[0]⟩, .slice none 0 0] rfl rfl rfl _ _ HB2.out (by simp) infoN (by intro u hu; simp at hu; rcases hu with rfl | rfl | rfl <;> rfl) ?_; intro w3 HB3 F3 HS3)
      | fail)
    refine ret_cell rfl _ rfl HB3.out rfl rfl infoN rfl ?_
    exact ⟨rfl, HF2.out.trans F3.out fun i e => .inr (by have e : i = w.heap.size := e; omega)⟩
set_option maxHeartbeats 8000000 in
theorem wtexts_any (tag : Int) (E : Nat → Prop) (v0 : Value) (X : List B) (w : World) (ht : I64 tag) (h0 : Tx E w v0 X) (hX : X.length ≤ 1048576) : Calls Try.prog 75 #[.int .i64 tag, v0, .func (.func 71) #[] #[]] w (Makes 2 (txsN tag X) w) := by
  obtain ⟨⟨a, n, c, rfl, hn, -, hA⟩, -, hsz⟩ := h0
  have HT := hid ht; have HNN := hid hn; have HA := hid hA; have HSZ := hid hsz; have HXL := hid hX
  have hni : (n : Int) ≤ 1048576 := by omega
  obtain ⟨ic, hic, hzc, hsc, hbc⟩ := Go.info_parts infozN
  have IC := hid hic; have ZC := hid hzc; have SC := hid hsc; have BC := hid hbc
  clear ht hn hA hsz hX hic hzc hsc hbc
  go_enter Try.func75, Try.ntmps75
  go_wp2_with (first
    | ((with_reducible refine K.atO (.alloc 44) ?_); (fail_if_success (have := HB1)); refine wpL_alloc rfl _ rfl _ zeroN [.int .i64 0, .string ⟨#[]⟩, .slice none 0 0] rfl ?_; intro w1 HB1 F1 HS1)
    | ((with_reducible refine K.atO (.alloc 44) ?_); refine wpL_alloc rfl _ rfl _ zeroN [.int .i64 0, .string ⟨#[]⟩, .slice none 0 0] rfl ?_; intro w2 HB2 F2 HS2)
    | ((with_reducible refine K.atO (.store 44 _ _) ?_); refine wpL_storeV rfl _ _ _ rfl w1.heap.size 0 (.agg #[.int .i64 tag, .string ⟨#[]⟩, .slice none 0 0]) [.int .i64 tag, .string ⟨#[]⟩, .slice none 0 0] rfl rfl rfl _ _ HB2.out (by simp) infoN (by intro u hu; simp at hu; rcases hu with rfl | rfl | rfl <;> rfl) ?_; intro w3 HB3 F3 HS3; refine Hid.out ?_)
    | fail)
  obtain ⟨br, hbr⟩ : ∃ x, w.heap.size = x := ⟨_, rfl⟩
  obtain ⟨bn, hbn⟩ : ∃ x, w1.heap.size = x := ⟨_, rfl⟩
  have HN : Hid (bn = br + 1 ∧ w3.heap.size = bn + 1 ∧ w.heap.size = br) := hid (by have := HS1.out; have := HS2.out; have := HS3.out; omega)
  have hf3 : Fr No w w3 := (F1.out.trans' F2.out).trans F3.out fun i e => .inr (by have e : i = w1.heap.size := e; have := HS1.out; omega)
  have HI0 : Hid (KS 1 (bn + 1) bn tag [] (.slice none 0 0) [] w3 ∧ Blk w3 br 44 [.int .i64 0, .string ⟨#[]⟩, .slice none 0 0] ∧ Fr No w w3) := hid (by
    refine ⟨⟨by rw [← hbn]; exact HB3.out, World.ownsRow_nil _ _ _ _, rfl, fun j x c hx => by simp at hx⟩, ?_, hf3⟩
    rw [← hbr]
    exact (HB1.out.fr F2.out id).fr F3.out (fun e => by have e : w.heap.size = w1.heap.size := e; have := HS1.out; omega))
  rw [hbr, hbn]
  clear HB1 F1 HS1 HB2 F2 HS2 HB3 F3 HS3 hbr hbn hf3
  refine hid ?_
  go_wp2_with fail
  go_loopw [14] (fun iv wr => ∃ (i : Nat) (v : Value) (L : List (List Value)), iv = .int .i64 i ∧ i ≤ n ∧ Hid (KS 1 (bn + 1) bn tag ((X.take i).map txN) v L wr ∧ Blk wr br 44 [.int .i64 0, .string ⟨#[]⟩, .slice none 0 0] ∧ Fr No w wr ∧ bn + 1 ≤ wr.heap.size)) (fun iv _ => n - (intOf iv).toNat)
  case atStart => exact ⟨0, _, _, rfl, Nat.zero_le _, hid ⟨HI0.out.1, HI0.out.2.1, HI0.out.2.2, by have := HN.out; omega⟩⟩
  case round =>
    clear HI0
    obtain ⟨i, v, L, rfl, hi, HI⟩ := hrel
    have hal : ((X.take i).map txN).length = i := by rw [List.length_map, List.length_take, HNN.out]; omega
    have HAL := hid hal
    by_cases hlt : i < n
    · obtain ⟨g, o, rfl, hEg, hg, hr⟩ := HA.out.resolve_left (by omega)
      have hiX : i < X.length := by rw [HNN.out]; exact hlt
      have k2 := (HI.out.2.2.1.range hr id) i _ (show (strs X)[i]? = some (.string (sb X[i])) by simp [strs, hiX])
      obtain ⟨x, hx⟩ : ∃ x, X[i] = x := ⟨_, rfl⟩
      rw [hx] at k2
      have HSX := hid (show Sz x by rw [← hx]; exact HSZ.out _ (List.getElem_mem _))
      have HNX : Hid ((X.take (i + 1)).map txN = (X.take i).map txN ++ [txN x]) := hid (by rw [List.take_succ_eq_append_getElem hiX, List.map_append, hx]; rfl)
      have hks := HI.out.1
      obtain ⟨va, vc, rfl, hvk, -⟩ := own_form hks.r
      have HO := hid hks.r
      rw [hal] at HO hks
      have k1 : wr.cell? ⟨bn, 2, none⟩ = some (.slice va i vc) := hks.b.cell 2
      have HKS := hid hks
      have hlti : (i : Int) < n := by omega
      have hii : (i : Int) ≤ 1048576 := by omega
      have hi0 : (0 : Int) ≤ i := by omega
      clear hr hg hEg hx hal hks hvk
      obtain ⟨S, hS⟩ : ∃ S, sb x = S := ⟨_, rfl⟩
      rw [hS] at k2
      have HSS := hid hS
      clear hS
      go_wp2_with fail
      have hold : Facts.hold [(1, fun w' => w'.cell? ⟨bn, 2, none⟩ = some (.slice va i vc))] wr.drew := Facts.cons_hold k1 (Facts.nil_hold _)
      refine wpD_region hold (by kernel_rfl) 9 rfl ?_
      (refine wpD_plain 0 (v := ?_) rfl (by kernel_rfl) (by kernel_rfl) (by kernel_rfl) (fun _ _ _ h => h) (by rfl) ?_ (by assumption) ?_; rotate_left; (intro _w; go_simp; try with_reducible rfl); simp only [Act.put, K.put3])
      (refine wpD_take 1 _ rfl (by kernel_rfl) (by kernel_rfl) (by kernel_rfl) (fun _ _ _ h => h) List.mem_cons_self (by rfl) (v := ?_) ?_ (by assumption) ?_; rotate_left; (intro _w _hw; go_simp; try with_reducible rfl); simp only [Act.put, K.put3])
      (refine wpD_plain 2 (v := ?_) rfl (by kernel_rfl) (by kernel_rfl) (by kernel_rfl) (fun _ _ _ h => h) (by rfl) ?_ (by assumption) ?_; rotate_left; (intro _w; go_simp; try with_reducible rfl); simp only [Act.put, K.put3])
      (refine wpD_plain 3 (v := ?_) rfl (by kernel_rfl) (by kernel_rfl) (by kernel_rfl) (fun _ _ _ h => h) (by rfl) ?_ (by assumption) ?_; rotate_left; (intro _w; go_simp; try with_reducible rfl); simp only [Act.put, K.put3])
      clear hold
      refine wpD_only 4 [(1, fun w' => w'.cell? ⟨bn, 2, none⟩ = some (.slice va i vc))] rfl (by kernel_rfl) (by kernel_rfl) (by rfl) (fun K6 hK6 => ?_)
      refine wp_call _ _ _ rfl 71 [] rfl (fun vs w => by kernel_rfl) [.string S] (by rfl) ?_
      refine (wtext_any S wr.drew).mono ?_
      rintro e w4 ⟨rfl, f4⟩
      have hf4 : Fr No wr w4 := (Fr.refl No wr).drew.trans' f4
      refine ⟨_, rfl, hK6 _ _ (Facts.cons_hold (hf4.cell k1 id) (Facts.nil_hold _)) ?_⟩
      have k4 := hf4.cell k1 id
      have HF4 := hid hf4
      have HND : Hid (NdAt 1 (Since wr.heap.size) w4 (txN x) [.int .i64 4, .string S, .slice none 0 0]) := hid (by rw [← HSS.out]; exact leaf_any 0 _ w4 4 x ⟨by omega, by omega⟩ HSX.out)
      clear hK6 K6 f4 hf4 k1 k2
      simp only [Act.put, K.put3]
      refine wpD_only 5 [(1, fun w' => w'.cell? ⟨bn, 2, none⟩ = some (.slice va i vc))] rfl (by kernel_rfl) (by kernel_rfl) (by rfl) (fun K7 hK7 => ?_)
      refine wp_buildOne _ 44 _ rfl ic _ Try.underlying42 IC.out ZC.out (by rw [SC.out]; decide) (by rw [SC.out]; decide) (.agg #[.int .i64 4, .string S, .slice none 0 0]) [.int .i64 4, .string S, .slice none 0 0] rfl rfl (by rw [SC.out]; rfl) ?_
      intro w5 HB5 F5 HS5
      refine hK7 _ _ (Facts.cons_hold (F5.out.cell k4 id) (Facts.nil_hold _)) ?_
      have HF5 := hid (HF4.out.trans' F5.out)
      have HND5 := hid (HND.out.no F5.out)
      clear hK7 K7 k4
      simp only [Act.put, K.put3]
      refine wpD_only 6 [] rfl (by kernel_rfl) (by kernel_rfl) (by rfl) (fun K8 hK8 => ?_)
      refine wp_append _ _ 42 rfl (bn + 1) 44 ic _ 3 48 Try.underlying42 IC.out ZC.out SC.out BC.out rfl (by decide) (.slice va i vc) i L.flatten rfl (own_fr HO.out HF5.out (fun _ _ e => e)) (some ⟨w4.heap.size, 0, none⟩) 1 _ [.int .i64 4, .string S, .slice none 0 0] rfl rfl (.inr ⟨_, rfl, HB5.out.news⟩) (by intro u hu; simp at hu; rcases hu with rfl | rfl | rfl <;> rfl) (by unfold maxLen; omega) (by omega) (Nat.le_trans HI.out.2.2.2 HF5.out.size) ?_
      intro a6 c6 w6 HO6 HG6 HA6
      refine hK8 _ _ (Facts.nil_hold _) ?_
      clear hK8 K8
      simp only [Act.put, K.put3]
      have hold : Facts.hold [] w6 := Facts.nil_hold _
      (refine wpD_plain 7 (v := ?_) rfl (by kernel_rfl) (by kernel_rfl) (by kernel_rfl) (fun _ _ _ h => h) (by rfl) ?_ (by assumption) ?_; rotate_left; (intro _w; go_simp; try with_reducible rfl); simp only [Act.put, K.put3])
      clear hold
      refine wpD_only 8 [] rfl (by kernel_rfl) (by kernel_rfl) (by rfl) (fun K10 hK10 => ?_)
      have HKS5 := hid (HKS.out.no HF5.out)
      refine wp_storeV _ _ _ rfl bn 2 (.slice a6 (i + 1) c6) [.slice a6 (i + 1) c6] rfl rfl rfl _ _ (HKS5.out.b.fr (frown HG6.out) (fun e => by have := own_low HO.out bn e; omega)) (by simp) infoNs (by intro u hu; simp at hu; subst hu; rfl) ?_
      intro w7 HB7 F7 HS7
      refine hK10 _ _ (Facts.nil_hold _) ?_
      clear hK10 K10
      simp only [Act.put, K.put3]
      refine wpD_done (by kernel_rfl) ?_ _
      have hb7 : Blk w7 bn 44 [.int .i64 tag, .string ⟨#[]⟩, .slice a6 (i + 1) c6] := HB7.out
      have hr7 : w7.ownsRow (bn + 1) 44 3 (.slice a6 (i + 1) c6) (((X.take i).map txN).length + 1) (L.flatten ++ [.int .i64 4, .string S, .slice none 0 0]) := by
        rw [HAL.out]
        exact own_fr HO6.out F7.out (fun k hk e => by have := own_low HO6.out k hk; have e : k = bn := e; omega)
      have hfr : Fr (fun k => k = bn ∨ (Value.slice va i vc).ownBlock = some k ∨ (Value.slice a6 (i + 1) c6).ownBlock = some k) w5 w7 := ((frown HG6.out).mono fun k hk => .inr (.inl hk)).trans' (F7.out.mono fun k hk => .inl hk)
      have hstep := HKS5.out.step (by omega) (N := wr.heap.size) (n := txN x) (cs := [.int .i64 4, .string S, .slice none 0 0]) HND5.out HI.out.2.2.2
        (fun g hg => (own_ge HO.out g hg).2) hb7 hr7 hfr (or_own HA6.out)
      have hlow : ∀ k, (k = bn ∨ (Value.slice va i vc).ownBlock = some k ∨ (Value.slice a6 (i + 1) c6).ownBlock = some k) → bn ≤ k := fun k hk => by
        rcases hk with h | h | h
        · omega
        · have := own_low HO.out k h; omega
        · have := own_low HO6.out k h; omega
      have hbr7 := (HI.out.2.1.fr HF5.out id).fr hfr (fun e => by have := hlow _ e; have := HN.out; omega)
      have HDONE : Hid (KS 1 (bn + 1) bn tag ((X.take (i + 1)).map txN) (.slice a6 (i + 1) c6) (L ++ [[.int .i64 4, .string S, .slice none 0 0]]) w7 ∧ Blk w7 br 44 [.int .i64 0, .string ⟨#[]⟩, .slice none 0 0] ∧ Fr No w w7 ∧ bn + 1 ≤ w7.heap.size) :=
        hid ⟨by rw [HNX.out]; exact hstep, hbr7, (HI.out.2.2.1.trans' HF5.out).trans hfr fun k e => .inr (by have := hlow _ e; have := HN.out; omega), Nat.le_trans (Nat.le_trans HI.out.2.2.2 HF5.out.size) hfr.size⟩
      clear hb7 hr7 hfr hstep hlow hbr7
      go_wp2_with fail
      go_roundw
      case rel => exact ⟨i + 1, _, _, by go_num, hlt, HDONE⟩
      case measure => simp [intOf]; omega
    · obtain rfl : i = n := by omega
      have htk : X.take i = X := List.take_of_length_le (by rw [HNN.out]; exact Nat.le_refl _)
      have hks := HI.out.1
      rw [htk] at hks
      obtain ⟨va, vc, rfl, hvk, -⟩ := own_form hks.r
      have hXm : (X.map txN).length = i := by rw [List.length_map, HNN.out]
      rw [hXm] at hks
      have HKS := hid hks
      clear hlt hks htk hvk
      go_wp2_with (first
        | ((with_reducible refine K.atO (.load 44 _) ?_); refine wpL_load rfl _ _ rfl bn 0 rfl [.int .i64 tag, .string ⟨#[]⟩, .slice va i vc] _ (HKS.out.b.range 0 _ rfl) rfl rfl infoN ?_)
        | ((with_reducible refine K.atO (.store 44 _ _) ?_); refine wpL_storeV rfl _ _ _ rfl br 0 (.agg #[.int .i64 tag, .string ⟨#[]⟩, .slice va i vc]) [.int .i64 tag, .string ⟨#[]⟩, .slice va i vc] rfl rfl rfl _ _ HI.out.2.1 (by simp) infoN (by intro u hu; simp at hu; rcases hu with rfl | rfl | rfl <;> rfl) ?_; intro w8 HB8 F8 HS8)
        | fail)
      refine ret_cell rfl _ rfl HB8.out rfl rfl infoN rfl ?_
      have hn := HN.out
      have hnd := ks_nd HKS.out HT.out (by rw [hXm]; omega)
      refine ⟨_, rfl, ?_, HI.out.2.2.1.trans F8.out fun k e => .inr (by have e : k = br := e; omega)⟩
      exact NdAt.mono (fun k _ hk => by have h : bn + 1 ≤ k := hk; show w.heap.size ≤ k; omega) (NdAt.fr F8.out (fun k hk _ e => by have h : bn + 1 ≤ k := hk; have e : k = br := e; omega) hnd)
theorem zeroAt : ∀ w, (zeroValue 54).run Try.prog w = .ok (.agg #[.string ⟨#[]⟩, .slice none 0 0]) w := fun _ => by kernel_rfl
set_option maxHeartbeats 8000000 in
theorem wlist_at {α : Type} (m : Nat) (tag : Int) (f : FuncId) (gn : α → Nd) (p : World → α → List Value → Prop) (E : Nat → Prop) (v0 : Value) (X : List α) (w : World) (ht : I64 tag) (hp : ∀ w w' x c, p w x c → Fr No w w' → p w' x c) (hone : ∀ w x c, p w x c → ∀ u ∈ c, u.oneCell' = true)
    (h0 : Sl 2 (p w) E w v0 X) (hX : X.length ≤ 1048576) (hent : ∀ (vs : Array Value) (w : World), (callFunc f vs).run Try.prog w = .ok (.enter f vs) w)
    (hf : ∀ x ∈ X, ∀ c wv, p wv x c → Fr No w wv → Calls Try.prog f #[.agg c.toArray] wv (Makes m (gn x) wv)) :
    Calls Try.prog 78 #[.int .i64 tag, v0, .func (.func f) #[] #[]] w (Makes (m + 1) (.mk tag [] (X.map gn)) w) := by
  obtain ⟨a, c, rfl, -, hl0⟩ := h0.form
  have HX0 := hid h0
  obtain ⟨n, hn⟩ : ∃ n, X.length = n := ⟨_, rfl⟩
  rw [hn] at HX0 hX ⊢
  have HT := hid ht; have HNN := hid hn; have HXL := hid hX; have HP := hid hp; have HE := hid hent; have HF := hid hf; have HO1 := hid hone
  have hni : (n : Int) ≤ 1048576 := by omega
  obtain ⟨ic, hic, hzc, hsc, hbc⟩ := Go.info_parts infozN
  have IC := hid hic; have ZC := hid hzc; have SC := hid hsc; have BC := hid hbc
  clear ht hp hone h0 hX hent hf hn hl0 hic hzc hsc hbc
  go_enter Try.func78, Try.ntmps78
  go_wp2_with (first
    | ((with_reducible refine K.atO (.alloc 44) ?_); (fail_if_success (have := HB1)); refine wpL_alloc rfl _ rfl _ zeroN [.int .i64 0, .string ⟨#[]⟩, .slice none 0 0] rfl ?_; intro w1 HB1 F1 HS1)
    | ((with_reducible refine K.atO (.alloc 44) ?_); refine wpL_alloc rfl _ rfl _ zeroN [.int .i64 0, .string ⟨#[]⟩, .slice none 0 0] rfl ?_; intro w2 HB2 F2 HS2)
    | ((with_reducible refine K.atO (.store 44 _ _) ?_); refine wpL_storeV rfl _ _ _ rfl w1.heap.size 0 (.agg #[.int .i64 tag, .string ⟨#[]⟩, .slice none 0 0]) [.int .i64 tag, .string ⟨#[]⟩, .slice none 0 0] rfl rfl rfl _ _ HB2.out (by simp) infoN (by intro u hu; simp at hu; rcases hu with rfl | rfl | rfl <;> rfl) ?_; intro w3 HB3 F3 HS3; refine Hid.out ?_)
    | fail)
  obtain ⟨br, hbr⟩ : ∃ x, w.heap.size = x := ⟨_, rfl⟩
  obtain ⟨bn, hbn⟩ : ∃ x, w1.heap.size = x := ⟨_, rfl⟩
  have HN : Hid (bn = br + 1 ∧ w3.heap.size = bn + 1 ∧ w.heap.size = br) := hid (by have := HS1.out; have := HS2.out; have := HS3.out; omega)
  have hf3 : Fr No w w3 := (F1.out.trans' F2.out).trans F3.out fun i e => .inr (by have e : i = w1.heap.size := e; have := HS1.out; omega)
  have HI0 : Hid (KS m (bn + 1) bn tag [] (.slice none 0 0) [] w3 ∧ Blk w3 br 44 [.int .i64 0, .string ⟨#[]⟩, .slice none 0 0] ∧ Fr No w w3) := hid (by
    refine ⟨⟨by rw [← hbn]; exact HB3.out, World.ownsRow_nil _ _ _ _, rfl, fun j x c hx => by simp at hx⟩, ?_, hf3⟩
    rw [← hbr]
    exact (HB1.out.fr F2.out id).fr F3.out (fun e => by have e : w.heap.size = w1.heap.size := e; have := HS1.out; omega))
  rw [hbr, hbn]
  clear HB1 F1 HS1 HB2 F2 HS2 HB3 F3 HS3 hbr hbn hf3
  refine hid ?_
  go_wp2_with fail
  go_loopw [14] (fun iv wr => ∃ (i : Nat) (v : Value) (L : List (List Value)), iv = .int .i64 i ∧ i ≤ n ∧ Hid (KS m (bn + 1) bn tag ((X.take i).map gn) v L wr ∧ Blk wr br 44 [.int .i64 0, .string ⟨#[]⟩, .slice none 0 0] ∧ Fr No w wr ∧ bn + 1 ≤ wr.heap.size)) (fun iv _ => n - (intOf iv).toNat)
  case atStart => exact ⟨0, _, _, rfl, Nat.zero_le _, hid ⟨HI0.out.1, HI0.out.2.1, HI0.out.2.2, by have := HN.out; omega⟩⟩
  case round =>
    clear HI0
    obtain ⟨i, v, L, rfl, hi, HI⟩ := hrel
    have hal : ((X.take i).map gn).length = i := by rw [List.length_map, List.length_take, HNN.out]; omega
    have HAL := hid hal
    by_cases hlt : i < n
    · have hiX : i < X.length := by rw [HNN.out]; exact hlt
      obtain ⟨x, hx⟩ : ∃ x, X[i]? = some x := ⟨_, List.getElem?_eq_getElem hiX⟩
      have HXM := hid (List.mem_of_getElem? hx)
      have HNX : Hid ((X.take (i + 1)).map gn = (X.take i).map gn ++ [gn x]) := hid (by
        have hxx : X[i] = x := by rw [List.getElem?_eq_getElem hiX] at hx; exact Option.some.inj hx
        rw [List.take_succ_eq_append_getElem hiX, List.map_append, hxx]; rfl)
      have hks := HI.out.1
      obtain ⟨va, vc, rfl, hvk, -⟩ := own_form hks.r
      have HO := hid hks.r
      rw [hal] at HO hks
      have k1 : wr.cell? ⟨bn, 2, none⟩ = some (.slice va i vc) := hks.b.cell 2
      have HKS := hid hks
      have hlti : (i : Int) < n := by omega
      have hii : (i : Int) ≤ 1048576 := by omega
      have hi0 : (0 : Int) ≤ i := by omega
      obtain ⟨g, o, cap, c, e1, hEg, hgw, hr, hc, hxa⟩ := (HX0.out.fr HI.out.2.2.1 (fun _ _ _ e => e) (fun x c _ h => HP.out _ _ x c h HI.out.2.2.1)).get hx
      rw [HNN.out] at e1
      simp only [Value.slice.injEq, true_and] at e1
      obtain ⟨rfl, rfl⟩ := e1
      have HXA := hid hxa; have HC := hid hc; have HR := hid hr
      have HONE := hid (HO1.out _ _ _ hxa)
      have HI3 : Hid ((Try.prog.info? 54).map (·.size) = some c.length) := hid (by rw [hc]; exact infoAt)
      clear hc hEg hgw hr hxa hx hal hks hvk
      go_wp2_with (first
        | ((with_reducible refine K.atO (.load 54 _) ?_); refine wpL_load rfl _ _ rfl g (o + i * 2) rfl c _ HR.out rfl rfl HI3.out ?_)
        | ((with_reducible refine K.atO (.alloc 54) ?_); refine wpL_alloc rfl _ rfl _ zeroAt [.string ⟨#[]⟩, .slice none 0 0] rfl ?_; intro wa HBa FAa HSa)
        | ((with_reducible refine K.atO (.store 54 _ _) ?_); refine wpL_storeV rfl _ _ _ rfl wr.heap.size 0 (.agg c.toArray) c rfl rfl rfl _ _ HBa.out (by rw [HC.out]; simp) HI3.out HONE.out ?_; intro wb HBb FBb HSb; have HBc : Hid (Blk wb wr.heap.size 54 c) := hid (by have h := HBb.out; rwa [spl_all (by rw [HC.out]; simp)] at h))
        | fail)
      have hfb : Fr No wr wb := FAa.out.trans FBb.out (fun j e => .inr (by have e : j = wr.heap.size := e; omega))
      have HFB := hid hfb
      have k1b : wb.cell? ⟨bn, 2, none⟩ = some (.slice va i vc) := hfb.cell k1 id
      obtain ⟨bx, hbx⟩ : ∃ bx, wr.heap.size = bx := ⟨_, rfl⟩
      rw [hbx] at HBc
      have r1 : wb.rangeAt bx 0 c := HBc.out.range 0 c (by rw [List.drop_zero, List.take_length])
      have HBX := hid hbx
      rw [hbx]
      clear k1 hfb HBa FAa HSa HBb FBb HSb hbx
      have hold : Facts.hold [(1, fun w' => w'.cell? ⟨bn, 2, none⟩ = some (.slice va i vc)), (3, fun w' => w'.rangeAt bx 0 c)] wb.drew := Facts.cons_hold k1b (Facts.cons_hold r1 (Facts.nil_hold _))
      refine wpD_region hold (by kernel_rfl) 9 rfl ?_
      (refine wpD_plain 0 (v := ?_) rfl (by kernel_rfl) (by kernel_rfl) (by kernel_rfl) (fun _ _ _ h => h) (by rfl) ?_ (by assumption) ?_; rotate_left; (intro _w; go_simp; try with_reducible rfl); simp only [Act.put, K.put3])
      (refine wpD_take 1 _ rfl (by kernel_rfl) (by kernel_rfl) (by kernel_rfl) (fun _ _ _ h => h) List.mem_cons_self (by rfl) (v := ?_) ?_ (by assumption) ?_; rotate_left; (intro _w _hw; go_simp; try with_reducible rfl); simp only [Act.put, K.put3])
      (refine wpD_plain 2 (v := ?_) rfl (by kernel_rfl) (by kernel_rfl) (by kernel_rfl) (fun _ _ _ h => h) (by rfl) ?_ (by assumption) ?_; rotate_left; (intro _w; go_simp; try with_reducible rfl); simp only [Act.put, K.put3])
      (refine wpD_take 3 _ rfl (by kernel_rfl) (by kernel_rfl) (by kernel_rfl) (fun _ _ _ h => h) (List.mem_cons_of_mem _ List.mem_cons_self) (by rfl) (exec_load _ _ rfl bx 0 rfl _ _ rfl rfl HI3.out) (by assumption) ?_; simp only [Act.put, K.put3])
      clear hold
      refine wpD_only 4 [(1, fun w' => w'.cell? ⟨bn, 2, none⟩ = some (.slice va i vc))] rfl (by kernel_rfl) (by kernel_rfl) (by rfl) (fun K6 hK6 => ?_)
      refine wp_call _ _ _ rfl f [] rfl HE.out [.agg c.toArray] (by rfl) ?_
      have hfd : Fr No wr wb.drew := HFB.out.trans' (Fr.refl No wb).drew
      refine (HF.out x HXM.out c wb.drew (HP.out _ _ _ _ HXA.out hfd) (HI.out.2.2.1.trans' hfd)).mono ?_
      rintro e w4 ⟨ds, rfl, hnd, f4⟩
      have hf4 : Fr No wb w4 := (Fr.refl No wb).drew.trans' f4
      refine ⟨_, rfl, hK6 _ _ (Facts.cons_hold (hf4.cell k1b id) (Facts.nil_hold _)) ?_⟩
      have k4 := hf4.cell k1b id
      have HF4 := hid (HFB.out.trans' hf4)
      obtain ⟨d0, d1, d2, rfl⟩ : ∃ d0 d1 d2, ds = [d0, d1, d2] := by
        have := hnd.len
        match ds, this with
        | [d0, d1, d2], _ => exact ⟨d0, d1, d2, rfl⟩
      have HND : Hid (NdAt m (Since wr.heap.size) w4 (gn x) [d0, d1, d2]) := hid (since_le hnd hfd.size)
      clear hK6 K6 f4 hf4 k1b hnd hfd r1
      simp only [Act.put, K.put3]
      refine wpD_only 5 [(1, fun w' => w'.cell? ⟨bn, 2, none⟩ = some (.slice va i vc))] rfl (by kernel_rfl) (by kernel_rfl) (by rfl) (fun K7 hK7 => ?_)
      refine wp_buildOne _ 44 _ rfl ic _ Try.underlying42 IC.out ZC.out (by rw [SC.out]; decide) (by rw [SC.out]; decide) (.agg #[d0, d1, d2]) [d0, d1, d2] rfl rfl (by rw [SC.out]; rfl) ?_
      intro w5 HB5 F5 HS5
      refine hK7 _ _ (Facts.cons_hold (F5.out.cell k4 id) (Facts.nil_hold _)) ?_
      have HF5 := hid (HF4.out.trans' F5.out)
      have HND5 := hid (HND.out.no F5.out)
      clear hK7 K7 k4
      simp only [Act.put, K.put3]
      refine wpD_only 6 [] rfl (by kernel_rfl) (by kernel_rfl) (by rfl) (fun K8 hK8 => ?_)
      refine wp_append _ _ 42 rfl (bn + 1) 44 ic _ 3 48 Try.underlying42 IC.out ZC.out SC.out BC.out rfl (by decide) (.slice va i vc) i L.flatten rfl (own_fr HO.out HF5.out (fun _ _ e => e)) (some ⟨w4.heap.size, 0, none⟩) 1 _ [d0, d1, d2] rfl rfl (.inr ⟨_, rfl, HB5.out.news⟩) (by intro u hu; exact HND5.out.one u hu) (by unfold maxLen; omega) (by omega) (Nat.le_trans HI.out.2.2.2 HF5.out.size) ?_
      intro a6 c6 w6 HO6 HG6 HA6
      refine hK8 _ _ (Facts.nil_hold _) ?_
      clear hK8 K8
      simp only [Act.put, K.put3]
      have hold : Facts.hold [] w6 := Facts.nil_hold _
      (refine wpD_plain 7 (v := ?_) rfl (by kernel_rfl) (by kernel_rfl) (by kernel_rfl) (fun _ _ _ h => h) (by rfl) ?_ (by assumption) ?_; rotate_left; (intro _w; go_simp; try with_reducible rfl); simp only [Act.put, K.put3])
      clear hold
      refine wpD_only 8 [] rfl (by kernel_rfl) (by kernel_rfl) (by rfl) (fun K10 hK10 => ?_)
      have HKS5 := hid (HKS.out.no HF5.out)
      refine wp_storeV _ _ _ rfl bn 2 (.slice a6 (i + 1) c6) [.slice a6 (i + 1) c6] rfl rfl rfl _ _ (HKS5.out.b.fr (frown HG6.out) (fun e => by have := own_low HO.out bn e; omega)) (by simp) infoNs (by intro u hu; simp at hu; subst hu; rfl) ?_
      intro w7 HB7 F7 HS7
      refine hK10 _ _ (Facts.nil_hold _) ?_
      clear hK10 K10
      simp only [Act.put, K.put3]
      refine wpD_done (by kernel_rfl) ?_ _
      have hb7 : Blk w7 bn 44 [.int .i64 tag, .string ⟨#[]⟩, .slice a6 (i + 1) c6] := HB7.out
      have hr7 : w7.ownsRow (bn + 1) 44 3 (.slice a6 (i + 1) c6) (((X.take i).map gn).length + 1) (L.flatten ++ [d0, d1, d2]) := by
        rw [HAL.out]
        exact own_fr HO6.out F7.out (fun k hk e => by have := own_low HO6.out k hk; have e : k = bn := e; omega)
      have hfr : Fr (fun k => k = bn ∨ (Value.slice va i vc).ownBlock = some k ∨ (Value.slice a6 (i + 1) c6).ownBlock = some k) w5 w7 := ((frown HG6.out).mono fun k hk => .inr (.inl hk)).trans' (F7.out.mono fun k hk => .inl hk)
      have hstep := HKS5.out.step (by omega) (N := wr.heap.size) (n := gn x) (cs := [d0, d1, d2]) HND5.out HI.out.2.2.2
        (fun g hg => (own_ge HO.out g hg).2) hb7 hr7 hfr (or_own HA6.out)
      have hlow : ∀ k, (k = bn ∨ (Value.slice va i vc).ownBlock = some k ∨ (Value.slice a6 (i + 1) c6).ownBlock = some k) → bn ≤ k := fun k hk => by
        rcases hk with h | h | h
        · omega
        · have := own_low HO.out k h; omega
        · have := own_low HO6.out k h; omega
      have hbr7 := (HI.out.2.1.fr HF5.out id).fr hfr (fun e => by have := hlow _ e; have := HN.out; omega)
      have HDONE : Hid (KS m (bn + 1) bn tag ((X.take (i + 1)).map gn) (.slice a6 (i + 1) c6) (L ++ [[d0, d1, d2]]) w7 ∧ Blk w7 br 44 [.int .i64 0, .string ⟨#[]⟩, .slice none 0 0] ∧ Fr No w w7 ∧ bn + 1 ≤ w7.heap.size) :=
        hid ⟨by rw [HNX.out]; exact hstep, hbr7, (HI.out.2.2.1.trans' HF5.out).trans hfr fun k e => .inr (by have := hlow _ e; have := HN.out; omega), Nat.le_trans (Nat.le_trans HI.out.2.2.2 HF5.out.size) hfr.size⟩
      clear hb7 hr7 hfr hstep hlow hbr7
      go_wp2_with fail
      go_roundw
      case rel => exact ⟨i + 1, _, _, by go_num, hlt, HDONE⟩
      case measure => simp [intOf]; omega
    · obtain rfl : i = n := by omega
      have htk : X.take i = X := List.take_of_length_le (by rw [HNN.out]; exact Nat.le_refl _)
      have hks := HI.out.1
      rw [htk] at hks
      obtain ⟨va, vc, rfl, hvk, -⟩ := own_form hks.r
      have hXm : (X.map gn).length = i := by rw [List.length_map, HNN.out]
      rw [hXm] at hks
      have HKS := hid hks
      clear hlt hks htk hvk
      go_wp2_with (first
        | ((with_reducible refine K.atO (.load 44 _) ?_); refine wpL_load rfl _ _ rfl bn 0 rfl [.int .i64 tag, .string ⟨#[]⟩, .slice va i vc] _ (HKS.out.b.range 0 _ rfl) rfl rfl infoN ?_)
        | ((with_reducible refine K.atO (.store 44 _ _) ?_); refine wpL_storeV rfl _ _ _ rfl br 0 (.agg #[.int .i64 tag, .string ⟨#[]⟩, .slice va i vc]) [.int .i64 tag, .string ⟨#[]⟩, .slice va i vc] rfl rfl rfl _ _ HI.out.2.1 (by simp) infoN (by intro u hu; simp at hu; rcases hu with rfl | rfl | rfl <;> rfl) ?_; intro w8 HB8 F8 HS8)
        | fail)
      refine ret_cell rfl _ rfl HB8.out rfl rfl infoN rfl ?_
      have hn := HN.out
      have hnd := ks_nd HKS.out HT.out (by rw [hXm]; omega)
      refine ⟨_, rfl, ?_, HI.out.2.2.1.trans F8.out fun k e => .inr (by have e : k = br := e; omega)⟩
      exact NdAt.mono (fun k _ hk => by have h : bn + 1 ≤ k := hk; show w.heap.size ≤ k; omega) (NdAt.fr F8.out (fun k hk _ e => by have h : bn + 1 ≤ k := hk; have e : k = br := e; omega) hnd)
theorem zeroMo : ∀ w, (zeroValue 56).run Try.prog w = .ok (.agg #[.int .i64 0, .string ⟨#[]⟩, .slice none 0 0]) w := fun _ => by kernel_rfl
set_option maxHeartbeats 8000000 in
theorem wlist_mo {α : Type} (m : Nat) (tag : Int) (f : FuncId) (gn : α → Nd) (p : World → α → List Value → Prop) (E : Nat → Prop) (v0 : Value) (X : List α) (w : World) (ht : I64 tag) (hp : ∀ w w' x c, p w x c → Fr No w w' → p w' x c) (hone : ∀ w x c, p w x c → ∀ u ∈ c, u.oneCell' = true)
    (h0 : Sl 3 (p w) E w v0 X) (hX : X.length ≤ 1048576) (hent : ∀ (vs : Array Value) (w : World), (callFunc f vs).run Try.prog w = .ok (.enter f vs) w)
    (hf : ∀ x ∈ X, ∀ c wv, p wv x c → Fr No w wv → Calls Try.prog f #[.agg c.toArray] wv (Makes m (gn x) wv)) :
    Calls Try.prog 76 #[.int .i64 tag, v0, .func (.func f) #[] #[]] w (Makes (m + 1) (.mk tag [] (X.map gn)) w) := by
  obtain ⟨a, c, rfl, -, hl0⟩ := h0.form
  have HX0 := hid h0
  obtain ⟨n, hn⟩ : ∃ n, X.length = n := ⟨_, rfl⟩
  rw [hn] at HX0 hX ⊢
  have HT := hid ht; have HNN := hid hn; have HXL := hid hX; have HP := hid hp; have HE := hid hent; have HF := hid hf; have HO1 := hid hone
  have hni : (n : Int) ≤ 1048576 := by omega
  obtain ⟨ic, hic, hzc, hsc, hbc⟩ := Go.info_parts infozN
  have IC := hid hic; have ZC := hid hzc; have SC := hid hsc; have BC := hid hbc
  clear ht hp hone h0 hX hent hf hn hl0 hic hzc hsc hbc
  go_enter Try.func76, Try.ntmps76
  go_wp2_with (first
    | ((with_reducible refine K.atO (.alloc 44) ?_); (fail_if_success (have := HB1)); refine wpL_alloc rfl _ rfl _ zeroN [.int .i64 0, .string ⟨#[]⟩, .slice none 0 0] rfl ?_; intro w1 HB1 F1 HS1)
    | ((with_reducible refine K.atO (.alloc 44) ?_); refine wpL_alloc rfl _ rfl _ zeroN [.int .i64 0, .string ⟨#[]⟩, .slice none 0 0] rfl ?_; intro w2 HB2 F2 HS2)
    | ((with_reducible refine K.atO (.store 44 _ _) ?_); refine wpL_storeV rfl _ _ _ rfl w1.heap.size 0 (.agg #[.int .i64 tag, .string ⟨#[]⟩, .slice none 0 0]) [.int .i64 tag, .string ⟨#[]⟩, .slice none 0 0] rfl rfl rfl _ _ HB2.out (by simp) infoN (by intro u hu; simp at hu; rcases hu with rfl | rfl | rfl <;> rfl) ?_; intro w3 HB3 F3 HS3; refine Hid.out ?_)
    | fail)
  obtain ⟨br, hbr⟩ : ∃ x, w.heap.size = x := ⟨_, rfl⟩
  obtain ⟨bn, hbn⟩ : ∃ x, w1.heap.size = x := ⟨_, rfl⟩
  have HN : Hid (bn = br + 1 ∧ w3.heap.size = bn + 1 ∧ w.heap.size = br) := hid (by have := HS1.out; have := HS2.out; have := HS3.out; omega)
  have hf3 : Fr No w w3 := (F1.out.trans' F2.out).trans F3.out fun i e => .inr (by have e : i = w1.heap.size := e; have := HS1.out; omega)
  have HI0 : Hid (KS m (bn + 1) bn tag [] (.slice none 0 0) [] w3 ∧ Blk w3 br 44 [.int .i64 0, .string ⟨#[]⟩, .slice none 0 0] ∧ Fr No w w3) := hid (by
    refine ⟨⟨by rw [← hbn]; exact HB3.out, World.ownsRow_nil _ _ _ _, rfl, fun j x c hx => by simp at hx⟩, ?_, hf3⟩
    rw [← hbr]
    exact (HB1.out.fr F2.out id).fr F3.out (fun e => by have e : w.heap.size = w1.heap.size := e; have := HS1.out; omega))
  rw [hbr, hbn]
  clear HB1 F1 HS1 HB2 F2 HS2 HB3 F3 HS3 hbr hbn hf3
  refine hid ?_
  go_wp2_with fail
  go_loopw [14] (fun iv wr => ∃ (i : Nat) (v : Value) (L : List (List Value)), iv = .int .i64 i ∧ i ≤ n ∧ Hid (KS m (bn + 1) bn tag ((X.take i).map gn) v L wr ∧ Blk wr br 44 [.int .i64 0, .string ⟨#[]⟩, .slice none 0 0] ∧ Fr No w wr ∧ bn + 1 ≤ wr.heap.size)) (fun iv _ => n - (intOf iv).toNat)
  case atStart => exact ⟨0, _, _, rfl, Nat.zero_le _, hid ⟨HI0.out.1, HI0.out.2.1, HI0.out.2.2, by have := HN.out; omega⟩⟩
  case round =>
    clear HI0
    obtain ⟨i, v, L, rfl, hi, HI⟩ := hrel
    have hal : ((X.take i).map gn).length = i := by rw [List.length_map, List.length_take, HNN.out]; omega
    have HAL := hid hal
    by_cases hlt : i < n
    · have hiX : i < X.length := by rw [HNN.out]; exact hlt
      obtain ⟨x, hx⟩ : ∃ x, X[i]? = some x := ⟨_, List.getElem?_eq_getElem hiX⟩
      have HXM := hid (List.mem_of_getElem? hx)
      have HNX : Hid ((X.take (i + 1)).map gn = (X.take i).map gn ++ [gn x]) := hid (by
        have hxx : X[i] = x := by rw [List.getElem?_eq_getElem hiX] at hx; exact Option.some.inj hx
        rw [List.take_succ_eq_append_getElem hiX, List.map_append, hxx]; rfl)
      have hks := HI.out.1
      obtain ⟨va, vc, rfl, hvk, -⟩ := own_form hks.r
      have HO := hid hks.r
      rw [hal] at HO hks
      have k1 : wr.cell? ⟨bn, 2, none⟩ = some (.slice va i vc) := hks.b.cell 2
      have HKS := hid hks
      have hlti : (i : Int) < n := by omega
      have hii : (i : Int) ≤ 1048576 := by omega
      have hi0 : (0 : Int) ≤ i := by omega
      obtain ⟨g, o, cap, c, e1, hEg, hgw, hr, hc, hxa⟩ := (HX0.out.fr HI.out.2.2.1 (fun _ _ _ e => e) (fun x c _ h => HP.out _ _ x c h HI.out.2.2.1)).get hx
      rw [HNN.out] at e1
      simp only [Value.slice.injEq, true_and] at e1
      obtain ⟨rfl, rfl⟩ := e1
      have HXA := hid hxa; have HC := hid hc; have HR := hid hr
      have HONE := hid (HO1.out _ _ _ hxa)
      have HI3 : Hid ((Try.prog.info? 56).map (·.size) = some c.length) := hid (by rw [hc]; exact infoMo)
      clear hc hEg hgw hr hxa hx hal hks hvk
      go_wp2_with (first
        | ((with_reducible refine K.atO (.load 56 _) ?_); refine wpL_load rfl _ _ rfl g (o + i * 3) rfl c _ HR.out rfl rfl HI3.out ?_)
        | ((with_reducible refine K.atO (.alloc 56) ?_); refine wpL_alloc rfl _ rfl _ zeroMo [.int .i64 0, .string ⟨#[]⟩, .slice none 0 0] rfl ?_; intro wa HBa FAa HSa)
        | ((with_reducible refine K.atO (.store 56 _ _) ?_); refine wpL_storeV rfl _ _ _ rfl wr.heap.size 0 (.agg c.toArray) c rfl rfl rfl _ _ HBa.out (by rw [HC.out]; simp) HI3.out HONE.out ?_; intro wb HBb FBb HSb; have HBc : Hid (Blk wb wr.heap.size 56 c) := hid (by have h := HBb.out; rwa [spl_all (by rw [HC.out]; simp)] at h))
        | fail)
      have hfb : Fr No wr wb := FAa.out.trans FBb.out (fun j e => .inr (by have e : j = wr.heap.size := e; omega))
      have HFB := hid hfb
      have k1b : wb.cell? ⟨bn, 2, none⟩ = some (.slice va i vc) := hfb.cell k1 id
      obtain ⟨bx, hbx⟩ : ∃ bx, wr.heap.size = bx := ⟨_, rfl⟩
      rw [hbx] at HBc
      have r1 : wb.rangeAt bx 0 c := HBc.out.range 0 c (by rw [List.drop_zero, List.take_length])
      have HBX := hid hbx
      rw [hbx]
      clear k1 hfb HBa FAa HSa HBb FBb HSb hbx
      have hold : Facts.hold [(1, fun w' => w'.cell? ⟨bn, 2, none⟩ = some (.slice va i vc)), (3, fun w' => w'.rangeAt bx 0 c)] wb.drew := Facts.cons_hold k1b (Facts.cons_hold r1 (Facts.nil_hold _))
      refine wpD_region hold (by kernel_rfl) 9 rfl ?_
      (refine wpD_plain 0 (v := ?_) rfl (by kernel_rfl) (by kernel_rfl) (by kernel_rfl) (fun _ _ _ h => h) (by rfl) ?_ (by assumption) ?_; rotate_left; (intro _w; go_simp; try with_reducible rfl); simp only [Act.put, K.put3])
      (refine wpD_take 1 _ rfl (by kernel_rfl) (by kernel_rfl) (by kernel_rfl) (fun _ _ _ h => h) List.mem_cons_self (by rfl) (v := ?_) ?_ (by assumption) ?_; rotate_left; (intro _w _hw; go_simp; try with_reducible rfl); simp only [Act.put, K.put3])
      (refine wpD_plain 2 (v := ?_) rfl (by kernel_rfl) (by kernel_rfl) (by kernel_rfl) (fun _ _ _ h => h) (by rfl) ?_ (by assumption) ?_; rotate_left; (intro _w; go_simp; try with_reducible rfl); simp only [Act.put, K.put3])
      (refine wpD_take 3 _ rfl (by kernel_rfl) (by kernel_rfl) (by kernel_rfl) (fun _ _ _ h => h) (List.mem_cons_of_mem _ List.mem_cons_self) (by rfl) (exec_load _ _ rfl bx 0 rfl _ _ rfl rfl HI3.out) (by assumption) ?_; simp only [Act.put, K.put3])
      clear hold
      refine wpD_only 4 [(1, fun w' => w'.cell? ⟨bn, 2, none⟩ = some (.slice va i vc))] rfl (by kernel_rfl) (by kernel_rfl) (by rfl) (fun K6 hK6 => ?_)
      refine wp_call _ _ _ rfl f [] rfl HE.out [.agg c.toArray] (by rfl) ?_
      have hfd : Fr No wr wb.drew := HFB.out.trans' (Fr.refl No wb).drew
      refine (HF.out x HXM.out c wb.drew (HP.out _ _ _ _ HXA.out hfd) (HI.out.2.2.1.trans' hfd)).mono ?_
      rintro e w4 ⟨ds, rfl, hnd, f4⟩
      have hf4 : Fr No wb w4 := (Fr.refl No wb).drew.trans' f4
      refine ⟨_, rfl, hK6 _ _ (Facts.cons_hold (hf4.cell k1b id) (Facts.nil_hold _)) ?_⟩
      have k4 := hf4.cell k1b id
      have HF4 := hid (HFB.out.trans' hf4)
      obtain ⟨d0, d1, d2, rfl⟩ : ∃ d0 d1 d2, ds = [d0, d1, d2] := by
        have := hnd.len
        match ds, this with
        | [d0, d1, d2], _ => exact ⟨d0, d1, d2, rfl⟩
      have HND : Hid (NdAt m (Since wr.heap.size) w4 (gn x) [d0, d1, d2]) := hid (since_le hnd hfd.size)
      clear hK6 K6 f4 hf4 k1b hnd hfd r1
      simp only [Act.put, K.put3]
      refine wpD_only 5 [(1, fun w' => w'.cell? ⟨bn, 2, none⟩ = some (.slice va i vc))] rfl (by kernel_rfl) (by kernel_rfl) (by rfl) (fun K7 hK7 => ?_)
      refine wp_buildOne _ 44 _ rfl ic _ Try.underlying42 IC.out ZC.out (by rw [SC.out]; decide) (by rw [SC.out]; decide) (.agg #[d0, d1, d2]) [d0, d1, d2] rfl rfl (by rw [SC.out]; rfl) ?_
      intro w5 HB5 F5 HS5
      refine hK7 _ _ (Facts.cons_hold (F5.out.cell k4 id) (Facts.nil_hold _)) ?_
      have HF5 := hid (HF4.out.trans' F5.out)
      have HND5 := hid (HND.out.no F5.out)
      clear hK7 K7 k4
      simp only [Act.put, K.put3]
      refine wpD_only 6 [] rfl (by kernel_rfl) (by kernel_rfl) (by rfl) (fun K8 hK8 => ?_)
      refine wp_append _ _ 42 rfl (bn + 1) 44 ic _ 3 48 Try.underlying42 IC.out ZC.out SC.out BC.out rfl (by decide) (.slice va i vc) i L.flatten rfl (own_fr HO.out HF5.out (fun _ _ e => e)) (some ⟨w4.heap.size, 0, none⟩) 1 _ [d0, d1, d2] rfl rfl (.inr ⟨_, rfl, HB5.out.news⟩) (by intro u hu; exact HND5.out.one u hu) (by unfold maxLen; omega) (by omega) (Nat.le_trans HI.out.2.2.2 HF5.out.size) ?_
      intro a6 c6 w6 HO6 HG6 HA6
      refine hK8 _ _ (Facts.nil_hold _) ?_
      clear hK8 K8
      simp only [Act.put, K.put3]
      have hold : Facts.hold [] w6 := Facts.nil_hold _
      (refine wpD_plain 7 (v := ?_) rfl (by kernel_rfl) (by kernel_rfl) (by kernel_rfl) (fun _ _ _ h => h) (by rfl) ?_ (by assumption) ?_; rotate_left; (intro _w; go_simp; try with_reducible rfl); simp only [Act.put, K.put3])
      clear hold
      refine wpD_only 8 [] rfl (by kernel_rfl) (by kernel_rfl) (by rfl) (fun K10 hK10 => ?_)
      have HKS5 := hid (HKS.out.no HF5.out)
      refine wp_storeV _ _ _ rfl bn 2 (.slice a6 (i + 1) c6) [.slice a6 (i + 1) c6] rfl rfl rfl _ _ (HKS5.out.b.fr (frown HG6.out) (fun e => by have := own_low HO.out bn e; omega)) (by simp) infoNs (by intro u hu; simp at hu; subst hu; rfl) ?_
      intro w7 HB7 F7 HS7
      refine hK10 _ _ (Facts.nil_hold _) ?_
      clear hK10 K10
      simp only [Act.put, K.put3]
      refine wpD_done (by kernel_rfl) ?_ _
      have hb7 : Blk w7 bn 44 [.int .i64 tag, .string ⟨#[]⟩, .slice a6 (i + 1) c6] := HB7.out
      have hr7 : w7.ownsRow (bn + 1) 44 3 (.slice a6 (i + 1) c6) (((X.take i).map gn).length + 1) (L.flatten ++ [d0, d1, d2]) := by
        rw [HAL.out]
        exact own_fr HO6.out F7.out (fun k hk e => by have := own_low HO6.out k hk; have e : k = bn := e; omega)
      have hfr : Fr (fun k => k = bn ∨ (Value.slice va i vc).ownBlock = some k ∨ (Value.slice a6 (i + 1) c6).ownBlock = some k) w5 w7 := ((frown HG6.out).mono fun k hk => .inr (.inl hk)).trans' (F7.out.mono fun k hk => .inl hk)
      have hstep := HKS5.out.step (by omega) (N := wr.heap.size) (n := gn x) (cs := [d0, d1, d2]) HND5.out HI.out.2.2.2
        (fun g hg => (own_ge HO.out g hg).2) hb7 hr7 hfr (or_own HA6.out)
      have hlow : ∀ k, (k = bn ∨ (Value.slice va i vc).ownBlock = some k ∨ (Value.slice a6 (i + 1) c6).ownBlock = some k) → bn ≤ k := fun k hk => by
        rcases hk with h | h | h
        · omega
        · have := own_low HO.out k h; omega
        · have := own_low HO6.out k h; omega
      have hbr7 := (HI.out.2.1.fr HF5.out id).fr hfr (fun e => by have := hlow _ e; have := HN.out; omega)
      have HDONE : Hid (KS m (bn + 1) bn tag ((X.take (i + 1)).map gn) (.slice a6 (i + 1) c6) (L ++ [[d0, d1, d2]]) w7 ∧ Blk w7 br 44 [.int .i64 0, .string ⟨#[]⟩, .slice none 0 0] ∧ Fr No w w7 ∧ bn + 1 ≤ w7.heap.size) :=
        hid ⟨by rw [HNX.out]; exact hstep, hbr7, (HI.out.2.2.1.trans' HF5.out).trans hfr fun k e => .inr (by have := hlow _ e; have := HN.out; omega), Nat.le_trans (Nat.le_trans HI.out.2.2.2 HF5.out.size) hfr.size⟩
      clear hb7 hr7 hfr hstep hlow hbr7
      go_wp2_with fail
      go_roundw
      case rel => exact ⟨i + 1, _, _, by go_num, hlt, HDONE⟩
      case measure => simp [intOf]; omega
    · obtain rfl : i = n := by omega
      have htk : X.take i = X := List.take_of_length_le (by rw [HNN.out]; exact Nat.le_refl _)
      have hks := HI.out.1
      rw [htk] at hks
      obtain ⟨va, vc, rfl, hvk, -⟩ := own_form hks.r
      have hXm : (X.map gn).length = i := by rw [List.length_map, HNN.out]
      rw [hXm] at hks
      have HKS := hid hks
      clear hlt hks htk hvk
      go_wp2_with (first
        | ((with_reducible refine K.atO (.load 44 _) ?_); refine wpL_load rfl _ _ rfl bn 0 rfl [.int .i64 tag, .string ⟨#[]⟩, .slice va i vc] _ (HKS.out.b.range 0 _ rfl) rfl rfl infoN ?_)
        | ((with_reducible refine K.atO (.store 44 _ _) ?_); refine wpL_storeV rfl _ _ _ rfl br 0 (.agg #[.int .i64 tag, .string ⟨#[]⟩, .slice va i vc]) [.int .i64 tag, .string ⟨#[]⟩, .slice va i vc] rfl rfl rfl _ _ HI.out.2.1 (by simp) infoN (by intro u hu; simp at hu; rcases hu with rfl | rfl | rfl <;> rfl) ?_; intro w8 HB8 F8 HS8)
        | fail)
      refine ret_cell rfl _ rfl HB8.out rfl rfl infoN rfl ?_
      have hn := HN.out
      have hnd := ks_nd HKS.out HT.out (by rw [hXm]; omega)
      refine ⟨_, rfl, ?_, HI.out.2.2.1.trans F8.out fun k e => .inr (by have e : k = br := e; omega)⟩
      exact NdAt.mono (fun k _ hk => by have h : bn + 1 ≤ k := hk; show w.heap.size ≤ k; omega) (NdAt.fr F8.out (fun k hk _ e => by have h : bn + 1 ≤ k := hk; have e : k = br := e; omega) hnd)
set_option maxHeartbeats 8000000 in
theorem wlist_fl {α : Type} (m : Nat) (tag : Int) (f : FuncId) (gn : α → Nd) (p : World → α → List Value → Prop) (E : Nat → Prop) (v0 : Value) (X : List α) (w : World) (ht : I64 tag) (hp : ∀ w w' x c, p w x c → Fr No w w' → p w' x c) (hone : ∀ w x c, p w x c → ∀ u ∈ c, u.oneCell' = true)
    (h0 : Sl 7 (p w) E w v0 X) (hX : X.length ≤ 1048576) (hent : ∀ (vs : Array Value) (w : World), (callFunc f vs).run Try.prog w = .ok (.enter f vs) w)
    (hf : ∀ x ∈ X, ∀ c wv, p wv x c → Fr No w wv → Calls Try.prog f #[.agg c.toArray] wv (Makes m (gn x) wv)) :
    Calls Try.prog 89 #[.int .i64 tag, v0, .func (.func f) #[] #[]] w (Makes (m + 1) (.mk tag [] (X.map gn)) w) := by
  obtain ⟨a, c, rfl, -, hl0⟩ := h0.form
  have HX0 := hid h0
  obtain ⟨n, hn⟩ : ∃ n, X.length = n := ⟨_, rfl⟩
  rw [hn] at HX0 hX ⊢
  have HT := hid ht; have HNN := hid hn; have HXL := hid hX; have HP := hid hp; have HE := hid hent; have HF := hid hf; have HO1 := hid hone
  have hni : (n : Int) ≤ 1048576 := by omega
  obtain ⟨ic, hic, hzc, hsc, hbc⟩ := Go.info_parts infozN
  have IC := hid hic; have ZC := hid hzc; have SC := hid hsc; have BC := hid hbc
  clear ht hp hone h0 hX hent hf hn hl0 hic hzc hsc hbc
  go_enter Try.func89, Try.ntmps89
  go_wp2_with (first
    | ((with_reducible refine K.atO (.alloc 44) ?_); (fail_if_success (have := HB1)); refine wpL_alloc rfl _ rfl _ zeroN [.int .i64 0, .string ⟨#[]⟩, .slice none 0 0] rfl ?_; intro w1 HB1 F1 HS1)
    | ((with_reducible refine K.atO (.alloc 44) ?_); refine wpL_alloc rfl _ rfl _ zeroN [.int .i64 0, .string ⟨#[]⟩, .slice none 0 0] rfl ?_; intro w2 HB2 F2 HS2)
    | ((with_reducible refine K.atO (.store 44 _ _) ?_); refine wpL_storeV rfl _ _ _ rfl w1.heap.size 0 (.agg #[.int .i64 tag, .string ⟨#[]⟩, .slice none 0 0]) [.int .i64 tag, .string ⟨#[]⟩, .slice none 0 0] rfl rfl rfl _ _ HB2.out (by simp) infoN (by intro u hu; simp at hu; rcases hu with rfl | rfl | rfl <;> rfl) ?_; intro w3 HB3 F3 HS3; refine Hid.out ?_)
    | fail)
  obtain ⟨br, hbr⟩ : ∃ x, w.heap.size = x := ⟨_, rfl⟩
  obtain ⟨bn, hbn⟩ : ∃ x, w1.heap.size = x := ⟨_, rfl⟩
  have HN : Hid (bn = br + 1 ∧ w3.heap.size = bn + 1 ∧ w.heap.size = br) := hid (by have := HS1.out; have := HS2.out; have := HS3.out; omega)
  have hf3 : Fr No w w3 := (F1.out.trans' F2.out).trans F3.out fun i e => .inr (by have e : i = w1.heap.size := e; have := HS1.out; omega)
  have HI0 : Hid (KS m (bn + 1) bn tag [] (.slice none 0 0) [] w3 ∧ Blk w3 br 44 [.int .i64 0, .string ⟨#[]⟩, .slice none 0 0] ∧ Fr No w w3) := hid (by
    refine ⟨⟨by rw [← hbn]; exact HB3.out, World.ownsRow_nil _ _ _ _, rfl, fun j x c hx => by simp at hx⟩, ?_, hf3⟩
    rw [← hbr]
    exact (HB1.out.fr F2.out id).fr F3.out (fun e => by have e : w.heap.size = w1.heap.size := e; have := HS1.out; omega))
  rw [hbr, hbn]
  clear HB1 F1 HS1 HB2 F2 HS2 HB3 F3 HS3 hbr hbn hf3
  refine hid ?_
  go_wp2_with fail
  go_loopw [14] (fun iv wr => ∃ (i : Nat) (v : Value) (L : List (List Value)), iv = .int .i64 i ∧ i ≤ n ∧ Hid (KS m (bn + 1) bn tag ((X.take i).map gn) v L wr ∧ Blk wr br 44 [.int .i64 0, .string ⟨#[]⟩, .slice none 0 0] ∧ Fr No w wr ∧ bn + 1 ≤ wr.heap.size)) (fun iv _ => n - (intOf iv).toNat)
  case atStart => exact ⟨0, _, _, rfl, Nat.zero_le _, hid ⟨HI0.out.1, HI0.out.2.1, HI0.out.2.2, by have := HN.out; omega⟩⟩
  case round =>
    clear HI0
    obtain ⟨i, v, L, rfl, hi, HI⟩ := hrel
    have hal : ((X.take i).map gn).length = i := by rw [List.length_map, List.length_take, HNN.out]; omega
    have HAL := hid hal
    by_cases hlt : i < n
    · have hiX : i < X.length := by rw [HNN.out]; exact hlt
      obtain ⟨x, hx⟩ : ∃ x, X[i]? = some x := ⟨_, List.getElem?_eq_getElem hiX⟩
      have HXM := hid (List.mem_of_getElem? hx)
      have HNX : Hid ((X.take (i + 1)).map gn = (X.take i).map gn ++ [gn x]) := hid (by
        have hxx : X[i] = x := by rw [List.getElem?_eq_getElem hiX] at hx; exact Option.some.inj hx
        rw [List.take_succ_eq_append_getElem hiX, List.map_append, hxx]; rfl)
      have hks := HI.out.1
      obtain ⟨va, vc, rfl, hvk, -⟩ := own_form hks.r
      have HO := hid hks.r
      rw [hal] at HO hks
      have k1 : wr.cell? ⟨bn, 2, none⟩ = some (.slice va i vc) := hks.b.cell 2
      have HKS := hid hks
      have hlti : (i : Int) < n := by omega
      have hii : (i : Int) ≤ 1048576 := by omega
      have hi0 : (0 : Int) ≤ i := by omega
      obtain ⟨g, o, cap, c, e1, hEg, hgw, hr, hc, hxa⟩ := (HX0.out.fr HI.out.2.2.1 (fun _ _ _ e => e) (fun x c _ h => HP.out _ _ x c h HI.out.2.2.1)).get hx
      rw [HNN.out] at e1
      simp only [Value.slice.injEq, true_and] at e1
      obtain ⟨rfl, rfl⟩ := e1
      have HXA := hid hxa; have HC := hid hc; have HR := hid hr
      have HONE := hid (HO1.out _ _ _ hxa)
      have HI3 : Hid ((Try.prog.info? 25).map (·.size) = some c.length) := hid (by rw [hc]; exact infoFl)
      clear hc hEg hgw hr hxa hx hal hks hvk
      go_wp2_with (first
        | ((with_reducible refine K.atO (.load 25 _) ?_); refine wpL_load rfl _ _ rfl g (o + i * 7) rfl c _ HR.out rfl rfl HI3.out ?_)
        | ((with_reducible refine K.atO (.alloc 25) ?_); refine wpL_alloc rfl _ rfl _ ME.zeroF [.int .i64 0, .slice none 0 0, .string ⟨#[]⟩, .string ⟨#[]⟩, .string ⟨#[]⟩, .slice none 0 0, .string ⟨#[]⟩] rfl ?_; intro wa HBa FAa HSa)
        | ((with_reducible refine K.atO (.store 25 _ _) ?_); refine wpL_storeV rfl _ _ _ rfl wr.heap.size 0 (.agg c.toArray) c rfl rfl rfl _ _ HBa.out (by rw [HC.out]; simp) HI3.out HONE.out ?_; intro wb HBb FBb HSb; have HBc : Hid (Blk wb wr.heap.size 25 c) := hid (by have h := HBb.out; rwa [spl_all (by rw [HC.out]; simp)] at h))
        | fail)
      have hfb : Fr No wr wb := FAa.out.trans FBb.out (fun j e => .inr (by have e : j = wr.heap.size := e; omega))
      have HFB := hid hfb
      have k1b : wb.cell? ⟨bn, 2, none⟩ = some (.slice va i vc) := hfb.cell k1 id
      obtain ⟨bx, hbx⟩ : ∃ bx, wr.heap.size = bx := ⟨_, rfl⟩
      rw [hbx] at HBc
      have r1 : wb.rangeAt bx 0 c := HBc.out.range 0 c (by rw [List.drop_zero, List.take_length])
      have HBX := hid hbx
      rw [hbx]
      clear k1 hfb HBa FAa HSa HBb FBb HSb hbx
      have hold : Facts.hold [(1, fun w' => w'.cell? ⟨bn, 2, none⟩ = some (.slice va i vc)), (3, fun w' => w'.rangeAt bx 0 c)] wb.drew := Facts.cons_hold k1b (Facts.cons_hold r1 (Facts.nil_hold _))
      refine wpD_region hold (by kernel_rfl) 9 rfl ?_
      (refine wpD_plain 0 (v := ?_) rfl (by kernel_rfl) (by kernel_rfl) (by kernel_rfl) (fun _ _ _ h => h) (by rfl) ?_ (by assumption) ?_; rotate_left; (intro _w; go_simp; try with_reducible rfl); simp only [Act.put, K.put3])
      (refine wpD_take 1 _ rfl (by kernel_rfl) (by kernel_rfl) (by kernel_rfl) (fun _ _ _ h => h) List.mem_cons_self (by rfl) (v := ?_) ?_ (by assumption) ?_; rotate_left; (intro _w _hw; go_simp; try with_reducible rfl); simp only [Act.put, K.put3])
      (refine wpD_plain 2 (v := ?_) rfl (by kernel_rfl) (by kernel_rfl) (by kernel_rfl) (fun _ _ _ h => h) (by rfl) ?_ (by assumption) ?_; rotate_left; (intro _w; go_simp; try with_reducible rfl); simp only [Act.put, K.put3])
      (refine wpD_take 3 _ rfl (by kernel_rfl) (by kernel_rfl) (by kernel_rfl) (fun _ _ _ h => h) (List.mem_cons_of_mem _ List.mem_cons_self) (by rfl) (exec_load _ _ rfl bx 0 rfl _ _ rfl rfl HI3.out) (by assumption) ?_; simp only [Act.put, K.put3])
      clear hold
      refine wpD_only 4 [(1, fun w' => w'.cell? ⟨bn, 2, none⟩ = some (.slice va i vc))] rfl (by kernel_rfl) (by kernel_rfl) (by rfl) (fun K6 hK6 => ?_)
      refine wp_call _ _ _ rfl f [] rfl HE.out [.agg c.toArray] (by rfl) ?_
      have hfd : Fr No wr wb.drew := HFB.out.trans' (Fr.refl No wb).drew
      refine (HF.out x HXM.out c wb.drew (HP.out _ _ _ _ HXA.out hfd) (HI.out.2.2.1.trans' hfd)).mono ?_
      rintro e w4 ⟨ds, rfl, hnd, f4⟩
      have hf4 : Fr No wb w4 := (Fr.refl No wb).drew.trans' f4
      refine ⟨_, rfl, hK6 _ _ (Facts.cons_hold (hf4.cell k1b id) (Facts.nil_hold _)) ?_⟩
      have k4 := hf4.cell k1b id
      have HF4 := hid (HFB.out.trans' hf4)
      obtain ⟨d0, d1, d2, rfl⟩ : ∃ d0 d1 d2, ds = [d0, d1, d2] := by
        have := hnd.len
        match ds, this with
        | [d0, d1, d2], _ => exact ⟨d0, d1, d2, rfl⟩
      have HND : Hid (NdAt m (Since wr.heap.size) w4 (gn x) [d0, d1, d2]) := hid (since_le hnd hfd.size)
      clear hK6 K6 f4 hf4 k1b hnd hfd r1
      simp only [Act.put, K.put3]
      refine wpD_only 5 [(1, fun w' => w'.cell? ⟨bn, 2, none⟩ = some (.slice va i vc))] rfl (by kernel_rfl) (by kernel_rfl) (by rfl) (fun K7 hK7 => ?_)
      refine wp_buildOne _ 44 _ rfl ic _ Try.underlying42 IC.out ZC.out (by rw [SC.out]; decide) (by rw [SC.out]; decide) (.agg #[d0, d1, d2]) [d0, d1, d2] rfl rfl (by rw [SC.out]; rfl) ?_
      intro w5 HB5 F5 HS5
      refine hK7 _ _ (Facts.cons_hold (F5.out.cell k4 id) (Facts.nil_hold _)) ?_
      have HF5 := hid (HF4.out.trans' F5.out)
      have HND5 := hid (HND.out.no F5.out)
      clear hK7 K7 k4
      simp only [Act.put, K.put3]
      refine wpD_only 6 [] rfl (by kernel_rfl) (by kernel_rfl) (by rfl) (fun K8 hK8 => ?_)
      refine wp_append _ _ 42 rfl (bn + 1) 44 ic _ 3 48 Try.underlying42 IC.out ZC.out SC.out BC.out rfl (by decide) (.slice va i vc) i L.flatten rfl (own_fr HO.out HF5.out (fun _ _ e => e)) (some ⟨w4.heap.size, 0, none⟩) 1 _ [d0, d1, d2] rfl rfl (.inr ⟨_, rfl, HB5.out.news⟩) (by intro u hu; exact HND5.out.one u hu) (by unfold maxLen; omega) (by omega) (Nat.le_trans HI.out.2.2.2 HF5.out.size) ?_
      intro a6 c6 w6 HO6 HG6 HA6
      refine hK8 _ _ (Facts.nil_hold _) ?_
      clear hK8 K8
      simp only [Act.put, K.put3]
      have hold : Facts.hold [] w6 := Facts.nil_hold _
      (refine wpD_plain 7 (v := ?_) rfl (by kernel_rfl) (by kernel_rfl) (by kernel_rfl) (fun _ _ _ h => h) (by rfl) ?_ (by assumption) ?_; rotate_left; (intro _w; go_simp; try with_reducible rfl); simp only [Act.put, K.put3])
      clear hold
      refine wpD_only 8 [] rfl (by kernel_rfl) (by kernel_rfl) (by rfl) (fun K10 hK10 => ?_)
      have HKS5 := hid (HKS.out.no HF5.out)
      refine wp_storeV _ _ _ rfl bn 2 (.slice a6 (i + 1) c6) [.slice a6 (i + 1) c6] rfl rfl rfl _ _ (HKS5.out.b.fr (frown HG6.out) (fun e => by have := own_low HO.out bn e; omega)) (by simp) infoNs (by intro u hu; simp at hu; subst hu; rfl) ?_
      intro w7 HB7 F7 HS7
      refine hK10 _ _ (Facts.nil_hold _) ?_
      clear hK10 K10
      simp only [Act.put, K.put3]
      refine wpD_done (by kernel_rfl) ?_ _
      have hb7 : Blk w7 bn 44 [.int .i64 tag, .string ⟨#[]⟩, .slice a6 (i + 1) c6] := HB7.out
      have hr7 : w7.ownsRow (bn + 1) 44 3 (.slice a6 (i + 1) c6) (((X.take i).map gn).length + 1) (L.flatten ++ [d0, d1, d2]) := by
        rw [HAL.out]
        exact own_fr HO6.out F7.out (fun k hk e => by have := own_low HO6.out k hk; have e : k = bn := e; omega)
      have hfr : Fr (fun k => k = bn ∨ (Value.slice va i vc).ownBlock = some k ∨ (Value.slice a6 (i + 1) c6).ownBlock = some k) w5 w7 := ((frown HG6.out).mono fun k hk => .inr (.inl hk)).trans' (F7.out.mono fun k hk => .inl hk)
      have hstep := HKS5.out.step (by omega) (N := wr.heap.size) (n := gn x) (cs := [d0, d1, d2]) HND5.out HI.out.2.2.2
        (fun g hg => (own_ge HO.out g hg).2) hb7 hr7 hfr (or_own HA6.out)
      have hlow : ∀ k, (k = bn ∨ (Value.slice va i vc).ownBlock = some k ∨ (Value.slice a6 (i + 1) c6).ownBlock = some k) → bn ≤ k := fun k hk => by
        rcases hk with h | h | h
        · omega
        · have := own_low HO.out k h; omega
        · have := own_low HO6.out k h; omega
      have hbr7 := (HI.out.2.1.fr HF5.out id).fr hfr (fun e => by have := hlow _ e; have := HN.out; omega)
      have HDONE : Hid (KS m (bn + 1) bn tag ((X.take (i + 1)).map gn) (.slice a6 (i + 1) c6) (L ++ [[d0, d1, d2]]) w7 ∧ Blk w7 br 44 [.int .i64 0, .string ⟨#[]⟩, .slice none 0 0] ∧ Fr No w w7 ∧ bn + 1 ≤ w7.heap.size) :=
        hid ⟨by rw [HNX.out]; exact hstep, hbr7, (HI.out.2.2.1.trans' HF5.out).trans hfr fun k e => .inr (by have := hlow _ e; have := HN.out; omega), Nat.le_trans (Nat.le_trans HI.out.2.2.2 HF5.out.size) hfr.size⟩
      clear hb7 hr7 hfr hstep hlow hbr7
      go_wp2_with fail
      go_roundw
      case rel => exact ⟨i + 1, _, _, by go_num, hlt, HDONE⟩
      case measure => simp [intOf]; omega
    · obtain rfl : i = n := by omega
      have htk : X.take i = X := List.take_of_length_le (by rw [HNN.out]; exact Nat.le_refl _)
      have hks := HI.out.1
      rw [htk] at hks
      obtain ⟨va, vc, rfl, hvk, -⟩ := own_form hks.r
      have hXm : (X.map gn).length = i := by rw [List.length_map, HNN.out]
      rw [hXm] at hks
      have HKS := hid hks
      clear hlt hks htk hvk
      go_wp2_with (first
        | ((with_reducible refine K.atO (.load 44 _) ?_); refine wpL_load rfl _ _ rfl bn 0 rfl [.int .i64 tag, .string ⟨#[]⟩, .slice va i vc] _ (HKS.out.b.range 0 _ rfl) rfl rfl infoN ?_)
        | ((with_reducible refine K.atO (.store 44 _ _) ?_); refine wpL_storeV rfl _ _ _ rfl br 0 (.agg #[.int .i64 tag, .string ⟨#[]⟩, .slice va i vc]) [.int .i64 tag, .string ⟨#[]⟩, .slice va i vc] rfl rfl rfl _ _ HI.out.2.1 (by simp) infoN (by intro u hu; simp at hu; rcases hu with rfl | rfl | rfl <;> rfl) ?_; intro w8 HB8 F8 HS8)
        | fail)
      refine ret_cell rfl _ rfl HB8.out rfl rfl infoN rfl ?_
      have hn := HN.out
      have hnd := ks_nd HKS.out HT.out (by rw [hXm]; omega)
      refine ⟨_, rfl, ?_, HI.out.2.2.1.trans F8.out fun k e => .inr (by have e : k = br := e; omega)⟩
      exact NdAt.mono (fun k _ hk => by have h : bn + 1 ≤ k := hk; show w.heap.size ≤ k; omega) (NdAt.fr F8.out (fun k hk _ e => by have h : bn + 1 ≤ k := hk; have e : k = br := e; omega) hnd)
end Go.Proofs.Ythjmkfpdbbfcpaa.ME
