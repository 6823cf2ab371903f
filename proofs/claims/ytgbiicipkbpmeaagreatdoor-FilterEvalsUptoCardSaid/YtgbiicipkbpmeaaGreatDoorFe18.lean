/-
  Part 18 of the proof: FtT, DrS, SdA.
-/
import Derived.Test.YtgbiicipkbpmeaaGreatDoorFe17
import Derived.Test.YtgbiicipkbpmeaaGreatDoorFe13
import Derived.Test.YtgbiicipkbpmeaaGreatDoorFe10
import Derived.Test.YtgbiicipkbpmeaaGreatDoorFe06
import Derived.Test.YtgbiicipkbpmeaaGreatDoorFe15
set_option linter.unusedSimpArgs false
set_option linter.unusedVariables false
namespace Go.Proofs.YtgbiicipkbpmeaaGreatDoor.FT
set_option maxRecDepth 100000
set_option maxHeartbeats 128000000
open Go.RowKit K BE DN SC
theorem esc_no (c : UInt8) (h : isEsc c = false) : ((c.toNat : Int) == 40) = false ∧ ((c.toNat : Int) == 41) = false ∧ ((c.toNat : Int) == 42) = false ∧ ((c.toNat : Int) == 92) = false ∧ ((c.toNat : Int) == 0) = false := by
 have := u8_all (fun c => isEsc c || (c.toNat != 40 && c.toNat != 41 && c.toNat != 42 && c.toNat != 92 && c.toNat != 0)) (by decide +kernel) c
 rw [h, Bool.false_or] at this
 simp only [Bool.and_eq_true, bne_iff_ne, ne_eq] at this
 exact ⟨beqN (by omega), beqN (by omega), beqN (by omega), beqN (by omega), beqN (by omega)⟩
theorem esc_yes (c : UInt8) (h : isEsc c = true) : c = 40 ∨ c = 41 ∨ c = 42 ∨ c = 92 ∨ c = 0 := by
 unfold isEsc at h
 simpa [or_assoc] using h
theorem escaped_any (s : B) (hs : s.length ≤ 1099511627776) (w : World) : Calls Tryz.prog 95 #[.string (sb s)] w fun e w' => e = .returned (.string (sb (escF s))) ∧ Fr No w w' := by
 obtain ⟨S, hS⟩ : ∃ S, sb s = S := ⟨_, rfl⟩
 obtain ⟨n, hn⟩ : ∃ n, s.length = n := ⟨_, rfl⟩
 have hsz : (S.size : Int) = n := by rw [← hS, sb_size, hn]
 have hni : (n : Int) ≤ 1099511627776 := by omega
 have HS := hid hS; have HN := hid hn
 rw [hS]
 clear hS hn hs
 go_enter Tryz.func95, Tryz.ntmps95
 go_wp2_with fail
 go_loopw [3, 8] (fun dv iv wr => ∃ (i al : Nat), iv = .int .i64 i ∧ i ≤ n ∧ al ≤ 3 * n ∧ Hid (OwR 5 1 w wr dv al (u8s (escF (s.take i)))) ∧ Hid ((escF (s.take i)).length = al)) (fun _ iv _ => n - (intOf iv).toNat)
 case atStart => exact ⟨0, 0, rfl, Nat.zero_le _, Nat.zero_le _, hid (owR_nil (Fr.refl _ _)), hid rfl⟩
 case round =>
  obtain ⟨i, al, rfl, hi, hal, HO, HAL⟩ := hrel
  obtain ⟨va, vc, rfl⟩ := HO.out.1
  have hali : (al : Int) ≤ 3298534883328 := by omega
  have hal0 : (0 : Int) ≤ al := by omega
  by_cases hlt : i < n
  ·obtain ⟨c, hc⟩ : ∃ c, s[i]? = some c := ⟨_, List.getElem?_eq_getElem (by rw [HN.out]; exact hlt)⟩
   have hlti : (i : Int) < n := by omega
   have hi0 : (0 : Int) ≤ i := by omega
   have HLT := hid hlt
   have HNX : Hid (escF (s.take (i + 1)) = escF (s.take i) ++ escB c) := hid (by rw [List.take_add_one, hc, Option.toList_some, escF_snoc])
   have HLN : Hid ((escF (s.take (i + 1))).length ≤ 3 * n) := hid (by rw [← HN.out]; exact escF_take s _)
   clear hal hlt
   cases he : isEsc c with
   | false =>
    have HE : Hid (escB c = [c]) := hid (by unfold escB; rw [he]; rfl)
    obtain ⟨e0, e1, e2, e3, e4⟩ := esc_no c he
    have HC := hid hc
    clear hc he
    go_wp2_with (first
     | ((with_reducible refine K.atO (.index 9 _ _) ?_); refine wpL_valZ rfl (.int .u8 (c.toNat : Int)) (exec_idxB _ _ rfl s HS.out i c HC.out _ rfl rfl rfl _) ?_)
     | ((with_reducible refine K.atO (.buildSlice 150 _ _) ?_); refine wpL_appU rfl rfl HO.out (c.toNat : Int) rfl ?_; intro q a4 c4 w4 HO4 HF4))
    have HL4 : Hid ((escF (s.take (i + 1))).length = al + 1) := hid (by rw [HNX.out, HE.out, List.length_append, HAL.out]; rfl)
    refine ⟨⟨i + 1, al + 1, by go_num, HLT.out, by rw [← HL4.out]; exact HLN.out, hid ?_, HL4⟩, by have := HLT.out; simp [intOf]; omega⟩
    have h := HO4.out
    rw [HNX.out, HE.out]
    rwa [show u8s (escF (s.take i)) ++ [Value.int .u8 (c.toNat : Int)] = u8s (escF (s.take i) ++ [c]) by simp [u8s]] at h
   | true =>
    have HC := hid hc
    have hcs := esc_yes c he
    clear hc he
    rcases hcs with rfl | rfl | rfl | rfl | rfl
    ·have HE : Hid (escB 40 = [92, 50, 56]) := hid (by decide)
     go_wp2_with (first
      | ((with_reducible refine K.atO (.index 9 _ _) ?_); refine wpL_valZ rfl (.int .u8 40) (exec_idxB _ _ rfl s HS.out i 40 HC.out _ rfl rfl rfl _) ?_))
     have hold : Facts.hold [] wr.drew := Facts.nil_hold _
     refine wpD_region hold (by kernel_rfl) 10 rfl ?_
     (refine K.pl 0 (v := ?_) rfl ?_ ?_; rotate_left; (intro; go_simp; try with_reducible rfl); simp only [K.pu])
     (refine K.pl 1 (v := ?_) rfl ?_ ?_; rotate_left; (intro; go_simp; try with_reducible rfl); simp only [K.pu])
     (refine K.pl 2 (v := (.int .u8 2)) rfl ?_ ?_; (intro _w; kernel_rfl); simp only [K.pu])
     (refine K.pl 3 (v := (.int .u8 50)) rfl ?_ ?_; (intro _w; kernel_rfl); simp only [K.pu])
     (refine K.pl 4 (v := ?_) rfl ?_ ?_; rotate_left; (intro; go_simp; try with_reducible rfl); simp only [K.pu])
     (refine K.pl 5 (v := (.int .u8 8)) rfl ?_ ?_; (intro _w; kernel_rfl); simp only [K.pu])
     (refine K.pl 6 (v := (.int .u8 56)) rfl ?_ ?_; (intro _w; kernel_rfl); simp only [K.pu])
     clear hold
     refine K.on 7 [] rfl (fun K7 hK7 => ?_)
     refine wp_buildRun 150 5 3 [(0, .const (.int .u8 92)), (1, .tmp 28), (2, .tmp 31)] rfl [.int .u8 92, .int .u8 50, .int .u8 56] (by
      have := run_bytes [.int .u8 92, .int .u8 50, .int .u8 56] (by simp) (by simp) (by simp) wr.drew
      exact this) ?_
     intro w3 HB3 HF3 HS3
     refine hK7 _ _ (Facts.nil_hold _) ?_
     clear hK7 K7
     simp only [K.pu]
     have HO3 : Hid (OwR 5 1 w w3 (.slice va al vc) al (u8s (escF (s.take i)))) := hid (OwR.no HO.out ((Fr.refl No wr).drew.trans' HF3.out))
     refine K.on 8 [] rfl (fun K8 hK8 => ?_)
     refine wp_appR _ _ 150 5 rfl Tryz.underlying150 infoU rfl (by decide) HO3.out rfl wr.heap.size 3 3 _ rfl rfl HB3.out (by simp [Value.oneCell']) (by omega) (by omega) ?_
     intro a4 c4 w4 HO4 HF4
     refine hK8 _ _ (Facts.nil_hold _) ?_
     clear hK8 K8
     simp only [K.pu]
     have hold : Facts.hold [] w4 := Facts.nil_hold _
     (refine K.pl 9 (v := ?_) rfl ?_ ?_; rotate_left; (intro; go_simp; try with_reducible rfl); simp only [K.pu])
     clear hold
     refine wpD_done (by kernel_rfl) ?_ _
     go_wp2_with fail
     have HL4 : Hid ((escF (s.take (i + 1))).length = al + 3) := hid (by rw [HNX.out, HE.out, List.length_append, HAL.out]; rfl)
     refine ⟨⟨i + 1, al + 3, by go_num, HLT.out, by rw [← HL4.out]; exact HLN.out, hid ?_, HL4⟩, by have := HLT.out; simp [intOf]; omega⟩
     have h := HO4.out
     rw [HNX.out, HE.out]
     rwa [show u8s (escF (s.take i)) ++ [Value.int .u8 92, .int .u8 50, .int .u8 56] = u8s (escF (s.take i) ++ [92, 50, 56]) by simp [u8s]] at h
    ·have HE : Hid (escB 41 = [92, 50, 57]) := hid (by decide)
     go_wp2_with (first
      | ((with_reducible refine K.atO (.index 9 _ _) ?_); refine wpL_valZ rfl (.int .u8 41) (exec_idxB _ _ rfl s HS.out i 41 HC.out _ rfl rfl rfl _) ?_))
     have hold : Facts.hold [] wr.drew := Facts.nil_hold _
     refine wpD_region hold (by kernel_rfl) 10 rfl ?_
     (refine K.pl 0 (v := ?_) rfl ?_ ?_; rotate_left; (intro; go_simp; try with_reducible rfl); simp only [K.pu])
     (refine K.pl 1 (v := ?_) rfl ?_ ?_; rotate_left; (intro; go_simp; try with_reducible rfl); simp only [K.pu])
     (refine K.pl 2 (v := (.int .u8 2)) rfl ?_ ?_; (intro _w; kernel_rfl); simp only [K.pu])
     (refine K.pl 3 (v := (.int .u8 50)) rfl ?_ ?_; (intro _w; kernel_rfl); simp only [K.pu])
     (refine K.pl 4 (v := ?_) rfl ?_ ?_; rotate_left; (intro; go_simp; try with_reducible rfl); simp only [K.pu])
     (refine K.pl 5 (v := (.int .u8 9)) rfl ?_ ?_; (intro _w; kernel_rfl); simp only [K.pu])
     (refine K.pl 6 (v := (.int .u8 57)) rfl ?_ ?_; (intro _w; kernel_rfl); simp only [K.pu])
     clear hold
     refine K.on 7 [] rfl (fun K7 hK7 => ?_)
     refine wp_buildRun 150 5 3 [(0, .const (.int .u8 92)), (1, .tmp 28), (2, .tmp 31)] rfl [.int .u8 92, .int .u8 50, .int .u8 57] (by
      have := run_bytes [.int .u8 92, .int .u8 50, .int .u8 57] (by simp) (by simp) (by simp) wr.drew
      exact this) ?_
     intro w3 HB3 HF3 HS3
     refine hK7 _ _ (Facts.nil_hold _) ?_
     clear hK7 K7
     simp only [K.pu]
     have HO3 : Hid (OwR 5 1 w w3 (.slice va al vc) al (u8s (escF (s.take i)))) := hid (OwR.no HO.out ((Fr.refl No wr).drew.trans' HF3.out))
     refine K.on 8 [] rfl (fun K8 hK8 => ?_)
     refine wp_appR _ _ 150 5 rfl Tryz.underlying150 infoU rfl (by decide) HO3.out rfl wr.heap.size 3 3 _ rfl rfl HB3.out (by simp [Value.oneCell']) (by omega) (by omega) ?_
     intro a4 c4 w4 HO4 HF4
     refine hK8 _ _ (Facts.nil_hold _) ?_
     clear hK8 K8
     simp only [K.pu]
     have hold : Facts.hold [] w4 := Facts.nil_hold _
     (refine K.pl 9 (v := ?_) rfl ?_ ?_; rotate_left; (intro; go_simp; try with_reducible rfl); simp only [K.pu])
     clear hold
     refine wpD_done (by kernel_rfl) ?_ _
     go_wp2_with fail
     have HL4 : Hid ((escF (s.take (i + 1))).length = al + 3) := hid (by rw [HNX.out, HE.out, List.length_append, HAL.out]; rfl)
     refine ⟨⟨i + 1, al + 3, by go_num, HLT.out, by rw [← HL4.out]; exact HLN.out, hid ?_, HL4⟩, by have := HLT.out; simp [intOf]; omega⟩
     have h := HO4.out
     rw [HNX.out, HE.out]
     rwa [show u8s (escF (s.take i)) ++ [Value.int .u8 92, .int .u8 50, .int .u8 57] = u8s (escF (s.take i) ++ [92, 50, 57]) by simp [u8s]] at h
    ·have HE : Hid (escB 42 = [92, 50, 97]) := hid (by decide)
     go_wp2_with (first
      | ((with_reducible refine K.atO (.index 9 _ _) ?_); refine wpL_valZ rfl (.int .u8 42) (exec_idxB _ _ rfl s HS.out i 42 HC.out _ rfl rfl rfl _) ?_))
     have hold : Facts.hold [] wr.drew := Facts.nil_hold _
     refine wpD_region hold (by kernel_rfl) 10 rfl ?_
     (refine K.pl 0 (v := ?_) rfl ?_ ?_; rotate_left; (intro; go_simp; try with_reducible rfl); simp only [K.pu])
     (refine K.pl 1 (v := ?_) rfl ?_ ?_; rotate_left; (intro; go_simp; try with_reducible rfl); simp only [K.pu])
     (refine K.pl 2 (v := (.int .u8 2)) rfl ?_ ?_; (intro _w; kernel_rfl); simp only [K.pu])
     (refine K.pl 3 (v := (.int .u8 50)) rfl ?_ ?_; (intro _w; kernel_rfl); simp only [K.pu])
     (refine K.pl 4 (v := ?_) rfl ?_ ?_; rotate_left; (intro; go_simp; try with_reducible rfl); simp only [K.pu])
     (refine K.pl 5 (v := (.int .u8 10)) rfl ?_ ?_; (intro _w; kernel_rfl); simp only [K.pu])
     (refine K.pl 6 (v := (.int .u8 97)) rfl ?_ ?_; (intro _w; kernel_rfl); simp only [K.pu])
     clear hold
     refine K.on 7 [] rfl (fun K7 hK7 => ?_)
     refine wp_buildRun 150 5 3 [(0, .const (.int .u8 92)), (1, .tmp 28), (2, .tmp 31)] rfl [.int .u8 92, .int .u8 50, .int .u8 97] (by
      have := run_bytes [.int .u8 92, .int .u8 50, .int .u8 97] (by simp) (by simp) (by simp) wr.drew
      exact this) ?_
     intro w3 HB3 HF3 HS3
     refine hK7 _ _ (Facts.nil_hold _) ?_
     clear hK7 K7
     simp only [K.pu]
     have HO3 : Hid (OwR 5 1 w w3 (.slice va al vc) al (u8s (escF (s.take i)))) := hid (OwR.no HO.out ((Fr.refl No wr).drew.trans' HF3.out))
     refine K.on 8 [] rfl (fun K8 hK8 => ?_)
     refine wp_appR _ _ 150 5 rfl Tryz.underlying150 infoU rfl (by decide) HO3.out rfl wr.heap.size 3 3 _ rfl rfl HB3.out (by simp [Value.oneCell']) (by omega) (by omega) ?_
     intro a4 c4 w4 HO4 HF4
     refine hK8 _ _ (Facts.nil_hold _) ?_
     clear hK8 K8
     simp only [K.pu]
     have hold : Facts.hold [] w4 := Facts.nil_hold _
     (refine K.pl 9 (v := ?_) rfl ?_ ?_; rotate_left; (intro; go_simp; try with_reducible rfl); simp only [K.pu])
     clear hold
     refine wpD_done (by kernel_rfl) ?_ _
     go_wp2_with fail
     have HL4 : Hid ((escF (s.take (i + 1))).length = al + 3) := hid (by rw [HNX.out, HE.out, List.length_append, HAL.out]; rfl)
     refine ⟨⟨i + 1, al + 3, by go_num, HLT.out, by rw [← HL4.out]; exact HLN.out, hid ?_, HL4⟩, by have := HLT.out; simp [intOf]; omega⟩
     have h := HO4.out
     rw [HNX.out, HE.out]
     rwa [show u8s (escF (s.take i)) ++ [Value.int .u8 92, .int .u8 50, .int .u8 97] = u8s (escF (s.take i) ++ [92, 50, 97]) by simp [u8s]] at h
    ·have HE : Hid (escB 92 = [92, 53, 99]) := hid (by decide)
     go_wp2_with (first
      | ((with_reducible refine K.atO (.index 9 _ _) ?_); refine wpL_valZ rfl (.int .u8 92) (exec_idxB _ _ rfl s HS.out i 92 HC.out _ rfl rfl rfl _) ?_))
     have hold : Facts.hold [] wr.drew := Facts.nil_hold _
     refine wpD_region hold (by kernel_rfl) 10 rfl ?_
     (refine K.pl 0 (v := ?_) rfl ?_ ?_; rotate_left; (intro; go_simp; try with_reducible rfl); simp only [K.pu])
     (refine K.pl 1 (v := ?_) rfl ?_ ?_; rotate_left; (intro; go_simp; try with_reducible rfl); simp only [K.pu])
     (refine K.pl 2 (v := (.int .u8 5)) rfl ?_ ?_; (intro _w; kernel_rfl); simp only [K.pu])
     (refine K.pl 3 (v := (.int .u8 53)) rfl ?_ ?_; (intro _w; kernel_rfl); simp only [K.pu])
     (refine K.pl 4 (v := ?_) rfl ?_ ?_; rotate_left; (intro; go_simp; try with_reducible rfl); simp only [K.pu])
     (refine K.pl 5 (v := (.int .u8 12)) rfl ?_ ?_; (intro _w; kernel_rfl); simp only [K.pu])
     (refine K.pl 6 (v := (.int .u8 99)) rfl ?_ ?_; (intro _w; kernel_rfl); simp only [K.pu])
     clear hold
     refine K.on 7 [] rfl (fun K7 hK7 => ?_)
     refine wp_buildRun 150 5 3 [(0, .const (.int .u8 92)), (1, .tmp 28), (2, .tmp 31)] rfl [.int .u8 92, .int .u8 53, .int .u8 99] (by
      have := run_bytes [.int .u8 92, .int .u8 53, .int .u8 99] (by simp) (by simp) (by simp) wr.drew
      exact this) ?_
     intro w3 HB3 HF3 HS3
     refine hK7 _ _ (Facts.nil_hold _) ?_
     clear hK7 K7
     simp only [K.pu]
     have HO3 : Hid (OwR 5 1 w w3 (.slice va al vc) al (u8s (escF (s.take i)))) := hid (OwR.no HO.out ((Fr.refl No wr).drew.trans' HF3.out))
     refine K.on 8 [] rfl (fun K8 hK8 => ?_)
     refine wp_appR _ _ 150 5 rfl Tryz.underlying150 infoU rfl (by decide) HO3.out rfl wr.heap.size 3 3 _ rfl rfl HB3.out (by simp [Value.oneCell']) (by omega) (by omega) ?_
     intro a4 c4 w4 HO4 HF4
     refine hK8 _ _ (Facts.nil_hold _) ?_
     clear hK8 K8
     simp only [K.pu]
     have hold : Facts.hold [] w4 := Facts.nil_hold _
     (refine K.pl 9 (v := ?_) rfl ?_ ?_; rotate_left; (intro; go_simp; try with_reducible rfl); simp only [K.pu])
     clear hold
     refine wpD_done (by kernel_rfl) ?_ _
     go_wp2_with fail
     have HL4 : Hid ((escF (s.take (i + 1))).length = al + 3) := hid (by rw [HNX.out, HE.out, List.length_append, HAL.out]; rfl)
     refine ⟨⟨i + 1, al + 3, by go_num, HLT.out, by rw [← HL4.out]; exact HLN.out, hid ?_, HL4⟩, by have := HLT.out; simp [intOf]; omega⟩
     have h := HO4.out
     rw [HNX.out, HE.out]
     rwa [show u8s (escF (s.take i)) ++ [Value.int .u8 92, .int .u8 53, .int .u8 99] = u8s (escF (s.take i) ++ [92, 53, 99]) by simp [u8s]] at h
    ·have HE : Hid (escB 0 = [92, 48, 48]) := hid (by decide)
     go_wp2_with (first
      | ((with_reducible refine K.atO (.index 9 _ _) ?_); refine wpL_valZ rfl (.int .u8 0) (exec_idxB _ _ rfl s HS.out i 0 HC.out _ rfl rfl rfl _) ?_))
     have hold : Facts.hold [] wr.drew := Facts.nil_hold _
     refine wpD_region hold (by kernel_rfl) 10 rfl ?_
     (refine K.pl 0 (v := ?_) rfl ?_ ?_; rotate_left; (intro; go_simp; try with_reducible rfl); simp only [K.pu])
     (refine K.pl 1 (v := ?_) rfl ?_ ?_; rotate_left; (intro; go_simp; try with_reducible rfl); simp only [K.pu])
     (refine K.pl 2 (v := (.int .u8 0)) rfl ?_ ?_; (intro _w; kernel_rfl); simp only [K.pu])
     (refine K.pl 3 (v := (.int .u8 48)) rfl ?_ ?_; (intro _w; kernel_rfl); simp only [K.pu])
     (refine K.pl 4 (v := ?_) rfl ?_ ?_; rotate_left; (intro; go_simp; try with_reducible rfl); simp only [K.pu])
     (refine K.pl 5 (v := (.int .u8 0)) rfl ?_ ?_; (intro _w; kernel_rfl); simp only [K.pu])
     (refine K.pl 6 (v := (.int .u8 48)) rfl ?_ ?_; (intro _w; kernel_rfl); simp only [K.pu])
     clear hold
     refine K.on 7 [] rfl (fun K7 hK7 => ?_)
     refine wp_buildRun 150 5 3 [(0, .const (.int .u8 92)), (1, .tmp 28), (2, .tmp 31)] rfl [.int .u8 92, .int .u8 48, .int .u8 48] (by
      have := run_bytes [.int .u8 92, .int .u8 48, .int .u8 48] (by simp) (by simp) (by simp) wr.drew
      exact this) ?_
     intro w3 HB3 HF3 HS3
     refine hK7 _ _ (Facts.nil_hold _) ?_
     clear hK7 K7
     simp only [K.pu]
     have HO3 : Hid (OwR 5 1 w w3 (.slice va al vc) al (u8s (escF (s.take i)))) := hid (OwR.no HO.out ((Fr.refl No wr).drew.trans' HF3.out))
     refine K.on 8 [] rfl (fun K8 hK8 => ?_)
     refine wp_appR _ _ 150 5 rfl Tryz.underlying150 infoU rfl (by decide) HO3.out rfl wr.heap.size 3 3 _ rfl rfl HB3.out (by simp [Value.oneCell']) (by omega) (by omega) ?_
     intro a4 c4 w4 HO4 HF4
     refine hK8 _ _ (Facts.nil_hold _) ?_
     clear hK8 K8
     simp only [K.pu]
     have hold : Facts.hold [] w4 := Facts.nil_hold _
     (refine K.pl 9 (v := ?_) rfl ?_ ?_; rotate_left; (intro; go_simp; try with_reducible rfl); simp only [K.pu])
     clear hold
     refine wpD_done (by kernel_rfl) ?_ _
     go_wp2_with fail
     have HL4 : Hid ((escF (s.take (i + 1))).length = al + 3) := hid (by rw [HNX.out, HE.out, List.length_append, HAL.out]; rfl)
     refine ⟨⟨i + 1, al + 3, by go_num, HLT.out, by rw [← HL4.out]; exact HLN.out, hid ?_, HL4⟩, by have := HLT.out; simp [intOf]; omega⟩
     have h := HO4.out
     rw [HNX.out, HE.out]
     rwa [show u8s (escF (s.take i)) ++ [Value.int .u8 92, .int .u8 48, .int .u8 48] = u8s (escF (s.take i) ++ [92, 48, 48]) by simp [u8s]] at h
  ·obtain rfl : i = n := by omega
   have hall : s.take i = s := List.take_of_length_le (by rw [HN.out]; exact Nat.le_refl _)
   have HO2 : Hid (OwR 5 1 w wr (.slice va al vc) (escF s).length (u8s (escF s))) := hid (by
    have h := HO.out
    have h2 := HAL.out
    rw [hall] at h h2
    rw [h2]
    exact h)
   have HDEN := hid (owR_bytes HO2.out)
   clear hall hlt
   go_wp2_with (first
    | ((with_reducible refine K.atO (.convert _ 9 _) ?_); refine wpL_stringOf rfl _ _ _ _ rfl _ _ (escF s) rfl HDEN.out Tryz.underlying150 Tryz.underlying5 Tryz.underlying9 ?_))
   go_ret
   exact ⟨rfl, HO.out.fr⟩
theorem part_any (s : B) (hs : s.length ≤ 1099511627776) (w : World) : Calls Tryz.prog 141 #[.string (sb s)] w fun e w' => e = .returned (.string (sb (escF s ++ [42]))) ∧ Fr No w w' := by
 have H := hid (escaped_any s hs w)
 have HL : Hid ((escF s).length ≤ 3298534883328) := hid (Nat.le_trans (escF_len s) (by omega))
 clear hs
 go_enter Tryz.func141, Tryz.ntmps141
 go_wp2_with fail
 refine H.out.mono ?_
 rintro e w1 ⟨rfl, f1⟩
 have HF := hid f1
 clear f1
 go_wp2_with (first
  | ((with_reducible refine K.atO (.binOp .add 9 _ _ _) ?_); refine wpL_valZ rfl (.string (sb (escF s ++ [42]))) (exec_addS _ _ _ rfl (escF s) [42] rfl rfl (by have := HL.out; simp; omega) _ rfl _) ?_))
 go_ret
 exact ⟨rfl, HF.out⟩
theorem bw_new (w : World) (b : Nat) (h : Blk w b 170 [.pointer none, .slice none 0 0]) : BW (b + 1) b [] w := ⟨by omega, _, _, h, .inl rfl, World.ownsRow_nil _ _ _ _⟩
theorem textsS_any {E : Nat → Prop} (v0 : Value) (X : List B) (w : World) (h0 : LsIn E w v0 X) (hs : ∀ x ∈ X, x.length ≤ 1099511627776) (hlen : (anyT X).length ≤ 1099511627776) :
  Calls Tryz.prog 140 #[v0, .func (.func 141) #[] #[]] w fun e w' => e = .returned (.string (sb (anyT X))) ∧ Fr No w w' := by
 obtain ⟨a, c, rfl, -, hl0⟩ := h0.form
 have HX0 := hid h0
 obtain ⟨n, hn⟩ : ∃ n, X.length = n := ⟨_, rfl⟩
 rw [hn] at HX0 hl0 ⊢
 have HNN := hid hn; have HLEN := hid hlen; have HSS := hid hs
 have hni : (n : Int) ≤ 140737488351232 := by omega
 clear h0 hn hlen hs
 go_enter Tryz.func140, Tryz.ntmps140
 go_wp2_with (first
  | ((with_reducible refine K.atO (.alloc 170) ?_); refine wpL_alloc rfl _ rfl _ zeroBd [.pointer none, .slice none 0 0] rfl ?_; intro w1 HB1 F1 HS1; refine Hid.out ?_))
 obtain ⟨b, hb⟩ : ∃ b, w.heap.size = b := ⟨_, rfl⟩
 rw [hb] at HB1 HS1 ⊢
 have HWB := hid hb
 have HBW1 := hid (bw_new w1 b HB1.out)
 clear hb HB1
 refine hid ?_
 go_wp2_with fail
 go_loopw [10] (fun iv wr => ∃ (i : Nat), iv = .int .i64 i ∧ i ≤ n ∧ Hid (BW (b + 1) b (anyT (X.take i)) wr ∧ Fr No w wr ∧ b + 1 ≤ wr.heap.size)) (fun iv _ => n - (intOf iv).toNat)
 case atStart => exact ⟨0, rfl, Nat.zero_le _, hid ⟨HBW1.out, F1.out, by have := HS1.out; omega⟩⟩
 case round =>
  obtain ⟨i, rfl, hi, HI⟩ := hrel
  by_cases hlt : i < n
  ·obtain ⟨x, hx⟩ : ∃ x, X[i]? = some x := ⟨_, List.getElem?_eq_getElem (by rw [HNN.out]; exact hlt)⟩
   have hlti : (i : Int) < n := by omega
   have hi0 : (0 : Int) ≤ i := by omega
   obtain ⟨g, o, cq, cs, e1, -, hgw, hrr, hc, hxa⟩ := (LsIn.fr (D := No) HX0.out HI.out.2.1 (fun _ _ _ e => e)).get hx
   rw [HNN.out] at e1
   obtain ⟨rfl, rfl⟩ := K.sj e1
   obtain ⟨rfl, -⟩ := hxa
   have d0 : wr.cell? ⟨g, o + i, none⟩ = some (.string (sb x)) := by have := hrr 0 _ rfl; simpa using this
   have HXB := hid (HSS.out x (List.mem_of_getElem? hx))
   have HNX : Hid (anyT (X.take (i + 1)) = anyT (X.take i) ++ (escF x ++ [42])) := hid (by rw [List.take_add_one, hx, Option.toList_some, anyT_snoc])
   have HLN : Hid ((anyT (X.take i)).length + (escF x ++ [42]).length ≤ 1099511627776) := hid (Nat.le_trans (any_mem X i x hx) HLEN.out)
   have HLT := hid hlt
   clear hc hgw hrr hx hlt
   go_wp2_with (first
    | ((with_reducible refine K.atO (.call { callee := .value _, args := _, argTypes := _ }) ?_); refine wpL_callF rfl _ [_] _ rfl 141 [] [] rfl (fun vs w => by kernel_rfl) [.string (sb x)] rfl ?_))
   refine (part_any x HXB.out wr).mono ?_
   rintro e w2 ⟨rfl, f2⟩
   refine ⟨_, rfl, ?_⟩
   have HB2 := hid (HI.out.1.fr f2 (fun k e => e.elim))
   have HF2 := hid (HI.out.2.1.trans' f2)
   have HZ2 := hid (Nat.le_trans HI.out.2.2 f2.size)
   clear f2 d0
   go_wp2_with fail
   refine (writeStringW_any (b + 1) b (anyT (X.take i)) (escF x ++ [42]) w2 HB2.out HZ2.out (by have := HLN.out; omega)).mono ?_
   rintro e w3 ⟨⟨v3, rfl⟩, hb3, f3⟩
   have HB3 := hid hb3
   have HF3 : Hid (Fr No w w3) := hid (HF2.out.trans f3 (fun k e => .inr (by have e : k = b ∨ b + 1 ≤ k := e; have := HWB.out; omega)))
   have HZ3 := hid (Nat.le_trans HZ2.out f3.size)
   clear hb3 f3
   go_wp2_with fail
   refine ⟨⟨i + 1, by go_num, HLT.out, hid ⟨by rw [HNX.out]; exact HB3.out, HF3.out, HZ3.out⟩⟩, ?_⟩
   have := HLT.out
   simp [intOf]; omega
  ·obtain rfl : i = n := by omega
   have hall : X.take i = X := List.take_of_length_le (by rw [HNN.out]; exact Nat.le_refl _)
   have HB : Hid (BW (b + 1) b (anyT X) wr) := hid (by have h := HI.out.1; rwa [hall] at h)
   clear hall hlt
   go_wp2_with fail
   refine (builderString_any b b (anyT X) wr (HB.out.build b (Nat.le_refl _)) (by have := HI.out.2.2; omega)).mono ?_
   rintro e w2 ⟨rfl, f2⟩
   have HF2 : Hid (Fr No w w2) := hid (HI.out.2.1.trans f2 (fun k e => .inr (by have e : b ≤ k := e; have := HWB.out; omega)))
   clear f2
   go_wp2_with fail
   go_ret
   exact ⟨rfl, HF2.out⟩
theorem textsF_any {α : Type} (f : FuncId) (first : List Value) (q : α → B) (p : World → α → List Value → Prop) (E : Nat → Prop) (v0 : Value) (X : List α) (w : World) (hp : ∀ w w' x c, p w x c → Fr No w w' → p w' x c) (h7 : ∀ w x c, p w x c → Seven c)
  (h0 : Sl 7 (p w) E w v0 X) (hent : ∀ (vs : Array Value) (w : World), (callFunc f vs).run Tryz.prog w = .ok (.enter f vs) w)
  (hf : ∀ x ∈ X, ∀ c wv, p wv x c → Fr No w wv → Calls Tryz.prog f (first ++ [Value.agg c.toArray]).toArray wv fun e w' => e = .returned (.string (sb (q x))) ∧ Fr No wv w') (hlen : (X.map q).flatten.length ≤ 1099511627776) :
  Calls Tryz.prog 94 #[v0, .func (.func f) first.toArray #[]] w fun e w' => e = .returned (.string (sb (X.map q).flatten)) ∧ Fr No w w' := by
 obtain ⟨a, c, rfl, -, hl0⟩ := h0.form
 have HX0 := hid h0
 obtain ⟨n, hn⟩ : ∃ n, X.length = n := ⟨_, rfl⟩
 rw [hn] at HX0 hl0 ⊢
 have HNN := hid hn; have HLEN := hid hlen; have HP := hid hp; have H7 := hid h7; have HE := hid hent; have HF := hid hf
 have hni : (n : Int) ≤ 140737488351232 := by omega
 clear h0 hn hlen hp h7 hent hf
 go_enter Tryz.func94, Tryz.ntmps94
 go_wp2_with (first
  | ((with_reducible refine K.atO (.alloc 170) ?_); refine wpL_alloc rfl _ rfl _ zeroBd [.pointer none, .slice none 0 0] rfl ?_; intro w1 HB1 F1 HS1; refine Hid.out ?_))
 obtain ⟨b, hb⟩ : ∃ b, w.heap.size = b := ⟨_, rfl⟩
 rw [hb] at HB1 HS1 ⊢
 have HWB := hid hb
 have HBW1 := hid (bw_new w1 b HB1.out)
 clear hb HB1
 refine hid ?_
 go_wp2_with fail
 go_loopw [10] (fun iv wr => ∃ (i : Nat), iv = .int .i64 i ∧ i ≤ n ∧ Hid (BW (b + 1) b ((X.map q).take i).flatten wr ∧ Fr No w wr ∧ b + 1 ≤ wr.heap.size)) (fun iv _ => n - (intOf iv).toNat)
 case atStart => exact ⟨0, rfl, Nat.zero_le _, hid ⟨HBW1.out, F1.out, by have := HS1.out; omega⟩⟩
 case round =>
  obtain ⟨i, rfl, hi, HI⟩ := hrel
  by_cases hlt : i < n
  ·obtain ⟨x, hx⟩ : ∃ x, X[i]? = some x := ⟨_, List.getElem?_eq_getElem (by rw [HNN.out]; exact hlt)⟩
   have hlti : (i : Int) < n := by omega
   have hi0 : (0 : Int) ≤ i := by omega
   obtain ⟨g, o, cq, c, e1, -, hgw, hr, hc, hxa⟩ := (HX0.out.fr HI.out.2.1 (fun _ _ _ e => e) (fun x c _ h => HP.out _ _ x c h HI.out.2.1)).get hx
   rw [HNN.out] at e1
   obtain ⟨rfl, rfl⟩ := K.sj e1
   have HXA := hid hxa; have HRR := hid hr
   have H7C := hid (H7.out _ _ _ hxa)
   have HXM := hid (List.mem_of_getElem? hx)
   have HI3 : Hid ((Tryz.prog.info? 39).map (·.size) = some c.length) := hid (by rw [hc]; exact infoFl)
   have hmx : (X.map q)[i]? = some (q x) := by rw [List.getElem?_map, hx]; rfl
   have HNX : Hid (((X.map q).take (i + 1)).flatten = ((X.map q).take i).flatten ++ q x) := hid (by rw [List.take_add_one, hmx]; simp)
   have HLN : Hid ((((X.map q).take i).flatten).length + (q x).length ≤ 1099511627776) := hid (Nat.le_trans (flat_mem _ i _ hmx) HLEN.out)
   have HLT := hid hlt
   clear hc hgw hr hxa hx hlt hmx
   go_wp2_with (first
    | ((with_reducible refine K.atO (.load 39 _) ?_); (fail_if_success (have := HB2)); refine wpL_load rfl _ _ rfl g (o + i * 7) rfl c _ HRR.out rfl rfl HI3.out ?_)
    | ((with_reducible refine K.atO (.alloc 39) ?_); refine wpL_alloc rfl _ rfl _ zeroFl' (flV fl0 (.slice none 0 0) (.slice none 0 0)) rfl ?_; intro w2 HB2 HF2 HS2)
    | ((with_reducible refine K.atO (.store 39 _ _) ?_); refine wpL_store rfl _ _ _ rfl wr.heap.size 0 c rfl rfl 39 _ HB2.out (by rw [H7C.out.1]; simp [flV]) HI3.out H7C.out.2 ?_; intro w3 HB3 HF3 HS3; refine Hid.out ?_))
   have HF3' : Hid (Fr No wr w3) := hid (HF2.out.trans HF3.out (fun k e => .inr (by have e : k = wr.heap.size := e; omega)))
   have HB3' : Hid (Blk w3 wr.heap.size 39 c) := hid (by
    have h := HB3.out
    rw [spl_whole (flV fl0 (.slice none 0 0) (.slice none 0 0)) c (by rw [H7C.out.1]; rfl)] at h
    exact h)
   obtain ⟨r, hr⟩ : ∃ r, wr.heap.size = r := ⟨_, rfl⟩
   rw [hr] at HB3' ⊢
   have HW3 : Hid (Fr No w w3) := hid (HI.out.2.1.trans' HF3'.out)
   have HXA3 : Hid (p w3 x c) := hid (HP.out wr w3 x c HXA.out HF3'.out)
   clear hr HB2 HF2 HS2 HB3 HF3 HS3
   refine hid ?_
   go_wp2_with (first
    | ((with_reducible refine K.atO (.load 39 _) ?_); refine wpL_load rfl _ _ rfl r 0 rfl c _ (HB3'.out.range 0 _ (by simp)) rfl rfl HI3.out ?_)
    | ((with_reducible refine K.atO (.call { callee := .value _, args := _, argTypes := _ }) ?_); refine wpL_callF rfl _ [_] _ rfl f first [] rfl HE.out (first ++ [Value.agg c.toArray]) (by rw [List.append_nil]; rfl) ?_))
   refine (HF.out x HXM.out c w3 HXA3.out HW3.out).mono ?_
   rintro e w4 ⟨rfl, f4⟩
   refine ⟨_, rfl, ?_⟩
   have HB4 := hid ((HI.out.1.fr HF3'.out (fun k e => e.elim)).fr f4 (fun k e => e.elim))
   have HF4 := hid (HW3.out.trans' f4)
   have HZ4 := hid (Nat.le_trans (Nat.le_trans HI.out.2.2 HF3'.out.size) f4.size)
   clear f4 HXA HXA3 HRR HB3'
   go_wp2_with fail
   refine (writeStringW_any (b + 1) b _ (q x) w4 HB4.out HZ4.out (by have := HLN.out; omega)).mono ?_
   rintro e w5 ⟨⟨v3, rfl⟩, hb5, f5⟩
   have HB5 := hid hb5
   have HF5 : Hid (Fr No w w5) := hid (HF4.out.trans f5 (fun k e => .inr (by have e : k = b ∨ b + 1 ≤ k := e; have := HWB.out; omega)))
   have HZ5 := hid (Nat.le_trans HZ4.out f5.size)
   clear hb5 f5
   go_wp2_with fail
   refine ⟨⟨i + 1, by go_num, HLT.out, hid ⟨by rw [HNX.out]; exact HB5.out, HF5.out, HZ5.out⟩⟩, ?_⟩
   have := HLT.out
   simp [intOf]; omega
  ·obtain rfl : i = n := by omega
   have hall : (X.map q).take i = X.map q := List.take_of_length_le (by rw [List.length_map, HNN.out]; exact Nat.le_refl _)
   have HB : Hid (BW (b + 1) b (X.map q).flatten wr) := hid (by have h := HI.out.1; rwa [hall] at h)
   clear hall hlt
   go_wp2_with fail
   refine (builderString_any b b _ wr (HB.out.build b (Nat.le_refl _)) (by have := HI.out.2.2; omega)).mono ?_
   rintro e w2 ⟨rfl, f2⟩
   have HF2 : Hid (Fr No w w2) := hid (HI.out.2.1.trans f2 (fun k e => .inr (by have e : b ≤ k := e; have := HWB.out; omega)))
   clear f2
   go_wp2_with fail
   go_ret
   exact ⟨rfl, HF2.out⟩
end Go.Proofs.YtgbiicipkbpmeaaGreatDoor.FT
namespace Go.Proofs.YtgbiicipkbpmeaaGreatDoor.DN
set_option maxRecDepth 100000
set_option maxHeartbeats 128000000
open Go.RowKit K BE
theorem lo_n (c : UInt8) : lo c = if 65 ≤ c.toNat ∧ c.toNat ≤ 90 then c + 32 else c := by
 have := u8_all (fun c => lo c == if 65 ≤ c.toNat ∧ c.toNat ≤ 90 then c + 32 else c) (by decide +kernel) c
 simpa using this
theorem small_any (s : B) (hs : s.length ≤ 1048576) (w : World) : Calls Tryz.prog 58 #[.string (sb s)] w fun e w' => e = .returned (.string (sb (low s))) ∧ Fr No w w' := by
 obtain ⟨S, hS⟩ : ∃ S, sb s = S := ⟨_, rfl⟩
 obtain ⟨n, hn⟩ : ∃ n, s.length = n := ⟨_, rfl⟩
 have hsz : (S.size : Int) = n := by rw [← hS, sb_size, hn]
 have hni : (n : Int) ≤ 1048576 := by omega
 have HS := hid hS; have HN := hid hn
 rw [hS]
 clear hS hn hs
 go_enter Tryz.func58, Tryz.ntmps58
 go_wp2_with fail
 go_loopw [3, 4] (fun dv iv wr => ∃ (i : Nat), iv = .int .i64 i ∧ i ≤ n ∧ Hid (OwR 5 1 w wr dv i (u8s ((low s).take i)))) (fun _ iv _ => n - (intOf iv).toNat)
 case atStart => exact ⟨0, rfl, Nat.zero_le _, hid (owR_nil (Fr.refl _ _))⟩
 case round =>
  obtain ⟨i, rfl, hi, HO⟩ := hrel
  obtain ⟨va, vc, rfl⟩ := HO.out.1
  by_cases hlt : i < n
  ·obtain ⟨c, hc⟩ : ∃ c, s[i]? = some c := ⟨_, List.getElem?_eq_getElem (by rw [HN.out]; exact hlt)⟩
   have hlti : (i : Int) < n := by omega
   have hi0 : (0 : Int) ≤ i := by omega
   have HC := hid hc
   have HLT := hid hlt
   have HNX : Hid (u8s ((low s).take (i + 1)) = u8s ((low s).take i) ++ [.int .u8 ((lo c).toNat : Int)]) := hid (by
    have hl : (low s)[i]? = some (lo c) := by simp [low, hc]
    rw [List.take_add_one, hl]
    simp [u8s])
   by_cases hup : 65 ≤ c.toNat ∧ c.toNat ≤ 90
   ·have h1 : (65 : Int) ≤ (c.toNat : Int) := by omega
    have h2 : (c.toNat : Int) ≤ 90 := by omega
    have hlo : ((lo c).toNat : Int) = (c.toNat : Int) + 32 := by
     rw [lo_n, if_pos hup, UInt8.toNat_add]
     have : (32 : UInt8).toNat = 32 := rfl
     rw [this]
     omega
    rw [hlo] at HNX
    clear hup hlo hc hlt
    go_wp2_with (first
     | ((with_reducible refine K.atO (.index 9 _ _) ?_); refine idxZ HS HC rfl rfl rfl rfl ?_)
     | ((with_reducible refine K.atO (.buildSlice 150 _ _) ?_); refine wpL_app1 rfl rfl _ _ _ 150 5 rfl rfl Tryz.underlying150 infoU rfl (by decide) (by decide) HO.out (.int .u8 ((c.toNat : Int) + 32)) [.int .u8 ((c.toNat : Int) + 32)] rfl rfl rfl (by simp [Value.oneCell']) (fun _ => rfl) (fun _ => rfl) (by omega) (by omega) ?_; intro q a4 c4 w4 HO4 HF4))
    refine ⟨⟨i + 1, by go_num, HLT.out, hid (by rw [HNX.out]; exact HO4.out)⟩, ?_⟩
    have := HLT.out
    simp [intOf]; omega
   ·have hlo : lo c = c := by rw [lo_n, if_neg hup]
    rw [hlo] at HNX
    have hcase : c.toNat < 65 ∨ (65 ≤ c.toNat ∧ 90 < c.toNat) := by omega
    clear hup hlo hc hlt
    rcases hcase with h | ⟨h, h'⟩
    ·have h1 : ¬ (65 : Int) ≤ (c.toNat : Int) := by omega
     clear h
     go_wp2_with (first
      | ((with_reducible refine K.atO (.index 9 _ _) ?_); refine idxZ HS HC rfl rfl rfl rfl ?_)
      | ((with_reducible refine K.atO (.buildSlice 150 _ _) ?_); refine wpL_appU rfl rfl HO.out (c.toNat : Int) rfl ?_; intro q a4 c4 w4 HO4 HF4))
     refine ⟨⟨i + 1, by go_num, HLT.out, hid (by rw [HNX.out]; exact HO4.out)⟩, ?_⟩
     have := HLT.out
     simp [intOf]; omega
    ·have h1 : (65 : Int) ≤ (c.toNat : Int) := by omega
     have h2 : ¬ (c.toNat : Int) ≤ 90 := by omega
     clear h h'
     go_wp2_with (first
      | ((with_reducible refine K.atO (.index 9 _ _) ?_); refine idxZ HS HC rfl rfl rfl rfl ?_)
      | ((with_reducible refine K.atO (.buildSlice 150 _ _) ?_); refine wpL_appU rfl rfl HO.out (c.toNat : Int) rfl ?_; intro q a4 c4 w4 HO4 HF4))
     refine ⟨⟨i + 1, by go_num, HLT.out, hid (by rw [HNX.out]; exact HO4.out)⟩, ?_⟩
     have := HLT.out
     simp [intOf]; omega
  ·obtain rfl : i = n := by omega
   have hall : (low s).take i = low s := List.take_of_length_le (by rw [low_length, HN.out]; exact Nat.le_refl _)
   have HO2 : Hid (OwR 5 1 w wr (.slice va i vc) (low s).length (u8s (low s))) := hid (by rw [low_length, HN.out]; have h := HO.out; rw [hall] at h; exact h)
   have HDEN := hid (owR_bytes HO2.out)
   clear hall hlt
   go_wp2_with (first
    | ((with_reducible refine K.atO (.convert _ 9 _) ?_); refine wpL_stringOf rfl _ _ _ _ rfl _ _ (low s) rfl HDEN.out Tryz.underlying150 Tryz.underlying5 Tryz.underlying9 ?_))
   go_ret
   exact ⟨rfl, HO.out.fr⟩
end Go.Proofs.YtgbiicipkbpmeaaGreatDoor.DN
namespace Go.Proofs.YtgbiicipkbpmeaaGreatDoor.SC
set_option maxRecDepth 100000
set_option maxHeartbeats 128000000
open Go.RowKit K BE DN
def ints (l : List Nat) : List Value := l.map fun (k : Nat) => .int .i64 (k : Int)
@[simp] theorem ints_length (l : List Nat) : (ints l).length = l.length := by simp [ints]
theorem infoInt3 : (Tryz.prog.info? 3).map (fun i => (i.zero, i.size, i.bytes)) = some (some (.int .i64 0), 1, 8) := by kernel_rfl
def isSt (s : Sch) (f : Set) (k : Nat) : Bool := f k && decide (s.cls[k]?.map (·.kind) = some 1)
def stTo (s : Sch) (f : Set) (i : Nat) : List Nat := (List.range i).filter (isSt s f)
theorem stTo_step (s : Sch) (f : Set) (i : Nat) : stTo s f (i + 1) = if isSt s f i then stTo s f i ++ [i] else stTo s f i := by
 unfold stTo
 rw [List.range_succ, List.filter_append]
 cases h : isSt s f i <;> simp [h]
theorem stTo_zero (s : Sch) (f : Set) : stTo s f 0 = [] := by unfold stTo; rw [List.range_zero]; rfl
theorem stTo_len (s : Sch) (f : Set) (i : Nat) : (stTo s f i).length ≤ i := by
 unfold stTo
 exact Nat.le_trans (List.length_filter_le _ _) (by simp)
theorem stTo_lt {s : Sch} {f : Set} {i k : Nat} (h : k ∈ stTo s f i) : k < i := by
 unfold stTo at h
 exact List.mem_range.1 (List.mem_filter.1 h).1
theorem ints_sl {base n : Nat} {w : World} {v : Value} {l : List Nat} (h : w.ownsRow base 3 1 v n (ints l)) (hn : l.length = n) (hb : n ≤ 140737488351232) (p : Nat → Value → Prop) (hp : ∀ k ∈ l, p k (.int .i64 (k : Int))) : Sl 1 (fun x c => ∃ v, c = [v] ∧ p x v) (fun i => base ≤ i) w v l := by
 refine own_sl h (l.map fun (k : Nat) => [.int .i64 (k : Int)]) ?_ hn (by rw [List.length_map, hn]) (fun c hc => ?_) (fun j x c hx hc => ?_) hb
 ·unfold ints
  clear h hn hp
  induction l with
  | nil => rfl
  | cons a r ih => simp only [List.map_cons, List.flatten_cons, ih]; rfl
 ·obtain ⟨k, _, rfl⟩ := List.mem_map.1 hc
  rfl
 ·rw [List.getElem?_map, hx] at hc
  obtain rfl : [Value.int .i64 (x : Int)] = c := by simpa using hc
  exact ⟨_, rfl, hp x (List.mem_of_getElem? hx)⟩
theorem notIn_any (g : Set) (k r : Nat) (w : World) (hk : k < 20) (hB : Blk w r 77 (bb g 20)) : Calls Tryz.prog 52 #[.int .i64 (k : Int), .pointer (some ⟨r, 0, none⟩)] w fun e w' => e = .returned (.bool (!g k)) ∧ w' = w := by
 have hki : (k : Int) < 20 := by omega
 have hk0 : (0 : Int) ≤ k := by omega
 have c : w.cell? ⟨r, k, none⟩ = some (.bool (g k)) := by rw [hB.cell, bb_get g hk]
 obtain ⟨p, hp⟩ : ∃ p, g k = p := ⟨_, rfl⟩
 rw [hp] at c ⊢
 clear hB hp hk
 go_enter Tryz.func52, Tryz.ntmps52
 go_wp2_with fail
 go_ret
 exact ⟨rfl, rfl⟩
theorem any_not {l : List Nat} {g : Set} : (l.any fun k => !g k) = !(l.all g) := by
 induction l with
 | nil => rfl
 | cons a r ih => rw [List.any_cons, List.all_cons, ih]; cases g a <;> simp
theorem isOneChain_any (X : Nat → Prop) (b : Nat) (s : Sch) (f : Set) (w : World) (h : Sx w X b s) (hX : ∀ k, X k → k < w.heap.size) :
  Calls Tryz.prog 22 #[.pointer (some ⟨b, 0, none⟩), .agg (bb f 20).toArray] w fun e w' => e = .returned (.bool (chain s f)) ∧ Sx w' X b s ∧ Fr (fun k => k = b) w w' := by
 have HX := hid h; have HXB := hid hX; have HOK := hid h.ok
 have HBL := hid h.lt
 obtain ⟨vt, vc, d, tm, cm, hSB, -, -, hcl, -, -⟩ := h
 have HCL := hid hcl
 obtain ⟨R, hR⟩ : ∃ R, chain s f = R := ⟨_, rfl⟩
 rw [hR]
 have HR : Hid ((match (stTo s f s.cls.length).getLast? with | none => false | some k => (stTo s f s.cls.length).all fun j => puts none_ (line s k) j) = R) := hid hR
 obtain ⟨a, cp, rfl, hcap, hl⟩ := hcl.form
 have hn20 := (okS_b HOK.out).2.2
 obtain ⟨n, hn⟩ : ∃ n, s.cls.length = n := ⟨_, rfl⟩
 have HNN := hid hn
 rw [hn] at HCL hSB hcap hl hn20 HR
 have HSB := hid hSB
 have hni : (n : Int) ≤ 20 := by omega
 obtain ⟨base, hbase⟩ : ∃ b, w.heap.size = b := ⟨_, rfl⟩
 have HBASE := hid hbase
 obtain ⟨ic, hic, hzc, hsc, hbc⟩ := info_ex infoInt3
 have IC := hid hic; have ZC := hid hzc; have SC := hid hsc; have BC := hid hbc
 have d1 : w.cell? ⟨b, 1, none⟩ = some (.slice a n cp) := hSB.cell 1
 have HN20 := hid hn20
 clear hX hR hcl hn hSB hcap hl hbase hic hzc hsc hbc d1 hn20
 go_enter Tryz.func22, Tryz.ntmps22
 go_wp2_with (first
  | ((with_reducible refine K.atO (.box 77 _) ?_); refine wpL_box rfl _ _ rfl _ rfl (bb f 20) rfl ?_; intro w1 HB1 HF1 HS1; refine Hid.out ?_))
 rw [HBASE.out] at HB1 ⊢
 have HSz1 : Hid (base < w1.heap.size) := hid (by have := HS1.out; have := HBASE.out; omega)
 have d1 : w1.cell? ⟨b, 1, none⟩ = some (.slice a n cp) := HF1.out.cell (HSB.out.cell 1) id
 clear HS1
 refine hid ?_
 go_wp2_with fail
 clear d1
 go_loopw [5, 15] (fun sv iv wr => ∃ (i : Nat) (va : Option Addr) (vcp : Nat), iv = .int .i64 i ∧ sv = .slice va (stTo s f i).length vcp ∧ i ≤ n ∧ Hid (wr.ownsRow base 3 1 (.slice va (stTo s f i).length vcp) (stTo s f i).length (ints (stTo s f i)) ∧ Fr No w wr ∧ Blk wr base 77 (bb f 20) ∧ (Value.slice va (stTo s f i).length vcp).ownBlock ≠ some base ∧ base < wr.heap.size)) (fun _ iv _ => n - (intOf iv).toNat)
 case atStart => exact ⟨0, none, 0, rfl, by rw [stTo_zero]; rfl, Nat.zero_le _, hid (by rw [stTo_zero]; exact ⟨⟨rfl, .inl ⟨rfl, rfl⟩⟩, HF1.out, HB1.out, fun e => (by cases e), HSz1.out⟩)⟩
 case round =>
  obtain ⟨i, va, vcp, rfl, rfl, hi, HI⟩ := hrel
  by_cases hlt : i < n
  ·obtain ⟨c, hc⟩ : ∃ c, s.cls[i]? = some c := ⟨_, List.getElem?_eq_getElem (by rw [HNN.out]; exact hlt)⟩
   have hlti : (i : Int) < n := by omega
   have hi0 : (0 : Int) ≤ i := by omega
   have hi20 : (i : Int) < 20 := by omega
   obtain ⟨g, o, cq, cs, e1, -, -, hr, -, hp⟩ := (ClsIn.fr (D := No) HCL.out HI.out.2.1 (fun _ _ _ e => e)).get hc
   rw [HNN.out] at e1
   obtain ⟨rfl, rfl⟩ := K.sj e1
   obtain ⟨v1, v2, rfl, -, -, hv1, hv2, -⟩ := hp
   have HRR := hid hr
   have HONE : Hid (∀ v ∈ clV c v1 v2, v.oneCell' = true) := hid (oneCl c (by obtain ⟨a, cp, rfl, -⟩ := hv1.form; rfl) (by obtain ⟨a, cp, rfl, -⟩ := hv2.form; rfl))
   have HST : Hid (isSt s f i = (f i && decide (c.kind = 1))) := hid (by unfold isSt; rw [hc]; congr 1; exact decide_eq_decide.2 (by simp))
   have HLT := hid hlt
   have hi20n : i < 20 := by have := HN20.out; omega
   have HFI : Hid (∀ w', Fr No wr w' → w'.cell? ⟨base, i, none⟩ = some (.bool (f i))) := hid (fun w' hf => by rw [(HI.out.2.2.1.fr hf id).cell, bb_get f hi20n])
   clear hr hv1 hv2 hc hi hlt hi20n
   go_wp2_with (first
    | ((with_reducible refine K.atO (.load 55 _) ?_); refine wpL_load rfl _ _ rfl g (o + i * 5) rfl (clV c v1 v2) _ HRR.out rfl rfl infoCl ?_)
    | ((with_reducible refine K.atO (.alloc 55) ?_); refine wpL_alloc rfl _ rfl _ zeroCl _ rfl ?_; intro y2 HB2 HF2 HS2)
    | ((with_reducible refine K.atO (.store 55 _ _) ?_); refine wpL_store rfl _ _ _ rfl wr.heap.size 0 (clV c v1 v2) rfl rfl 55 _ HB2.out (by simp [clV]) infoCl HONE.out ?_; intro y3 HB3 HF3 HS3; refine Hid.out ?_))
   have HFR3 : Hid (Fr No wr y3) := hid (HF2.out.trans HF3.out fun k e => .inr (by have e : k = wr.heap.size := e; omega))
   have HB3' : Hid (Blk y3 wr.heap.size 55 (clV c v1 v2)) := hid HB3.out
   obtain ⟨q, hq⟩ : ∃ q, wr.heap.size = q := ⟨_, rfl⟩
   rw [hq] at HB3' ⊢
   have c1 : y3.cell? ⟨q, 1, none⟩ = some (.int .i64 c.kind) := HB3'.out.cell 1
   have cf : y3.cell? ⟨base, i, none⟩ = some (.bool (f i)) := HFI.out y3 HFR3.out
   obtain ⟨P, hP⟩ : ∃ P, f i = P := ⟨_, rfl⟩
   have HP := hid hP
   rw [hP] at cf
   have HIy : Hid (y3.ownsRow base 3 1 (.slice va (stTo s f i).length vcp) (stTo s f i).length (ints (stTo s f i)) ∧ Fr No w y3 ∧ Blk y3 base 77 (bb f 20) ∧ base < y3.heap.size) := hid ⟨own_fr HI.out.1 HFR3.out (fun _ _ e => e), HI.out.2.1.trans' HFR3.out, HI.out.2.2.1.fr HFR3.out id, Nat.lt_of_lt_of_le HI.out.2.2.2.2 HFR3.out.size⟩
   have HSL := hid (stTo_len s f i)
   have HSTEP := hid (stTo_step s f i)
   obtain ⟨L, hL⟩ : ∃ L, stTo s f i = L := ⟨_, rfl⟩
   have HNB : Hid ((Value.slice va (stTo s f i).length vcp).ownBlock ≠ some base) := hid HI.out.2.2.2.1
   rw [hL] at HIy HSL HSTEP HNB ⊢
   clear HB2 HF2 HS2 HB3 HF3 HS3 hq hP hL HFI
   refine hid ?_
   cases P with
   | false =>
    have HE : Hid (stTo s f (i + 1) = L) := hid (by rw [HSTEP.out, if_neg (by rw [HST.out, HP.out]; simp)])
    go_wp2_with fail
    refine ⟨⟨i + 1, va, vcp, by go_num, by rw [HE.out], HLT.out, hid (by rw [HE.out]; exact ⟨HIy.out.1, HIy.out.2.1, HIy.out.2.2.1, HNB.out, HIy.out.2.2.2⟩)⟩, ?_⟩
    have := HLT.out
    simp [intOf]; omega
   | true =>
    by_cases hk : c.kind = 1
    ·have HE : Hid (stTo s f (i + 1) = L ++ [i]) := hid (by rw [HSTEP.out, if_pos (by rw [HST.out, HP.out, decide_eq_true hk]; rfl)])
     have hkb : (c.kind == 1) = true := by rw [beq_iff_eq]; exact hk
     clear hk
     go_wp2_with (first
      | ((with_reducible refine K.atO (.buildSlice 111 _ _) ?_); refine wpL_buildOne rfl _ 3 _ rfl ic _ Tryz.underlying111 IC.out ZC.out (by rw [SC.out]; decide) (by rw [SC.out]; decide) (.int .i64 (i : Int)) [.int .i64 (i : Int)] rfl rfl (by rw [SC.out]; rfl) ?_; intro y4 HB4 HF4 HS4)
      | ((with_reducible refine K.atO (.call { callee := .builtin .append, args := _, argTypes := _ }) ?_); refine wpL_append rfl _ _ 111 rfl base 3 ic _ 1 8 Tryz.underlying111 IC.out ZC.out SC.out BC.out rfl (by decide) (.slice va L.length vcp) L.length (ints L) rfl (own_fr HIy.out.1 HF4.out (fun _ _ e => e)) (some ⟨y3.heap.size, 0, none⟩) 1 1 [.int .i64 (i : Int)] rfl rfl (.inr ⟨_, rfl, HB4.out.news⟩) (by intro u hu; rw [List.mem_singleton.1 hu]; rfl) (by unfold maxLen; have := HSL.out; have := HLT.out; have := HN20.out; omega) (by have := HSL.out; have := HLT.out; have := HN20.out; omega) (by have := HIy.out.2.2.2; have := HF4.out.size; omega) ?_; intro a5 c5 y5 HO5 HG5 HA5))
     have hfr : Fr No w y5 := (HIy.out.2.1.trans' HF4.out).grown HG5.out (fun k e => .inr (by have := (own_ge HIy.out.1 k e).1; rw [HBASE.out]; exact this))
     have hblk : Blk y5 base 77 (bb f 20) := (HIy.out.2.2.1.fr HF4.out id).grown HG5.out (fun e => HNB.out e.symm)
     have hown : y5.ownsRow base 3 1 (.slice a5 (L.length + 1) c5) (L.length + 1) (ints (L ++ [i])) := by
      have := HO5.out
      unfold ints at this ⊢
      rw [List.map_append]
      exact this
     have hnb : (Value.slice a5 (L.length + 1) c5).ownBlock ≠ some base := by
      rcases HA5.out with e | e
      ·rw [e]; exact HNB.out
      ·rw [e]
       intro e2
       cases e2
       have := HIy.out.2.2.2; have := HF4.out.size
       omega
     have hlen : (L ++ [i]).length = L.length + 1 := by simp
     refine ⟨⟨i + 1, a5, c5, by go_num, by rw [HE.out, hlen], HLT.out, hid (by rw [HE.out, hlen]; exact ⟨hown, hfr, hblk, hnb, by have := HIy.out.2.2.2; have := HF4.out.size; have := HG5.out.size; omega⟩)⟩, ?_⟩
     have := HLT.out
     simp [intOf]; omega
    ·have HE : Hid (stTo s f (i + 1) = L) := hid (by rw [HSTEP.out, if_neg (by rw [HST.out, HP.out, decide_eq_false hk]; simp)])
     have hkb : (c.kind == 1) = false := by rw [beq_eq_false_iff_ne]; exact hk
     clear hk
     go_wp2_with fail
     refine ⟨⟨i + 1, va, vcp, by go_num, by rw [HE.out], HLT.out, hid (by rw [HE.out]; exact ⟨HIy.out.1, HIy.out.2.1, HIy.out.2.2.1, HNB.out, HIy.out.2.2.2⟩)⟩, ?_⟩
     have := HLT.out
     simp [intOf]; omega
  ·obtain rfl : i = n := by omega
   have HSL := hid (stTo_len s f i)
   have HLTs : Hid (∀ k ∈ stTo s f i, k < 20) := hid (fun k hk => by have := stTo_lt hk; have := HN20.out; omega)
   have HLTc : Hid (∀ k ∈ stTo s f i, k < s.cls.length) := hid (fun k hk => by rw [HNN.out]; exact stTo_lt hk)
   obtain ⟨L, hL⟩ : ∃ L, stTo s f i = L := ⟨_, rfl⟩
   rw [hL] at HI HSL HLTs HLTc HR ⊢
   clear hL hi hlt
   by_cases h0 : L = []
   ·subst h0
    obtain rfl : R = false := HR.out.symm
    go_wp2_with fail
    go_ret
    exact ⟨rfl, HX.out.no HI.out.2.1, HI.out.2.1.no⟩
   ·obtain ⟨k, hk⟩ : ∃ k, L.getLast? = some k := by
     cases hl : L.getLast? with
     | none => exact absurd (List.getLast?_eq_none_iff.1 hl) h0
     | some k => exact ⟨k, rfl⟩
    have hkm : k ∈ L := List.mem_of_getLast? hk
    have HR2 : Hid (L.all (fun j => puts none_ (line s k) j) = R) := hid (by have h := HR.out; rw [hk] at h; exact h)
    obtain ⟨N, hN⟩ : ∃ N, L.length = N := ⟨_, rfl⟩
    have HN := hid hN
    have hNp : 0 < N := by rw [← hN]; exact List.length_pos_iff.2 h0
    obtain ⟨M, rfl⟩ : ∃ M, N = M + 1 := ⟨N - 1, by omega⟩
    have hM20 : (M : Int) < 20 := by have := HSL.out; have := HN20.out; omega
    have hM0 : (0 : Int) ≤ M := by omega
    rw [hN] at HI ⊢
    have hsl := HI.out.1
    have hkc : (ints L)[M]? = some (.int .i64 (k : Int)) := by
     unfold ints
     rw [List.getElem?_map]
     rw [List.getLast?_eq_getElem?, hN] at hk
     rw [show M + 1 - 1 = M from rfl] at hk
     rw [hk]
     rfl
    obtain ⟨ga, hga⟩ : ∃ g, va = some ⟨g, 0, none⟩ := by
     obtain ⟨a', c', e, -, hpos⟩ := own_form hsl
     cases e
     exact hpos hNp
    subst hga
    have hcap : M + 1 ≤ vcp := by
     rcases hsl.2 with ⟨e, -⟩ | ⟨g, cap, cur, e, -, -, h1, -⟩
     ·cases e
     ·cases e; exact h1
    have hcapi : (M : Int) < vcp := by omega
    have ck : wr.cell? ⟨ga, M, none⟩ = some (.int .i64 (k : Int)) := by
     have := hsl.cells (g := ga) rfl M _ hkc
     rwa [Addr.add_mid, Nat.zero_add] at this
    have HCK := hid ck
    have HKC := hid (HLTc.out k hkm)
    have hgas := own_ge hsl ga rfl
    have HGA := hid hgas
    have HX3 := hid (HX.out.no HI.out.2.1)
    have HXB3 : Hid (∀ k, X k → k < wr.heap.size) := hid (fun k hk => Nat.lt_of_lt_of_le (HXB.out k hk) HI.out.2.1.size)
    have HXN : Hid (¬ b = ga) := hid (by have := HBL.out; have := HBASE.out; omega)
    clear h0 hk hkm hN hsl hkc ck hNp hgas hcap
    go_wp2_with (first
     | ((with_reducible refine K.atO (.alloc 77) ?_); refine wpL_alloc rfl _ rfl _ zeroCs (bb none_ 20) rfl ?_; intro y2 HB2 HF2 HS2; refine Hid.out ?_))
    have ck2 : y2.cell? ⟨ga, M, none⟩ = some (.int .i64 (k : Int)) := HF2.out.cell HCK.out id
    obtain ⟨r, hr⟩ : ∃ r, wr.heap.size = r := ⟨_, rfl⟩
    rw [hr] at HB2 ⊢
    have HRR := hid (show w.heap.size ≤ r ∧ ga < r ∧ b < r from ⟨by rw [← hr]; exact HI.out.2.1.size, by have := HGA.out.2; omega, by have := HBL.out; have := HI.out.2.1.size; omega⟩)
    have HX4 : Hid (Sx y2 (Also X r) b s) := hid ((HX3.out.also (by omega)).no HF2.out)
    have HXB4 : Hid (∀ k, Also X r k → k < y2.heap.size) := hid (also_lt HXB3.out (by have := HS2.out; omega) (by have := HS2.out; omega))
    have HO4 := hid (own_fr HI.out.1 HF2.out (fun _ _ e => e))
    have HFR4 := hid (HI.out.2.1.trans' HF2.out)
    clear hr HF2 HS2
    refine hid ?_
    go_wp2_with fail
    refine (addLine_any (Also X r) b r s none_ k y2 HX4.out HXB4.out (.inr rfl) HB2.out HKC.out).mono ?_
    rintro e y3 ⟨rfl, hb3, hs3, f3⟩
    have HB3 := hid hb3; have HS3 := hid hs3
    have HFR5 : Hid (Fr (fun i => i = b) w y3) := hid (HFR4.out.no.trans f3 (fun i e => e.elim .inl (fun e => .inr (by have := HRR.out.1; omega))))
    have HO5 := hid (own_fr HO4.out f3 (fun i hi e => by
     have hi : i = ga := (Option.some.inj hi).symm
     rcases e with e | e
     ·exact HXN.out (by omega)
     ·have := HRR.out.2.1; omega))
    have HSL5 := hid (ints_sl HO5.out HN.out (by omega) (fun x v => v = .int .i64 (x : Int) ∧ x < 20) (fun x hx => ⟨rfl, HLTs.out x hx⟩))
    clear hb3 hs3 f3 ck2
    have HCN := hid (containsN (α := Nat) 52 [.pointer (some ⟨r, 0, none⟩)] (fun x => !puts none_ (line s k) x) (fun w' x v => (v = .int .i64 (x : Int) ∧ x < 20) ∧ Blk w' r 77 (bb (puts none_ (line s k)) 20)) No (fun w' => Fr No y3 w') (fun i => base ≤ i) (.slice (some ⟨ga, 0, none⟩) (M + 1) vcp) L y3
     (fun w w' x c h hf => ⟨h.1, h.2.fr hf id⟩) (fun _ _ _ e => e) (Fr.refl _ _) (Sl.fr HSL5.out (Fr.refl No y3) (fun _ _ _ e => e) (fun x c _ h => by obtain ⟨v, e, h⟩ := h; exact ⟨v, e, h, HB3.out⟩)) (fun vs w => by kernel_rfl)
     (fun x _ c wv hp hi _ => by
      obtain ⟨⟨rfl, hx20⟩, hbk⟩ := hp
      exact (notIn_any _ x r wv hx20 hbk).mono fun e w' ⟨h1, h2⟩ => by subst h2; exact ⟨h1, hi, Fr.refl _ _⟩))
    rw [any_not, HR2.out] at HCN
    go_wp2_with fail
    refine HCN.out.mono ?_
    rintro e y6 ⟨rfl, -, f6⟩
    have HF6 := hid f6
    clear f6 HCN
    go_wp2_with fail
    go_ret
    exact ⟨rfl, (HS3.out.less (fun _ hk => .inl hk)).no HF6.out, HFR5.out.trans' HF6.out.no⟩
end Go.Proofs.YtgbiicipkbpmeaaGreatDoor.SC
