/-
  Part 22 of the proof: FtT.
-/
import Derived.Test.YtdkkpfeiaaffhaaGreatDoorFb20
import Derived.Test.YtdkkpfeiaaffhaaGreatDoorFb21
import Derived.Test.YtdkkpfeiaaffhaaGreatDoorFb14
set_option linter.unusedSimpArgs false
set_option linter.unusedVariables false
namespace Go.Proofs.YtdkkpfeiaaffhaaGreatDoor.FT
set_option maxRecDepth 100000
open Go.RowKit K Go.Proofs.YtdkkpfeiaaffhaaGreatDoor.BE Go.Proofs.YtdkkpfeiaaffhaaGreatDoor.DN Go.Proofs.YtdkkpfeiaaffhaaGreatDoor.SC

theorem esc_no (c : UInt8) (h : isEsc c = false) : ((c.toNat : Int) == 40) = false ∧ ((c.toNat : Int) == 41) = false ∧ ((c.toNat : Int) == 42) = false ∧ ((c.toNat : Int) == 92) = false ∧ ((c.toNat : Int) == 0) = false := by
  have := u8_all (fun c => isEsc c || (c.toNat != 40 && c.toNat != 41 && c.toNat != 42 && c.toNat != 92 && c.toNat != 0)) (by decide +kernel) c
  rw [h, Bool.false_or] at this
  simp only [Bool.and_eq_true, bne_iff_ne, ne_eq] at this
  exact ⟨beqN (by omega), beqN (by omega), beqN (by omega), beqN (by omega), beqN (by omega)⟩
theorem esc_yes (c : UInt8) (h : isEsc c = true) : c = 40 ∨ c = 41 ∨ c = 42 ∨ c = 92 ∨ c = 0 := by
  unfold isEsc at h
  simpa [or_assoc] using h
set_option maxHeartbeats 16000000 in
theorem escaped_any (s : B) (hs : s.length ≤ 1099511627776) (w : World) : Calls Tryz.prog 96 #[.string (sb s)] w fun e w' => e = .returned (.string (sb (escF s))) ∧ Fr No w w' := by
  obtain ⟨S, hS⟩ : ∃ S, sb s = S := ⟨_, rfl⟩
  obtain ⟨n, hn⟩ : ∃ n, s.length = n := ⟨_, rfl⟩
  have hsz : (S.size : Int) = n := by rw [← hS, sb_size, hn]
  have hni : (n : Int) ≤ 1099511627776 := by omega
  have HS := hid hS; have HN := hid hn
  rw [hS]
  clear hS hn hs
  go_enter Tryz.func96, Tryz.ntmps96
  go_wp2_with fail
  go_loopw [3, 8] (fun dv iv wr => ∃ (i al : Nat), iv = .int .i64 i ∧ i ≤ n ∧ al ≤ 3 * n ∧ Hid (OwR 5 1 w wr dv al (u8s (escF (s.take i)))) ∧ Hid ((escF (s.take i)).length = al)) (fun _ iv _ => n - (intOf iv).toNat)
  case atStart => exact ⟨0, 0, rfl, Nat.zero_le _, Nat.zero_le _, hid (owR_nil (Fr.refl _ _)), hid rfl⟩
  case round =>
    obtain ⟨i, al, rfl, hi, hal, HO, HAL⟩ := hrel
    obtain ⟨va, vc, rfl⟩ := HO.out.1
    have hali : (al : Int) ≤ 3298534883328 := by omega
    have hal0 : (0 : Int) ≤ al := by omega
    by_cases hlt : i < n
    · obtain ⟨c, hc⟩ : ∃ c, s[i]? = some c := ⟨_, List.getElem?_eq_getElem (by rw [HN.out]; exact hlt)⟩
      have hlti : (i : Int) < n := by omega
      have hi0 : (0 : Int) ≤ i := by omega
      have HLT := hid hlt
      have HNX : Hid (escF (s.take (i + 1)) = escF (s.take i) ++ escB c) := hid (by rw [List.take_add_one, hc, Option.toList_some, escF_snoc])
      have HLN : Hid ((escF (s.take (i + 1))).length ≤ 3 * n) := hid (by rw [← HN.out]; exact escF_take s _)
      clear hal hlt
      cases he : isEsc c with
      | false =>
        have HE : Hid (escB c = [c]) := hid (by unfold escB; rw [he]; rfl)
        obtain ⟨e0, e1, e2, e3, e4⟩ := esc_no c he
        have HC := hid hc
        clear hc he
        go_wp2_with (first
          | ((with_reducible refine K.atO (.index 9 _ _) ?_); refine wpL_valZ rfl (.int .u8 (c.toNat : Int)) (exec_idxB _ _ rfl s HS.out i c HC.out _ rfl rfl rfl _) ?_)
          | ((with_reducible refine K.atO (.buildSlice 119 _ _) ?_); refine wpL_app1 rfl rfl _ _ _ 119 5 rfl rfl Tryz.underlying119 infoU rfl (by decide) (by decide) HO.out (.int .u8 (c.toNat : Int)) [.int .u8 (c.toNat : Int)] rfl rfl rfl (by simp [Value.oneCell']) (fun _ => rfl) (fun _ => rfl) (by omega) (by omega) ?_; intro q a4 c4 w4 HO4 HF4)
          | fail)
        have HL4 : Hid ((escF (s.take (i + 1))).length = al + 1) := hid (by rw [HNX.out, HE.out, List.length_append, HAL.out]; rfl)
        refine ⟨⟨i + 1, al + 1, by go_num, HLT.out, by rw [← HL4.out]; exact HLN.out, hid ?_, HL4⟩, by have := HLT.out; simp [intOf]; omega⟩
        have h := HO4.out
        rw [HNX.out, HE.out]
        rwa [show u8s (escF (s.take i)) ++ [Value.int .u8 (c.toNat : Int)] = u8s (escF (s.take i) ++ [c]) by simp [u8s]] at h
      | true =>
        have HC := hid hc
        have hcs := esc_yes c he
        clear hc he
        rcases hcs with rfl | rfl | rfl | rfl | rfl
        · have HE : Hid (escB 40 = [92, 50, 56]) := hid (by decide)
          go_wp2_with (first
            | ((with_reducible refine K.atO (.index 9 _ _) ?_); refine wpL_valZ rfl (.int .u8 40) (exec_idxB _ _ rfl s HS.out i 40 HC.out _ rfl rfl rfl _) ?_)
            | fail)
          have hold : Facts.hold [] wr.drew := Facts.nil_hold _
          refine wpD_region hold (by kernel_rfl) 10 rfl ?_
          (refine wpD_plain 0 (v := ?_) rfl (by kernel_rfl) (by kernel_rfl) (by kernel_rfl) (fun _ _ _ h => h) (by rfl) ?_ (by assumption) ?_; rotate_left; (intro _w; go_simp; try with_reducible rfl); simp only [Act.put, K.put3])
          (refine wpD_plain 1 (v := ?_) rfl (by kernel_rfl) (by kernel_rfl) (by kernel_rfl) (fun _ _ _ h => h) (by rfl) ?_ (by assumption) ?_; rotate_left; (intro _w; go_simp; try with_reducible rfl); simp only [Act.put, K.put3])
          (refine wpD_plain 2 (v := (.int .u8 2)) rfl (by kernel_rfl) (by kernel_rfl) (by kernel_rfl) (fun _ _ _ h => h) (by rfl) ?_ (by assumption) ?_; (intro _w; kernel_rfl); simp only [Act.put, K.put3])
          (refine wpD_plain 3 (v := (.int .u8 50)) rfl (by kernel_rfl) (by kernel_rfl) (by kernel_rfl) (fun _ _ _ h => h) (by rfl) ?_ (by assumption) ?_; (intro _w; kernel_rfl); simp only [Act.put, K.put3])
          (refine wpD_plain 4 (v := ?_) rfl (by kernel_rfl) (by kernel_rfl) (by kernel_rfl) (fun _ _ _ h => h) (by rfl) ?_ (by assumption) ?_; rotate_left; (intro _w; go_simp; try with_reducible rfl); simp only [Act.put, K.put3])
          (refine wpD_plain 5 (v := (.int .u8 8)) rfl (by kernel_rfl) (by kernel_rfl) (by kernel_rfl) (fun _ _ _ h => h) (by rfl) ?_ (by assumption) ?_; (intro _w; kernel_rfl); simp only [Act.put, K.put3])
          (refine wpD_plain 6 (v := (.int .u8 56)) rfl (by kernel_rfl) (by kernel_rfl) (by kernel_rfl) (fun _ _ _ h => h) (by rfl) ?_ (by assumption) ?_; (intro _w; kernel_rfl); simp only [Act.put, K.put3])
          clear hold
          refine wpD_only 7 [] rfl (by kernel_rfl) (by kernel_rfl) (by rfl) (fun K7 hK7 => ?_)
          refine wp_buildRun 119 5 3 [(0, .const (.int .u8 92)), (1, .tmp 28), (2, .tmp 31)] rfl [.int .u8 92, .int .u8 50, .int .u8 56] (by
            have := run_bytes [.int .u8 92, .int .u8 50, .int .u8 56] (by simp) (by simp) (by simp) wr.drew
            exact this) ?_
          intro w3 HB3 HF3 HS3
          refine hK7 _ _ (Facts.nil_hold _) ?_
          clear hK7 K7
          simp only [Act.put, K.put3]
          have HO3 : Hid (OwR 5 1 w w3 (.slice va al vc) al (u8s (escF (s.take i)))) := hid (OwR.no HO.out ((Fr.refl No wr).drew.trans' HF3.out))
          refine wpD_only 8 [] rfl (by kernel_rfl) (by kernel_rfl) (by rfl) (fun K8 hK8 => ?_)
          refine wp_appR _ _ 119 5 rfl Tryz.underlying119 infoU rfl (by decide) HO3.out rfl wr.heap.size 3 3 _ rfl rfl HB3.out (by simp [Value.oneCell']) (by omega) (by omega) ?_
          intro a4 c4 w4 HO4 HF4
          refine hK8 _ _ (Facts.nil_hold _) ?_
          clear hK8 K8
          simp only [Act.put, K.put3]
          have hold : Facts.hold [] w4 := Facts.nil_hold _
          (refine wpD_plain 9 (v := ?_) rfl (by kernel_rfl) (by kernel_rfl) (by kernel_rfl) (fun _ _ _ h => h) (by rfl) ?_ (by assumption) ?_; rotate_left; (intro _w; go_simp; try with_reducible rfl); simp only [Act.put, K.put3])
          clear hold
          refine wpD_done (by kernel_rfl) ?_ _
          go_wp2_with fail
          have HL4 : Hid ((escF (s.take (i + 1))).length = al + 3) := hid (by rw [HNX.out, HE.out, List.length_append, HAL.out]; rfl)
          refine ⟨⟨i + 1, al + 3, by go_num, HLT.out, by rw [← HL4.out]; exact HLN.out, hid ?_, HL4⟩, by have := HLT.out; simp [intOf]; omega⟩
          have h := HO4.out
          rw [HNX.out, HE.out]
          rwa [show u8s (escF (s.take i)) ++ [Value.int .u8 92, .int .u8 50, .int .u8 56] = u8s (escF (s.take i) ++ [92, 50, 56]) by simp [u8s]] at h
        · have HE : Hid (escB 41 = [92, 50, 57]) := hid (by decide)
          go_wp2_with (first
            | ((with_reducible refine K.atO (.index 9 _ _) ?_); refine wpL_valZ rfl (.int .u8 41) (exec_idxB _ _ rfl s HS.out i 41 HC.out _ rfl rfl rfl _) ?_)
            | fail)
          have hold : Facts.hold [] wr.drew := Facts.nil_hold _
          refine wpD_region hold (by kernel_rfl) 10 rfl ?_
          (refine wpD_plain 0 (v := ?_) rfl (by kernel_rfl) (by kernel_rfl) (by kernel_rfl) (fun _ _ _ h => h) (by rfl) ?_ (by assumption) ?_; rotate_left; (intro _w; go_simp; try with_reducible rfl); simp only [Act.put, K.put3])
          (refine wpD_plain 1 (v := ?_) rfl (by kernel_rfl) (by kernel_rfl) (by kernel_rfl) (fun _ _ _ h => h) (by rfl) ?_ (by assumption) ?_; rotate_left; (intro _w; go_simp; try with_reducible rfl); simp only [Act.put, K.put3])
          (refine wpD_plain 2 (v := (.int .u8 2)) rfl (by kernel_rfl) (by kernel_rfl) (by kernel_rfl) (fun _ _ _ h => h) (by rfl) ?_ (by assumption) ?_; (intro _w; kernel_rfl); simp only [Act.put, K.put3])
          (refine wpD_plain 3 (v := (.int .u8 50)) rfl (by kernel_rfl) (by kernel_rfl) (by kernel_rfl) (fun _ _ _ h => h) (by rfl) ?_ (by assumption) ?_; (intro _w; kernel_rfl); simp only [Act.put, K.put3])
          (refine wpD_plain 4 (v := ?_) rfl (by kernel_rfl) (by kernel_rfl) (by kernel_rfl) (fun _ _ _ h => h) (by rfl) ?_ (by assumption) ?_; rotate_left; (intro _w; go_simp; try with_reducible rfl); simp only [Act.put, K.put3])
          (refine wpD_plain 5 (v := (.int .u8 9)) rfl (by kernel_rfl) (by kernel_rfl) (by kernel_rfl) (fun _ _ _ h => h) (by rfl) ?_ (by assumption) ?_; (intro _w; kernel_rfl); simp only [Act.put, K.put3])
          (refine wpD_plain 6 (v := (.int .u8 57)) rfl (by kernel_rfl) (by kernel_rfl) (by kernel_rfl) (fun _ _ _ h => h) (by rfl) ?_ (by assumption) ?_; (intro _w; kernel_rfl); simp only [Act.put, K.put3])
          clear hold
          refine wpD_only 7 [] rfl (by kernel_rfl) (by kernel_rfl) (by rfl) (fun K7 hK7 => ?_)
          refine wp_buildRun 119 5 3 [(0, .const (.int .u8 92)), (1, .tmp 28), (2, .tmp 31)] rfl [.int .u8 92, .int .u8 50, .int .u8 57] (by
            have := run_bytes [.int .u8 92, .int .u8 50, .int .u8 57] (by simp) (by simp) (by simp) wr.drew
            exact this) ?_
          intro w3 HB3 HF3 HS3
          refine hK7 _ _ (Facts.nil_hold _) ?_
          clear hK7 K7
          simp only [Act.put, K.put3]
          have HO3 : Hid (OwR 5 1 w w3 (.slice va al vc) al (u8s (escF (s.take i)))) := hid (OwR.no HO.out ((Fr.refl No wr).drew.trans' HF3.out))
          refine wpD_only 8 [] rfl (by kernel_rfl) (by kernel_rfl) (by rfl) (fun K8 hK8 => ?_)
          refine wp_appR _ _ 119 5 rfl Tryz.underlying119 infoU rfl (by decide) HO3.out rfl wr.heap.size 3 3 _ rfl rfl HB3.out (by simp [Value.oneCell']) (by omega) (by omega) ?_
          intro a4 c4 w4 HO4 HF4
          refine hK8 _ _ (Facts.nil_hold _) ?_
          clear hK8 K8
          simp only [Act.put, K.put3]
          have hold : Facts.hold [] w4 := Facts.nil_hold _
          (refine wpD_plain 9 (v := ?_) rfl (by kernel_rfl) (by kernel_rfl) (by kernel_rfl) (fun _ _ _ h => h) (by rfl) ?_ (by assumption) ?_; rotate_left; (intro _w; go_simp; try with_reducible rfl); simp only [Act.put, K.put3])
          clear hold
          refine wpD_done (by kernel_rfl) ?_ _
          go_wp2_with fail
          have HL4 : Hid ((escF (s.take (i + 1))).length = al + 3) := hid (by rw [HNX.out, HE.out, List.length_append, HAL.out]; rfl)
          refine ⟨⟨i + 1, al + 3, by go_num, HLT.out, by rw [← HL4.out]; exact HLN.out, hid ?_, HL4⟩, by have := HLT.out; simp [intOf]; omega⟩
          have h := HO4.out
          rw [HNX.out, HE.out]
          rwa [show u8s (escF (s.take i)) ++ [Value.int .u8 92, .int .u8 50, .int .u8 57] = u8s (escF (s.take i) ++ [92, 50, 57]) by simp [u8s]] at h
        · have HE : Hid (escB 42 = [92, 50, 97]) := hid (by decide)
          go_wp2_with (first
            | ((with_reducible refine K.atO (.index 9 _ _) ?_); refine wpL_valZ rfl (.int .u8 42) (exec_idxB _ _ rfl s HS.out i 42 HC.out _ rfl rfl rfl _) ?_)
            | fail)
          have hold : Facts.hold [] wr.drew := Facts.nil_hold _
          refine wpD_region hold (by kernel_rfl) 10 rfl ?_
          (refine wpD_plain 0 (v := ?_) rfl (by kernel_rfl) (by kernel_rfl) (by kernel_rfl) (fun _ _ _ h => h) (by rfl) ?_ (by assumption) ?_; rotate_left; (intro _w; go_simp; try with_reducible rfl); simp only [Act.put, K.put3])
          (refine wpD_plain 1 (v := ?_) rfl (by kernel_rfl) (by kernel_rfl) (by kernel_rfl) (fun _ _ _ h => h) (by rfl) ?_ (by assumption) ?_; rotate_left; (intro _w; go_simp; try with_reducible rfl); simp only [Act.put, K.put3])
          (refine wpD_plain 2 (v := (.int .u8 2)) rfl (by kernel_rfl) (by kernel_rfl) (by kernel_rfl) (fun _ _ _ h => h) (by rfl) ?_ (by assumption) ?_; (intro _w; kernel_rfl); simp only [Act.put, K.put3])
          (refine wpD_plain 3 (v := (.int .u8 50)) rfl (by kernel_rfl) (by kernel_rfl) (by kernel_rfl) (fun _ _ _ h => h) (by rfl) ?_ (by assumption) ?_; (intro _w; kernel_rfl); simp only [Act.put, K.put3])
          (refine wpD_plain 4 (v := ?_) rfl (by kernel_rfl) (by kernel_rfl) (by kernel_rfl) (fun _ _ _ h => h) (by rfl) ?_ (by assumption) ?_; rotate_left; (intro _w; go_simp; try with_reducible rfl); simp only [Act.put, K.put3])
          (refine wpD_plain 5 (v := (.int .u8 10)) rfl (by kernel_rfl) (by kernel_rfl) (by kernel_rfl) (fun _ _ _ h => h) (by rfl) ?_ (by assumption) ?_; (intro _w; kernel_rfl); simp only [Act.put, K.put3])
          (refine wpD_plain 6 (v := (.int .u8 97)) rfl (by kernel_rfl) (by kernel_rfl) (by kernel_rfl) (fun _ _ _ h => h) (by rfl) ?_ (by assumption) ?_; (intro _w; kernel_rfl); simp only [Act.put, K.put3])
          clear hold
          refine wpD_only 7 [] rfl (by kernel_rfl) (by kernel_rfl) (by rfl) (fun K7 hK7 => ?_)
          refine wp_buildRun 119 5 3 [(0, .const (.int .u8 92)), (1, .tmp 28), (2, .tmp 31)] rfl [.int .u8 92, .int .u8 50, .int .u8 97] (by
            have := run_bytes [.int .u8 92, .int .u8 50, .int .u8 97] (by simp) (by simp) (by simp) wr.drew
            exact this) ?_
          intro w3 HB3 HF3 HS3
          refine hK7 _ _ (Facts.nil_hold _) ?_
          clear hK7 K7
          simp only [Act.put, K.put3]
          have HO3 : Hid (OwR 5 1 w w3 (.slice va al vc) al (u8s (escF (s.take i)))) := hid (OwR.no HO.out ((Fr.refl No wr).drew.trans' HF3.out))
          refine wpD_only 8 [] rfl (by kernel_rfl) (by kernel_rfl) (by rfl) (fun K8 hK8 => ?_)
          refine wp_appR _ _ 119 5 rfl Tryz.underlying119 infoU rfl (by decide) HO3.out rfl wr.heap.size 3 3 _ rfl rfl HB3.out (by simp [Value.oneCell']) (by omega) (by omega) ?_
          intro a4 c4 w4 HO4 HF4
          refine hK8 _ _ (Facts.nil_hold _) ?_
          clear hK8 K8
          simp only [Act.put, K.put3]
          have hold : Facts.hold [] w4 := Facts.nil_hold _
          (refine wpD_plain 9 (v := ?_) rfl (by kernel_rfl) (by kernel_rfl) (by kernel_rfl) (fun _ _ _ h => h) (by rfl) ?_ (by assumption) ?_; rotate_left; (intro _w; go_simp; try with_reducible rfl); simp only [Act.put, K.put3])
          clear hold
          refine wpD_done (by kernel_rfl) ?_ _
          go_wp2_with fail
          have HL4 : Hid ((escF (s.take (i + 1))).length = al + 3) := hid (by rw [HNX.out, HE.out, List.length_append, HAL.out]; rfl)
          refine ⟨⟨i + 1, al + 3, by go_num, HLT.out, by rw [← HL4.out]; exact HLN.out, hid ?_, HL4⟩, by have := HLT.out; simp [intOf]; omega⟩
          have h := HO4.out
          rw [HNX.out, HE.out]
          rwa [show u8s (escF (s.take i)) ++ [Value.int .u8 92, .int .u8 50, .int .u8 97] = u8s (escF (s.take i) ++ [92, 50, 97]) by simp [u8s]] at h
        · have HE : Hid (escB 92 = [92, 53, 99]) := hid (by decide)
          go_wp2_with (first
            | ((with_reducible refine K.atO (.index 9 _ _) ?_); refine wpL_valZ rfl (.int .u8 92) (exec_idxB _ _ rfl s HS.out i 92 HC.out _ rfl rfl rfl _) ?_)
            | fail)
          have hold : Facts.hold [] wr.drew := Facts.nil_hold _
          refine wpD_region hold (by kernel_rfl) 10 rfl ?_
          (refine wpD_plain 0 (v := ?_) rfl (by kernel_rfl) (by kernel_rfl) (by kernel_rfl) (fun _ _ _ h => h) (by rfl) ?_ (by assumption) ?_; rotate_left; (intro _w; go_simp; try with_reducible rfl); simp only [Act.put, K.put3])
          (refine wpD_plain 1 (v := ?_) rfl (by kernel_rfl) (by kernel_rfl) (by kernel_rfl) (fun _ _ _ h => h) (by rfl) ?_ (by assumption) ?_; rotate_left; (intro _w; go_simp; try with_reducible rfl); simp only [Act.put, K.put3])
          (refine wpD_plain 2 (v := (.int .u8 5)) rfl (by kernel_rfl) (by kernel_rfl) (by kernel_rfl) (fun _ _ _ h => h) (by rfl) ?_ (by assumption) ?_; (intro _w; kernel_rfl); simp only [Act.put, K.put3])
          (refine wpD_plain 3 (v := (.int .u8 53)) rfl (by kernel_rfl) (by kernel_rfl) (by kernel_rfl) (fun _ _ _ h => h) (by rfl) ?_ (by assumption) ?_; (intro _w; kernel_rfl); simp only [Act.put, K.put3])
          (refine wpD_plain 4 (v := ?_) rfl (by kernel_rfl) (by kernel_rfl) (by kernel_rfl) (fun _ _ _ h => h) (by rfl) ?_ (by assumption) ?_; rotate_left; (intro _w; go_simp; try with_reducible rfl); simp only [Act.put, K.put3])
          (refine wpD_plain 5 (v := (.int .u8 12)) rfl (by kernel_rfl) (by kernel_rfl) (by kernel_rfl) (fun _ _ _ h => h) (by rfl) ?_ (by assumption) ?_; (intro _w; kernel_rfl); simp only [Act.put, K.put3])
          (refine wpD_plain 6 (v := (.int .u8 99)) rfl (by kernel_rfl) (by kernel_rfl) (by kernel_rfl) (fun _ _ _ h => h) (by rfl) ?_ (by assumption) ?_; (intro _w; kernel_rfl); simp only [Act.put, K.put3])
          clear hold
          refine wpD_only 7 [] rfl (by kernel_rfl) (by kernel_rfl) (by rfl) (fun K7 hK7 => ?_)
          refine wp_buildRun 119 5 3 [(0, .const (.int .u8 92)), (1, .tmp 28), (2, .tmp 31)] rfl [.int .u8 92, .int .u8 53, .int .u8 99] (by
            have := run_bytes [.int .u8 92, .int .u8 53, .int .u8 99] (by simp) (by simp) (by simp) wr.drew
            exact this) ?_
          intro w3 HB3 HF3 HS3
          refine hK7 _ _ (Facts.nil_hold _) ?_
          clear hK7 K7
          simp only [Act.put, K.put3]
          have HO3 : Hid (OwR 5 1 w w3 (.slice va al vc) al (u8s (escF (s.take i)))) := hid (OwR.no HO.out ((Fr.refl No wr).drew.trans' HF3.out))
          refine wpD_only 8 [] rfl (by kernel_rfl) (by kernel_rfl) (by rfl) (fun K8 hK8 => ?_)
          refine wp_appR _ _ 119 5 rfl Tryz.underlying119 infoU rfl (by decide) HO3.out rfl wr.heap.size 3 3 _ rfl rfl HB3.out (by simp [Value.oneCell']) (by omega) (by omega) ?_
          intro a4 c4 w4 HO4 HF4
          refine hK8 _ _ (Facts.nil_hold _) ?_
          clear hK8 K8
          simp only [Act.put, K.put3]
          have hold : Facts.hold [] w4 := Facts.nil_hold _
          (refine wpD_plain 9 (v := ?_) rfl (by kernel_rfl) (by kernel_rfl) (by kernel_rfl) (fun _ _ _ h => h) (by rfl) ?_ (by assumption) ?_; rotate_left; (intro _w; go_simp; try with_reducible rfl); simp only [Act.put, K.put3])
          clear hold
          refine wpD_done (by kernel_rfl) ?_ _
          go_wp2_with fail
          have HL4 : Hid ((escF (s.take (i + 1))).length = al + 3) := hid (by rw [HNX.out, HE.out, List.length_append, HAL.out]; rfl)
          refine ⟨⟨i + 1, al + 3, by go_num, HLT.out, by rw [← HL4.out]; exact HLN.out, hid ?_, HL4⟩, by have := HLT.out; simp [intOf]; omega⟩
          have h := HO4.out
          rw [HNX.out, HE.out]
          rwa [show u8s (escF (s.take i)) ++ [Value.int .u8 92, .int .u8 53, .int .u8 99] = u8s (escF (s.take i) ++ [92, 53, 99]) by simp [u8s]] at h
        · have HE : Hid (escB 0 = [92, 48, 48]) := hid (by decide)
          go_wp2_with (first
            | ((with_reducible refine K.atO (.index 9 _ _) ?_); refine wpL_valZ rfl (.int .u8 0) (exec_idxB _ _ rfl s HS.out i 0 HC.out _ rfl rfl rfl _) ?_)
            | fail)
          have hold : Facts.hold [] wr.drew := Facts.nil_hold _
          refine wpD_region hold (by kernel_rfl) 10 rfl ?_
          (refine wpD_plain 0 (v := ?_) rfl (by kernel_rfl) (by kernel_rfl) (by kernel_rfl) (fun _ _ _ h => h) (by rfl) ?_ (by assumption) ?_; rotate_left; (intro _w; go_simp; try with_reducible rfl); simp only [Act.put, K.put3])
          (refine wpD_plain 1 (v := ?_) rfl (by kernel_rfl) (by kernel_rfl) (by kernel_rfl) (fun _ _ _ h => h) (by rfl) ?_ (by assumption) ?_; rotate_left; (intro _w; go_simp; try with_reducible rfl); simp only [Act.put, K.put3])
          (refine wpD_plain 2 (v := (.int .u8 0)) rfl (by kernel_rfl) (by kernel_rfl) (by kernel_rfl) (fun _ _ _ h => h) (by rfl) ?_ (by assumption) ?_; (intro _w; kernel_rfl); simp only [Act.put, K.put3])
          (refine wpD_plain 3 (v := (.int .u8 48)) rfl (by kernel_rfl) (by kernel_rfl) (by kernel_rfl) (fun _ _ _ h => h) (by rfl) ?_ (by assumption) ?_; (intro _w; kernel_rfl); simp only [Act.put, K.put3])
          (refine wpD_plain 4 (v := ?_) rfl (by kernel_rfl) (by kernel_rfl) (by kernel_rfl) (fun _ _ _ h => h) (by rfl) ?_ (by assumption) ?_; rotate_left; (intro _w; go_simp; try with_reducible rfl); simp only [Act.put, K.put3])
          (refine wpD_plain 5 (v := (.int .u8 0)) rfl (by kernel_rfl) (by kernel_rfl) (by kernel_rfl) (fun _ _ _ h => h) (by rfl) ?_ (by assumption) ?_; (intro _w; kernel_rfl); simp only [Act.put, K.put3])
          (refine wpD_plain 6 (v := (.int .u8 48)) rfl (by kernel_rfl) (by kernel_rfl) (by kernel_rfl) (fun _ _ _ h => h) (by rfl) ?_ (by assumption) ?_; (intro _w; kernel_rfl); simp only [Act.put, K.put3])
          clear hold
          refine wpD_only 7 [] rfl (by kernel_rfl) (by kernel_rfl) (by rfl) (fun K7 hK7 => ?_)
          refine wp_buildRun 119 5 3 [(0, .const (.int .u8 92)), (1, .tmp 28), (2, .tmp 31)] rfl [.int .u8 92, .int .u8 48, .int .u8 48] (by
            have := run_bytes [.int .u8 92, .int .u8 48, .int .u8 48] (by simp) (by simp) (by simp) wr.drew
            exact this) ?_
          intro w3 HB3 HF3 HS3
          refine hK7 _ _ (Facts.nil_hold _) ?_
          clear hK7 K7
          simp only [Act.put, K.put3]
          have HO3 : Hid (OwR 5 1 w w3 (.slice va al vc) al (u8s (escF (s.take i)))) := hid (OwR.no HO.out ((Fr.refl No wr).drew.trans' HF3.out))
          refine wpD_only 8 [] rfl (by kernel_rfl) (by kernel_rfl) (by rfl) (fun K8 hK8 => ?_)
          refine wp_appR _ _ 119 5 rfl Tryz.underlying119 infoU rfl (by decide) HO3.out rfl wr.heap.size 3 3 _ rfl rfl HB3.out (by simp [Value.oneCell']) (by omega) (by omega) ?_
          intro a4 c4 w4 HO4 HF4
          refine hK8 _ _ (Facts.nil_hold _) ?_
          clear hK8 K8
          simp only [Act.put, K.put3]
          have hold : Facts.hold [] w4 := Facts.nil_hold _
          (refine wpD_plain 9 (v := ?_) rfl (by kernel_rfl) (by kernel_rfl) (by kernel_rfl) (fun _ _ _ h => h) (by rfl) ?_ (by assumption) ?_; rotate_left; (intro _w; go_simp; try with_reducible rfl); simp only [Act.put, K.put3])
          clear hold
          refine wpD_done (by kernel_rfl) ?_ _
          go_wp2_with fail
          have HL4 : Hid ((escF (s.take (i + 1))).length = al + 3) := hid (by rw [HNX.out, HE.out, List.length_append, HAL.out]; rfl)
          refine ⟨⟨i + 1, al + 3, by go_num, HLT.out, by rw [← HL4.out]; exact HLN.out, hid ?_, HL4⟩, by have := HLT.out; simp [intOf]; omega⟩
          have h := HO4.out
          rw [HNX.out, HE.out]
          rwa [show u8s (escF (s.take i)) ++ [Value.int .u8 92, .int .u8 48, .int .u8 48] = u8s (escF (s.take i) ++ [92, 48, 48]) by simp [u8s]] at h
    · obtain rfl : i = n := by omega
      have hall : s.take i = s := List.take_of_length_le (by rw [HN.out]; exact Nat.le_refl _)
      have HO2 : Hid (OwR 5 1 w wr (.slice va al vc) (escF s).length (u8s (escF s))) := hid (by
        have h := HO.out
        have h2 := HAL.out
        rw [hall] at h h2
        rw [h2]
        exact h)
      have HDEN := hid (owR_bytes HO2.out)
      clear hall hlt
      go_wp2_with (first
        | ((with_reducible refine K.atO (.convert _ 9 _) ?_); refine wpL_stringOf rfl _ _ _ _ rfl _ _ (escF s) rfl HDEN.out Tryz.underlying119 Tryz.underlying5 Tryz.underlying9 ?_)
        | fail)
      go_ret
      exact ⟨rfl, HO.out.fr⟩
theorem part_any (s : B) (hs : s.length ≤ 1099511627776) (w : World) : Calls Tryz.prog 144 #[.string (sb s)] w fun e w' => e = .returned (.string (sb (escF s ++ [42]))) ∧ Fr No w w' := by
  have H := hid (escaped_any s hs w)
  have HL : Hid ((escF s).length ≤ 3298534883328) := hid (Nat.le_trans (escF_len s) (by omega))
  clear hs
  go_enter Tryz.func144, Tryz.ntmps144
  go_wp2_with fail
  refine H.out.mono ?_
  rintro e w1 ⟨rfl, f1⟩
  have HF := hid f1
  clear f1
  go_wp2_with (first
    | ((with_reducible refine K.atO (.binOp .add 9 _ _ _) ?_); refine wpL_valZ rfl (.string (sb (escF s ++ [42]))) (exec_addS _ _ _ rfl (escF s) [42] rfl rfl (by have := HL.out; simp; omega) _ rfl _) ?_)
    | fail)
  go_ret
  exact ⟨rfl, HF.out⟩
/-! ### texts -/
theorem bw_new (w : World) (b : Nat) (h : Blk w b 166 [.pointer none, .slice none 0 0]) : BW (b + 1) b [] w := ⟨by omega, _, _, h, .inl rfl, World.ownsRow_nil _ _ _ _⟩
set_option maxHeartbeats 16000000 in
theorem textsS_any {E : Nat → Prop} (v0 : Value) (X : List B) (w : World) (h0 : LsIn E w v0 X) (hs : ∀ x ∈ X, x.length ≤ 1099511627776) (hlen : (anyT X).length ≤ 1099511627776) :
    Calls Tryz.prog 143 #[v0, .func (.func 144) #[] #[]] w fun e w' => e = .returned (.string (sb (anyT X))) ∧ Fr No w w' := by
  obtain ⟨a, c, rfl, -, hl0⟩ := h0.form
  have HX0 := hid h0
  obtain ⟨n, hn⟩ : ∃ n, X.length = n := ⟨_, rfl⟩
  rw [hn] at HX0 hl0 ⊢
  have HNN := hid hn; have HLEN := hid hlen; have HSS := hid hs
  have hni : (n : Int) ≤ 140737488351232 := by omega
  clear h0 hn hlen hs
  go_enter Tryz.func143, Tryz.ntmps143
  go_wp2_with (first
    | ((with_reducible refine K.atO (.alloc 166) ?_); refine wpL_alloc rfl _ rfl _ zeroBd [.pointer none, .slice none 0 0] rfl ?_; intro w1 HB1 F1 HS1; refine Hid.out ?_)
    | fail)
  obtain ⟨b, hb⟩ : ∃ b, w.heap.size = b := ⟨_, rfl⟩
  rw [hb] at HB1 HS1 ⊢
  have HWB := hid hb
  have HBW1 := hid (bw_new w1 b HB1.out)
  clear hb HB1
  refine hid ?_
  go_wp2_with fail
  go_loopw [10] (fun iv wr => ∃ (i : Nat), iv = .int .i64 i ∧ i ≤ n ∧ Hid (BW (b + 1) b (anyT (X.take i)) wr ∧ Fr No w wr ∧ b + 1 ≤ wr.heap.size)) (fun iv _ => n - (intOf iv).toNat)
  case atStart => exact ⟨0, rfl, Nat.zero_le _, hid ⟨HBW1.out, F1.out, by have := HS1.out; omega⟩⟩
  case round =>
    obtain ⟨i, rfl, hi, HI⟩ := hrel
    by_cases hlt : i < n
    · obtain ⟨x, hx⟩ : ∃ x, X[i]? = some x := ⟨_, List.getElem?_eq_getElem (by rw [HNN.out]; exact hlt)⟩
      have hlti : (i : Int) < n := by omega
      have hi0 : (0 : Int) ≤ i := by omega
      obtain ⟨g, o, cq, cs, e1, -, hgw, hrr, hc, hxa⟩ := (LsIn.fr (D := No) HX0.out HI.out.2.1 (fun _ _ _ e => e)).get hx
      rw [HNN.out] at e1
      simp only [Value.slice.injEq, true_and] at e1
      obtain ⟨rfl, rfl⟩ := e1
      obtain ⟨rfl, -⟩ := hxa
      have d0 : wr.cell? ⟨g, o + i, none⟩ = some (.string (sb x)) := by have := hrr 0 _ rfl; simpa using this
      have HXB := hid (HSS.out x (List.mem_of_getElem? hx))
      have HNX : Hid (anyT (X.take (i + 1)) = anyT (X.take i) ++ (escF x ++ [42])) := hid (by rw [List.take_add_one, hx, Option.toList_some, anyT_snoc])
      have HLN : Hid ((anyT (X.take i)).length + (escF x ++ [42]).length ≤ 1099511627776) := hid (Nat.le_trans (any_mem X i x hx) HLEN.out)
      have HLT := hid hlt
      clear hc hgw hrr hx hlt
      go_wp2_with (first
        | ((with_reducible refine K.atO (.call { callee := .value _, args := _, argTypes := _ }) ?_); refine wpL_callF rfl _ [_] _ rfl 144 [] [] rfl (fun vs w => by kernel_rfl) [.string (sb x)] rfl ?_)
        | fail)
      refine (part_any x HXB.out wr).mono ?_
      rintro e w2 ⟨rfl, f2⟩
      refine ⟨_, rfl, ?_⟩
      have HB2 := hid (HI.out.1.fr f2 (fun k e => e.elim))
      have HF2 := hid (HI.out.2.1.trans' f2)
      have HZ2 := hid (Nat.le_trans HI.out.2.2 f2.size)
      clear f2 d0
      go_wp2_with fail
      refine (writeStringW_any (b + 1) b (anyT (X.take i)) (escF x ++ [42]) w2 HB2.out HZ2.out (by have := HLN.out; omega)).mono ?_
      rintro e w3 ⟨⟨v3, rfl⟩, hb3, f3⟩
      have HB3 := hid hb3
      have HF3 : Hid (Fr No w w3) := hid (HF2.out.trans f3 (fun k e => .inr (by have e : k = b ∨ b + 1 ≤ k := e; have := HWB.out; omega)))
      have HZ3 := hid (Nat.le_trans HZ2.out f3.size)
      clear hb3 f3
      go_wp2_with fail
      refine ⟨⟨i + 1, by go_num, HLT.out, hid ⟨by rw [HNX.out]; exact HB3.out, HF3.out, HZ3.out⟩⟩, ?_⟩
      have := HLT.out
      simp [intOf]; omega
    · obtain rfl : i = n := by omega
      have hall : X.take i = X := List.take_of_length_le (by rw [HNN.out]; exact Nat.le_refl _)
      have HB : Hid (BW (b + 1) b (anyT X) wr) := hid (by have h := HI.out.1; rwa [hall] at h)
      clear hall hlt
      go_wp2_with fail
      refine (builderString_any b b (anyT X) wr (HB.out.build b (Nat.le_refl _)) (by have := HI.out.2.2; omega)).mono ?_
      rintro e w2 ⟨rfl, f2⟩
      have HF2 : Hid (Fr No w w2) := hid (HI.out.2.1.trans f2 (fun k e => .inr (by have e : b ≤ k := e; have := HWB.out; omega)))
      clear f2
      go_wp2_with fail
      go_ret
      exact ⟨rfl, HF2.out⟩
set_option maxHeartbeats 16000000 in
theorem textsF_any {α : Type} (f : FuncId) (first : List Value) (q : α → B) (p : World → α → List Value → Prop) (E : Nat → Prop) (v0 : Value) (X : List α) (w : World) (hp : ∀ w w' x c, p w x c → Fr No w w' → p w' x c) (h7 : ∀ w x c, p w x c → Seven c)
    (h0 : Sl 7 (p w) E w v0 X) (hent : ∀ (vs : Array Value) (w : World), (callFunc f vs).run Tryz.prog w = .ok (.enter f vs) w)
    (hf : ∀ x ∈ X, ∀ c wv, p wv x c → Fr No w wv → Calls Tryz.prog f (first ++ [Value.agg c.toArray]).toArray wv fun e w' => e = .returned (.string (sb (q x))) ∧ Fr No wv w') (hlen : (X.map q).flatten.length ≤ 1099511627776) :
    Calls Tryz.prog 95 #[v0, .func (.func f) first.toArray #[]] w fun e w' => e = .returned (.string (sb (X.map q).flatten)) ∧ Fr No w w' := by
  obtain ⟨a, c, rfl, -, hl0⟩ := h0.form
  have HX0 := hid h0
  obtain ⟨n, hn⟩ : ∃ n, X.length = n := ⟨_, rfl⟩
  rw [hn] at HX0 hl0 ⊢
  have HNN := hid hn; have HLEN := hid hlen; have HP := hid hp; have H7 := hid h7; have HE := hid hent; have HF := hid hf
  have hni : (n : Int) ≤ 140737488351232 := by omega
  clear h0 hn hlen hp h7 hent hf
  go_enter Tryz.func95, Tryz.ntmps95
  go_wp2_with (first
    | ((with_reducible refine K.atO (.alloc 166) ?_); refine wpL_alloc rfl _ rfl _ zeroBd [.pointer none, .slice none 0 0] rfl ?_; intro w1 HB1 F1 HS1; refine Hid.out ?_)
    | fail)
  obtain ⟨b, hb⟩ : ∃ b, w.heap.size = b := ⟨_, rfl⟩
  rw [hb] at HB1 HS1 ⊢
  have HWB := hid hb
  have HBW1 := hid (bw_new w1 b HB1.out)
  clear hb HB1
  refine hid ?_
  go_wp2_with fail
  go_loopw [10] (fun iv wr => ∃ (i : Nat), iv = .int .i64 i ∧ i ≤ n ∧ Hid (BW (b + 1) b ((X.map q).take i).flatten wr ∧ Fr No w wr ∧ b + 1 ≤ wr.heap.size)) (fun iv _ => n - (intOf iv).toNat)
  case atStart => exact ⟨0, rfl, Nat.zero_le _, hid ⟨HBW1.out, F1.out, by have := HS1.out; omega⟩⟩
  case round =>
    obtain ⟨i, rfl, hi, HI⟩ := hrel
    by_cases hlt : i < n
    · obtain ⟨x, hx⟩ : ∃ x, X[i]? = some x := ⟨_, List.getElem?_eq_getElem (by rw [HNN.out]; exact hlt)⟩
      have hlti : (i : Int) < n := by omega
      have hi0 : (0 : Int) ≤ i := by omega
      obtain ⟨g, o, cq, c, e1, -, hgw, hr, hc, hxa⟩ := (HX0.out.fr HI.out.2.1 (fun _ _ _ e => e) (fun x c _ h => HP.out _ _ x c h HI.out.2.1)).get hx
      rw [HNN.out] at e1
      simp only [Value.slice.injEq, true_and] at e1
      obtain ⟨rfl, rfl⟩ := e1
      have HXA := hid hxa; have HRR := hid hr
      have H7C := hid (H7.out _ _ _ hxa)
      have HXM := hid (List.mem_of_getElem? hx)
      have HI3 : Hid ((Tryz.prog.info? 46).map (·.size) = some c.length) := hid (by rw [hc]; exact infoFl)
      have hmx : (X.map q)[i]? = some (q x) := by rw [List.getElem?_map, hx]; rfl
      have HNX : Hid (((X.map q).take (i + 1)).flatten = ((X.map q).take i).flatten ++ q x) := hid (by rw [List.take_add_one, hmx]; simp)
      have HLN : Hid ((((X.map q).take i).flatten).length + (q x).length ≤ 1099511627776) := hid (Nat.le_trans (flat_mem _ i _ hmx) HLEN.out)
      have HLT := hid hlt
      clear hc hgw hr hxa hx hlt hmx
      go_wp2_with (first
        | ((with_reducible refine K.atO (.load 46 _) ?_); (fail_if_success (have := HB2)); refine wpL_load rfl _ _ rfl g (o + i * 7) rfl c _ HRR.out rfl rfl HI3.out ?_)
        | ((with_reducible refine K.atO (.alloc 46) ?_); refine wpL_alloc rfl _ rfl _ zeroFl' (flV fl0 (.slice none 0 0) (.slice none 0 0)) rfl ?_; intro w2 HB2 HF2 HS2)
        | ((with_reducible refine K.atO (.store 46 _ _) ?_); refine wpL_store rfl _ _ _ rfl wr.heap.size 0 c rfl rfl 46 _ HB2.out (by rw [H7C.out.1]; simp [flV]) HI3.out H7C.out.2 ?_; intro w3 HB3 HF3 HS3; refine Hid.out ?_)
        | fail)
      have HF3' : Hid (Fr No wr w3) := hid (HF2.out.trans HF3.out (fun k e => .inr (by have e : k = wr.heap.size := e; omega)))
      have HB3' : Hid (Blk w3 wr.heap.size 46 c) := hid (by
        have h := HB3.out
        rw [spl_whole (flV fl0 (.slice none 0 0) (.slice none 0 0)) c (by rw [H7C.out.1]; rfl)] at h
        exact h)
      obtain ⟨r, hr⟩ : ∃ r, wr.heap.size = r := ⟨_, rfl⟩
      rw [hr] at HB3' ⊢
      have HW3 : Hid (Fr No w w3) := hid (HI.out.2.1.trans' HF3'.out)
      have HXA3 : Hid (p w3 x c) := hid (HP.out wr w3 x c HXA.out HF3'.out)
      clear hr HB2 HF2 HS2 HB3 HF3 HS3
      refine hid ?_
      go_wp2_with (first
        | ((with_reducible refine K.atO (.load 46 _) ?_); refine wpL_load rfl _ _ rfl r 0 rfl c _ (HB3'.out.range 0 _ (by simp)) rfl rfl HI3.out ?_)
        | ((with_reducible refine K.atO (.call { callee := .value _, args := _, argTypes := _ }) ?_); refine wpL_callF rfl _ [_] _ rfl f first [] rfl HE.out (first ++ [Value.agg c.toArray]) (by rw [List.append_nil]; rfl) ?_)
        | fail)
      refine (HF.out x HXM.out c w3 HXA3.out HW3.out).mono ?_
      rintro e w4 ⟨rfl, f4⟩
      refine ⟨_, rfl, ?_⟩
      have HB4 := hid ((HI.out.1.fr HF3'.out (fun k e => e.elim)).fr f4 (fun k e => e.elim))
      have HF4 := hid (HW3.out.trans' f4)
      have HZ4 := hid (Nat.le_trans (Nat.le_trans HI.out.2.2 HF3'.out.size) f4.size)
      clear f4 HXA HXA3 HRR HB3'
      go_wp2_with fail
      refine (writeStringW_any (b + 1) b _ (q x) w4 HB4.out HZ4.out (by have := HLN.out; omega)).mono ?_
      rintro e w5 ⟨⟨v3, rfl⟩, hb5, f5⟩
      have HB5 := hid hb5
      have HF5 : Hid (Fr No w w5) := hid (HF4.out.trans f5 (fun k e => .inr (by have e : k = b ∨ b + 1 ≤ k := e; have := HWB.out; omega)))
      have HZ5 := hid (Nat.le_trans HZ4.out f5.size)
      clear hb5 f5
      go_wp2_with fail
      refine ⟨⟨i + 1, by go_num, HLT.out, hid ⟨by rw [HNX.out]; exact HB5.out, HF5.out, HZ5.out⟩⟩, ?_⟩
      have := HLT.out
      simp [intOf]; omega
    · obtain rfl : i = n := by omega
      have hall : (X.map q).take i = X.map q := List.take_of_length_le (by rw [List.length_map, HNN.out]; exact Nat.le_refl _)
      have HB : Hid (BW (b + 1) b (X.map q).flatten wr) := hid (by have h := HI.out.1; rwa [hall] at h)
      clear hall hlt
      go_wp2_with fail
      refine (builderString_any b b _ wr (HB.out.build b (Nat.le_refl _)) (by have := HI.out.2.2; omega)).mono ?_
      rintro e w2 ⟨rfl, f2⟩
      have HF2 : Hid (Fr No w w2) := hid (HI.out.2.1.trans f2 (fun k e => .inr (by have e : b ≤ k := e; have := HWB.out; omega)))
      clear f2
      go_wp2_with fail
      go_ret
      exact ⟨rfl, HF2.out⟩
end Go.Proofs.YtdkkpfeiaaffhaaGreatDoor.FT
