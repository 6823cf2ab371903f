/-
  The document's Small and Shaped.
-/
import Derived.Test.YthjmkfpdbbfcpaaGreatDoorDrB
import Derived.Test.YthjmkfpdbbfcpaaGreatDoorDnR
import Derived.Test.YthjmkfpdbbfcpaaGreatDoorDnS
set_option linter.unusedVariables false
set_option linter.unusedSimpArgs false
namespace Go.Proofs.YthjmkfpdbbfcpaaGreatDoor.DN
set_option maxRecDepth 100000
open Go.RowKit K Go.Proofs.YthjmkfpdbbfcpaaGreatDoor.BE

theorem lo_n (c : UInt8) : lo c = if 65 ≤ c.toNat ∧ c.toNat ≤ 90 then c + 32 else c := by
  have := u8_all (fun c => lo c == if 65 ≤ c.toNat ∧ c.toNat ≤ 90 then c + 32 else c) (by decide +kernel) c
  simpa using this
set_option maxHeartbeats 8000000 in
theorem small_any (s : B) (hs : s.length ≤ 1048576) (w : World) : Calls Tryz.prog 39 #[.string (sb s)] w fun e w' => e = .returned (.string (sb (low s))) ∧ Fr No w w' := by
  obtain ⟨S, hS⟩ : ∃ S, sb s = S := ⟨_, rfl⟩
  obtain ⟨n, hn⟩ : ∃ n, s.length = n := ⟨_, rfl⟩
  have hsz : (S.size : Int) = n := by rw [← hS, sb_size, hn]
  have hni : (n : Int) ≤ 1048576 := by omega
  have HS := hid hS; have HN := hid hn
  rw [hS]
  clear hS hn hs
  go_enter Tryz.func39, Tryz.ntmps39
  go_wp2_with fail
  go_loopw [3, 4] (fun dv iv wr => ∃ (i : Nat), iv = .int .i64 i ∧ i ≤ n ∧ Hid (OwR 5 1 w wr dv i (u8s ((low s).take i)))) (fun _ iv _ => n - (intOf iv).toNat)
  case atStart => exact ⟨0, rfl, Nat.zero_le _, hid (owR_nil (Fr.refl _ _))⟩
  case round =>
    obtain ⟨i, rfl, hi, HO⟩ := hrel
    obtain ⟨va, vc, rfl⟩ := HO.out.1
    by_cases hlt : i < n
    · obtain ⟨c, hc⟩ : ∃ c, s[i]? = some c := ⟨_, List.getElem?_eq_getElem (by rw [HN.out]; exact hlt)⟩
      have hlti : (i : Int) < n := by omega
      have hi0 : (0 : Int) ≤ i := by omega
      have HC := hid hc
      have HLT := hid hlt
      have HNX : Hid (u8s ((low s).take (i + 1)) = u8s ((low s).take i) ++ [.int .u8 ((lo c).toNat : Int)]) := hid (by
        have hl : (low s)[i]? = some (lo c) := by simp [low, hc]
        rw [List.take_add_one, hl]
        simp [u8s])
      by_cases hup : 65 ≤ c.toNat ∧ c.toNat ≤ 90
      · have h1 : (65 : Int) ≤ (c.toNat : Int) := by omega
        have h2 : (c.toNat : Int) ≤ 90 := by omega
        have hlo : ((lo c).toNat : Int) = (c.toNat : Int) + 32 := by
          rw [lo_n, if_pos hup, UInt8.toNat_add]
          have : (32 : UInt8).toNat = 32 := rfl
          rw [this]
          omega
        rw [hlo] at HNX
        clear hup hlo hc hlt
        go_wp2_with (first
          | ((with_reducible refine K.atO (.index 9 _ _) ?_); refine wpL_valZ (by rfl) (.int .u8 (c.toNat : Int)) (exec_idxB _ _ rfl s HS.out i c HC.out _ rfl rfl rfl _) ?_)
          | ((with_reducible refine K.atO (.buildSlice 49 _ _) ?_); refine wpL_app1 rfl rfl _ _ _ 49 5 rfl rfl Tryz.underlying49 infoU rfl (by decide) (by decide) HO.out (.int .u8 ((c.toNat : Int) + 32)) [.int .u8 ((c.toNat : Int) + 32)] rfl rfl rfl (by simp [Value.oneCell']) (fun _ => rfl) (fun _ => rfl) (by omega) (by omega) ?_; intro q a4 c4 w4 HO4 HF4)
          | fail)
        refine ⟨⟨i + 1, by go_num, HLT.out, hid (by rw [HNX.out]; exact HO4.out)⟩, ?_⟩
        have := HLT.out
        simp [intOf]; omega
      · have hlo : lo c = c := by rw [lo_n, if_neg hup]
        rw [hlo] at HNX
        have hcase : c.toNat < 65 ∨ (65 ≤ c.toNat ∧ 90 < c.toNat) := by omega
        clear hup hlo hc hlt
        rcases hcase with h | ⟨h, h'⟩
        · have h1 : ¬ (65 : Int) ≤ (c.toNat : Int) := by omega
          clear h
          go_wp2_with (first
            | ((with_reducible refine K.atO (.index 9 _ _) ?_); refine wpL_valZ (by rfl) (.int .u8 (c.toNat : Int)) (exec_idxB _ _ rfl s HS.out i c HC.out _ rfl rfl rfl _) ?_)
            | ((with_reducible refine K.atO (.buildSlice 49 _ _) ?_); refine wpL_app1 rfl rfl _ _ _ 49 5 rfl rfl Tryz.underlying49 infoU rfl (by decide) (by decide) HO.out (.int .u8 (c.toNat : Int)) [.int .u8 (c.toNat : Int)] rfl rfl rfl (by simp [Value.oneCell']) (fun _ => rfl) (fun _ => rfl) (by omega) (by omega) ?_; intro q a4 c4 w4 HO4 HF4)
            | fail)
          refine ⟨⟨i + 1, by go_num, HLT.out, hid (by rw [HNX.out]; exact HO4.out)⟩, ?_⟩
          have := HLT.out
          simp [intOf]; omega
        · have h1 : (65 : Int) ≤ (c.toNat : Int) := by omega
          have h2 : ¬ (c.toNat : Int) ≤ 90 := by omega
          clear h h'
          go_wp2_with (first
            | ((with_reducible refine K.atO (.index 9 _ _) ?_); refine wpL_valZ (by rfl) (.int .u8 (c.toNat : Int)) (exec_idxB _ _ rfl s HS.out i c HC.out _ rfl rfl rfl _) ?_)
            | ((with_reducible refine K.atO (.buildSlice 49 _ _) ?_); refine wpL_app1 rfl rfl _ _ _ 49 5 rfl rfl Tryz.underlying49 infoU rfl (by decide) (by decide) HO.out (.int .u8 (c.toNat : Int)) [.int .u8 (c.toNat : Int)] rfl rfl rfl (by simp [Value.oneCell']) (fun _ => rfl) (fun _ => rfl) (by omega) (by omega) ?_; intro q a4 c4 w4 HO4 HF4)
            | fail)
          refine ⟨⟨i + 1, by go_num, HLT.out, hid (by rw [HNX.out]; exact HO4.out)⟩, ?_⟩
          have := HLT.out
          simp [intOf]; omega
    · obtain rfl : i = n := by omega
      have hall : (low s).take i = low s := List.take_of_length_le (by rw [low_length, HN.out]; exact Nat.le_refl _)
      have HO2 : Hid (OwR 5 1 w wr (.slice va i vc) (low s).length (u8s (low s))) := hid (by rw [low_length, HN.out]; have h := HO.out; rw [hall] at h; exact h)
      have HDEN := hid (owR_bytes HO2.out)
      clear hall hlt
      go_wp2_with (first
        | ((with_reducible refine K.atO (.convert _ 9 _) ?_); refine wpL_stringOf rfl _ _ _ _ rfl _ _ (low s) rfl HDEN.out Tryz.underlying49 Tryz.underlying5 Tryz.underlying9 ?_)
        | fail)
      go_ret
      exact ⟨rfl, HO.out.fr⟩
end Go.Proofs.YthjmkfpdbbfcpaaGreatDoor.DN
