/-
  The document's Number.
-/
import Derived.Test.YthnahoodgkeaiaaBeJ
set_option linter.unusedVariables false
set_option linter.unusedSimpArgs false
namespace Go.Proofs.Ythnahoodgkeaiaa.BE
set_option maxRecDepth 100000
open Go.RowKit K

/-- The number of bytes, the most significant one first. -/
def natB : B → Nat := fun l => l.foldl (fun n b => 256 * n + b.toNat) 0
theorem natB_snoc (l : B) (b : UInt8) : natB (l ++ [b]) = 256 * natB l + b.toNat := by simp [natB]
theorem join_nat : ∀ (l : B) (h : Int), joinI h l = h * 256 ^ l.length + natB l := by
  intro l
  refine snoc_ind (p := fun l => ∀ h : Int, joinI h l = h * 256 ^ l.length + natB l) ?_ ?_ l
  · intro h; simp [joinI, natB]
  · intro r c ih h
    rw [joinI_snoc, ih, natB_snoc, List.length_append, List.length_cons, List.length_nil, Nat.zero_add, Int.pow_succ]
    push_cast
    rw [Int.add_mul, Int.mul_assoc]
    omega
theorem natB_cons (b : UInt8) (r : B) : natB (b :: r) = b.toNat * 256 ^ r.length + natB r := by
  have h1 := join_nat (b :: r) 0
  have h2 := join_nat r (b.toNat : Int)
  have e : joinI 0 (b :: r) = joinI (b.toNat : Int) r := by show joinI (0 * 256 + b.toNat) r = _; rw [Int.zero_mul, Int.zero_add]
  rw [Int.zero_mul, Int.zero_add] at h1
  have h3 : (natB (b :: r) : Int) = (b.toNat : Int) * 256 ^ r.length + natB r := by rw [← h2, ← e]; exact h1.symm
  exact_mod_cast h3
def Bn (k v : Nat) : Prop := (k = 0 → v = 0) ∧ (k = 1 → v < 256) ∧ (k = 2 → v < 65536) ∧ (k = 3 → v < 16777216) ∧ (k = 4 → v < 4294967296)
set_option maxHeartbeats 16000000 in
theorem docNumber_any (s : B) (w : World) (hs : s.length ≤ 281474976710656) : Calls Try.prog 22 #[.string (sb s)] w fun e w' => e = .returned (.tuple #[.int .i64 (numS s).1, .bool (numS s).2]) ∧ Fr No w w' := by
  match s, hs with
  | [], _ =>
    have hsz : ((sb []).size : Int) = 0 := by rw [sb_size]; rfl
    obtain ⟨q, hq⟩ : ∃ q, sb [] = q := ⟨_, rfl⟩
    rw [hq] at hsz ⊢
    clear hq
    go_enter Try.func22, Try.ntmps22
    go_wp2_with fail
    go_ret2
    exact ⟨rfl, Fr.refl _ _⟩
  | b :: r, hs =>
    have hsz : ((sb (b :: r)).size : Int) = ((b :: r).length : Int) := by rw [sb_size]
    obtain ⟨n, hn⟩ : ∃ n, (b :: r).length = n := ⟨_, rfl⟩
    have hn0 : n = r.length + 1 := by rw [← hn]; rfl
    have hbig : 4 < n → numS (b :: r) = (0, false) := fun h => by
      unfold numS
      simp only
      rw [if_pos (by rw [hn]; exact h)]
    have hsmall : ¬ 4 < n → numS (b :: r) = if minB b r = true then (joinI (sgn b) r, true) else (0, false) := fun h => num_min b r (by omega)
    obtain ⟨S, hS⟩ : ∃ S, b :: r = S := ⟨_, rfl⟩
    have HS := hid hS
    have h0 : S[0]? = some b := by rw [← hS]; rfl
    have h1 : S[1]? = r[0]? := by rw [← hS]; rfl
    rw [hn] at hsz hs
    rw [hS] at hsz hn hbig hsmall ⊢
    obtain ⟨R, hR⟩ : ∃ R, numS S = R := ⟨_, rfl⟩
    rw [hR] at hbig hsmall ⊢
    have H0 := hid h0; have H1 := hid h1; have HN := hid hn; have HN0 := hid hn0; have HSM := hid hsmall
    have hni : (1 : Int) ≤ n := by omega
    have hni2 : (n : Int) ≤ 281474976710656 := by omega
    clear hS h0 h1 hn hR hn0 hsmall
    by_cases h4 : 4 < n
    · have h4i : (4 : Int) < n := by omega
      obtain rfl := hbig h4
      clear HSM hbig
      go_enter Try.func22, Try.ntmps22
      go_wp2_with fail
      go_ret2
      exact ⟨rfl, Fr.refl _ _⟩
    · have h4i : ¬ (4 : Int) < n := by omega
      have hRR := HSM.out h4
      have HRR := hid hRR
      obtain ⟨bn, hbn⟩ : ∃ bn, b.toNat = bn := ⟨_, rfl⟩
      have hbl := lt256 b
      rw [hbn] at hbl
      have HBN := hid hbn
      clear hbn hRR hbig HSM
      go_enter Try.func22, Try.ntmps22
      go_wp2_with fail
      go_loopw [4, 5] (fun vv iv wr => ∃ k v : Nat, vv = .int .i64 v ∧ iv = .int .i64 k ∧ k ≤ n ∧ Hid (v = natB (S.take k)) ∧ Hid (Bn k v) ∧ wr = w) (fun _ iv _ => n - (intOf iv).toNat)
      case atStart => exact ⟨0, 0, rfl, rfl, Nat.zero_le _, hid rfl, hid ⟨fun _ => rfl, by omega, by omega, by omega, by omega⟩, rfl⟩
      case round =>
        obtain ⟨k, v, rfl, rfl, hk, HV, HBd, rfl⟩ := hrel
        have hvb : v < 4294967296 := by have h := HBd.out; unfold Bn at h; omega
        by_cases hlt : k < n
        · have hlti : (k : Int) < n := by omega
          obtain ⟨c, hc⟩ : ∃ c, S[k]? = some c := ⟨_, List.getElem?_eq_getElem (by rw [HN.out]; exact hlt)⟩
          have HC := hid hc
          have hcl := lt256 c
          obtain ⟨cn, hcn⟩ : ∃ cn, c.toNat = cn := ⟨_, rfl⟩
          rw [hcn] at hcl
          have HCN := hid hcn
          have hbd' : Bn (k + 1) (256 * v + cn) := by have h := HBd.out; unfold Bn at h ⊢; omega
          have HBD' := hid hbd'
          clear hc hcn hbd'
          go_wp2_with ((with_reducible show wpList _ _ _ (⟨_, .index 9 _ _, _, _, _, _⟩ :: _) _ _); refine wpL_valZ rfl (.int .u8 (cn : Int)) (by rw [← HCN.out]; exact exec_idx _ _ rfl S k c HC.out _ rfl rfl rfl _) ?_)
          go_roundw
          case rel =>
            refine ⟨k + 1, 256 * v + cn, by push_cast; rfl, by go_num, by omega, hid ?_, HBD', trivial⟩
            rw [List.take_add_one, HC.out, HV.out, ← HCN.out]
            exact (natB_snoc _ c).symm
          case measure => simp [intOf]; omega
        · obtain rfl : k = n := by omega
          have hvS : v = natB S := by have h := HV.out; rwa [← HN.out, List.take_length] at h
          have HVS := hid hvS
          clear hvS hlt
          have hidx : ∀ (op : Oper) (a : Act) (x y : Operand), op.op = .index 9 x y → a.eval x = .string (sb S) → a.eval y = .int .i64 0 → ∀ W, (execOp a.eval op).run Try.prog W = .ok (.value (.int .u8 (bn : Int))) W := fun op a x y ho hx hy W => by rw [← HBN.out]; exact exec_idx x y ho S 0 b H0.out 0 rfl hx hy W
          have HIX := hid hidx
          have hJ0 := join_nat r (sgn b)
          have hS0 := natB_cons b r
          rw [HS.out, HBN.out] at hS0
          have hsg : sgn b = if bn < 128 then (bn : Int) else (bn : Int) - 256 := by unfold sgn; rw [HBN.out]
          have hrl := HN0.out
          clear hidx
          have hk4 : k = 1 ∨ k = 2 ∨ k = 3 ∨ k = 4 := by omega
          rcases hk4 with rfl | rfl | rfl | rfl
          · have hr1 : r.length = 0 := by omega
            rw [hr1] at hJ0 hS0
            simp only [Int.pow_succ, Nat.pow_succ, Int.pow_zero, Nat.pow_zero, Int.one_mul, Nat.one_mul] at hJ0 hS0
            have hrn : r = [] := List.eq_nil_of_length_eq_zero hr1
            by_cases h128 : bn < 128
            · have hlo : ¬ (128 : Int) ≤ (bn : Int) := by omega
              have hJ : joinI (sgn b) r = (v : Int) := by have hv := hsg; rw [if_pos h128] at hv; have := HVS.out; omega
              have hR : R = ((v : Int), true) := by rw [HRR.out, hrn]; rw [hrn] at hJ; rw [hJ]; rfl
              clear hJ0 hS0 hsg hJ hrn hr1 hrl
              have HF := hid hR
              clear hR
              go_wp2_with (first
                | ((with_reducible show wpList _ _ _ (⟨_, .index 9 _ _, _, _, _, _⟩ :: _) _ _); refine wpL_valZ (by rfl) (.int .u8 (bn : Int)) (HIX.out _ _ _ _ rfl rfl rfl _) ?_)
                | fail)
              go_ret2
              rw [HF.out]
              exact ⟨rfl, Fr.refl _ _⟩
            · have hlo : (128 : Int) ≤ (bn : Int) := by omega
              have hJ : joinI (sgn b) r = (v : Int) - 256 := by have hv := hsg; rw [if_neg h128] at hv; have := HVS.out; omega
              have hR : R = ((v : Int) - 256, true) := by rw [HRR.out, hrn]; rw [hrn] at hJ; rw [hJ]; rfl
              clear hJ0 hS0 hsg hJ hrn hr1 hrl
              have HF := hid hR
              clear hR
              go_wp2_with (first
                | ((with_reducible show wpList _ _ _ (⟨_, .index 9 _ _, _, _, _, _⟩ :: _) _ _); refine wpL_valZ (by rfl) (.int .u8 (bn : Int)) (HIX.out _ _ _ _ rfl rfl rfl _) ?_)
                | fail)
              go_ret2
              rw [HF.out]
              exact ⟨rfl, Fr.refl _ _⟩
          · have hr1 : r.length = 1 := by omega
            rw [hr1] at hJ0 hS0
            simp only [Int.pow_succ, Nat.pow_succ, Int.pow_zero, Nat.pow_zero, Int.one_mul, Nat.one_mul] at hJ0 hS0
            obtain ⟨c, r', hrc⟩ : ∃ c r', r = c :: r' := by
              cases r with
              | nil => simp at hr1
              | cons c r' => exact ⟨c, r', rfl⟩
            have H1C : Hid (S[1]? = some c) := hid (by rw [H1.out, hrc]; rfl)
            have hcl := lt256 c
            obtain ⟨cn, hcn⟩ : ∃ cn, c.toNat = cn := ⟨_, rfl⟩
            rw [hcn] at hcl
            have HCN := hid hcn
            have hmin : minB b r = !(decide (bn = 0) && decide (cn < 128) || decide (bn = 255) && decide (128 ≤ cn)) := by rw [hrc, ← HBN.out, ← hcn]; rfl
            clear hcn hrc
            by_cases h128 : bn < 128
            · have hlo : ¬ (128 : Int) ≤ (bn : Int) := by omega
              have hJ : joinI (sgn b) r = (v : Int) := by have hv := hsg; rw [if_pos h128] at hv; have := HVS.out; omega
              have q255 : ((bn : Int) == 255) = false := by simp; omega
              by_cases hb0 : bn = 0
              · have q0 : ((bn : Int) == 0) = true := by simp; omega
                by_cases hc8 : cn < 128
                · have qc : (cn : Int) < 128 := by omega
                  have hR : R = (0, false) := by rw [HRR.out, hmin]; simp [hb0, hc8]
                  clear hJ0 hS0 hsg hJ hmin hr1 hrl hb0
                  have HF := hid hR
                  clear hR
                  go_wp2_with (first
                    | ((with_reducible show wpList _ _ _ (⟨_, .index 9 _ _, _, _, _, _⟩ :: _) _ _); refine wpL_valZ (by rfl) (.int .u8 (bn : Int)) (HIX.out _ _ _ _ rfl rfl rfl _) ?_)
                    | ((with_reducible show wpList _ _ _ (⟨_, .index 9 _ _, _, _, _, _⟩ :: _) _ _); refine wpL_valZ (by rfl) (.int .u8 (cn : Int)) (by rw [← HCN.out]; exact exec_idx _ _ rfl S 1 c H1C.out _ rfl rfl rfl _) ?_)
                    | fail)
                  go_ret2
                  rw [HF.out]
                  exact ⟨rfl, Fr.refl _ _⟩
                · have qc : ¬ (cn : Int) < 128 := by omega
                  have hR : R = ((v : Int), true) := by rw [HRR.out, hmin, hJ]; simp [hb0, hc8]
                  clear hJ0 hS0 hsg hJ hmin hr1 hrl hb0
                  have HF := hid hR
                  clear hR
                  go_wp2_with (first
                    | ((with_reducible show wpList _ _ _ (⟨_, .index 9 _ _, _, _, _, _⟩ :: _) _ _); refine wpL_valZ (by rfl) (.int .u8 (bn : Int)) (HIX.out _ _ _ _ rfl rfl rfl _) ?_)
                    | ((with_reducible show wpList _ _ _ (⟨_, .index 9 _ _, _, _, _, _⟩ :: _) _ _); refine wpL_valZ (by rfl) (.int .u8 (cn : Int)) (by rw [← HCN.out]; exact exec_idx _ _ rfl S 1 c H1C.out _ rfl rfl rfl _) ?_)
                    | fail)
                  go_ret2
                  rw [HF.out]
                  exact ⟨rfl, Fr.refl _ _⟩
              · have q0 : ((bn : Int) == 0) = false := by simp; omega
                have hR : R = ((v : Int), true) := by rw [HRR.out, hmin, hJ]; simp [hb0]; omega
                clear hJ0 hS0 hsg hJ hmin hr1 hrl hb0
                have HF := hid hR
                clear hR
                go_wp2_with (first
                  | ((with_reducible show wpList _ _ _ (⟨_, .index 9 _ _, _, _, _, _⟩ :: _) _ _); refine wpL_valZ (by rfl) (.int .u8 (bn : Int)) (HIX.out _ _ _ _ rfl rfl rfl _) ?_)
                  | ((with_reducible show wpList _ _ _ (⟨_, .index 9 _ _, _, _, _, _⟩ :: _) _ _); refine wpL_valZ (by rfl) (.int .u8 (cn : Int)) (by rw [← HCN.out]; exact exec_idx _ _ rfl S 1 c H1C.out _ rfl rfl rfl _) ?_)
                  | fail)
                go_ret2
                rw [HF.out]
                exact ⟨rfl, Fr.refl _ _⟩
            · have hlo : (128 : Int) ≤ (bn : Int) := by omega
              have hJ : joinI (sgn b) r = (v : Int) - 65536 := by have hv := hsg; rw [if_neg h128] at hv; have := HVS.out; omega
              have q0 : ((bn : Int) == 0) = false := by simp; omega
              by_cases hb0 : bn = 255
              · have q255 : ((bn : Int) == 255) = true := by simp; omega
                by_cases hc8 : 128 ≤ cn
                · have qc : (128 : Int) ≤ (cn : Int) := by omega
                  have hR : R = (0, false) := by rw [HRR.out, hmin]; simp [hb0, hc8]
                  clear hJ0 hS0 hsg hJ hmin hr1 hrl hb0
                  have HF := hid hR
                  clear hR
                  go_wp2_with (first
                    | ((with_reducible show wpList _ _ _ (⟨_, .index 9 _ _, _, _, _, _⟩ :: _) _ _); refine wpL_valZ (by rfl) (.int .u8 (bn : Int)) (HIX.out _ _ _ _ rfl rfl rfl _) ?_)
                    | ((with_reducible show wpList _ _ _ (⟨_, .index 9 _ _, _, _, _, _⟩ :: _) _ _); refine wpL_valZ (by rfl) (.int .u8 (cn : Int)) (by rw [← HCN.out]; exact exec_idx _ _ rfl S 1 c H1C.out _ rfl rfl rfl _) ?_)
                    | fail)
                  go_ret2
                  rw [HF.out]
                  exact ⟨rfl, Fr.refl _ _⟩
                · have qc : ¬ (128 : Int) ≤ (cn : Int) := by omega
                  have hR : R = ((v : Int) - 65536, true) := by rw [HRR.out, hmin, hJ]; simp [hb0, hc8]
                  clear hJ0 hS0 hsg hJ hmin hr1 hrl hb0
                  have HF := hid hR
                  clear hR
                  go_wp2_with (first
                    | ((with_reducible show wpList _ _ _ (⟨_, .index 9 _ _, _, _, _, _⟩ :: _) _ _); refine wpL_valZ (by rfl) (.int .u8 (bn : Int)) (HIX.out _ _ _ _ rfl rfl rfl _) ?_)
                    | ((with_reducible show wpList _ _ _ (⟨_, .index 9 _ _, _, _, _, _⟩ :: _) _ _); refine wpL_valZ (by rfl) (.int .u8 (cn : Int)) (by rw [← HCN.out]; exact exec_idx _ _ rfl S 1 c H1C.out _ rfl rfl rfl _) ?_)
                    | fail)
                  go_ret2
                  rw [HF.out]
                  exact ⟨rfl, Fr.refl _ _⟩
              · have q255 : ((bn : Int) == 255) = false := by simp; omega
                have hR : R = ((v : Int) - 65536, true) := by rw [HRR.out, hmin, hJ]; simp [hb0]; omega
                clear hJ0 hS0 hsg hJ hmin hr1 hrl hb0
                have HF := hid hR
                clear hR
                go_wp2_with (first
                  | ((with_reducible show wpList _ _ _ (⟨_, .index 9 _ _, _, _, _, _⟩ :: _) _ _); refine wpL_valZ (by rfl) (.int .u8 (bn : Int)) (HIX.out _ _ _ _ rfl rfl rfl _) ?_)
                  | ((with_reducible show wpList _ _ _ (⟨_, .index 9 _ _, _, _, _, _⟩ :: _) _ _); refine wpL_valZ (by rfl) (.int .u8 (cn : Int)) (by rw [← HCN.out]; exact exec_idx _ _ rfl S 1 c H1C.out _ rfl rfl rfl _) ?_)
                  | fail)
                go_ret2
                rw [HF.out]
                exact ⟨rfl, Fr.refl _ _⟩
          · have hr1 : r.length = 2 := by omega
            rw [hr1] at hJ0 hS0
            simp only [Int.pow_succ, Nat.pow_succ, Int.pow_zero, Nat.pow_zero, Int.one_mul, Nat.one_mul] at hJ0 hS0
            obtain ⟨c, r', hrc⟩ : ∃ c r', r = c :: r' := by
              cases r with
              | nil => simp at hr1
              | cons c r' => exact ⟨c, r', rfl⟩
            have H1C : Hid (S[1]? = some c) := hid (by rw [H1.out, hrc]; rfl)
            have hcl := lt256 c
            obtain ⟨cn, hcn⟩ : ∃ cn, c.toNat = cn := ⟨_, rfl⟩
            rw [hcn] at hcl
            have HCN := hid hcn
            have hmin : minB b r = !(decide (bn = 0) && decide (cn < 128) || decide (bn = 255) && decide (128 ≤ cn)) := by rw [hrc, ← HBN.out, ← hcn]; rfl
            clear hcn hrc
            by_cases h128 : bn < 128
            · have hlo : ¬ (128 : Int) ≤ (bn : Int) := by omega
              have hJ : joinI (sgn b) r = (v : Int) := by have hv := hsg; rw [if_pos h128] at hv; have := HVS.out; omega
              have q255 : ((bn : Int) == 255) = false := by simp; omega
              by_cases hb0 : bn = 0
              · have q0 : ((bn : Int) == 0) = true := by simp; omega
                by_cases hc8 : cn < 128
                · have qc : (cn : Int) < 128 := by omega
                  have hR : R = (0, false) := by rw [HRR.out, hmin]; simp [hb0, hc8]
                  clear hJ0 hS0 hsg hJ hmin hr1 hrl hb0
                  have HF := hid hR
                  clear hR
                  go_wp2_with (first
                    | ((with_reducible show wpList _ _ _ (⟨_, .index 9 _ _, _, _, _, _⟩ :: _) _ _); refine wpL_valZ (by rfl) (.int .u8 (bn : Int)) (HIX.out _ _ _ _ rfl rfl rfl _) ?_)
                    | ((with_reducible show wpList _ _ _ (⟨_, .index 9 _ _, _, _, _, _⟩ :: _) _ _); refine wpL_valZ (by rfl) (.int .u8 (cn : Int)) (by rw [← HCN.out]; exact exec_idx _ _ rfl S 1 c H1C.out _ rfl rfl rfl _) ?_)
                    | fail)
                  go_ret2
                  rw [HF.out]
                  exact ⟨rfl, Fr.refl _ _⟩
                · have qc : ¬ (cn : Int) < 128 := by omega
                  have hR : R = ((v : Int), true) := by rw [HRR.out, hmin, hJ]; simp [hb0, hc8]
                  clear hJ0 hS0 hsg hJ hmin hr1 hrl hb0
                  have HF := hid hR
                  clear hR
                  go_wp2_with (first
                    | ((with_reducible show wpList _ _ _ (⟨_, .index 9 _ _, _, _, _, _⟩ :: _) _ _); refine wpL_valZ (by rfl) (.int .u8 (bn : Int)) (HIX.out _ _ _ _ rfl rfl rfl _) ?_)
                    | ((with_reducible show wpList _ _ _ (⟨_, .index 9 _ _, _, _, _, _⟩ :: _) _ _); refine wpL_valZ (by rfl) (.int .u8 (cn : Int)) (by rw [← HCN.out]; exact exec_idx _ _ rfl S 1 c H1C.out _ rfl rfl rfl _) ?_)
                    | fail)
                  go_ret2
                  rw [HF.out]
                  exact ⟨rfl, Fr.refl _ _⟩
              · have q0 : ((bn : Int) == 0) = false := by simp; omega
                have hR : R = ((v : Int), true) := by rw [HRR.out, hmin, hJ]; simp [hb0]; omega
                clear hJ0 hS0 hsg hJ hmin hr1 hrl hb0
                have HF := hid hR
                clear hR
                go_wp2_with (first
                  | ((with_reducible show wpList _ _ _ (⟨_, .index 9 _ _, _, _, _, _⟩ :: _) _ _); refine wpL_valZ (by rfl) (.int .u8 (bn : Int)) (HIX.out _ _ _ _ rfl rfl rfl _) ?_)
                  | ((with_reducible show wpList _ _ _ (⟨_, .index 9 _ _, _, _, _, _⟩ :: _) _ _); refine wpL_valZ (by rfl) (.int .u8 (cn : Int)) (by rw [← HCN.out]; exact exec_idx _ _ rfl S 1 c H1C.out _ rfl rfl rfl _) ?_)
                  | fail)
                go_ret2
                rw [HF.out]
                exact ⟨rfl, Fr.refl _ _⟩
            · have hlo : (128 : Int) ≤ (bn : Int) := by omega
              have hJ : joinI (sgn b) r = (v : Int) - 16777216 := by have hv := hsg; rw [if_neg h128] at hv; have := HVS.out; omega
              have q0 : ((bn : Int) == 0) = false := by simp; omega
              by_cases hb0 : bn = 255
              · have q255 : ((bn : Int) == 255) = true := by simp; omega
                by_cases hc8 : 128 ≤ cn
                · have qc : (128 : Int) ≤ (cn : Int) := by omega
                  have hR : R = (0, false) := by rw [HRR.out, hmin]; simp [hb0, hc8]
                  clear hJ0 hS0 hsg hJ hmin hr1 hrl hb0
                  have HF := hid hR
                  clear hR
                  go_wp2_with (first
                    | ((with_reducible show wpList _ _ _ (⟨_, .index 9 _ _, _, _, _, _⟩ :: _) _ _); refine wpL_valZ (by rfl) (.int .u8 (bn : Int)) (HIX.out _ _ _ _ rfl rfl rfl _) ?_)
                    | ((with_reducible show wpList _ _ _ (⟨_, .index 9 _ _, _, _, _, _⟩ :: _) _ _); refine wpL_valZ (by rfl) (.int .u8 (cn : Int)) (by rw [← HCN.out]; exact exec_idx _ _ rfl S 1 c H1C.out _ rfl rfl rfl _) ?_)
                    | fail)
                  go_ret2
                  rw [HF.out]
                  exact ⟨rfl, Fr.refl _ _⟩
                · have qc : ¬ (128 : Int) ≤ (cn : Int) := by omega
                  have hR : R = ((v : Int) - 16777216, true) := by rw [HRR.out, hmin, hJ]; simp [hb0, hc8]
                  clear hJ0 hS0 hsg hJ hmin hr1 hrl hb0
                  have HF := hid hR
                  clear hR
                  go_wp2_with (first
                    | ((with_reducible show wpList _ _ _ (⟨_, .index 9 _ _, _, _, _, _⟩ :: _) _ _); refine wpL_valZ (by rfl) (.int .u8 (bn : Int)) (HIX.out _ _ _ _ rfl rfl rfl _) ?_)
                    | ((with_reducible show wpList _ _ _ (⟨_, .index 9 _ _, _, _, _, _⟩ :: _) _ _); refine wpL_valZ (by rfl) (.int .u8 (cn : Int)) (by rw [← HCN.out]; exact exec_idx _ _ rfl S 1 c H1C.out _ rfl rfl rfl _) ?_)
                    | fail)
                  go_ret2
                  rw [HF.out]
                  exact ⟨rfl, Fr.refl _ _⟩
              · have q255 : ((bn : Int) == 255) = false := by simp; omega
                have hR : R = ((v : Int) - 16777216, true) := by rw [HRR.out, hmin, hJ]; simp [hb0]; omega
                clear hJ0 hS0 hsg hJ hmin hr1 hrl hb0
                have HF := hid hR
                clear hR
                go_wp2_with (first
                  | ((with_reducible show wpList _ _ _ (⟨_, .index 9 _ _, _, _, _, _⟩ :: _) _ _); refine wpL_valZ (by rfl) (.int .u8 (bn : Int)) (HIX.out _ _ _ _ rfl rfl rfl _) ?_)
                  | ((with_reducible show wpList _ _ _ (⟨_, .index 9 _ _, _, _, _, _⟩ :: _) _ _); refine wpL_valZ (by rfl) (.int .u8 (cn : Int)) (by rw [← HCN.out]; exact exec_idx _ _ rfl S 1 c H1C.out _ rfl rfl rfl _) ?_)
                  | fail)
                go_ret2
                rw [HF.out]
                exact ⟨rfl, Fr.refl _ _⟩
          · have hr1 : r.length = 3 := by omega
            rw [hr1] at hJ0 hS0
            simp only [Int.pow_succ, Nat.pow_succ, Int.pow_zero, Nat.pow_zero, Int.one_mul, Nat.one_mul] at hJ0 hS0
            obtain ⟨c, r', hrc⟩ : ∃ c r', r = c :: r' := by
              cases r with
              | nil => simp at hr1
              | cons c r' => exact ⟨c, r', rfl⟩
            have H1C : Hid (S[1]? = some c) := hid (by rw [H1.out, hrc]; rfl)
            have hcl := lt256 c
            obtain ⟨cn, hcn⟩ : ∃ cn, c.toNat = cn := ⟨_, rfl⟩
            rw [hcn] at hcl
            have HCN := hid hcn
            have hmin : minB b r = !(decide (bn = 0) && decide (cn < 128) || decide (bn = 255) && decide (128 ≤ cn)) := by rw [hrc, ← HBN.out, ← hcn]; rfl
            clear hcn hrc
            by_cases h128 : bn < 128
            · have hlo : ¬ (128 : Int) ≤ (bn : Int) := by omega
              have hJ : joinI (sgn b) r = (v : Int) := by have hv := hsg; rw [if_pos h128] at hv; have := HVS.out; omega
              have q255 : ((bn : Int) == 255) = false := by simp; omega
              by_cases hb0 : bn = 0
              · have q0 : ((bn : Int) == 0) = true := by simp; omega
                by_cases hc8 : cn < 128
                · have qc : (cn : Int) < 128 := by omega
                  have hR : R = (0, false) := by rw [HRR.out, hmin]; simp [hb0, hc8]
                  clear hJ0 hS0 hsg hJ hmin hr1 hrl hb0
                  have HF := hid hR
                  clear hR
                  go_wp2_with (first
                    | ((with_reducible show wpList _ _ _ (⟨_, .index 9 _ _, _, _, _, _⟩ :: _) _ _); refine wpL_valZ (by rfl) (.int .u8 (bn : Int)) (HIX.out _ _ _ _ rfl rfl rfl _) ?_)
                    | ((with_reducible show wpList _ _ _ (⟨_, .index 9 _ _, _, _, _, _⟩ :: _) _ _); refine wpL_valZ (by rfl) (.int .u8 (cn : Int)) (by rw [← HCN.out]; exact exec_idx _ _ rfl S 1 c H1C.out _ rfl rfl rfl _) ?_)
                    | fail)
                  go_ret2
                  rw [HF.out]
                  exact ⟨rfl, Fr.refl _ _⟩
                · have qc : ¬ (cn : Int) < 128 := by omega
                  have hR : R = ((v : Int), true) := by rw [HRR.out, hmin, hJ]; simp [hb0, hc8]
                  clear hJ0 hS0 hsg hJ hmin hr1 hrl hb0
                  have HF := hid hR
                  clear hR
                  go_wp2_with (first
                    | ((with_reducible show wpList _ _ _ (⟨_, .index 9 _ _, _, _, _, _⟩ :: _) _ _); refine wpL_valZ (by rfl) (.int .u8 (bn : Int)) (HIX.out _ _ _ _ rfl rfl rfl _) ?_)
                    | ((with_reducible show wpList _ _ _ (⟨_, .index 9 _ _, _, _, _, _⟩ :: _) _ _); refine wpL_valZ (by rfl) (.int .u8 (cn : Int)) (by rw [← HCN.out]; exact exec_idx _ _ rfl S 1 c H1C.out _ rfl rfl rfl _) ?_)
                    | fail)
                  go_ret2
                  rw [HF.out]
                  exact ⟨rfl, Fr.refl _ _⟩
              · have q0 : ((bn : Int) == 0) = false := by simp; omega
                have hR : R = ((v : Int), true) := by rw [HRR.out, hmin, hJ]; simp [hb0]; omega
                clear hJ0 hS0 hsg hJ hmin hr1 hrl hb0
                have HF := hid hR
                clear hR
                go_wp2_with (first
                  | ((with_reducible show wpList _ _ _ (⟨_, .index 9 _ _, _, _, _, _⟩ :: _) _ _); refine wpL_valZ (by rfl) (.int .u8 (bn : Int)) (HIX.out _ _ _ _ rfl rfl rfl _) ?_)
                  | ((with_reducible show wpList _ _ _ (⟨_, .index 9 _ _, _, _, _, _⟩ :: _) _ _); refine wpL_valZ (by rfl) (.int .u8 (cn : Int)) (by rw [← HCN.out]; exact exec_idx _ _ rfl S 1 c H1C.out _ rfl rfl rfl _) ?_)
                  | fail)
                go_ret2
                rw [HF.out]
                exact ⟨rfl, Fr.refl _ _⟩
            · have hlo : (128 : Int) ≤ (bn : Int) := by omega
              have hJ : joinI (sgn b) r = (v : Int) - 4294967296 := by have hv := hsg; rw [if_neg h128] at hv; have := HVS.out; omega
              have q0 : ((bn : Int) == 0) = false := by simp; omega
              by_cases hb0 : bn = 255
              · have q255 : ((bn : Int) == 255) = true := by simp; omega
                by_cases hc8 : 128 ≤ cn
                · have qc : (128 : Int) ≤ (cn : Int) := by omega
                  have hR : R = (0, false) := by rw [HRR.out, hmin]; simp [hb0, hc8]
                  clear hJ0 hS0 hsg hJ hmin hr1 hrl hb0
                  have HF := hid hR
                  clear hR
                  go_wp2_with (first
                    | ((with_reducible show wpList _ _ _ (⟨_, .index 9 _ _, _, _, _, _⟩ :: _) _ _); refine wpL_valZ (by rfl) (.int .u8 (bn : Int)) (HIX.out _ _ _ _ rfl rfl rfl _) ?_)
                    | ((with_reducible show wpList _ _ _ (⟨_, .index 9 _ _, _, _, _, _⟩ :: _) _ _); refine wpL_valZ (by rfl) (.int .u8 (cn : Int)) (by rw [← HCN.out]; exact exec_idx _ _ rfl S 1 c H1C.out _ rfl rfl rfl _) ?_)
                    | fail)
                  go_ret2
                  rw [HF.out]
                  exact ⟨rfl, Fr.refl _ _⟩
                · have qc : ¬ (128 : Int) ≤ (cn : Int) := by omega
                  have hR : R = ((v : Int) - 4294967296, true) := by rw [HRR.out, hmin, hJ]; simp [hb0, hc8]
                  clear hJ0 hS0 hsg hJ hmin hr1 hrl hb0
                  have HF := hid hR
                  clear hR
                  go_wp2_with (first
                    | ((with_reducible show wpList _ _ _ (⟨_, .index 9 _ _, _, _, _, _⟩ :: _) _ _); refine wpL_valZ (by rfl) (.int .u8 (bn : Int)) (HIX.out _ _ _ _ rfl rfl rfl _) ?_)
                    | ((with_reducible show wpList _ _ _ (⟨_, .index 9 _ _, _, _, _, _⟩ :: _) _ _); refine wpL_valZ (by rfl) (.int .u8 (cn : Int)) (by rw [← HCN.out]; exact exec_idx _ _ rfl S 1 c H1C.out _ rfl rfl rfl _) ?_)
                    | fail)
                  go_ret2
                  rw [HF.out]
                  exact ⟨rfl, Fr.refl _ _⟩
              · have q255 : ((bn : Int) == 255) = false := by simp; omega
                have hR : R = ((v : Int) - 4294967296, true) := by rw [HRR.out, hmin, hJ]; simp [hb0]; omega
                clear hJ0 hS0 hsg hJ hmin hr1 hrl hb0
                have HF := hid hR
                clear hR
                go_wp2_with (first
                  | ((with_reducible show wpList _ _ _ (⟨_, .index 9 _ _, _, _, _, _⟩ :: _) _ _); refine wpL_valZ (by rfl) (.int .u8 (bn : Int)) (HIX.out _ _ _ _ rfl rfl rfl _) ?_)
                  | ((with_reducible show wpList _ _ _ (⟨_, .index 9 _ _, _, _, _, _⟩ :: _) _ _); refine wpL_valZ (by rfl) (.int .u8 (cn : Int)) (by rw [← HCN.out]; exact exec_idx _ _ rfl S 1 c H1C.out _ rfl rfl rfl _) ?_)
                  | fail)
                go_ret2
                rw [HF.out]
                exact ⟨rfl, Fr.refl _ _⟩
end Go.Proofs.Ythnahoodgkeaiaa.BE
