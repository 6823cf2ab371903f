/-
  The program's escapes, as they are read.
-/
import Derived.Test.YthjmkfpdbbfcpaaGreatDoorDnV
set_option linter.unusedVariables false
set_option linter.unusedSimpArgs false
namespace Go.Proofs.YthjmkfpdbbfcpaaGreatDoor.DN
set_option maxRecDepth 100000
open Go.RowKit K Go.Proofs.YthjmkfpdbbfcpaaGreatDoor.BE

def SP : B := [34, 43, 44, 59, 60, 62, 92, 35, 61, 32]
theorem sp_index (c : UInt8) : decide ((0 : Int) ≤ Lib.indexByte SP c) = (sign c || c == 35 || c == 61 || c == 32) := by
  have := u8_all (fun c => decide ((0 : Int) ≤ Lib.indexByte SP c) == (sign c || c == 35 || c == 61 || c == 32)) (by decide +kernel) c
  simpa using this
/-- What is told of an escape. -/
def escV (s : B) : Value := match esc s with
  | some x => .tuple #[.int .u8 (x.1.toNat : Int), .int .i64 (((s.length - x.2.length + 1 : Nat)) : Int)]
  | none => .tuple #[.int .u8 0, .int .i64 0]
theorem hexs_two (x y : UInt8) : hexs 0 [x, y] = (hexv x).bind fun a => (hexv y).bind fun b => some (16 * a.toNat + b.toNat) := by
  simp [hexs]
set_option maxHeartbeats 4000000 in
theorem escaped_any (s : B) (hs : Sz s) (w : World) (hG : Gl w) : Calls Tryz.prog 60 #[.string (sb s)] w fun e w' => e = .returned (escV s) ∧ Fr No w w' := by
  have HG := hid hG
  clear hG
  cases s with
  | nil =>
    have hv : escV [] = .tuple #[.int .u8 0, .int .i64 0] := rfl
    rw [hv]
    clear hs hv
    go_enter Tryz.func60, Tryz.ntmps60
    go_wp2_with (first | ((with_reducible refine K.atO (.binOp .neq 9 _ _ _) ?_); refine wpL_valZ rfl (.bool false) (by exact exec_neS _ _ _ rfl [] [] rfl rfl _) ?_) | fail)
    go_ret2
    exact ⟨rfl, Fr.refl _ _⟩
  | cons c r =>
    have hlen : ((sb (c :: r)).size : Int) = (r.length : Int) + 1 := by rw [sb_size]; simp
    have hrl : (r.length : Int) ≤ 140737488351232 := by unfold Sz at hs; simp at hs; omega
    have hne : (!decide ((c :: r : B) = [])) = true := rfl
    have HN := hid hne
    have HSP := hid (sp_index c)
    have HIX := hid (fun w => indexByte_any SP c w)
    cases hsg : (sign c || c == 35 || c == 61 || c == 32) with
    | true =>
      have HV : Hid (escV (c :: r) = .tuple #[.int .u8 (c.toNat : Int), .int .i64 2]) := hid (by
        have he : esc (c :: r) = some (c, r) := by
          show (if (sign c || c == 35 || c == 61 || c == 32) = true then _ else _) = _
          rw [hsg, if_pos rfl]
        unfold escV
        rw [he]
        simp)
      rw [HV.out]
      rw [hsg] at HSP
      have hi0 := of_decide_eq_true HSP.out
      obtain ⟨x, hx⟩ : ∃ x : Int, Lib.indexByte SP c = x := ⟨_, rfl⟩
      obtain ⟨S, hS⟩ : ∃ S, sb (c :: r) = S := ⟨_, rfl⟩
      have HS := hid hS
      rw [hx] at hi0 HIX
      rw [hS] at hlen ⊢
      clear hsg HSP HV hne hx hS hs
      go_enter Tryz.func60, Tryz.ntmps60
      go_wp2_with (first
        | ((with_reducible refine K.atO (.binOp .neq 9 _ _ _) ?_); refine wpL_valZ rfl (.bool true) (by rw [← HS.out]; exact exec_neS _ _ _ rfl (c :: r) [] rfl rfl _) ?_)
        | ((with_reducible refine K.atO (.index 9 _ _) ?_); refine wpL_valZ rfl (.int .u8 (c.toNat : Int)) (by rw [← HS.out]; exact exec_idx _ _ rfl (c :: r) 0 c rfl 0 rfl rfl rfl _) ?_)
        | fail)
      refine (HIX.out _).mono ?_
      rintro e w1 ⟨rfl, rfl⟩
      go_wp2_with (first
        | ((with_reducible refine K.atO (.index 9 _ _) ?_); refine wpL_valZ rfl (.int .u8 (c.toNat : Int)) (by rw [← HS.out]; exact exec_idx _ _ rfl (c :: r) 0 c rfl 0 rfl rfl rfl _) ?_)
        | fail)
      go_ret2
      exact ⟨rfl, Fr.refl _ _⟩
    | false =>
      have hec := esc_cons c r
      rw [hsg, if_neg (by decide)] at hec
      rw [hsg] at HSP
      have hi0 := of_decide_eq_false HSP.out
      obtain ⟨x, hx⟩ : ∃ x : Int, Lib.indexByte SP c = x := ⟨_, rfl⟩
      rw [hx] at hi0 HIX
      cases r with
      | nil =>
        have HV : Hid (escV [c] = .tuple #[.int .u8 0, .int .i64 0]) := hid (by unfold escV; rw [hec])
        rw [HV.out]
        obtain ⟨S, hS⟩ : ∃ S, sb [c] = S := ⟨_, rfl⟩
        have HS := hid hS
        rw [hS] at hlen ⊢
        have hl1 : (S.size : Int) = 1 := by rw [hlen]; rfl
        clear hsg HSP HV hne hx hS hs hec hlen hrl
        go_enter Tryz.func60, Tryz.ntmps60
        go_wp2_with (first
          | ((with_reducible refine K.atO (.binOp .neq 9 _ _ _) ?_); refine wpL_valZ rfl (.bool true) (by rw [← HS.out]; exact exec_neS _ _ _ rfl [c] [] rfl rfl _) ?_)
          | ((with_reducible refine K.atO (.index 9 _ _) ?_); refine wpL_valZ rfl (.int .u8 (c.toNat : Int)) (by rw [← HS.out]; exact exec_idx _ _ rfl [c] 0 c rfl 0 rfl rfl rfl _) ?_)
          | fail)
        refine (HIX.out _).mono ?_
        rintro e w1 ⟨rfl, rfl⟩
        go_wp2_with fail
        go_ret2
        exact ⟨rfl, Fr.refl _ _⟩
      | cons d r' =>
        have hec2 := hec
        dsimp only at hec2
        have HPU := hid (fun w (hG : Gl w) => parseUint_any c d w hG)
        have htk : (c :: d :: r').take 2 = [c, d] := rfl
        have hl2 : (2 : Int) ≤ ((r'.length : Int) + 1) + 1 := by omega
        have hrl2 : ((d :: r').length : Int) = (r'.length : Int) + 1 := by simp
        rw [hrl2] at hlen hrl
        have HL2 : Hid (2 ≤ (c :: d :: r').length) := hid (by simp)
        obtain ⟨rn, hrn⟩ : ∃ rn : Int, (r'.length : Int) = rn := ⟨_, rfl⟩
        rw [hrn] at hlen hrl hl2
        have hrn0 : 0 ≤ rn := by omega
        cases hq : hexs 0 [c, d] with
        | some n =>
          have hh := hexs_two c d
          rw [hq] at hh
          obtain ⟨xa, ha⟩ : ∃ xa, hexv c = some xa := by
            cases h : hexv c with
            | none => rw [h] at hh; cases hh
            | some x => exact ⟨x, rfl⟩
          obtain ⟨ya, hb⟩ : ∃ ya, hexv d = some ya := by
            cases h : hexv d with
            | none => rw [ha, h] at hh; cases hh
            | some x => exact ⟨x, rfl⟩
          rw [ha, hb] at hh hec2
          have hxl := hexv_lt ha
          have hyl := hexv_lt hb
          have hn : n = 16 * xa.toNat + ya.toNat := by simpa using hh
          have hby : ((16 * xa + ya : UInt8)).toNat = n := by rw [hn, UInt8.toNat_add, UInt8.toNat_mul]; simp; omega
          have HV : Hid (escV (c :: d :: r') = .tuple #[.int .u8 (n : Int), .int .i64 3]) := hid (by
            unfold escV; rw [hec2]
            show Value.tuple #[.int .u8 (((16 * xa + ya : UInt8)).toNat : Int), .int .i64 (((c :: d :: r').length - r'.length + 1 : Nat) : Int)] = _
            rw [hby]
            have : (c :: d :: r').length - r'.length + 1 = 3 := by simp; omega
            rw [this]; rfl)
          have hn1 : (n : Int) < 256 := by omega
          have hn0 : (0 : Int) ≤ n := by omega
          have hwr : IntKind.u8.wrap (n : Int) = n := by simp [IntKind.wrap, IntKind.bits, IntKind.signed]; omega
          have HWR := hid hwr
          rw [HV.out]
          have HTU : Hid (∀ e, ToldU [c, d] e → e = .returned (.tuple #[.int .u64 (n : Int), .nilIface])) := hid (fun e h => by unfold ToldU at h; rw [hq] at h; exact h)
          obtain ⟨S, hS⟩ : ∃ S, sb (c :: d :: r') = S := ⟨_, rfl⟩
          have HS := hid hS
          rw [hS] at hlen ⊢
          clear hsg HSP HV hne hx hS hs hec hec2 hrl2 hh ha hb hxl hyl hn hby hq htk hwr hrn
          go_enter Tryz.func60, Tryz.ntmps60
          go_wp2_with (first
            | ((with_reducible refine K.atO (.binOp .neq 9 _ _ _) ?_); refine wpL_valZ rfl (.bool true) (by rw [← HS.out]; exact exec_neS _ _ _ rfl (c :: d :: r') [] rfl rfl _) ?_)
            | ((with_reducible refine K.atO (.index 9 _ _) ?_); refine wpL_valZ rfl (.int .u8 (c.toNat : Int)) (by rw [← HS.out]; exact exec_idx _ _ rfl (c :: d :: r') 0 c rfl 0 rfl rfl rfl _) ?_)
            | fail)
          refine (HIX.out _).mono ?_
          rintro e w1 ⟨rfl, rfl⟩
          go_wp2_with (first
            | ((with_reducible refine K.atO (.slice 9 _ _ _ _) ?_); refine wpL_valZ rfl (.string (sb [c, d])) (by rw [← HS.out]; exact exec_to _ _ rfl (c :: d :: r') 2 rfl rfl HL2.out _ rfl _) ?_)
            | fail)
          refine (HPU.out _ HG.out).mono ?_
          rintro e w2 ⟨h2, f2⟩
          obtain rfl := HTU.out _ h2
          have HF2 := hid f2
          clear f2 h2
          go_wp2_with fail
          go_ret2
          refine ⟨?_, HF2.out⟩
          first
            | rfl
            | (show Ending.returned (.tuple #[.int .u8 (IntKind.u8.wrap (n : Int)), _]) = _; rw [HWR.out]; rfl)
        | none =>
          have hh := hexs_two c d
          rw [hq] at hh
          have he : esc (c :: d :: r') = none := by
            rw [hec2]
            cases h : hexv c with
            | none => rfl
            | some x =>
              cases h2 : hexv d with
              | none => rfl
              | some y => rw [h, h2] at hh; cases hh
          have HV : Hid (escV (c :: d :: r') = .tuple #[.int .u8 0, .int .i64 0]) := hid (by unfold escV; rw [he])
          rw [HV.out]
          have HTU : Hid (∀ e, ToldU [c, d] e → ∃ t u, e = .returned (.tuple #[.int .u64 0, .iface t u])) := hid (fun e h => by unfold ToldU at h; rw [hq] at h; exact h)
          obtain ⟨S, hS⟩ : ∃ S, sb (c :: d :: r') = S := ⟨_, rfl⟩
          have HS := hid hS
          rw [hS] at hlen ⊢
          clear hsg HSP HV hne hx hS hs hec hec2 hrl2 hh he hq htk hrn
          go_enter Tryz.func60, Tryz.ntmps60
          go_wp2_with (first
            | ((with_reducible refine K.atO (.binOp .neq 9 _ _ _) ?_); refine wpL_valZ rfl (.bool true) (by rw [← HS.out]; exact exec_neS _ _ _ rfl (c :: d :: r') [] rfl rfl _) ?_)
            | ((with_reducible refine K.atO (.index 9 _ _) ?_); refine wpL_valZ rfl (.int .u8 (c.toNat : Int)) (by rw [← HS.out]; exact exec_idx _ _ rfl (c :: d :: r') 0 c rfl 0 rfl rfl rfl _) ?_)
            | fail)
          refine (HIX.out _).mono ?_
          rintro e w1 ⟨rfl, rfl⟩
          go_wp2_with (first
            | ((with_reducible refine K.atO (.slice 9 _ _ _ _) ?_); refine wpL_valZ rfl (.string (sb [c, d])) (by rw [← HS.out]; exact exec_to _ _ rfl (c :: d :: r') 2 rfl rfl HL2.out _ rfl _) ?_)
            | fail)
          refine (HPU.out _ HG.out).mono ?_
          rintro e w2 ⟨h2, f2⟩
          obtain ⟨t, u, rfl⟩ := HTU.out _ h2
          have HF2 := hid f2
          clear f2 h2
          go_wp2_with fail
          go_ret2
          exact ⟨rfl, HF2.out⟩
end Go.Proofs.YthjmkfpdbbfcpaaGreatDoor.DN
