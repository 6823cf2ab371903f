/-
  Package ber: numbers and their bytes.
-/
import Derived.Test.YthnahoodgkeaiaaBeX
set_option linter.unusedVariables false
set_option linter.unusedSimpArgs false
namespace Go.Proofs.Ythnahoodgkeaiaa.BE
set_option maxRecDepth 100000
open Go.RowKit K

def byt (n : Int) : UInt8 := UInt8.ofNat (n % 256).toNat
theorem byt_nat (n : Int) : ((byt n).toNat : Int) = n % 256 := by
  unfold byt
  rw [ofNat_lt (by omega)]
  omega
/-- The bytes of a number of at most f + 1 bytes. -/
def intG : Nat → Int → B
  | 0, n => [byt n]
  | f + 1, n => if n = sgn (byt n) then [byt n] else intG f (n / 256) ++ [byt n]
def intS (n : Int) : B := intG 7 n
theorem intG_len : ∀ (f : Nat) (n : Int), 1 ≤ (intG f n).length ∧ (intG f n).length ≤ f + 1
  | 0, n => by simp [intG]
  | f + 1, n => by
    unfold intG
    split
    · simp
    · have := intG_len f (n / 256)
      simp; omega
theorem sgn_byt (n : Int) : sgn (byt n) = if n % 256 < 128 then n % 256 else n % 256 - 256 := by
  have h := byt_nat n
  unfold sgn
  have : ((byt n).toNat < 128) = (n % 256 < 128) := by simp; omega
  by_cases h1 : n % 256 < 128
  · rw [if_pos (by omega), if_pos h1]; exact h
  · rw [if_neg (by omega), if_neg h1, h]
set_option maxHeartbeats 4000000 in
theorem int_any : ∀ (f : Nat) (n : Int) (w : World), f ≤ 7 → -(128 * 256 ^ f) ≤ n → n < 128 * 256 ^ f → (-9223372036854775808 ≤ n ∧ n ≤ 9223372036854775807) → Calls Try.prog 20 #[.int .i64 n] w fun e w' => e = .returned (.string (sb (intG f n))) ∧ Fr No w w' := by
  intro f
  induction f with
  | zero =>
    intro n w _ h1 h2 hb
    have heq : n = sgn (byt n) := by rw [sgn_byt]; split <;> omega
    have HEQ := hid heq
    have hby : BytesIn (w.alloc (.cells #[.int .u8 (n % 256)] 5)) Any (.slice (some ⟨w.heap.size, 0, none⟩) 1 1) [byt n] := bytes_lit w _ _ _ (by simp [u8s, byt_nat]) rfl
    have HBY := hid hby
    have HI : Hid (([byt n] : B)[0]? = some (byt n)) := hid rfl
    clear heq hby
    obtain ⟨bb, hbb⟩ : ∃ bb, byt n = bb := ⟨_, rfl⟩
    rw [hbb] at HEQ HBY HI
    have HBB := hid hbb
    have HG : Hid (intG 0 n = [bb]) := hid (by show [byt n] = [bb]; rw [hbb])
    clear hbb h1 h2
    go_enter Try.func20, Try.ntmps20
    go_wp2_with (first
      | ((with_reducible show wpList _ _ _ (⟨_, .convert _ 9 _, _, _, _, _⟩ :: _) _ _); refine wpL_stringS rfl _ rfl _ Any _ rfl HBY.out ?_)
      | ((with_reducible show wpList _ _ _ (⟨_, .index 9 _ _, _, _, _, _⟩ :: _) _ _); refine wpL_valZ rfl (.int .u8 (bb.toNat : Int)) (exec_idx _ _ rfl [bb] 0 bb HI.out _ rfl rfl rfl _) ?_))
    refine (signed_any bb _).mono ?_
    rintro e w1 ⟨rfl, rfl⟩
    rw [← HEQ.out]
    go_wp2_with fail
    go_ret
    rw [HG.out]
    exact ⟨rfl, (Fr.refl No w).alloc _⟩
  | succ f ih =>
    intro n w hf h1 h2 hb
    have hby : BytesIn (w.alloc (.cells #[.int .u8 (n % 256)] 5)) Any (.slice (some ⟨w.heap.size, 0, none⟩) 1 1) [byt n] := bytes_lit w _ _ _ (by simp [u8s, byt_nat]) rfl
    have HBY := hid hby
    have HI : Hid (([byt n] : B)[0]? = some (byt n)) := hid rfl
    have HIH := hid ih
    have HP := hid (show -(128 * 256 ^ f) ≤ n / 256 ∧ n / 256 < 128 * 256 ^ f by
      rw [Int.pow_succ] at h1 h2
      omega)
    have HG0 : intG (f + 1) n = if n = sgn (byt n) then [byt n] else intG f (n / 256) ++ [byt n] := rfl
    obtain ⟨bb, hbb⟩ : ∃ bb, byt n = bb := ⟨_, rfl⟩
    rw [hbb] at HBY HI HG0
    have HG := hid HG0
    have HFL := hid hf
    have HSG : Hid (-128 ≤ sgn bb ∧ sgn bb ≤ 127) := hid (by unfold sgn; have := lt256 bb; split <;> omega)
    clear hbb h1 h2 hby ih HG0 hf
    obtain ⟨sg, hsg⟩ : ∃ sg, sgn bb = sg := ⟨_, rfl⟩
    rw [hsg] at HG HSG
    have HSE := hid hsg
    clear hsg
    by_cases hq : n = sg
    · have hG : intG (f + 1) n = [bb] := by rw [HG.out, if_pos hq]
      have HGG := hid hG
      have HQ := hid hq
      clear hG hq
      go_enter Try.func20, Try.ntmps20
      go_wp2_with (first
        | ((with_reducible show wpList _ _ _ (⟨_, .convert _ 9 _, _, _, _, _⟩ :: _) _ _); refine wpL_stringS rfl _ rfl _ Any _ rfl HBY.out ?_)
        | ((with_reducible show wpList _ _ _ (⟨_, .index 9 _ _, _, _, _, _⟩ :: _) _ _); refine wpL_valZ rfl (.int .u8 (bb.toNat : Int)) (exec_idx _ _ rfl [bb] 0 bb HI.out _ rfl rfl rfl _) ?_))
      refine (signed_any bb _).mono ?_
      rintro e w1 ⟨rfl, rfl⟩
      rw [HSE.out, ← HQ.out]
      go_wp2_with fail
      go_ret
      rw [HGG.out]
      exact ⟨rfl, (Fr.refl No w).alloc _⟩
    · have hG : intG (f + 1) n = intG f (n / 256) ++ [bb] := by rw [HG.out, if_neg hq]
      have HGG := hid hG
      clear hG
      go_enter Try.func20, Try.ntmps20
      go_wp2_with (first
        | ((with_reducible show wpList _ _ _ (⟨_, .convert _ 9 _, _, _, _, _⟩ :: _) _ _); refine wpL_stringS rfl _ rfl _ Any _ rfl HBY.out ?_)
        | ((with_reducible show wpList _ _ _ (⟨_, .index 9 _ _, _, _, _, _⟩ :: _) _ _); refine wpL_valZ rfl (.int .u8 (bb.toNat : Int)) (exec_idx _ _ rfl [bb] 0 bb HI.out _ rfl rfl rfl _) ?_))
      refine (signed_any bb _).mono ?_
      rintro e w1 ⟨rfl, rfl⟩
      rw [HSE.out]
      go_wp2_with fail
      refine (HIH.out (n / 256) _ (by have := HFL.out; omega) HP.out.1 HP.out.2 (by omega)).mono ?_
      rintro e w2 ⟨rfl, f2⟩
      have hl := (intG_len f (n / 256)).2
      have hfl := HFL.out
      have HF2 := hid (((Fr.refl No w).alloc _).trans' f2)
      obtain ⟨G, hG⟩ : ∃ G, intG f (n / 256) = G := ⟨_, rfl⟩
      rw [hG] at hl ⊢
      have HGE := hid hG
      have HLE := hid (show G.length + [bb].length ≤ 9223372036854775807 by simp; omega)
      clear f2 hG hl
      go_wp2_with ((with_reducible show wpList _ _ _ (⟨_, .binOp .add 9 _ _ _, _, _, _, _⟩ :: _) _ _); refine wpL_valZ rfl (.string (sb (G ++ [bb]))) (exec_addS _ _ _ rfl G [bb] rfl rfl HLE.out _ rfl _) ?_)
      go_ret
      rw [HGG.out, HGE.out]
      exact ⟨rfl, HF2.out⟩
end Go.Proofs.Ythnahoodgkeaiaa.BE
