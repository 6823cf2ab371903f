/-
  Part 14 of the proof: StR.
-/
import Derived.Test.YtflfmkokfbgclaaGreatChecked
import Derived.Test.YtflfmkokfbgclaaGreatRc02
import Derived.Test.YtflfmkokfbgclaaGreatRc00
set_option linter.unusedSimpArgs false
set_option linter.unusedVariables false
namespace Go.Proofs.YtflfmkokfbgclaaGreat.ST
set_option maxRecDepth 100000
open Go.RowKit K

abbrev S := ByteArray
structure Ch where
  key : S
  value : S
  gone : Bool
def Ch.cells (c : Ch) : List Value := [.string c.key, .string c.value, .bool c.gone]
abbrev Ch.agg (c : Ch) : Value := .agg #[.string c.key, .string c.value, .bool c.gone]
/-- May a change be? -/
def Ch.may (c : Ch) : Bool := !decide (c.key.size = 0) && decide (c.key.size ≤ 64) && decide (c.value.size ≤ 400) && (!c.gone || decide (c.value.size = 0))
theorem empty_size (s : S) : s.toList.isEmpty = decide (s.size = 0) := by
  rw [ByteArray.toList_eq]
  have : s.size = s.data.toList.length := by simp
  rw [this]
  cases s.data.toList <;> simp
set_option maxHeartbeats 8000000 in
theorem allowed_any (c : Ch) (w : World) (hk : c.key.size ≤ 9223372036854775807) (hv : c.value.size ≤ 9223372036854775807) : Calls Tryz.prog 25 #[c.agg] w fun e w' => e = .returned (.bool c.may) ∧ Fr No w w' := by
  obtain ⟨key, value, gone⟩ := c
  have e1 := empty_size key
  have e2 := empty_size value
  have hki : (key.size : Int) ≤ 9223372036854775807 := by simp only at hk; omega
  have hvi : (value.size : Int) ≤ 9223372036854775807 := by simp only at hv; omega
  clear hk hv
  show Calls _ _ #[.agg #[.string key, .string value, .bool gone]] _ _
  by_cases h1 : key.size = 0
  · have hm : (⟨key, value, gone⟩ : Ch).may = false := by simp [Ch.may, h1]
    rw [h1] at e1
    have e3 : key.toList.isEmpty = true := by rw [e1]; rfl
    have HM := hid hm
    clear e1 e2 hm h1
    go_enter Tryz.func25, Tryz.ntmps25
    go_wp2_with ((with_reducible show wpList _ _ _ (⟨_, .box 55 _, _, _, _, _⟩ :: _) _ _); refine wpL_box rfl _ _ rfl _ rfl [.string key, .string value, .bool gone] rfl ?_; intro w1 HB1 F1 HS1; have x0 : w1.cell? ⟨w.heap.size, 0, none⟩ = some (.string key) := HB1.out.cell 0; have x1 : w1.cell? ⟨w.heap.size, 1, none⟩ = some (.string value) := HB1.out.cell 1; have x2 : w1.cell? ⟨w.heap.size, 2, none⟩ = some (.bool gone) := HB1.out.cell 2)
    go_ret
    exact ⟨by rw [HM.out]; rfl, F1.out⟩
  have e3 : key.toList.isEmpty = false := by rw [e1]; simp [h1]
  by_cases h2 : 64 < key.size
  · have hm : (⟨key, value, gone⟩ : Ch).may = false := by
      have : ¬ key.size ≤ 64 := by omega
      simp [Ch.may, this]
    have h2i : (64 : Int) < key.size := by omega
    have HM := hid hm
    clear e1 e2 hm h1 h2
    go_enter Tryz.func25, Tryz.ntmps25
    go_wp2_with ((with_reducible show wpList _ _ _ (⟨_, .box 55 _, _, _, _, _⟩ :: _) _ _); refine wpL_box rfl _ _ rfl _ rfl [.string key, .string value, .bool gone] rfl ?_; intro w1 HB1 F1 HS1; have x0 : w1.cell? ⟨w.heap.size, 0, none⟩ = some (.string key) := HB1.out.cell 0; have x1 : w1.cell? ⟨w.heap.size, 1, none⟩ = some (.string value) := HB1.out.cell 1; have x2 : w1.cell? ⟨w.heap.size, 2, none⟩ = some (.bool gone) := HB1.out.cell 2)
    go_ret
    exact ⟨by rw [HM.out]; rfl, F1.out⟩
  have h2i : (key.size : Int) ≤ 64 := by omega
  by_cases h3 : 400 < value.size
  · have hm : (⟨key, value, gone⟩ : Ch).may = false := by
      have : ¬ value.size ≤ 400 := by omega
      simp [Ch.may, this]
    have h3i : (400 : Int) < value.size := by omega
    have HM := hid hm
    clear e1 e2 hm h1 h2 h3
    go_enter Tryz.func25, Tryz.ntmps25
    go_wp2_with ((with_reducible show wpList _ _ _ (⟨_, .box 55 _, _, _, _, _⟩ :: _) _ _); refine wpL_box rfl _ _ rfl _ rfl [.string key, .string value, .bool gone] rfl ?_; intro w1 HB1 F1 HS1; have x0 : w1.cell? ⟨w.heap.size, 0, none⟩ = some (.string key) := HB1.out.cell 0; have x1 : w1.cell? ⟨w.heap.size, 1, none⟩ = some (.string value) := HB1.out.cell 1; have x2 : w1.cell? ⟨w.heap.size, 2, none⟩ = some (.bool gone) := HB1.out.cell 2)
    go_ret
    exact ⟨by rw [HM.out]; rfl, F1.out⟩
  have h3i : (value.size : Int) ≤ 400 := by omega
  cases gone with
  | false =>
    have hm : (⟨key, value, false⟩ : Ch).may = true := by
      have a1 : key.size ≤ 64 := by omega
      have a2 : value.size ≤ 400 := by omega
      simp [Ch.may, h1, a1, a2]
    have HM := hid hm
    clear e1 e2 hm h1 h2 h3
    go_enter Tryz.func25, Tryz.ntmps25
    go_wp2_with ((with_reducible show wpList _ _ _ (⟨_, .box 55 _, _, _, _, _⟩ :: _) _ _); refine wpL_box rfl _ _ rfl _ rfl [.string key, .string value, .bool false] rfl ?_; intro w1 HB1 F1 HS1; have x0 : w1.cell? ⟨w.heap.size, 0, none⟩ = some (.string key) := HB1.out.cell 0; have x1 : w1.cell? ⟨w.heap.size, 1, none⟩ = some (.string value) := HB1.out.cell 1; have x2 : w1.cell? ⟨w.heap.size, 2, none⟩ = some (.bool false) := HB1.out.cell 2)
    go_ret
    exact ⟨by rw [HM.out]; rfl, F1.out⟩
  | true =>
    have hm : (⟨key, value, true⟩ : Ch).may = value.toList.isEmpty := by
      have a1 : key.size ≤ 64 := by omega
      have a2 : value.size ≤ 400 := by omega
      rw [e2]
      simp [Ch.may, h1, a1, a2]
    have HM := hid hm
    obtain ⟨b, hb⟩ : ∃ b, value.toList.isEmpty = b := ⟨_, rfl⟩
    have HB := hid hb
    clear e1 e2 hm h1 h2 h3
    go_enter Tryz.func25, Tryz.ntmps25
    go_wp2_with ((with_reducible show wpList _ _ _ (⟨_, .box 55 _, _, _, _, _⟩ :: _) _ _); refine wpL_box rfl _ _ rfl _ rfl [.string key, .string value, .bool true] rfl ?_; intro w1 HB1 F1 HS1; have x0 : w1.cell? ⟨w.heap.size, 0, none⟩ = some (.string key) := HB1.out.cell 0; have x1 : w1.cell? ⟨w.heap.size, 1, none⟩ = some (.string value) := HB1.out.cell 1; have x2 : w1.cell? ⟨w.heap.size, 2, none⟩ = some (.bool true) := HB1.out.cell 2)
    go_ret
    exact ⟨by rw [HM.out, HB.out]; first | rfl | simp, F1.out⟩
theorem size_any (k v : S) (w : World) (hk : k.size ≤ 1073741824) (hv : v.size ≤ 1073741824) : Calls Tryz.prog 75 #[.string k, .string v] w fun e w' => e = .returned (.int .i64 ((4 + k.size + v.size : Nat) : Int)) ∧ w = w' := by
  have hki : (k.size : Int) ≤ 1073741824 := by omega
  have hvi : (v.size : Int) ≤ 1073741824 := by omega
  clear hk hv
  go_enter Tryz.func75, Tryz.ntmps75
  go_wp2
  go_ret
  exact ⟨by first | rfl | simp, rfl⟩
end Go.Proofs.YtflfmkokfbgclaaGreat.ST
