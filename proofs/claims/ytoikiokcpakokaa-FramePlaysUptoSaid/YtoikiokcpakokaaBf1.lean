/-
  The document's words on elements: Tag, Deep, shaped.
-/
import Derived.Test.YtoikiokcpakokaaBeT
set_option linter.unusedVariables false
set_option linter.unusedSimpArgs false
namespace Go.Proofs.Ytoikiokcpakokaa.BE
set_option maxRecDepth 100000
open Go.RowKit K

theorem rem31 : ∀ m : Fin 256, (decide (((m.val : Nat) : Int) % 32 = 31)) = !tagB ((m.val : Nat) : Int) := by decide +kernel
theorem tag_any (t : Int) (w : World) : Calls Try.prog 23 #[.int .i64 t] w fun e w' => e = .returned (.bool (tagB t)) ∧ w' = w := by
  by_cases h0 : 0 ≤ t
  · by_cases h1 : t ≤ 255
    · obtain ⟨m, rfl⟩ : ∃ m : Nat, t = m := ⟨t.toNat, by omega⟩
      have ha := rem31 ⟨m, by omega⟩
      simp only at ha
      cases hb : tagB (m : Int) with
      | true =>
        rw [hb] at ha
        have h2 : ((m : Int) % 32 != 31) = true := by simpa using ha
        clear ha hb
        go_enter Try.func23, Try.ntmps23
        go_wp2
        go_ret
        exact ⟨rfl, rfl⟩
      | false =>
        rw [hb] at ha
        have h2 : ((m : Int) % 32 != 31) = false := by simpa using ha
        clear ha hb
        go_enter Try.func23, Try.ntmps23
        go_wp2
        go_ret
        exact ⟨rfl, rfl⟩
    · have : tagB t = false := by simp [tagB, h1]
      rw [this]
      go_enter Try.func23, Try.ntmps23
      go_wp2
      go_ret
      exact ⟨rfl, rfl⟩
  · have : tagB t = false := by simp [tagB, h0]
    rw [this]
    go_enter Try.func23, Try.ntmps23
    go_wp2
    go_ret
    exact ⟨rfl, rfl⟩
/-- It answers b. -/
def Says (b : Bool) (w : World) (e : Ending) (w' : World) : Prop := e = .returned (.bool b) ∧ Fr No w w'
end Go.Proofs.Ytoikiokcpakokaa.BE
