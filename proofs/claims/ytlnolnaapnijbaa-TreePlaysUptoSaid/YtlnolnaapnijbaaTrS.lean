/-
  sort.Search over a closure that only reads.
-/
import Derived.Test.YtlnolnaapnijbaaChecked
import Derived.Test.YtlnolnaapnijbaaTrO
namespace Go.Proofs.Ytlnolnaapnijbaa.TR
set_option maxRecDepth 100000
open Go.RowKit K

/-- A call of a function or a closure, at the list of a plain region. -/
theorem wpL_callv {P : Program} {ops : Array Oper} {rest : List Oper} {op : Oper} {a : Act} {w : World} {Q : Exit → Act → World → Prop} (hgd : op.guard = none) (x : Operand) (args : List Operand) (tys : Array TypeId)
    (ho : op.op = .call { callee := .value x, args := args.toArray, argTypes := tys }) (f : FuncId) (cap : List Value) (hx : a.eval x = .func (.func f) #[] cap.toArray)
    (hent : ∀ (vs : Array Value) (w : World), (callFunc f vs).run P w = .ok (.enter f vs) w) (vs : List Value) (hvs : args.map a.eval ++ cap = vs)
    (hc : Calls P f vs.toArray w fun e w' => ∃ v, e = .returned v ∧ wpList P ops Q rest (a.put op.dst v) w') : wpList P ops Q (op :: rest) a w :=
  wpList_plain hgd fun _ hK => wp_call x args tys ho f cap hx hent vs hvs (hc.mono fun e w' ⟨v, h1, h2⟩ => ⟨v, h1, hK _ _ h2⟩)

def Found (p : Nat → Bool) (n : Nat) (w : World) (e : Ending) (w' : World) : Prop :=
  ∃ i : Nat, e = .returned (.int .i64 i) ∧ i ≤ n ∧ (∀ j, j < i → p j = false) ∧ (∀ j, i ≤ j → j < n → p j = true) ∧ Fr No w w'

set_option maxHeartbeats 1000000 in
theorem search_any (n : Nat) (f : FuncId) (cap : List Value) (p : Nat → Bool) (w : World) (hn : n ≤ 4611686018427387904) (hent : ∀ (vs : Array Value) (w : World), (callFunc f vs).run Try.prog w = .ok (.enter f vs) w)
    (hf : ∀ (i : Nat) (W : World), i < n → Fr No w W → Calls Try.prog f (Value.int .i64 i :: cap).toArray W fun e W' => e = .returned (.bool (p i)) ∧ Fr No W W')
    (hm : ∀ i j, i ≤ j → j < n → p i = true → p j = true) :
    Calls Try.prog 100 #[.int .i64 n, .func (.func f) #[] cap.toArray] w (Found p n w) := by
  have Hf := hid hf; have Hm := hid hm; have He := hid hent
  clear hf hm hent
  go_enter Try.func100, Try.ntmps100
  go_wp2
  go_loopw [5, 6] (fun i j wr => ∃ a b : Nat, i = .int .i64 a ∧ j = .int .i64 b ∧ a ≤ b ∧ b ≤ n ∧ Hid (Fr No w wr) ∧ Hid (∀ k, k < a → p k = false) ∧ Hid (∀ k, b ≤ k → k < n → p k = true)) (fun i j _ => (intOf j).toNat - (intOf i).toNat)
  case atStart => exact ⟨0, n, rfl, rfl, Nat.zero_le _, Nat.le_refl _, hid (Fr.refl _ _), hid (fun k hk => by omega), hid (fun k h1 h2 => by omega)⟩
  case round =>
    obtain ⟨a, b, rfl, rfl, hab, hbn, HF, H1, H2⟩ := hrel
    by_cases hlt : a < b
    · go_wp2_with fail
      rw [He.out, show ((a : Int) + b) / 2 = (((a + b) / 2 : Nat) : Int) from by omega]
      generalize hc : (a + b) / 2 = c
      have hac : a ≤ c := by omega
      have hcb : c < b := by omega
      clear hc
      refine (Hf.out c wr (by omega) HF.out).mono ?_
      rintro e w1 ⟨rfl, hf1⟩
      have HF1 : Hid (Fr No w w1) := hid (HF.out.trans' hf1)
      clear hf1
      cases hp : p c
      · have H1' : Hid (∀ k, k < c + 1 → p k = false) := hid (fun k hk => by
          cases hq : p k
          · rfl
          · have := Hm.out k c (by omega) (by omega) hq
            rw [hp] at this; cases this)
        go_wp2
        exact ⟨⟨c + 1, b, by go_num, rfl, by omega, hbn, HF1, H1', H2⟩, by simp [intOf]; omega⟩
      · have H2' : Hid (∀ k, c ≤ k → k < n → p k = true) := hid (fun k h1 h2 => Hm.out c k h1 h2 hp)
        go_wp2
        exact ⟨⟨a, c, rfl, rfl, hac, by omega, HF1, H1, H2'⟩, by simp [intOf]; omega⟩
    · have hab' : a = b := by omega
      subst hab'
      go_wp2
      go_ret
      exact ⟨a, rfl, hbn, H1.out, H2.out, HF.out⟩
end Go.Proofs.Ytlnolnaapnijbaa.TR
