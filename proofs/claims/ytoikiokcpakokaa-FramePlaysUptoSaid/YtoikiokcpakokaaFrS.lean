/-
  Package frame: size.
-/
import Derived.Test.YtoikiokcpakokaaFrD
import Derived.Test.YtoikiokcpakokaaBeG
set_option linter.unusedVariables false
set_option linter.unusedSimpArgs false
namespace Go.Proofs.Ytoikiokcpakokaa.FR
set_option maxRecDepth 100000
open Go.RowKit K Go.Proofs.Ytoikiokcpakokaa.BE

/-- What size tells. -/
def szN (s : B) : Nat × Nat := match szF s with
  | .error e => (0, e)
  | .ok n => (n, 0)
def toldS (x : Nat × Nat) : Ending := .returned (.tuple #[.int .i64 (x.1 : Int), .int .i64 (x.2 : Int)])
theorem hd_pos {s : B} {e : Nat} (h : hdS s = .error e) : e ≠ 0 := by
  match s, h with
  | [], h => cases h; decide
  | [b], h =>
    simp only [hdS] at h
    split at h <;> (cases h; decide)
  | t :: l :: q, h =>
    simp only [hdS] at h
    split at h
    · cases h; decide
    · split at h
      · cases h
      · split at h
        · split at h
          · cases h; decide
          · split at h
            · cases h; decide
            · cases h
        · split at h
          · split at h
            · split at h
              · cases h; decide
              · split at h
                · cases h; decide
                · cases h
            · cases h; decide
          · cases h; decide
set_option maxHeartbeats 4000000 in
theorem size_any (s : B) (w : World) (hs : s.length ≤ 281474976710656) : Calls Try.prog 21 #[.string (sb s)] w fun e w' => e = toldS (szN s) ∧ Fr No w w' := by
  have hsz : ((sb s).size : Int) = s.length := by rw [sb_size]
  obtain ⟨n, hn⟩ : ∃ n, s.length = n := ⟨_, rfl⟩
  rw [hn] at hsz hs
  have HS := hid hs; have HNN := hid hn
  clear hs hn
  cases s with
  | nil =>
    go_enter Try.func21, Try.ntmps21
    go_wp2_with (first
      | ((with_reducible show wpList _ _ _ (⟨_, .binOp .neq 9 _ _ _, _, _, _, _⟩ :: _) _ _); refine wpL_valZ (by rfl) (.bool false) (exec_neS _ _ _ rfl [] [] rfl rfl _) ?_)
      | fail)
    refine (head_any [] w (by simp)).mono ?_
    rintro e w2 ⟨rfl, f2⟩
    rw [show headN [] = (0, 0, 0, 92) from rfl]
    show (match Ending.returned (Value.tuple #[.int .i64 0, .int .i64 0, .int .i64 0, .int .i64 92]), w2 with | _, _ => _)
    go_wp2_with fail
    go_ret2
    exact ⟨rfl, f2⟩
  | cons t r =>
    have H0 : Hid ((t :: r)[0]? = some t) := hid rfl
    have hne : (!decide (t :: r = [])) = true := by simp
    obtain ⟨S, hS⟩ : ∃ S, t :: r = S := ⟨_, rfl⟩
    have HSZ : Hid (szF S = if t.toNat = 48 then match hdS S with
      | .error e => .error e
      | .ok (_, c, h) => if S.length < h + c then .error 92 else .ok (h + c)
      else .error 100) := hid (by rw [← hS]; rfl)
    rw [hS] at hne hsz H0 ⊢
    have HNN' : Hid (S.length = n) := hid (by rw [← hS]; exact HNN.out)
    have HNE := hid hne
    obtain ⟨X, hX⟩ : ∃ X, szN S = X := ⟨_, rfl⟩
    rw [hX]
    have HX := hid hX
    clear hX
    obtain ⟨tn, htn⟩ : ∃ tn, t.toNat = tn := ⟨_, rfl⟩
    have HTN := hid htn
    have hsp : (0 : Int) < n := by rw [← HNN'.out, ← hS]; simp
    clear hS hne htn HNN
    have hidx : ∀ (op : Oper) (a : Act) (x y : Operand), op.op = .index 9 x y → a.eval x = .string (sb S) → a.eval y = .int .i64 0 → ∀ W, (execOp a.eval op).run Try.prog W = .ok (.value (.int .u8 (tn : Int))) W := fun op a x y ho hx hy W => by rw [← HTN.out]; exact exec_idx x y ho S 0 t H0.out 0 rfl hx hy W
    have HIX := hid hidx
    clear hidx
    by_cases h48 : tn = 48
    · subst h48
      go_enter Try.func21, Try.ntmps21
      go_wp2_with (first
        | ((with_reducible show wpList _ _ _ (⟨_, .binOp .neq 9 _ _ _, _, _, _, _⟩ :: _) _ _); refine wpL_valZ (by rfl) (.bool true) ((exec_neS _ _ _ rfl S [] rfl rfl _).trans (by rw [HNE.out])) ?_)
        | ((with_reducible show wpList _ _ _ (⟨_, .index 9 _ _, _, _, _, _⟩ :: _) _ _); refine wpL_valZ (by rfl) (.int .u8 48) (HIX.out _ _ _ _ rfl rfl rfl _) ?_)
        | fail)
      refine (head_any S w (by rw [HNN'.out]; exact HS.out)).mono ?_
      rintro e w2 ⟨rfl, f2⟩
      have F2 := hid f2
      clear f2
      cases hr : hdS S with
      | error k =>
        have hk := hd_pos hr
        have HR : Hid (X = (0, k)) := hid (by rw [← HX.out]; unfold szN; rw [HSZ.out, HTN.out, if_pos rfl, hr])
        rw [show headN S = (0, 0, 0, k) by unfold headN; rw [hr]]
        have hki : ¬ (k : Int) = 0 := by omega
        clear hr hk
        show (match Ending.returned (Value.tuple #[.int .i64 0, .int .i64 0, .int .i64 0, .int .i64 (k : Int)]), w2 with | _, _ => _)
        go_wp2_with fail
        go_ret2
        exact ⟨by rw [HR.out]; rfl, F2.out⟩
      | ok p =>
        obtain ⟨tt, c, h⟩ := p
        obtain ⟨b, _, _, hc4, hh, _⟩ := hd_inv hr
        have hlp := len_pos c
        have hh4 : h ≤ 4 := by omega
        have hz : szF S = if n < h + c then .error 92 else .ok (h + c) := by rw [HSZ.out, HTN.out, if_pos rfl, hr, ← HNN'.out]
        rw [show headN S = (tt, c, h, 0) by unfold headN; rw [hr]]
        have HZ := hid hz
        have hc4i : (c : Int) ≤ 4000 := by omega
        have hh4i : (h : Int) ≤ 4 := by omega
        have hsum : ∃ q : Nat, q = h + c := ⟨_, rfl⟩
        obtain ⟨q, hq⟩ := hsum
        have hqi : (h : Int) + (c : Int) = (q : Int) := by omega
        have HQ := hid hq
        clear hr hz hlp hh hh4 hc4 hq
        show (match Ending.returned (Value.tuple #[.int .i64 (tt : Int), .int .i64 (c : Int), .int .i64 (h : Int), .int .i64 0]), w2 with | _, _ => _)
        by_cases hlt : n < q
        · have hlti : (n : Int) < (q : Int) := by omega
          have HR : Hid (X = (0, 92)) := hid (by rw [← HX.out]; unfold szN; rw [HZ.out, ← HQ.out, if_pos hlt])
          clear hlt
          go_wp2_with fail
          go_ret2
          exact ⟨by rw [HR.out]; rfl, F2.out⟩
        · have hlti : (q : Int) ≤ (n : Int) := by omega
          have HR : Hid (X = (q, 0)) := hid (by rw [← HX.out]; unfold szN; rw [HZ.out, ← HQ.out, if_neg hlt])
          clear hlt
          go_wp2_with fail
          go_ret2
          exact ⟨by rw [HR.out]; rfl, F2.out⟩
    · have h48i : ((tn : Int) == 48) = false := by simp; omega
      have HR : Hid (X = (0, 100)) := hid (by rw [← HX.out]; unfold szN; rw [HSZ.out, HTN.out, if_neg h48])
      clear h48
      go_enter Try.func21, Try.ntmps21
      go_wp2_with (first
        | ((with_reducible show wpList _ _ _ (⟨_, .binOp .neq 9 _ _ _, _, _, _, _⟩ :: _) _ _); refine wpL_valZ (by rfl) (.bool true) ((exec_neS _ _ _ rfl S [] rfl rfl _).trans (by rw [HNE.out])) ?_)
        | ((with_reducible show wpList _ _ _ (⟨_, .index 9 _ _, _, _, _, _⟩ :: _) _ _); refine wpL_valZ (by rfl) (.int .u8 (tn : Int)) (HIX.out _ _ _ _ rfl rfl rfl _) ?_)
        | fail)
      go_ret2
      exact ⟨by rw [HR.out]; rfl, Fr.refl _ _⟩
end Go.Proofs.Ytoikiokcpakokaa.FR
