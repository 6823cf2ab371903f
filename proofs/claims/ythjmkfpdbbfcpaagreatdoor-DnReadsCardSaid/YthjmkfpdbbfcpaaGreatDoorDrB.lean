/-
  The document's Type and Small.
-/
import Derived.Test.YthjmkfpdbbfcpaaGreatDoorDrA
import Derived.Test.YthjmkfpdbbfcpaaGreatDoorDnO
set_option linter.unusedVariables false
set_option linter.unusedSimpArgs false
namespace Go.Proofs.YthjmkfpdbbfcpaaGreatDoor.DN
set_option maxRecDepth 100000
open Go.RowKit K Go.Proofs.YthjmkfpdbbfcpaaGreatDoor.BE

theorem exec_idxB {op : Oper} {a : Act} (x y : Operand) (ho : op.op = .index 9 x y) (l : B) {S : ByteArray} (hS : sb l = S) (i : Nat) (b : UInt8) (hi : l[i]? = some b) (n : Int) (hn : n = (i : Int)) (hx : a.eval x = .string S) (hy : a.eval y = .int .i64 n) (w : World) : (execOp a.eval op).run Tryz.prog w = .ok (.value (.int .u8 (b.toNat : Int))) w := by
  subst hS
  exact exec_idx x y ho l i b hi n hn hx hy w
theorem ok_n (c : UInt8) (f : Bool) : okAt f c = (isLet c || (!f && (isDig c || decide (c.toNat = 45)))) := by
  have h : (c == 45) = decide (c.toNat = 45) := by
    have := u8_all (fun c => (c == 45) == decide (c.toNat = 45)) (by decide +kernel) c
    simpa using this
  unfold okAt
  rw [h]
theorem typ_at {s : B} : typ s = true ↔ 1 ≤ s.length ∧ s.length ≤ 20 ∧ ∀ j c, s[j]? = some c → okAt (j == 0) c = true := by
  unfold typ
  cases s with
  | nil => simp
  | cons d r =>
    simp only [Bool.and_eq_true, decide_eq_true_eq, List.all_eq_true]
    constructor
    · rintro ⟨⟨h1, h2⟩, h3, h4⟩
      refine ⟨h1, h2, fun j c hj => ?_⟩
      cases j with
      | zero =>
        obtain rfl : d = c := by simpa using hj
        exact h3
      | succ j =>
        have hj : r[j]? = some c := by simpa using hj
        exact h4 c (List.mem_of_getElem? hj)
    · rintro ⟨h1, h2, h3⟩
      refine ⟨⟨h1, h2⟩, h3 0 d rfl, fun c hc => ?_⟩
      obtain ⟨j, hj, rfl⟩ := List.mem_iff_getElem.1 hc
      exact h3 (j + 1) r[j] (by simp [hj])
set_option maxHeartbeats 8000000 in
theorem rType_any (s : B) (hs : Sz s) (w : World) : Calls Tryz.prog 9 #[.string (sb s)] w fun e w' => e = .returned (.bool (typ s)) ∧ w' = w := by
  obtain ⟨S, hS⟩ : ∃ S, sb s = S := ⟨_, rfl⟩
  obtain ⟨n, hn⟩ : ∃ n, s.length = n := ⟨_, rfl⟩
  obtain ⟨R, hR⟩ : ∃ R, typ s = R := ⟨_, rfl⟩
  have hsz : (S.size : Int) = n := by rw [← hS, sb_size, hn]
  have hni : (n : Int) ≤ 140737488351232 := by have := hs; unfold Sz at this; omega
  have HS := hid hS; have HN := hid hn; have HR := hid hR
  rw [hS, hR]
  clear hS hn hR hs
  go_enter Tryz.func9, Tryz.ntmps9
  go_wp2_with fail
  go_loopw [3] (fun iv wr => ∃ (i : Nat), iv = .int .i64 i ∧ i ≤ n ∧ wr = w ∧ Hid (∀ j c, j < i → s[j]? = some c → okAt (j == 0) c = true)) (fun iv _ => n - (intOf iv).toNat)
  case atStart => exact ⟨0, rfl, Nat.zero_le _, rfl, hid fun j c hj _ => by omega⟩
  case round =>
    obtain ⟨i, rfl, hi, rfl, HA⟩ := hrel
    by_cases hlt : i < n
    · obtain ⟨c, hc⟩ : ∃ c, s[i]? = some c := ⟨_, List.getElem?_eq_getElem (by rw [HN.out]; exact hlt)⟩
      have hlti : (i : Int) < n := by omega
      have hi0 : (0 : Int) ≤ i := by omega
      have HC := hid hc
      have HLT := hid hlt
      have HOK := hid (ok_n c (i == 0))
      have HBAD : Hid (okAt (i == 0) c = false → R = false) := hid (fun h => by
        rw [← HR.out]
        cases ht : typ s with
        | false => rfl
        | true => rw [(typ_at.1 ht).2.2 i c HC.out] at h; cases h)
      have HGOOD : Hid (okAt (i == 0) c = true → ∀ j c, j < i + 1 → s[j]? = some c → okAt (j == 0) c = true) := hid (fun h j d hj hd => by
        by_cases hji : j = i
        · subst hji
          rw [HC.out] at hd
          obtain rfl := Option.some.inj hd
          exact h
        · exact HA.out j d (by omega) hd)
      obtain ⟨L, hL⟩ : ∃ L, isLet c = L := ⟨_, rfl⟩
      obtain ⟨D, hD⟩ : ∃ D, isDig c = D := ⟨_, rfl⟩
      have HLA := hid (letter_any c); have HDA := hid (digit_any c)
      rw [hL] at HLA HOK
      rw [hD] at HDA HOK
      obtain ⟨cn, hcn⟩ : ∃ cn, c.toNat = cn := ⟨_, rfl⟩
      have HCN := hid hcn
      rw [hcn] at HOK
      clear hlt hc hL hD hcn
      go_wp2_with (first
        | ((with_reducible refine K.atO (.index 9 _ _) ?_); refine wpL_valZ (by rfl) (.int .u8 (c.toNat : Int)) (exec_idxB _ _ rfl s HS.out i c HC.out _ rfl rfl rfl _) ?_)
        | fail)
      refine (HLA.out _).mono ?_
      rintro e w1 ⟨rfl, rfl⟩
      go_wp2_with (first
        | ((with_reducible refine K.atO (.index 9 _ _) ?_); refine wpL_valZ (by rfl) (.int .u8 (c.toNat : Int)) (exec_idxB _ _ rfl s HS.out i c HC.out _ rfl rfl rfl _) ?_)
        | fail)
      refine (HDA.out _).mono ?_
      rintro e w1 ⟨rfl, rfl⟩
      have hidx : ∀ w, (Instr.index 9 (.string S) (.int .i64 (i : Int))).run Tryz.prog w = .ok (.int .u8 (cn : Int)) w := fun w => by rw [← HS.out, ← HCN.out]; exact index_str s i c HC.out w
      have hcase : (i = 0 ∨ i ≠ 0) ∧ (cn = 45 ∨ cn ≠ 45) := ⟨by omega, by omega⟩
      cases L with
      | true =>
        go_wp2_with fail
        refine ⟨⟨i + 1, by go_num, HLT.out, trivial, hid (HGOOD.out (by rw [HOK.out]; rfl))⟩, ?_⟩
        have := HLT.out
        simp [intOf]; omega
      | false =>
        by_cases hi00 : i = 0
        · subst hi00
          obtain rfl := HBAD.out (by rw [HOK.out]; rfl)
          go_wp2_with fail
          go_ret
          exact ⟨rfl, rfl⟩
        · have hi1 : ¬ (i : Int) = 0 := by omega
          have hb : (i == 0) = false := by simp [hi00]
          cases D with
          | true =>
            go_wp2_with fail
            refine ⟨⟨i + 1, by go_num, HLT.out, trivial, hid (HGOOD.out (by rw [HOK.out, hb]; rfl))⟩, ?_⟩
            have := HLT.out
            simp [intOf]; omega
          | false =>
            by_cases h45 : cn = 45
            · subst h45
              go_wp2_with fail
              refine ⟨⟨i + 1, by go_num, HLT.out, trivial, hid (HGOOD.out (by rw [HOK.out, hb]; rfl))⟩, ?_⟩
              have := HLT.out
              simp [intOf]; omega
            · have h45i : ((cn : Int) != 45) = true := by simp; omega
              obtain rfl := HBAD.out (by rw [HOK.out, hb, decide_eq_false h45]; rfl)
              go_wp2_with fail
              go_ret
              exact ⟨rfl, rfl⟩
    · obtain rfl : i = n := by omega
      have hR : R = (decide (1 ≤ i) && decide (i ≤ 20)) := by
        rw [← HR.out, Bool.eq_iff_iff, typ_at, HN.out]
        simp only [Bool.and_eq_true, decide_eq_true_eq]
        constructor
        · rintro ⟨h1, h2, -⟩; exact ⟨h1, h2⟩
        · rintro ⟨h1, h2⟩
          exact ⟨h1, h2, fun j c hj => HA.out j c (by have := (List.getElem?_eq_some_iff.1 hj).1; rw [HN.out] at this; exact this) hj⟩
      by_cases h1 : 1 ≤ i
      · have h1i : (1 : Int) ≤ i := by omega
        by_cases h2 : i ≤ 20
        · have h2i : (i : Int) ≤ 20 := by omega
          rw [decide_eq_true h1, decide_eq_true h2] at hR
          subst hR
          clear hlt
          go_wp2_with fail
          go_ret
          exact ⟨rfl, rfl⟩
        · have h2i : ¬ (i : Int) ≤ 20 := by omega
          rw [decide_eq_true h1, decide_eq_false h2] at hR
          subst hR
          clear hlt
          go_wp2_with fail
          go_ret
          exact ⟨rfl, rfl⟩
      · have h1i : ¬ (1 : Int) ≤ i := by omega
        rw [decide_eq_false h1] at hR
        subst hR
        clear hlt
        go_wp2_with fail
        go_ret
        exact ⟨rfl, rfl⟩
end Go.Proofs.YthjmkfpdbbfcpaaGreatDoor.DN
