/-
  Stage 10's law file: texts, whether two lists are one.
-/
import Derived.Test.YtoikiokcpakokaaFrM
set_option linter.unusedVariables false
set_option linter.unusedSimpArgs false
namespace Go.Proofs.Ytoikiokcpakokaa.FR
set_option maxRecDepth 100000
open Go.RowKit K Go.Proofs.Ytoikiokcpakokaa.BE

theorem take_eq {L M : List B} {i : Nat} (h : L.take i = M.take i) (hi : i < L.length) (hj : i < M.length) (e : L[i] = M[i]) : L.take (i + 1) = M.take (i + 1) := by
  rw [List.take_succ_eq_append_getElem hi, List.take_succ_eq_append_getElem hj, h, e]
theorem cell_tx {w : World} {g o : Nat} {L : List B} (h : w.rangeAt g o (strs L)) {i : Nat} (hi : i < L.length) : w.cell? ⟨g, o + i, none⟩ = some (.string (sb L[i])) := h i _ (by simp [strs, hi])
set_option maxHeartbeats 4000000 in
theorem texts_any (E1 E2 : Nat → Prop) (va vb : Value) (L M : List B) (w : World) (h1 : TxIn w E1 va L) (h2 : TxIn w E2 vb M) (hl : L.length ≤ 140737488355328) (hm : M.length ≤ 140737488355328) :
    Calls Try.prog 11 #[va, vb] w fun e w' => e = .returned (.bool (decide (L = M))) ∧ Fr No w w' := by
  obtain ⟨a, n, c, rfl, hn, hc, hA⟩ := h1
  obtain ⟨a', m, c', rfl, hm', hc', hA'⟩ := h2
  rw [hn] at hl
  rw [hm'] at hm
  have hli : (n : Int) ≤ 140737488355328 := by omega
  have hmi : (m : Int) ≤ 140737488355328 := by omega
  have HNN := hid hn; have HMM := hid hm'; have HA := hid hA; have HA' := hid hA'; have HC := hid hc; have HC' := hid hc'
  clear hn hm' hc hc' hA hA' hl hm
  by_cases hnm : n = m
  · subst hnm
    obtain ⟨R, hR⟩ : ∃ R, decide (L = M) = R := ⟨_, rfl⟩
    rw [hR]
    have HR := hid hR
    clear hR hmi
    go_enter Try.func11, Try.ntmps11
    go_wp2_with fail
    go_loopw [5] (fun iv wr => ∃ i : Nat, i ≤ n ∧ iv = .int .i64 i ∧ Hid (L.take i = M.take i ∧ Fr No w wr)) (fun iv _ => n - (intOf iv).toNat)
    case atStart => exact ⟨0, Nat.zero_le _, rfl, hid ⟨rfl, Fr.refl _ _⟩⟩
    case round =>
      obtain ⟨i, hi, rfl, HI⟩ := hrel
      by_cases hlt : i < n
      · obtain ⟨g, o, rfl, -, hg, hr⟩ := HA.out.resolve_left (by omega)
        obtain ⟨g', o', rfl, -, hg', hr'⟩ := HA'.out.resolve_left (by omega)
        have hiL : i < L.length := by rw [HNN.out]; exact hlt
        have hiM : i < M.length := by rw [HMM.out]; exact hlt
        have k1 := cell_tx (HI.out.2.range hr id) hiL
        have k2 := cell_tx (HI.out.2.range hr' id) hiM
        obtain ⟨x, hx⟩ : ∃ x, L[i] = x := ⟨_, rfl⟩
        obtain ⟨y, hy⟩ : ∃ y, M[i] = y := ⟨_, rfl⟩
        rw [hx] at k1
        rw [hy] at k2
        have HXY := hid (show L[i] = x ∧ M[i] = y from ⟨hx, hy⟩)
        have hlti : (i : Int) < n := by omega
        have hi0 : (0 : Int) ≤ i := by omega
        clear hr hr' hg hg' hx hy
        go_wp2_with fail
        have hold : Facts.hold [(3, fun w' => w'.cell? ⟨g, o + i, none⟩ = some (.string (sb x))), (7, fun w' => w'.cell? ⟨g', o' + i, none⟩ = some (.string (sb y)))] wr.drew := Facts.cons_hold k1 (Facts.cons_hold k2 (Facts.nil_hold _))
        refine wp_region_noPanic ?_
        refine wpD_region hold (by kernel_rfl) 9 rfl ?_
        (refine wpD_plain 0 (v := ?_) rfl (by kernel_rfl) (by kernel_rfl) (by kernel_rfl) (fun _ _ _ h => h) (by rfl) ?_ (by assumption) ?_; rotate_left; (intro _w; go_simp; try with_reducible rfl); simp only [Act.put, List.setIfInBounds_toArray, List.set_cons_zero, List.set_cons_succ])
        (refine wpD_plain 1 (v := ?_) rfl (by kernel_rfl) (by kernel_rfl) (by kernel_rfl) (fun _ _ _ h => h) (by rfl) ?_ (by assumption) ?_; rotate_left; (intro _w; go_simp; try with_reducible rfl); simp only [Act.put, List.setIfInBounds_toArray, List.set_cons_zero, List.set_cons_succ])
        (refine wpD_plain 2 (v := ?_) rfl (by kernel_rfl) (by kernel_rfl) (by kernel_rfl) (fun _ _ _ h => h) (by rfl) ?_ (by assumption) ?_; rotate_left; (intro _w; go_simp; try with_reducible rfl); simp only [Act.put, List.setIfInBounds_toArray, List.set_cons_zero, List.set_cons_succ])
        (refine wpD_take 3 _ rfl (by kernel_rfl) (by kernel_rfl) (by kernel_rfl) (fun _ _ _ h => h) List.mem_cons_self (by rfl) (v := ?_) ?_ (by assumption) ?_; rotate_left; (intro _w _hw; go_simp; try with_reducible rfl); simp only [Act.put, List.setIfInBounds_toArray, List.set_cons_zero, List.set_cons_succ])
        (refine wpD_plain 4 (v := ?_) rfl (by kernel_rfl) (by kernel_rfl) (by kernel_rfl) (fun _ _ _ h => h) (by rfl) ?_ (by assumption) ?_; rotate_left; (intro _w; go_simp; try with_reducible rfl); simp only [Act.put, List.setIfInBounds_toArray, List.set_cons_zero, List.set_cons_succ])
        (refine wpD_plain 5 (v := ?_) rfl (by kernel_rfl) (by kernel_rfl) (by kernel_rfl) (fun _ _ _ h => h) (by rfl) ?_ (by assumption) ?_; rotate_left; (intro _w; go_simp; try with_reducible rfl); simp only [Act.put, List.setIfInBounds_toArray, List.set_cons_zero, List.set_cons_succ])
        (refine wpD_plain 6 (v := ?_) rfl (by kernel_rfl) (by kernel_rfl) (by kernel_rfl) (fun _ _ _ h => h) (by rfl) ?_ (by assumption) ?_; rotate_left; (intro _w; go_simp; try with_reducible rfl); simp only [Act.put, List.setIfInBounds_toArray, List.set_cons_zero, List.set_cons_succ])
        (refine wpD_take 7 _ rfl (by kernel_rfl) (by kernel_rfl) (by kernel_rfl) (fun _ _ _ h => h) (List.mem_cons_of_mem _ List.mem_cons_self) (by rfl) (v := ?_) ?_ (by assumption) ?_; rotate_left; (intro _w _hw; go_simp; try with_reducible rfl); simp only [Act.put, List.setIfInBounds_toArray, List.set_cons_zero, List.set_cons_succ])
        (refine wpD_plain 8 (v := (.bool (!decide (x = y)))) rfl (by kernel_rfl) (by kernel_rfl) (by kernel_rfl) (fun _ _ _ h => h) (by rfl) ?_ (by assumption) ?_; (intro _w; exact exec_neS _ _ _ rfl x y rfl rfl _w); simp only [Act.put, List.setIfInBounds_toArray, List.set_cons_zero, List.set_cons_succ])
        clear hold
        refine wpD_done (by kernel_rfl) (NoPanic.normal ?_) _
        by_cases hxy : x = y
        · have hd : (!decide (x = y)) = false := by simp [hxy]
          rw [hd]
          clear hd
          go_wp2_with fail
          go_roundw
          case rel => exact ⟨i + 1, hlt, by go_num, hid ⟨take_eq HI.out.1 hiL hiM (by rw [HXY.out.1, HXY.out.2]; exact hxy), HI.out.2.drew⟩⟩
          case measure => simp [intOf]; omega
        · have hd : (!decide (x = y)) = true := by simp [hxy]
          rw [hd]
          have HD : Hid (R = false) := hid (by
            rw [← HR.out]
            refine decide_eq_false fun e => hxy ?_
            subst e
            rw [← HXY.out.1, ← HXY.out.2])
          clear hd hxy
          go_wp2_with fail
          go_ret
          exact ⟨by rw [HD.out]; rfl, HI.out.2.drew⟩
      · have hle : (n : Int) ≤ i := by omega
        have HD : Hid (R = true) := hid (by
          rw [← HR.out]
          have h := HI.out.1
          rw [List.take_of_length_le (by rw [HNN.out]; omega), List.take_of_length_le (by rw [HMM.out]; omega)] at h
          exact decide_eq_true h)
        clear hlt
        go_wp2_with fail
        go_ret
        exact ⟨by rw [HD.out]; rfl, HI.out.2⟩
  · have hni : ((n : Int) == m) = false := by simp; omega
    have hnn : ¬ (n : Int) = m := by omega
    have hR : decide (L = M) = false := decide_eq_false fun e => hnm (by rw [← HNN.out, ← HMM.out, e])
    rw [hR]
    clear hR hnm
    go_enter Try.func11, Try.ntmps11
    go_wp2_with fail
    go_ret
    exact ⟨rfl, Fr.refl _ _⟩
end Go.Proofs.Ytoikiokcpakokaa.FR
