/-
  The law's own small functions: are two lists of texts one, is the one a beginning of the other?
-/
import Derived.Test.YtlnolnaapnijbaaLogL
namespace Go.Proofs.Ytlnolnaapnijbaa.L
set_option maxRecDepth 100000
open Go.RowKit K

theorem str_inj {l m : List UInt8} : (⟨l.toArray⟩ : ByteArray) = ⟨m.toArray⟩ ↔ l = m := ⟨fun h => by
  have := congrArg (fun x : ByteArray => x.data.toList) h
  exact this, fun h => by rw [h]⟩
theorem texts_any (v1 v2 : Value) (L M : List (List UInt8)) (E F : Nat → Prop) (w : World) (ha : TextsIn w E v1 L) (hb : TextsIn w F v2 M) (hl1 : L.length ≤ 9223372036854775807) :
    Calls Try.prog 30 #[v1, v2] w fun e w' => e = .returned (.bool (decide (L = M))) ∧ Fr No w w' := by
  obtain ⟨a, n, c1, rfl, e1, _, h1⟩ := ha
  obtain ⟨b, m, c2, rfl, e2, _, h2⟩ := hb
  by_cases hl : n = m
  · subst hl
    have hlen : (n : Int) ≤ 9223372036854775807 := by omega
    have E1 := hid e1; have E2 := hid e2; have H1 := hid h1; have H2 := hid h2
    clear e1 e2 h1 h2 hl1
    go_enter Try.func30, Try.ntmps30
    go_wp2_with fail
    go_loopw [5] (fun i wr => ∃ k : Nat, k ≤ n ∧ i = .int .i64 k ∧ Hid (L.take k = M.take k) ∧ Hid (Fr No w wr)) (fun i _ => n - (intOf i).toNat)
    case atStart => exact ⟨0, Nat.zero_le _, rfl, hid rfl, hid (Fr.refl _ _)⟩
    case round =>
      obtain ⟨k, hk, rfl, HT, HFr⟩ := hrel
      by_cases hlt : k < n
      · obtain ⟨ga, oa, rfl, _, _, ra⟩ := H1.out.resolve_left (by omega)
        obtain ⟨gb, ob, rfl, _, _, rb⟩ := H2.out.resolve_left (by omega)
        obtain ⟨x, hx⟩ : ∃ x, L[k]? = some x := ⟨L[k]'(by rw [E1.out]; exact hlt), List.getElem?_eq_getElem _⟩
        obtain ⟨y, hy⟩ : ∃ y, M[k]? = some y := ⟨M[k]'(by rw [E2.out]; exact hlt), List.getElem?_eq_getElem _⟩
        have cx : wr.cell? ⟨ga, oa + k, none⟩ = some (.string ⟨x.toArray⟩) := HFr.out.cell (ra k _ (by simp [strs, hx, str])) id
        have cy : wr.cell? ⟨gb, ob + k, none⟩ = some (.string ⟨y.toArray⟩) := HFr.out.cell (rb k _ (by simp [strs, hy, str])) id
        have HXY := hid (str_inj (l := x) (m := y))
        have HX := hid hx; have HY := hid hy
        generalize (⟨x.toArray⟩ : ByteArray) = bx at cx HXY
        generalize (⟨y.toArray⟩ : ByteArray) = by' at cy HXY
        have hk0 : (0 : Int) ≤ k := by omega
        have hk1 : (k : Int) < n := by omega
        clear ra rb hx hy
        by_cases hxy : bx = by'
        · have HXE := hid (HXY.out.1 hxy)
          clear HXY
          subst hxy
          go_wp2_with fail
          go_quiet (fail)
          go_wp2
          refine ⟨⟨k + 1, by omega, by go_num, hid ?_, hid (HFr.out.drewN _)⟩, by simp [intOf]; omega⟩
          have hxe : x = y := HXE.out
          obtain ⟨g1, g2⟩ := List.getElem?_eq_some_iff.1 HX.out
          obtain ⟨g3, g4⟩ := List.getElem?_eq_some_iff.1 HY.out
          rw [List.take_succ_eq_append_getElem g1, List.take_succ_eq_append_getElem g3, HT.out, g2, g4, hxe]
        · have t1 : (bx.toList == by'.toList) = false := by
            rw [Bool.eq_false_iff]
            intro e
            rw [beq_iff_eq, Go.ByteArray.toList_eq, Go.ByteArray.toList_eq] at e
            exact hxy (by cases bx; cases by'; simp at e; simp [e])
          have HN := hid (fun e : x = y => hxy (HXY.out.2 e))
          clear HXY
          go_wp2_with fail
          go_quiet (fail)
          go_wp2
          go_ret
          have hne : ¬ L = M := fun e => by
            have h1 := HX.out; have h2 := HY.out
            rw [e, h2] at h1
            exact HN.out (Option.some.inj h1).symm
          exact ⟨by rw [decide_eq_false hne]; rfl, HFr.out.drewN _⟩
      · have hge : ¬ ((k : Int) < n) := by omega
        go_wp2
        go_ret
        have e : L = M := by
          have := HT.out
          rwa [List.take_of_length_le (by rw [E1.out]; omega), List.take_of_length_le (by rw [E2.out]; omega)] at this
        exact ⟨by rw [decide_eq_true e]; rfl, HFr.out⟩
  · have hne : ¬ L = M := fun e => hl (by rw [← e1, ← e2, e])
    rw [decide_eq_false hne]
    have t1 : ((n : Int) == (m : Int)) = false := by simp; omega
    clear h1 h2 e1 e2 hl hne
    go_enter Try.func30, Try.ntmps30
    go_wp2
    go_ret
    exact ⟨rfl, Fr.refl _ _⟩
end Go.Proofs.Ytlnolnaapnijbaa.L
