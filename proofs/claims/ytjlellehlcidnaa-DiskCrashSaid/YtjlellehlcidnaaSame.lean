/-
  The comparison of two lists of bytes.
-/
import Derived.Test.YtjlellehlcidnaaRefF
namespace Go.Proofs.Ytjlellehlcidnaa.D
open Go.RowKit K

theorem take_next {xs ys : List Int} {k : Nat} {x y : Int} (h : xs.take k = ys.take k) (hx : xs[k]? = some x) (hy : ys[k]? = some y) (e : x = y) : xs.take (k + 1) = ys.take (k + 1) := by
  obtain ⟨h1, rfl⟩ := List.getElem?_eq_some_iff.1 hx
  obtain ⟨h2, rfl⟩ := List.getElem?_eq_some_iff.1 hy
  rw [List.take_succ_eq_append_getElem h1, List.take_succ_eq_append_getElem h2, h, e]

theorem same_any (a b : Value) (xs ys : List Int) (E F : Nat → Prop) (w : World) (ha : BytesIn w E a xs) (hb : BytesIn w F b ys) (hl1 : xs.length ≤ 9223372036854775807) :
    Calls Try.prog 17 #[a, b] w fun e w' => e = .returned (.bool (decide (xs = ys))) ∧ Fr No w w' := by
  obtain ⟨a0, l1, c1, rfl, e1, h1⟩ := ha
  obtain ⟨b0, l2, c2, rfl, e2, h2⟩ := hb
  by_cases hl : l1 = l2
  · subst hl
    have hlen : (l1 : Int) ≤ 9223372036854775807 := by omega
    have E1 := hid e1; have E2 := hid e2; have H1 := hid h1; have H2 := hid h2
    clear e1 e2 h1 h2 hl1
    go_enter Try.func17, Try.ntmps17
    go_wp2_with fail
    go_loopw [5] (fun i wr => ∃ k : Nat, k ≤ l1 ∧ i = .int .i64 k ∧ Hid (xs.take k = ys.take k) ∧ Hid (Fr No w wr)) (fun i _ => l1 - (intOf i).toNat)
    case atStart => exact ⟨0, Nat.zero_le _, rfl, hid rfl, hid (Fr.refl _ _)⟩
    case round =>
      obtain ⟨k, hk, rfl, HT, HFr⟩ := hrel
      by_cases hlt : k < l1
      · obtain ⟨ga, oa, rfl, _, _, ra⟩ := H1.out.resolve_left (by omega)
        obtain ⟨gb, ob, rfl, _, _, rb⟩ := H2.out.resolve_left (by omega)
        obtain ⟨x, hx⟩ : ∃ x, xs[k]? = some x := ⟨xs[k]'(by rw [E1.out]; exact hlt), List.getElem?_eq_getElem _⟩
        obtain ⟨y, hy⟩ : ∃ y, ys[k]? = some y := ⟨ys[k]'(by rw [E2.out]; exact hlt), List.getElem?_eq_getElem _⟩
        have cx : wr.cell? ⟨ga, oa + k, none⟩ = some (.int .u8 x) := HFr.out.cell (ra k _ (by simp [u8s, hx])) id
        have cy : wr.cell? ⟨gb, ob + k, none⟩ = some (.int .u8 y) := HFr.out.cell (rb k _ (by simp [u8s, hy])) id
        have hold : Facts.hold [(3, fun w' => w'.cell? ⟨ga, oa + k, none⟩ = some (.int .u8 x)), (7, fun w' => w'.cell? ⟨gb, ob + k, none⟩ = some (.int .u8 y))] wr.drew :=
          Facts.cons_hold cx (Facts.cons_hold cy (Facts.nil_hold _))
        have HX := hid hx; have HY := hid hy
        have hk0 : (0 : Int) ≤ k := by omega
        have hk1 : (k : Int) < l1 := by omega
        clear ra rb cx cy hx hy
        go_wp2_with fail
        refine wpD_region hold (by kernel_rfl) 9 rfl ?_
        (refine wpD_plain 0 (v := ?_) rfl (by kernel_rfl) (by kernel_rfl) (by kernel_rfl) (fun _ _ _ h => h) (by rfl) ?_ (by assumption) ?_; rotate_left; (intro _w; go_simp; try with_reducible rfl); simp only [Act.put, List.setIfInBounds_toArray, List.set_cons_zero, List.set_cons_succ])
        (refine wpD_plain 1 (v := ?_) rfl (by kernel_rfl) (by kernel_rfl) (by kernel_rfl) (fun _ _ _ h => h) (by rfl) ?_ (by assumption) ?_; rotate_left; (intro _w; go_simp; try with_reducible rfl); simp only [Act.put, List.setIfInBounds_toArray, List.set_cons_zero, List.set_cons_succ])
        (refine wpD_plain 2 (v := ?_) rfl (by kernel_rfl) (by kernel_rfl) (by kernel_rfl) (fun _ _ _ h => h) (by rfl) ?_ (by assumption) ?_; rotate_left; (intro _w; go_simp; try with_reducible rfl); simp only [Act.put, List.setIfInBounds_toArray, List.set_cons_zero, List.set_cons_succ])
        (refine wpD_take 3 _ rfl (by kernel_rfl) (by kernel_rfl) (by kernel_rfl) (fun _ _ _ h => h) List.mem_cons_self (by rfl) (v := ?_) ?_ (by assumption) ?_; rotate_left; (intro _w _hw; go_simp; try with_reducible rfl); simp only [Act.put, List.setIfInBounds_toArray, List.set_cons_zero, List.set_cons_succ])
        (refine wpD_plain 4 (v := ?_) rfl (by kernel_rfl) (by kernel_rfl) (by kernel_rfl) (fun _ _ _ h => h) (by rfl) ?_ (by assumption) ?_; rotate_left; (intro _w; go_simp; try with_reducible rfl); simp only [Act.put, List.setIfInBounds_toArray, List.set_cons_zero, List.set_cons_succ])
        (refine wpD_plain 5 (v := ?_) rfl (by kernel_rfl) (by kernel_rfl) (by kernel_rfl) (fun _ _ _ h => h) (by rfl) ?_ (by assumption) ?_; rotate_left; (intro _w; go_simp; try with_reducible rfl); simp only [Act.put, List.setIfInBounds_toArray, List.set_cons_zero, List.set_cons_succ])
        (refine wpD_plain 6 (v := ?_) rfl (by kernel_rfl) (by kernel_rfl) (by kernel_rfl) (fun _ _ _ h => h) (by rfl) ?_ (by assumption) ?_; rotate_left; (intro _w; go_simp; try with_reducible rfl); simp only [Act.put, List.setIfInBounds_toArray, List.set_cons_zero, List.set_cons_succ])
        (refine wpD_take 7 _ rfl (by kernel_rfl) (by kernel_rfl) (by kernel_rfl) (fun _ _ _ h => h) (List.mem_cons_of_mem _ List.mem_cons_self) (by rfl) (v := ?_) ?_ (by assumption) ?_; rotate_left; (intro _w _hw; go_simp; try with_reducible rfl); simp only [Act.put, List.setIfInBounds_toArray, List.set_cons_zero, List.set_cons_succ])
        by_cases hxy : x = y
        · subst hxy
          (refine wpD_plain 8 (v := ?_) rfl (by kernel_rfl) (by kernel_rfl) (by kernel_rfl) (fun _ _ _ h => h) (by rfl) ?_ (by assumption) ?_; rotate_left; (intro _w; go_simp; try with_reducible rfl); simp only [Act.put, List.setIfInBounds_toArray, List.set_cons_zero, List.set_cons_succ])
          refine wpD_done (by kernel_rfl) ?_ _
          clear hold
          go_wp2
          exact ⟨⟨k + 1, by omega, by go_num, hid (take_next HT.out HX.out HY.out rfl), hid HFr.out.drew⟩, by simp [intOf]; omega⟩
        · have t1 : (x == y) = false := by simp [hxy]
          have t2 : (x != y) = true := by simp [hxy]
          have HXY := hid hxy; clear hxy
          (refine wpD_plain 8 (v := ?_) rfl (by kernel_rfl) (by kernel_rfl) (by kernel_rfl) (fun _ _ _ h => h) (by rfl) ?_ (by assumption) ?_; rotate_left; (intro _w; go_simp; try with_reducible rfl); simp only [Act.put, List.setIfInBounds_toArray, List.set_cons_zero, List.set_cons_succ])
          refine wpD_done (by kernel_rfl) ?_ _
          clear hold
          go_wp2
          go_ret
          have hne : ¬ xs = ys := fun e => by
            have h1 := HX.out; have h2 := HY.out
            rw [e, h2] at h1
            exact HXY.out (Option.some.inj h1).symm
          exact ⟨by rw [decide_eq_false hne]; rfl, HFr.out.drew⟩
      · have hge : ¬ ((k : Int) < l1) := by omega
        go_wp2
        go_ret
        have e : xs = ys := by
          have := HT.out
          rwa [List.take_of_length_le (by rw [E1.out]; omega), List.take_of_length_le (by rw [E2.out]; omega)] at this
        exact ⟨by rw [decide_eq_true e]; rfl, HFr.out⟩
  · have hne : ¬ xs = ys := fun e => hl (by rw [← e1, ← e2, e])
    rw [decide_eq_false hne]
    have t1 : ((l1 : Int) == (l2 : Int)) = false := by simp; omega
    clear h1 h2 e1 e2 hl hne
    go_enter Try.func17, Try.ntmps17
    go_wp2
    go_ret
    exact ⟨rfl, Fr.refl _ _⟩
end Go.Proofs.Ytjlellehlcidnaa.D
