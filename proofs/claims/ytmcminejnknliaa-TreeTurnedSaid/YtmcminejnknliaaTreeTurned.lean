/-
  The walk of TreeTurned.
-/
import Derived.Test.YtmcminejnknliaaTrTd2
namespace Go.Proofs.Ytmcminejnknliaa.TR
set_option maxRecDepth 100000
open Go.RowKit K

theorem PrNew.at_ {w : World} {base : Nat} {v : Value} {l : L} (h : PrNew w base v l) (hn : l.length ≤ 4398046511000) : PrAt w v l := by
  obtain ⟨a, c, e, h⟩ := h
  exact ⟨a, c, e, hn, h.imp id fun ⟨g, e, hr, _, hg⟩ => ⟨g, 0, e, hr, hg⟩⟩
theorem pcs_snoc (l : L) (x : S × S) : pcs l ++ pc x = pcs (l ++ [x]) := by simp [pcs]
/-- Own pairs. -/
def Row (w0 w : World) (v : Value) (l : L) : Prop := w.ownsRow w0.heap.size 32 2 v l.length (pcs l)
theorem Row.form {w0 w : World} {v : Value} {l : L} (h : Row w0 w v l) : ∃ a c, v = .slice a l.length c ∧ (l = [] ∨ ∃ g, a = some ⟨g, 0, none⟩ ∧ w.rangeAt g 0 (pcs l) ∧ w0.heap.size ≤ g ∧ g < w.heap.size) := pr_new h
theorem Row.no {w0 w w' : World} {v : Value} {l : L} (h : Row w0 w v l) (hf : Fr No w w') : Row w0 w' v l := own_fr h hf (fun _ _ e => e)
theorem knows_snoc (k : S) (l : L) (y : S × S) : knows k (l ++ [y]) = (knows k l || decide (y.1 = k)) := by simp [knows]
set_option maxHeartbeats 8000000 in
theorem treeTurned_walk (W : World) (v0 : Value) (x0 : L) (h0 : PrAt W v0 x0) : Calls Try.prog 5 #[v0] W fun e W' => e = .returned (.bool true) ∧ Fr No W W' := by
  obtain ⟨a0, c0, rfl, hn0, h1⟩ := h0
  have H1 := hid h1
  have hni : (x0.length : Int) ≤ 4398046511000 := by omega
  obtain ⟨ip, I9, Z9, S9, B9⟩ := infoz_pair
  have JI := hid I9; have JZ := hid Z9; have JS := hid S9
  clear h1 hn0 I9 Z9 S9 B9
  go_enter Try.func5, Try.ntmps5
  go_wp2_with fail
  refine (awake_any W).mono ?_
  rintro e w1 ⟨rfl, f1⟩
  have F1 := hid f1
  clear f1
  go_wp2_with fail
  go_loopw [4, 5] (fun v4 i wr => ∃ (j : Nat) (sl : L) (a : Option Addr) (c : Nat), j ≤ x0.length ∧ j ≤ 300 ∧ sl.length ≤ j ∧ v4 = .slice a sl.length c ∧ i = .int .i64 (j : Int) ∧ Hid (sl = ded (x0.take j)) ∧ Hid (Fr No W wr) ∧ Hid (Row W wr (.slice a sl.length c) sl)) (fun _ i _ => 300 - (intOf i).toNat)
  case atStart => exact ⟨0, [], none, 0, by omega, by omega, by simp, rfl, rfl, hid rfl, F1, hid ⟨rfl, .inl ⟨rfl, rfl⟩⟩⟩
  case round =>
    obtain ⟨j, sl, a, c, hj, hj3, hsl, rfl, rfl, HSL, HF, HR⟩ := hrel
    by_cases hlt : j < x0.length ∧ j < 300
    · obtain ⟨hlt1, hlt2⟩ := hlt
      have hlt1' : (j : Int) < (x0.length : Int) := by omega
      have hlt2' : (j : Int) < 300 := by omega
      obtain ⟨x, hx⟩ : ∃ x, x0[j]? = some x := ⟨_, List.getElem?_eq_getElem hlt1⟩
      have htk : x0.take (j + 1) = x0.take j ++ [x] := by rw [List.take_add_one, hx]; rfl
      have HTK := hid htk
      have HX := hid hx
      obtain ⟨g0, o0, rfl, hr0⟩ : ∃ g0 o0, a0 = some ⟨g0, o0, none⟩ ∧ W.rangeAt g0 o0 (pcs x0) := by
        rcases H1.out with e | ⟨g0, o0, e, hr, _⟩
        · rw [e] at hlt1; simp at hlt1
        · exact ⟨g0, o0, e, hr⟩
      have HR0 := hid hr0
      clear htk hx hr0
      go_wp2_with fail
      go_loopw [6, 7] (fun v6 v7 wk => ∃ k : Nat, k ≤ sl.length ∧ v6 = .bool (knows x.1 (sl.take k)) ∧ v7 = .int .i64 (k : Int) ∧ Hid (Fr No W wk) ∧ Hid (Row W wk (.slice a sl.length c) sl)) (fun _ v7 _ => sl.length - (intOf v7).toNat)
      case atStart => exact ⟨0, by omega, rfl, rfl, HF, HR⟩
      case round =>
        obtain ⟨k, hk, rfl, rfl, HK, HRK⟩ := hrel
        have ck : wr.cell? ⟨g0, o0 + j * 2, none⟩ = some (.string x.1) := HK.out.cell (pr_key HR0.out HX.out).1 id
        by_cases hkl : k < sl.length
        · have hkl' : (k : Int) < (sl.length : Int) := by omega
          obtain ⟨y, hy⟩ : ∃ y, sl[k]? = some y := ⟨_, List.getElem?_eq_getElem hkl⟩
          have hky : sl.take (k + 1) = sl.take k ++ [y] := by rw [List.take_add_one, hy]; rfl
          have HKY := hid hky
          obtain ⟨g, rfl, hrs⟩ : ∃ g, a = some ⟨g, 0, none⟩ ∧ wr.rangeAt g 0 (pcs sl) := by
            obtain ⟨a', c', e, h⟩ := HRK.out.form
            simp only [Value.slice.injEq] at e
            obtain ⟨rfl, -, -⟩ := e
            rcases h with e | ⟨g, e, hr, _⟩
            · rw [e] at hkl; simp at hkl
            · exact ⟨g, e, hr⟩
          have cy : wr.cell? ⟨g, k * 2, none⟩ = some (.string y.1) := by have := (pr_key hrs hy).1; rwa [Nat.zero_add] at this
          have hki : (k : Int) ≤ 300 := by omega
          have HFd := hid HK.out.drew
          have HRd := hid (HRK.out.no (Fr.refl No wr).drew)
          clear hy hky hrs
          cases hkn : knows x.1 (sl.take k) with
          | true =>
            have HN : Hid (knows x.1 (sl.take (k + 1)) = true) := hid (by rw [HKY.out, knows_snoc, hkn]; rfl)
            clear hkn ck cy
            go_wp2_with fail
            have hold := Facts.nil_hold wr.drew
            refine wpD_region hold (by kernel_rfl) 15 rfl ?_
            (refine wpD_plain 0 (v := ?_) rfl (by kernel_rfl) (by kernel_rfl) (by kernel_rfl) (fun _ _ _ h => h) (by rfl) ?_ (by assumption) ?_; rotate_left; (intro _w; go_simp; try with_reducible rfl); simp only [Act.put, List.setIfInBounds_toArray, List.set_cons_zero, List.set_cons_succ])
            (refine wpD_plain 1 (v := ?_) rfl (by kernel_rfl) (by kernel_rfl) (by kernel_rfl) (fun _ _ _ h => h) (by rfl) ?_ (by assumption) ?_; rotate_left; (intro _w; go_simp; try with_reducible rfl); simp only [Act.put, List.setIfInBounds_toArray, List.set_cons_zero, List.set_cons_succ])
            (refine wpD_skip 2 rfl (by kernel_rfl) (by kernel_rfl) (by kernel_rfl) (fun _ _ _ h => h) (by rfl) (by assumption) ?_; simp only [Act.put, List.setIfInBounds_toArray, List.set_cons_zero, List.set_cons_succ])
            (refine wpD_skip 3 rfl (by kernel_rfl) (by kernel_rfl) (by kernel_rfl) (fun _ _ _ h => h) (by rfl) (by assumption) ?_; simp only [Act.put, List.setIfInBounds_toArray, List.set_cons_zero, List.set_cons_succ])
            (refine wpD_skip 4 rfl (by kernel_rfl) (by kernel_rfl) (by kernel_rfl) (fun _ _ _ h => h) (by rfl) (by assumption) ?_; simp only [Act.put, List.setIfInBounds_toArray, List.set_cons_zero, List.set_cons_succ])
            (refine wpD_skip 5 rfl (by kernel_rfl) (by kernel_rfl) (by kernel_rfl) (fun _ _ _ h => h) (by rfl) (by assumption) ?_; simp only [Act.put, List.setIfInBounds_toArray, List.set_cons_zero, List.set_cons_succ])
            (refine wpD_skip 6 rfl (by kernel_rfl) (by kernel_rfl) (by kernel_rfl) (fun _ _ _ h => h) (by rfl) (by assumption) ?_; simp only [Act.put, List.setIfInBounds_toArray, List.set_cons_zero, List.set_cons_succ])
            (refine wpD_skip 7 rfl (by kernel_rfl) (by kernel_rfl) (by kernel_rfl) (fun _ _ _ h => h) (by rfl) (by assumption) ?_; simp only [Act.put, List.setIfInBounds_toArray, List.set_cons_zero, List.set_cons_succ])
            (refine wpD_skip 8 rfl (by kernel_rfl) (by kernel_rfl) (by kernel_rfl) (fun _ _ _ h => h) (by rfl) (by assumption) ?_; simp only [Act.put, List.setIfInBounds_toArray, List.set_cons_zero, List.set_cons_succ])
            (refine wpD_skip 9 rfl (by kernel_rfl) (by kernel_rfl) (by kernel_rfl) (fun _ _ _ h => h) (by rfl) (by assumption) ?_; simp only [Act.put, List.setIfInBounds_toArray, List.set_cons_zero, List.set_cons_succ])
            (refine wpD_skip 10 rfl (by kernel_rfl) (by kernel_rfl) (by kernel_rfl) (fun _ _ _ h => h) (by rfl) (by assumption) ?_; simp only [Act.put, List.setIfInBounds_toArray, List.set_cons_zero, List.set_cons_succ])
            (refine wpD_skip 11 rfl (by kernel_rfl) (by kernel_rfl) (by kernel_rfl) (fun _ _ _ h => h) (by rfl) (by assumption) ?_; simp only [Act.put, List.setIfInBounds_toArray, List.set_cons_zero, List.set_cons_succ])
            (refine wpD_skip 12 rfl (by kernel_rfl) (by kernel_rfl) (by kernel_rfl) (fun _ _ _ h => h) (by rfl) (by assumption) ?_; simp only [Act.put, List.setIfInBounds_toArray, List.set_cons_zero, List.set_cons_succ])
            (refine wpD_plain 13 (v := ?_) rfl (by kernel_rfl) (by kernel_rfl) (by kernel_rfl) (fun _ _ _ h => h) (by rfl) ?_ (by assumption) ?_; rotate_left; (intro _w; go_simp; try with_reducible rfl); simp only [Act.put, List.setIfInBounds_toArray, List.set_cons_zero, List.set_cons_succ])
            (refine wpD_plain 14 (v := ?_) rfl (by kernel_rfl) (by kernel_rfl) (by kernel_rfl) (fun _ _ _ h => h) (by rfl) ?_ (by assumption) ?_; rotate_left; (intro _w; go_simp; try with_reducible rfl); simp only [Act.put, List.setIfInBounds_toArray, List.set_cons_zero, List.set_cons_succ])
            clear hold
            refine wpD_done (by kernel_rfl) ?_ _
            try simp only [Act.put, List.setIfInBounds_toArray, List.set_cons_zero, List.set_cons_succ]
            go_wp2_with fail
            exact ⟨⟨k + 1, by omega, by rw [HN.out], by go_num, HFd, HRd⟩, by simp [intOf]; omega⟩
          | false =>
            have HN : Hid (knows x.1 (sl.take (k + 1)) = decide (y.1 = x.1)) := hid (by rw [HKY.out, knows_snoc, hkn]; rfl)
            clear hkn
            go_wp2_with fail
            have hold : Facts.hold [(6, fun w' => w'.cell? ⟨g, k * 2, none⟩ = some (.string y.1)), (11, fun w' => w'.cell? ⟨g0, o0 + j * 2, none⟩ = some (.string x.1))] wr.drew := Facts.cons_hold cy (Facts.cons_hold ck (Facts.nil_hold _))
            refine wpD_region hold (by kernel_rfl) 15 rfl ?_
            (refine wpD_plain 0 (v := ?_) rfl (by kernel_rfl) (by kernel_rfl) (by kernel_rfl) (fun _ _ _ h => h) (by rfl) ?_ (by assumption) ?_; rotate_left; (intro _w; go_simp; try with_reducible rfl); simp only [Act.put, List.setIfInBounds_toArray, List.set_cons_zero, List.set_cons_succ])
            (refine wpD_plain 1 (v := ?_) rfl (by kernel_rfl) (by kernel_rfl) (by kernel_rfl) (fun _ _ _ h => h) (by rfl) ?_ (by assumption) ?_; rotate_left; (intro _w; go_simp; try with_reducible rfl); simp only [Act.put, List.setIfInBounds_toArray, List.set_cons_zero, List.set_cons_succ])
            (refine wpD_plain 2 (v := ?_) rfl (by kernel_rfl) (by kernel_rfl) (by kernel_rfl) (fun _ _ _ h => h) (by rfl) ?_ (by assumption) ?_; rotate_left; (intro _w; go_simp; try with_reducible rfl); simp only [Act.put, List.setIfInBounds_toArray, List.set_cons_zero, List.set_cons_succ])
            (refine wpD_plain 3 (v := ?_) rfl (by kernel_rfl) (by kernel_rfl) (by kernel_rfl) (fun _ _ _ h => h) (by rfl) ?_ (by assumption) ?_; rotate_left; (intro _w; go_simp; try with_reducible rfl); simp only [Act.put, List.setIfInBounds_toArray, List.set_cons_zero, List.set_cons_succ])
            (refine wpD_plain 4 (v := (.pointer (some ⟨g, k * 2, none⟩))) rfl (by kernel_rfl) (by kernel_rfl) (by kernel_rfl) (fun _ _ _ h => h) (by rfl) ?_ (by assumption) ?_; (intro _w; go_simp; skip); simp only [Act.put, List.setIfInBounds_toArray, List.set_cons_zero, List.set_cons_succ])
            (refine wpD_plain 5 (v := ?_) rfl (by kernel_rfl) (by kernel_rfl) (by kernel_rfl) (fun _ _ _ h => h) (by rfl) ?_ (by assumption) ?_; rotate_left; (intro _w; go_simp; try with_reducible rfl); simp only [Act.put, List.setIfInBounds_toArray, List.set_cons_zero, List.set_cons_succ])
            (refine wpD_take 6 _ rfl (by kernel_rfl) (by kernel_rfl) (by kernel_rfl) (fun _ _ _ h => h) List.mem_cons_self (by rfl) (v := ?_) ?_ (by assumption) ?_; rotate_left; (intro _w _hw; go_simp; try with_reducible rfl); simp only [Act.put, List.setIfInBounds_toArray, List.set_cons_zero, List.set_cons_succ])
            (refine wpD_plain 7 (v := ?_) rfl (by kernel_rfl) (by kernel_rfl) (by kernel_rfl) (fun _ _ _ h => h) (by rfl) ?_ (by assumption) ?_; rotate_left; (intro _w; go_simp; try with_reducible rfl); simp only [Act.put, List.setIfInBounds_toArray, List.set_cons_zero, List.set_cons_succ])
            (refine wpD_plain 8 (v := ?_) rfl (by kernel_rfl) (by kernel_rfl) (by kernel_rfl) (fun _ _ _ h => h) (by rfl) ?_ (by assumption) ?_; rotate_left; (intro _w; go_simp; try with_reducible rfl); simp only [Act.put, List.setIfInBounds_toArray, List.set_cons_zero, List.set_cons_succ])
            (refine wpD_plain 9 (v := (.pointer (some ⟨g0, o0 + j * 2, none⟩))) rfl (by kernel_rfl) (by kernel_rfl) (by kernel_rfl) (fun _ _ _ h => h) (by rfl) ?_ (by assumption) ?_; (intro _w; go_simp; skip); simp only [Act.put, List.setIfInBounds_toArray, List.set_cons_zero, List.set_cons_succ])
            (refine wpD_plain 10 (v := ?_) rfl (by kernel_rfl) (by kernel_rfl) (by kernel_rfl) (fun _ _ _ h => h) (by rfl) ?_ (by assumption) ?_; rotate_left; (intro _w; go_simp; try with_reducible rfl); simp only [Act.put, List.setIfInBounds_toArray, List.set_cons_zero, List.set_cons_succ])
            (refine wpD_take 11 _ rfl (by kernel_rfl) (by kernel_rfl) (by kernel_rfl) (fun _ _ _ h => h) (List.mem_cons_of_mem _ List.mem_cons_self) (by rfl) (v := ?_) ?_ (by assumption) ?_; rotate_left; (intro _w _hw; go_simp; try with_reducible rfl); simp only [Act.put, List.setIfInBounds_toArray, List.set_cons_zero, List.set_cons_succ])
            (refine wpD_plain 12 (v := (.bool (decide (y.1 = x.1)))) rfl (by kernel_rfl) (by kernel_rfl) (by kernel_rfl) (fun _ _ _ h => h) (by rfl) ?_ (by assumption) ?_; (intro _w; go_simp; exact eq_beq y.1 x.1); simp only [Act.put, List.setIfInBounds_toArray, List.set_cons_zero, List.set_cons_succ])
            (refine wpD_plain 13 (v := ?_) rfl (by kernel_rfl) (by kernel_rfl) (by kernel_rfl) (fun _ _ _ h => h) (by rfl) ?_ (by assumption) ?_; rotate_left; (intro _w; go_simp; try with_reducible rfl); simp only [Act.put, List.setIfInBounds_toArray, List.set_cons_zero, List.set_cons_succ])
            (refine wpD_plain 14 (v := ?_) rfl (by kernel_rfl) (by kernel_rfl) (by kernel_rfl) (fun _ _ _ h => h) (by rfl) ?_ (by assumption) ?_; rotate_left; (intro _w; go_simp; try with_reducible rfl); simp only [Act.put, List.setIfInBounds_toArray, List.set_cons_zero, List.set_cons_succ])
            clear hold
            refine wpD_done (by kernel_rfl) ?_ _
            try simp only [Act.put, List.setIfInBounds_toArray, List.set_cons_zero, List.set_cons_succ]
            clear ck cy
            go_wp2_with fail
            exact ⟨⟨k + 1, by omega, by rw [HN.out], by go_num, HFd, HRd⟩, by simp [intOf]; omega⟩
        · have hkl' : ¬ ((k : Int) < (sl.length : Int)) := by omega
          have hke : sl.take k = sl := List.take_of_length_le (by omega)
          rw [hke]
          clear hke
          have hji : (j : Int) ≤ 300 := by omega
          have HPX : Hid (wr.rangeAt g0 (o0 + j * 2) (pc x)) := hid (HK.out.range (range_pr HR0.out HX.out) id)
          cases hkn : knows x.1 sl with
          | true =>
            have HN : Hid (sl = ded (x0.take (j + 1))) := hid (by rw [HTK.out, ded_snoc, ← HSL.out, hkn]; rfl)
            clear hkn ck
            go_wp2_with fail
            exact ⟨⟨j + 1, sl, a, c, by omega, by omega, by omega, rfl, by go_num, HN, HK, HRK⟩, by simp [intOf]; omega⟩
          | false =>
            have HN : Hid (sl ++ [x] = ded (x0.take (j + 1))) := hid (by rw [HTK.out, ded_snoc, ← HSL.out, hkn]; rfl)
            clear hkn ck
            have hb : W.heap.size ≤ wr.heap.size := HK.out.size
            have HB := hid hb
            clear hb
            go_wp2_with (first
              | ((with_reducible show wpList _ _ _ ({ dst := _, op := .load 32 _, type := _, pos := _, after := _, guard := _ } :: _) _ _); refine wpL_load rfl _ _ rfl g0 (o0 + j * 2) rfl (pc x) _ HPX.out rfl rfl info_pr ?_)
              | ((with_reducible show wpList _ _ _ ({ dst := _, op := .buildSlice 22 _ _, type := _, pos := _, after := _, guard := _ } :: _) _ _); refine wpL_buildOne rfl _ 32 _ rfl ip _ rfl JI.out JZ.out (by rw [JS.out]; decide) (by rw [JS.out]; decide) _ [.string x.1, .string x.2] rfl rfl (by rw [JS.out]; rfl) ?_; intro w5 HB5 F5 HS5)
              | ((with_reducible show wpList _ _ _ ({ dst := _, op := .call { callee := .builtin .append, args := _, argTypes := _ }, type := _, pos := _, after := _, guard := _ } :: _) _ _); refine app_pr rfl _ _ rfl W.heap.size _ sl.length (pcs sl) rfl (HRK.out.no F5.out) (some ⟨wr.heap.size, 0, none⟩) 1 1 [.string x.1, .string x.2] rfl rfl (.inr ⟨_, rfl, HB5.out.news⟩) (by intro u hu; simp at hu; rcases hu with rfl | rfl <;> rfl) (by omega) (Nat.le_trans HB.out F5.out.size) ?_; intro a6 c6 w6 HO6 HG6 HA6))
            have hG : Hid (w5.grownBy w6 (Value.slice a sl.length c).ownBlock) := HG6
            have HF6 : Hid (Fr No W w6) := hid (Fr.grown (HK.out.trans' F5.out) hG.out (fun k hk => .inr (own_ge HRK.out k hk).1))
            have HRb : Hid (Row W w6 (.slice a6 (sl ++ [x]).length c6) (sl ++ [x])) := hid (by
              have := HO6.out
              rw [show pcs sl ++ [.string x.1, .string x.2] = pcs (sl ++ [x]) from pcs_snoc sl x] at this
              have e : (sl ++ [x]).length = sl.length + 1 := by simp
              unfold Row
              rw [e]
              exact this)
            exact ⟨⟨j + 1, sl ++ [x], a6, c6, by omega, by omega, by simp; omega, by simp, by go_num, HN, HF6, HRb⟩, by simp [intOf]; omega⟩
    · have HX : Hid (¬ (j < x0.length ∧ j < 300)) := hid hlt
      clear hlt
      by_cases hlt1 : j < x0.length
      · have hlt1' : (j : Int) < (x0.length : Int) := by omega
        have hlt2' : ¬ ((j : Int) < 300) := by have := HX.out; omega
        clear hlt1
        have hsi : (sl.length : Int) ≤ 300 := by omega
        have HSI : Hid (sl.length ≤ 300) := hid (by omega)
        have HUN : Hid (Unlike sl) := hid (by rw [HSL.out]; exact ded_unlike _)
        go_wp2_with fail
        go_loopw [8, 9] (fun v8 v9 wk => ∃ (m : Nat) (bl : L) (a8 : Option Addr) (c8 : Nat) (q : Int), m ≤ sl.length ∧ bl.length + m = sl.length ∧ v8 = .slice a8 bl.length c8 ∧ v9 = .int .i64 q ∧ q = (m : Int) - 1 ∧ Hid (bl = (sl.drop m).reverse) ∧ Hid (Fr No W wk) ∧ Hid (Row W wk (.slice a sl.length c) sl) ∧ Hid (Row W wk (.slice a8 bl.length c8) bl) ∧ Hid (∀ k, (Value.slice a8 bl.length c8).ownBlock = some k → (Value.slice a sl.length c).ownBlock ≠ some k)) (fun _ v9 _ => (intOf v9 + 1).toNat)
        case atStart => exact ⟨sl.length, [], none, 0, (sl.length : Int) - 1, by omega, by simp, rfl, rfl, rfl, hid (by rw [List.drop_length]; rfl), HF, HR, hid ⟨rfl, .inl ⟨rfl, rfl⟩⟩, hid (by intro k hk; cases hk)⟩
        case round =>
          obtain ⟨m, bl, a8, c8, q, hm, hbm, rfl, rfl, hq, HBL, HF2, HR2, HB2, HN2⟩ := hrel
          by_cases hm0 : m = 0
          · have hq1 : q = -1 := by omega
            have HE : Hid (bl = sl.reverse) := hid (by rw [HBL.out, hm0, List.drop_zero])
            subst hq1
            clear hq hbm hm
            go_wp2_with fail
            refine (of_any wr _ sl (PrNew.at_ (pr_new HR2.out) (by have := HSI.out; omega))).mono ?_
            rintro e w2 ⟨b1, T1, rfl, t1⟩
            have HT1 := hid (t1.pre HF2.out)
            have HB3 := hid (HB2.out.no t1.fr)
            have F2 := hid (HF2.out.trans' t1.fr)
            clear t1
            go_wp2_with fail
            refine (of_any w2 _ bl (PrNew.at_ (pr_new HB3.out) (by rw [HE.out, List.length_reverse]; have := HSI.out; omega))).mono ?_
            rintro e w3 ⟨b2, T2, rfl, t2⟩
            have HT2 := hid (t2.pre F2.out)
            have HT1' := hid (HT1.out.no t2.fr)
            clear t2
            have HLE : Hid ((ofL sl).length ≤ 300) := hid (by have := ofL_length sl; have := HSI.out; omega)
            go_wp2_with fail
            refine (HT1'.out.all (by have := HLE.out; omega)).mono ?_
            rintro e w4 ⟨pv, rfl, p4, t4, f4⟩
            have HP4 := hid p4.pr
            have HT24 := hid (HT2.out.no f4)
            obtain ⟨a4, c4, rfl, -⟩ := p4
            clear t4 f4
            go_wp2_with fail
            refine (HT24.out.all (by rw [HE.out, turned_eq HUN.out]; have := HLE.out; omega)).mono ?_
            rintro e w5 ⟨pv, rfl, p5, t5, f5⟩
            have HP5 : Hid (PR w5 pv (ofL sl)) := hid (by have := p5.pr; rwa [HE.out, turned_eq HUN.out] at this)
            have HP45 := hid (HP4.out.no f5)
            have HT5 := hid t5
            obtain ⟨a5, c5, rfl, -⟩ := p5
            clear t5 f5
            go_wp2_with fail
            refine (same_eq w5 _ _ (ofL sl) HP45.out HP5.out (by have := HLE.out; omega)).mono ?_
            rintro e w6 ⟨rfl, f6⟩
            have HT6 := hid (HT5.out.no f6)
            clear f6
            go_wp2_with fail
            go_ret
            exact ⟨rfl, HT6.out.fr⟩
          · obtain ⟨i, rfl⟩ : ∃ i, m = i + 1 := ⟨m - 1, by omega⟩
            have hqi : q = (i : Int) := by omega
            subst hqi
            have hil : i < sl.length := by omega
            have hil' : (i : Int) < (sl.length : Int) := by omega
            have hip : (0 : Int) ≤ (i : Int) := by omega
            obtain ⟨x, hx⟩ : ∃ x, sl[i]? = some x := ⟨_, List.getElem?_eq_getElem hil⟩
            have hdr : bl ++ [x] = (sl.drop i).reverse := by
              have h2 : sl.drop i = x :: sl.drop (i + 1) := by
                rw [List.drop_eq_getElem_cons hil]
                have := List.getElem?_eq_some_iff.1 hx
                rw [this.2]
              rw [h2, List.reverse_cons, HBL.out]
            have HDR := hid hdr
            obtain ⟨g, rfl, hrs⟩ : ∃ g, a = some ⟨g, 0, none⟩ ∧ wr.rangeAt g 0 (pcs sl) := by
              obtain ⟨a', c', e, h⟩ := HR2.out.form
              simp only [Value.slice.injEq] at e
              obtain ⟨rfl, -, -⟩ := e
              rcases h with e | ⟨g, e, hr, _⟩
              · rw [e] at hil; simp at hil
              · exact ⟨g, e, hr⟩
            have HPX : Hid (wr.rangeAt g (i * 2) (pc x)) := hid (by have := range_pr hrs hx; rwa [Nat.zero_add] at this)
            have hb : W.heap.size ≤ wr.heap.size := HF2.out.size
            have HB := hid hb
            have hbl : bl.length + 1 ≤ 4398046511104 := by omega
            have HBN := hid hbl
            have HBI : Hid (bl.length + (i + 1) = sl.length) := hid hbm
            have hbi : (bl.length : Int) ≤ 300 := by omega
            clear hx hdr hrs hb hq hbl hbm hm0
            go_wp2_with (first
              | ((with_reducible show wpList _ _ _ ({ dst := _, op := .load 32 _, type := _, pos := _, after := _, guard := _ } :: _) _ _); refine wpL_load rfl _ _ rfl g (i * 2) rfl (pc x) _ HPX.out rfl rfl info_pr ?_)
              | ((with_reducible show wpList _ _ _ ({ dst := _, op := .buildSlice 22 _ _, type := _, pos := _, after := _, guard := _ } :: _) _ _); refine wpL_buildOne rfl _ 32 _ rfl ip _ rfl JI.out JZ.out (by rw [JS.out]; decide) (by rw [JS.out]; decide) _ [.string x.1, .string x.2] rfl rfl (by rw [JS.out]; rfl) ?_; intro w5 HB5 F5 HS5)
              | ((with_reducible show wpList _ _ _ ({ dst := _, op := .call { callee := .builtin .append, args := _, argTypes := _ }, type := _, pos := _, after := _, guard := _ } :: _) _ _); refine app_pr rfl _ _ rfl W.heap.size _ bl.length (pcs bl) rfl (HB2.out.no F5.out) (some ⟨wr.heap.size, 0, none⟩) 1 1 [.string x.1, .string x.2] rfl rfl (.inr ⟨_, rfl, HB5.out.news⟩) (by intro u hu; simp at hu; rcases hu with rfl | rfl <;> rfl) HBN.out (Nat.le_trans HB.out F5.out.size) ?_; intro a6 c6 w6 HO6 HG6 HA6))
            have hG : Hid (w5.grownBy w6 (Value.slice a8 bl.length c8).ownBlock) := HG6
            have hA : Hid ((Value.slice a6 (bl.length + 1) c6).ownBlock = (Value.slice a8 bl.length c8).ownBlock ∨ (Value.slice a6 (bl.length + 1) c6).ownBlock = some w5.heap.size) := HA6
            have HF6 : Hid (Fr No W w6) := hid (Fr.grown (HF2.out.trans' F5.out) hG.out (fun k hk => .inr (own_ge HB2.out k hk).1))
            have HRs : Hid (Row W w6 (.slice (some ⟨g, 0, none⟩) sl.length c) sl) := hid (by
              have f2 : Fr (fun k => (Value.slice a8 bl.length c8).ownBlock = some k) w5 w6 := (Fr.refl _ w5).grown hG.out fun k hk => .inl hk
              exact own_fr (HR2.out.no F5.out) f2 (fun k hk e => HN2.out k e hk))
            have HRb : Hid (Row W w6 (.slice a6 (bl ++ [x]).length c6) (bl ++ [x])) := hid (by
              have := HO6.out
              rw [show pcs bl ++ [.string x.1, .string x.2] = pcs (bl ++ [x]) from pcs_snoc bl x] at this
              have e : (bl ++ [x]).length = bl.length + 1 := by simp
              unfold Row
              rw [e]
              exact this)
            have HN6 : Hid (∀ k, (Value.slice a6 (bl ++ [x]).length c6).ownBlock = some k → (Value.slice (some ⟨g, 0, none⟩) sl.length c).ownBlock ≠ some k) := hid (by
              intro k hk hk2
              have e : (bl ++ [x]).length = bl.length + 1 := by simp
              rw [e] at hk
              rcases hA.out with e2 | e2
              · rw [e2] at hk; exact HN2.out k hk hk2
              · rw [e2] at hk
                have h1 := (own_ge HR2.out k hk2).2
                have h2 := F5.out.size
                cases hk
                omega)
            exact ⟨⟨i, bl ++ [x], a6, c6, (i : Int) - 1, by omega, by have := HBI.out; simp only [List.length_append, List.length_singleton]; omega, by simp, by go_num, rfl, HDR, HF6, HRs, HRb, HN6⟩, by first | (simp [intOf]; done) | (simp [intOf]; omega)⟩
      · have hlt1' : ¬ ((j : Int) < (x0.length : Int)) := by omega
        clear hlt1
        have hsi : (sl.length : Int) ≤ 300 := by omega
        have HSI : Hid (sl.length ≤ 300) := hid (by omega)
        have HUN : Hid (Unlike sl) := hid (by rw [HSL.out]; exact ded_unlike _)
        go_wp2_with fail
        go_loopw [8, 9] (fun v8 v9 wk => ∃ (m : Nat) (bl : L) (a8 : Option Addr) (c8 : Nat) (q : Int), m ≤ sl.length ∧ bl.length + m = sl.length ∧ v8 = .slice a8 bl.length c8 ∧ v9 = .int .i64 q ∧ q = (m : Int) - 1 ∧ Hid (bl = (sl.drop m).reverse) ∧ Hid (Fr No W wk) ∧ Hid (Row W wk (.slice a sl.length c) sl) ∧ Hid (Row W wk (.slice a8 bl.length c8) bl) ∧ Hid (∀ k, (Value.slice a8 bl.length c8).ownBlock = some k → (Value.slice a sl.length c).ownBlock ≠ some k)) (fun _ v9 _ => (intOf v9 + 1).toNat)
        case atStart => exact ⟨sl.length, [], none, 0, (sl.length : Int) - 1, by omega, by simp, rfl, rfl, rfl, hid (by rw [List.drop_length]; rfl), HF, HR, hid ⟨rfl, .inl ⟨rfl, rfl⟩⟩, hid (by intro k hk; cases hk)⟩
        case round =>
          obtain ⟨m, bl, a8, c8, q, hm, hbm, rfl, rfl, hq, HBL, HF2, HR2, HB2, HN2⟩ := hrel
          by_cases hm0 : m = 0
          · have hq1 : q = -1 := by omega
            have HE : Hid (bl = sl.reverse) := hid (by rw [HBL.out, hm0, List.drop_zero])
            subst hq1
            clear hq hbm hm
            go_wp2_with fail
            refine (of_any wr _ sl (PrNew.at_ (pr_new HR2.out) (by have := HSI.out; omega))).mono ?_
            rintro e w2 ⟨b1, T1, rfl, t1⟩
            have HT1 := hid (t1.pre HF2.out)
            have HB3 := hid (HB2.out.no t1.fr)
            have F2 := hid (HF2.out.trans' t1.fr)
            clear t1
            go_wp2_with fail
            refine (of_any w2 _ bl (PrNew.at_ (pr_new HB3.out) (by rw [HE.out, List.length_reverse]; have := HSI.out; omega))).mono ?_
            rintro e w3 ⟨b2, T2, rfl, t2⟩
            have HT2 := hid (t2.pre F2.out)
            have HT1' := hid (HT1.out.no t2.fr)
            clear t2
            have HLE : Hid ((ofL sl).length ≤ 300) := hid (by have := ofL_length sl; have := HSI.out; omega)
            go_wp2_with fail
            refine (HT1'.out.all (by have := HLE.out; omega)).mono ?_
            rintro e w4 ⟨pv, rfl, p4, t4, f4⟩
            have HP4 := hid p4.pr
            have HT24 := hid (HT2.out.no f4)
            obtain ⟨a4, c4, rfl, -⟩ := p4
            clear t4 f4
            go_wp2_with fail
            refine (HT24.out.all (by rw [HE.out, turned_eq HUN.out]; have := HLE.out; omega)).mono ?_
            rintro e w5 ⟨pv, rfl, p5, t5, f5⟩
            have HP5 : Hid (PR w5 pv (ofL sl)) := hid (by have := p5.pr; rwa [HE.out, turned_eq HUN.out] at this)
            have HP45 := hid (HP4.out.no f5)
            have HT5 := hid t5
            obtain ⟨a5, c5, rfl, -⟩ := p5
            clear t5 f5
            go_wp2_with fail
            refine (same_eq w5 _ _ (ofL sl) HP45.out HP5.out (by have := HLE.out; omega)).mono ?_
            rintro e w6 ⟨rfl, f6⟩
            have HT6 := hid (HT5.out.no f6)
            clear f6
            go_wp2_with fail
            go_ret
            exact ⟨rfl, HT6.out.fr⟩
          · obtain ⟨i, rfl⟩ : ∃ i, m = i + 1 := ⟨m - 1, by omega⟩
            have hqi : q = (i : Int) := by omega
            subst hqi
            have hil : i < sl.length := by omega
            have hil' : (i : Int) < (sl.length : Int) := by omega
            have hip : (0 : Int) ≤ (i : Int) := by omega
            obtain ⟨x, hx⟩ : ∃ x, sl[i]? = some x := ⟨_, List.getElem?_eq_getElem hil⟩
            have hdr : bl ++ [x] = (sl.drop i).reverse := by
              have h2 : sl.drop i = x :: sl.drop (i + 1) := by
                rw [List.drop_eq_getElem_cons hil]
                have := List.getElem?_eq_some_iff.1 hx
                rw [this.2]
              rw [h2, List.reverse_cons, HBL.out]
            have HDR := hid hdr
            obtain ⟨g, rfl, hrs⟩ : ∃ g, a = some ⟨g, 0, none⟩ ∧ wr.rangeAt g 0 (pcs sl) := by
              obtain ⟨a', c', e, h⟩ := HR2.out.form
              simp only [Value.slice.injEq] at e
              obtain ⟨rfl, -, -⟩ := e
              rcases h with e | ⟨g, e, hr, _⟩
              · rw [e] at hil; simp at hil
              · exact ⟨g, e, hr⟩
            have HPX : Hid (wr.rangeAt g (i * 2) (pc x)) := hid (by have := range_pr hrs hx; rwa [Nat.zero_add] at this)
            have hb : W.heap.size ≤ wr.heap.size := HF2.out.size
            have HB := hid hb
            have hbl : bl.length + 1 ≤ 4398046511104 := by omega
            have HBN := hid hbl
            have HBI : Hid (bl.length + (i + 1) = sl.length) := hid hbm
            have hbi : (bl.length : Int) ≤ 300 := by omega
            clear hx hdr hrs hb hq hbl hbm hm0
            go_wp2_with (first
              | ((with_reducible show wpList _ _ _ ({ dst := _, op := .load 32 _, type := _, pos := _, after := _, guard := _ } :: _) _ _); refine wpL_load rfl _ _ rfl g (i * 2) rfl (pc x) _ HPX.out rfl rfl info_pr ?_)
              | ((with_reducible show wpList _ _ _ ({ dst := _, op := .buildSlice 22 _ _, type := _, pos := _, after := _, guard := _ } :: _) _ _); refine wpL_buildOne rfl _ 32 _ rfl ip _ rfl JI.out JZ.out (by rw [JS.out]; decide) (by rw [JS.out]; decide) _ [.string x.1, .string x.2] rfl rfl (by rw [JS.out]; rfl) ?_; intro w5 HB5 F5 HS5)
              | ((with_reducible show wpList _ _ _ ({ dst := _, op := .call { callee := .builtin .append, args := _, argTypes := _ }, type := _, pos := _, after := _, guard := _ } :: _) _ _); refine app_pr rfl _ _ rfl W.heap.size _ bl.length (pcs bl) rfl (HB2.out.no F5.out) (some ⟨wr.heap.size, 0, none⟩) 1 1 [.string x.1, .string x.2] rfl rfl (.inr ⟨_, rfl, HB5.out.news⟩) (by intro u hu; simp at hu; rcases hu with rfl | rfl <;> rfl) HBN.out (Nat.le_trans HB.out F5.out.size) ?_; intro a6 c6 w6 HO6 HG6 HA6))
            have hG : Hid (w5.grownBy w6 (Value.slice a8 bl.length c8).ownBlock) := HG6
            have hA : Hid ((Value.slice a6 (bl.length + 1) c6).ownBlock = (Value.slice a8 bl.length c8).ownBlock ∨ (Value.slice a6 (bl.length + 1) c6).ownBlock = some w5.heap.size) := HA6
            have HF6 : Hid (Fr No W w6) := hid (Fr.grown (HF2.out.trans' F5.out) hG.out (fun k hk => .inr (own_ge HB2.out k hk).1))
            have HRs : Hid (Row W w6 (.slice (some ⟨g, 0, none⟩) sl.length c) sl) := hid (by
              have f2 : Fr (fun k => (Value.slice a8 bl.length c8).ownBlock = some k) w5 w6 := (Fr.refl _ w5).grown hG.out fun k hk => .inl hk
              exact own_fr (HR2.out.no F5.out) f2 (fun k hk e => HN2.out k e hk))
            have HRb : Hid (Row W w6 (.slice a6 (bl ++ [x]).length c6) (bl ++ [x])) := hid (by
              have := HO6.out
              rw [show pcs bl ++ [.string x.1, .string x.2] = pcs (bl ++ [x]) from pcs_snoc bl x] at this
              have e : (bl ++ [x]).length = bl.length + 1 := by simp
              unfold Row
              rw [e]
              exact this)
            have HN6 : Hid (∀ k, (Value.slice a6 (bl ++ [x]).length c6).ownBlock = some k → (Value.slice (some ⟨g, 0, none⟩) sl.length c).ownBlock ≠ some k) := hid (by
              intro k hk hk2
              have e : (bl ++ [x]).length = bl.length + 1 := by simp
              rw [e] at hk
              rcases hA.out with e2 | e2
              · rw [e2] at hk; exact HN2.out k hk hk2
              · rw [e2] at hk
                have h1 := (own_ge HR2.out k hk2).2
                have h2 := F5.out.size
                cases hk
                omega)
            exact ⟨⟨i, bl ++ [x], a6, c6, (i : Int) - 1, by omega, by have := HBI.out; simp only [List.length_append, List.length_singleton]; omega, by simp, by go_num, rfl, HDR, HF6, HRs, HRb, HN6⟩, by first | (simp [intOf]; done) | (simp [intOf]; omega)⟩
end Go.Proofs.Ytmcminejnknliaa.TR
