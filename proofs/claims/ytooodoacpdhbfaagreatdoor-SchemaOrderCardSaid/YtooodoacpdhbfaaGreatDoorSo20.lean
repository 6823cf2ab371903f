/-
  Part 20 of the proof: SdG.
-/
import Derived.Test.YtooodoacpdhbfaaGreatDoorSo19
set_option linter.unusedSimpArgs false
set_option linter.unusedVariables false
namespace Go.Proofs.YtooodoacpdhbfaaGreatDoor.SC
set_option maxRecDepth 100000
open Go.RowKit K Go.Proofs.YtooodoacpdhbfaaGreatDoor.BE Go.Proofs.YtooodoacpdhbfaaGreatDoor.DN

theorem infoSc2 : (Tryz.prog.info? 33).map (·.size) = some 2 := by kernel_rfl
set_option maxHeartbeats 16000000 in
theorem orderLaw {S S2 : Nat → Prop} (vt vc : Value) (s : Sch) (n a b c : B) (w : World) (h : TysIn S w vt s.tys) (hy : ClsIn S2 w vc s.cls) (hG : Gs w) (hn : Sz n) (ha : Sz a) (hb : Sz b) (hc : Sz c) :
    Calls Tryz.prog 7 #[.agg #[vt, vc], .string (sb n), .string (sb a), .string (sb b), .string (sb c)] w fun e w' => e = .returned (.bool true) ∧ Fr No w w' := by
  obtain ⟨X, hXe⟩ : ∃ X : Nat → Prop, X = fun k => k < w.heap.size := ⟨_, rfl⟩
  have HX := hid hXe
  have HGX : Hid (GX X) := hid (by rw [hXe]; exact hG.gx)
  have HG := hid hG; have HT := hid h; have HC := hid hy
  have HZ := hid (show Sz n ∧ Sz a ∧ Sz b ∧ Sz c from ⟨hn, ha, hb, hc⟩)
  clear h hy hG hXe hn ha hb hc
  go_enter Tryz.func7, Tryz.ntmps7
  go_wp2_with (first
    | ((with_reducible refine K.atO (.box 33 _) ?_); refine wpL_box rfl _ _ rfl _ rfl [vt, vc] rfl ?_; intro w1 HB1 HF1 HS1; refine Hid.out ?_)
    | fail)
  obtain ⟨sb0, hsb⟩ : ∃ b, w.heap.size = b := ⟨_, rfl⟩
  rw [hsb] at HB1 ⊢
  clear hsb HS1
  refine hid ?_
  go_wp2_with fail
  refine (awake_any w1 (HG.out.no HF1.out)).mono ?_
  rintro e w2 ⟨rfl, f2⟩
  have HR2 : Hid (w2.rangeAt sb0 0 [vt, vc]) := hid ((HB1.out.fr f2 id).range 0 _ rfl)
  have HF2 : Hid (Fr No w w2) := hid (HF1.out.trans' f2)
  have HT2 := hid (TysIn.fr (D := No) HT.out HF2.out (fun _ _ _ e => e)); have HC2 := hid (ClsIn.fr (D := No) HC.out HF2.out (fun _ _ _ e => e))
  clear f2 HB1 HF1 HT HC
  go_wp2_with (first
    | ((with_reducible refine K.atO (.load 33 _) ?_); refine wpL_valZ rfl (.agg #[vt, vc]) (exec_load _ _ rfl sb0 0 rfl [vt, vc] _ rfl rfl infoSc2 w2 HR2.out) ?_)
    | fail)
  cases hok : okS s with
  | false =>
    refine (new_bad vt vc s w2 HT2.out HC2.out hok).mono ?_
    rintro e w3 ⟨rfl, f3⟩
    go_wp2_with fail
    go_ret
    exact ⟨rfl, HF2.out.trans' f3⟩
  | true =>
    refine (new_ok vt vc s w2 HT2.out HC2.out hok).mono ?_
    rintro e w3 ⟨q, rfl, hs, f3⟩
    have HS3 : Hid (Sx w3 X q s) := hid (hs.less (fun k hk => by rw [HX.out] at hk; exact Nat.lt_of_lt_of_le hk HF2.out.size))
    have HG3 := hid (HG.out.no (HF2.out.trans' f3))
    have HF3 : Hid (Fr No w w3) := hid (HF2.out.trans' f3)
    have HQ : Hid (w.heap.size ≤ q) := hid (by have := HS3.out.nx; rw [HX.out] at this; omega)
    have HFQ : Hid (∀ u v : World, Fr No w u → Fr (fun i => i = q) u v → Fr No w v) := hid (fun _ _ f g => f.trans g (fun i e => .inr (by rw [e]; exact HQ.out)))
    have HXB3 : Hid (∀ k, X k → k < w3.heap.size) := hid (fun k hk => by rw [HX.out] at hk; exact Nat.lt_of_lt_of_le (show k < w.heap.size from hk) (HF2.out.trans' f3).size)
    clear hs f3 HT2 HC2 HF2 HR2 hok
    go_wp2_with fail
    refine (cmp_any X q s n a a w3 HS3.out HXB3.out HGX.out HG3.out HZ.out.1 HZ.out.2.1 HZ.out.2.1).mono ?_
    rintro e w4 ⟨rfl, hs, f⟩
    have HF4 := hid (HFQ.out _ _ HF3.out f)
    have HS4 := hid hs.sx; have HG4 := hid (hs.bb HG3.out f HGX.out); have HXB4 := hid (fun k hk => Nat.lt_of_lt_of_le (HXB3.out k hk) f.size)
    clear hs f HS3 HG3 HXB3
    go_wp2_with fail
    refine (cmp_any X q s n a b w4 HS4.out HXB4.out HGX.out HG4.out HZ.out.1 HZ.out.2.1 HZ.out.2.2.1).mono ?_
    rintro e w5 ⟨rfl, hs, f⟩
    have HF5 := hid (HFQ.out _ _ HF4.out f)
    have HS5 := hid hs.sx; have HG5 := hid (hs.bb HG4.out f HGX.out); have HXB5 := hid (fun k hk => Nat.lt_of_lt_of_le (HXB4.out k hk) f.size)
    clear hs f HS4 HG4 HXB4
    go_wp2_with fail
    refine (cmp_any X q s n b a w5 HS5.out HXB5.out HGX.out HG5.out HZ.out.1 HZ.out.2.2.1 HZ.out.2.1).mono ?_
    rintro e w6 ⟨rfl, hs, f⟩
    have HF6 := hid (HFQ.out _ _ HF5.out f)
    have HS6 := hid hs.sx; have HG6 := hid (hs.bb HG5.out f HGX.out); have HXB6 := hid (fun k hk => Nat.lt_of_lt_of_le (HXB5.out k hk) f.size)
    clear hs f HS5 HG5 HXB5
    go_wp2_with fail
    refine (cmp_any X q s n b c w6 HS6.out HXB6.out HGX.out HG6.out HZ.out.1 HZ.out.2.2.1 HZ.out.2.2.2).mono ?_
    rintro e w7 ⟨rfl, hs, f⟩
    have HF7 := hid (HFQ.out _ _ HF6.out f)
    have HS7 := hid hs.sx; have HG7 := hid (hs.bb HG6.out f HGX.out); have HXB7 := hid (fun k hk => Nat.lt_of_lt_of_le (HXB6.out k hk) f.size)
    clear hs f HS6 HG6 HXB6
    go_wp2_with fail
    refine (cmp_any X q s n a c w7 HS7.out HXB7.out HGX.out HG7.out HZ.out.1 HZ.out.2.1 HZ.out.2.2.2).mono ?_
    rintro e w8 ⟨rfl, hs, f⟩
    have HF8 := hid (HFQ.out _ _ HF7.out f)
    clear hs f HS7 HG7 HXB7
    have HO := hid (order_ok (s := s) (n := n) (a := a) (b := b) (c := c))
    have V2 := cmpE_val s n a b; have V4 := cmpE_val s n b c; have V5 := cmpE_val s n a c
    generalize (cmpE s n a a).1 = p1 at HO ⊢; generalize (cmpE s n a a).2 = q1 at HO ⊢
    generalize (cmpE s n a b).1 = p2 at HO V2 ⊢; generalize (cmpE s n a b).2 = q2 at HO ⊢
    generalize (cmpE s n b a).1 = p3 at HO ⊢; generalize (cmpE s n b a).2 = q3 at HO ⊢
    generalize (cmpE s n b c).1 = p4 at HO V4 ⊢; generalize (cmpE s n b c).2 = q4 at HO ⊢
    generalize (cmpE s n a c).1 = p5 at HO V5 ⊢; generalize (cmpE s n a c).2 = q5 at HO ⊢
    by_cases h1 : q1 = 0
    · by_cases h2 : q2 = 0
      · by_cases h4 : q4 = 0
        · obtain ⟨e3, e5, ep1, ep, i1, i2⟩ := HO.out h1 h2 h4
          obtain rfl : p3 = -p2 := by omega
          subst h1 h2 h4 e3 e5 ep1
          clear HO ep
          rcases V2 with rfl | rfl | rfl <;> rcases V4 with rfl | rfl | rfl <;> rcases V5 with rfl | rfl | rfl <;>
            first
            | (exfalso; revert i1 i2; decide)
            | (clear i1 i2; go_wp2_with fail; go_ret; exact ⟨rfl, HF8.out⟩)
        · subst h1 h2
          clear HO V2 V4 V5
          go_wp2_with fail
          go_ret
          exact ⟨rfl, HF8.out⟩
      · subst h1
        clear HO V2 V4 V5
        go_wp2_with fail
        go_ret
        exact ⟨rfl, HF8.out⟩
    · clear HO V2 V4 V5
      go_wp2_with fail
      go_ret
      exact ⟨rfl, HF8.out⟩
end Go.Proofs.YtooodoacpdhbfaaGreatDoor.SC
