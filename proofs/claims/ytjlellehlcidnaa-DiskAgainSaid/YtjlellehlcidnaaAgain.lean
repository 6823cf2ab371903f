/-
  The law DiskAgain: its program returns true and writes nothing that was there.
-/
import Derived.Test.YtjlellehlcidnaaKept
namespace Go.Proofs.Ytjlellehlcidnaa.D
open Go.RowKit K

set_option maxRecDepth 100000 in
theorem again_walk (w : World) (lv v1 v2 : Value) (xs : List Actd) (k1 k2 : List Bool) (hx : ActsIn w w.heap.size lv xs) (h1 : BoolsIn w (fun k => k < w.heap.size) v1 k1) (h2 : BoolsIn w (fun k => k < w.heap.size) v2 k2)
    (hl1 : k1.length ≤ 9223372036854775807) (hl2 : k2.length ≤ 9223372036854775807) :
    Calls Try.prog 8 #[lv, v1, v2] w fun e w' => e = .returned (.bool true) ∧ Below w.heap.size w w' := by
  have HX := hid hx; have H1 := hid h1; have H2 := hid h2; have HL1 := hid hl1; have HL2 := hid hl2
  clear hx h1 h2 hl1 hl2
  go_enter Try.func8, Try.ntmps8
  go_wp2_with fail
  refine (awake_any _).mono ?_
  rintro e w1 ⟨rfl, hf1⟩
  have HF1 := hid hf1
  clear hf1
  have hb1 : Below w.heap.size w w1 := HF1.out.below (fun _ e => e.elim) (Nat.le_refl _)
  have HB1 := hid hb1; clear hb1
  go_wp2_with fail
  refine (played_any w.heap.size w1 lv xs HF1.out.size (HX.out.later HB1.out)).mono ?_
  intro e w2 hpl
  unfold Played at hpl
  obtain ⟨bd, br, s, rfl, ht, hP, hL, hb2⟩ := hpl
  have how := two_ow ht (HB1.out.trans hb2)
  have HO2 := hid how; have HL := hid hL
  clear ht hP hL hb2 how
  go_wp2_with fail
  refine (ow_crash v1 k1 (fun k => k < w.heap.size) HO2.out (H1.out.fr HO2.out.fr (fun _ _ _ e => e)) (fun k hk => .inl hk) HL1.out).mono ?_
  rintro e w3 ⟨rfl, ho3, -⟩
  have HO3 := hid ho3
  clear ho3
  generalize hs : (s.crash k1).2 = s1 at HO3
  have HAg : Hid (s1.crash k2 = (0, s1)) := hid (by rw [← hs]; exact crash_again s k1 k2)
  have HRd : Hid (∀ j : Nat, j < 4 → (s1.read j).2 = 0) := hid (fun j hj => by rw [← hs]; exact crash_read s k1 HL.out hj)
  have HUp : Hid (s1.up = true) := hid (by rw [← hs]; rfl)
  clear hs
  go_wp2_with ((with_reducible show wpList _ _ _ ({ dst := _, op := .alloc 50, type := _, pos := _, after := _, guard := _ } :: _) _ _); refine wpL_alloc rfl _ rfl _ zero50 [.slice none 0 0, .slice none 0 0, .slice none 0 0, .slice none 0 0] rfl ?_; intro w4 HB4 HF4 HS4)
  have hk := kept_new (f := fun j => (s1.read j).1) HO3.out HB4.out rfl HF4.out
  have HK4 := hid hk
  clear hk HB4 HF4 HS4
  go_loopw [11] (fun i wr => ∃ k : Nat, k ≤ 4 ∧ i = .int .i64 k ∧ Hid (Kept w w3.heap.size k (fun j => (s1.read j).1) wr bd s1)) (fun i _ => 4 - (intOf i).toNat)
  case atStart => exact ⟨0, by decide, rfl, HK4⟩
  case round =>
    obtain ⟨k, hk, rfl, HK⟩ := hrel
    by_cases hlt : k < 4
    · have hk0 : (0 : Int) ≤ k := by omega
      have hk1 : (k : Int) < 4 := by omega
      go_wp2_with fail
      refine (kept_read k HK.out).mono ?_
      rintro e w5 ⟨v5, rfl, hv5⟩
      have HV5 := hid hv5
      obtain ⟨a5, l5, c5, rfl, -⟩ := hv5.bytes
      obtain ⟨⟨u, hc⟩, hfz⟩ := hv5.kept.cell hlt
      clear hv5
      go_wp2
      exact ⟨⟨k + 1, by omega, by go_num, hid (HV5.out.store hlt rfl)⟩, by simp [intOf]; omega⟩
    · have hk1 : ¬ ((k : Int) < 4) := by omega
      obtain rfl : k = 4 := by omega
      clear HK4
      go_wp2_with fail
      refine (kept_crash v2 k2 HK.out H2.out HL2.out).mono ?_
      rintro e w6 ⟨rfl, hk6⟩
      rw [HAg.out] at hk6 ⊢
      have HK6 := hid hk6
      clear hk6
      go_wp2_with fail
      go_loopw [13] (fun i wr => ∃ k : Nat, k ≤ 4 ∧ i = .int .i64 k ∧ Hid (Kept w w3.heap.size 4 (fun j => (s1.read j).1) wr bd s1)) (fun i _ => 4 - (intOf i).toNat)
      case atStart => exact ⟨0, by decide, rfl, HK6⟩
      case round =>
        obtain ⟨k, hk, rfl, HK7⟩ := hrel
        by_cases hlt : k < 4
        · have hk0 : (0 : Int) ≤ k := by omega
          have hk1 : (k : Int) < 4 := by omega
          go_wp2_with fail
          refine (kept_read k HK7.out).mono ?_
          rintro e w8 ⟨v8, rfl, hv8⟩
          rw [HRd.out k hlt]
          have HV8 := hid hv8
          obtain ⟨Kp, how⟩ := hv8.kept.ow
          obtain ⟨v9, hc9, hb9⟩ := hv8.kept.load hlt
          have HB9 := hid hb9
          have HOk := hid how.ok
          obtain ⟨a8, l8, c8, rfl, -⟩ := hv8.bytes
          obtain ⟨a9, l9, c9, rfl, -⟩ := id hb9
          clear hv8 hb9 how
          go_wp2_with fail
          refine (same_any _ _ _ _ _ _ _ HV8.out.bytes HB9.out (len_read _ _ HOk.out)).mono ?_
          rintro e w9 ⟨rfl, hf9⟩
          have HF9 := hid hf9
          clear hf9 hc9
          simp only [decide_true]
          go_wp2
          exact ⟨⟨k + 1, by omega, by go_num, hid (HV8.out.kept.no HF9.out)⟩, by simp [intOf]; omega⟩
        · have hk1 : ¬ ((k : Int) < 4) := by omega
          obtain rfl : k = 4 := by omega
          obtain ⟨Kp, how⟩ := HK7.out.ow
          have HOw := hid how
          clear how
          go_wp2_with fail
          refine (ow_up HOw.out).mono ?_
          rintro e w9 ⟨rfl, rfl⟩
          rw [HUp.out]
          go_wp2
          go_ret
          exact ⟨rfl, HOw.out.below⟩
end Go.Proofs.Ytjlellehlcidnaa.D
