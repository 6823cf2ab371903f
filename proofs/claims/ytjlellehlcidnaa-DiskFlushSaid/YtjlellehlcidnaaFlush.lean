/-
  The law DiskFlush: its program returns true and writes nothing that was there.
-/
import Derived.Test.YtjlellehlcidnaaKept
namespace Go.Proofs.Ytjlellehlcidnaa.D
open Go.RowKit K

theorem flush_no {s : St} (h : s.flush.1 ≠ 0) : s.flush.1 = 10 := by
  unfold St.flush at h ⊢
  (repeat' split) <;> simp_all
theorem flush_yes {s : St} (h : s.flush.1 = 0) : s.flush.2.P = [] ∧ s.flush.2.up = true ∧ s.flush.2.L.length = s.L.length := by
  by_cases h1 : s.up = false
  · simp [St.flush, h1] at h
  · by_cases h2 : s.spend.1 = false
    · simp [St.flush, h1, h2] at h
    · have h3 : s.up = true := by simpa using h1
      have h4 : s.spend.2.up = true := by
        unfold St.spend at h2 ⊢
        (repeat' split) <;> simp_all
      simp [St.flush, h1, h2, St.some, applied_length, h4]
/-- Behind a flush a crash changes nothing that is read. -/
theorem still_read {s : St} (h : s.P = [] ∧ s.up = true) (keep : List Bool) (n : Int) : (s.crash keep).2.read n = s.read n := by
  simp [St.crash, St.read, St.some, applied, picked_nil, h.1, h.2]
theorem still_lost {s : St} (h : s.P = []) (keep : List Bool) : (s.crash keep).1 = 0 := by
  simp [St.crash, picked_nil, h]
theorem up_read {s : St} (h : s.up = true) (hl : s.L.length = 4) {j : Nat} (hj : j < 4) : (s.read j).2 = 0 := by
  simp [St.read, h, hl, hj]

set_option maxRecDepth 100000 in
theorem flush_walk (w : World) (lv : Value) (xs : List Actd) (v2 : Value) (k2 : List Bool) (hx : ActsIn w w.heap.size lv xs) (h2 : BoolsIn w (fun k => k < w.heap.size) v2 k2) (hl2 : k2.length ≤ 9223372036854775807) :
    Calls Try.prog 6 #[lv, v2] w fun e w' => e = .returned (.bool true) ∧ Below w.heap.size w w' := by
  have HX := hid hx; have H2 := hid h2; have HL2 := hid hl2
  clear hx h2 hl2
  go_enter Try.func6, Try.ntmps6
  go_wp2_with fail
  refine (awake_any _).mono ?_
  rintro e w1 ⟨rfl, hf1⟩
  have HF1 := hid hf1
  clear hf1
  have hb1 : Below w.heap.size w w1 := HF1.out.below (fun _ e => e.elim) (Nat.le_refl _)
  have HB1 := hid hb1; clear hb1
  go_wp2_with fail
  refine (played_any w.heap.size w1 lv xs HF1.out.size (HX.out.later HB1.out)).mono ?_
  intro e w2 hpl
  unfold Played at hpl
  obtain ⟨bd, br, s, rfl, ht, hP, hL, hb2⟩ := hpl
  have how := two_ow ht (HB1.out.trans hb2)
  have HO2 := hid how; have HL := hid hL
  clear ht hP hL hb2 how
  go_wp2_with fail
  refine (ow_flush HO2.out).mono ?_
  rintro e w3 ⟨rfl, ho3, -⟩
  have HO3 := hid ho3
  clear ho3
  by_cases hz : s.flush.1 = 0
  · obtain ⟨hp, hu, hl⟩ := flush_yes hz
    rw [hz]
    generalize hs : s.flush.2 = s1 at HO3 hp hu hl
    have HSt : Hid (∀ n : Int, (s1.crash k2).2.read n = s1.read n) := hid (fun n => still_read ⟨hp, hu⟩ k2 n)
    have HLo : Hid ((s1.crash k2).1 = 0) := hid (still_lost hp k2)
    have HRd : Hid (∀ j : Nat, j < 4 → (s1.read j).2 = 0) := hid (fun j hj => up_read hu (by rw [hl]; exact HL.out) hj)
    clear hs hp hu hl hz
    go_wp2_with ((with_reducible show wpList _ _ _ ({ dst := _, op := .alloc 50, type := _, pos := _, after := _, guard := _ } :: _) _ _); refine wpL_alloc rfl _ rfl _ zero50 [.slice none 0 0, .slice none 0 0, .slice none 0 0, .slice none 0 0] rfl ?_; intro w4 HB4 HF4 HS4)
    have hk := kept_new (f := fun j => (s1.read j).1) HO3.out HB4.out rfl HF4.out
    have HK4 := hid hk
    clear hk HB4 HF4 HS4
    go_loopw [10] (fun i wr => ∃ k : Nat, k ≤ 4 ∧ i = .int .i64 k ∧ Hid (Kept w w3.heap.size k (fun j => (s1.read j).1) wr bd s1)) (fun i _ => 4 - (intOf i).toNat)
    case atStart => exact ⟨0, by decide, rfl, HK4⟩
    case round =>
      obtain ⟨k, hk, rfl, HK⟩ := hrel
      by_cases hlt : k < 4
      · have hk0 : (0 : Int) ≤ k := by omega
        have hk1 : (k : Int) < 4 := by omega
        go_wp2_with fail
        refine (kept_read k HK.out).mono ?_
        rintro e w5 ⟨v5, rfl, hv5⟩
        rw [HRd.out k hlt]
        have HV5 := hid hv5
        obtain ⟨a5, l5, c5, rfl, -⟩ := hv5.bytes
        obtain ⟨⟨u, hc⟩, hfz⟩ := hv5.kept.cell hlt
        clear hv5
        go_wp2
        exact ⟨⟨k + 1, by omega, by go_num, hid (HV5.out.store hlt rfl)⟩, by simp [intOf]; omega⟩
      · have hk1 : ¬ ((k : Int) < 4) := by omega
        obtain rfl : k = 4 := by omega
        clear HK4
        go_wp2_with fail
        refine (kept_crash v2 k2 HK.out H2.out HL2.out).mono ?_
        rintro e w6 ⟨rfl, hk6⟩
        rw [HLo.out]
        have HK6 := hid hk6
        clear hk6
        go_wp2_with fail
        go_loopw [14] (fun i wr => ∃ k : Nat, k ≤ 4 ∧ i = .int .i64 k ∧ Hid (Kept w w3.heap.size 4 (fun j => (s1.read j).1) wr bd (s1.crash k2).2)) (fun i _ => 4 - (intOf i).toNat)
        case atStart => exact ⟨0, by decide, rfl, HK6⟩
        case round =>
          obtain ⟨k, hk, rfl, HK7⟩ := hrel
          by_cases hlt : k < 4
          · have hk0 : (0 : Int) ≤ k := by omega
            have hk1 : (k : Int) < 4 := by omega
            go_wp2_with fail
            refine (kept_read k HK7.out).mono ?_
            rintro e w8 ⟨v8, rfl, hv8⟩
            rw [HSt.out k] at hv8 ⊢
            rw [HRd.out k hlt]
            have HV8 := hid hv8
            obtain ⟨Kp, how⟩ := hv8.kept.ow
            obtain ⟨v9, hc9, hb9⟩ := hv8.kept.load hlt
            have HB9 := hid hb9
            have HOk := hid how.ok
            have hlen : Hid ((s1.read k).1.length ≤ 9223372036854775807) := hid (by rw [← HSt.out k]; exact len_read _ _ HOk.out)
            obtain ⟨a8, l8, c8, rfl, -⟩ := hv8.bytes
            obtain ⟨a9, l9, c9, rfl, -⟩ := id hb9
            clear hv8 hb9 how
            go_wp2_with fail
            refine (same_any _ _ _ _ _ _ _ HB9.out HV8.out.bytes hlen.out).mono ?_
            rintro e w9 ⟨rfl, hf9⟩
            have HF9 := hid hf9
            clear hf9 hc9
            simp only [decide_true]
            go_wp2
            exact ⟨⟨k + 1, by omega, by go_num, hid (HV8.out.kept.no HF9.out)⟩, by simp [intOf]; omega⟩
          · have hk1 : ¬ ((k : Int) < 4) := by omega
            obtain rfl : k = 4 := by omega
            obtain ⟨Kp, how⟩ := HK7.out.ow
            have HOw := hid how
            clear how
            go_wp2
            go_ret
            exact ⟨rfl, HOw.out.below⟩
  · rw [flush_no hz]
    go_wp2
    go_ret
    exact ⟨rfl, HO3.out.below⟩
end Go.Proofs.Ytjlellehlcidnaa.D
