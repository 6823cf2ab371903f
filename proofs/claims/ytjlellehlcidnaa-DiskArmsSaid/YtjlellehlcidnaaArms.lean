/-
  The law DiskArms: its program returns true and writes nothing that was there.
-/
import Derived.Test.YtjlellehlcidnaaAwake
namespace Go.Proofs.Ytjlellehlcidnaa.D
open Go.RowKit K

/-- How a disk of one sector stands behind k operations, armed at n. -/
def Armed (n : Int) (k : Nat) (s : St) : Prop := s.L.length = 1 ∧ s.P.length ≤ k ∧ (k ≤ n → s.up = true ∧ s.left = n - k) ∧ (n < k → s.up = false)

theorem armed_start {n : Int} (hn : 0 ≤ n) : Armed n 0 ((St.new 1).arm n).2 := by
  have h : ¬ n < 0 := by omega
  simp [Armed, St.arm, St.new, h]
theorem armed_spend {n : Int} {k : Nat} {s : St} (h : Armed n k s) (hk : k ≤ n) : (s.spend.1 = decide ((k : Int) < n)) ∧ ((k : Int) < n → s.spend.2.up = true ∧ s.spend.2.left = n - (k + 1)) ∧ (n ≤ k → s.spend.2.up = false) := by
  obtain ⟨_, _, h3, _⟩ := h
  obtain ⟨hu, hl⟩ := h3 hk
  by_cases e : (k : Int) < n
  · have e1 : ¬ n - (k : Int) = 0 := by omega
    have e2 : ¬ n - (k : Int) = -1 := by omega
    have e3 : ¬ n ≤ (k : Int) := by omega
    have e4 : n - (k : Int) - 1 = n - (k + 1) := by omega
    simp [St.spend, hl, e1, e2, e, e3, e4, hu]
  · have e1 : n - (k : Int) = 0 := by omega
    simp [St.spend, hl, e1, e]
theorem armed_read {n : Int} {k : Nat} {s : St} (h : Armed n k s) : (s.read 0).2 = if (k : Int) ≤ n then 0 else 10 := by
  obtain ⟨h1, _, h3, h4⟩ := h
  by_cases e : (k : Int) ≤ n
  · simp [St.read, (h3 e).1, h1, e]
  · simp [St.read, h4 (by omega), e]
theorem armed_flush {n : Int} {k : Nat} {s : St} (h : Armed n k s) : s.flush.1 = (if n ≤ (k : Int) then 10 else 0) ∧ Armed n (k + 1) s.flush.2 := by
  have hs := armed_spend h
  obtain ⟨h1, h2, h3, h4⟩ := h
  by_cases e : (k : Int) ≤ n
  · obtain ⟨s1, s2, s3⟩ := hs e
    have hu := (h3 e).1
    by_cases e' : (k : Int) < n
    · have e2 : ¬ n ≤ (k : Int) := by omega
      rw [decide_eq_true e'] at s1
      obtain ⟨q1, q2⟩ := s2 e'
      have e3 : ¬ n < (k : Int) + 1 := by omega
      simp [St.flush, hu, s1, e2, Armed, St.some, applied_length, h1, q1, q2, e3]
    · have e2 : n ≤ (k : Int) := by omega
      rw [decide_eq_false e'] at s1
      have e3 : ¬ (k : Int) + 1 ≤ n := by omega
      simp [St.flush, hu, s1, e2, Armed, h1, s3 e2, e3]
      omega
  · have hu := h4 (by omega)
    have e2 : n ≤ (k : Int) := by omega
    have e3 : ¬ (k : Int) + 1 ≤ n := by omega
    simp [St.flush, hu, e2, Armed, h1, e3]
    omega
theorem armed_write {n : Int} {k : Nat} {s : St} (h : Armed n k s) (x : Int) : (s.write 0 [x]).1 = (if n ≤ (k : Int) then 10 else 0) ∧ Armed n (k + 1) (s.write 0 [x]).2 := by
  have hs := armed_spend h
  obtain ⟨h1, h2, h3, h4⟩ := h
  by_cases e : (k : Int) ≤ n
  · obtain ⟨s1, s2, s3⟩ := hs e
    have hu := (h3 e).1
    by_cases e' : (k : Int) < n
    · have e2 : ¬ n ≤ (k : Int) := by omega
      rw [decide_eq_true e'] at s1
      obtain ⟨q1, q2⟩ := s2 e'
      have e3 : ¬ n < (k : Int) + 1 := by omega
      simp [St.write, hu, s1, e2, Armed, h1, q1, q2, e3, h2]
    · have e2 : n ≤ (k : Int) := by omega
      rw [decide_eq_false e'] at s1
      have e3 : ¬ (k : Int) + 1 ≤ n := by omega
      simp [St.write, hu, s1, e2, Armed, h1, s3 e2, e3]
      omega
  · have hu := h4 (by omega)
    have e2 : n ≤ (k : Int) := by omega
    have e3 : ¬ (k : Int) + 1 ≤ n := by omega
    simp [St.write, hu, e2, Armed, h1, e3]
    omega
theorem armed_end {n : Int} {k : Nat} {s : St} (h : Armed n k s) : (s.crash []).2.up = true ∧ ((s.crash []).2.write 0 [1]).1 = 0 ∧ (s.crash []).2.P.length < 1000000 := by
  obtain ⟨h1, _⟩ := h
  simp [St.crash, St.write, St.spend, St.some, applied_length, h1]

set_option maxRecDepth 100000 in
set_option maxHeartbeats 1000000 in
theorem arms_walk (w : World) (n : Int) (v : Value) (x : List Bool) (hn : n ≤ 9223372036854775807) (hx : BoolsIn w (fun k => k < w.heap.size) v x) (hl : x.length ≤ 9223372036854775807) :
    Calls Try.prog 7 #[.int .i64 n, v] w fun e w' => e = .returned (.bool true) ∧ Below w.heap.size w w' := by
  obtain ⟨i5, hi5, hz5, hs5, hb5⟩ := info_parts info5z
  have Hi := hid hi5; have Hz := hid hz5; have Hs := hid hs5
  clear hi5 hz5 hs5 hb5
  obtain ⟨a, len, cap, rfl, hlen, -⟩ := id hx
  have hlm : (len : Int) ≤ 9223372036854775807 := by omega
  have HX := hid hx; have HL := hid hlen; have HN := hid hn
  clear hx hl hn hlen
  go_enter Try.func7, Try.ntmps7
  go_wp2_with fail
  refine (awake_any _).mono ?_
  rintro e w1 ⟨rfl, hf1⟩
  have HF1 := hid hf1
  clear hf1
  go_wp2_with fail
  refine (ow_new (w0 := w) 1 (by decide) (by decide) HF1.out).mono ?_
  rintro e w2 ⟨bd, rfl, ho2, -⟩
  have HO2 : Hid (Ow w No w2 bd (St.new 1)) := hid ho2
  clear ho2
  go_wp2_with fail
  refine (ow_arm (s := St.new 1) n HN.out HO2.out).mono ?_
  rintro e w3 ⟨rfl, ho3, -⟩
  have HO3 := hid ho3
  clear ho3
  by_cases h0 : n < 0
  · have e1 : ((St.new 1).arm n).1 = 1 := by simp [St.arm, h0]
    rw [e1]
    go_wp2
    go_ret
    exact ⟨rfl, HO3.out.below⟩
  · have e1 : ((St.new 1).arm n).1 = 0 := by simp [St.arm, h0, St.new]
    rw [e1]
    have hge : 0 ≤ n := by omega
    have HAr := hid (armed_start hge)
    clear e1
    go_wp2_with fail
    go_loopw [9] (fun i wr => ∃ k : Nat, k ≤ len ∧ k ≤ 100 ∧ i = .int .i64 k ∧ ∃ Kp s, Hid (Ow w Kp wr bd s) ∧ Hid (Armed n k s)) (fun i _ => 100 - (intOf i).toNat)
    case atStart => exact ⟨0, Nat.zero_le _, by omega, rfl, No, _, HO3, HAr⟩
    case round =>
      obtain ⟨k, hk, hk2, rfl, Kp, s, HO, HA⟩ := hrel
      clear HAr
      by_cases hlt : k < len ∧ k < 100
      · obtain ⟨hl1, hl2⟩ := hlt
        have hk0 : (0 : Int) ≤ k := by omega
        have hk1 : (k : Int) < len := by omega
        have hk3 : (k : Int) < 100 := by omega
        obtain ⟨bit, hbit⟩ : ∃ y, x[k]? = some y := ⟨x[k]'(by rw [HL.out]; exact hl1), List.getElem?_eq_getElem _⟩
        obtain ⟨a', len', cap', e1, _, hr⟩ := HX.out.fr HO.out.fr (fun _ _ _ e => e)
        simp only [Value.slice.injEq] at e1
        obtain ⟨rfl, rfl, rfl⟩ := e1
        obtain ⟨g, o, rfl, hg, _, hr⟩ := hr.resolve_left (by omega)
        go_wp2_with fail
        refine (ow_read 0 HO.out).mono ?_
        rintro e w4 ⟨v4, rfl, -, ho4, hf4⟩
        have hc : w4.cell? ⟨g, o + k, none⟩ = some (.bool bit) := (hf4.range hr id) k _ (by simp [hbit])
        have HO4 := hid ho4
        clear ho4 hf4 hr
        have HP : Hid (s.P.length < 1000000) := hid (by have := HA.out.2.1; omega)
        have HSp : (k : Int) < n ∨ (k : Int) = n ∨ n < (k : Int) := by omega
        rcases HSp with hsp | hsp | hsp
        · have HRd : Hid ((s.read 0).2 = 0) := hid (by rw [armed_read HA.out]; simp; omega)
          have HW : ∀ y, Hid ((s.write 0 [y]).1 = 0 ∧ Armed n (k + 1) (s.write 0 [y]).2) := fun y => hid (by rw [(armed_write HA.out y).1]; exact ⟨by simp; omega, (armed_write HA.out y).2⟩)
          have HFl : Hid (s.flush.1 = 0 ∧ Armed n (k + 1) s.flush.2) := hid (by rw [(armed_flush HA.out).1]; exact ⟨by simp; omega, (armed_flush HA.out).2⟩)
          rw [HRd.out]
          have c0 : (k : Int) ≤ n := by omega
          have c1 : ¬ n ≤ (k : Int) := by omega
          have c2 : ¬ n < (k : Int) := by omega
          cases bit
          · go_wp2_with ((with_reducible show wpList _ _ _ ({ dst := _, op := .buildSlice 32 _ _, type := _, pos := _, after := _, guard := _ } :: _) _ _); refine wpL_buildOne rfl _ 5 _ rfl i5 _ rfl Hi.out Hz.out (by rw [Hs.out]; decide) (by rw [Hs.out]; decide) _ [.int .u8 _] rfl rfl (by rw [Hs.out]; rfl) ?_; intro w5 HB5 HF5 HS5)
            refine (ow_write 0 _ [_] _ (HO4.out.more HF5.out) (bytes_new HB5.out) (fun k hk => .inr hk) HP.out).mono ?_
            rintro e w6 ⟨rfl, ho6, -⟩
            have HO6 := hid ho6
            clear ho6
            rw [(HW _).out.1]
            go_wp2
            exact ⟨⟨k + 1, by omega, by omega, by go_num, _, _, HO6, hid (HW _).out.2⟩, by simp [intOf]; omega⟩
          · go_wp2_with fail
            refine (ow_flush HO4.out).mono ?_
            rintro e w6 ⟨rfl, ho6, -⟩
            have HO6 := hid ho6
            clear ho6
            rw [HFl.out.1]
            go_wp2
            exact ⟨⟨k + 1, by omega, by omega, by go_num, _, _, HO6, hid HFl.out.2⟩, by simp [intOf]; omega⟩
        · have HRd : Hid ((s.read 0).2 = 0) := hid (by rw [armed_read HA.out]; simp; omega)
          have HW : ∀ y, Hid ((s.write 0 [y]).1 = 10 ∧ Armed n (k + 1) (s.write 0 [y]).2) := fun y => hid (by rw [(armed_write HA.out y).1]; exact ⟨by simp; omega, (armed_write HA.out y).2⟩)
          have HFl : Hid (s.flush.1 = 10 ∧ Armed n (k + 1) s.flush.2) := hid (by rw [(armed_flush HA.out).1]; exact ⟨by simp; omega, (armed_flush HA.out).2⟩)
          rw [HRd.out]
          clear HRd
          subst hsp
          cases bit
          · go_wp2_with ((with_reducible show wpList _ _ _ ({ dst := _, op := .buildSlice 32 _ _, type := _, pos := _, after := _, guard := _ } :: _) _ _); refine wpL_buildOne rfl _ 5 _ rfl i5 _ rfl Hi.out Hz.out (by rw [Hs.out]; decide) (by rw [Hs.out]; decide) _ [.int .u8 _] rfl rfl (by rw [Hs.out]; rfl) ?_; intro w5 HB5 HF5 HS5)
            refine (ow_write 0 _ [_] _ (HO4.out.more HF5.out) (bytes_new HB5.out) (fun k hk => .inr hk) HP.out).mono ?_
            rintro e w6 ⟨rfl, ho6, -⟩
            have HO6 := hid ho6
            clear ho6
            rw [(HW _).out.1]
            go_wp2
            exact ⟨⟨k + 1, by omega, by omega, by go_num, _, _, HO6, hid (HW _).out.2⟩, by simp [intOf]; omega⟩
          · go_wp2_with fail
            refine (ow_flush HO4.out).mono ?_
            rintro e w6 ⟨rfl, ho6, -⟩
            have HO6 := hid ho6
            clear ho6
            rw [HFl.out.1]
            go_wp2
            exact ⟨⟨k + 1, by omega, by omega, by go_num, _, _, HO6, hid HFl.out.2⟩, by simp [intOf]; omega⟩
        · have HRd : Hid ((s.read 0).2 = 10) := hid (by rw [armed_read HA.out]; simp; omega)
          have HW : ∀ y, Hid ((s.write 0 [y]).1 = 10 ∧ Armed n (k + 1) (s.write 0 [y]).2) := fun y => hid (by rw [(armed_write HA.out y).1]; exact ⟨by simp; omega, (armed_write HA.out y).2⟩)
          have HFl : Hid (s.flush.1 = 10 ∧ Armed n (k + 1) s.flush.2) := hid (by rw [(armed_flush HA.out).1]; exact ⟨by simp; omega, (armed_flush HA.out).2⟩)
          rw [HRd.out]
          have c0 : ¬ (k : Int) ≤ n := by omega
          have c1 : n ≤ (k : Int) := by omega
          have c2 : n < (k : Int) := by omega
          cases bit
          · go_wp2_with ((with_reducible show wpList _ _ _ ({ dst := _, op := .buildSlice 32 _ _, type := _, pos := _, after := _, guard := _ } :: _) _ _); refine wpL_buildOne rfl _ 5 _ rfl i5 _ rfl Hi.out Hz.out (by rw [Hs.out]; decide) (by rw [Hs.out]; decide) _ [.int .u8 _] rfl rfl (by rw [Hs.out]; rfl) ?_; intro w5 HB5 HF5 HS5)
            refine (ow_write 0 _ [_] _ (HO4.out.more HF5.out) (bytes_new HB5.out) (fun k hk => .inr hk) HP.out).mono ?_
            rintro e w6 ⟨rfl, ho6, -⟩
            have HO6 := hid ho6
            clear ho6
            rw [(HW _).out.1]
            go_wp2
            exact ⟨⟨k + 1, by omega, by omega, by go_num, _, _, HO6, hid (HW _).out.2⟩, by simp [intOf]; omega⟩
          · go_wp2_with fail
            refine (ow_flush HO4.out).mono ?_
            rintro e w6 ⟨rfl, ho6, -⟩
            have HO6 := hid ho6
            clear ho6
            rw [HFl.out.1]
            go_wp2
            exact ⟨⟨k + 1, by omega, by omega, by go_num, _, _, HO6, hid HFl.out.2⟩, by simp [intOf]; omega⟩
      · have HE := hid (armed_end HA.out)
        have HSp : ((k : Int) < len ∧ ¬ (k : Int) < 100) ∨ ¬ (k : Int) < len := by omega
        clear hlt
        rcases HSp with ⟨hl1, hl2⟩ | hl1
        all_goals
          go_wp2_with fail
          refine (ow_crash (.slice none 0 0) [] (fun k => k < w.heap.size) HO.out ⟨none, 0, 0, rfl, rfl, .inl rfl⟩ (fun k hk => .inl hk) (by decide)).mono ?_
          rintro e w5 ⟨rfl, ho5, -⟩
          have HO5 := hid ho5
          clear ho5
          go_wp2_with fail
          refine (ow_up HO5.out).mono ?_
          rintro e w' ⟨rfl, rfl⟩
          rw [HE.out.1]
          go_wp2_with ((with_reducible show wpList _ _ _ ({ dst := _, op := .buildSlice 32 _ _, type := _, pos := _, after := _, guard := _ } :: _) _ _); refine wpL_buildOne rfl _ 5 _ rfl i5 _ rfl Hi.out Hz.out (by rw [Hs.out]; decide) (by rw [Hs.out]; decide) _ [.int .u8 1] rfl rfl (by rw [Hs.out]; rfl) ?_; intro w6 HB6 HF6 HS6)
          refine (ow_write 0 _ [1] _ (HO5.out.more HF6.out) (bytes_new HB6.out) (fun k hk => .inr hk) HE.out.2.2).mono ?_
          rintro e w7 ⟨rfl, ho7, -⟩
          have HO7 := hid ho7
          clear ho7
          rw [HE.out.2.1]
          go_wp2
          go_ret
          exact ⟨rfl, HO7.out.below⟩
end Go.Proofs.Ytjlellehlcidnaa.D
