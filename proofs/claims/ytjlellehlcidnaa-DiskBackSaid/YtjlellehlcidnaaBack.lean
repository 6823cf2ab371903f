/-
  The law DiskBack: its program returns true and writes nothing that was there.
-/
import Derived.Test.YtjlellehlcidnaaAwake
import Derived.Deep.QuietTactic
import Derived.BigQuiet
namespace Go.Proofs.Ytjlellehlcidnaa.D
open Go.RowKit K

theorem back_ok {s : St} {n : Int} {b : List Int} (h : (s.write n b).1 = 0) : 0 ≤ n ∧ n < s.L.length ∧ b.length ≤ 64 ∧ s.up = true ∧ (s.write n b).2.up = true ∧ (s.write n b).2.P = s.P ++ [(n.toNat, pad b)] ∧ (s.write n b).2.L = s.L := by
  by_cases h1 : s.up = false
  · simp [St.write, h1] at h
  · by_cases h2 : 0 ≤ n ∧ n < s.L.length
    · by_cases h3 : 64 < b.length
      · simp [St.write, h1, h2, h3] at h
      · by_cases h4 : s.spend.1 = false
        · simp [St.write, h1, h2, h3, h4] at h
        · have h5 : s.up = true := by simpa using h1
          have h6 : s.spend.2.up = true := by
            unfold St.spend at h4 ⊢
            (repeat' split) <;> simp_all
          refine ⟨h2.1, h2.2, by omega, h5, ?_⟩
          simp [St.write, h1, h2, h3, h4, h6]
    · rw [St.write, if_neg h1, if_pos h2] at h
      simp at h
theorem now_append (P : List (Nat × List Int)) (q : Nat × List Int) (n : Nat) (l : List Int) : now (P ++ [q]) n l = if q.1 = n then q.2 else now P n l := by
  simp [now, List.foldl_append]
theorem back_read {s : St} {n : Int} {b : List Int} (h : (s.write n b).1 = 0) : (s.write n b).2.read n = (pad b, 0) := by
  obtain ⟨h1, h2, h3, h4, h5, h6, h7⟩ := back_ok h
  have h8 : n.toNat < s.L.length := by omega
  unfold St.read
  simp [h5, h6, h7, h1, now_append, List.getElem?_eq_getElem h8]
theorem back_other {s : St} {n m : Int} {b : List Int} (h : (s.write n b).1 = 0) (hm : n ≠ m) : (s.write n b).2.read m = s.read m := by
  obtain ⟨h1, h2, h3, h4, h5, h6, h7⟩ := back_ok h
  unfold St.read
  by_cases h0 : 0 ≤ m
  · have : ¬ n.toNat = m.toNat := by omega
    simp [h5, h6, h7, h4, now_append, this]
  · simp [h5, h4, h0]
theorem back_err {s : St} {n m : Int} {b : List Int} (h : (s.write n b).1 = 0) : ((s.write n b).2.read m).2 = (s.read m).2 := by
  by_cases hm : n = m
  · subst hm
    rw [back_read h]
    obtain ⟨h1, h2, h3, h4, _⟩ := back_ok h
    have h8 : n.toNat < s.L.length := by omega
    unfold St.read
    simp [h4, h1, List.getElem?_eq_getElem h8]
  · rw [back_other h hm]
theorem pad_in {b : List Int} {k : Nat} {x : Int} (hx : b[k]? = some x) : (pad b)[k]? = some x := by
  rw [pad, List.getElem?_append_left (List.getElem?_eq_some_iff.1 hx).1]; exact hx
theorem pad_out {b : List Int} {k : Nat} (h1 : b.length ≤ k) (h2 : k < 64) : (pad b)[k]? = some 0 := by
  rw [pad, List.getElem?_append_right h1, List.getElem?_replicate, if_pos (by omega)]

set_option maxRecDepth 100000 in
set_option maxHeartbeats 1000000 in
theorem back_walk (w : World) (v0 : Value) (x0 : List Actd) (n1 : Int) (v2 : Value) (x2 : List Int) (n3 : Int) (hx0 : ActsIn w w.heap.size v0 x0) (_ : n1 ≤ 9223372036854775807) (hx2 : BytesIn w (fun k => k < w.heap.size) v2 x2) (hl2 : x2.length ≤ 9223372036854775807) (_ : n3 ≤ 9223372036854775807) :
    Calls Try.prog 4 #[v0, .int .i64 n1, v2, .int .i64 n3] w fun e w' => e = .returned (.bool true) ∧ Below w.heap.size w w' := by
  obtain ⟨ab, lb, cb, rfl, hlb, -⟩ := id hx2
  have hlm : (lb : Int) ≤ 9223372036854775807 := by omega
  have HX := hid hx0; have H2 := hid hx2; have HL2 := hid hlb
  clear hx0 hx2 hl2 hlb
  go_enter Try.func4, Try.ntmps4
  go_wp2_with fail
  refine (awake_any _).mono ?_
  rintro e w1 ⟨rfl, hf1⟩
  have HF1 := hid hf1
  clear hf1
  have hb1 : Below w.heap.size w w1 := HF1.out.below (fun _ e => e.elim) (Nat.le_refl _)
  have HB1 := hid hb1; clear hb1
  go_wp2_with fail
  refine (played_any w.heap.size w1 v0 x0 HF1.out.size (HX.out.later HB1.out)).mono ?_
  intro e w2 hpl
  unfold Played at hpl
  obtain ⟨bd, br, s, rfl, ht, hP, hL, hb2⟩ := hpl
  have how := two_ow ht (HB1.out.trans hb2)
  have HO2 := hid how; have HL := hid hL; have HP := hid hP
  clear ht hP hL hb2 how
  go_wp2_with fail
  refine (ow_read n3 HO2.out).mono ?_
  rintro e w3 ⟨v3, rfl, hv3, ho3, -⟩
  have HV3 := hid hv3; have HO3 := hid ho3
  obtain ⟨a3, l3, c3, rfl, -⟩ := hv3
  clear ho3
  go_wp2_with fail
  refine (ow_write n1 _ x2 (fun k => k < w.heap.size) HO3.out (H2.out.fr HO3.out.fr (fun _ _ _ e => e)) (fun k hk => .inl hk) (by have := HP.out; omega)).mono ?_
  rintro e w4 ⟨rfl, ho4, hf4⟩
  have HO4 := hid ho4; have HV4 := hid (HV3.out.ap hf4 (fun k hk => .inr hk))
  clear ho4 hf4
  by_cases hz : (s.write n1 x2).1 = 0
  · have HRn := hid (back_read hz)
    have HRo : Hid (n1 ≠ n3 → (s.write n1 x2).2.read n3 = s.read n3) := hid (back_other hz)
    have HRe : Hid (((s.write n1 x2).2.read n3).2 = (s.read n3).2) := hid (back_err hz)
    have HOk := hid (back_ok hz)
    rw [hz]
    clear hz
    generalize (s.write n1 x2).2 = s2 at HO4 HRn HRo HRe
    go_wp2_with fail
    refine (ow_read n1 HO4.out).mono ?_
    rintro e w5 ⟨v5, rfl, hv5, ho5, hf5⟩
    rw [HRn.out] at hv5 ⊢
    have HV5 := hid hv5; have HO5 := hid ho5; have HV45 := hid (HV4.out.fr hf5 (fun _ _ _ e => e))
    obtain ⟨a5, l5, c5, rfl, hl5, hr5⟩ := hv5
    rw [pad_length HOk.out.2.2.1] at hl5
    subst hl5
    obtain ⟨g5, o5, rfl, -⟩ := hr5.resolve_left (by decide)
    clear ho5 hf5
    go_wp2_with fail
    refine (ow_read n3 HO5.out).mono ?_
    rintro e w6 ⟨v6, rfl, hv6, ho6, hf6⟩
    rw [HRe.out]
    have HV6 := hid hv6; have HO6 := hid ho6; have HV56 := hid (HV5.out.fr hf6 (fun _ _ _ e => e)); have HV46 := hid (HV45.out.fr hf6 (fun _ _ _ e => e))
    obtain ⟨a6, l6, c6, rfl, -⟩ := hv6
    clear ho6 hf6
    have hb64 : ¬ ((64 : Int) < lb) := by have := HOk.out.2.2.1; have := HL2.out; omega
    go_wp2_with fail
    go_loopw [19] (fun i wr => ∃ k : Nat, k ≤ 64 ∧ i = .int .i64 k ∧ Hid (Fr No w6 wr)) (fun i _ => 64 - (intOf i).toNat)
    case atStart => exact ⟨0, by decide, rfl, hid (Fr.refl _ _)⟩
    case round =>
      obtain ⟨k, hk, rfl, HFr⟩ := hrel
      by_cases hlt : k < 64
      · have hk0 : (0 : Int) ≤ k := by omega
        have hk1 : (k : Int) < 64 := by omega
        obtain ⟨a5', l5', c5', e5, _, hr5⟩ := HV56.out
        simp only [Value.slice.injEq] at e5
        obtain ⟨rfl, rfl, rfl⟩ := e5
        obtain ⟨g5', o5', e5, _, _, hr5⟩ := hr5.resolve_left (by decide)
        simp only [Option.some.injEq, Addr.mk.injEq] at e5
        obtain ⟨rfl, rfl, _⟩ := e5
        by_cases hin : k < lb
        · obtain ⟨y, hy⟩ : ∃ y, x2[k]? = some y := ⟨x2[k]'(by rw [HL2.out]; exact hin), List.getElem?_eq_getElem _⟩
          obtain ⟨a2', l2', c2', e2, _, hr2⟩ := H2.out.fr (HO6.out.fr.trans' HFr.out) (fun _ _ _ e => e)
          simp only [Value.slice.injEq] at e2
          obtain ⟨rfl, rfl, rfl⟩ := e2
          obtain ⟨g2, o2, rfl, _, _, hr2⟩ := hr2.resolve_left (by omega)
          have c5 : wr.cell? ⟨g5, o5 + k, none⟩ = some (.int .u8 y) := HFr.out.cell (hr5 k _ (by simp [u8s, pad_in hy])) id
          have c2 : wr.cell? ⟨g2, o2 + k, none⟩ = some (.int .u8 y) := hr2 k _ (by simp [u8s, hy])
          have hin1 : (k : Int) < lb := by omega
          have hin2 : decide (lb ≤ k) = false := by simp; omega
          clear hr5 hr2 hy
          go_wp2_with fail
          go_quiet (fail)
          go_wp2
          exact ⟨⟨k + 1, by omega, by go_num, hid (HFr.out.drewN _)⟩, by simp [intOf]; omega⟩
        · have c5 : wr.cell? ⟨g5, o5 + k, none⟩ = some (.int .u8 0) := HFr.out.cell (hr5 k _ (by have := HL2.out; simp [u8s, pad_out (b := x2) (k := k) (by omega) hlt])) id
          have hin1 : decide (k < lb) = false := by simp; omega
          have hin2 : decide (lb ≤ k) = true := by simp; omega
          have hin3 : decide ((k : Int) < lb) = false := by simp; omega
          have hin4 : (lb : Int) ≤ k := by omega
          clear hr5
          go_wp2_with fail
          go_quiet (fail)
          go_wp2
          exact ⟨⟨k + 1, by omega, by go_num, hid (HFr.out.drewN _)⟩, by simp [intOf]; omega⟩
      · have hk1 : ¬ ((k : Int) < 64) := by omega
        have HV3' := hid (HV46.out.fr HFr.out (fun _ _ _ e => e))
        have HV6' := hid (HV6.out.fr HFr.out (fun _ _ _ e => e))
        have HLn := hid (len_read s n3 HO2.out.ok)
        go_wp2_with fail
        refine (same_any _ _ _ _ _ _ _ HV3'.out HV6'.out HLn.out).mono ?_
        rintro e w9 ⟨rfl, hf9⟩
        have HF9 := hid hf9
        clear hf9
        by_cases hne : n1 = n3
        · subst hne
          go_wp2
          go_ret
          exact ⟨by simp, HO6.out.below.trans ((HFr.out.trans' HF9.out).below (fun _ e => e.elim) HO6.out.fr.size)⟩
        · have he : (n1 == n3) = false := by simp [hne]
          rw [HRo.out hne]
          simp only [decide_true]
          go_wp2
          go_ret
          exact ⟨by simp, HO6.out.below.trans ((HFr.out.trans' HF9.out).below (fun _ e => e.elim) HO6.out.fr.size)⟩
  · generalize (s.write n1 x2).1 = r at hz
    have hne : (r == 0) = false := by simp [hz]
    have hne' : (r != 0) = true := by simp [hz]
    clear hz
    go_wp2
    go_ret
    exact ⟨rfl, HO4.out.below⟩
end Go.Proofs.Ytjlellehlcidnaa.D
