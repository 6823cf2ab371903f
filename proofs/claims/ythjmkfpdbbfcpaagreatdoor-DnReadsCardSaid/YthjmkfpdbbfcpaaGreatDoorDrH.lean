/-
  The document's Shaped.
-/
import Derived.Test.YthjmkfpdbbfcpaaGreatDoorDrS
import Derived.Test.YthjmkfpdbbfcpaaGreatDoorDnG
import Derived.Test.YthjmkfpdbbfcpaaGreatDoorDzA
set_option linter.unusedVariables false
set_option linter.unusedSimpArgs false
namespace Go.Proofs.YthjmkfpdbbfcpaaGreatDoor.DN
set_option maxRecDepth 100000
open Go.RowKit K Go.Proofs.YthjmkfpdbbfcpaaGreatDoor.BE

theorem typs_app : ∀ (r seen : Rd), typs seen r = true ↔ ∀ (k : Nat) (a : Av), r[k]? = some a → typ a.1 = true ∧ dup (seen ++ r.take k) a.1 = false
  | [], seen => by simp [typs]
  | b :: r, seen => by
    unfold typs
    simp only [Bool.and_eq_true, Bool.not_eq_true', typs_app r]
    constructor
    · rintro ⟨⟨h1, h2⟩, h3⟩ k a hk
      cases k with
      | zero =>
        obtain rfl : b = a := by simpa using hk
        exact ⟨h1, by simpa using h2⟩
      | succ k =>
        have := h3 k a (by simpa using hk)
        simpa [List.append_assoc] using this
    · intro h
      refine ⟨⟨(h 0 b rfl).1, by simpa using (h 0 b rfl).2⟩, fun k a hk => ?_⟩
      have := h (k + 1) a (by simpa using hk)
      simpa [List.append_assoc] using this
theorem typs_at {r : Rd} : typs [] r = true ↔ ∀ (k : Nat) (a : Av), r[k]? = some a → typ a.1 = true ∧ ∀ (j : Nat) (b : Av), j < k → r[j]? = some b → low a.1 ≠ low b.1 := by
  rw [typs_app]
  refine forall_congr' fun k => forall_congr' fun a => forall_congr' fun hk => and_congr Iff.rfl ?_
  simp only [List.nil_append, dup, List.any_eq_false, beq_iff_eq]
  constructor
  · intro h j b hj hb e
    refine h b ?_ e.symm
    refine List.mem_of_getElem? (i := j) ?_
    rw [List.getElem?_take, if_pos hj]
    exact hb
  · intro h b hb e
    obtain ⟨j, hj, rfl⟩ := List.mem_iff_getElem.1 hb
    rw [List.length_take] at hj
    refine h j _ (by omega) (by rw [List.getElem?_eq_getElem (by omega)]) ?_
    rw [List.getElem_take] at e
    exact e.symm
theorem okStep_at {r : Rd} : okStep r = true ↔ 1 ≤ r.length ∧ r.length ≤ 4 ∧ ∀ (k : Nat) (a : Av), r[k]? = some a → typ a.1 = true ∧ ∀ (j : Nat) (b : Av), j < k → r[j]? = some b → low a.1 ≠ low b.1 := by
  unfold okStep
  simp only [Bool.and_eq_true, decide_eq_true_eq, typs_at, and_assoc]
theorem built_at {n : Nm} : built n = true ↔ n.length ≤ 16 ∧ ∀ (i : Nat) r, n[i]? = some r → okStep r = true := by
  unfold built
  simp only [Bool.and_eq_true, decide_eq_true_eq, List.all_eq_true]
  refine and_congr Iff.rfl ⟨fun h i r hr => h r (List.mem_of_getElem? hr), fun h r hr => ?_⟩
  obtain ⟨i, hi, rfl⟩ := List.mem_iff_getElem.1 hr
  exact h i _ (List.getElem?_eq_getElem hi)
set_option maxHeartbeats 32000000 in
theorem shaped_any (E : Nat → Prop) (v : Value) (n : Nm) (w : World) (h : NmIn E w v n) (hb : ∀ r ∈ n, ∀ a ∈ r, a.1.length ≤ 1048576) : Calls Tryz.prog 17 #[v] w fun e w' => e = .returned (.bool (built n)) ∧ Fr No w w' := by
  obtain ⟨a0, cp, rfl, -, hl0⟩ := h.form
  have HX := hid h
  have HB := hid hb
  obtain ⟨N, hn⟩ : ∃ N, n.length = N := ⟨_, rfl⟩
  obtain ⟨R, hR⟩ : ∃ R, built n = R := ⟨_, rfl⟩
  rw [hR]
  rw [hn] at HX hl0 ⊢
  have HN := hid hn; have HR := hid hR
  have hni : (N : Int) ≤ 140737488351232 := by omega
  clear h hb hn hR hl0
  go_enter Tryz.func17, Tryz.ntmps17
  go_wp2_with fail
  go_loopw [3] (fun iv wr => ∃ (i : Nat), iv = .int .i64 i ∧ i ≤ N ∧ Hid (Fr No w wr) ∧ Hid (∀ j r, j < i → n[j]? = some r → okStep r = true)) (fun iv _ => N - (intOf iv).toNat)
  case atStart => exact ⟨0, rfl, Nat.zero_le _, hid (Fr.refl _ _), hid fun j r hj _ => by omega⟩
  case round =>
    obtain ⟨i, rfl, hi, HF, HA⟩ := hrel
    by_cases hlt : i < N
    · obtain ⟨r, hr⟩ : ∃ r, n[i]? = some r := ⟨_, List.getElem?_eq_getElem (by rw [HN.out]; exact hlt)⟩
      have hlti : (i : Int) < N := by omega
      have hi0 : (0 : Int) ≤ i := by omega
      obtain ⟨g, o, cq, c, e1, -, hgw, hrr, hc, hxa⟩ := (NmIn.no HX.out HF.out).get hr
      rw [HN.out] at e1
      simp only [Value.slice.injEq, true_and] at e1
      obtain ⟨rfl, rfl⟩ := e1
      obtain ⟨vr, rfl, hvr⟩ := hxa
      have hcell : wr.cell? ⟨g, o + i, none⟩ = some vr := by have := hrr 0 vr rfl; simpa using this
      obtain ⟨ra, rc, rfl, hrc, hrl0⟩ := Sl.form hvr
      obtain ⟨rl, hrl⟩ : ∃ rl, r.length = rl := ⟨_, rfl⟩
      have HRL := hid hrl
      rw [hrl] at hcell hvr hrl0 hrc
      have HVR := hid hvr
      have HCE : Hid (∀ W, Fr No wr W → W.cell? ⟨g, o + i, none⟩ = some (.slice ra rl rc)) := hid fun W hf => hf.cell hcell id
      have hrli : (rl : Int) ≤ 140737488351232 := by omega
      have HMEM : Hid (r ∈ n) := hid (List.mem_of_getElem? hr)
      have HBAD : Hid (okStep r = false → R = false) := hid (fun h => by
        rw [← HR.out]
        cases ht : built n with
        | false => rfl
        | true => rw [(built_at.1 ht).2 i r hr] at h; cases h)
      have HGOOD : Hid (okStep r = true → ∀ j r, j < i + 1 → n[j]? = some r → okStep r = true) := hid (fun h j q hj hq => by
        by_cases hji : j = i
        · subst hji
          rw [hr] at hq
          obtain rfl := Option.some.inj hq
          exact h
        · exact HA.out j q (by omega) hq)
      have HLT := hid hlt
      clear hrr hc hgw hvr hr hrl hlt hi hrl0 hrc
      by_cases h1 : 1 ≤ rl
      · by_cases h4 : rl ≤ 4
        · have h1i : ¬ (rl : Int) < 1 := by omega
          have h4i : ¬ (4 : Int) < rl := by omega
          have H14 : Hid (1 ≤ rl ∧ rl ≤ 4) := hid ⟨h1, h4⟩
          clear h1 h4
          go_wp2_with fail
          have HFR := HF
          obtain ⟨W0, hW0⟩ : ∃ W0, wr = W0 := ⟨_, rfl⟩
          rw [hW0] at HF HCE HVR hcell ⊢
          clear hW0
          go_loopw [4] (fun kv wr2 => ∃ (k : Nat), kv = .int .i64 k ∧ k ≤ rl ∧ Hid (Fr No W0 wr2) ∧ Hid (∀ (k' : Nat) (a : Av), k' < k → r[k']? = some a → typ a.1 = true ∧ ∀ (j : Nat) (b : Av), j < k' → r[j]? = some b → low a.1 ≠ low b.1)) (fun kv _ => rl - (intOf kv).toNat)
          case atStart => exact ⟨0, rfl, Nat.zero_le _, hid (Fr.refl _ _), hid fun j r hj _ => by omega⟩
          case round =>
            obtain ⟨k, rfl, hk, HF2, HA2⟩ := hrel
            have hce : wr.cell? ⟨g, o + i, none⟩ = some (.slice ra rl rc) := HCE.out wr HF2.out
            by_cases hlk : k < rl
            · obtain ⟨a, ha⟩ : ∃ a, r[k]? = some a := ⟨_, List.getElem?_eq_getElem (by rw [HRL.out]; exact hlk)⟩
              have hlki : (k : Int) < rl := by omega
              have hk0 : (0 : Int) ≤ k := by omega
              obtain ⟨gr, og, cqr, cr, e2, -, -, hrr2, -, hxa2⟩ := HVR.out.get ha
              rw [HRL.out] at e2
              simp only [Value.slice.injEq, true_and] at e2
              obtain ⟨rfl, rfl⟩ := e2
              obtain ⟨rfl, hsz1, -⟩ := hxa2
              have HFA : Hid (∀ W, Fr No W0 W → W.cell? ⟨gr, og + k * 2, none⟩ = some (.string (sb a.1))) := hid fun W hf => hf.cell (by have := hrr2 0 (.string (sb a.1)) rfl; simpa using this) id
              have hca : wr.cell? ⟨gr, og + k * 2, none⟩ = some (.string (sb a.1)) := HFA.out wr HF2.out
              have HRJ : Hid (∀ (j : Nat) (b : Av), r[j]? = some b → ∀ W, Fr No W0 W → W.cell? ⟨gr, og + j * 2, none⟩ = some (.string (sb b.1))) := hid fun j b hj W hf => by
                obtain ⟨g3, o3, cq3, c3, e3, -, -, hrr3, -, hxa3⟩ := HVR.out.get hj
                rw [HRL.out] at e3
                simp only [Value.slice.injEq, true_and, Option.some.injEq, Addr.mk.injEq, and_true] at e3
                obtain ⟨⟨rfl, rfl⟩, rfl⟩ := e3
                obtain ⟨rfl, -, -⟩ := hxa3
                exact hf.cell (by have := hrr3 0 (.string (sb b.1)) rfl; simpa using this) id
              have HBa : Hid (a.1.length ≤ 1048576) := hid (HB.out r HMEM.out a (List.mem_of_getElem? ha))
              have HBb : Hid (∀ b ∈ r, b.1.length ≤ 1048576) := hid fun b hb => HB.out r HMEM.out b hb
              have HAK := hid ha
              have HLK := hid hlk
              have HTY := hid (fun W => rType_any a.1 hsz1 W)
              obtain ⟨T, hT⟩ : ∃ T, typ a.1 = T := ⟨_, rfl⟩
              rw [hT] at HTY
              have HTE := hid hT
              clear hrr2 ha hlk hk hT
              go_wp2_with fail
              refine (HTY.out _).mono ?_
              rintro e wX ⟨rfl, rfl⟩
              cases T with
              | false =>
                obtain rfl := HBAD.out (by
                  cases ho : okStep r with
                  | false => rfl
                  | true => have := ((okStep_at.1 ho).2.2 k a HAK.out).1; rw [HTE.out] at this; cases this)
                go_wp2_with fail
                go_ret
                exact ⟨rfl, HF.out.trans' HF2.out⟩
              | true =>
                go_wp2_with fail
                clear hca hce
                obtain ⟨W1, hW1⟩ : ∃ W1, wX = W1 := ⟨_, rfl⟩
                rw [hW1] at HF2 ⊢
                clear hW1
                go_loopw [6] (fun jv wr3 => ∃ (j : Nat), jv = .int .i64 j ∧ j ≤ k ∧ Hid (Fr No W0 wr3) ∧ Hid (∀ (j' : Nat) (b : Av), j' < j → r[j']? = some b → low a.1 ≠ low b.1)) (fun jv _ => k - (intOf jv).toNat)
                case atStart => exact ⟨0, rfl, Nat.zero_le _, HF2, hid fun j b hj _ => by omega⟩
                case round =>
                  obtain ⟨j, rfl, hj, HF3, HA3⟩ := hrel
                  by_cases hlj : j < k
                  · obtain ⟨b, hb⟩ : ∃ b, r[j]? = some b := ⟨_, List.getElem?_eq_getElem (by rw [HRL.out]; have := HLK.out; omega)⟩
                    have hlji : (j : Int) < k := by omega
                    have hj0 : (0 : Int) ≤ j := by omega
                    have hjr : (j : Int) < rl := by have := HLK.out; omega
                    have hce : wr.cell? ⟨g, o + i, none⟩ = some (.slice (some ⟨gr, og, none⟩) rl rc) := HCE.out wr HF3.out
                    have hca : wr.cell? ⟨gr, og + k * 2, none⟩ = some (.string (sb a.1)) := HFA.out wr HF3.out
                    have hcb : wr.cell? ⟨gr, og + j * 2, none⟩ = some (.string (sb b.1)) := HRJ.out j b hb wr HF3.out
                    have HBJ := hid hb
                    have HLJ := hid hlj
                    have HSB : Hid (b.1.length ≤ 1048576) := hid (HBb.out b (List.mem_of_getElem? hb))
                    clear hb hlj hj
                    go_wp2_with fail
                    refine (small_any a.1 HBa.out _).mono ?_
                    rintro e w5 ⟨rfl, f5⟩
                    have HF5 := hid (HF3.out.trans' f5)
                    have hce5 : w5.cell? ⟨g, o + i, none⟩ = some (.slice (some ⟨gr, og, none⟩) rl rc) := HCE.out w5 HF5.out
                    have hcb5 : w5.cell? ⟨gr, og + j * 2, none⟩ = some (.string (sb b.1)) := HRJ.out j b HBJ.out w5 HF5.out
                    clear f5 hce hca hcb
                    go_wp2_with fail
                    refine (small_any b.1 HSB.out _).mono ?_
                    rintro e w6 ⟨rfl, f6⟩
                    have HF6 := hid (HF5.out.trans' f6)
                    clear f6 hce5 hcb5
                    by_cases heq : low a.1 = low b.1
                    · obtain rfl := HBAD.out (by
                        cases ho : okStep r with
                        | false => rfl
                        | true => exact absurd heq (((okStep_at.1 ho).2.2 k a HAK.out).2 j b HLJ.out HBJ.out))
                      go_wp2_with (first
                        | ((with_reducible refine K.atO (.binOp .eql 9 _ _ _) ?_); refine wpL_valZ (by rfl) (.bool true) (exec_eqT _ _ _ rfl (low a.1) (low b.1) true (decide_eq_true heq) rfl rfl _) ?_)
                        | fail)
                      go_ret
                      exact ⟨rfl, HF.out.trans' HF6.out⟩
                    · have HEQ := hid heq
                      clear heq
                      go_wp2_with (first
                        | ((with_reducible refine K.atO (.binOp .eql 9 _ _ _) ?_); refine wpL_valZ (by rfl) (.bool false) (exec_eqT _ _ _ rfl (low a.1) (low b.1) false (by exact decide_eq_false HEQ.out) rfl rfl _) ?_)
                        | fail)
                      refine ⟨⟨j + 1, by go_num, HLJ.out, HF6, hid fun j' b' hj' hb' => ?_⟩, ?_⟩
                      · by_cases hjj : j' = j
                        · subst hjj
                          rw [HBJ.out] at hb'
                          obtain rfl := Option.some.inj hb'
                          exact HEQ.out
                        · exact HA3.out j' b' (by omega) hb'
                      · have := HLJ.out
                        simp [intOf]; omega
                  · obtain rfl : j = k := by omega
                    clear hlj hj
                    go_wp2_with fail
                    refine ⟨⟨j + 1, by go_num, HLK.out, HF3, hid fun k' a' hk' ha' => ?_⟩, ?_⟩
                    · by_cases hkk : k' = j
                      · subst hkk
                        rw [HAK.out] at ha'
                        obtain rfl := Option.some.inj ha'
                        exact ⟨HTE.out, fun j' b hj' hb => HA3.out j' b hj' hb⟩
                      · exact HA2.out k' a' (by omega) ha'
                    · have := HLK.out
                      simp [intOf]; omega
            · obtain rfl : k = rl := by omega
              have hok : okStep r = true := okStep_at.2 ⟨by rw [HRL.out]; exact H14.out.1, by rw [HRL.out]; exact H14.out.2, fun k' a' ha' => HA2.out k' a' (by have := (List.getElem?_eq_some_iff.1 ha').1; rw [HRL.out] at this; exact this) ha'⟩
              have HG2 := hid (HGOOD.out hok)
              clear hlk hk hok
              go_wp2_with fail
              refine ⟨⟨i + 1, by go_num, HLT.out, hid (HF.out.trans' HF2.out), HG2⟩, ?_⟩
              have := HLT.out
              simp [intOf]; omega
        · have h1i : ¬ (rl : Int) < 1 := by omega
          have h4i : (4 : Int) < rl := by omega
          obtain rfl := HBAD.out (by cases ho : okStep r with | false => rfl | true => have := (okStep_at.1 ho).2.1; have := HRL.out; omega)
          clear h1 h4
          go_wp2_with fail
          go_ret
          exact ⟨rfl, HF.out⟩
      · have h1i : (rl : Int) < 1 := by omega
        obtain rfl := HBAD.out (by cases ho : okStep r with | false => rfl | true => have := (okStep_at.1 ho).1; have := HRL.out; omega)
        clear h1
        go_wp2_with fail
        go_ret
        exact ⟨rfl, HF.out⟩
    · obtain rfl : i = N := by omega
      have hR : R = decide (i ≤ 16) := by
        rw [← HR.out, Bool.eq_iff_iff, built_at, HN.out]
        simp only [decide_eq_true_eq]
        exact ⟨fun h => h.1, fun h => ⟨h, fun j r hr => HA.out j r (by have := (List.getElem?_eq_some_iff.1 hr).1; rw [HN.out] at this; exact this) hr⟩⟩
      by_cases h16 : i ≤ 16
      · have h16i : (i : Int) ≤ 16 := by omega
        rw [decide_eq_true h16] at hR
        subst hR
        clear hlt
        go_wp2_with fail
        go_ret
        exact ⟨rfl, HF.out⟩
      · have h16i : ¬ (i : Int) ≤ 16 := by omega
        rw [decide_eq_false h16] at hR
        subst hR
        clear hlt
        go_wp2_with fail
        go_ret
        first | exact ⟨rfl, HF.out⟩ | exact ⟨congrArg (fun b => Ending.returned (Value.bool b)) (decide_eq_false (by omega)), HF.out⟩
end Go.Proofs.YthjmkfpdbbfcpaaGreatDoor.DN
