/-
  Part 27 of the proof: DrH, DrP, FtVa, SdT, FtN3.
-/
import Derived.Test.YtgbiicipkbpmeaaGreatDoorFe18
import Derived.Test.YtgbiicipkbpmeaaGreatDoorFe11
import Derived.Test.YtgbiicipkbpmeaaGreatDoorFe26
import Derived.Test.YtgbiicipkbpmeaaGreatDoorFe21
import Derived.Test.YtgbiicipkbpmeaaGreatDoorFe20
import Derived.Test.YtgbiicipkbpmeaaGreatDoorFe14
set_option linter.unusedSimpArgs false
set_option linter.unusedVariables false
namespace Go.Proofs.YtgbiicipkbpmeaaGreatDoor.DN
set_option maxRecDepth 100000
set_option maxHeartbeats 128000000
open Go.RowKit K BE
theorem typs_app : ∀ (r seen : Rd), typs seen r = true ↔ ∀ (k : Nat) (a : Av), r[k]? = some a → typ a.1 = true ∧ dup (seen ++ r.take k) a.1 = false
 | [], seen => by simp [typs]
 | b :: r, seen => by
  unfold typs
  simp only [Bool.and_eq_true, Bool.not_eq_true', typs_app r]
  constructor
  ·rintro ⟨⟨h1, h2⟩, h3⟩ k a hk
   cases k with
   | zero =>
    obtain rfl : b = a := by simpa using hk
    exact ⟨h1, by simpa using h2⟩
   | succ k =>
    have := h3 k a (by simpa using hk)
    simpa [List.append_assoc] using this
  ·intro h
   refine ⟨⟨(h 0 b rfl).1, by simpa using (h 0 b rfl).2⟩, fun k a hk => ?_⟩
   have := h (k + 1) a (by simpa using hk)
   simpa [List.append_assoc] using this
theorem typs_at {r : Rd} : typs [] r = true ↔ ∀ (k : Nat) (a : Av), r[k]? = some a → typ a.1 = true ∧ ∀ (j : Nat) (b : Av), j < k → r[j]? = some b → low a.1 ≠ low b.1 := by
 rw [typs_app]
 refine forall_congr' fun k => forall_congr' fun a => forall_congr' fun hk => and_congr Iff.rfl ?_
 simp only [List.nil_append, dup, List.any_eq_false, beq_iff_eq]
 constructor
 ·intro h j b hj hb e
  refine h b ?_ e.symm
  refine List.mem_of_getElem? (i := j) ?_
  rw [List.getElem?_take, if_pos hj]
  exact hb
 ·intro h b hb e
  obtain ⟨j, hj, rfl⟩ := List.mem_iff_getElem.1 hb
  rw [List.length_take] at hj
  refine h j _ (by omega) (by rw [List.getElem?_eq_getElem (by omega)]) ?_
  rw [List.getElem_take] at e
  exact e.symm
theorem okStep_at {r : Rd} : okStep r = true ↔ 1 ≤ r.length ∧ r.length ≤ 4 ∧ ∀ (k : Nat) (a : Av), r[k]? = some a → typ a.1 = true ∧ ∀ (j : Nat) (b : Av), j < k → r[j]? = some b → low a.1 ≠ low b.1 := by
 unfold okStep
 simp only [Bool.and_eq_true, decide_eq_true_eq, typs_at, and_assoc]
theorem built_at {n : Nm} : built n = true ↔ n.length ≤ 16 ∧ ∀ (i : Nat) r, n[i]? = some r → okStep r = true := by
 unfold built
 simp only [Bool.and_eq_true, decide_eq_true_eq, List.all_eq_true]
 refine and_congr Iff.rfl ⟨fun h i r hr => h r (List.mem_of_getElem? hr), fun h r hr => ?_⟩
 obtain ⟨i, hi, rfl⟩ := List.mem_iff_getElem.1 hr
 exact h i _ (List.getElem?_eq_getElem hi)
theorem shaped_any (E : Nat → Prop) (v : Value) (n : Nm) (w : World) (h : NmIn E w v n) (hb : ∀ r ∈ n, ∀ a ∈ r, a.1.length ≤ 1048576) : Calls Tryz.prog 137 #[v] w fun e w' => e = .returned (.bool (built n)) ∧ Fr No w w' := by
 obtain ⟨a0, cp, rfl, -, hl0⟩ := h.form
 have HX := hid h
 have HB := hid hb
 obtain ⟨N, hn⟩ : ∃ N, n.length = N := ⟨_, rfl⟩
 obtain ⟨R, hR⟩ : ∃ R, built n = R := ⟨_, rfl⟩
 rw [hR]
 rw [hn] at HX hl0 ⊢
 have HN := hid hn; have HR := hid hR
 have hni : (N : Int) ≤ 140737488351232 := by omega
 clear h hb hn hR hl0
 go_enter Tryz.func137, Tryz.ntmps137
 go_wp2_with fail
 go_loopw [3] (fun iv wr => ∃ (i : Nat), iv = .int .i64 i ∧ i ≤ N ∧ Hid (Fr No w wr) ∧ Hid (∀ j r, j < i → n[j]? = some r → okStep r = true)) (fun iv _ => N - (intOf iv).toNat)
 case atStart => exact ⟨0, rfl, Nat.zero_le _, hid (Fr.refl _ _), hid fun j r hj _ => by omega⟩
 case round =>
  obtain ⟨i, rfl, hi, HF, HA⟩ := hrel
  by_cases hlt : i < N
  ·obtain ⟨r, hr⟩ : ∃ r, n[i]? = some r := ⟨_, List.getElem?_eq_getElem (by rw [HN.out]; exact hlt)⟩
   have hlti : (i : Int) < N := by omega
   have hi0 : (0 : Int) ≤ i := by omega
   obtain ⟨g, o, cq, c, e1, -, hgw, hrr, hc, hxa⟩ := (NmIn.no HX.out HF.out).get hr
   rw [HN.out] at e1
   obtain ⟨rfl, rfl⟩ := K.sj e1
   obtain ⟨vr, rfl, hvr⟩ := hxa
   have hcell : wr.cell? ⟨g, o + i, none⟩ = some vr := by have := hrr 0 vr rfl; simpa using this
   obtain ⟨ra, rc, rfl, hrc, hrl0⟩ := Sl.form hvr
   obtain ⟨rl, hrl⟩ : ∃ rl, r.length = rl := ⟨_, rfl⟩
   have HRL := hid hrl
   rw [hrl] at hcell hvr hrl0 hrc
   have HVR := hid hvr
   have HCE : Hid (∀ W, Fr No wr W → W.cell? ⟨g, o + i, none⟩ = some (.slice ra rl rc)) := hid fun W hf => hf.cell hcell id
   have hrli : (rl : Int) ≤ 140737488351232 := by omega
   have HMEM : Hid (r ∈ n) := hid (List.mem_of_getElem? hr)
   have HBAD : Hid (okStep r = false → R = false) := hid (fun h => by
    rw [← HR.out]
    cases ht : built n with
    | false => rfl
    | true => rw [(built_at.1 ht).2 i r hr] at h; cases h)
   have HGOOD : Hid (okStep r = true → ∀ j r, j < i + 1 → n[j]? = some r → okStep r = true) := hid (fun h j q hj hq => by
    by_cases hji : j = i
    ·subst hji
     rw [hr] at hq
     obtain rfl := Option.some.inj hq
     exact h
    ·exact HA.out j q (by omega) hq)
   have HLT := hid hlt
   clear hrr hc hgw hvr hr hrl hlt hi hrl0 hrc
   by_cases h1 : 1 ≤ rl
   ·by_cases h4 : rl ≤ 4
    ·have h1i : ¬ (rl : Int) < 1 := by omega
     have h4i : ¬ (4 : Int) < rl := by omega
     have H14 : Hid (1 ≤ rl ∧ rl ≤ 4) := hid ⟨h1, h4⟩
     clear h1 h4
     go_wp2_with fail
     have HFR := HF
     obtain ⟨W0, hW0⟩ : ∃ W0, wr = W0 := ⟨_, rfl⟩
     rw [hW0] at HF HCE HVR hcell ⊢
     clear hW0
     go_loopw [4] (fun kv wr2 => ∃ (k : Nat), kv = .int .i64 k ∧ k ≤ rl ∧ Hid (Fr No W0 wr2) ∧ Hid (∀ (k' : Nat) (a : Av), k' < k → r[k']? = some a → typ a.1 = true ∧ ∀ (j : Nat) (b : Av), j < k' → r[j]? = some b → low a.1 ≠ low b.1)) (fun kv _ => rl - (intOf kv).toNat)
     case atStart => exact ⟨0, rfl, Nat.zero_le _, hid (Fr.refl _ _), hid fun j r hj _ => by omega⟩
     case round =>
      obtain ⟨k, rfl, hk, HF2, HA2⟩ := hrel
      have hce : wr.cell? ⟨g, o + i, none⟩ = some (.slice ra rl rc) := HCE.out wr HF2.out
      by_cases hlk : k < rl
      ·obtain ⟨a, ha⟩ : ∃ a, r[k]? = some a := ⟨_, List.getElem?_eq_getElem (by rw [HRL.out]; exact hlk)⟩
       have hlki : (k : Int) < rl := by omega
       have hk0 : (0 : Int) ≤ k := by omega
       obtain ⟨gr, og, cqr, cr, e2, -, -, hrr2, -, hxa2⟩ := HVR.out.get ha
       rw [HRL.out] at e2
       simp only [Value.slice.injEq, true_and] at e2
       obtain ⟨rfl, rfl⟩ := e2
       obtain ⟨rfl, hsz1, -⟩ := hxa2
       have HFA : Hid (∀ W, Fr No W0 W → W.cell? ⟨gr, og + k * 2, none⟩ = some (.string (sb a.1))) := hid fun W hf => hf.cell (by have := hrr2 0 (.string (sb a.1)) rfl; simpa using this) id
       have hca : wr.cell? ⟨gr, og + k * 2, none⟩ = some (.string (sb a.1)) := HFA.out wr HF2.out
       have HRJ : Hid (∀ (j : Nat) (b : Av), r[j]? = some b → ∀ W, Fr No W0 W → W.cell? ⟨gr, og + j * 2, none⟩ = some (.string (sb b.1))) := hid fun j b hj W hf => by
        obtain ⟨g3, o3, cq3, c3, e3, -, -, hrr3, -, hxa3⟩ := HVR.out.get hj
        rw [HRL.out] at e3
        simp only [Value.slice.injEq, true_and, Option.some.injEq, Addr.mk.injEq, and_true] at e3
        obtain ⟨⟨rfl, rfl⟩, rfl⟩ := e3
        obtain ⟨rfl, -, -⟩ := hxa3
        exact hf.cell (by have := hrr3 0 (.string (sb b.1)) rfl; simpa using this) id
       have HBa : Hid (a.1.length ≤ 1048576) := hid (HB.out r HMEM.out a (List.mem_of_getElem? ha))
       have HBb : Hid (∀ b ∈ r, b.1.length ≤ 1048576) := hid fun b hb => HB.out r HMEM.out b hb
       have HAK := hid ha
       have HLK := hid hlk
       have HTY := hid (fun W => rType_any a.1 hsz1 W)
       obtain ⟨T, hT⟩ : ∃ T, typ a.1 = T := ⟨_, rfl⟩
       rw [hT] at HTY
       have HTE := hid hT
       clear hrr2 ha hlk hk hT
       go_wp2_with fail
       refine (HTY.out _).mono ?_
       rintro e wX ⟨rfl, rfl⟩
       cases T with
       | false =>
        obtain rfl := HBAD.out (by
         cases ho : okStep r with
         | false => rfl
         | true => have := ((okStep_at.1 ho).2.2 k a HAK.out).1; rw [HTE.out] at this; cases this)
        go_wp2_with fail
        go_ret
        exact ⟨rfl, HF.out.trans' HF2.out⟩
       | true =>
        go_wp2_with fail
        clear hca hce
        obtain ⟨W1, hW1⟩ : ∃ W1, wX = W1 := ⟨_, rfl⟩
        rw [hW1] at HF2 ⊢
        clear hW1
        go_loopw [6] (fun jv wr3 => ∃ (j : Nat), jv = .int .i64 j ∧ j ≤ k ∧ Hid (Fr No W0 wr3) ∧ Hid (∀ (j' : Nat) (b : Av), j' < j → r[j']? = some b → low a.1 ≠ low b.1)) (fun jv _ => k - (intOf jv).toNat)
        case atStart => exact ⟨0, rfl, Nat.zero_le _, HF2, hid fun j b hj _ => by omega⟩
        case round =>
         obtain ⟨j, rfl, hj, HF3, HA3⟩ := hrel
         by_cases hlj : j < k
         ·obtain ⟨b, hb⟩ : ∃ b, r[j]? = some b := ⟨_, List.getElem?_eq_getElem (by rw [HRL.out]; have := HLK.out; omega)⟩
          have hlji : (j : Int) < k := by omega
          have hj0 : (0 : Int) ≤ j := by omega
          have hjr : (j : Int) < rl := by have := HLK.out; omega
          have hce : wr.cell? ⟨g, o + i, none⟩ = some (.slice (some ⟨gr, og, none⟩) rl rc) := HCE.out wr HF3.out
          have hca : wr.cell? ⟨gr, og + k * 2, none⟩ = some (.string (sb a.1)) := HFA.out wr HF3.out
          have hcb : wr.cell? ⟨gr, og + j * 2, none⟩ = some (.string (sb b.1)) := HRJ.out j b hb wr HF3.out
          have HBJ := hid hb
          have HLJ := hid hlj
          have HSB : Hid (b.1.length ≤ 1048576) := hid (HBb.out b (List.mem_of_getElem? hb))
          clear hb hlj hj
          go_wp2_with fail
          refine (small_any a.1 HBa.out _).mono ?_
          rintro e w5 ⟨rfl, f5⟩
          have HF5 := hid (HF3.out.trans' f5)
          have hce5 : w5.cell? ⟨g, o + i, none⟩ = some (.slice (some ⟨gr, og, none⟩) rl rc) := HCE.out w5 HF5.out
          have hcb5 : w5.cell? ⟨gr, og + j * 2, none⟩ = some (.string (sb b.1)) := HRJ.out j b HBJ.out w5 HF5.out
          clear f5 hce hca hcb
          go_wp2_with fail
          refine (small_any b.1 HSB.out _).mono ?_
          rintro e w6 ⟨rfl, f6⟩
          have HF6 := hid (HF5.out.trans' f6)
          clear f6 hce5 hcb5
          by_cases heq : low a.1 = low b.1
          ·obtain rfl := HBAD.out (by
            cases ho : okStep r with
            | false => rfl
            | true => exact absurd heq (((okStep_at.1 ho).2.2 k a HAK.out).2 j b HLJ.out HBJ.out))
           go_wp2_with (first
            | ((with_reducible refine K.atO (.binOp .eql 9 _ _ _) ?_); refine wpL_valZ (by rfl) (.bool true) (exec_eqT _ _ _ rfl (low a.1) (low b.1) true (decide_eq_true heq) rfl rfl _) ?_))
           go_ret
           exact ⟨rfl, HF.out.trans' HF6.out⟩
          ·have HEQ := hid heq
           clear heq
           go_wp2_with (first
            | ((with_reducible refine K.atO (.binOp .eql 9 _ _ _) ?_); refine wpL_valZ (by rfl) (.bool false) (exec_eqT _ _ _ rfl (low a.1) (low b.1) false (by exact decide_eq_false HEQ.out) rfl rfl _) ?_))
           refine ⟨⟨j + 1, by go_num, HLJ.out, HF6, hid fun j' b' hj' hb' => ?_⟩, ?_⟩
           ·by_cases hjj : j' = j
            ·subst hjj
             rw [HBJ.out] at hb'
             obtain rfl := Option.some.inj hb'
             exact HEQ.out
            ·exact HA3.out j' b' (by omega) hb'
           ·have := HLJ.out
            simp [intOf]; omega
         ·obtain rfl : j = k := by omega
          clear hlj hj
          go_wp2_with fail
          refine ⟨⟨j + 1, by go_num, HLK.out, HF3, hid fun k' a' hk' ha' => ?_⟩, ?_⟩
          ·by_cases hkk : k' = j
           ·subst hkk
            rw [HAK.out] at ha'
            obtain rfl := Option.some.inj ha'
            exact ⟨HTE.out, fun j' b hj' hb => HA3.out j' b hj' hb⟩
           ·exact HA2.out k' a' (by omega) ha'
          ·have := HLK.out
           simp [intOf]; omega
      ·obtain rfl : k = rl := by omega
       have hok : okStep r = true := okStep_at.2 ⟨by rw [HRL.out]; exact H14.out.1, by rw [HRL.out]; exact H14.out.2, fun k' a' ha' => HA2.out k' a' (by have := (List.getElem?_eq_some_iff.1 ha').1; rw [HRL.out] at this; exact this) ha'⟩
       have HG2 := hid (HGOOD.out hok)
       clear hlk hk hok
       go_wp2_with fail
       refine ⟨⟨i + 1, by go_num, HLT.out, hid (HF.out.trans' HF2.out), HG2⟩, ?_⟩
       have := HLT.out
       simp [intOf]; omega
    ·have h1i : ¬ (rl : Int) < 1 := by omega
     have h4i : (4 : Int) < rl := by omega
     obtain rfl := HBAD.out (by cases ho : okStep r with | false => rfl | true => have := (okStep_at.1 ho).2.1; have := HRL.out; omega)
     clear h1 h4
     go_wp2_with fail
     go_ret
     exact ⟨rfl, HF.out⟩
   ·have h1i : (rl : Int) < 1 := by omega
    obtain rfl := HBAD.out (by cases ho : okStep r with | false => rfl | true => have := (okStep_at.1 ho).1; have := HRL.out; omega)
    clear h1
    go_wp2_with fail
    go_ret
    exact ⟨rfl, HF.out⟩
  ·obtain rfl : i = N := by omega
   have hR : R = decide (i ≤ 16) := by
    rw [← HR.out, Bool.eq_iff_iff, built_at, HN.out]
    simp only [decide_eq_true_eq]
    exact ⟨fun h => h.1, fun h => ⟨h, fun j r hr => HA.out j r (by have := (List.getElem?_eq_some_iff.1 hr).1; rw [HN.out] at this; exact this) hr⟩⟩
   by_cases h16 : i ≤ 16
   ·have h16i : (i : Int) ≤ 16 := by omega
    rw [decide_eq_true h16] at hR
    subst hR
    clear hlt
    go_wp2_with fail
    go_ret
    exact ⟨rfl, HF.out⟩
   ·have h16i : ¬ (i : Int) ≤ 16 := by omega
    rw [decide_eq_false h16] at hR
    subst hR
    clear hlt
    go_wp2_with fail
    go_ret
    first | exact ⟨rfl, HF.out⟩ | exact ⟨congrArg (fun b => Ending.returned (Value.bool b)) (decide_eq_false (by omega)), HF.out⟩
theorem exec_eqE {op : Oper} {a : Act} (x y : Operand) (u : TypeId) (ho : op.op = .binOp .eql 9 x y u) (p q : B) {A C : ByteArray} (hA : sb p = A) (hC : sb q = C) (r : Bool) (hr : decide (p = q) = r) (hx : a.eval x = .string A) (hy : a.eval y = .string C) (w : World) :
  (execOp a.eval op).run Tryz.prog w = .ok (.value (.bool r)) w := by
 subst hA hC
 exact exec_eqT x y u ho p q r hr hx hy w
theorem exec_twoB {op : Oper} {a : Act} (x g h : Operand) (ho : op.op = .slice 9 x (some g) (some h) none) (l : B) {S : ByteArray} (hS : sb l = S) (m k : Nat) (hx : a.eval x = .string S) (hg : a.eval g = .int .i64 (m : Int)) (hh : a.eval h = .int .i64 (k : Int)) (h1 : m ≤ k) (h2 : k ≤ l.length) (r : B) (hr : (l.drop m).take (k - m) = r) (w : World) :
  (execOp a.eval op).run Tryz.prog w = .ok (.value (.string (sb r))) w := by
 subst hS
 exact exec_two x g h ho l m k hx hg hh h1 h2 r hr w
theorem cutEq_skip : ∀ (k : Nat) (t : B), (∀ j c, j < k → t[j]? = some c → c ≠ 61) → k ≤ t.length → cutEq t = (cutEq (t.drop k)).map fun x => (t.take k ++ x.1, x.2)
 | 0, t, _, _ => by
  cases h : cutEq t <;> simp [h]
 | k + 1, [], _, hk => by simp at hk
 | k + 1, c :: t, h, hk => by
  have hc := h 0 c (by omega) rfl
  have ih := cutEq_skip k t (fun j d hj hd => h (j + 1) d (by omega) (by simpa using hd)) (by simpa using hk)
  rw [show cutEq (c :: t) = (cutEq t).map fun x => (c :: x.1, x.2) by rw [cutEq, if_neg hc], ih]
  simp only [List.drop_succ_cons, List.take_succ_cons, Option.map_map]
  rfl
theorem one_suf {den r r' : B} {c d : UInt8} {b : Bool} (h : one den c r = some (d, b, r')) : ∃ pre, r = pre ++ r' := by
 unfold one at h
 split at h
 ·cases he : esc r with
  | none => rw [he] at h; cases h
  | some x =>
   obtain ⟨d', r''⟩ := x
   rw [he] at h
   simp only [Option.map_some, Option.some.injEq, Prod.mk.injEq] at h
   obtain ⟨-, -, rfl⟩ := h
   have := (esc_drop he).1
   exact ⟨r.take (r.length - r''.length), by have h2 := List.take_append_drop (r.length - r''.length) r; rw [this] at h2; exact h2.symm⟩
 ·split at h
  ·cases h
  ·split at h
   ·cases h
   ·cases h; exact ⟨[], rfl⟩
theorem rvF_suf : ∀ (f : Nat) (den : B) (b : Bool) (s v r : B), rvF f den b s = some (v, r) → ∃ pre, s = pre ++ r
 | 0, _, _, _, _, _, h => by cases h
 | f + 1, den, b, [], v, r, h => by
  unfold rvF at h
  cases b
  ·cases h; exact ⟨[], rfl⟩
  ·cases h
 | f + 1, den, b, c :: s, v, r, h => by
  unfold rvF at h
  split at h
  ·cases b
   ·cases h; exact ⟨[], rfl⟩
   ·cases h
  ·cases ho : one den c s with
   | none => rw [ho] at h; cases h
   | some x =>
    obtain ⟨d, bb, r'⟩ := x
    rw [ho] at h
    obtain ⟨p1, h1⟩ := one_suf ho
    obtain ⟨p2, h2⟩ := rvF_suf f _ _ _ _ _ h
    dsimp only at h2
    exact ⟨c :: (p1 ++ p2), by rw [h1, h2]; simp⟩
theorem rv_end {s v r : B} {q : Nat} (h : rv (s.drop q) = some (v, r)) (hq : q ≤ s.length) : s.drop (s.length - r.length) = r ∧ q ≤ s.length - r.length ∧ r.length ≤ s.length := by
 obtain ⟨pre, hp⟩ := rvF_suf _ _ _ _ _ _ h
 have hl := congrArg List.length hp
 rw [List.length_drop, List.length_append] at hl
 have hs : s = (s.take q ++ pre) ++ r := by rw [List.append_assoc, ← hp, List.take_append_drop]
 refine ⟨?_, by omega, by omega⟩
 obtain ⟨A, hA⟩ : ∃ A, s.take q ++ pre = A := ⟨_, rfl⟩
 rw [hA] at hs
 rw [hs]
 simp
theorem rParse_any (s : B) (hz : Sz s) (w : World) : Calls Tryz.prog 92 #[.string (sb s)] w fun e w' => ∃ v, e = .returned (.tuple #[v, .int .i64 (parse s).2]) ∧ NmIn (fun _ => True) w' v (parse s).1 ∧ Fr No w w' := by
 obtain ⟨S, hS⟩ : ∃ S, sb s = S := ⟨_, rfl⟩
 have HS := hid hS
 by_cases h4 : 400 < s.length
 ·have hp : parse s = ([], 2) := by rw [parse_eq, if_pos h4]
  rw [hp]
  have hsz : (S.size : Int) = s.length := by rw [← hS, sb_size]
  rw [hS]
  have h1 : (400 : Int) < (S.size : Int) := by omega
  clear hp hS hsz h4 hz
  go_enter Tryz.func92, Tryz.ntmps92
  go_wp2_with fail
  go_ret2
  exact ⟨_, rfl, nm_nil _ _ _ _, Fr.refl _ _⟩
 ·obtain ⟨n, hn⟩ : ∃ n, s.length = n := ⟨_, rfl⟩
  have HN := hid hn
  have hsz : (S.size : Int) = n := by rw [← hS, sb_size, hn]
  have hn4 : (n : Int) ≤ 400 := by omega
  have hp0 : parse s = match read s with
   | none => (([] : Nm), (120 : Int))
   | some n => if built n then (n, (0 : Int)) else (([] : Nm), (120 : Int)) := by rw [parse_eq, if_neg h4]; cases read s <;> rfl
  by_cases h0 : s = []
  ·have hp : parse s = ([], 0) := by rw [h0]; rfl
   rw [hp, hS]
   clear hp0 hp hz h4 hn hS
   go_enter Tryz.func92, Tryz.ntmps92
   go_wp2_with (first
    | ((with_reducible refine K.atO (.binOp .eql 9 _ _ _) ?_); refine wpL_valZ (by rfl) (.bool true) (exec_eqE _ _ _ rfl s [] HS.out rfl true (by exact decide_eq_true h0) rfl rfl _) ?_))
   go_ret2
   exact ⟨_, rfl, nm_nil _ _ _ _, Fr.refl _ _⟩
  ·obtain ⟨RF, hRF⟩ : ∃ RF, read s = RF := ⟨_, rfl⟩
   have HRF : Hid (readF (s.length + 1) [] [] s = RF) := hid (by unfold read at hRF; rw [if_neg h0] at hRF; exact hRF)
   have HRD := hid hRF
   rw [hRF] at hp0
   obtain ⟨PR, hPR⟩ : ∃ PR, parse s = PR := ⟨_, rfl⟩
   rw [hPR] at hp0 ⊢
   have HPR := hid hp0
   have HN0 := hid (show decide (s = []) = false from decide_eq_false h0)
   have HS4 := hid (show s.length ≤ 400 by omega)
   rw [hS]
   clear hp0 hPR hRF h0 h4 hn hS hz
   go_enter Tryz.func92, Tryz.ntmps92
   go_wp2_with (first
    | ((with_reducible refine K.atO (.binOp .eql 9 _ _ _) ?_); refine wpL_valZ (by rfl) (.bool false) (exec_eqE _ _ _ rfl s [] HS.out rfl false HN0.out rfl rfl _) ?_))
   go_loopw [4, 5, 6] (fun nv sv pv wr => ∃ (p : Nat) (N : Nm) (st : Rd) (vs : List Value), pv = .int .i64 p ∧ p ≤ n ∧ Hid (N.length + st.length ≤ p) ∧ Hid (Rs w wr nv sv N st vs ∧ vs.length = N.length) ∧ Hid (readF ((s.drop p).length + 1) N st (s.drop p) = RF)) (fun _ _ pv _ => n - (intOf pv).toNat)
   case atStart => exact ⟨0, [], [], [], rfl, Nat.zero_le _, hid (Nat.zero_le _), hid ⟨⟨owR_nil (Fr.refl _ _), owR_nil (Fr.refl _ _), (fun g e => by cases e), (fun i r v e => by simp at e), (fun x hx => by cases hx)⟩, rfl⟩, HRF⟩
   case round =>
    obtain ⟨p, N, st, vs, rfl, hp, HL, HR, HF⟩ := hrel
    obtain ⟨na, nc, rfl⟩ := HR.out.1.no.1
    obtain ⟨sa, sc, rfl⟩ := HR.out.1.so.1
    have HP := hid hp
    have hF := HF.out
    rw [readF_len] at hF
    have HF2 := hid hF
    obtain ⟨nl, hnl⟩ : ∃ nl, N.length = nl := ⟨_, rfl⟩
    obtain ⟨sl, hsl⟩ : ∃ sl, st.length = sl := ⟨_, rfl⟩
    have HNL := hid hnl; have HSL := hid hsl
    rw [hnl, hsl] at HL ⊢
    have hnl4 : (nl : Int) ≤ 400 := by have := HL.out; omega
    have hsl4 : (sl : Int) ≤ 400 := by have := HL.out; omega
    have hp0 : (0 : Int) ≤ p := by omega
    clear hF hnl hsl HF
    go_wp2_with fail
    obtain ⟨W0, hW0⟩ : ∃ W0, wr = W0 := ⟨_, rfl⟩
    rw [hW0] at HR ⊢
    clear hW0
    go_loopw [6] (fun qv wr2 => ∃ (q : Nat), qv = .int .i64 q ∧ p ≤ q ∧ q ≤ n ∧ wr2 = W0 ∧ Hid (∀ j c, p ≤ j → j < q → s[j]? = some c → c ≠ 61)) (fun qv _ => n - (intOf qv).toNat)
    case atStart => exact ⟨p, rfl, Nat.le_refl _, HP.out, rfl, hid fun j c h1 h2 _ => by omega⟩
    case round =>
     obtain ⟨q, rfl, hpq, hq, rfl, HQ⟩ := hrel
     by_cases hlt : q < n
     ·obtain ⟨c, hc⟩ : ∃ c, s[q]? = some c := ⟨_, List.getElem?_eq_getElem (by rw [HN.out]; exact hlt)⟩
      have hlti : (q : Int) < n := by omega
      have hq0 : (0 : Int) ≤ q := by omega
      have HC := hid hc
      have HLT := hid hlt
      by_cases h61 : c = 61
      ·have e61 : ((c.toNat : Int) != 61) = false := by rw [h61]; rfl
       have hqn : ((q : Int) == n) = false := beqF (k := n) (by omega)
       obtain ⟨x1, hx1⟩ : ∃ x1, (s.drop p).take (q - p) = x1 := ⟨_, rfl⟩
       have hcut : cutEq (s.drop p) = some (x1, s.drop (q + 1)) := by
        rw [cutEq_skip (q - p) (s.drop p) (fun j d hj hd => HQ.out (p + j) d (by omega) (by omega) (by rw [List.getElem?_drop] at hd; exact hd)) (by rw [List.length_drop, HN.out]; omega), List.drop_drop, show p + (q - p) = q by omega, drop_at hc, h61, hx1]
        simp [cutEq]
       have hx1l : x1.length ≤ 400 := by rw [← hx1, List.length_take]; omega
       have hRA : readA (s.drop p) = (rv (s.drop (q + 1))).map fun y => ((x1, y.1), y.2) := by unfold readA; rw [hcut]; rfl
       have hF := HF2.out
       rw [hRA] at hF
       have HX1 := hid hx1
       have HQN : Hid (q ≤ n) := hid (by omega)
       have HRE := hid (fun W => reads_any s (q + 1) HS4.out (by rw [HN.out]; omega) W)
       rw [HN.out] at HRE
       clear hcut hRA hx1 h61 hc hlt hq
       cases hrv : rv (s.drop (q + 1)) with
       | none =>
        have HRN : Hid (none = RF) := hid (by rw [hrv] at hF; exact hF)
        have HRE2 : Hid (∀ W, Calls Tryz.prog 136 #[.string S, .int .i64 ((q + 1 : Nat) : Int)] W fun e w' => e = .returned (.tuple #[.string (sb []), .int .i64 0, .bool false]) ∧ Fr No W w') := hid (fun W => by have h := HRE.out W; rw [hrv, HS.out] at h; exact h)
        rw [show (((q + 1 : Nat) : Nat) : Int) = (q : Int) + 1 by push_cast; rfl] at HRE2
        clear hF hrv HRE
        go_wp2_with (first | ((with_reducible refine K.atO (.index 9 _ _) ?_); refine idxZ HS HC rfl rfl rfl rfl ?_))
        refine (HRE2.out _).mono ?_
        rintro e w2 ⟨rfl, f2⟩
        have HFW := hid (HR.out.1.no.fr.trans' f2)
        clear f2
        go_wp2_with fail
        go_ret2
        have hpr := HPR.out
        rw [← HRN.out] at hpr
        rw [hpr]
        exact ⟨_, rfl, nm_nil _ _ _ _, HFW.out⟩
       | some y =>
        obtain ⟨x2, rest⟩ := y
        obtain ⟨en, hen⟩ : ∃ en, n - rest.length = en := ⟨_, rfl⟩
        obtain ⟨hend, hen1, hen2⟩ := rv_end hrv (by rw [HN.out]; omega)
        rw [HN.out] at hend hen1 hen2
        rw [hen] at hend hen1
        have hx2l := (rv_len hrv).2.1
        have hl4 := (rv_len hrv).2.2
        have HX12 : Hid (Sz x1 ∧ Sz x2) := hid ⟨by unfold Sz; omega, by unfold Sz; rw [List.length_drop, HN.out] at hx2l; omega⟩
        have HRE2 : Hid (∀ W, Calls Tryz.prog 136 #[.string S, .int .i64 ((q + 1 : Nat) : Int)] W fun e w' => e = .returned (.tuple #[.string (sb x2), .int .i64 (en : Int), .bool true]) ∧ Fr No W w') := hid (fun W => by have h := HRE.out W; rw [hrv, HS.out] at h; rw [← hen]; exact h.mono fun e w' h => ⟨h.1.1, h.2⟩)
        rw [show (((q + 1 : Nat) : Nat) : Int) = (q : Int) + 1 by push_cast; rfl] at HRE2
        rw [hrv] at hF
        simp only [Option.map_some] at hF
        have hen0 : (0 : Int) ≤ en := by omega
        have henn : (en : Int) ≤ n := by omega
        have HEN : Hid (q + 1 ≤ en ∧ en + rest.length = n) := hid ⟨hen1, by omega⟩
        clear hrv HRE hen hx2l hx1l hen1 hen2
        cases rest with
        | nil =>
         have HRN : Hid (some (N ++ [st ++ [(x1, x2)]]) = RF) := hid hF
         obtain rfl : en = n := by have := HEN.out; simpa using this.2
         clear hF hend
         go_wp2_with (first | ((with_reducible refine K.atO (.index 9 _ _) ?_); refine idxZ HS HC rfl rfl rfl rfl ?_))
         refine (HRE2.out _).mono ?_
         rintro e w2 ⟨rfl, f2⟩
         have HR2 : Hid (Rs w w2 (.slice na nl nc) (.slice sa sl sc) N st vs) := hid (by have h := HR.out.1.fr f2; rw [HNL.out, HSL.out] at h; exact h)
         clear f2
         go_wp2_with (first | ((with_reducible refine K.atO (.slice 9 _ _ _ _) ?_); refine wpL_valZ (by rfl) (.string (sb x1)) (exec_twoB _ _ _ rfl s HS.out p q rfl rfl rfl hpq (by rw [HN.out]; exact HQN.out) x1 HX1.out _) ?_) | ((with_reducible refine K.atO (.buildSlice 175 _ _) ?_); refine wpL_app1o rfl rfl _ _ _ 175 191 rfl rfl Tryz.underlying175 infoAva rfl (by decide) (by decide) (n := sl) (cs := avs st) (by have := HR2.out.so; rw [HSL.out] at this; exact this) (.agg #[.string (sb x1), .string (sb x2)]) [.string (sb x1), .string (sb x2)] rfl rfl rfl (by simp [Value.oneCell']) (fun _ => rfl) (fun _ => rfl) (by omega) (by omega) ?_; intro q5 a5 c5 w5 HO5 HF5 HW5) | ((with_reducible refine K.atO (.buildSlice 128 _ _) ?_); (have HR5 : Hid (Rs w w5 (.slice na nl nc) (.slice a5 (sl + 1) c5) N (st ++ [(x1, x2)]) vs) := hid (HR2.out.step (x := (x1, x2)) (by rw [HSL.out]; exact HO5.out) HF5.out HW5.out HX12.out)); refine wpL_app1o rfl rfl _ _ _ 128 175 rfl rfl Tryz.underlying128 infoRdn rfl (by decide) (by decide) (n := nl) (cs := vs) (by have := HR5.out.no; rw [HNL.out] at this; exact this) (.slice a5 (sl + 1) c5) [.slice a5 (sl + 1) c5] rfl rfl rfl (by simp [Value.oneCell']) (fun _ => rfl) (fun _ => rfl) (by omega) (by omega) ?_; intro q6 a6 c6 w6 HO6 HF6 HW6))
         have HR6 : Hid (Rs w w6 (.slice a6 (nl + 1) c6) (.slice none 0 0) (N ++ [st ++ [(x1, x2)]]) [] (vs ++ [.slice a5 (sl + 1) c5])) := hid (HR5.out.close (by rw [HNL.out]; exact HO6.out) HF6.out HW6.out (by rw [List.length_append, HSL.out]; have := HL.out; have := HP.out; simp; omega) HR.out.2)
         have HNM := hid (HR6.out.name (by have := HR.out.2; simp [this]) (by rw [List.length_append, HNL.out]; simp; omega))
         have HBD : Hid (∀ r ∈ N ++ [st ++ [(x1, x2)]], ∀ a ∈ r, a.1.length ≤ 1048576) := hid (fun r hr a ha => by
          have h1 := HRF.out
          rw [← HRN.out] at h1
          have := (readF_b (K := 400) _ _ _ _ _ h1 HS4.out (fun _ h => by cases h) (fun _ h => by cases h) r hr a ha).1
          omega)
         have hpr := HPR.out
         rw [← HRN.out] at hpr
         dsimp only at hpr
         have HSH := hid (shaped_any _ _ _ w6 HNM.out HBD.out)
         have HFW := hid HR6.out.no.fr
         obtain ⟨BB, hBB⟩ : ∃ BB, built (N ++ [st ++ [(x1, x2)]]) = BB := ⟨_, rfl⟩
         rw [hBB] at HSH hpr
         refine HSH.out.mono ?_
         rintro e w7 ⟨rfl, f7⟩
         have HF7 := hid (HFW.out.trans' f7)
         have HNM7 := hid (HNM.out.no f7)
         clear f7 hBB
         cases BB with
         | true =>
          go_wp2_with fail
          go_ret2
          rw [hpr]
          exact ⟨_, rfl, HNM7.out.mono fun _ _ => trivial, HF7.out⟩
         | false =>
          go_wp2_with fail
          go_ret2
          rw [hpr]
          exact ⟨_, rfl, nm_nil _ _ _ _, HF7.out⟩
        | cons d r1 =>
         have hec : s[en]? = some d := by
          have h2 : (s.drop en)[0]? = some d := by rw [hend]; rfl
          rwa [List.getElem?_drop, Nat.add_zero] at h2
         have HEC := hid hec
         have HRR : Hid (s.drop (en + 1) = r1) := hid (by have := drop_at hec; rw [hend] at this; exact (List.cons.inj this).2.symm)
         have henlt : (en : Int) < n := by have := HEN.out.2; simp at this; omega
         have HENL : Hid (en < n) := hid (by omega)
         have henq : ((en : Int) == n) = false := beqF (k := n) (by omega)
         dsimp only at hF
         clear hec hend hl4
         by_cases h44 : d = 44
         ·rw [if_pos h44] at hF
          have HRN := hid hF
          have e44 : ((d.toNat : Int) == 44) = true := beqT (k := 44) (by rw [h44]; rfl)
          clear hF h44
          go_wp2_with (first | ((with_reducible refine K.atO (.index 9 _ _) ?_); refine idxZ HS HC rfl rfl rfl rfl ?_))
          refine (HRE2.out _).mono ?_
          rintro e w2 ⟨rfl, f2⟩
          have HR2 : Hid (Rs w w2 (.slice na nl nc) (.slice sa sl sc) N st vs) := hid (by have h := HR.out.1.fr f2; rw [HNL.out, HSL.out] at h; exact h)
          clear f2
          go_wp2_with (first | ((with_reducible refine K.atO (.slice 9 _ _ _ _) ?_); refine wpL_valZ (by rfl) (.string (sb x1)) (exec_twoB _ _ _ rfl s HS.out p q rfl rfl rfl hpq (by rw [HN.out]; exact HQN.out) x1 HX1.out _) ?_) | ((with_reducible refine K.atO (.buildSlice 175 _ _) ?_); refine wpL_app1o rfl rfl _ _ _ 175 191 rfl rfl Tryz.underlying175 infoAva rfl (by decide) (by decide) (n := sl) (cs := avs st) (by have := HR2.out.so; rw [HSL.out] at this; exact this) (.agg #[.string (sb x1), .string (sb x2)]) [.string (sb x1), .string (sb x2)] rfl rfl rfl (by simp [Value.oneCell']) (fun _ => rfl) (fun _ => rfl) (by omega) (by omega) ?_; intro q5 a5 c5 w5 HO5 HF5 HW5) | ((with_reducible refine K.atO (.index 9 _ _) ?_); refine idxZ HS HEC rfl rfl rfl rfl ?_) | ((with_reducible refine K.atO (.buildSlice 128 _ _) ?_); (have HR5 : Hid (Rs w w5 (.slice na nl nc) (.slice a5 (sl + 1) c5) N (st ++ [(x1, x2)]) vs) := hid (HR2.out.step (x := (x1, x2)) (by rw [HSL.out]; exact HO5.out) HF5.out HW5.out HX12.out)); refine wpL_app1o rfl rfl _ _ _ 128 175 rfl rfl Tryz.underlying128 infoRdn rfl (by decide) (by decide) (n := nl) (cs := vs) (by have := HR5.out.no; rw [HNL.out] at this; exact this) (.slice a5 (sl + 1) c5) [.slice a5 (sl + 1) c5] rfl rfl rfl (by simp [Value.oneCell']) (fun _ => rfl) (fun _ => rfl) (by omega) (by omega) ?_; intro q6 a6 c6 w6 HO6 HF6 HW6))
          have HR6 : Hid (Rs w w6 (.slice a6 (nl + 1) c6) (.slice none 0 0) (N ++ [st ++ [(x1, x2)]]) [] (vs ++ [.slice a5 (sl + 1) c5])) := hid (HR5.out.close (by rw [HNL.out]; exact HO6.out) HF6.out HW6.out (by rw [List.length_append, HSL.out]; have := HL.out; have := HP.out; simp; omega) HR.out.2)
          refine ⟨⟨en + 1, N ++ [st ++ [(x1, x2)]], [], _, by go_num, HENL.out, hid (by have := HL.out; have := HEN.out.1; rw [List.length_append, HNL.out]; simp; omega), hid ⟨HR6.out, by have := HR.out.2; simp [this]⟩, hid (by rw [HRR.out]; exact HRN.out)⟩, ?_⟩
          have := HENL.out; have := HEN.out.1
          simp [intOf]; omega
         ·rw [if_neg h44] at hF
          have HRN := hid hF
          have e44 : ((d.toNat : Int) == 44) = false := beqF (k := 44) (fun h => h44 (UInt8.toNat_inj.1 h))
          clear hF h44
          go_wp2_with (first | ((with_reducible refine K.atO (.index 9 _ _) ?_); refine idxZ HS HC rfl rfl rfl rfl ?_))
          refine (HRE2.out _).mono ?_
          rintro e w2 ⟨rfl, f2⟩
          have HR2 : Hid (Rs w w2 (.slice na nl nc) (.slice sa sl sc) N st vs) := hid (by have h := HR.out.1.fr f2; rw [HNL.out, HSL.out] at h; exact h)
          clear f2
          go_wp2_with (first | ((with_reducible refine K.atO (.slice 9 _ _ _ _) ?_); refine wpL_valZ (by rfl) (.string (sb x1)) (exec_twoB _ _ _ rfl s HS.out p q rfl rfl rfl hpq (by rw [HN.out]; exact HQN.out) x1 HX1.out _) ?_) | ((with_reducible refine K.atO (.buildSlice 175 _ _) ?_); refine wpL_app1o rfl rfl _ _ _ 175 191 rfl rfl Tryz.underlying175 infoAva rfl (by decide) (by decide) (n := sl) (cs := avs st) (by have := HR2.out.so; rw [HSL.out] at this; exact this) (.agg #[.string (sb x1), .string (sb x2)]) [.string (sb x1), .string (sb x2)] rfl rfl rfl (by simp [Value.oneCell']) (fun _ => rfl) (fun _ => rfl) (by omega) (by omega) ?_; intro q5 a5 c5 w5 HO5 HF5 HW5) | ((with_reducible refine K.atO (.index 9 _ _) ?_); refine idxZ HS HEC rfl rfl rfl rfl ?_))
          have HR5 : Hid (Rs w w5 (.slice na nl nc) (.slice a5 (sl + 1) c5) N (st ++ [(x1, x2)]) vs) := hid (HR2.out.step (x := (x1, x2)) (by rw [HSL.out]; exact HO5.out) HF5.out HW5.out HX12.out)
          refine ⟨⟨en + 1, N, st ++ [(x1, x2)], vs, by go_num, HENL.out, hid (by have := HL.out; have := HEN.out.1; rw [List.length_append, HSL.out, HNL.out]; simp; omega), hid ⟨HR5.out, HR.out.2⟩, hid (by rw [HRR.out]; exact HRN.out)⟩, ?_⟩
          have := HENL.out; have := HEN.out.1
          simp [intOf]; omega
      ·have e61 : ((c.toNat : Int) != 61) = true := by have : c.toNat ≠ 61 := fun e => h61 (UInt8.toNat_inj.1 e); simp; omega
       have HQ2 : Hid (∀ j c, p ≤ j → j < q + 1 → s[j]? = some c → c ≠ 61) := hid fun j d h1 h2 h3 => by
        by_cases hj : j = q
        ·subst hj
         rw [HC.out] at h3
         obtain rfl := Option.some.inj h3
         exact h61
        ·exact HQ.out j d h1 (by omega) h3
       clear h61 hc hlt
       go_wp2_with (first | ((with_reducible refine K.atO (.index 9 _ _) ?_); refine idxZ HS HC rfl rfl rfl rfl ?_))
       refine ⟨⟨q + 1, by go_num, by omega, HLT.out, trivial, HQ2⟩, ?_⟩
       have := HLT.out
       simp [intOf]; omega
     ·obtain rfl : q = n := by omega
      have HRN : Hid (none = RF) := hid (by
       have h := HF2.out
       have hc : cutEq (s.drop p) = none := by
        rw [cutEq_skip (q - p) (s.drop p) (fun j d hj hd => HQ.out (p + j) d (by omega) (by omega) (by rw [List.getElem?_drop] at hd; exact hd)) (by rw [List.length_drop, HN.out]; exact Nat.le_refl _), List.drop_drop, show p + (q - p) = q by omega, show s.drop q = [] from List.drop_of_length_le (by rw [HN.out]; exact Nat.le_refl _)]
        rfl
       have hA : readA (s.drop p) = none := by unfold readA; rw [hc]; rfl
       rw [hA] at h
       exact h)
      clear hlt hq
      go_wp2_with fail
      go_ret2
      have hpr := HPR.out
      rw [← HRN.out] at hpr
      rw [hpr]
      exact ⟨_, rfl, nm_nil _ _ _ _, HR.out.1.no.fr⟩
end Go.Proofs.YtgbiicipkbpmeaaGreatDoor.DN
namespace Go.Proofs.YtgbiicipkbpmeaaGreatDoor.FT
set_option maxRecDepth 100000
set_option maxHeartbeats 128000000
open Go.RowKit K BE DN SC
theorem parse_err {s : B} (h : (parse s).2 ≠ 0) : (parse s).1 = [] := by
 unfold parse at h ⊢
 split
 ·rfl
 ·rename_i h4
  rw [if_neg h4] at h
  cases hr : read s with
  | none => rfl
  | some n =>
   rw [hr] at h
   simp only at h ⊢
   split
   ·rename_i hb; rw [if_pos hb] at h; exact absurd rfl h
   ·rfl
theorem parse_small (s : B) : (parse s).1.length ≤ 1000 ∧ ∀ r ∈ (parse s).1, RdS r := by
 by_cases h : (parse s).2 = 0
 ·have hp : parse s = ((parse s).1, 0) := by rw [← h]
  obtain ⟨h1, -, h3, h4⟩ := parse_b hp
  exact ⟨by omega, fun r hr => ⟨by have := h4 r hr; omega, fun a ha => ((h1.2 r hr).2 a ha)⟩⟩
 ·rw [parse_err h]
  exact ⟨by simp, fun r hr => by cases hr⟩
def VaT (syn : Int) (v : B) (w : World) (e : Ending) (w' : World) : Prop := (∃ x, e = .returned (.tuple #[.string (sb x), .bool (normV syn v).isSome]) ∧ ∀ y, normV syn v = some y → x = y) ∧ Fr No w w'
theorem vat_of {syn : Int} {v x : B} {b : Bool} {w w' : World} {e : Ending} (he : e = .returned (.tuple #[.string (sb x), .bool b])) (hf : Fr No w w') (h : normV syn v = if b then some x else none) : VaT syn v w e w' := by
 refine ⟨⟨x, ?_, fun y hy => ?_⟩, hf⟩
 ·rw [he, h]; cases b <;> rfl
 ·rw [h] at hy
  cases b with
  | true => simpa using hy
  | false => simp at hy
theorem rvalue13_any (syn : Int) (v : B) (hv : Sz v) (h1 : 1 ≤ syn) (h5 : syn ≤ 5) (w : World) : Calls Tryz.prog 57 #[.int .i64 syn, .string (sb v)] w (VaT syn v w) := by
 obtain ⟨S, hS⟩ : ∃ S, sb v = S := ⟨_, rfl⟩
 obtain ⟨n, hn⟩ : ∃ n, v.length = n := ⟨_, rfl⟩
 have hsz : (S.size : Int) = n := by rw [← hS, sb_size, hn]
 have HS := hid hS; have HN := hid hn
 have hni : (n : Int) ≤ 140737488351232 := by unfold Sz at hv; omega
 rw [hS]
 by_cases h200 : 200 < n
 ·have hg : (200 : Int) < n := by omega
  have HE : Hid (normV syn v = none) := hid (by unfold normV; rw [if_pos (by omega)])
  clear hS hn hv h1 h5 h200
  go_enter Tryz.func57, Tryz.ntmps57
  go_wp2_with fail
  go_ret2
  exact vat_of (x := []) (b := false) rfl (Fr.refl _ _) HE.out
 ·have hg : ¬ (200 : Int) < n := by omega
  have HL := hid (show ¬ 200 < v.length by omega)
  have HV := hid (show v.length ≤ 4294967000 by omega)
  have hc : syn = 1 ∨ syn = 2 ∨ syn = 3 ∨ syn = 4 ∨ syn = 5 := by omega
  clear hS hn hv h1 h5 h200
  rcases hc with rfl | rfl | rfl | rfl | rfl
  ·have HE : Hid (normV 1 v = if !decide (fold v = []) then some (fold v) else none) := hid (by
    unfold normV
    rw [if_neg HL.out, if_pos rfl]
    by_cases h : fold v = [] <;> simp [h])
   obtain ⟨b, hb⟩ : ∃ b, (!decide (fold v = [])) = b := ⟨_, rfl⟩
   have HB := hid hb
   rw [hb] at HE
   clear hb
   go_enter Tryz.func57, Tryz.ntmps57
   go_wp2_with fail
   rw [← HS.out]
   refine (rfold_any v HV.out w).mono ?_
   rintro e w1 ⟨rfl, f1⟩
   have HF1 := hid f1
   clear f1
   go_wp2_with (first
    | ((with_reducible refine K.atO (.binOp .neq 9 _ _ _) ?_); refine wpL_valZ rfl (.bool b) (by rw [← HB.out]; exact exec_neS _ _ _ rfl (fold v) [] rfl rfl _) ?_))
   go_ret2
   exact vat_of rfl HF1.out HE.out
  ·have HE : Hid (normV 2 v = if true then some v else none) := hid (by
    unfold normV
    rw [if_neg HL.out, if_neg (by decide), if_pos rfl]; rfl)
   go_enter Tryz.func57, Tryz.ntmps57
   go_wp2_with fail
   go_ret2
   exact vat_of (x := v) (b := true) (by rw [← HS.out]; rfl) (Fr.refl _ _) (by rw [HE.out]; rfl)
  ·obtain ⟨b, hb⟩ : ∃ b, (numV v).isSome = b := ⟨_, rfl⟩
   have HE : Hid (normV 3 v = if b then some v else none) := hid (by
    unfold normV
    rw [if_neg HL.out, if_neg (by decide), if_neg (by decide), if_pos rfl, ← hb]
    cases numV v <;> rfl)
   have HNU := hid (number_any v HV.out w)
   rw [hb, HS.out] at HNU
   clear hb
   go_enter Tryz.func57, Tryz.ntmps57
   go_wp2_with fail
   refine HNU.out.mono ?_
   rintro e w1 ⟨rfl, f1⟩
   have HF1 := hid f1
   clear f1 HNU
   go_wp2_with fail
   go_ret2
   exact vat_of (by rw [← HS.out]; rfl) HF1.out HE.out
  ·obtain ⟨b, hb⟩ : ∃ b, decide ((parse v).2 = 0) = b := ⟨_, rfl⟩
   have HE : Hid (normV 4 v = if b then some (key (parse v).1) else none) := hid (by
    unfold normV
    rw [if_neg HL.out, if_neg (by decide), if_neg (by decide), if_neg (by decide), if_pos rfl, ← hb]
    by_cases h : (parse v).2 = 0 <;> simp [h])
   have HPS := hid (parse_small v)
   have HPA := hid (rParse_any v (by have := HV.out; unfold Sz; omega) w)
   obtain ⟨er, her⟩ : ∃ er, (parse v).2 = er := ⟨_, rfl⟩
   obtain ⟨N, hN⟩ : ∃ N, (parse v).1 = N := ⟨_, rfl⟩
   rw [her] at hb HPA
   rw [hN] at HE HPS HPA
   rw [HS.out] at HPA
   have HB : Hid ((er == 0) = b) := hid (by rw [← hb]; by_cases h : er = 0 <;> simp [h])
   clear hb her hN
   go_enter Tryz.func57, Tryz.ntmps57
   go_wp2_with fail
   refine HPA.out.mono ?_
   rintro e w1 ⟨v1, rfl, hn1, f1⟩
   obtain ⟨na, nc, rfl, -, -⟩ := hn1.form
   have HN1 := hid hn1; have HF1 := hid f1
   obtain ⟨q, hq⟩ : ∃ q, N.length = q := ⟨_, rfl⟩
   rw [hq] at HN1 ⊢
   have HK := hid (rkey_any _ N w1 hn1 HPS.out.1 HPS.out.2)
   rw [hq] at HK
   clear hn1 f1 HPA hq
   go_wp2_with fail
   refine HK.out.mono ?_
   rintro e w2 ⟨rfl, f2⟩
   have HF2 := hid (HF1.out.trans' f2)
   have hbb := HB.out
   clear f2 HK
   go_wp2_with fail
   go_ret2
   exact vat_of rfl HF2.out HE.out
  ·have HSM := hid (smallZ_any v (by have := HV.out; unfold Sz; omega) w)
   rw [HS.out] at HSM
   by_cases ht : low v = tTrue
   ·have HE : Hid (normV 5 v = if true then some [84, 82, 85, 69] else none) := hid (by
     unfold normV truth
     rw [if_neg HL.out, if_neg (by decide), if_neg (by decide), if_neg (by decide), if_neg (by decide), if_pos ht]; rfl)
    have HT := hid (show decide (low v = tTrue) = true from decide_eq_true ht)
    clear ht
    go_enter Tryz.func57, Tryz.ntmps57
    go_wp2_with fail
    refine HSM.out.mono ?_
    rintro e w1 ⟨rfl, f1⟩
    have HF1 := hid f1
    clear f1 HSM
    go_wp2_with (first
     | ((with_reducible refine K.atO (.binOp .eql 9 _ _ _) ?_); refine wpL_valZ rfl (.bool true) (exec_eqQ _ _ _ rfl (low v) tTrue rfl rfl _ HT.out rfl rfl _) ?_))
    go_ret2
    exact vat_of rfl HF1.out HE.out
   ·obtain ⟨b, hb⟩ : ∃ b, decide (low v = tFalse) = b := ⟨_, rfl⟩
    have HE : Hid (normV 5 v = if b then some [70, 65, 76, 83, 69] else none) := hid (by
     unfold normV truth
     rw [if_neg HL.out, if_neg (by decide), if_neg (by decide), if_neg (by decide), if_neg (by decide), if_neg ht, ← hb]
     by_cases h : low v = tFalse <;> simp [h])
    have HT := hid (show decide (low v = tTrue) = false from decide_eq_false ht)
    have HB := hid hb
    clear ht hb
    go_enter Tryz.func57, Tryz.ntmps57
    go_wp2_with fail
    refine HSM.out.mono ?_
    rintro e w1 ⟨rfl, f1⟩
    have HF1 := hid f1
    clear f1 HSM
    go_wp2_with (first
     | ((with_reducible refine K.atO (.binOp .eql 9 _ _ _) ?_); (fail_if_success (have := HA1)); refine wpL_valZ rfl (.bool false) (exec_eqQ _ _ _ rfl (low v) tTrue rfl rfl _ HT.out rfl rfl _) ?_; have HA1 := hid trivial)
     | ((with_reducible refine K.atO (.binOp .eql 9 _ _ _) ?_); refine wpL_valZ rfl (.bool b) (exec_eqQ _ _ _ rfl (low v) tFalse rfl rfl _ HB.out rfl rfl _) ?_))
    go_ret2
    exact vat_of rfl HF1.out HE.out
end Go.Proofs.YtgbiicipkbpmeaaGreatDoor.FT
namespace Go.Proofs.YtgbiicipkbpmeaaGreatDoor.SC
set_option maxRecDepth 100000
set_option maxHeartbeats 128000000
open Go.RowKit K BE DN
theorem rfind_any {S S2 : Nat → Prop} (vt vc : Value) (s : Sch) (m : B) (w : World) (h : TysIn S w vt s.tys) (hy : ClsIn S2 w vc s.cls) (hz : Sz m) : Calls Tryz.prog 29 #[.agg #[vt, vc], .string (sb m)] w fun e w' => e = .returned (.int .i64 (idxI s.tys fun a => low a.nm == low m)) ∧ Fr No w w' := by
 obtain ⟨va, vcp, e0, -, hle⟩ := h.form
 obtain ⟨n, hn⟩ : ∃ n, s.tys.length = n := ⟨_, rfl⟩
 have HE := hid h; have HN := hid hn; have HM := hid hz
 obtain ⟨a2, n2, c2, e2⟩ : ∃ a n c, vc = .slice a n c := by obtain ⟨a, c, e, -⟩ := hy.form; exact ⟨_, _, _, e⟩
 rw [e0] at HE ⊢
 rw [e2]
 rw [hn] at HE hle ⊢
 obtain ⟨X, hX⟩ : ∃ X, s.tys = X := ⟨_, rfl⟩
 rw [hX] at HE HN ⊢
 obtain ⟨R, hR⟩ : ∃ R, idxI X (fun a => low a.nm == low m) = R := ⟨_, rfl⟩
 have HR := hid hR
 rw [hR]
 have hni : (n : Int) ≤ 140737488351232 := by omega
 clear h hy hn hz hR hX e0 e2
 go_enter Tryz.func29, Tryz.ntmps29
 go_wp2_with (first
  | ((with_reducible refine K.atO (.box 25 _) ?_); refine wpL_box rfl _ _ rfl _ rfl [.slice va n vcp, .slice a2 n2 c2] rfl ?_; intro w1 HB1 HF1 HS1; refine Hid.out ?_))
 obtain ⟨b, hb⟩ : ∃ b, w.heap.size = b := ⟨_, rfl⟩
 rw [hb] at HB1 ⊢
 clear hb HS1
 refine hid ?_
 go_wp2_with fail
 refine (smallZ_any m HM.out w1).mono ?_
 rintro e w2 ⟨rfl, f1⟩
 have HF2 := hid (HF1.out.trans' f1)
 have HB2 := hid (HB1.out.fr f1 id)
 clear f1
 go_wp2_with fail
 go_loopw [6] (fun iv wr => ∃ (i : Nat), iv = .int .i64 i ∧ i ≤ n ∧ Hid ((X.take i).any (fun a => low a.nm == low m) = false ∧ Fr No w wr ∧ Blk wr b 25 [.slice va n vcp, .slice a2 n2 c2])) (fun iv _ => n - (intOf iv).toNat)
 case atStart => exact ⟨0, rfl, Nat.zero_le _, hid ⟨rfl, HF2.out, HB2.out⟩⟩
 case round =>
  obtain ⟨i, rfl, hi, HI⟩ := hrel
  have cb : wr.cell? ⟨b, 0, none⟩ = some (.slice va n vcp) := HI.out.2.2.cell 0
  by_cases hlt : i < n
  ·have hiX : i < X.length := by rw [HN.out]; exact hlt
   obtain ⟨x, hx⟩ : ∃ x, X[i]? = some x := ⟨_, List.getElem?_eq_getElem hiX⟩
   have hlti : (i : Int) < n := by omega
   have hi0 : (0 : Int) ≤ i := by omega
   obtain ⟨g, o, cq, cs, e1, -, -, hr, -, hp⟩ := (TysIn.fr (D := No) HE.out HI.out.2.1 (fun _ _ _ e => e)).get hx
   rw [HN.out] at e1
   obtain ⟨rfl, rfl⟩ := K.sj e1
   obtain ⟨rfl, hznm⟩ := hp
   have d0 : wr.cell? ⟨g, o + i * 6, none⟩ = some (.string (sb x.nm)) := by have := hr 0 _ rfl; simpa using this
   have HZN := hid hznm
   have HXX := hid hx
   have HLT := hid hlt
   have HNX : Hid ((X.take (i + 1)).any (fun a => low a.nm == low m) = ((low x.nm == low m) || false)) := hid (by
    have hxx : X[i] = x := by rw [List.getElem?_eq_getElem hiX] at hx; exact Option.some.inj hx
    rw [List.take_succ_eq_append_getElem hiX, List.any_append, HI.out.1, hxx]; simp)
   obtain ⟨nm, hnm⟩ : ∃ nm, x.nm = nm := ⟨_, rfl⟩
   have HNM := hid hnm
   rw [hnm] at HZN HNX d0
   clear hr hznm hx hlt hiX hnm
   go_wp2_with fail
   refine (smallZ_any nm HZN.out wr).mono ?_
   rintro e w3 ⟨rfl, f2⟩
   have HF3 := hid (HI.out.2.1.trans' f2); have HB3 := hid (HI.out.2.2.fr f2 id)
   clear f2 d0 cb
   cases hq : (low nm == low m) with
   | true =>
    have HQ := hid hq
    have HQE : Hid (decide (low nm = low m) = true) := hid (by simpa using hq)
    clear hq
    go_wp2_with (first
     | ((with_reducible refine K.atO (.binOp .eql 9 _ _ _) ?_); refine wpL_valZ rfl (.bool true) (by rw [← HQE.out]; exact exec_eqS _ _ _ rfl (low nm) (low m) rfl rfl _) ?_))
    go_ret
    exact ⟨by rw [← HR.out, idx_at HI.out.1 HXX.out (by rw [HNM.out]; exact HQ.out)]; rfl, HF3.out⟩
   | false =>
    have HQ := hid hq
    have HQE : Hid (decide (low nm = low m) = false) := hid (by simpa using hq)
    clear hq
    go_wp2_with (first
     | ((with_reducible refine K.atO (.binOp .eql 9 _ _ _) ?_); refine wpL_valZ rfl (.bool false) (by rw [← HQE.out]; exact exec_eqS _ _ _ rfl (low nm) (low m) rfl rfl _) ?_))
    refine ⟨⟨i + 1, by go_num, HLT.out, hid ⟨by rw [HNX.out, HQ.out]; rfl, HF3.out, HB3.out⟩⟩, ?_⟩
    have := HLT.out
    simp [intOf]; omega
  ·obtain rfl : i = n := by omega
   go_wp2_with fail
   go_ret
   refine ⟨?_, HI.out.2.1⟩
   have h1 := HI.out.1
   rw [List.take_of_length_le (by rw [HN.out]; exact Nat.le_refl _)] at h1
   rw [← HR.out, idx_none h1]
   rfl
end Go.Proofs.YtgbiicipkbpmeaaGreatDoor.SC
namespace Go.Proofs.YtgbiicipkbpmeaaGreatDoor.FT
set_option maxRecDepth 100000
set_option maxHeartbeats 128000000
open Go.RowKit K BE DN SC
theorem tyAt_idx (s : Sch) (n : B) : idxI s.tys (fun a => low a.nm == low n) = match s.tyAt n with | none => -1 | some i => (i : Int) := by
 unfold Sch.tyAt Sch.tn
 rw [fnd_ty]
 unfold idxI
 cases s.tys.findIdx? fun a => low a.nm == low n <;> rfl
theorem syn_ok {s : Sch} (hk : okS s = true) {n : B} {i : Nat} (h : s.tyAt n = some i) : 1 ≤ (tyOf s n).syn ∧ (tyOf s n).syn ≤ 5 := by
 have h2 := ((okS_iff s).1 hk).2.2.1 i _ (tyAt_tys h)
 unfold rT at h2
 simp only [Bool.and_eq_true, decide_eq_true_eq] at h2
 exact h2.2
theorem infoSc5 : (Tryz.prog.info? 25).map (·.size) = some 2 := by kernel_rfl
theorem rnorm13_any {S S2 : Nat → Prop} (vt vc : Value) (s : Sch) (n v : B) (w : World) (h : TysIn S w vt s.tys) (hy : ClsIn S2 w vc s.cls) (hk : okS s = true) (hn : Sz n) (hv : Sz v) :
  Calls Tryz.prog 66 #[.agg #[vt, vc], .string (sb n), .string (sb v)] w fun e w' => e = .returned (.tuple #[.string (sb (normE s n v).1), .int .i64 (normE s n v).2]) ∧ Fr No w w' := by
 have HT := hid h; have HC := hid hy; have HK := hid hk; have HN := hid hn; have HV := hid hv
 obtain ⟨va, vcp, e0, -, hle⟩ := h.form
 obtain ⟨c2, n2, cc2, e2⟩ : ∃ a n c, vc = .slice a n c := by obtain ⟨a, c, e, -⟩ := hy.form; exact ⟨_, _, _, e⟩
 obtain ⟨N, hN⟩ : ∃ N, s.tys.length = N := ⟨_, rfl⟩
 have HNN := hid hN
 subst e0 e2
 rw [hN] at HT hle ⊢
 have hNi : (N : Int) ≤ 140737488351232 := by omega
 clear h hy hk hn hv hN hle
 go_enter Tryz.func66, Tryz.ntmps66
 go_wp2_with (first
  | ((with_reducible refine K.atO (.box 25 _) ?_); refine wpL_box rfl _ _ rfl _ rfl [.slice va N vcp, .slice c2 n2 cc2] rfl ?_; intro w1 HB1 HF1 HS1; refine Hid.out ?_))
 obtain ⟨b, hb⟩ : ∃ b, w.heap.size = b := ⟨_, rfl⟩
 rw [hb] at HB1 ⊢
 have HT1 := hid (TysIn.fr (D := No) HT.out HF1.out (fun _ _ _ e => e)); have HC1 := hid (ClsIn.fr (D := No) HC.out HF1.out (fun _ _ _ e => e))
 have HLD := hid (HB1.out.range 0 [.slice va N vcp, .slice c2 n2 cc2] rfl)
 clear hb HS1
 refine hid ?_
 go_wp2_with (first
  | ((with_reducible refine K.atO (.load 25 _) ?_); refine wpL_valZ rfl (.agg #[.slice va N vcp, .slice c2 n2 cc2]) (exec_load _ (.tmp 3) rfl b 0 rfl [.slice va N vcp, .slice c2 n2 cc2] _ rfl rfl infoSc5 w1 HLD.out) ?_))
 refine (rfind_any _ _ s n w1 HT1.out HC1.out HN.out).mono ?_
 rintro e w2 ⟨rfl, f2⟩
 rw [tyAt_idx]
 have HF2 := hid (HF1.out.trans' f2)
 have HB2 := hid (HB1.out.fr f2 id)
 have HT2 := hid (TysIn.fr (D := No) HT1.out f2 (fun _ _ _ e => e))
 clear f2
 cases hat : s.tyAt n with
 | none =>
  have HE : Hid (normE s n v = ([], 131)) := hid (normE_none hat)
  clear hat
  go_wp2_with fail
  go_ret2
  exact ⟨by rw [HE.out]; rfl, HF2.out⟩
 | some i =>
  obtain ⟨g, o, cq, cs, e1, -, -, hr, -, hp⟩ := HT2.out.get (tyAt_tys hat)
  rw [HNN.out] at e1
  obtain ⟨rfl, rfl⟩ := K.sj e1
  obtain ⟨rfl, hznm⟩ := hp
  have d1 : w2.cell? ⟨g, o + i * 6 + 1, none⟩ = some (.int .i64 (tyOf s n).syn) := hr 1 _ rfl
  have hiN : (i : Int) < N := by have := (List.getElem?_eq_some_iff.1 (tyAt_tys hat)).1; rw [HNN.out] at this; omega
  have hi0 : (0 : Int) ≤ i := by omega
  have hineg : ¬ ((i : Int) < 0) := by omega
  have cb : w2.cell? ⟨b, 0, none⟩ = some (.slice (some ⟨g, o, none⟩) N vcp) := HB2.out.cell 0
  obtain ⟨s1, s5⟩ := syn_ok HK.out hat
  have HE := hid (normE_some (v := v) hat)
  have HRV := hid (rvalue13_any (tyOf s n).syn v HV.out s1 s5 w2)
  obtain ⟨sy, hsy⟩ : ∃ sy, (tyOf s n).syn = sy := ⟨_, rfl⟩
  rw [hsy] at d1 HE HRV
  clear hat hr hznm s1 s5 hsy
  go_wp2_with fail
  refine HRV.out.mono ?_
  rintro e w3 ⟨⟨x, rfl, hx⟩, f3⟩
  have HF3 := hid (HF2.out.trans' f3)
  clear f3 HRV d1 cb
  cases hnv : normV sy v with
  | none =>
   have HE2 : Hid (normE s n v = ([], 132)) := hid (by rw [HE.out, hnv])
   rw [show (none : Option B).isSome = false from rfl]
   clear hnv hx
   go_wp2_with fail
   go_ret2
   exact ⟨by rw [HE2.out]; rfl, HF3.out⟩
  | some y =>
   obtain rfl := hx y hnv
   have HE2 : Hid (normE s n v = (x, 0)) := hid (by rw [HE.out, hnv])
   rw [show (some x).isSome = true from rfl]
   clear hnv hx
   go_wp2_with fail
   go_ret2
   exact ⟨by rw [HE2.out]; rfl, HF3.out⟩
end Go.Proofs.YtgbiicipkbpmeaaGreatDoor.FT
