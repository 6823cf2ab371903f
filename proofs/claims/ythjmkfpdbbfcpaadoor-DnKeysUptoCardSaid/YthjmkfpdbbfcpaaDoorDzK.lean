/-
  DnKeys.
-/
import Derived.Test.YthjmkfpdbbfcpaaDoorDzB
set_option linter.unusedVariables false
set_option linter.unusedSimpArgs false
namespace Go.Proofs.YthjmkfpdbbfcpaaDoor.DN
set_option maxRecDepth 100000
open Go.RowKit K Go.Proofs.YthjmkfpdbbfcpaaDoor.BE

theorem exec_eqB {op : Oper} {a : Act} (x y : Operand) (u : TypeId) (ho : op.op = .binOp .eql 9 x y u) (p q : B) {A C : ByteArray} (hA : sb p = A) (hC : sb q = C) (r : Bool) (hr : decide (p = q) = r) (hx : a.eval x = .string A) (hy : a.eval y = .string C) (w : World) :
    (execOp a.eval op).run Tryd.prog w = .ok (.value (.bool r)) w := by
  subst hA hC
  exact exec_eqT x y u ho p q r hr hx hy w
theorem exec_toB {op : Oper} {a : Act} (x h : Operand) (ho : op.op = .slice 9 x none (some h) none) (l : B) (k : Nat) {A C : ByteArray} (hA : sb l = A) (hC : sb (l.take k) = C) (hx : a.eval x = .string A) (hh : a.eval h = .int .i64 (k : Int)) (h2 : k ≤ l.length) (w : World) :
    (execOp a.eval op).run Tryd.prog w = .ok (.value (.string C)) w := by
  subst hA hC
  exact exec_to x h ho l k hx hh h2 _ rfl w
set_option maxHeartbeats 16000000 in
theorem dnKeys_walk {E E2 : Nat → Prop} (v : Value) (n : Nm) (v2 : Value) (m : Nm) (w : World) (hG : Gl w) (hn : NmIn E w v n) (hb : NmB 1048576 n) (hm : NmIn E2 w v2 m) (hb2 : NmB 1048576 m) : Calls Tryd.prog 4 #[v, v2] w fun e w' => e = .returned (.bool true) ∧ Fr No w w' := by
  have HG := hid hG
  have HN := hid hn; have HM := hid hm
  have HB := hid hb; have HB2 := hid hb2
  obtain ⟨a, cp, rfl, -, -⟩ := hn.form
  obtain ⟨a2, cp2, rfl, -, -⟩ := hm.form
  obtain ⟨R, hR⟩ : ∃ R, right n = R := ⟨_, rfl⟩
  obtain ⟨R2, hR2⟩ : ∃ R, right m = R := ⟨_, rfl⟩
  have HR := hid hR; have HR2 := hid hR2
  clear hG hn hb hR hm hb2 hR2
  go_enter Tryd.func4, Tryd.ntmps4
  go_wp2_with fail
  refine (awake_any w HG.out).mono ?_
  rintro e1 w1 ⟨rfl, f1⟩
  have HF1 := hid f1
  clear f1
  go_wp2_with fail
  have H2 := right_any E _ n w1 (HN.out.no HF1.out) HB.out
  rw [HR.out] at H2
  refine H2.mono ?_
  rintro e2 w2 ⟨rfl, f2⟩
  have HF2 := hid (HF1.out.trans' f2)
  clear f2 H2
  go_wp2_with fail
  have H3 := right_any E2 _ m w2 (HM.out.no HF2.out) HB2.out
  rw [HR2.out] at H3
  refine H3.mono ?_
  rintro e3 w3 ⟨rfl, f3⟩
  have HF3 := hid (HF2.out.trans' f3)
  clear f3 H3
  cases R with
  | false =>
    go_wp2_with fail
    go_ret
    exact ⟨rfl, HF3.out⟩
  | true =>
  cases R2 with
  | false =>
    go_wp2_with fail
    go_ret
    exact ⟨rfl, HF3.out⟩
  | true =>
    have hbn : built n = true := by have h := HR.out; unfold right at h; rw [Bool.and_eq_true] at h; exact h.1
    have hbm : built m = true := by have h := HR2.out; unfold right at h; rw [Bool.and_eq_true] at h; exact h.1
    obtain ⟨n16, n4, nS⟩ := built_b hbn
    obtain ⟨m16, m4, mS⟩ := built_b hbm
    have H4 := hid (fun W (hf : Fr No w W) => key_any E _ n W (HN.out.no hf) HB.out nS n16 n4)
    have H5 := hid (fun W (hf : Fr No w W) => key_any E2 _ m W (HM.out.no hf) HB2.out mS m16 m4)
    have H6 := hid (fun W (hf : Fr No w W) => under_any E E2 _ _ n m W (HN.out.no hf) (HM.out.no hf) HB.out HB2.out nS mS)
    have H7 := hid (fun W (hf : Fr No w W) => same_any E E2 _ _ n m W (HN.out.no hf) (HM.out.no hf) HB.out HB2.out nS mS)
    have hu : under n m = decide (key m <+: key n) := by
      have := under_key hbn hbm
      by_cases hp : key m <+: key n
      · rw [decide_eq_true hp]; exact this.2 hp
      · rw [decide_eq_false hp]
        cases hx : under n m
        · rfl
        · exact absurd (this.1 hx) hp
    have hs : decide (norm n = norm m) = decide (key n = key m) := by
      have := same_key hbn hbm
      by_cases hp : key n = key m
      · rw [decide_eq_true hp]; exact decide_eq_true (this.2 hp)
      · rw [decide_eq_false hp]; exact decide_eq_false (fun e => hp (this.1 e))
    rw [hu] at H6
    rw [hs] at H7
    obtain ⟨k, hk⟩ : ∃ k, key n = k := ⟨_, rfl⟩
    obtain ⟨l, hl⟩ : ∃ k, key m = k := ⟨_, rfl⟩
    rw [hk] at H4 H6 H7
    rw [hl] at H5 H6 H7
    obtain ⟨SK, hSK⟩ : ∃ S, sb k = S := ⟨_, rfl⟩
    obtain ⟨SL, hSL⟩ : ∃ S, sb l = S := ⟨_, rfl⟩
    obtain ⟨ST, hST⟩ : ∃ S, sb (k.take l.length) = S := ⟨_, rfl⟩
    have hzk : (SK.size : Int) = k.length := by rw [← hSK, sb_size]
    have hzl : (SL.size : Int) = l.length := by rw [← hSL, sb_size]
    have HSK := hid hSK; have HSL := hid hSL; have HST := hid hST
    rw [hSK] at H4
    rw [hSL] at H5
    obtain ⟨U, hU⟩ : ∃ U, decide (l <+: k) = U := ⟨_, rfl⟩
    obtain ⟨Q, hQ⟩ : ∃ Q, decide (k = l) = Q := ⟨_, rfl⟩
    rw [hU] at H6
    rw [hQ] at H7
    have HU := hid hU; have HQ := hid hQ
    have HT : Hid (l.length ≤ k.length → decide (k.take l.length = l) = U) := hid (fun hlen => by
      rw [← hU]
      congr 1
      rw [eq_iff_iff]
      constructor
      · intro e; rw [← e]; exact List.take_prefix _ _
      · intro h; exact (List.prefix_iff_eq_take.1 h).symm)
    have HT0 : Hid (¬ l.length ≤ k.length → U = false) := hid (fun hlen => by
      rw [← hU]
      exact decide_eq_false (fun h => hlen h.length_le))
    clear hbn hbm n16 n4 nS m16 m4 mS hu hs hk hl hSK hSL hST hU hQ
    go_wp2_with fail
    refine (H4.out w3 HF3.out).mono ?_
    rintro e4 w4 ⟨rfl, f4⟩
    have HF4 := hid (HF3.out.trans' f4)
    clear f4
    go_wp2_with fail
    refine (H5.out w4 HF4.out).mono ?_
    rintro e5 w5 ⟨rfl, f5⟩
    have HF5 := hid (HF4.out.trans' f5)
    clear f5
    go_wp2_with fail
    refine (H6.out w5 HF5.out).mono ?_
    rintro e6 w6 ⟨rfl, f6⟩
    have HF6 := hid (HF5.out.trans' f6)
    clear f6
    go_wp2_with fail
    refine (H7.out w6 HF6.out).mono ?_
    rintro e7 w7 ⟨rfl, f7⟩
    have HF7 := hid (HF6.out.trans' f7)
    clear f7
    obtain ⟨kl, hkl⟩ : ∃ x, k.length = x := ⟨_, rfl⟩
    obtain ⟨ll, hll⟩ : ∃ x, l.length = x := ⟨_, rfl⟩
    rw [hkl] at hzk HT HT0
    rw [hll] at hzl HT HT0 HST
    have HKL := hid hkl
    by_cases hlen : ll ≤ kl
    · have hleni : (ll : Int) ≤ kl := by omega
      have HMIN := hid (show min (kl : Int) ll = ll by omega)
      have HT1 := hid (HT.out hlen)
      clear HT HT0 hkl hll
      go_wp2_with (first
        | ((with_reducible refine K.atO (.slice 9 _ _ _ _) ?_); refine wpL_valZ (by rfl) (.string ST) (exec_toB _ _ rfl k ll HSK.out HST.out rfl (by exact congrArg (Value.int .i64) HMIN.out) (by rw [HKL.out]; exact hlen) _) ?_)
        | ((with_reducible refine K.atO (.binOp .eql 9 _ _ _) ?_); refine wpL_valZ (by rfl) (.bool U) (exec_eqB _ _ _ rfl (k.take ll) l HST.out HSL.out U HT1.out rfl rfl _) ?_)
        | ((with_reducible refine K.atO (.binOp .eql 9 _ _ _) ?_); refine wpL_valZ (by rfl) (.bool Q) (exec_eqB _ _ _ rfl k l HSK.out HSL.out Q HQ.out rfl rfl _) ?_)
        | fail)
      go_ret
      exact ⟨rfl, HF7.out⟩
    · have hleni : ¬ (ll : Int) ≤ kl := by omega
      obtain rfl := HT0.out hlen
      clear HT HT0 hkl hll
      go_wp2_with (first
        | ((with_reducible refine K.atO (.binOp .eql 9 _ _ _) ?_); refine wpL_valZ (by rfl) (.bool Q) (exec_eqB _ _ _ rfl k l HSK.out HSL.out Q HQ.out rfl rfl _) ?_)
        | fail)
      go_ret
      exact ⟨rfl, HF7.out⟩
end Go.Proofs.YthjmkfpdbbfcpaaDoor.DN
