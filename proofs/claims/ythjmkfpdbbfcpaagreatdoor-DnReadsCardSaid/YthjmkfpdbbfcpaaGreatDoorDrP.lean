/-
  The document's Parse.
-/
import Derived.Test.YthjmkfpdbbfcpaaGreatDoorDrR
import Derived.Test.YthjmkfpdbbfcpaaGreatDoorDrH
import Derived.Test.YthjmkfpdbbfcpaaGreatDoorDnLn
import Derived.Test.YthjmkfpdbbfcpaaGreatDoorDnRd
set_option linter.unusedVariables false
set_option linter.unusedSimpArgs false
namespace Go.Proofs.YthjmkfpdbbfcpaaGreatDoor.DN
set_option maxRecDepth 100000
open Go.RowKit K Go.Proofs.YthjmkfpdbbfcpaaGreatDoor.BE

theorem exec_eqE {op : Oper} {a : Act} (x y : Operand) (u : TypeId) (ho : op.op = .binOp .eql 9 x y u) (p q : B) {A C : ByteArray} (hA : sb p = A) (hC : sb q = C) (r : Bool) (hr : decide (p = q) = r) (hx : a.eval x = .string A) (hy : a.eval y = .string C) (w : World) :
    (execOp a.eval op).run Tryz.prog w = .ok (.value (.bool r)) w := by
  subst hA hC
  exact exec_eqT x y u ho p q r hr hx hy w
theorem exec_twoB {op : Oper} {a : Act} (x g h : Operand) (ho : op.op = .slice 9 x (some g) (some h) none) (l : B) {S : ByteArray} (hS : sb l = S) (m k : Nat) (hx : a.eval x = .string S) (hg : a.eval g = .int .i64 (m : Int)) (hh : a.eval h = .int .i64 (k : Int)) (h1 : m ≤ k) (h2 : k ≤ l.length) (r : B) (hr : (l.drop m).take (k - m) = r) (w : World) :
    (execOp a.eval op).run Tryz.prog w = .ok (.value (.string (sb r))) w := by
  subst hS
  exact exec_two x g h ho l m k hx hg hh h1 h2 r hr w
theorem cutEq_skip : ∀ (k : Nat) (t : B), (∀ j c, j < k → t[j]? = some c → c ≠ 61) → k ≤ t.length → cutEq t = (cutEq (t.drop k)).map fun x => (t.take k ++ x.1, x.2)
  | 0, t, _, _ => by
    cases h : cutEq t <;> simp [h]
  | k + 1, [], _, hk => by simp at hk
  | k + 1, c :: t, h, hk => by
    have hc := h 0 c (by omega) rfl
    have ih := cutEq_skip k t (fun j d hj hd => h (j + 1) d (by omega) (by simpa using hd)) (by simpa using hk)
    rw [show cutEq (c :: t) = (cutEq t).map fun x => (c :: x.1, x.2) by rw [cutEq, if_neg hc], ih]
    simp only [List.drop_succ_cons, List.take_succ_cons, Option.map_map]
    rfl
theorem one_suf {den r r' : B} {c d : UInt8} {b : Bool} (h : one den c r = some (d, b, r')) : ∃ pre, r = pre ++ r' := by
  unfold one at h
  split at h
  · cases he : esc r with
    | none => rw [he] at h; cases h
    | some x =>
      obtain ⟨d', r''⟩ := x
      rw [he] at h
      simp only [Option.map_some, Option.some.injEq, Prod.mk.injEq] at h
      obtain ⟨-, -, rfl⟩ := h
      have := (esc_drop he).1
      exact ⟨r.take (r.length - r''.length), by have h2 := List.take_append_drop (r.length - r''.length) r; rw [this] at h2; exact h2.symm⟩
  · split at h
    · cases h
    · split at h
      · cases h
      · cases h; exact ⟨[], rfl⟩
theorem rvF_suf : ∀ (f : Nat) (den : B) (b : Bool) (s v r : B), rvF f den b s = some (v, r) → ∃ pre, s = pre ++ r
  | 0, _, _, _, _, _, h => by cases h
  | f + 1, den, b, [], v, r, h => by
    unfold rvF at h
    cases b
    · cases h; exact ⟨[], rfl⟩
    · cases h
  | f + 1, den, b, c :: s, v, r, h => by
    unfold rvF at h
    split at h
    · cases b
      · cases h; exact ⟨[], rfl⟩
      · cases h
    · cases ho : one den c s with
      | none => rw [ho] at h; cases h
      | some x =>
        obtain ⟨d, bb, r'⟩ := x
        rw [ho] at h
        obtain ⟨p1, h1⟩ := one_suf ho
        obtain ⟨p2, h2⟩ := rvF_suf f _ _ _ _ _ h
        dsimp only at h2
        exact ⟨c :: (p1 ++ p2), by rw [h1, h2]; simp⟩
theorem rv_end {s v r : B} {q : Nat} (h : rv (s.drop q) = some (v, r)) (hq : q ≤ s.length) : s.drop (s.length - r.length) = r ∧ q ≤ s.length - r.length ∧ r.length ≤ s.length := by
  obtain ⟨pre, hp⟩ := rvF_suf _ _ _ _ _ _ h
  have hl := congrArg List.length hp
  rw [List.length_drop, List.length_append] at hl
  have hs : s = (s.take q ++ pre) ++ r := by rw [List.append_assoc, ← hp, List.take_append_drop]
  refine ⟨?_, by omega, by omega⟩
  obtain ⟨A, hA⟩ : ∃ A, s.take q ++ pre = A := ⟨_, rfl⟩
  rw [hA] at hs
  rw [hs]
  simp
set_option maxHeartbeats 32000000 in
theorem rParse_any (s : B) (hz : Sz s) (w : World) : Calls Tryz.prog 6 #[.string (sb s)] w fun e w' => ∃ v, e = .returned (.tuple #[v, .int .i64 (parse s).2]) ∧ NmIn (fun _ => True) w' v (parse s).1 ∧ Fr No w w' := by
  obtain ⟨S, hS⟩ : ∃ S, sb s = S := ⟨_, rfl⟩
  have HS := hid hS
  by_cases h4 : 400 < s.length
  · have hp : parse s = ([], 2) := by rw [parse_eq, if_pos h4]
    rw [hp]
    have hsz : (S.size : Int) = s.length := by rw [← hS, sb_size]
    rw [hS]
    have h1 : (400 : Int) < (S.size : Int) := by omega
    clear hp hS hsz h4 hz
    go_enter Tryz.func6, Tryz.ntmps6
    go_wp2_with fail
    go_ret2
    exact ⟨_, rfl, nm_nil _ _ _ _, Fr.refl _ _⟩
  · obtain ⟨n, hn⟩ : ∃ n, s.length = n := ⟨_, rfl⟩
    have HN := hid hn
    have hsz : (S.size : Int) = n := by rw [← hS, sb_size, hn]
    have hn4 : (n : Int) ≤ 400 := by omega
    have hp0 : parse s = match read s with
      | none => (([] : Nm), (120 : Int))
      | some n => if built n then (n, (0 : Int)) else (([] : Nm), (120 : Int)) := by rw [parse_eq, if_neg h4]; cases read s <;> rfl
    by_cases h0 : s = []
    · have hp : parse s = ([], 0) := by rw [h0]; rfl
      rw [hp, hS]
      clear hp0 hp hz h4 hn hS
      go_enter Tryz.func6, Tryz.ntmps6
      go_wp2_with (first
        | ((with_reducible refine K.atO (.binOp .eql 9 _ _ _) ?_); refine wpL_valZ (by rfl) (.bool true) (exec_eqE _ _ _ rfl s [] HS.out rfl true (by exact decide_eq_true h0) rfl rfl _) ?_)
        | fail)
      go_ret2
      exact ⟨_, rfl, nm_nil _ _ _ _, Fr.refl _ _⟩
    · obtain ⟨RF, hRF⟩ : ∃ RF, read s = RF := ⟨_, rfl⟩
      have HRF : Hid (readF (s.length + 1) [] [] s = RF) := hid (by unfold read at hRF; rw [if_neg h0] at hRF; exact hRF)
      have HRD := hid hRF
      rw [hRF] at hp0
      obtain ⟨PR, hPR⟩ : ∃ PR, parse s = PR := ⟨_, rfl⟩
      rw [hPR] at hp0 ⊢
      have HPR := hid hp0
      have HN0 := hid (show decide (s = []) = false from decide_eq_false h0)
      have HS4 := hid (show s.length ≤ 400 by omega)
      rw [hS]
      clear hp0 hPR hRF h0 h4 hn hS hz
      go_enter Tryz.func6, Tryz.ntmps6
      go_wp2_with (first
        | ((with_reducible refine K.atO (.binOp .eql 9 _ _ _) ?_); refine wpL_valZ (by rfl) (.bool false) (exec_eqE _ _ _ rfl s [] HS.out rfl false HN0.out rfl rfl _) ?_)
        | fail)
      go_loopw [4, 5, 6] (fun nv sv pv wr => ∃ (p : Nat) (N : Nm) (st : Rd) (vs : List Value), pv = .int .i64 p ∧ p ≤ n ∧ Hid (N.length + st.length ≤ p) ∧ Hid (Rs w wr nv sv N st vs ∧ vs.length = N.length) ∧ Hid (readF ((s.drop p).length + 1) N st (s.drop p) = RF)) (fun _ _ pv _ => n - (intOf pv).toNat)
      case atStart => exact ⟨0, [], [], [], rfl, Nat.zero_le _, hid (Nat.zero_le _), hid ⟨⟨owR_nil (Fr.refl _ _), owR_nil (Fr.refl _ _), (fun g e => by cases e), (fun i r v e => by simp at e), (fun x hx => by cases hx)⟩, rfl⟩, HRF⟩
      case round =>
        obtain ⟨p, N, st, vs, rfl, hp, HL, HR, HF⟩ := hrel
        obtain ⟨na, nc, rfl⟩ := HR.out.1.no.1
        obtain ⟨sa, sc, rfl⟩ := HR.out.1.so.1
        have HP := hid hp
        have hF := HF.out
        rw [readF_len] at hF
        have HF2 := hid hF
        obtain ⟨nl, hnl⟩ : ∃ nl, N.length = nl := ⟨_, rfl⟩
        obtain ⟨sl, hsl⟩ : ∃ sl, st.length = sl := ⟨_, rfl⟩
        have HNL := hid hnl; have HSL := hid hsl
        rw [hnl, hsl] at HL ⊢
        have hnl4 : (nl : Int) ≤ 400 := by have := HL.out; omega
        have hsl4 : (sl : Int) ≤ 400 := by have := HL.out; omega
        have hp0 : (0 : Int) ≤ p := by omega
        clear hF hnl hsl HF
        go_wp2_with fail
        obtain ⟨W0, hW0⟩ : ∃ W0, wr = W0 := ⟨_, rfl⟩
        rw [hW0] at HR ⊢
        clear hW0
        go_loopw [6] (fun qv wr2 => ∃ (q : Nat), qv = .int .i64 q ∧ p ≤ q ∧ q ≤ n ∧ wr2 = W0 ∧ Hid (∀ j c, p ≤ j → j < q → s[j]? = some c → c ≠ 61)) (fun qv _ => n - (intOf qv).toNat)
        case atStart => exact ⟨p, rfl, Nat.le_refl _, HP.out, rfl, hid fun j c h1 h2 _ => by omega⟩
        case round =>
          obtain ⟨q, rfl, hpq, hq, rfl, HQ⟩ := hrel
          by_cases hlt : q < n
          · obtain ⟨c, hc⟩ : ∃ c, s[q]? = some c := ⟨_, List.getElem?_eq_getElem (by rw [HN.out]; exact hlt)⟩
            have hlti : (q : Int) < n := by omega
            have hq0 : (0 : Int) ≤ q := by omega
            have HC := hid hc
            have HLT := hid hlt
            by_cases h61 : c = 61
            · have e61 : ((c.toNat : Int) != 61) = false := by rw [h61]; rfl
              have hqn : ((q : Int) == n) = false := beqF (k := n) (by omega)
              obtain ⟨x1, hx1⟩ : ∃ x1, (s.drop p).take (q - p) = x1 := ⟨_, rfl⟩
              have hcut : cutEq (s.drop p) = some (x1, s.drop (q + 1)) := by
                rw [cutEq_skip (q - p) (s.drop p) (fun j d hj hd => HQ.out (p + j) d (by omega) (by omega) (by rw [List.getElem?_drop] at hd; exact hd)) (by rw [List.length_drop, HN.out]; omega), List.drop_drop, show p + (q - p) = q by omega, drop_at hc, h61, hx1]
                simp [cutEq]
              have hx1l : x1.length ≤ 400 := by rw [← hx1, List.length_take]; omega
              have hRA : readA (s.drop p) = (rv (s.drop (q + 1))).map fun y => ((x1, y.1), y.2) := by unfold readA; rw [hcut]; rfl
              have hF := HF2.out
              rw [hRA] at hF
              have HX1 := hid hx1
              have HQN : Hid (q ≤ n) := hid (by omega)
              have HRE := hid (fun W => reads_any s (q + 1) HS4.out (by rw [HN.out]; omega) W)
              rw [HN.out] at HRE
              clear hcut hRA hx1 h61 hc hlt hq
              cases hrv : rv (s.drop (q + 1)) with
              | none =>
                have HRN : Hid (none = RF) := hid (by rw [hrv] at hF; exact hF)
                have HRE2 : Hid (∀ W, Calls Tryz.prog 16 #[.string S, .int .i64 ((q + 1 : Nat) : Int)] W fun e w' => e = .returned (.tuple #[.string (sb []), .int .i64 0, .bool false]) ∧ Fr No W w') := hid (fun W => by have h := HRE.out W; rw [hrv, HS.out] at h; exact h)
                rw [show (((q + 1 : Nat) : Nat) : Int) = (q : Int) + 1 by push_cast; rfl] at HRE2
                clear hF hrv HRE
                go_wp2_with (first | ((with_reducible refine K.atO (.index 9 _ _) ?_); refine wpL_valZ (by rfl) (.int .u8 (c.toNat : Int)) (exec_idxB _ _ rfl s HS.out q c HC.out _ rfl rfl rfl _) ?_) | fail)
                refine (HRE2.out _).mono ?_
                rintro e w2 ⟨rfl, f2⟩
                have HFW := hid (HR.out.1.no.fr.trans' f2)
                clear f2
                go_wp2_with fail
                go_ret2
                have hpr := HPR.out
                rw [← HRN.out] at hpr
                rw [hpr]
                exact ⟨_, rfl, nm_nil _ _ _ _, HFW.out⟩
              | some y =>
                obtain ⟨x2, rest⟩ := y
                obtain ⟨en, hen⟩ : ∃ en, n - rest.length = en := ⟨_, rfl⟩
                obtain ⟨hend, hen1, hen2⟩ := rv_end hrv (by rw [HN.out]; omega)
                rw [HN.out] at hend hen1 hen2
                rw [hen] at hend hen1
                have hx2l := (rv_len hrv).2.1
                have hl4 := (rv_len hrv).2.2
                have HX12 : Hid (Sz x1 ∧ Sz x2) := hid ⟨by unfold Sz; omega, by unfold Sz; rw [List.length_drop, HN.out] at hx2l; omega⟩
                have HRE2 : Hid (∀ W, Calls Tryz.prog 16 #[.string S, .int .i64 ((q + 1 : Nat) : Int)] W fun e w' => e = .returned (.tuple #[.string (sb x2), .int .i64 (en : Int), .bool true]) ∧ Fr No W w') := hid (fun W => by have h := HRE.out W; rw [hrv, HS.out] at h; rw [← hen]; exact h.mono fun e w' h => ⟨h.1.1, h.2⟩)
                rw [show (((q + 1 : Nat) : Nat) : Int) = (q : Int) + 1 by push_cast; rfl] at HRE2
                rw [hrv] at hF
                simp only [Option.map_some] at hF
                have hen0 : (0 : Int) ≤ en := by omega
                have henn : (en : Int) ≤ n := by omega
                have HEN : Hid (q + 1 ≤ en ∧ en + rest.length = n) := hid ⟨hen1, by omega⟩
                clear hrv HRE hen hx2l hx1l hen1 hen2
                cases rest with
                | nil =>
                  have HRN : Hid (some (N ++ [st ++ [(x1, x2)]]) = RF) := hid hF
                  obtain rfl : en = n := by have := HEN.out; simpa using this.2
                  clear hF hend
                  go_wp2_with (first | ((with_reducible refine K.atO (.index 9 _ _) ?_); refine wpL_valZ (by rfl) (.int .u8 (c.toNat : Int)) (exec_idxB _ _ rfl s HS.out q c HC.out _ rfl rfl rfl _) ?_) | fail)
                  refine (HRE2.out _).mono ?_
                  rintro e w2 ⟨rfl, f2⟩
                  have HR2 : Hid (Rs w w2 (.slice na nl nc) (.slice sa sl sc) N st vs) := hid (by have h := HR.out.1.fr f2; rw [HNL.out, HSL.out] at h; exact h)
                  clear f2
                  go_wp2_with (first | ((with_reducible refine K.atO (.slice 9 _ _ _ _) ?_); refine wpL_valZ (by rfl) (.string (sb x1)) (exec_twoB _ _ _ rfl s HS.out p q rfl rfl rfl hpq (by rw [HN.out]; exact HQN.out) x1 HX1.out _) ?_) | ((with_reducible refine K.atO (.buildSlice 31 _ _) ?_); refine wpL_app1o rfl rfl _ _ _ 31 35 rfl rfl Tryz.underlying31 infoAva rfl (by decide) (by decide) (n := sl) (cs := avs st) (by have := HR2.out.so; rw [HSL.out] at this; exact this) (.agg #[.string (sb x1), .string (sb x2)]) [.string (sb x1), .string (sb x2)] rfl rfl rfl (by simp [Value.oneCell']) (fun _ => rfl) (fun _ => rfl) (by omega) (by omega) ?_; intro q5 a5 c5 w5 HO5 HF5 HW5) | ((with_reducible refine K.atO (.buildSlice 24 _ _) ?_); (have HR5 : Hid (Rs w w5 (.slice na nl nc) (.slice a5 (sl + 1) c5) N (st ++ [(x1, x2)]) vs) := hid (HR2.out.step (x := (x1, x2)) (by rw [HSL.out]; exact HO5.out) HF5.out HW5.out HX12.out)); refine wpL_app1o rfl rfl _ _ _ 24 31 rfl rfl Tryz.underlying24 infoRdn rfl (by decide) (by decide) (n := nl) (cs := vs) (by have := HR5.out.no; rw [HNL.out] at this; exact this) (.slice a5 (sl + 1) c5) [.slice a5 (sl + 1) c5] rfl rfl rfl (by simp [Value.oneCell']) (fun _ => rfl) (fun _ => rfl) (by omega) (by omega) ?_; intro q6 a6 c6 w6 HO6 HF6 HW6) | fail)
                  have HR6 : Hid (Rs w w6 (.slice a6 (nl + 1) c6) (.slice none 0 0) (N ++ [st ++ [(x1, x2)]]) [] (vs ++ [.slice a5 (sl + 1) c5])) := hid (HR5.out.close (by rw [HNL.out]; exact HO6.out) HF6.out HW6.out (by rw [List.length_append, HSL.out]; have := HL.out; have := HP.out; simp; omega) HR.out.2)

                  have HNM := hid (HR6.out.name (by have := HR.out.2; simp [this]) (by rw [List.length_append, HNL.out]; simp; omega))
                  have HBD : Hid (∀ r ∈ N ++ [st ++ [(x1, x2)]], ∀ a ∈ r, a.1.length ≤ 1048576) := hid (fun r hr a ha => by
                    have h1 := HRF.out
                    rw [← HRN.out] at h1
                    have := (readF_b (K := 400) _ _ _ _ _ h1 HS4.out (fun _ h => by cases h) (fun _ h => by cases h) r hr a ha).1
                    omega)
                  have hpr := HPR.out
                  rw [← HRN.out] at hpr
                  dsimp only at hpr
                  have HSH := hid (shaped_any _ _ _ w6 HNM.out HBD.out)
                  have HFW := hid HR6.out.no.fr
                  obtain ⟨BB, hBB⟩ : ∃ BB, built (N ++ [st ++ [(x1, x2)]]) = BB := ⟨_, rfl⟩
                  rw [hBB] at HSH hpr
                  refine HSH.out.mono ?_
                  rintro e w7 ⟨rfl, f7⟩
                  have HF7 := hid (HFW.out.trans' f7)
                  have HNM7 := hid (HNM.out.no f7)
                  clear f7 hBB
                  cases BB with
                  | true =>
                    go_wp2_with fail
                    go_ret2
                    rw [hpr]
                    exact ⟨_, rfl, HNM7.out.mono fun _ _ => trivial, HF7.out⟩
                  | false =>
                    go_wp2_with fail
                    go_ret2
                    rw [hpr]
                    exact ⟨_, rfl, nm_nil _ _ _ _, HF7.out⟩
                | cons d r1 =>
                  have hec : s[en]? = some d := by
                    have h2 : (s.drop en)[0]? = some d := by rw [hend]; rfl
                    rwa [List.getElem?_drop, Nat.add_zero] at h2
                  have HEC := hid hec
                  have HRR : Hid (s.drop (en + 1) = r1) := hid (by have := drop_at hec; rw [hend] at this; exact (List.cons.inj this).2.symm)
                  have henlt : (en : Int) < n := by have := HEN.out.2; simp at this; omega
                  have HENL : Hid (en < n) := hid (by omega)
                  have henq : ((en : Int) == n) = false := beqF (k := n) (by omega)
                  dsimp only at hF
                  clear hec hend hl4
                  by_cases h44 : d = 44
                  · rw [if_pos h44] at hF
                    have HRN := hid hF
                    have e44 : ((d.toNat : Int) == 44) = true := beqT (k := 44) (by rw [h44]; rfl)
                    clear hF h44
                    go_wp2_with (first | ((with_reducible refine K.atO (.index 9 _ _) ?_); refine wpL_valZ (by rfl) (.int .u8 (c.toNat : Int)) (exec_idxB _ _ rfl s HS.out q c HC.out _ rfl rfl rfl _) ?_) | fail)
                    refine (HRE2.out _).mono ?_
                    rintro e w2 ⟨rfl, f2⟩
                    have HR2 : Hid (Rs w w2 (.slice na nl nc) (.slice sa sl sc) N st vs) := hid (by have h := HR.out.1.fr f2; rw [HNL.out, HSL.out] at h; exact h)
                    clear f2
                    go_wp2_with (first | ((with_reducible refine K.atO (.slice 9 _ _ _ _) ?_); refine wpL_valZ (by rfl) (.string (sb x1)) (exec_twoB _ _ _ rfl s HS.out p q rfl rfl rfl hpq (by rw [HN.out]; exact HQN.out) x1 HX1.out _) ?_) | ((with_reducible refine K.atO (.buildSlice 31 _ _) ?_); refine wpL_app1o rfl rfl _ _ _ 31 35 rfl rfl Tryz.underlying31 infoAva rfl (by decide) (by decide) (n := sl) (cs := avs st) (by have := HR2.out.so; rw [HSL.out] at this; exact this) (.agg #[.string (sb x1), .string (sb x2)]) [.string (sb x1), .string (sb x2)] rfl rfl rfl (by simp [Value.oneCell']) (fun _ => rfl) (fun _ => rfl) (by omega) (by omega) ?_; intro q5 a5 c5 w5 HO5 HF5 HW5) | ((with_reducible refine K.atO (.index 9 _ _) ?_); refine wpL_valZ (by rfl) (.int .u8 (d.toNat : Int)) (exec_idxB _ _ rfl s HS.out en d HEC.out _ rfl rfl rfl _) ?_) | ((with_reducible refine K.atO (.buildSlice 24 _ _) ?_); (have HR5 : Hid (Rs w w5 (.slice na nl nc) (.slice a5 (sl + 1) c5) N (st ++ [(x1, x2)]) vs) := hid (HR2.out.step (x := (x1, x2)) (by rw [HSL.out]; exact HO5.out) HF5.out HW5.out HX12.out)); refine wpL_app1o rfl rfl _ _ _ 24 31 rfl rfl Tryz.underlying24 infoRdn rfl (by decide) (by decide) (n := nl) (cs := vs) (by have := HR5.out.no; rw [HNL.out] at this; exact this) (.slice a5 (sl + 1) c5) [.slice a5 (sl + 1) c5] rfl rfl rfl (by simp [Value.oneCell']) (fun _ => rfl) (fun _ => rfl) (by omega) (by omega) ?_; intro q6 a6 c6 w6 HO6 HF6 HW6) | fail)
                    have HR6 : Hid (Rs w w6 (.slice a6 (nl + 1) c6) (.slice none 0 0) (N ++ [st ++ [(x1, x2)]]) [] (vs ++ [.slice a5 (sl + 1) c5])) := hid (HR5.out.close (by rw [HNL.out]; exact HO6.out) HF6.out HW6.out (by rw [List.length_append, HSL.out]; have := HL.out; have := HP.out; simp; omega) HR.out.2)
                    refine ⟨⟨en + 1, N ++ [st ++ [(x1, x2)]], [], _, by go_num, HENL.out, hid (by have := HL.out; have := HEN.out.1; rw [List.length_append, HNL.out]; simp; omega), hid ⟨HR6.out, by have := HR.out.2; simp [this]⟩, hid (by rw [HRR.out]; exact HRN.out)⟩, ?_⟩
                    have := HENL.out; have := HEN.out.1
                    simp [intOf]; omega
                  · rw [if_neg h44] at hF
                    have HRN := hid hF
                    have e44 : ((d.toNat : Int) == 44) = false := beqF (k := 44) (fun h => h44 (UInt8.toNat_inj.1 h))
                    clear hF h44
                    go_wp2_with (first | ((with_reducible refine K.atO (.index 9 _ _) ?_); refine wpL_valZ (by rfl) (.int .u8 (c.toNat : Int)) (exec_idxB _ _ rfl s HS.out q c HC.out _ rfl rfl rfl _) ?_) | fail)
                    refine (HRE2.out _).mono ?_
                    rintro e w2 ⟨rfl, f2⟩
                    have HR2 : Hid (Rs w w2 (.slice na nl nc) (.slice sa sl sc) N st vs) := hid (by have h := HR.out.1.fr f2; rw [HNL.out, HSL.out] at h; exact h)
                    clear f2
                    go_wp2_with (first | ((with_reducible refine K.atO (.slice 9 _ _ _ _) ?_); refine wpL_valZ (by rfl) (.string (sb x1)) (exec_twoB _ _ _ rfl s HS.out p q rfl rfl rfl hpq (by rw [HN.out]; exact HQN.out) x1 HX1.out _) ?_) | ((with_reducible refine K.atO (.buildSlice 31 _ _) ?_); refine wpL_app1o rfl rfl _ _ _ 31 35 rfl rfl Tryz.underlying31 infoAva rfl (by decide) (by decide) (n := sl) (cs := avs st) (by have := HR2.out.so; rw [HSL.out] at this; exact this) (.agg #[.string (sb x1), .string (sb x2)]) [.string (sb x1), .string (sb x2)] rfl rfl rfl (by simp [Value.oneCell']) (fun _ => rfl) (fun _ => rfl) (by omega) (by omega) ?_; intro q5 a5 c5 w5 HO5 HF5 HW5) | ((with_reducible refine K.atO (.index 9 _ _) ?_); refine wpL_valZ (by rfl) (.int .u8 (d.toNat : Int)) (exec_idxB _ _ rfl s HS.out en d HEC.out _ rfl rfl rfl _) ?_) | fail)
                    have HR5 : Hid (Rs w w5 (.slice na nl nc) (.slice a5 (sl + 1) c5) N (st ++ [(x1, x2)]) vs) := hid (HR2.out.step (x := (x1, x2)) (by rw [HSL.out]; exact HO5.out) HF5.out HW5.out HX12.out)
                    refine ⟨⟨en + 1, N, st ++ [(x1, x2)], vs, by go_num, HENL.out, hid (by have := HL.out; have := HEN.out.1; rw [List.length_append, HSL.out, HNL.out]; simp; omega), hid ⟨HR5.out, HR.out.2⟩, hid (by rw [HRR.out]; exact HRN.out)⟩, ?_⟩
                    have := HENL.out; have := HEN.out.1
                    simp [intOf]; omega
            · have e61 : ((c.toNat : Int) != 61) = true := by have : c.toNat ≠ 61 := fun e => h61 (UInt8.toNat_inj.1 e); simp; omega
              have HQ2 : Hid (∀ j c, p ≤ j → j < q + 1 → s[j]? = some c → c ≠ 61) := hid fun j d h1 h2 h3 => by
                by_cases hj : j = q
                · subst hj
                  rw [HC.out] at h3
                  obtain rfl := Option.some.inj h3
                  exact h61
                · exact HQ.out j d h1 (by omega) h3
              clear h61 hc hlt
              go_wp2_with (first | ((with_reducible refine K.atO (.index 9 _ _) ?_); refine wpL_valZ (by rfl) (.int .u8 (c.toNat : Int)) (exec_idxB _ _ rfl s HS.out q c HC.out _ rfl rfl rfl _) ?_) | fail)
              refine ⟨⟨q + 1, by go_num, by omega, HLT.out, trivial, HQ2⟩, ?_⟩
              have := HLT.out
              simp [intOf]; omega
          · obtain rfl : q = n := by omega
            have HRN : Hid (none = RF) := hid (by
              have h := HF2.out
              have hc : cutEq (s.drop p) = none := by
                rw [cutEq_skip (q - p) (s.drop p) (fun j d hj hd => HQ.out (p + j) d (by omega) (by omega) (by rw [List.getElem?_drop] at hd; exact hd)) (by rw [List.length_drop, HN.out]; exact Nat.le_refl _), List.drop_drop, show p + (q - p) = q by omega, show s.drop q = [] from List.drop_of_length_le (by rw [HN.out]; exact Nat.le_refl _)]
                rfl
              have hA : readA (s.drop p) = none := by unfold readA; rw [hc]; rfl
              rw [hA] at h
              exact h)
            clear hlt hq
            go_wp2_with fail
            go_ret2
            have hpr := HPR.out
            rw [← HRN.out] at hpr
            rw [hpr]
            exact ⟨_, rfl, nm_nil _ _ _ _, HR.out.1.no.fr⟩
end Go.Proofs.YthjmkfpdbbfcpaaGreatDoor.DN
