/-
  Part 22 of the proof: FtKy, FtNu.
-/
import Derived.Test.YtgbiicipkbpmeaaGreatDoorSk21
import Derived.Test.YtgbiicipkbpmeaaGreatDoorSk19
set_option linter.unusedSimpArgs false
set_option linter.unusedVariables false
namespace Go.Proofs.YtgbiicipkbpmeaaGreatDoor.FT
set_option maxRecDepth 100000
open Go.RowKit K BE DN SC
theorem rds_norm {r : Rd} (h : RdS r) : RdS (normR r) := by
 refine ⟨by unfold normR; rw [srt_len, List.length_map]; exact h.1, fun a ha => ?_⟩
 unfold normR at ha
 rw [srt_mem] at ha
 obtain ⟨y, hy, rfl⟩ := List.mem_map.1 ha
 have h1 := h.2 y hy
 exact ⟨by show (low y.1).length ≤ _; rw [low_length]; exact h1.1, by show (fold y.2).length ≤ _; exact Nat.le_trans (fold_len y.2) h1.2⟩
theorem stepT_len {r : Rd} (h : RdS r) : (DN.stepT r).length ≤ 4194306000 := by
 have := step_len (r.map avaT) 4194305 (fun x hx => by
  obtain ⟨a, ha, rfl⟩ := List.mem_map.1 hx
  exact (avaT_len h ha).1)
 rw [List.length_map] at this
 have := Nat.mul_le_mul_right 4194306 h.1
 have e : (DN.stepT r).length = (joinB [43] (r.map avaT)).length := rfl
 omega
def keyP (m : Nm) : B := (m.reverse.map fun r => DN.stepT r ++ [0]).flatten
theorem keyP_cons (r : Rd) (m : Nm) : keyP (r :: m) = keyP m ++ (DN.stepT r ++ [0]) := by unfold keyP; simp
theorem keyP_len : ∀ m : Nm, (∀ r ∈ m, RdS r) → (keyP m).length ≤ m.length * 4194306001
 | [], _ => by simp [keyP]
 | r :: m, h => by
  have h1 := keyP_len m fun x hx => h x (by simp [hx])
  have h2 := stepT_len (h r (by simp))
  rw [keyP_cons, List.length_append, List.length_append]
  have e : (r :: m).length * 4194306001 = m.length * 4194306001 + 4194306001 := by rw [List.length_cons, Nat.add_mul, Nat.one_mul]
  rw [e]
  simp only [List.length_cons, List.length_nil]
  omega
set_option maxHeartbeats 16000000 in
theorem rkey_any {S : Nat → Prop} (v : Value) (n : Nm) (w : World) (h : NmIn S w v n) (hl : n.length ≤ 1000) (hb : ∀ r ∈ n, RdS r) :
  Calls Tryz.prog 93 #[v] w fun e w' => e = .returned (.string (sb (key n))) ∧ Fr No w w' := by
 have HNM := hid (rnorm_any v n w h hl hb)
 obtain ⟨va, vcp, rfl, -, -⟩ := h.form
 have hbm : ∀ r ∈ norm n, RdS r := fun r hr => by
  unfold norm at hr
  obtain ⟨q, hq, rfl⟩ := List.mem_map.1 hr
  exact rds_norm (hb q hq)
 have hlm : (norm n).length ≤ 1000 := by rw [norm_length]; exact hl
 have hk : key n = keyP (norm n) := rfl
 rw [hk]
 obtain ⟨m, hm⟩ : ∃ m, norm n = m := ⟨_, rfl⟩
 rw [hm] at HNM hbm hlm ⊢
 have HBM := hid hbm
 obtain ⟨M, hM⟩ : ∃ M, m.length = M := ⟨_, rfl⟩
 have HMM := hid hM
 have hMi : (M : Int) ≤ 1000 := by omega
 clear h hl hb hbm hlm hk hm
 obtain ⟨N, hN⟩ : ∃ N, n.length = N := ⟨_, rfl⟩
 rw [hN] at HNM ⊢
 clear hN hM
 go_enter Tryz.func93, Tryz.ntmps93
 go_wp2_with fail
 refine HNM.out.mono ?_
 rintro e w1 ⟨v1, rfl, hn1, f1⟩
 obtain ⟨ma, mc, rfl, -, -⟩ := hn1.form
 rw [HMM.out] at hn1 ⊢
 have HN1 := hid hn1; have HF1 := hid f1
 clear hn1 f1 HNM
 go_wp2_with fail
 go_loopw [4, 5] (fun sv iv wr => ∃ (t : Nat) (P : B) (j : Int), iv = .int .i64 j ∧ sv = .string (sb P) ∧ j = (t : Int) - 1 ∧ t ≤ M ∧ Hid (P = keyP (m.drop t)) ∧ Hid (Fr No w1 wr)) (fun _ iv _ => (intOf iv + 1).toNat)
 case atStart => exact ⟨M, [], (M : Int) - 1, by go_num, rfl, rfl, Nat.le_refl _, hid (by rw [List.drop_of_length_le (by rw [HMM.out]; exact Nat.le_refl _)]; rfl), hid (Fr.refl _ _)⟩
 case round =>
  obtain ⟨t, P, j, rfl, rfl, hj, ht, HP, HFw⟩ := hrel
  cases t with
  | zero =>
   obtain rfl : j = -1 := by omega
   have HPE : Hid (P = keyP m) := hid (by rw [HP.out, List.drop_zero])
   clear hj
   go_wp2_with fail
   go_ret
   exact ⟨by rw [← HPE.out]; rfl, HF1.out.trans' HFw.out⟩
  | succ t =>
   obtain rfl : j = (t : Int) := by omega
   obtain ⟨r, hr⟩ : ∃ r, m[t]? = some r := ⟨_, List.getElem?_eq_getElem (by rw [HMM.out]; omega)⟩
   have ht0 : (0 : Int) ≤ t := by omega
   have htM : (t : Int) < M := by omega
   have HTT := hid ht
   obtain ⟨g, o, cq, c, e1, -, hgw, hrr, hc, hxa⟩ := (NmIn.no HN1.out HFw.out).get hr
   rw [HMM.out] at e1
   simp only [Value.slice.injEq, true_and] at e1
   obtain ⟨rfl, rfl⟩ := e1
   obtain ⟨vx, rfl, hvx⟩ := hxa
   have hcell : wr.cell? ⟨g, o + t, none⟩ = some vx := by have := hrr 0 vx rfl; simpa using this
   obtain ⟨xa, xc, rfl, -, -⟩ := Sl.form hvx
   have HRS := hid (HBM.out r (List.mem_of_getElem? hr))
   have HVX := hid hvx
   obtain ⟨T1, hT1⟩ : ∃ T1, P ++ DN.stepT r = T1 := ⟨_, rfl⟩
   obtain ⟨T2, hT2⟩ : ∃ T2, T1 ++ [0] = T2 := ⟨_, rfl⟩
   have HT1 := hid hT1; have HT2 := hid hT2
   have HPL : Hid (P.length ≤ 4194306001000) := hid (by
    rw [HP.out]
    have h1 := keyP_len (m.drop (t + 1)) fun x hx => HBM.out x (List.mem_of_mem_drop hx)
    have h2 : (m.drop (t + 1)).length ≤ 1000 := by rw [List.length_drop, HMM.out]; omega
    have := Nat.mul_le_mul_right 4194306001 h2
    omega)
   have HTL : Hid (T1.length ≤ 4198500307000) := hid (by rw [← hT1, List.length_append]; have := stepT_len HRS.out; have := HPL.out; omega)
   have HNX : Hid (T2 = keyP (m.drop t)) := hid (by
    have hd : m.drop t = r :: m.drop (t + 1) := by
     obtain ⟨h1, h2⟩ := List.getElem?_eq_some_iff.1 hr
     rw [← h2]
     exact List.drop_eq_getElem_cons h1
    rw [hd, keyP_cons, ← HP.out, ← hT2, ← hT1, List.append_assoc])
   clear hj ht hr hgw hrr hc hvx hT1 hT2
   go_wp2_with fail
   refine (rstep_any _ r wr HVX.out HRS.out).mono ?_
   rintro e w4 ⟨rfl, f4⟩
   have HF4 := hid (HFw.out.trans' f4)
   clear f4 hcell
   go_wp2_with (first
    | ((with_reducible refine K.atO (.binOp .add 9 _ _ _) ?_); (fail_if_success (have := HA1)); refine wpL_valZ rfl (.string (sb T1)) (exec_addS _ _ _ rfl P (DN.stepT r) rfl rfl (by have := HPL.out; have := stepT_len HRS.out; omega) _ HT1.out _) ?_; have HA1 := hid trivial)
    | ((with_reducible refine K.atO (.binOp .add 9 _ _ _) ?_); refine wpL_valZ rfl (.string (sb T2)) (exec_addS _ _ _ rfl T1 [0] rfl rfl (by have := HTL.out; simp; omega) _ HT2.out _) ?_)
    | fail)
   refine ⟨⟨t, T2, (t : Int) - 1, by go_num, rfl, rfl, by have := HTT.out; omega, HNX, HF4⟩, ?_⟩
   simp [intOf]
theorem exec_eqQ {op : Oper} {a : Act} (x y : Operand) (u : TypeId) (ho : op.op = .binOp .eql 9 x y u) (p q : B) {A C : ByteArray} (hA : sb p = A) (hC : sb q = C) (r : Bool) (hr : decide (p = q) = r) (hx : a.eval x = .string A) (hy : a.eval y = .string C) (w : World) :
  (execOp a.eval op).run Tryz.prog w = .ok (.value (.bool r)) w := by
 subst hA hC hr
 exact exec_eqS x y u ho p q hx hy w
def bareN : B → B
 | [] => []
 | c :: r => if c.toNat = 45 then r else c :: r
theorem numV_is (v : B) (h : v ≠ [48]) : (numV v).isSome = isDs (bareN v) := by
 unfold numV
 rw [if_neg h]
 cases v with
 | nil => rfl
 | cons c r =>
  unfold bareN
  simp only
  by_cases hc : c.toNat = 45
  ·rw [if_pos hc, if_pos hc]; cases isDs r <;> rfl
  ·rw [if_neg hc, if_neg hc]; cases isDs (c :: r) <;> rfl
theorem exec_fromB {op : Oper} {a : Act} (x h : Operand) (ho : op.op = .slice 9 x (some h) none none) (l : B) {A : ByteArray} (hA : sb l = A) (k : Nat) (hx : a.eval x = .string A) (hh : a.eval h = .int .i64 (k : Int)) (h2 : k ≤ l.length) (r : B) (hr : l.drop k = r) (w : World) :
  (execOp a.eval op).run Tryz.prog w = .ok (.value (.string (sb r))) w := by
 subst hA
 exact exec_from x h ho l k hx hh h2 r hr w
theorem isD_n (c : UInt8) : isD c = true ↔ 48 ≤ c.toNat ∧ c.toNat ≤ 57 := by unfold isD; simp
theorem isDs_no {l : B} {c : UInt8} (h : c ∈ l) (hc : isD c = false) : isDs l = false := by
 unfold isDs
 have : l.all isD = false := by rw [List.all_eq_false]; exact ⟨c, h, by rw [hc]; decide⟩
 rw [this]; rfl
set_option maxHeartbeats 16000000 in
theorem number_any (v : B) (hv : v.length ≤ 4294967000) (w : World) : Calls Tryz.prog 91 #[.string (sb v)] w fun e w' => e = .returned (.bool (numV v).isSome) ∧ Fr No w w' := by
 obtain ⟨S, hS⟩ : ∃ S, sb v = S := ⟨_, rfl⟩
 have HS := hid hS
 obtain ⟨R, hR⟩ : ∃ R, (numV v).isSome = R := ⟨_, rfl⟩
 rw [hS, hR]
 by_cases h48 : v = [48]
 ·have hd : decide (v = [48]) = true := decide_eq_true h48
  have HD := hid hd
  obtain rfl : true = R := by rw [← hR, h48]; rfl
  clear hS hR h48 hd hv
  go_enter Tryz.func91, Tryz.ntmps91
  go_wp2_with (first
   | ((with_reducible refine atO (.binOp .eql 9 _ _ _) ?_); refine wpL_valZ rfl (.bool true) (exec_eqQ _ _ _ rfl v [48] HS.out rfl _ HD.out rfl rfl _) ?_)
   | fail)
  go_ret
  exact ⟨rfl, Fr.refl _ _⟩
 ·have hd : decide (v = [48]) = false := decide_eq_false h48
  have HD := hid hd
  rw [numV_is v h48] at hR
  clear h48 hd
  cases v with
  | nil =>
   obtain rfl : false = R := hR.symm.trans rfl |>.symm
   have hsz : (S.size : Int) = 0 := by rw [← hS]; rfl
   clear hS hR hv
   go_enter Tryz.func91, Tryz.ntmps91
   go_wp2_with (first
    | ((with_reducible refine atO (.binOp .eql 9 _ _ _) ?_); refine wpL_valZ rfl (.bool false) (exec_eqQ _ _ _ rfl [] [48] HS.out rfl _ HD.out rfl rfl _) ?_)
    | fail)
   go_loopw [3] (fun iv wr => iv = .int .i64 0 ∧ Hid (Fr No w wr)) (fun iv _ => 0)
   case atStart => exact ⟨rfl, hid (Fr.refl _ _)⟩
   case round =>
    obtain ⟨rfl, HI⟩ := hrel
    go_wp2_with fail
    go_ret
    exact ⟨rfl, HI.out⟩
  | cons c r =>
   by_cases hc : c.toNat = 45
   ·have hb : bareN (c :: r) = r := by show (if c.toNat = 45 then r else c :: r) = _; rw [if_pos hc]
    rw [hb] at hR
    have hc2 : ((c.toNat : Int) == 45) = true := beqI (by omega)
    have hsz : (S.size : Int) = r.length + 1 := by rw [← hS, sb_size]; rfl
    obtain ⟨n, hn⟩ : ∃ n, r.length = n := ⟨_, rfl⟩
    rw [hn] at hsz
    have hni : (n : Int) ≤ 4294967000 := by simp only [List.length_cons] at hv; omega
    obtain ⟨U, hU⟩ : ∃ U, sb r = U := ⟨_, rfl⟩
    have husz : (U.size : Int) = n := by rw [← hU, sb_size, hn]
    have HU := hid hU; have HN := hid hn; have HR := hid hR
    have hpos : (0 : Int) < n + 1 := by omega
    clear hb hc hS hR hn hU hv
    go_enter Tryz.func91, Tryz.ntmps91
    go_wp2_with (first
     | ((with_reducible refine atO (.binOp .eql 9 _ _ _) ?_); refine wpL_valZ rfl (.bool false) (exec_eqQ _ _ _ rfl (c :: r) [48] HS.out rfl _ HD.out rfl rfl _) ?_)
     | ((with_reducible refine atO (.index 9 _ _) ?_); refine wpL_valZ (by rfl) (.int .u8 (c.toNat : Int)) (exec_idxB _ _ rfl (c :: r) HS.out 0 c rfl _ rfl rfl rfl _) ?_)
     | ((with_reducible refine atO (.slice 9 _ _ _ _) ?_); refine wpL_valZ rfl (.string U) (by rw [← HU.out]; exact exec_fromB _ _ rfl (c :: r) HS.out 1 rfl rfl (by simp) _ rfl _) ?_)
     | fail)
    clear hsz hc2 hpos
    go_loopw [3] (fun iv wr => ∃ (i : Nat), iv = .int .i64 i ∧ i ≤ n ∧ Hid ((r.take i).all isD = true ∧ Fr No w wr)) (fun iv _ => n - (intOf iv).toNat)
    case atStart => exact ⟨0, rfl, Nat.zero_le _, hid ⟨rfl, Fr.refl _ _⟩⟩
    case round =>
     obtain ⟨i, rfl, hi, HI⟩ := hrel
     by_cases hlt : i < n
     ·obtain ⟨d, hd⟩ : ∃ d, r[i]? = some d := ⟨_, List.getElem?_eq_getElem (by rw [HN.out]; exact hlt)⟩
      have hlti : (i : Int) < n := by omega
      have hi0 : (0 : Int) ≤ i := by omega
      have HLT := hid hlt; have HDD := hid hd
      have HAT : Hid ((r.take (i + 1)).all isD = isD d) := hid (by rw [List.take_add_one, hd, List.all_append, HI.out.1]; simp)
      have hcs : isD d = true ∧ 48 ≤ d.toNat ∧ d.toNat ≤ 57 ∨ isD d = false ∧ d.toNat < 48 ∨ isD d = false ∧ 48 ≤ d.toNat ∧ 57 < d.toNat := by
       cases h : isD d with
       | true => exact .inl ⟨rfl, (isD_n d).1 h⟩
       | false =>
        have hn : ¬ (48 ≤ d.toNat ∧ d.toNat ≤ 57) := fun e => by rw [(isD_n d).2 e] at h; cases h
        by_cases h1 : d.toNat < 48
        ·exact .inr (.inl ⟨rfl, h1⟩)
        ·exact .inr (.inr ⟨rfl, by omega, by omega⟩)
      clear hd hlt
      rcases hcs with ⟨hd0, hd1, hd2⟩ | ⟨hd0, hd1⟩ | ⟨hd0, hd1, hd2⟩
      ·have g1 : ¬ (d.toNat : Int) < 48 := by omega
       have g2 : ¬ (57 : Int) < d.toNat := by omega
       have HD0 := hid hd0
       clear hd0 hd1 hd2
       go_wp2_with (first
        | ((with_reducible refine atO (.index 9 _ _) ?_); refine wpL_valZ (by rfl) (.int .u8 (d.toNat : Int)) (exec_idxB _ _ rfl r HU.out i d HDD.out _ rfl rfl rfl _) ?_)
        | fail)
       refine ⟨⟨i + 1, by go_num, HLT.out, hid ⟨by rw [HAT.out, HD0.out], HI.out.2⟩⟩, ?_⟩
       have := HLT.out
       simp [intOf]; omega
      ·have g1 : (d.toNat : Int) < 48 := by omega
       have hr0 : false = R := by rw [← HR.out, isDs_no (List.mem_of_getElem? HDD.out) hd0]
       subst hr0
       clear hd0 hd1
       go_wp2_with (first
        | ((with_reducible refine atO (.index 9 _ _) ?_); refine wpL_valZ (by rfl) (.int .u8 (d.toNat : Int)) (exec_idxB _ _ rfl r HU.out i d HDD.out _ rfl rfl rfl _) ?_)
        | fail)
       go_ret
       exact ⟨rfl, HI.out.2⟩
      ·have g1 : ¬ (d.toNat : Int) < 48 := by omega
       have g2 : (57 : Int) < d.toNat := by omega
       have hr0 : false = R := by rw [← HR.out, isDs_no (List.mem_of_getElem? HDD.out) hd0]
       subst hr0
       clear hd0 hd1 hd2
       go_wp2_with (first
        | ((with_reducible refine atO (.index 9 _ _) ?_); refine wpL_valZ (by rfl) (.int .u8 (d.toNat : Int)) (exec_idxB _ _ rfl r HU.out i d HDD.out _ rfl rfl rfl _) ?_)
        | fail)
       go_ret
       exact ⟨rfl, HI.out.2⟩
     ·obtain rfl : i = n := by omega
      have hall : r.all isD = true := by have h := HI.out.1; rwa [List.take_of_length_le (by rw [HN.out]; exact Nat.le_refl _)] at h
      have hR2 : (decide (1 ≤ i) && decide (i ≤ 9) && decide (r.head? ≠ some 48)) = R := by
       rw [← HR.out]; unfold isDs; rw [hall, HN.out, Bool.true_and]
      clear hall hlt
      by_cases h1 : 1 ≤ i
      ·by_cases h9 : i ≤ 9
       ·obtain ⟨d, hd⟩ : ∃ d, r[0]? = some d := ⟨_, List.getElem?_eq_getElem (by rw [HN.out]; exact h1)⟩
        have hh : r.head? = some d := by rw [List.head?_eq_getElem?, hd]
        have g1 : (1 : Int) ≤ i := by omega
        have g2 : (i : Int) ≤ 9 := by omega
        have g3 : (0 : Int) < i := by omega
        have HDD := hid hd
        rw [hh, decide_eq_true h1, decide_eq_true h9] at hR2
        have hR3 : (!decide (d = 48)) = R := by rw [← hR2]; simp
        have HRR := hid hR3
        clear h1 h9 hd hh hR2 hR3 hi
        by_cases hd48 : d = 48
        ·subst hd48
         obtain rfl : false = R := by rw [← HRR.out]; rfl
         go_wp2_with (first
          | ((with_reducible refine atO (.index 9 _ _) ?_); refine wpL_valZ (by rfl) (.int .u8 48) (exec_idxB _ _ rfl r HU.out 0 48 HDD.out _ rfl rfl rfl _) ?_)
          | fail)
         go_ret
         exact ⟨rfl, HI.out.2⟩
        ·obtain rfl : true = R := by rw [← HRR.out]; simp [hd48]
         have g4 : ((d.toNat : Int) == 48) = false := beqN (fun e => hd48 (UInt8.toNat_inj.1 (by have : (48 : UInt8).toNat = 48 := rfl; omega)))
         have g5 : ((d.toNat : Int) != 48) = true := by rw [bne, g4]; rfl
         clear hd48
         go_wp2_with (first
          | ((with_reducible refine atO (.index 9 _ _) ?_); refine wpL_valZ (by rfl) (.int .u8 (d.toNat : Int)) (exec_idxB _ _ rfl r HU.out 0 d HDD.out _ rfl rfl rfl _) ?_)
          | fail)
         go_ret
         exact ⟨rfl, HI.out.2⟩
       ·obtain rfl : false = R := by rw [← hR2, decide_eq_false h9]; simp
        have g1 : (1 : Int) ≤ i := by omega
        have g2 : ¬ (i : Int) ≤ 9 := by omega
        clear hR2 h1 h9
        go_wp2_with fail
        go_ret
        exact ⟨rfl, HI.out.2⟩
      ·obtain rfl : false = R := by rw [← hR2, decide_eq_false h1]; rfl
       obtain rfl : i = 0 := by omega
       clear hR2 h1
       go_wp2_with fail
       go_ret
       exact ⟨rfl, HI.out.2⟩
   ·have hb : bareN (c :: r) = c :: r := by show (if c.toNat = 45 then r else c :: r) = _; rw [if_neg hc]
    rw [hb] at hR
    have hc2 : ((c.toNat : Int) == 45) = false := beqN (by omega)
    obtain ⟨n, hn⟩ : ∃ n, (c :: r).length = n := ⟨_, rfl⟩
    have husz : (S.size : Int) = n := by rw [← hS, sb_size, hn]
    have hni : (n : Int) ≤ 4294967000 := by omega
    have HU := hid hS; have HN := hid hn; have HR := hid hR
    have hpos : (0 : Int) < n := by simp only [List.length_cons] at hn; omega
    have HC0 := hid (show (c :: r)[0]? = some c from rfl)
    clear hb hc hS hR hn hv
    generalize c :: r = u at HC0 HS HD HU HN HR
    go_enter Tryz.func91, Tryz.ntmps91
    go_wp2_with (first
     | ((with_reducible refine atO (.binOp .eql 9 _ _ _) ?_); refine wpL_valZ rfl (.bool false) (exec_eqQ _ _ _ rfl u [48] HS.out rfl _ HD.out rfl rfl _) ?_)
     | ((with_reducible refine atO (.index 9 _ _) ?_); refine wpL_valZ (by rfl) (.int .u8 (c.toNat : Int)) (exec_idxB _ _ rfl u HS.out 0 c HC0.out _ rfl rfl rfl _) ?_)
     | fail)
    clear hc2 hpos
    go_loopw [3] (fun iv wr => ∃ (i : Nat), iv = .int .i64 i ∧ i ≤ n ∧ Hid ((u.take i).all isD = true ∧ Fr No w wr)) (fun iv _ => n - (intOf iv).toNat)
    case atStart => exact ⟨0, rfl, Nat.zero_le _, hid ⟨rfl, Fr.refl _ _⟩⟩
    case round =>
     obtain ⟨i, rfl, hi, HI⟩ := hrel
     by_cases hlt : i < n
     ·obtain ⟨d, hd⟩ : ∃ d, u[i]? = some d := ⟨_, List.getElem?_eq_getElem (by rw [HN.out]; exact hlt)⟩
      have hlti : (i : Int) < n := by omega
      have hi0 : (0 : Int) ≤ i := by omega
      have HLT := hid hlt; have HDD := hid hd
      have HAT : Hid ((u.take (i + 1)).all isD = isD d) := hid (by rw [List.take_add_one, hd, List.all_append, HI.out.1]; simp)
      have hcs : isD d = true ∧ 48 ≤ d.toNat ∧ d.toNat ≤ 57 ∨ isD d = false ∧ d.toNat < 48 ∨ isD d = false ∧ 48 ≤ d.toNat ∧ 57 < d.toNat := by
       cases h : isD d with
       | true => exact .inl ⟨rfl, (isD_n d).1 h⟩
       | false =>
        have hn : ¬ (48 ≤ d.toNat ∧ d.toNat ≤ 57) := fun e => by rw [(isD_n d).2 e] at h; cases h
        by_cases h1 : d.toNat < 48
        ·exact .inr (.inl ⟨rfl, h1⟩)
        ·exact .inr (.inr ⟨rfl, by omega, by omega⟩)
      clear hd hlt
      rcases hcs with ⟨hd0, hd1, hd2⟩ | ⟨hd0, hd1⟩ | ⟨hd0, hd1, hd2⟩
      ·have g1 : ¬ (d.toNat : Int) < 48 := by omega
       have g2 : ¬ (57 : Int) < d.toNat := by omega
       have HD0 := hid hd0
       clear hd0 hd1 hd2
       go_wp2_with (first
        | ((with_reducible refine atO (.index 9 _ _) ?_); refine wpL_valZ (by rfl) (.int .u8 (d.toNat : Int)) (exec_idxB _ _ rfl u HU.out i d HDD.out _ rfl rfl rfl _) ?_)
        | fail)
       refine ⟨⟨i + 1, by go_num, HLT.out, hid ⟨by rw [HAT.out, HD0.out], HI.out.2⟩⟩, ?_⟩
       have := HLT.out
       simp [intOf]; omega
      ·have g1 : (d.toNat : Int) < 48 := by omega
       have hr0 : false = R := by rw [← HR.out, isDs_no (List.mem_of_getElem? HDD.out) hd0]
       subst hr0
       clear hd0 hd1
       go_wp2_with (first
        | ((with_reducible refine atO (.index 9 _ _) ?_); refine wpL_valZ (by rfl) (.int .u8 (d.toNat : Int)) (exec_idxB _ _ rfl u HU.out i d HDD.out _ rfl rfl rfl _) ?_)
        | fail)
       go_ret
       exact ⟨rfl, HI.out.2⟩
      ·have g1 : ¬ (d.toNat : Int) < 48 := by omega
       have g2 : (57 : Int) < d.toNat := by omega
       have hr0 : false = R := by rw [← HR.out, isDs_no (List.mem_of_getElem? HDD.out) hd0]
       subst hr0
       clear hd0 hd1 hd2
       go_wp2_with (first
        | ((with_reducible refine atO (.index 9 _ _) ?_); refine wpL_valZ (by rfl) (.int .u8 (d.toNat : Int)) (exec_idxB _ _ rfl u HU.out i d HDD.out _ rfl rfl rfl _) ?_)
        | fail)
       go_ret
       exact ⟨rfl, HI.out.2⟩
     ·obtain rfl : i = n := by omega
      have hall : u.all isD = true := by have h := HI.out.1; rwa [List.take_of_length_le (by rw [HN.out]; exact Nat.le_refl _)] at h
      have hR2 : (decide (1 ≤ i) && decide (i ≤ 9) && decide (u.head? ≠ some 48)) = R := by
       rw [← HR.out]; unfold isDs; rw [hall, HN.out, Bool.true_and]
      clear hall hlt
      by_cases h1 : 1 ≤ i
      ·by_cases h9 : i ≤ 9
       ·obtain ⟨d, hd⟩ : ∃ d, u[0]? = some d := ⟨_, List.getElem?_eq_getElem (by rw [HN.out]; exact h1)⟩
        have hh : u.head? = some d := by rw [List.head?_eq_getElem?, hd]
        have g1 : (1 : Int) ≤ i := by omega
        have g2 : (i : Int) ≤ 9 := by omega
        have g3 : (0 : Int) < i := by omega
        have HDD := hid hd
        rw [hh, decide_eq_true h1, decide_eq_true h9] at hR2
        have hR3 : (!decide (d = 48)) = R := by rw [← hR2]; simp
        have HRR := hid hR3
        clear h1 h9 hd hh hR2 hR3 hi
        by_cases hd48 : d = 48
        ·subst hd48
         obtain rfl : false = R := by rw [← HRR.out]; rfl
         go_wp2_with (first
          | ((with_reducible refine atO (.index 9 _ _) ?_); refine wpL_valZ (by rfl) (.int .u8 48) (exec_idxB _ _ rfl u HU.out 0 48 HDD.out _ rfl rfl rfl _) ?_)
          | fail)
         go_ret
         exact ⟨rfl, HI.out.2⟩
        ·obtain rfl : true = R := by rw [← HRR.out]; simp [hd48]
         have g4 : ((d.toNat : Int) == 48) = false := beqN (fun e => hd48 (UInt8.toNat_inj.1 (by have : (48 : UInt8).toNat = 48 := rfl; omega)))
         have g5 : ((d.toNat : Int) != 48) = true := by rw [bne, g4]; rfl
         clear hd48
         go_wp2_with (first
          | ((with_reducible refine atO (.index 9 _ _) ?_); refine wpL_valZ (by rfl) (.int .u8 (d.toNat : Int)) (exec_idxB _ _ rfl u HU.out 0 d HDD.out _ rfl rfl rfl _) ?_)
          | fail)
         go_ret
         exact ⟨rfl, HI.out.2⟩
       ·obtain rfl : false = R := by rw [← hR2, decide_eq_false h9]; simp
        have g1 : (1 : Int) ≤ i := by omega
        have g2 : ¬ (i : Int) ≤ 9 := by omega
        clear hR2 h1 h9
        go_wp2_with fail
        go_ret
        exact ⟨rfl, HI.out.2⟩
      ·obtain rfl : false = R := by rw [← hR2, decide_eq_false h1]; rfl
       obtain rfl : i = 0 := by omega
       clear hR2 h1
       go_wp2_with fail
       go_ret
       exact ⟨rfl, HI.out.2⟩
theorem valD_snoc (l : B) (c : UInt8) (n : Nat) : valD n (l ++ [c]) = 10 * valD n l + (c.toNat - 48) := by unfold valD; rw [List.foldl_append]; rfl
theorem valD_lt : ∀ (l : B), l.all isD = true → valD 0 l < 10 ^ l.length := fun l => by
 have key : ∀ (l : B) (n k : Nat), l.all isD = true → n < 10 ^ k → valD n l < 10 ^ (k + l.length) := by
  intro l
  induction l with
  | nil => intro n k _ h; exact h
  | cons c r ih =>
   intro n k h hn
   rw [List.all_cons, Bool.and_eq_true] at h
   have h1 := (isD_n c).1 h.1
   have e : valD n (c :: r) = valD (10 * n + (c.toNat - 48)) r := rfl
   rw [e]
   have h2 := ih (10 * n + (c.toNat - 48)) (k + 1) h.2 (by rw [Nat.pow_succ]; omega)
   rw [List.length_cons]
   rwa [show k + (r.length + 1) = k + 1 + r.length by omega]
 intro h
 have := key l 0 0 h (by decide)
 rwa [Nat.zero_add] at this
end Go.Proofs.YtgbiicipkbpmeaaGreatDoor.FT
