/-
  Part 24 of the proof: FtRs, FtNd.
-/
import Derived.Test.YtgbiicipkbpmeaaGreatDoorFe23
set_option linter.unusedSimpArgs false
set_option linter.unusedVariables false
namespace Go.Proofs.YtgbiicipkbpmeaaGreatDoor.FT
set_option maxRecDepth 100000
set_option maxHeartbeats 128000000
open Go.RowKit K BE DN SC
theorem join_snoc (s : B) (a : B) : ∀ L : List B, joinB s (L ++ [a]) = if L = [] then a else joinB s L ++ s ++ a
 | [] => rfl
 | [x] => by simp [joinB]
 | x :: y :: r => by
  have h := join_snoc s a (y :: r)
  rw [if_neg (List.cons_ne_nil _ _)] at h ⊢
  have e : joinB s ((x :: y :: r) ++ [a]) = x ++ s ++ joinB s ((y :: r) ++ [a]) := rfl
  rw [e, h]
  simp [joinB]
theorem valFrom_len : ∀ (v : B) (f : Bool), (valFrom f v).length ≤ 3 * v.length
 | [], _ => by simp [valFrom]
 | c :: r, f => by
  have h := valFrom_len r false
  have := byT_len f r.isEmpty c
  unfold valFrom
  rw [List.length_append, List.length_cons]
  omega
def RdS (r : Rd) : Prop := r.length ≤ 1000 ∧ ∀ a ∈ r, a.1.length ≤ 1048576 ∧ a.2.length ≤ 1048576
theorem avaT_len {r : Rd} (h : RdS r) {a : Av} (ha : a ∈ r) : (avaT a).length ≤ 4194305 ∧ (valT a.2).length ≤ 3145728 := by
 have h1 := h.2 a ha
 have h2 := valFrom_len a.2 true
 have e : valT a.2 = valFrom true a.2 := rfl
 unfold avaT
 rw [e]
 simp only [List.length_append, List.length_cons, List.length_nil]
 omega
theorem step_len : ∀ (L : List B) (k : Nat), (∀ x ∈ L, x.length ≤ k) → (joinB [43] L).length ≤ L.length * (k + 1)
 | [], _, _ => by simp [joinB]
 | [a], k, h => by have := h a (by simp); simp [joinB]; omega
 | a :: b :: r, k, h => by
  have h1 := h a (by simp)
  have h2 := step_len (b :: r) k fun x hx => h x (by simp [hx])
  have e : joinB [43] (a :: b :: r) = a ++ [43] ++ joinB [43] (b :: r) := rfl
  rw [e, List.length_append, List.length_append, List.length_cons (a := a), Nat.succ_mul]
  simp only [List.length_cons, List.length_nil] at h2 ⊢
  omega
theorem rstep_any {S : Nat → Prop} (v : Value) (r : Rd) (w : World) (h : RdIn S w v r) (hb : RdS r) : Calls Tryz.prog 139 #[v] w fun e w' => e = .returned (.string (sb (DN.stepT r))) ∧ Fr No w w' := by
 obtain ⟨va, vcp, rfl, -, -⟩ := h.form
 obtain ⟨n, hn⟩ : ∃ n, r.length = n := ⟨_, rfl⟩
 have HE := hid h; have HN := hid hn; have HBD := hid hb
 rw [hn] at HE ⊢
 have hni : (n : Int) ≤ 1000 := by have := hb.1; omega
 have HLT2 : Hid (∀ i, (joinB [43] ((r.take i).map avaT)).length ≤ 4194306000) := hid (fun i => by
  have := step_len ((r.take i).map avaT) 4194305 (fun x hx => by
   obtain ⟨a, ha, rfl⟩ := List.mem_map.1 hx
   exact (avaT_len hb (List.mem_of_mem_take ha)).1)
  rw [List.length_map, List.length_take] at this
  have h2 : min i r.length ≤ 1000 := Nat.le_trans (Nat.min_le_right _ _) hb.1
  have := Nat.mul_le_mul_right 4194306 h2
  omega)
 clear h hn hb
 go_enter Tryz.func139, Tryz.ntmps139
 go_wp2_with fail
 go_loopw [3, 4] (fun sv iv wr => ∃ (i : Nat) (P : B), iv = .int .i64 i ∧ i ≤ n ∧ sv = .string (sb P) ∧ Hid (P = joinB [43] ((r.take i).map avaT)) ∧ Hid (Fr No w wr)) (fun _ iv _ => n - (intOf iv).toNat)
 case atStart => exact ⟨0, [], rfl, Nat.zero_le _, rfl, hid rfl, hid (Fr.refl _ _)⟩
 case round =>
  obtain ⟨i, P, rfl, hi, rfl, HP, HFw⟩ := hrel
  by_cases hlt : i < n
  ·obtain ⟨x, hx⟩ : ∃ x, r[i]? = some x := ⟨_, List.getElem?_eq_getElem (by rw [HN.out]; exact hlt)⟩
   have hlti : (i : Int) < n := by omega
   have hi0 : (0 : Int) ≤ i := by omega
   have HLT := hid hlt
   have HPL : Hid (P.length ≤ 4194306000) := hid (by rw [HP.out]; exact HLT2.out i)
   obtain ⟨g, o, cp, c, e1, -, -, hr, -, ⟨rfl, hz1, hz2⟩⟩ := Sl.get (Sl.fr (D := No) HE.out HFw.out (fun _ _ _ e => e) (fun _ _ _ h => h)) hx
   rw [HN.out] at e1
   obtain ⟨rfl, rfl⟩ := K.sj e1
   have hxm : x ∈ r := List.mem_of_getElem? hx
   have HXL := hid (show x.1.length ≤ 1048576 ∧ x.2.length ≤ 1048576 ∧ (valT x.2).length ≤ 3145728 from ⟨(HBD.out.2 x hxm).1, (HBD.out.2 x hxm).2, (avaT_len HBD.out hxm).2⟩)
   have c0 : wr.drew.cell? ⟨g, o + i * 2, none⟩ = some (.string (sb x.1)) := by have := hr 0 _ rfl; exact this
   have c1 : wr.drew.cell? ⟨g, o + i * 2 + 1, none⟩ = some (.string (sb x.2)) := by have := hr 1 _ rfl; exact this
   have HNX : Hid (joinB [43] ((r.take (i + 1)).map avaT) = (if i = 0 then [] else P ++ [43]) ++ avaT x) := hid (by
    rw [List.take_add_one, hx, Option.toList_some, List.map_append, List.map_cons, List.map_nil, join_snoc]
    by_cases h0 : i = 0
    ·subst h0; simp
    ·have hne : (r.take i).map avaT ≠ [] := by
      intro e
      have := congrArg List.length e
      rw [List.length_map, List.length_take, HN.out] at this
      simp at this
      omega
     rw [if_neg hne, if_neg h0, HP.out])
   have HC0 := hid c0; have HC1 := hid c1
   clear hr hx hxm hlt hz1 hz2 c0 c1
   cases i with
   | zero =>
    have HPL2 : Hid (P.length ≤ 4194306001) := hid (by have := HPL.out; omega)
    have HNY : Hid (joinB [43] ((r.take (0 + 1)).map avaT) = P ++ avaT x) := hid (show joinB [43] ((r.take (0 + 1)).map avaT) = P ++ avaT x by rw [HNX.out, if_pos rfl, HP.out]; rfl)
    have HC0 := hid (show wr.drew.cell? ⟨g, o, none⟩ = some (.string (sb x.1)) by have := HC0.out; rwa [Nat.zero_mul, Nat.add_zero] at this)
    have HC1 := hid (show wr.drew.cell? ⟨g, o + 1, none⟩ = some (.string (sb x.2)) by have := HC1.out; rwa [Nat.zero_mul, Nat.add_zero] at this)
    clear HP HPL
    obtain ⟨T1, hT1⟩ : ∃ T1, P ++ x.1 = T1 := ⟨_, rfl⟩
    obtain ⟨T2, hT2⟩ : ∃ T2, T1 ++ [61] = T2 := ⟨_, rfl⟩
    obtain ⟨T3, hT3⟩ : ∃ T3, T2 ++ valT x.2 = T3 := ⟨_, rfl⟩
    have HT1 := hid hT1; have HT2 := hid hT2; have HT3 := hid hT3
    have HTL := hid (show P.length ≤ 4194306001 ∧ T1.length ≤ 4194306001 + x.1.length ∧ T2.length ≤ 4194306002 + x.1.length from by rw [← hT2, ← hT1]; have := HPL2.out; simp; omega)
    have HT4 : Hid (T3 = P ++ avaT x) := hid (by rw [← hT3, ← hT2, ← hT1]; simp [avaT])
    clear hT1 hT2 hT3
    go_wp2_with fail
    have hold : Facts.hold [(5, fun w' => w'.cell? ⟨g, o, none⟩ = some (.string (sb x.1))), (12, fun w' => w'.cell? ⟨g, o + 1, none⟩ = some (.string (sb x.2)))] wr.drew := Facts.cons_hold HC0.out (Facts.cons_hold HC1.out (Facts.nil_hold _))
    refine wpD_region hold (by kernel_rfl) 16 rfl ?_
    (refine K.pl 0 (v := ?_) rfl ?_ ?_; rotate_left; (intro; go_simp; try with_reducible rfl); simp only [K.pu])
    (refine K.pl 1 (v := ?_) rfl ?_ ?_; rotate_left; (intro; go_simp; try with_reducible rfl); simp only [K.pu])
    (refine K.pl 2 (v := ?_) rfl ?_ ?_; rotate_left; (intro; go_simp; try with_reducible rfl); simp only [K.pu])
    (refine K.pl 3 (v := ?_) rfl ?_ ?_; rotate_left; (intro; go_simp; try with_reducible rfl); simp only [K.pu])
    (refine K.pl 4 (v := ?_) rfl ?_ ?_; rotate_left; (intro; go_simp; try with_reducible rfl); simp only [K.pu])
    (refine K.tk 5 _ rfl K.m0 (v := ?_) ?_ ?_; rotate_left; (intro _ _hw; go_simp; try with_reducible rfl); simp only [K.pu])
    (refine K.pl 6 (v := (.string (sb T1))) rfl ?_ ?_; (intro _w; exact exec_addS _ _ _ rfl P x.1 rfl rfl (by have := HXL.out; have := HTL.out; omega) _ HT1.out _); simp only [K.pu])
    (refine K.pl 7 (v := (.string (sb T2))) rfl ?_ ?_; (intro _w; exact exec_addS _ _ _ rfl T1 [61] rfl rfl (by have := HXL.out; have := HTL.out; show T1.length + 1 ≤ _; omega) _ HT2.out _); simp only [K.pu])
    (refine K.pl 8 (v := ?_) rfl ?_ ?_; rotate_left; (intro; go_simp; try with_reducible rfl); simp only [K.pu])
    (refine K.pl 9 (v := ?_) rfl ?_ ?_; rotate_left; (intro; go_simp; try with_reducible rfl); simp only [K.pu])
    (refine K.pl 10 (v := ?_) rfl ?_ ?_; rotate_left; (intro; go_simp; try with_reducible rfl); simp only [K.pu])
    (refine K.pl 11 (v := ?_) rfl ?_ ?_; rotate_left; (intro; go_simp; try with_reducible rfl); simp only [K.pu])
    (refine K.tk 12 _ rfl K.m1 (v := ?_) ?_ ?_; rotate_left; (intro _ _hw; go_simp; try with_reducible rfl); simp only [K.pu])
    clear hold
    refine K.on 13 [(5, fun w' => w'.cell? ⟨g, o, none⟩ = some (.string (sb x.1)))] rfl (fun K13 hK13 => ?_)
    refine wp_call (.func 176) _ _ rfl 176 [] rfl (fun vs w => by kernel_rfl) [.string (sb x.2)] (by rfl) ?_
    refine (rvalue_any x.2 (by have := HXL.out; omega) wr.drew).mono ?_
    rintro e w4 ⟨rfl, f4⟩
    have c4 : w4.cell? ⟨g, o, none⟩ = some (.string (sb x.1)) := f4.cell HC0.out id
    have HF4 : Hid (Fr No w w4) := hid (HFw.out.trans' ((Fr.refl No wr).drew.trans' f4))
    refine ⟨_, rfl, hK13 _ _ (Facts.cons_hold c4 (Facts.nil_hold _)) ?_⟩
    clear hK13 K13 f4
    simp only [K.pu]
    have hold : Facts.hold [(5, fun w' => w'.cell? ⟨g, o, none⟩ = some (.string (sb x.1)))] w4 := Facts.cons_hold c4 (Facts.nil_hold _)
    (refine K.pl 14 (v := (.string (sb T3))) rfl ?_ ?_; (intro _w; exact exec_addS _ _ _ rfl T2 (valT x.2) rfl rfl (by have := HXL.out; have := HTL.out; omega) _ HT3.out _); simp only [K.pu])
    (refine K.pl 15 (v := ?_) rfl ?_ ?_; rotate_left; (intro; go_simp; try with_reducible rfl); simp only [K.pu])
    clear hold
    refine wpD_done (by kernel_rfl) ?_ _
    go_wp2_with fail
    refine ⟨⟨0 + 1, T3, by go_num, HLT.out, rfl, hid (by rw [HNY.out]; first | exact HT4.out | exact HT4.out.symm), HF4⟩, ?_⟩
    have := HLT.out
    simp [intOf]; omega
   | succ k =>
    have hk0 : (0 : Int) < ((k + 1 : Nat) : Int) := by omega
    obtain ⟨P2, hP2⟩ : ∃ P2 : B, P ++ [43] = P2 := ⟨_, rfl⟩
    have HP2 := hid hP2
    have HPL2 : Hid (P2.length ≤ 4194306001) := hid (by rw [← hP2]; have := HPL.out; simp; omega)
    have HNX := hid (show joinB [43] ((r.take (k + 1 + 1)).map avaT) = P2 ++ avaT x by rw [HNX.out, ← hP2, if_neg (by omega)])
    clear hP2 HP
    obtain ⟨T1, hT1⟩ : ∃ T1, P2 ++ x.1 = T1 := ⟨_, rfl⟩
    obtain ⟨T2, hT2⟩ : ∃ T2, T1 ++ [61] = T2 := ⟨_, rfl⟩
    obtain ⟨T3, hT3⟩ : ∃ T3, T2 ++ valT x.2 = T3 := ⟨_, rfl⟩
    have HT1 := hid hT1; have HT2 := hid hT2; have HT3 := hid hT3
    have HTL := hid (show P2.length ≤ 4194306001 ∧ T1.length ≤ 4194306001 + x.1.length ∧ T2.length ≤ 4194306002 + x.1.length from by rw [← hT2, ← hT1]; have := HPL2.out; simp; omega)
    have HT4 : Hid (T3 = P2 ++ avaT x) := hid (by rw [← hT3, ← hT2, ← hT1]; simp [avaT])
    clear hT1 hT2 hT3
    obtain ⟨q, hq⟩ : ∃ q : Nat, k + 1 = q := ⟨_, rfl⟩
    rw [hq] at hi0 hlti HC0 HC1 HNX HLT hk0 ⊢
    clear hq hi
    go_wp2_with (first
     | ((with_reducible refine K.atO (.binOp .add 9 _ _ _) ?_); refine wpL_valZ (by rfl) (.string (sb P2)) (exec_addS _ _ _ rfl P [43] rfl rfl (by have := HPL.out; simp; omega) _ HP2.out _) ?_))
    have hold : Facts.hold [(5, fun w' => w'.cell? ⟨g, o + q * 2, none⟩ = some (.string (sb x.1))), (12, fun w' => w'.cell? ⟨g, o + q * 2 + 1, none⟩ = some (.string (sb x.2)))] wr.drew := Facts.cons_hold HC0.out (Facts.cons_hold HC1.out (Facts.nil_hold _))
    refine wpD_region hold (by kernel_rfl) 16 rfl ?_
    (refine K.pl 0 (v := ?_) rfl ?_ ?_; rotate_left; (intro; go_simp; try with_reducible rfl); simp only [K.pu])
    (refine K.pl 1 (v := ?_) rfl ?_ ?_; rotate_left; (intro; go_simp; try with_reducible rfl); simp only [K.pu])
    (refine K.pl 2 (v := ?_) rfl ?_ ?_; rotate_left; (intro; go_simp; try with_reducible rfl); simp only [K.pu])
    (refine K.pl 3 (v := ?_) rfl ?_ ?_; rotate_left; (intro; go_simp; try with_reducible rfl); simp only [K.pu])
    (refine K.pl 4 (v := ?_) rfl ?_ ?_; rotate_left; (intro; go_simp; try with_reducible rfl); simp only [K.pu])
    (refine K.tk 5 _ rfl K.m0 (v := ?_) ?_ ?_; rotate_left; (intro _ _hw; go_simp; try with_reducible rfl); simp only [K.pu])
    (refine K.pl 6 (v := (.string (sb T1))) rfl ?_ ?_; (intro _w; exact exec_addS _ _ _ rfl P2 x.1 rfl rfl (by have := HXL.out; have := HTL.out; omega) _ HT1.out _); simp only [K.pu])
    (refine K.pl 7 (v := (.string (sb T2))) rfl ?_ ?_; (intro _w; exact exec_addS _ _ _ rfl T1 [61] rfl rfl (by have := HXL.out; have := HTL.out; show T1.length + 1 ≤ _; omega) _ HT2.out _); simp only [K.pu])
    (refine K.pl 8 (v := ?_) rfl ?_ ?_; rotate_left; (intro; go_simp; try with_reducible rfl); simp only [K.pu])
    (refine K.pl 9 (v := ?_) rfl ?_ ?_; rotate_left; (intro; go_simp; try with_reducible rfl); simp only [K.pu])
    (refine K.pl 10 (v := ?_) rfl ?_ ?_; rotate_left; (intro; go_simp; try with_reducible rfl); simp only [K.pu])
    (refine K.pl 11 (v := ?_) rfl ?_ ?_; rotate_left; (intro; go_simp; try with_reducible rfl); simp only [K.pu])
    (refine K.tk 12 _ rfl K.m1 (v := ?_) ?_ ?_; rotate_left; (intro _ _hw; go_simp; try with_reducible rfl); simp only [K.pu])
    clear hold
    refine K.on 13 [(5, fun w' => w'.cell? ⟨g, o + q * 2, none⟩ = some (.string (sb x.1)))] rfl (fun K13 hK13 => ?_)
    refine wp_call (.func 176) _ _ rfl 176 [] rfl (fun vs w => by kernel_rfl) [.string (sb x.2)] (by rfl) ?_
    refine (rvalue_any x.2 (by have := HXL.out; omega) wr.drew).mono ?_
    rintro e w4 ⟨rfl, f4⟩
    have c4 : w4.cell? ⟨g, o + q * 2, none⟩ = some (.string (sb x.1)) := f4.cell HC0.out id
    have HF4 : Hid (Fr No w w4) := hid (HFw.out.trans' ((Fr.refl No wr).drew.trans' f4))
    refine ⟨_, rfl, hK13 _ _ (Facts.cons_hold c4 (Facts.nil_hold _)) ?_⟩
    clear hK13 K13 f4
    simp only [K.pu]
    have hold : Facts.hold [(5, fun w' => w'.cell? ⟨g, o + q * 2, none⟩ = some (.string (sb x.1)))] w4 := Facts.cons_hold c4 (Facts.nil_hold _)
    (refine K.pl 14 (v := (.string (sb T3))) rfl ?_ ?_; (intro _w; exact exec_addS _ _ _ rfl T2 (valT x.2) rfl rfl (by have := HXL.out; have := HTL.out; omega) _ HT3.out _); simp only [K.pu])
    (refine K.pl 15 (v := ?_) rfl ?_ ?_; rotate_left; (intro; go_simp; try with_reducible rfl); simp only [K.pu])
    clear hold
    refine wpD_done (by kernel_rfl) ?_ _
    go_wp2_with fail
    refine ⟨⟨q + 1, T3, by go_num, HLT.out, rfl, hid (by rw [HNX.out]; first | exact HT4.out | exact HT4.out.symm), HF4⟩, ?_⟩
    have := HLT.out
    simp [intOf]; omega
  ·obtain rfl : i = n := by omega
   have HPE : Hid (P = DN.stepT r) := hid (by rw [HP.out, List.take_of_length_le (by rw [HN.out]; exact Nat.le_refl _)]; rfl)
   go_wp2_with fail
   go_ret
   exact ⟨by rw [← HPE.out]; rfl, HFw.out⟩
theorem less_ltB : ∀ p q : B, Op.bytesLess p q = ltB p q
 | [], [] => rfl
 | [], _ :: _ => rfl
 | _ :: _, [] => rfl
 | a :: r, b :: s => by
  unfold Op.bytesLess ltB
  rw [less_ltB r s]
theorem gtr_ltB (p q : B) : (!(ltB p q || p == q)) = ltB q p := by
 cases h : ltB q p with
 | true =>
  have h1 := ltB_asymm h
  have h2 : (p == q) = false := by
   rw [beq_eq_false_iff_ne]
   rintro rfl
   rw [ltB_irr] at h
   cases h
  rw [h1, h2]; rfl
 | false =>
  cases h1 : ltB p q with
  | true => rfl
  | false =>
   rw [ltB_tot _ _ h1 h]
   simp
theorem binOp_gtrS (t : TypeId) (a b : ByteArray) : binOp .gtr t (.string a) (.string b) = pure (.bool !(Op.bytesLess a.toList b.toList || a.toList == b.toList)) := by simp [binOp, Op.stringOp]
theorem exec_gtrS {op : Oper} {a : Act} (x y : Operand) (u : TypeId) (ho : op.op = .binOp .gtr 9 x y u) (p q : B) (hx : a.eval x = .string (sb p)) (hy : a.eval y = .string (sb q)) (r : Bool) (hr : ltB q p = r) (w : World) :
  (execOp a.eval op).run Tryz.prog w = .ok (.value (.bool r)) w := by
 subst hr
 unfold execOp
 simp only [ho, hx, hy]
 rw [binOp_gtrS, ByteArray.toList_eq, ByteArray.toList_eq, sb_list, sb_list, less_ltB, gtr_ltB]
 simp [go_sem, eqGuard, Result.andThen]
theorem srt_snoc (r : Rd) (a : Av) : srt (r ++ [a]) = insR a (srt r) := by unfold srt; rw [List.foldl_append]; rfl
theorem ins_at (a : Av) : ∀ (acc : Rd) (k : Nat), k ≤ acc.length → (∀ (j : Nat) b, k ≤ j → acc[j]? = some b → ltB a.1 b.1 = true) → (∀ (j : Nat) b, j < k → acc[j]? = some b → ltB a.1 b.1 = false) → insR a acc = acc.take k ++ a :: acc.drop k
 | [], k, h, _, _ => by
  have : k = 0 := by simpa using h
  subst this
  rfl
 | b :: r, 0, _, h1, _ => by
  unfold insR
  rw [if_pos (h1 0 b (Nat.le_refl _) rfl)]
  rfl
 | b :: r, k + 1, h, h1, h2 => by
  unfold insR
  rw [if_neg (by rw [h2 0 b (Nat.succ_pos _) rfl]; decide)]
  rw [ins_at a r k (by simpa using h) (fun j c hj hc => h1 (j + 1) c (by omega) (by simpa using hc)) (fun j c hj hc => h2 (j + 1) c (by omega) (by simpa using hc))]
  rfl
theorem sd_le {a : Av} {acc : Rd} (hs : Sd acc) {k : Nat} {b : Av} (hb : acc[k]? = some b) (h : ltB a.1 b.1 = false) : ∀ (j : Nat) c, j < k + 1 → acc[j]? = some c → ltB a.1 c.1 = false := by
 intro j c hj hc
 by_cases e : j = k
 ·subst e
  rw [hb] at hc
  cases hc
  exact h
 ·have hl : ltB b.1 c.1 = false := by
   obtain ⟨h1, rfl⟩ := List.getElem?_eq_some_iff.1 hb
   obtain ⟨h2, rfl⟩ := List.getElem?_eq_some_iff.1 hc
   exact List.pairwise_iff_getElem.1 hs j k h2 h1 (by omega)
  cases hq : ltB a.1 c.1 with
  | false => rfl
  | true =>
   exfalso
   cases hbc : ltB c.1 b.1 with
   | true => rw [ltB_trans _ _ _ hq hbc] at h; cases h
   | false =>
    have := ltB_tot _ _ hl hbc
    rw [this, hq] at h
    cases h
end Go.Proofs.YtgbiicipkbpmeaaGreatDoor.FT
