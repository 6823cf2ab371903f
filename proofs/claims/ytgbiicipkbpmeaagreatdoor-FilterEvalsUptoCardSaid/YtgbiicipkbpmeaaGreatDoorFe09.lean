/-
  Part 9 of the proof: DnN, DnE.
-/
import Derived.Test.YtgbiicipkbpmeaaGreatDoorFe02
import Derived.Test.YtgbiicipkbpmeaaGreatDoorFe08
set_option linter.unusedSimpArgs false
set_option linter.unusedVariables false
namespace Go.Proofs.YtgbiicipkbpmeaaGreatDoor.DN
set_option maxRecDepth 100000
set_option maxHeartbeats 128000000
open Go.RowKit K BE
def avs (r : Rd) : List Value := r.flatMap fun x => [.string (sb x.1), .string (sb x.2)]
theorem avs_app (r s : Rd) : avs (r ++ s) = avs r ++ avs s := by simp [avs]
theorem avs_cons (x : Av) (r : Rd) : avs (x :: r) = .string (sb x.1) :: .string (sb x.2) :: avs r := by simp [avs]
theorem avs_len (r : Rd) : (avs r).length = r.length * 2 := by
 induction r with
 | nil => rfl
 | cons x r ih => rw [avs_cons]; simp [ih]; omega
theorem cmp_any (x y : Av) (w : World) : Calls Tryz.prog 193 #[.agg #[.string (sb x.1), .string (sb x.2)], .agg #[.string (sb y.1), .string (sb y.2)]] w fun e w' => e = .returned (.int .i64 (Lib.compareBytes x.1 y.1)) ∧ Fr No w w' := by
 obtain ⟨t, u⟩ := x
 obtain ⟨p, q⟩ := y
 simp only
 obtain ⟨g, hg⟩ : ∃ g, w.heap.size = g := ⟨_, rfl⟩
 have HG := hid hg
 clear hg
 go_enter Tryz.func193, Tryz.ntmps193
 go_wp2_with (first
  | ((with_reducible refine K.atO (.box 191 _) ?_); (fail_if_success (have := HB1)); refine wpL_box rfl _ _ rfl _ rfl [.string (sb t), .string (sb u)] rfl ?_; intro w1 HB1 HF1 HS1; rw [HG.out] at HB1 ⊢)
  | ((with_reducible refine K.atO (.box 191 _) ?_); refine wpL_box rfl _ _ rfl _ rfl [.string (sb p), .string (sb q)] rfl ?_; intro w2 HB2 HF2 HS2; rw [HS1.out, HG.out] at HB2 ⊢;
        (have hc1 : w2.cell? ⟨g, 0, none⟩ = some (.string (sb t)) := (HB1.out.fr HF2.out id).cell 0);
        (have hc2 : w2.cell? ⟨g + 1, 0, none⟩ = some (.string (sb p)) := HB2.out.cell 0)))
 refine (compare_any t p w2).mono ?_
 rintro e w3 ⟨rfl, rfl⟩
 go_wp2_with fail
 go_ret
 exact ⟨rfl, HF1.out.trans' HF2.out⟩
theorem insR_mid {x : Av} : ∀ {A C : Rd}, (∀ a ∈ A, ltB x.1 a.1 = false) → (∀ c ∈ C, ltB x.1 c.1 = true) → insR x (A ++ C) = A ++ x :: C
 | [], [], _, _ => rfl
 | [], c :: C, _, h => by
  show insR x (c :: C) = _
  unfold insR
  rw [if_pos (h c (by simp))]
  rfl
 | a :: A, C, h, h2 => by
  rw [List.cons_append]
  unfold insR
  rw [if_neg (by simp [h a (by simp)]), insR_mid (fun b hb => h b (by simp [hb])) h2]
  rfl
theorem srt_snoc (r : Rd) (x : Av) : srt (r ++ [x]) = insR x (srt r) := by simp [srt]
theorem all_le {x l : Av} {A : Rd} (hs : Sd (A ++ [l])) (h : ltB x.1 l.1 = false) : ∀ a ∈ A ++ [l], ltB x.1 a.1 = false := by
 intro a ha
 rcases List.mem_append.1 ha with ha | ha
 ·have h1 := (List.pairwise_append.1 hs).2.2 a ha l (by simp)
  exact le_trans h1 h
 ·obtain rfl := List.mem_singleton.1 ha
  exact h
theorem swap_cells {A C : Rd} {l x : Av} {z : List Value} : spl (spl (avs (A ++ l :: x :: C) ++ z) ((A.length + 1) * 2) [.string (sb l.1), .string (sb l.2)]) (A.length * 2) [.string (sb x.1), .string (sb x.2)] = avs (A ++ x :: l :: C) ++ z := by
 have e1 : avs (A ++ l :: x :: C) ++ z = avs A ++ (Value.string (sb l.1) :: .string (sb l.2) :: .string (sb x.1) :: .string (sb x.2) :: (avs C ++ z)) := by rw [avs_app, avs_cons, avs_cons]; simp
 have e2 : avs (A ++ x :: l :: C) ++ z = avs A ++ (Value.string (sb x.1) :: .string (sb x.2) :: .string (sb l.1) :: .string (sb l.2) :: (avs C ++ z)) := by rw [avs_app, avs_cons, avs_cons]; simp
 rw [e1, e2]
 have hl := avs_len A
 obtain ⟨V, hV⟩ : ∃ V, avs A = V := ⟨_, rfl⟩
 rw [hV] at hl ⊢
 have s1 : spl (V ++ (Value.string (sb l.1) :: .string (sb l.2) :: .string (sb x.1) :: .string (sb x.2) :: (avs C ++ z))) ((A.length + 1) * 2) [.string (sb l.1), .string (sb l.2)] = V ++ (Value.string (sb l.1) :: .string (sb l.2) :: .string (sb l.1) :: .string (sb l.2) :: (avs C ++ z)) := by
  unfold spl
  rw [show (A.length + 1) * 2 = V.length + 2 by omega, List.take_length_add_append, show V.length + 2 + [Value.string (sb l.1), .string (sb l.2)].length = V.length + 4 by simp, List.drop_length_add_append]
  simp
 rw [s1]
 unfold spl
 rw [show A.length * 2 = V.length by omega, List.take_left, List.drop_length_add_append]
 simp
theorem avs_range {w : World} {g : Nat} {A C : Rd} {x : Av} {z : List Value} (hB : Blk w g 191 (avs (A ++ x :: C) ++ z)) : w.rangeAt g (A.length * 2) [.string (sb x.1), .string (sb x.2)] := by
 refine hB.range _ _ ?_
 have hl := avs_len A
 rw [avs_app, avs_cons, ← hl, List.append_assoc, List.drop_left]
 rfl
theorem exec_gtrI {op : Oper} {a : Act} (x y : Operand) (t u : TypeId) (ho : op.op = .binOp .gtr t x y u) (k : IntKind) (m n : Int) (hx : a.eval x = .int k m) (hy : a.eval y = .int k n) (b : Bool) (hb : decide (n < m) = b) (w : World) :
  (execOp a.eval op).run Tryz.prog w = .ok (.value (.bool b)) w := by
 subst hb
 unfold execOp
 simp only [ho, hx, hy]
 simp [go_sem, eqGuard, Result.andThen]
theorem exec_lssI {op : Oper} {a : Act} (x y : Operand) (t u : TypeId) (ho : op.op = .binOp .lss t x y u) (k : IntKind) (m n : Int) (hx : a.eval x = .int k m) (hy : a.eval y = .int k n) (b : Bool) (hb : decide (m < n) = b) (w : World) :
  (execOp a.eval op).run Tryz.prog w = .ok (.value (.bool b)) w := by
 subst hb
 unfold execOp
 simp only [ho, hx, hy]
 simp [go_sem, eqGuard, Result.andThen]
theorem exec_subI {op : Oper} {a : Act} (x y : Operand) (t u : TypeId) (ho : op.op = .binOp .sub t x y u) (m n : Int) (hx : a.eval x = .int .i64 m) (hy : a.eval y = .int .i64 n) (r : Int) (hr : IntKind.i64.wrap (m - n) = r) (w : World) :
  (execOp a.eval op).run Tryz.prog w = .ok (.value (.int .i64 r)) w := by
 subst hr
 unfold execOp
 simp only [ho, hx, hy]
 simp [go_sem, eqGuard, Result.andThen]
theorem insertion_any (g n cap : Nat) (r : Rd) (z : List Value) (w : World) (hn : r.length = n) (hc : n ≤ cap) (hB : Blk w g 191 (avs r ++ z)) (hl : n ≤ 1048576) :
  Calls Tryz.prog 247 #[.slice (some ⟨g, 0, none⟩) n cap, .int .i64 0, .int .i64 (n : Int), .func (.func 193) #[] #[]] w fun e w' => (∃ v, e = .returned v) ∧ Blk w' g 191 (avs (srt r) ++ z) ∧ Fr (fun k => k = g) w w' := by
 have HNN := hid hn
 have HB0 := hid hB
 have hni : (n : Int) ≤ 1048576 := by omega
 have HC := hid hc
 clear hB hn hl hc
 go_enter Tryz.func247, Tryz.ntmps247
 go_wp2_with fail
 go_loopw [8] (fun iv wr => ∃ (i : Nat), iv = .int .i64 i ∧ 1 ≤ i ∧ (n = 0 ∨ i ≤ n ∨ i = 1) ∧ Hid (Blk wr g 191 (avs (srt (r.take i) ++ r.drop i) ++ z) ∧ Fr (fun k => k = g) w wr)) (fun iv _ => n - (intOf iv).toNat)
 case atStart =>
  refine ⟨1, rfl, Nat.le_refl _, .inr (.inr rfl), hid ⟨?_, Fr.refl _ _⟩⟩
  have h1 : srt (r.take 1) = r.take 1 := by
   cases r with
   | nil => rfl
   | cons a q => rfl
  rw [h1, List.take_append_drop]
  exact HB0.out
 case round =>
  obtain ⟨i, rfl, hi1, hin, HI⟩ := hrel
  by_cases hlt : i < n
  ·have hlti : (i : Int) < n := by omega
   have hi0 : (0 : Int) ≤ i := by omega
   obtain ⟨x, hx⟩ : ∃ x, r[i]? = some x := ⟨_, List.getElem?_eq_getElem (by rw [HNN.out]; exact hlt)⟩
   have hsplit : r.drop i = x :: r.drop (i + 1) := by
    have hl : i < r.length := by rw [HNN.out]; exact hlt
    rw [List.drop_eq_getElem_cons hl]
    rw [List.getElem?_eq_getElem hl] at hx
    rw [Option.some.inj hx]
   have htake : r.take (i + 1) = r.take i ++ [x] := by rw [List.take_add_one, hx]; rfl
   have hsl : (srt (r.take i)).length = i := by rw [srt_len, List.length_take, HNN.out]; omega
   have HFIN : Hid (srt (r.take (i + 1)) = insR x (srt (r.take i))) := hid (by rw [htake, srt_snoc])
   have HSD := hid (srt_sorted (r.take i))
   obtain ⟨P, hP⟩ : ∃ P, srt (r.take i) = P := ⟨_, rfl⟩
   obtain ⟨D, hD⟩ : ∃ D, r.drop (i + 1) = D := ⟨_, rfl⟩
   rw [hsplit, hP, hD] at HI
   rw [hP] at HSD HFIN hsl
   have HDD := hid hD; have HLT := hid hlt; have HSL := hid hsl
   clear hsplit htake hx hP hD hlt hin hsl
   go_wp2_with fail
   go_loopw [9] (fun jv wr2 => ∃ (j : Nat) (A C : Rd), jv = .int .i64 (j : Int) ∧ Hid (A.length = j) ∧ Hid (A ++ C = P ∧ (∀ c ∈ C, ltB x.1 c.1 = true)) ∧ Hid (Blk wr2 g 191 (avs (A ++ x :: (C ++ D)) ++ z) ∧ Fr (fun k => k = g) w wr2)) (fun jv _ => (intOf jv).toNat)
   case atStart => exact ⟨i, P, [], rfl, HSL, hid ⟨by simp, fun c hc => by cases hc⟩, HI⟩
   case round =>
    obtain ⟨j, A, C, rfl, HJA, HAC, HJ⟩ := hrel
    rcases List.eq_nil_or_concat A with rfl | ⟨A', l, rfl⟩
    ·have hfin : srt (r.take (i + 1)) = x :: C := by
      rw [HFIN.out, ← HAC.out.1]
      exact insR_mid (A := []) (fun a ha => by cases ha) HAC.out.2
     have HB2 : Hid (Blk wr g 191 (avs (srt (r.take (i + 1)) ++ r.drop (i + 1)) ++ z) ∧ Fr (fun k => k = g) w wr) := hid ⟨by rw [hfin, HDD.out]; exact HJ.out.1, HJ.out.2⟩
     clear hfin
     obtain rfl : 0 = j := HJA.out
     go_wp2_with fail
     have hold : Facts.hold [] wr.drew := Facts.nil_hold _
     refine wpD_region hold (by kernel_rfl) 17 rfl ?_
     (refine K.pl 0 (v := ?_) rfl ?_ ?_; rotate_left; (intro; go_simp; try with_reducible rfl); simp only [K.pu])
     (refine K.pl 1 (v := ?_) rfl ?_ ?_; rotate_left; (intro; go_simp; try with_reducible rfl); simp only [K.pu])
     (refine K.pl 2 (v := (.bool false)) rfl ?_ ?_; (intro _w; exact exec_gtrI _ _ _ _ rfl .i64 0 0 rfl rfl _ rfl _w); simp only [K.pu])
     (refine K.pl 3 (v := ?_) rfl ?_ ?_; rotate_left; (intro; go_simp; try with_reducible rfl); simp only [K.pu])
     (refine wpD_skip 4 rfl (by kernel_rfl) (by kernel_rfl) (by kernel_rfl) (fun _ _ _ h => h) (by rfl) (by assumption) ?_; simp only [K.pu])
     (refine wpD_skip 5 rfl (by kernel_rfl) (by kernel_rfl) (by kernel_rfl) (fun _ _ _ h => h) (by rfl) (by assumption) ?_; simp only [K.pu])
     (refine wpD_skip 6 rfl (by kernel_rfl) (by kernel_rfl) (by kernel_rfl) (fun _ _ _ h => h) (by rfl) (by assumption) ?_; simp only [K.pu])
     (refine wpD_skip 7 rfl (by kernel_rfl) (by kernel_rfl) (by kernel_rfl) (fun _ _ _ h => h) (by rfl) (by assumption) ?_; simp only [K.pu])
     (refine wpD_skip 8 rfl (by kernel_rfl) (by kernel_rfl) (by kernel_rfl) (fun _ _ _ h => h) (by rfl) (by assumption) ?_; simp only [K.pu])
     (refine wpD_skip 9 rfl (by kernel_rfl) (by kernel_rfl) (by kernel_rfl) (fun _ _ _ h => h) (by rfl) (by assumption) ?_; simp only [K.pu])
     (refine wpD_skip 10 rfl (by kernel_rfl) (by kernel_rfl) (by kernel_rfl) (fun _ _ _ h => h) (by rfl) (by assumption) ?_; simp only [K.pu])
     (refine wpD_skip 11 rfl (by kernel_rfl) (by kernel_rfl) (by kernel_rfl) (fun _ _ _ h => h) (by rfl) (by assumption) ?_; simp only [K.pu])
     (refine wpD_skip 12 rfl (by kernel_rfl) (by kernel_rfl) (by kernel_rfl) (fun _ _ _ h => h) (by rfl) (by assumption) ?_; simp only [K.pu])
     (refine wpD_skip 13 rfl (by kernel_rfl) (by kernel_rfl) (by kernel_rfl) (fun _ _ _ h => h) (by rfl) (by assumption) ?_; simp only [K.pu])
     (refine wpD_skip 14 rfl (by kernel_rfl) (by kernel_rfl) (by kernel_rfl) (fun _ _ _ h => h) (by rfl) (by assumption) ?_; simp only [K.pu])
     (refine wpD_skip 15 rfl (by kernel_rfl) (by kernel_rfl) (by kernel_rfl) (fun _ _ _ h => h) (by rfl) (by assumption) ?_; simp only [K.pu])
     (refine K.pl 16 (v := ?_) rfl ?_ ?_; rotate_left; (intro; go_simp; try with_reducible rfl); simp only [K.pu])
     clear hold
     refine wpD_done (by kernel_rfl) ?_ _
     go_wp2_with fail
     refine ⟨⟨i + 1, by go_num, by omega, by have := HLT.out; omega, hid ⟨HB2.out.1, HB2.out.2.drew⟩⟩, by have := HLT.out; simp [intOf]; omega⟩
    ·rw [List.concat_eq_append] at HJA HAC HJ
     obtain ⟨m, hm⟩ : ∃ m, A'.length = m := ⟨_, rfl⟩
     have HM := hid hm
     have hlen : m + 1 + C.length = i := by have h := congrArg List.length HAC.out.1; rw [HSL.out] at h; simp at h; omega
     have hj1 : (m : Int) + 1 < n := by have := HLT.out; omega
     have hj0 : (0 : Int) ≤ (m : Int) + 1 := by omega
     have hm1 : (m : Int) < n := by omega
     have hm0 : (0 : Int) ≤ (m : Int) := by omega
     have HJB : Hid (Blk wr g 191 (avs (A' ++ l :: x :: (C ++ D)) ++ z)) := hid (by have h := HJ.out.1; simpa using h)
     have hr1 : wr.rangeAt g ((m + 1) * 2) [.string (sb x.1), .string (sb x.2)] := by
      have h : Blk wr g 191 (avs ((A' ++ [l]) ++ x :: (C ++ D)) ++ z) := by have h := HJB.out; simpa using h
      have := avs_range h
      rwa [List.length_append, hm] at this
     have hr2 : wr.rangeAt g (m * 2) [.string (sb l.1), .string (sb l.2)] := by
      have := avs_range HJB.out
      rwa [hm] at this
     have HFJ := hid HJ.out.2
     have HCMP := hid (fun w => cmp_any x l w)
     have hcl := cmp_lt x.1 l.1
     obtain ⟨q, hq⟩ : ∃ q : Int, Lib.compareBytes x.1 l.1 = q := ⟨_, rfl⟩
     rw [hq] at hcl HCMP
     obtain rfl : m + 1 = j := by have h := HJA.out; rw [List.length_append, hm] at h; exact h
     have hjl : ((m + 1 : Nat) : Int) = (m : Int) + 1 := by omega
     rw [hjl]
     clear hlen hq hjl HJ hm
     go_wp2_with fail
     cases hlb : ltB x.1 l.1 with
     | false =>
      have HCL : Hid (decide (q < 0) = false) := hid (by rw [hcl, hlb])
      have hfin : srt (r.take (i + 1)) = A' ++ l :: x :: C := by
       have hP : P = (A' ++ [l]) ++ C := HAC.out.1.symm
       have hsd : Sd (A' ++ [l]) := by have h := HSD.out; rw [hP] at h; exact (List.pairwise_append.1 h).1
       rw [HFIN.out, hP, insR_mid (all_le hsd hlb) HAC.out.2]
       simp
      have HFI := hid hfin
      clear hcl hlb hfin
      have hold : Facts.hold [(8, fun w' => w'.rangeAt g ((m + 1) * 2) [.string (sb x.1), .string (sb x.2)]), (13, fun w' => w'.rangeAt g (m * 2) [.string (sb l.1), .string (sb l.2)])] wr.drew := Facts.cons_hold hr1 (Facts.cons_hold hr2 (Facts.nil_hold _))
      refine wpD_region hold (by kernel_rfl) 17 rfl ?_
      (refine K.pl 0 (v := ?_) rfl ?_ ?_; rotate_left; (intro; go_simp; try with_reducible rfl); simp only [K.pu])
      (refine K.pl 1 (v := ?_) rfl ?_ ?_; rotate_left; (intro; go_simp; try with_reducible rfl); simp only [K.pu])
      (refine K.pl 2 (v := (.bool true)) rfl ?_ ?_; (intro _w; exact exec_gtrI _ _ _ _ rfl .i64 ((m : Int) + 1) 0 rfl rfl _ (decide_eq_true (by omega)) _w); simp only [K.pu])
      (refine K.pl 3 (v := ?_) rfl ?_ ?_; rotate_left; (intro; go_simp; try with_reducible rfl); simp only [K.pu])
      (refine K.pl 4 (v := ?_) rfl ?_ ?_; rotate_left; (intro; go_simp; try with_reducible rfl); simp only [K.pu])
      (refine K.pl 5 (v := ?_) rfl ?_ ?_; rotate_left; (intro; go_simp; try with_reducible rfl); simp only [K.pu])
      (refine K.pl 6 (v := ?_) rfl ?_ ?_; rotate_left; (intro; go_simp; try with_reducible rfl); simp only [K.pu])
      (refine K.pl 7 (v := (.pointer (some ⟨g, (m + 1) * 2, none⟩))) rfl ?_ ?_; (intro _w; go_simp; skip); simp only [K.pu])
      (refine K.tk 8 _ rfl K.m0 (exec_load _ _ rfl g ((m + 1) * 2) rfl _ _ rfl rfl infoAv) ?_; simp only [K.pu])
      (refine K.pl 9 (v := ?_) rfl ?_ ?_; rotate_left; (intro; go_simp; try with_reducible rfl); simp only [K.pu])
      (refine K.pl 10 (v := ?_) rfl ?_ ?_; rotate_left; (intro; go_simp; try with_reducible rfl); simp only [K.pu])
      (refine K.pl 11 (v := (.int .i64 (m : Int))) rfl ?_ ?_; (intro _w; exact exec_subI _ _ _ _ rfl ((m : Int) + 1) 1 rfl rfl _ (by rw [IntKind.wrap_i64]; omega) _w); simp only [K.pu])
      (refine K.pl 12 (v := (.pointer (some ⟨g, m * 2, none⟩))) rfl ?_ ?_; (intro _w; go_simp; skip); simp only [K.pu])
      (refine K.tk 13 _ rfl K.m1 (exec_load _ _ rfl g (m * 2) rfl _ _ rfl rfl infoAv) ?_; simp only [K.pu])
      clear hold
      refine K.on 14 [] rfl (fun K14 hK14 => ?_)
      refine wp_call _ _ _ rfl 193 [] rfl (fun vs w => by kernel_rfl) [.agg #[.string (sb x.1), .string (sb x.2)], .agg #[.string (sb l.1), .string (sb l.2)]] (by rfl) ?_
      refine (HCMP.out wr.drew).mono ?_
      rintro e w3 ⟨rfl, f3⟩
      have HF3 := hid ((Fr.refl No wr).drew.trans' f3)
      have HB3 := hid (HJB.out.fr HF3.out id)
      refine ⟨_, rfl, hK14 _ _ (Facts.nil_hold _) ?_⟩
      clear hK14 K14 f3
      simp only [K.pu]
      have hold : Facts.hold [] w3 := Facts.nil_hold _
      (refine K.pl 15 (v := (.bool false)) rfl ?_ ?_; (intro _w; exact exec_lssI _ _ _ _ rfl .i64 q 0 rfl rfl _ HCL.out _w); simp only [K.pu])
      (refine K.pl 16 (v := ?_) rfl ?_ ?_; rotate_left; (intro; go_simp; try with_reducible rfl); simp only [K.pu])
      clear hold
      refine wpD_done (by kernel_rfl) ?_ _
      go_wp2_with fail
      refine ⟨⟨i + 1, by go_num, by omega, by have := HLT.out; omega, hid ⟨?_, HFJ.out.trans HF3.out fun k e => e.elim⟩⟩, by have := HLT.out; simp [intOf]; omega⟩
      rw [HFI.out, HDD.out]
      have h := HB3.out
      simpa using h
     | true =>
      have HCL : Hid (decide (q < 0) = true) := hid (by rw [hcl, hlb])
      have HLB := hid hlb
      clear hcl hlb
      have hold : Facts.hold [(8, fun w' => w'.rangeAt g ((m + 1) * 2) [.string (sb x.1), .string (sb x.2)]), (13, fun w' => w'.rangeAt g (m * 2) [.string (sb l.1), .string (sb l.2)])] wr.drew := Facts.cons_hold hr1 (Facts.cons_hold hr2 (Facts.nil_hold _))
      refine wpD_region hold (by kernel_rfl) 17 rfl ?_
      (refine K.pl 0 (v := ?_) rfl ?_ ?_; rotate_left; (intro; go_simp; try with_reducible rfl); simp only [K.pu])
      (refine K.pl 1 (v := ?_) rfl ?_ ?_; rotate_left; (intro; go_simp; try with_reducible rfl); simp only [K.pu])
      (refine K.pl 2 (v := (.bool true)) rfl ?_ ?_; (intro _w; exact exec_gtrI _ _ _ _ rfl .i64 ((m : Int) + 1) 0 rfl rfl _ (decide_eq_true (by omega)) _w); simp only [K.pu])
      (refine K.pl 3 (v := ?_) rfl ?_ ?_; rotate_left; (intro; go_simp; try with_reducible rfl); simp only [K.pu])
      (refine K.pl 4 (v := ?_) rfl ?_ ?_; rotate_left; (intro; go_simp; try with_reducible rfl); simp only [K.pu])
      (refine K.pl 5 (v := ?_) rfl ?_ ?_; rotate_left; (intro; go_simp; try with_reducible rfl); simp only [K.pu])
      (refine K.pl 6 (v := ?_) rfl ?_ ?_; rotate_left; (intro; go_simp; try with_reducible rfl); simp only [K.pu])
      (refine K.pl 7 (v := (.pointer (some ⟨g, (m + 1) * 2, none⟩))) rfl ?_ ?_; (intro _w; go_simp; skip); simp only [K.pu])
      (refine K.tk 8 _ rfl K.m0 (exec_load _ _ rfl g ((m + 1) * 2) rfl _ _ rfl rfl infoAv) ?_; simp only [K.pu])
      (refine K.pl 9 (v := ?_) rfl ?_ ?_; rotate_left; (intro; go_simp; try with_reducible rfl); simp only [K.pu])
      (refine K.pl 10 (v := ?_) rfl ?_ ?_; rotate_left; (intro; go_simp; try with_reducible rfl); simp only [K.pu])
      (refine K.pl 11 (v := (.int .i64 (m : Int))) rfl ?_ ?_; (intro _w; exact exec_subI _ _ _ _ rfl ((m : Int) + 1) 1 rfl rfl _ (by rw [IntKind.wrap_i64]; omega) _w); simp only [K.pu])
      (refine K.pl 12 (v := (.pointer (some ⟨g, m * 2, none⟩))) rfl ?_ ?_; (intro _w; go_simp; skip); simp only [K.pu])
      (refine K.tk 13 _ rfl K.m1 (exec_load _ _ rfl g (m * 2) rfl _ _ rfl rfl infoAv) ?_; simp only [K.pu])
      clear hold
      refine K.on 14 [] rfl (fun K14 hK14 => ?_)
      refine wp_call _ _ _ rfl 193 [] rfl (fun vs w => by kernel_rfl) [.agg #[.string (sb x.1), .string (sb x.2)], .agg #[.string (sb l.1), .string (sb l.2)]] (by rfl) ?_
      refine (HCMP.out wr.drew).mono ?_
      rintro e w3 ⟨rfl, f3⟩
      have HF3 := hid ((Fr.refl No wr).drew.trans' f3)
      have HB3 := hid (HJB.out.fr HF3.out id)
      refine ⟨_, rfl, hK14 _ _ (Facts.nil_hold _) ?_⟩
      clear hK14 K14 f3
      simp only [K.pu]
      have hold : Facts.hold [] w3 := Facts.nil_hold _
      (refine K.pl 15 (v := (.bool true)) rfl ?_ ?_; (intro _w; exact exec_lssI _ _ _ _ rfl .i64 q 0 rfl rfl _ HCL.out _w); simp only [K.pu])
      (refine K.pl 16 (v := ?_) rfl ?_ ?_; rotate_left; (intro; go_simp; try with_reducible rfl); simp only [K.pu])
      clear hold
      refine wpD_done (by kernel_rfl) ?_ _
      go_wp2_with fail
      have hr3 : w3.rangeAt g (m * 2) [.string (sb l.1), .string (sb l.2)] := HF3.out.range hr2 id
      have hr4 : w3.rangeAt g ((m + 1) * 2) [.string (sb x.1), .string (sb x.2)] := HF3.out.range hr1 id
      have hold : Facts.hold [(9, fun w' => w'.rangeAt g (m * 2) [.string (sb l.1), .string (sb l.2)]), (13, fun w' => w'.rangeAt g ((m + 1) * 2) [.string (sb x.1), .string (sb x.2)])] w3.drew := Facts.cons_hold hr3 (Facts.cons_hold hr4 (Facts.nil_hold _))
      refine wpD_region hold (by kernel_rfl) 18 rfl ?_
      (refine K.pl 0 (v := ?_) rfl ?_ ?_; rotate_left; (intro; go_simp; try with_reducible rfl); simp only [K.pu])
      (refine K.pl 1 (v := ?_) rfl ?_ ?_; rotate_left; (intro; go_simp; try with_reducible rfl); simp only [K.pu])
      (refine K.pl 2 (v := ?_) rfl ?_ ?_; rotate_left; (intro; go_simp; try with_reducible rfl); simp only [K.pu])
      (refine K.pl 3 (v := ?_) rfl ?_ ?_; rotate_left; (intro; go_simp; try with_reducible rfl); simp only [K.pu])
      (refine K.pl 4 (v := (.int .i64 (m : Int))) rfl ?_ ?_; (intro _w; exact exec_subI _ _ _ _ rfl ((m : Int) + 1) 1 rfl rfl _ (by rw [IntKind.wrap_i64]; omega) _w); simp only [K.pu])
      (refine K.pl 5 (v := ?_) rfl ?_ ?_; rotate_left; (intro; go_simp; try with_reducible rfl); simp only [K.pu])
      (refine K.pl 6 (v := ?_) rfl ?_ ?_; rotate_left; (intro; go_simp; try with_reducible rfl); simp only [K.pu])
      (refine K.pl 7 (v := (.int .i64 (m : Int))) rfl ?_ ?_; (intro _w; exact exec_subI _ _ _ _ rfl ((m : Int) + 1) 1 rfl rfl _ (by rw [IntKind.wrap_i64]; omega) _w); simp only [K.pu])
      (refine K.pl 8 (v := (.pointer (some ⟨g, m * 2, none⟩))) rfl ?_ ?_; (intro _w; go_simp; skip); simp only [K.pu])
      (refine K.tk 9 _ rfl K.m0 (exec_load _ _ rfl g (m * 2) rfl _ _ rfl rfl infoAv) ?_; simp only [K.pu])
      (refine K.pl 10 (v := ?_) rfl ?_ ?_; rotate_left; (intro; go_simp; try with_reducible rfl); simp only [K.pu])
      (refine K.pl 11 (v := ?_) rfl ?_ ?_; rotate_left; (intro; go_simp; try with_reducible rfl); simp only [K.pu])
      (refine K.pl 12 (v := (.pointer (some ⟨g, (m + 1) * 2, none⟩))) rfl ?_ ?_; (intro _w; go_simp; skip); simp only [K.pu])
      (refine K.tk 13 _ rfl K.m1 (exec_load _ _ rfl g ((m + 1) * 2) rfl _ _ rfl rfl infoAv) ?_; simp only [K.pu])
      (refine K.pl 14 (v := (.pointer (some ⟨g, (m + 1) * 2, none⟩))) rfl ?_ ?_; (intro _w; go_simp; skip); simp only [K.pu])
      clear hold
      have hlenB : (m + 1) * 2 + 2 ≤ (avs (A' ++ l :: x :: (C ++ D)) ++ z).length := by
       rw [List.length_append, avs_len]
       have := HM.out
       simp
       omega
      have HLB2 := hid hlenB
      clear hlenB
      refine K.on 15 [] rfl (fun K15 hK15 => ?_)
      refine wp_storeV _ _ _ rfl g ((m + 1) * 2) (.agg #[.string (sb l.1), .string (sb l.2)]) [.string (sb l.1), .string (sb l.2)] rfl rfl rfl 191 _ (show Blk w3.drew g _ _ from HB3.out) (by have := HLB2.out; simpa using this) infoAv (by simp [Value.oneCell']) ?_
      intro w5 HB5 HF5 HS5
      refine hK15 _ _ (Facts.nil_hold _) ?_
      clear hK15 K15
      simp only [K.pu]
      have hold : Facts.hold [] w5 := Facts.nil_hold _
      (refine K.pl 16 (v := (.pointer (some ⟨g, m * 2, none⟩))) rfl ?_ ?_; (intro _w; go_simp; skip); simp only [K.pu])
      clear hold
      refine K.on 17 [] rfl (fun K17 hK17 => ?_)
      refine wp_storeV _ _ _ rfl g (m * 2) (.agg #[.string (sb x.1), .string (sb x.2)]) [.string (sb x.1), .string (sb x.2)] rfl rfl rfl 191 _ HB5.out (by rw [spl_length _ _ _ (by have := HLB2.out; simpa using this)]; have := HLB2.out; simp at *; omega) infoAv (by simp [Value.oneCell']) ?_
      intro w6 HB6 HF6 HS6
      refine hK17 _ _ (Facts.nil_hold _) ?_
      clear hK17 K17
      simp only [K.pu]
      refine wpD_done (by kernel_rfl) ?_ _
      go_wp2_with fail
      refine ⟨⟨m, A', l :: C, by go_num, HM, hid ⟨by have h := HAC.out.1; simpa using h, fun c hc => ?_⟩, hid ⟨?_, ?_⟩⟩, by simp [intOf]⟩
      ·rcases List.mem_cons.1 hc with rfl | hc
       ·exact HLB.out
       ·exact HAC.out.2 c hc
      ·have h := HB6.out
       rw [← HM.out, swap_cells] at h
       exact h
      ·exact (HFJ.out.trans HF3.out fun k e => e.elim).trans ((Fr.refl (fun k => k = g) w3).drew.trans' (HF5.out.trans' HF6.out)) fun k e => .inl e
  ·have hd : i = 1 ∨ i = n ∨ n = 0 := by omega
   have hfin : srt (r.take i) ++ r.drop i = srt r := by
    rcases Nat.lt_or_ge r.length i with hri | hri
    ·rw [List.take_of_length_le (by omega), List.drop_of_length_le (by omega), List.append_nil]
    ·have : r.length = i := by have := HNN.out; omega
     rw [← this, List.take_length, List.drop_length, List.append_nil]
   have HBF := HI.out.1
   rw [hfin] at HBF
   have HBG := hid HBF
   clear HBF hfin
   go_wp2_with fail
   go_end0
   exact ⟨⟨_, rfl⟩, HBG.out, HI.out.2⟩
def SP : B := [34, 43, 44, 59, 60, 62, 92, 35, 61, 32]
theorem sp_index (c : UInt8) : decide ((0 : Int) ≤ Lib.indexByte SP c) = (sign c || c == 35 || c == 61 || c == 32) := by
 have := u8_all (fun c => decide ((0 : Int) ≤ Lib.indexByte SP c) == (sign c || c == 35 || c == 61 || c == 32)) (by decide +kernel) c
 simpa using this
def escV (s : B) : Value := match esc s with
 | some x => .tuple #[.int .u8 (x.1.toNat : Int), .int .i64 (((s.length - x.2.length + 1 : Nat)) : Int)]
 | none => .tuple #[.int .u8 0, .int .i64 0]
theorem hexs_two (x y : UInt8) : hexs 0 [x, y] = (hexv x).bind fun a => (hexv y).bind fun b => some (16 * a.toNat + b.toNat) := by
 simp [hexs]
theorem escaped_any (s : B) (hs : Sz s) (w : World) (hG : Gl w) : Calls Tryz.prog 221 #[.string (sb s)] w fun e w' => e = .returned (escV s) ∧ Fr No w w' := by
 have HG := hid hG
 clear hG
 cases s with
 | nil =>
  have hv : escV [] = .tuple #[.int .u8 0, .int .i64 0] := rfl
  rw [hv]
  clear hs hv
  go_enter Tryz.func221, Tryz.ntmps221
  go_wp2_with (first | ((with_reducible refine K.atO (.binOp .neq 9 _ _ _) ?_); refine wpL_valZ rfl (.bool false) (by exact exec_neS _ _ _ rfl [] [] rfl rfl _) ?_))
  go_ret2
  exact ⟨rfl, Fr.refl _ _⟩
 | cons c r =>
  have hlen : ((sb (c :: r)).size : Int) = (r.length : Int) + 1 := by rw [sb_size]; simp
  have hrl : (r.length : Int) ≤ 140737488351232 := by unfold Sz at hs; simp at hs; omega
  have hne : (!decide ((c :: r : B) = [])) = true := rfl
  have HN := hid hne
  have HSP := hid (sp_index c)
  have HIX := hid (fun w => indexByte_any SP c w)
  cases hsg : (sign c || c == 35 || c == 61 || c == 32) with
  | true =>
   have HV : Hid (escV (c :: r) = .tuple #[.int .u8 (c.toNat : Int), .int .i64 2]) := hid (by
    have he : esc (c :: r) = some (c, r) := by
     show (if (sign c || c == 35 || c == 61 || c == 32) = true then _ else _) = _
     rw [hsg, if_pos rfl]
    unfold escV
    rw [he]
    simp)
   rw [HV.out]
   rw [hsg] at HSP
   have hi0 := of_decide_eq_true HSP.out
   obtain ⟨x, hx⟩ : ∃ x : Int, Lib.indexByte SP c = x := ⟨_, rfl⟩
   obtain ⟨S, hS⟩ : ∃ S, sb (c :: r) = S := ⟨_, rfl⟩
   have HS := hid hS
   rw [hx] at hi0 HIX
   rw [hS] at hlen ⊢
   clear hsg HSP HV hne hx hS hs
   go_enter Tryz.func221, Tryz.ntmps221
   go_wp2_with (first
    | ((with_reducible refine K.atO (.binOp .neq 9 _ _ _) ?_); refine wpL_valZ rfl (.bool true) (by rw [← HS.out]; exact exec_neS _ _ _ rfl (c :: r) [] rfl rfl _) ?_)
    | ((with_reducible refine K.atO (.index 9 _ _) ?_); refine idxZ (i := 0) (b := c) HS (hid rfl) rfl rfl rfl rfl ?_))
   refine (HIX.out _).mono ?_
   rintro e w1 ⟨rfl, rfl⟩
   go_wp2_with (first
    | ((with_reducible refine K.atO (.index 9 _ _) ?_); refine idxZ (i := 0) (b := c) HS (hid rfl) rfl rfl rfl rfl ?_))
   go_ret2
   exact ⟨rfl, Fr.refl _ _⟩
  | false =>
   have hec := esc_cons c r
   rw [hsg, if_neg (by decide)] at hec
   rw [hsg] at HSP
   have hi0 := of_decide_eq_false HSP.out
   obtain ⟨x, hx⟩ : ∃ x : Int, Lib.indexByte SP c = x := ⟨_, rfl⟩
   rw [hx] at hi0 HIX
   cases r with
   | nil =>
    have HV : Hid (escV [c] = .tuple #[.int .u8 0, .int .i64 0]) := hid (by unfold escV; rw [hec])
    rw [HV.out]
    obtain ⟨S, hS⟩ : ∃ S, sb [c] = S := ⟨_, rfl⟩
    have HS := hid hS
    rw [hS] at hlen ⊢
    have hl1 : (S.size : Int) = 1 := by rw [hlen]; rfl
    clear hsg HSP HV hne hx hS hs hec hlen hrl
    go_enter Tryz.func221, Tryz.ntmps221
    go_wp2_with (first
     | ((with_reducible refine K.atO (.binOp .neq 9 _ _ _) ?_); refine wpL_valZ rfl (.bool true) (by rw [← HS.out]; exact exec_neS _ _ _ rfl [c] [] rfl rfl _) ?_)
     | ((with_reducible refine K.atO (.index 9 _ _) ?_); refine idxZ (i := 0) (b := c) HS (hid rfl) rfl rfl rfl rfl ?_))
    refine (HIX.out _).mono ?_
    rintro e w1 ⟨rfl, rfl⟩
    go_wp2_with fail
    go_ret2
    exact ⟨rfl, Fr.refl _ _⟩
   | cons d r' =>
    have hec2 := hec
    dsimp only at hec2
    have HPU := hid (fun w (hG : Gl w) => parseUint_any c d w hG)
    have htk : (c :: d :: r').take 2 = [c, d] := rfl
    have hl2 : (2 : Int) ≤ ((r'.length : Int) + 1) + 1 := by omega
    have hrl2 : ((d :: r').length : Int) = (r'.length : Int) + 1 := by simp
    rw [hrl2] at hlen hrl
    have HL2 : Hid (2 ≤ (c :: d :: r').length) := hid (by simp)
    obtain ⟨rn, hrn⟩ : ∃ rn : Int, (r'.length : Int) = rn := ⟨_, rfl⟩
    rw [hrn] at hlen hrl hl2
    have hrn0 : 0 ≤ rn := by omega
    cases hq : hexs 0 [c, d] with
    | some n =>
     have hh := hexs_two c d
     rw [hq] at hh
     obtain ⟨xa, ha⟩ : ∃ xa, hexv c = some xa := by
      cases h : hexv c with
      | none => rw [h] at hh; cases hh
      | some x => exact ⟨x, rfl⟩
     obtain ⟨ya, hb⟩ : ∃ ya, hexv d = some ya := by
      cases h : hexv d with
      | none => rw [ha, h] at hh; cases hh
      | some x => exact ⟨x, rfl⟩
     rw [ha, hb] at hh hec2
     have hxl := hexv_lt ha
     have hyl := hexv_lt hb
     have hn : n = 16 * xa.toNat + ya.toNat := by simpa using hh
     have hby : ((16 * xa + ya : UInt8)).toNat = n := by rw [hn, UInt8.toNat_add, UInt8.toNat_mul]; simp; omega
     have HV : Hid (escV (c :: d :: r') = .tuple #[.int .u8 (n : Int), .int .i64 3]) := hid (by
      unfold escV; rw [hec2]
      show Value.tuple #[.int .u8 (((16 * xa + ya : UInt8)).toNat : Int), .int .i64 (((c :: d :: r').length - r'.length + 1 : Nat) : Int)] = _
      rw [hby]
      have : (c :: d :: r').length - r'.length + 1 = 3 := by simp; omega
      rw [this]; rfl)
     have hn1 : (n : Int) < 256 := by omega
     have hn0 : (0 : Int) ≤ n := by omega
     have hwr : IntKind.u8.wrap (n : Int) = n := by simp [IntKind.wrap, IntKind.bits, IntKind.signed]; omega
     have HWR := hid hwr
     rw [HV.out]
     have HTU : Hid (∀ e, ToldU [c, d] e → e = .returned (.tuple #[.int .u64 (n : Int), .nilIface])) := hid (fun e h => by unfold ToldU at h; rw [hq] at h; exact h)
     obtain ⟨S, hS⟩ : ∃ S, sb (c :: d :: r') = S := ⟨_, rfl⟩
     have HS := hid hS
     rw [hS] at hlen ⊢
     clear hsg HSP HV hne hx hS hs hec hec2 hrl2 hh ha hb hxl hyl hn hby hq htk hwr hrn
     go_enter Tryz.func221, Tryz.ntmps221
     go_wp2_with (first
      | ((with_reducible refine K.atO (.binOp .neq 9 _ _ _) ?_); refine wpL_valZ rfl (.bool true) (by rw [← HS.out]; exact exec_neS _ _ _ rfl (c :: d :: r') [] rfl rfl _) ?_)
      | ((with_reducible refine K.atO (.index 9 _ _) ?_); refine idxZ (i := 0) (b := c) HS (hid rfl) rfl rfl rfl rfl ?_))
     refine (HIX.out _).mono ?_
     rintro e w1 ⟨rfl, rfl⟩
     go_wp2_with (first
      | ((with_reducible refine K.atO (.slice 9 _ _ _ _) ?_); refine wpL_valZ rfl (.string (sb [c, d])) (by rw [← HS.out]; exact exec_to _ _ rfl (c :: d :: r') 2 rfl rfl HL2.out _ rfl _) ?_))
     refine (HPU.out _ HG.out).mono ?_
     rintro e w2 ⟨h2, f2⟩
     obtain rfl := HTU.out _ h2
     have HF2 := hid f2
     clear f2 h2
     go_wp2_with fail
     go_ret2
     refine ⟨?_, HF2.out⟩
     first
      | rfl
      | (show Ending.returned (.tuple #[.int .u8 (IntKind.u8.wrap (n : Int)), _]) = _; rw [HWR.out]; rfl)
    | none =>
     have hh := hexs_two c d
     rw [hq] at hh
     have he : esc (c :: d :: r') = none := by
      rw [hec2]
      cases h : hexv c with
      | none => rfl
      | some x =>
       cases h2 : hexv d with
       | none => rfl
       | some y => rw [h, h2] at hh; cases hh
     have HV : Hid (escV (c :: d :: r') = .tuple #[.int .u8 0, .int .i64 0]) := hid (by unfold escV; rw [he])
     rw [HV.out]
     have HTU : Hid (∀ e, ToldU [c, d] e → ∃ t u, e = .returned (.tuple #[.int .u64 0, .iface t u])) := hid (fun e h => by unfold ToldU at h; rw [hq] at h; exact h)
     obtain ⟨S, hS⟩ : ∃ S, sb (c :: d :: r') = S := ⟨_, rfl⟩
     have HS := hid hS
     rw [hS] at hlen ⊢
     clear hsg HSP HV hne hx hS hs hec hec2 hrl2 hh he hq htk hrn
     go_enter Tryz.func221, Tryz.ntmps221
     go_wp2_with (first
      | ((with_reducible refine K.atO (.binOp .neq 9 _ _ _) ?_); refine wpL_valZ rfl (.bool true) (by rw [← HS.out]; exact exec_neS _ _ _ rfl (c :: d :: r') [] rfl rfl _) ?_)
      | ((with_reducible refine K.atO (.index 9 _ _) ?_); refine idxZ (i := 0) (b := c) HS (hid rfl) rfl rfl rfl rfl ?_))
     refine (HIX.out _).mono ?_
     rintro e w1 ⟨rfl, rfl⟩
     go_wp2_with (first
      | ((with_reducible refine K.atO (.slice 9 _ _ _ _) ?_); refine wpL_valZ rfl (.string (sb [c, d])) (by rw [← HS.out]; exact exec_to _ _ rfl (c :: d :: r') 2 rfl rfl HL2.out _ rfl _) ?_))
     refine (HPU.out _ HG.out).mono ?_
     rintro e w2 ⟨h2, f2⟩
     obtain ⟨t, u, rfl⟩ := HTU.out _ h2
     have HF2 := hid f2
     clear f2 h2
     go_wp2_with fail
     go_ret2
     exact ⟨rfl, HF2.out⟩
end Go.Proofs.YtgbiicipkbpmeaaGreatDoor.DN
