/-
  The document's Head.
-/
import Derived.Test.YtoikiokcpakokaaBf1
import Derived.Test.YtoikiokcpakokaaBeG
set_option linter.unusedVariables false
set_option linter.unusedSimpArgs false
namespace Go.Proofs.Ytoikiokcpakokaa.BE
set_option maxRecDepth 100000
open Go.RowKit K

def hdE : Except Nat (Nat × Nat × Nat) → Nat × Nat × Nat × Nat
  | .error k => (0, 0, 0, k)
  | .ok (t, c, h) => (t, c, h, 0)
theorem headN_eq (s : B) : headN s = hdE (hdS s) := by
  unfold headN hdE
  cases hdS s with
  | error k => rfl
  | ok p => rfl
set_option maxHeartbeats 16000000 in
theorem docHead_any (s : B) (w : World) (hs : s.length ≤ 281474976710656) : Calls Try.prog 17 #[.string (sb s)] w fun e w' => e = toldH (headN s) ∧ Fr No w w' := by
  match s, hs with
  | [], hs =>
    have hsz : ((sb []).size : Int) = 0 := by rw [sb_size]; rfl
    obtain ⟨q, hq⟩ : ∃ q, sb [] = q := ⟨_, rfl⟩
    rw [hq] at hsz ⊢
    clear hq
    go_enter Try.func17, Try.ntmps17
    go_wp2_with fail
    refine bodyPost_ret (v := .tuple #[.int .i64 0, .int .i64 0, .int .i64 0, .int .i64 92]) (by simp [results, Try.results17]) rfl ⟨?_, Fr.refl _ _⟩
    rw [show headN [] = (0, 0, 0, 92) from rfl]
    rfl
  | t :: r, hs =>
    have hsz := sb_size (t :: r)
    obtain ⟨n, hn⟩ : ∃ n, (t :: r).length = n := ⟨_, rfl⟩
    have hnr : n = r.length + 1 := by rw [← hn]; rfl
    rw [hn] at hs hsz
    have hszi : ((sb (t :: r)).size : Int) = n := by omega
    have h0 : (t :: r)[0]? = some t := rfl
    obtain ⟨S, hS⟩ : ∃ S, t :: r = S := ⟨_, rfl⟩
    have HSS := hid hS
    rw [hS] at hszi h0 hn ⊢
    have H0 := hid h0; have HNN := hid hn; have HNR := hid hnr
    obtain ⟨tn, htn⟩ : ∃ tn, t.toNat = tn := ⟨_, rfl⟩
    have htl := lt256 t
    rw [htn] at htl
    have HTN := hid htn
    have hn1 : (1 : Int) ≤ n := by omega
    obtain ⟨R, hR⟩ : ∃ R, headN S = R := ⟨_, rfl⟩
    rw [hR]
    have HR : Hid (R = hdE (hdS S)) := hid (by rw [← hR]; exact headN_eq S)
    clear hS h0 hn hsz hnr htn hR
    have hidx : ∀ (op : Oper) (a : Act) (x y : Operand), op.op = .index 9 x y → a.eval x = .string (sb S) → a.eval y = .int .i64 0 → ∀ W, (execOp a.eval op).run Try.prog W = .ok (.value (.int .u8 (tn : Int))) W := fun op a x y ho hx hy W => by rw [← HTN.out]; exact exec_idx x y ho S 0 t H0.out 0 rfl hx hy W
    have HIX := hid hidx
    clear hidx
    go_enter Try.func17, Try.ntmps17
    go_wp2_with (first
      | ((with_reducible show wpList _ _ _ (⟨_, .index 9 _ _, _, _, _, _⟩ :: _) _ _); refine wpL_valZ (by rfl) (.int .u8 (tn : Int)) (HIX.out _ _ _ _ rfl rfl rfl _) ?_)
      | fail)
    refine (tag_any (tn : Int) w).mono ?_
    rintro e w2 ⟨rfl, rfl⟩
    cases ht : tagB (tn : Int) with
    | false =>
      have hR : R = (0, 0, 0, 90) := by
        rw [HR.out, ← HSS.out]
        simp only [hdS]
        rw [HTN.out, if_pos ht]
        rfl
      have HRR := hid hR
      clear hR ht
      go_wp2_with fail
      refine bodyPost_ret (v := .tuple #[.int .i64 0, .int .i64 0, .int .i64 0, .int .i64 90]) (by simp [results, Try.results17]) rfl ⟨by rw [HRR.out]; rfl, Fr.refl _ _⟩
    | true =>
      have HT := hid ht
      clear ht
      by_cases hn2 : n = 1
      · obtain rfl : r = [] := List.eq_nil_of_length_eq_zero (by have := HNR.out; omega)
        have hR : R = (0, 0, 0, 92) := by
          rw [HR.out, ← HSS.out]
          simp only [hdS]
          rw [HTN.out, if_neg (by rw [HT.out]; simp)]
          rfl
        have HRR := hid hR
        subst hn2
        have hszi1 : ((sb S).size : Int) = 1 := hszi
        clear hR hszi
        go_wp2_with fail
        refine bodyPost_ret (v := .tuple #[.int .i64 0, .int .i64 0, .int .i64 0, .int .i64 92]) (by simp [results, Try.results17]) rfl ⟨by rw [HRR.out]; rfl, Fr.refl _ _⟩
      · obtain ⟨l, q, rfl⟩ : ∃ l q, r = l :: q := by
          cases r with
          | nil => exact absurd HNR.out (by simpa using hn2)
          | cons l q => exact ⟨l, q, rfl⟩
        have hni : ((n : Int) == 1) = false := by simp; omega
        have hni2 : (1 : Int) < n := by omega
        have H1 : Hid (S[1]? = some l) := hid (by rw [← HSS.out]; rfl)
        obtain ⟨ln, hln⟩ : ∃ ln, l.toNat = ln := ⟨_, rfl⟩
        have hll := lt256 l
        rw [hln] at hll
        have HLN := hid hln
        clear hn2 hln
        have HDS : Hid (hdS S = hdL tn ln q) := hid (by
          rw [← HSS.out, ← HTN.out, ← HLN.out]
          exact hdS_two q (by rw [HTN.out]; exact HT.out))
        have hidx1 : ∀ (op : Oper) (a : Act) (x y : Operand), op.op = .index 9 x y → a.eval x = .string (sb S) → a.eval y = .int .i64 1 → ∀ W, (execOp a.eval op).run Try.prog W = .ok (.value (.int .u8 (ln : Int))) W := fun op a x y ho hx hy W => by rw [← HLN.out]; exact exec_idx x y ho S 1 l H1.out 1 rfl hx hy W
        have HI1 := hid hidx1
        clear hidx1
        by_cases hl8 : ln < 128
        · have hlt : (ln : Int) < 128 := by omega
          have hR : R = (tn, ln, 2, 0) := by rw [HR.out, HDS.out]; unfold hdL; rw [if_pos hl8]; rfl
          have HRR := hid hR
          clear hR
          go_wp2_with (first
            | ((with_reducible show wpList _ _ _ (⟨_, .index 9 _ _, _, _, _, _⟩ :: _) _ _); refine wpL_valZ (by rfl) (.int .u8 (ln : Int)) (HI1.out _ _ _ _ rfl rfl rfl _) ?_)
            | fail)
          have hold : Facts.hold [] w2.drew := Facts.nil_hold _
          refine wp_region_noPanic ?_
          refine wpD_region hold (by kernel_rfl) 10 rfl ?_
          (refine wpD_plain 0 (v := ?_) rfl (by kernel_rfl) (by kernel_rfl) (by kernel_rfl) (fun _ _ _ h => h) (by rfl) ?_ (by assumption) ?_; rotate_left; (intro _w; go_simp; try with_reducible rfl); simp only [Act.put, List.setIfInBounds_toArray, List.set_cons_zero, List.set_cons_succ])
          (refine wpD_plain 1 (v := (.int .u8 (tn : Int))) rfl (by kernel_rfl) (by kernel_rfl) (by kernel_rfl) (fun _ _ _ h => h) (by rfl) ?_ (by assumption) ?_; (intro _w; exact HIX.out _ _ _ _ rfl rfl rfl _w); simp only [Act.put, List.setIfInBounds_toArray, List.set_cons_zero, List.set_cons_succ])
          (refine wpD_plain 2 (v := (.int .i64 (tn : Int))) rfl (by kernel_rfl) (by kernel_rfl) (by kernel_rfl) (fun _ _ _ h => h) (by rfl) ?_ (by assumption) ?_; (intro _w; go_simp; rw [IntKind.wrap_i64] <;> omega); simp only [Act.put, List.setIfInBounds_toArray, List.set_cons_zero, List.set_cons_succ])
          (refine wpD_plain 3 (v := ?_) rfl (by kernel_rfl) (by kernel_rfl) (by kernel_rfl) (fun _ _ _ h => h) (by rfl) ?_ (by assumption) ?_; rotate_left; (intro _w; go_simp; try with_reducible rfl); simp only [Act.put, List.setIfInBounds_toArray, List.set_cons_zero, List.set_cons_succ])
          (refine wpD_plain 4 (v := (.int .u8 (ln : Int))) rfl (by kernel_rfl) (by kernel_rfl) (by kernel_rfl) (fun _ _ _ h => h) (by rfl) ?_ (by assumption) ?_; (intro _w; exact HI1.out _ _ _ _ rfl rfl rfl _w); simp only [Act.put, List.setIfInBounds_toArray, List.set_cons_zero, List.set_cons_succ])
          (refine wpD_plain 5 (v := (.int .i64 (ln : Int))) rfl (by kernel_rfl) (by kernel_rfl) (by kernel_rfl) (fun _ _ _ h => h) (by rfl) ?_ (by assumption) ?_; (intro _w; go_simp; rw [IntKind.wrap_i64] <;> omega); simp only [Act.put, List.setIfInBounds_toArray, List.set_cons_zero, List.set_cons_succ])
          (refine wpD_plain 6 (v := ?_) rfl (by kernel_rfl) (by kernel_rfl) (by kernel_rfl) (fun _ _ _ h => h) (by rfl) ?_ (by assumption) ?_; rotate_left; (intro _w; go_simp; try with_reducible rfl); simp only [Act.put, List.setIfInBounds_toArray, List.set_cons_zero, List.set_cons_succ])
          (refine wpD_plain 7 (v := ?_) rfl (by kernel_rfl) (by kernel_rfl) (by kernel_rfl) (fun _ _ _ h => h) (by rfl) ?_ (by assumption) ?_; rotate_left; (intro _w; go_simp; try with_reducible rfl); simp only [Act.put, List.setIfInBounds_toArray, List.set_cons_zero, List.set_cons_succ])
          (refine wpD_plain 8 (v := ?_) rfl (by kernel_rfl) (by kernel_rfl) (by kernel_rfl) (fun _ _ _ h => h) (by rfl) ?_ (by assumption) ?_; rotate_left; (intro _w; go_simp; try with_reducible rfl); simp only [Act.put, List.setIfInBounds_toArray, List.set_cons_zero, List.set_cons_succ])
          (refine wpD_plain 9 (v := ?_) rfl (by kernel_rfl) (by kernel_rfl) (by kernel_rfl) (fun _ _ _ h => h) (by rfl) ?_ (by assumption) ?_; rotate_left; (intro _w; go_simp; try with_reducible rfl); simp only [Act.put, List.setIfInBounds_toArray, List.set_cons_zero, List.set_cons_succ])
          clear hold
          refine wpD_done (by kernel_rfl) (NoPanic.normal ?_) _
          go_wp2_with fail
          refine bodyPost_ret (v := .tuple #[.int .i64 (tn : Int), .int .i64 (ln : Int), .int .i64 2, .int .i64 0]) (by simp [results, Try.results17]) rfl ⟨by rw [HRR.out]; rfl, (Fr.refl _ w2).drew⟩
        · by_cases h129 : ln = 129
          · subst h129
            by_cases hn3 : n < 3
            · have hn3i : (n : Int) < 3 := by omega
              have hR : R = (0, 0, 0, 92) := by
                rw [HR.out, HDS.out]
                have h1 := HNR.out
                cases q with
                | nil => rfl
                | cons a q' => simp at h1; omega
              have HRR := hid hR
              clear hR hn3
              go_wp2_with (first
            | ((with_reducible show wpList _ _ _ (⟨_, .index 9 _ _, _, _, _, _⟩ :: _) _ _); refine wpL_valZ (by rfl) (.int .u8 (tn : Int)) (HIX.out _ _ _ _ rfl rfl rfl _) ?_)
            | ((with_reducible show wpList _ _ _ (⟨_, .index 9 _ _, _, _, _, _⟩ :: _) _ _); refine wpL_valZ (by rfl) (.int .u8 129) (HI1.out _ _ _ _ rfl rfl rfl _) ?_)
            | fail)
              refine bodyPost_ret (v := .tuple #[.int .i64 0, .int .i64 0, .int .i64 0, .int .i64 92]) (by simp [results, Try.results17]) rfl ⟨by rw [HRR.out]; rfl, Fr.refl _ _⟩
            · have hn3i : (3 : Int) ≤ n := by omega
              obtain ⟨a, q', rfl⟩ : ∃ a q', q = a :: q' := by
                have h1 := HNR.out
                cases q with
                | nil => simp at h1; omega
                | cons a q' => exact ⟨a, q', rfl⟩
              have H2 : Hid (S[2]? = some a) := hid (by rw [← HSS.out]; rfl)
              have hal := lt256 a
              obtain ⟨an, han⟩ : ∃ an, a.toNat = an := ⟨_, rfl⟩
              rw [han] at hal
              have HAN := hid han
              have hidx2 : ∀ (op : Oper) (a : Act) (x y : Operand), op.op = .index 9 x y → a.eval x = .string (sb S) → a.eval y = .int .i64 2 → ∀ W, (execOp a.eval op).run Try.prog W = .ok (.value (.int .u8 (an : Int))) W := fun op a' x y ho hx hy W => by rw [← HAN.out]; exact exec_idx x y ho S 2 a H2.out 2 rfl hx hy W
              have HI2 := hid hidx2
              clear hidx2 han hn3
              have hali : (an : Int) < 256 := by omega
              by_cases ha8 : an < 128
              · have ha8i : (an : Int) < 128 := by omega
                have hR : R = (0, 0, 0, 90) := by
                  rw [HR.out, HDS.out]
                  show hdE (if a.toNat < 128 then _ else _) = _
                  rw [HAN.out, if_pos ha8]
                  rfl
                have HRR := hid hR
                clear hR
                go_wp2_with (first
            | ((with_reducible show wpList _ _ _ (⟨_, .index 9 _ _, _, _, _, _⟩ :: _) _ _); refine wpL_valZ (by rfl) (.int .u8 (tn : Int)) (HIX.out _ _ _ _ rfl rfl rfl _) ?_)
            | ((with_reducible show wpList _ _ _ (⟨_, .index 9 _ _, _, _, _, _⟩ :: _) _ _); refine wpL_valZ (by rfl) (.int .u8 129) (HI1.out _ _ _ _ rfl rfl rfl _) ?_)
            | ((with_reducible show wpList _ _ _ (⟨_, .index 9 _ _, _, _, _, _⟩ :: _) _ _); refine wpL_valZ (by rfl) (.int .u8 (an : Int)) (HI2.out _ _ _ _ rfl rfl rfl _) ?_)
            | fail)
                refine bodyPost_ret (v := .tuple #[.int .i64 0, .int .i64 0, .int .i64 0, .int .i64 90]) (by simp [results, Try.results17]) rfl ⟨by rw [HRR.out]; rfl, Fr.refl _ _⟩
              · have ha8i : (128 : Int) ≤ an := by omega
                have hR : R = (tn, an, 3, 0) := by
                  rw [HR.out, HDS.out]
                  show hdE (if a.toNat < 128 then _ else _) = _
                  rw [HAN.out, if_neg ha8]
                  rfl
                have HRR := hid hR
                clear hR
                go_wp2_with (first
            | ((with_reducible show wpList _ _ _ (⟨_, .index 9 _ _, _, _, _, _⟩ :: _) _ _); refine wpL_valZ (by rfl) (.int .u8 (tn : Int)) (HIX.out _ _ _ _ rfl rfl rfl _) ?_)
            | ((with_reducible show wpList _ _ _ (⟨_, .index 9 _ _, _, _, _, _⟩ :: _) _ _); refine wpL_valZ (by rfl) (.int .u8 129) (HI1.out _ _ _ _ rfl rfl rfl _) ?_)
            | ((with_reducible show wpList _ _ _ (⟨_, .index 9 _ _, _, _, _, _⟩ :: _) _ _); refine wpL_valZ (by rfl) (.int .u8 (an : Int)) (HI2.out _ _ _ _ rfl rfl rfl _) ?_)
            | fail)
                refine bodyPost_ret (v := .tuple #[.int .i64 (tn : Int), .int .i64 (an : Int), .int .i64 3, .int .i64 0]) (by simp [results, Try.results17]) rfl ⟨by rw [HRR.out]; rfl, Fr.refl _ _⟩
          · by_cases h130 : ln = 130
            · subst h130
              by_cases hn3 : n < 4
              · have hn3i : (n : Int) < 4 := by omega
                have hR : R = (0, 0, 0, 92) := by
                  rw [HR.out, HDS.out]
                  have h1 := HNR.out
                  match q, h1 with
                  | [], _ => rfl
                  | [_], _ => rfl
                  | a :: b :: q', h1 => simp at h1; omega
                have HRR := hid hR
                clear hR hn3
                go_wp2_with (first
            | ((with_reducible show wpList _ _ _ (⟨_, .index 9 _ _, _, _, _, _⟩ :: _) _ _); refine wpL_valZ (by rfl) (.int .u8 (tn : Int)) (HIX.out _ _ _ _ rfl rfl rfl _) ?_)
            | ((with_reducible show wpList _ _ _ (⟨_, .index 9 _ _, _, _, _, _⟩ :: _) _ _); refine wpL_valZ (by rfl) (.int .u8 130) (HI1.out _ _ _ _ rfl rfl rfl _) ?_)
            | fail)
                refine bodyPost_ret (v := .tuple #[.int .i64 0, .int .i64 0, .int .i64 0, .int .i64 92]) (by simp [results, Try.results17]) rfl ⟨by rw [HRR.out]; rfl, Fr.refl _ _⟩
              · have hn3i : (4 : Int) ≤ n := by omega
                obtain ⟨a, b, q', rfl⟩ : ∃ a b q', q = a :: b :: q' := by
                  have h1 := HNR.out
                  match q, h1 with
                  | [], h1 => simp at h1; omega
                  | [_], h1 => simp at h1; omega
                  | a :: b :: q', _ => exact ⟨a, b, q', rfl⟩
                have H2 : Hid (S[2]? = some a) := hid (by rw [← HSS.out]; rfl)
                have H3 : Hid (S[3]? = some b) := hid (by rw [← HSS.out]; rfl)
                have hal := lt256 a
                have hbl := lt256 b
                obtain ⟨an, han⟩ : ∃ an, a.toNat = an := ⟨_, rfl⟩
                obtain ⟨bn, hbn⟩ : ∃ bn, b.toNat = bn := ⟨_, rfl⟩
                rw [han] at hal
                rw [hbn] at hbl
                have HAN := hid han
                have HBN := hid hbn
                have hidx2 : ∀ (op : Oper) (a : Act) (x y : Operand), op.op = .index 9 x y → a.eval x = .string (sb S) → a.eval y = .int .i64 2 → ∀ W, (execOp a.eval op).run Try.prog W = .ok (.value (.int .u8 (an : Int))) W := fun op a' x y ho hx hy W => by rw [← HAN.out]; exact exec_idx x y ho S 2 a H2.out 2 rfl hx hy W
                have hidx3 : ∀ (op : Oper) (a : Act) (x y : Operand), op.op = .index 9 x y → a.eval x = .string (sb S) → a.eval y = .int .i64 3 → ∀ W, (execOp a.eval op).run Try.prog W = .ok (.value (.int .u8 (bn : Int))) W := fun op a' x y ho hx hy W => by rw [← HBN.out]; exact exec_idx x y ho S 3 b H3.out 3 rfl hx hy W
                have HI2 := hid hidx2
                have HI3 := hid hidx3
                clear hidx2 hidx3 han hbn hn3
                have hali : (an : Int) < 256 := by omega
                have hbli : (bn : Int) < 256 := by omega
                have hQ : R = hdE (if 256 * an + bn < 256 then .error 90 else if 4000 < 256 * an + bn then .error 2 else .ok (tn, 256 * an + bn, 4)) := by
                  rw [HR.out, HDS.out, ← HAN.out, ← HBN.out]
                  rfl
                by_cases hv1 : 256 * an + bn < 256
                · have hv1i : 256 * (an : Int) + bn < 256 := by omega
                  have hR : R = (0, 0, 0, 90) := by rw [hQ, if_pos hv1]; rfl
                  have HRR := hid hR
                  clear hR hQ
                  go_wp2_with (first
            | ((with_reducible show wpList _ _ _ (⟨_, .index 9 _ _, _, _, _, _⟩ :: _) _ _); refine wpL_valZ (by rfl) (.int .u8 (tn : Int)) (HIX.out _ _ _ _ rfl rfl rfl _) ?_)
            | ((with_reducible show wpList _ _ _ (⟨_, .index 9 _ _, _, _, _, _⟩ :: _) _ _); refine wpL_valZ (by rfl) (.int .u8 130) (HI1.out _ _ _ _ rfl rfl rfl _) ?_)
            | ((with_reducible show wpList _ _ _ (⟨_, .index 9 _ _, _, _, _, _⟩ :: _) _ _); refine wpL_valZ (by rfl) (.int .u8 (an : Int)) (HI2.out _ _ _ _ rfl rfl rfl _) ?_)
            | ((with_reducible show wpList _ _ _ (⟨_, .index 9 _ _, _, _, _, _⟩ :: _) _ _); refine wpL_valZ (by rfl) (.int .u8 (bn : Int)) (HI3.out _ _ _ _ rfl rfl rfl _) ?_)
            | fail)
                  refine bodyPost_ret (v := .tuple #[.int .i64 0, .int .i64 0, .int .i64 0, .int .i64 90]) (by simp [results, Try.results17]) rfl ⟨by rw [HRR.out]; rfl, Fr.refl _ _⟩
                · have hv1i : 256 ≤ 256 * (an : Int) + bn := by omega
                  by_cases hv2 : 4000 < 256 * an + bn
                  · have hv2i : 4000 < 256 * (an : Int) + bn := by omega
                    have hR : R = (0, 0, 0, 2) := by rw [hQ, if_neg hv1, if_pos hv2]; rfl
                    have HRR := hid hR
                    clear hR hQ
                    go_wp2_with (first
            | ((with_reducible show wpList _ _ _ (⟨_, .index 9 _ _, _, _, _, _⟩ :: _) _ _); refine wpL_valZ (by rfl) (.int .u8 (tn : Int)) (HIX.out _ _ _ _ rfl rfl rfl _) ?_)
            | ((with_reducible show wpList _ _ _ (⟨_, .index 9 _ _, _, _, _, _⟩ :: _) _ _); refine wpL_valZ (by rfl) (.int .u8 130) (HI1.out _ _ _ _ rfl rfl rfl _) ?_)
            | ((with_reducible show wpList _ _ _ (⟨_, .index 9 _ _, _, _, _, _⟩ :: _) _ _); refine wpL_valZ (by rfl) (.int .u8 (an : Int)) (HI2.out _ _ _ _ rfl rfl rfl _) ?_)
            | ((with_reducible show wpList _ _ _ (⟨_, .index 9 _ _, _, _, _, _⟩ :: _) _ _); refine wpL_valZ (by rfl) (.int .u8 (bn : Int)) (HI3.out _ _ _ _ rfl rfl rfl _) ?_)
            | fail)
                    refine bodyPost_ret (v := .tuple #[.int .i64 0, .int .i64 0, .int .i64 0, .int .i64 2]) (by simp [results, Try.results17]) rfl ⟨by rw [HRR.out]; rfl, Fr.refl _ _⟩
                  · have hv2i : 256 * (an : Int) + bn ≤ 4000 := by omega
                    have hR : R = (tn, 256 * an + bn, 4, 0) := by rw [hQ, if_neg hv1, if_neg hv2]; rfl
                    have HRR := hid hR
                    clear hR hQ
                    go_wp2_with (first
            | ((with_reducible show wpList _ _ _ (⟨_, .index 9 _ _, _, _, _, _⟩ :: _) _ _); refine wpL_valZ (by rfl) (.int .u8 (tn : Int)) (HIX.out _ _ _ _ rfl rfl rfl _) ?_)
            | ((with_reducible show wpList _ _ _ (⟨_, .index 9 _ _, _, _, _, _⟩ :: _) _ _); refine wpL_valZ (by rfl) (.int .u8 130) (HI1.out _ _ _ _ rfl rfl rfl _) ?_)
            | ((with_reducible show wpList _ _ _ (⟨_, .index 9 _ _, _, _, _, _⟩ :: _) _ _); refine wpL_valZ (by rfl) (.int .u8 (an : Int)) (HI2.out _ _ _ _ rfl rfl rfl _) ?_)
            | ((with_reducible show wpList _ _ _ (⟨_, .index 9 _ _, _, _, _, _⟩ :: _) _ _); refine wpL_valZ (by rfl) (.int .u8 (bn : Int)) (HI3.out _ _ _ _ rfl rfl rfl _) ?_)
            | fail)
                    refine bodyPost_ret (v := .tuple #[.int .i64 (tn : Int), .int .i64 (256 * (an : Int) + bn), .int .i64 4, .int .i64 0]) (by simp [results, Try.results17]) rfl ⟨by rw [HRR.out]; simp [toldH], Fr.refl _ _⟩
            · have h1i : ((ln : Int) != 129) = true := by simp; omega
              have h2i : ((ln : Int) != 130) = true := by simp; omega
              have h3i : (128 : Int) ≤ ln := by omega
              have hR : R = (0, 0, 0, 90) := by rw [HR.out, HDS.out]; unfold hdL; rw [if_neg hl8, if_neg h129, if_neg h130]; rfl
              have HRR := hid hR
              clear hR
              go_wp2_with (first
            | ((with_reducible show wpList _ _ _ (⟨_, .index 9 _ _, _, _, _, _⟩ :: _) _ _); refine wpL_valZ (by rfl) (.int .u8 (tn : Int)) (HIX.out _ _ _ _ rfl rfl rfl _) ?_)
            | ((with_reducible show wpList _ _ _ (⟨_, .index 9 _ _, _, _, _, _⟩ :: _) _ _); refine wpL_valZ (by rfl) (.int .u8 (ln : Int)) (HI1.out _ _ _ _ rfl rfl rfl _) ?_)
            | fail)
              refine bodyPost_ret (v := .tuple #[.int .i64 0, .int .i64 0, .int .i64 0, .int .i64 90]) (by simp [results, Try.results17]) rfl ⟨by rw [HRR.out]; rfl, Fr.refl _ _⟩
end Go.Proofs.Ytoikiokcpakokaa.BE
