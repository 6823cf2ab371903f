/-
  Part 6 of the proof: DnR, DnQ.
-/
import Derived.Test.YtnjemnmhkhkpeaaDoorDo05
import Derived.Test.YtnjemnmhkhkpeaaDoorDo04
import Derived.WalkMore
import Derived.Test.YtnjemnmhkhkpeaaDoorDo02
set_option linter.unusedSimpArgs false
set_option linter.unusedVariables false
namespace Go.Proofs.YtnjemnmhkhkpeaaDoor.DN
set_option maxRecDepth 100000
open Go.RowKit K Go.Proofs.YtnjemnmhkhkpeaaDoor.BE
theorem esc_drop {r r' : B} {d : UInt8} (h : esc r = some (d, r')) : r.drop (r.length - r'.length) = r' ∧ r'.length < r.length := by
  refine ⟨?_, esc_len h⟩
  cases r with
  | nil => cases h
  | cons c r =>
    rw [esc_cons] at h
    split at h
    · simp only [Option.some.injEq, Prod.mk.injEq] at h
      obtain ⟨rfl, rfl⟩ := h
      have : (c :: r).length - r.length = 1 := by simp
      rw [this]
      rfl
    · cases r with
      | nil => cases h
      | cons e r =>
        simp only at h
        split at h
        · simp only [Option.some.injEq, Prod.mk.injEq] at h
          obtain ⟨-, rfl⟩ := h
          have : (c :: e :: r).length - r.length = 2 := by simp; omega
          rw [this]
          rfl
        · cases h
def strLen : Value → Nat
  | .string s => s.size
  | _ => 0
theorem owR_bytes {w0 w : World} {v : Value} {l : B} (h : OwR 5 1 w0 w v l.length (u8s l)) : BytesIn w (fun _ => True) v l := by
  obtain ⟨a, cap, e, hc, h1⟩ := h.reads
  exact ⟨a, _, cap, e, rfl, hc, h1.imp id fun ⟨g, e2, _, hg, hr⟩ => ⟨g, 0, e2, trivial, hg, hr⟩⟩
/-- What is told of a value that is read: nothing is said of the texts where it is none. -/
def ToldV (o : Option (B × B)) (e : Ending) : Prop := match o with
  | some x => e = .returned (.tuple #[.string (sb x.1), .string (sb x.2), .bool true])
  | none => ∃ p q : B, p.length ≤ 400 ∧ q.length ≤ 400 ∧ e = .returned (.tuple #[.string (sb p), .string (sb q), .bool false])
theorem beqT {m k : Nat} (h : m = k) : ((m : Int) == (k : Int)) = true := by rw [beq_iff_eq]; omega
theorem beqF {m k : Nat} (h : m ≠ k) : ((m : Int) == (k : Int)) = false := by rw [beq_eq_false_iff_ne]; omega
theorem rvF_len1 (f : Nat) (den : B) (bl : Bool) (c : UInt8) (r : B) : rvF ((c :: r).length + 1) den bl (c :: r) = if c = 44 ∨ c = 43 then (if bl then none else some (den, c :: r)) else
    match one den c r with
    | none => none
    | some x => rvF (x.2.2.length + 1) (den ++ [x.1]) x.2.1 x.2.2 := by
  rw [rvF_cons]
  split
  · rfl
  · cases ho : one den c r with
    | none => rfl
    | some x =>
      obtain ⟨d, b, r'⟩ := x
      have := one_len ho
      exact rvF_more _ _ _ _ _ (by simp; omega) (by simp)
set_option maxHeartbeats 16000000 in
theorem readValue_any (s : B) (hs : s.length ≤ 400) (w : World) (hG : Gl w) : Calls Tryd.prog 44 #[.string (sb s)] w fun e w' => ToldV (rv s) e ∧ Fr No w w' := by
  have HG := hid hG
  obtain ⟨RV, hRV⟩ : ∃ RV, rv s = RV := ⟨_, rfl⟩
  have HRV : Hid (rvF (s.length + 1) [] false s = RV) := hid hRV
  rw [hRV]
  have HS400 := hid hs
  clear hG hRV hs
  go_enter Tryd.func44, Tryd.ntmps44
  go_wp2_with fail
  go_step3
  go_wp2_with fail
  go_step3
  go_wp2_with fail
  go_loopw [3, 5, 6] (fun rv' dv bv wr => ∃ (rest den : B) (bl : Bool), rv' = .string (sb rest) ∧ bv = .bool bl ∧ Hid (den.length + rest.length ≤ 400) ∧ Hid (OwR 5 1 w wr dv den.length (u8s den)) ∧ Hid (rvF (rest.length + 1) den bl rest = RV)) (fun rv' _ _ _ => strLen rv')
  case atStart => exact ⟨s, [], false, rfl, rfl, hid (by simpa using HS400.out), hid (owR_nil (Fr.refl _ _)), HRV⟩
  case round =>
    obtain ⟨rest, den, bl, rfl, rfl, HL, HO, HR⟩ := hrel
    obtain ⟨va, vc, rfl⟩ := HO.out.1
    obtain ⟨dl, hdl⟩ : ∃ dl, den.length = dl := ⟨_, rfl⟩
    have HDL := hid hdl
    rw [hdl] at HO HL ⊢
    have HDEN := hid (owR_bytes (HDL.out ▸ HO.out : OwR 5 1 w wr (.slice va den.length vc) den.length (u8s den)))
    rw [hdl] at HDEN
    have hdl0 : (dl : Int) ≤ 400 := by have := HL.out; omega
    clear hdl
    cases rest with
    | nil =>
      have HRV2 : Hid ((if bl then none else some (den, ([] : B))) = RV) := HR
      clear HR
      go_wp2_with (first
        | ((with_reducible refine K.atO (.binOp .neq 9 _ _ _) ?_); refine wpL_valZ rfl (.bool false) (by exact exec_neS _ _ _ rfl [] [] rfl rfl _) ?_)
        | ((with_reducible refine K.atO (.convert _ 9 _) ?_); refine wpL_stringOf rfl _ _ _ _ rfl _ _ den rfl HDEN.out Tryd.underlying51 Tryd.underlying5 Tryd.underlying9 ?_)
        | fail)
      try rw [Exit.noGoto_ret]
      refine ret_three rfl rfl ⟨?_, HO.out.fr⟩
      rw [← HRV2.out]
      cases bl
      · rfl
      · exact ⟨den, [], by have := HL.out; have := HDL.out; omega, Nat.zero_le _, rfl⟩
    | cons c r =>
      have hR := HR.out
      rw [rvF_len1 0] at hR
      have HLr : Hid (dl + (r.length + 1) ≤ 400) := hid (by have := HL.out; simpa using this)
      obtain ⟨S, hS⟩ : ∃ S, sb (c :: r) = S := ⟨_, rfl⟩
      have HS := hid hS
      have hsl : (S.size : Int) = (r.length : Int) + 1 := by rw [← hS, sb_size]; simp
      obtain ⟨rn, hrn⟩ : ∃ rn : Int, (r.length : Int) = rn := ⟨_, rfl⟩
      have hrn0 : 0 ≤ rn := by omega
      have hrn4 : rn ≤ 400 := by have := HLr.out; omega
      have HRN := hid hrn
      rw [hrn] at hsl
      rw [hS]
      clear hS hrn HR HL
      by_cases hcm : c = 44 ∨ c = 43
      · rw [if_pos hcm] at hR
        have HRV2 := hid hR
        clear hR
        rcases hcm with hcm | hcm
        · have e44 : ((c.toNat : Int) == 44) = true := beqT (k := 44) (by rw [hcm]; rfl)
          clear hcm
          go_wp2_with (first | ((with_reducible refine K.atO (.binOp .neq 9 _ _ _) ?_); refine wpL_valZ rfl (.bool true) (by rw [← HS.out]; exact exec_neS _ _ _ rfl (c :: r) [] rfl rfl _) ?_) | ((with_reducible refine K.atO (.index 9 _ _) ?_); refine wpL_valZ rfl (.int .u8 (c.toNat : Int)) (by rw [← HS.out]; exact exec_idx _ _ rfl (c :: r) 0 c rfl 0 rfl rfl rfl _) ?_) | ((with_reducible refine K.atO (.convert _ 9 _) ?_); refine wpL_stringOf rfl _ _ _ _ rfl _ _ den rfl HDEN.out Tryd.underlying51 Tryd.underlying5 Tryd.underlying9 ?_) | fail)
          try rw [Exit.noGoto_ret]
          refine ret_three rfl rfl ⟨?_, HO.out.fr⟩
          rw [← HRV2.out]
          cases bl
          · show Ending.returned (.tuple #[.string (sb den), .string S, .bool true]) = _
            rw [← HS.out]
          · refine ⟨den, c :: r, by have := HLr.out; have := HDL.out; omega, by have := HLr.out; simp; omega, ?_⟩
            show Ending.returned (.tuple #[.string (sb den), .string S, .bool false]) = _
            rw [← HS.out]
        · have e44 : ((c.toNat : Int) == 44) = false := beqF (k := 44) (by rw [hcm]; decide)
          have e43 : ((c.toNat : Int) == 43) = true := beqT (k := 43) (by rw [hcm]; rfl)
          clear hcm
          go_wp2_with (first | ((with_reducible refine K.atO (.binOp .neq 9 _ _ _) ?_); refine wpL_valZ rfl (.bool true) (by rw [← HS.out]; exact exec_neS _ _ _ rfl (c :: r) [] rfl rfl _) ?_) | ((with_reducible refine K.atO (.index 9 _ _) ?_); refine wpL_valZ rfl (.int .u8 (c.toNat : Int)) (by rw [← HS.out]; exact exec_idx _ _ rfl (c :: r) 0 c rfl 0 rfl rfl rfl _) ?_) | ((with_reducible refine K.atO (.convert _ 9 _) ?_); refine wpL_stringOf rfl _ _ _ _ rfl _ _ den rfl HDEN.out Tryd.underlying51 Tryd.underlying5 Tryd.underlying9 ?_) | fail)
          try rw [Exit.noGoto_ret]
          refine ret_three rfl rfl ⟨?_, HO.out.fr⟩
          rw [← HRV2.out]
          cases bl
          · show Ending.returned (.tuple #[.string (sb den), .string S, .bool true]) = _
            rw [← HS.out]
          · refine ⟨den, c :: r, by have := HLr.out; have := HDL.out; omega, by have := HLr.out; simp; omega, ?_⟩
            show Ending.returned (.tuple #[.string (sb den), .string S, .bool false]) = _
            rw [← HS.out]
      · rw [if_neg hcm] at hR
        have n44 : c ≠ 44 := fun h => hcm (.inl h)
        have n43 : c ≠ 43 := fun h => hcm (.inr h)
        clear hcm
        by_cases h92 : c = 92
        · have HRR := hid (fun w (hG : Gl w) => escaped_any r (by have := HLr.out; unfold Sz; omega) w hG)
          have hsl1 : (1 : Int) ≤ rn + 1 := by omega
          have HONE : Hid (1 ≤ (c :: r).length) := hid (by simp)
          have hon : one den c r = (esc r).map fun x => (x.1, false, x.2) := by unfold one; rw [if_pos h92]
          rw [hon] at hR
          have e44 : ((c.toNat : Int) == 44) = false := beqF (k := 44) (by rw [h92]; decide)
          have e43 : ((c.toNat : Int) == 43) = false := beqF (k := 43) (by rw [h92]; decide)
          have e92 : ((c.toNat : Int) == 92) = true := beqT (k := 92) (by rw [h92]; rfl)
          have e32 : ((c.toNat : Int) == 32) = false := beqF (k := 32) (by rw [h92]; decide)
          cases he : esc r with
          | none =>
            rw [he] at hR
            have HRV2 : Hid (none = RV) := hid hR
            have HEV : Hid (escV r = .tuple #[.int .u8 0, .int .i64 0]) := hid (by unfold escV; rw [he])
            clear hR he hon n44 n43 h92
            go_wp2_with (first | ((with_reducible refine K.atO (.binOp .neq 9 _ _ _) ?_); refine wpL_valZ rfl (.bool true) (by rw [← HS.out]; exact exec_neS _ _ _ rfl (c :: r) [] rfl rfl _) ?_) | ((with_reducible refine K.atO (.index 9 _ _) ?_); refine wpL_valZ rfl (.int .u8 (c.toNat : Int)) (by rw [← HS.out]; exact exec_idx _ _ rfl (c :: r) 0 c rfl 0 rfl rfl rfl _) ?_) | ((with_reducible refine K.atO (.slice 9 _ _ _ _) ?_); refine wpL_valZ rfl (.string (sb r)) (by rw [← HS.out]; exact exec_from _ _ rfl (c :: r) 1 rfl rfl HONE.out _ rfl _) ?_) | fail)
            refine (HRR.out wr (HG.out.no HO.out.fr)).mono ?_
            rintro e w2 ⟨rfl, f2⟩
            have HF2 := hid (HO.out.fr.trans' f2)
            clear f2
            rw [HEV.out]
            go_wp2_with fail
            try rw [Exit.noGoto_ret]
            refine ret_three rfl rfl ⟨?_, HF2.out⟩
            rw [← HRV2.out]
            exact ⟨[], [], Nat.zero_le _, Nat.zero_le _, rfl⟩
          | some x =>
            obtain ⟨d, r'⟩ := x
            rw [he] at hR
            have HNX : Hid (rvF (r'.length + 1) (den ++ [d]) false r' = RV) := hid hR
            obtain ⟨hed, hel⟩ := esc_drop he
            obtain ⟨m, hm⟩ : ∃ m, r.length - r'.length = m := ⟨_, rfl⟩
            rw [hm] at hed
            have HEV : Hid (escV r = .tuple #[.int .u8 (d.toNat : Int), .int .i64 ((m + 1 : Nat) : Int)]) := hid (by unfold escV; rw [he, ← hm])
            have HD : Hid (m + 1 ≤ (c :: r).length ∧ (c :: r).drop (m + 1) = r') := hid ⟨by simp; omega, by rw [List.drop_succ_cons]; exact hed⟩
            have HM : Hid (r'.length + m = r.length) := hid (by omega)
            have hm0 : (0 : Int) ≤ m := by omega
            have hmz : (((m : Int) + 1) == 0) = false := by rw [beq_eq_false_iff_ne]; omega
            have hmle : (m : Int) + 1 ≤ rn + 1 := by have := HRN.out; omega
            clear hR he hon n44 n43 h92 hed hel hm
            go_wp2_with (first | ((with_reducible refine K.atO (.binOp .neq 9 _ _ _) ?_); refine wpL_valZ rfl (.bool true) (by rw [← HS.out]; exact exec_neS _ _ _ rfl (c :: r) [] rfl rfl _) ?_) | ((with_reducible refine K.atO (.index 9 _ _) ?_); refine wpL_valZ rfl (.int .u8 (c.toNat : Int)) (by rw [← HS.out]; exact exec_idx _ _ rfl (c :: r) 0 c rfl 0 rfl rfl rfl _) ?_) | ((with_reducible refine K.atO (.slice 9 _ _ _ _) ?_); refine wpL_valZ rfl (.string (sb r)) (by rw [← HS.out]; exact exec_from _ _ rfl (c :: r) 1 rfl rfl HONE.out _ rfl _) ?_) | fail)
            refine (HRR.out wr (HG.out.no HO.out.fr)).mono ?_
            rintro e w2 ⟨rfl, f2⟩
            have HO2 := hid (OwR.no HO.out f2)
            clear f2
            rw [HEV.out]
            go_wp2_with (first | ((with_reducible refine K.atO (.index 9 _ _) ?_); refine wpL_valZ rfl (.int .u8 (c.toNat : Int)) (by rw [← HS.out]; exact exec_idx _ _ rfl (c :: r) 0 c rfl 0 rfl rfl rfl _) ?_) | fail)
            have hold : Facts.hold [] w2.drew := Facts.nil_hold _
            refine wpD_region hold (by kernel_rfl) 9 rfl ?_
            (refine K.pl 0 (v := ?_) rfl ?_ ?_; rotate_left; (intro _w; go_simp; try with_reducible rfl); simp only [Act.put, K.put3])
            (refine K.pl 1 (v := ?_) rfl ?_ ?_; rotate_left; (intro _w; go_simp; try with_reducible rfl); simp only [Act.put, K.put3])
            (refine K.pl 4 (v := ?_) rfl ?_ ?_; rotate_left; (intro _w; go_simp; try with_reducible rfl); simp only [Act.put, K.put3])
            (refine K.pl 5 (v := ?_) rfl ?_ ?_; rotate_left; (intro _w; go_simp; try with_reducible rfl); simp only [Act.put, K.put3])
            (refine K.pl 6 (v := (.string (sb r'))) rfl ?_ ?_; (intro _w; first | exact exec_from _ _ rfl (c :: r) (m + 1) (by rw [HS.out]; rfl) rfl HD.out.1 _ HD.out.2 _w | exact exec_from _ _ rfl (c :: r) (m + 1) (by rw [HS.out]; rfl) (by rfl) HD.out.1 _ HD.out.2 _w); simp only [Act.put, K.put3])
            clear hold
            refine K.on 2 [] rfl (fun K2 hK2 => ?_)
            obtain ⟨ib, hib, hzb, hsb, hbb⟩ := Go.info_parts infoU
            refine wp_buildOne 51 5 _ rfl ib _ Tryd.underlying51 hib hzb (by rw [hsb]; decide) (by rw [hsb]; decide) (.int .u8 (d.toNat : Int)) [.int .u8 (d.toNat : Int)] rfl rfl (by rw [hsb]; rfl) ?_
            intro w3 HB3 HF3 HS3
            refine hK2 _ _ (Facts.nil_hold _) ?_
            clear hK2 K2 hib hzb hsb hbb
            simp only [Act.put, K.put3]
            have HO3 : Hid (OwR 5 1 w w3 (.slice va dl vc) dl (u8s den)) := hid (OwR.no HO2.out ((Fr.refl No w2).drew.trans' HF3.out))
            refine K.on 3 [] rfl (fun K3 hK3 => ?_)
            refine wp_appR _ _ 51 5 rfl Tryd.underlying51 infoU rfl (by decide) HO3.out rfl w2.heap.size 1 1 _ rfl rfl HB3.out (by simp [Value.oneCell']) (by omega) (by omega) ?_
            intro a4 c4 w4 HO4 HF4
            refine hK3 _ _ (Facts.nil_hold _) ?_
            clear hK3 K3
            simp only [Act.put, K.put3]
            have hold : Facts.hold [] w4 := Facts.nil_hold _
            (refine K.pl 7 (v := ?_) rfl ?_ ?_; rotate_left; (intro _w; go_simp; try with_reducible rfl); simp only [Act.put, K.put3])
            (refine K.pl 8 (v := ?_) rfl ?_ ?_; rotate_left; (intro _w; go_simp; try with_reducible rfl); simp only [Act.put, K.put3])
            clear hold
            refine wpD_done (by kernel_rfl) ?_ _
            go_wp2_with fail
            refine ⟨⟨r', den ++ [d], false, rfl, rfl, hid (by have := HLr.out; have := HDL.out; have := HD.out.2; rw [List.length_append]; have := HM.out; simp; omega), hid ?_, HNX⟩, ?_⟩
            · have h := HO4.out
              rw [show (den ++ [d]).length = dl + 1 by rw [List.length_append, HDL.out]; rfl]
              rwa [show u8s den ++ [Value.int .u8 (d.toNat : Int)] = u8s (den ++ [d]) by simp [u8s]] at h
            · show (sb r').size < S.size
              rw [← HS.out, sb_size, sb_size]
              have := HM.out; simp; omega
        · have n92 := h92
          clear h92
          by_cases h34 : c = 34
          · have hon : one den c r = none := by unfold one; rw [if_neg n92, h34]; rfl
            rw [hon] at hR
            have HRV2 : Hid (none = RV) := hid hR
            have e44 : ((c.toNat : Int) == 44) = false := beqF (k := 44) (by rw [h34]; decide)
            have e43 : ((c.toNat : Int) == 43) = false := beqF (k := 43) (by rw [h34]; decide)
            have e92 : ((c.toNat : Int) == 92) = false := beqF (k := 92) (by rw [h34]; decide)
            have e34 : ((c.toNat : Int) == 34) = true := beqT (k := 34) (by rw [h34]; rfl)
            clear hR hon n44 n43 n92  h34
            go_wp2_with (first | ((with_reducible refine K.atO (.binOp .neq 9 _ _ _) ?_); refine wpL_valZ rfl (.bool true) (by rw [← HS.out]; exact exec_neS _ _ _ rfl (c :: r) [] rfl rfl _) ?_) | ((with_reducible refine K.atO (.index 9 _ _) ?_); refine wpL_valZ rfl (.int .u8 (c.toNat : Int)) (by rw [← HS.out]; exact exec_idx _ _ rfl (c :: r) 0 c rfl 0 rfl rfl rfl _) ?_) | fail)
            try rw [Exit.noGoto_ret]
            refine ret_three rfl rfl ⟨?_, HO.out.fr⟩
            rw [← HRV2.out]
            exact ⟨[], [], Nat.zero_le _, Nat.zero_le _, rfl⟩
          · have n34 := h34
            clear h34
            by_cases h59 : c = 59
            · have hon : one den c r = none := by unfold one; rw [if_neg n92, h59]; rfl
              rw [hon] at hR
              have HRV2 : Hid (none = RV) := hid hR
              have e44 : ((c.toNat : Int) == 44) = false := beqF (k := 44) (by rw [h59]; decide)
              have e43 : ((c.toNat : Int) == 43) = false := beqF (k := 43) (by rw [h59]; decide)
              have e92 : ((c.toNat : Int) == 92) = false := beqF (k := 92) (by rw [h59]; decide)
              have e34 : ((c.toNat : Int) == 34) = false := beqF (k := 34) (by rw [h59]; decide)
              have e59 : ((c.toNat : Int) == 59) = true := beqT (k := 59) (by rw [h59]; rfl)
              clear hR hon n44 n43 n92 n34 h59
              go_wp2_with (first | ((with_reducible refine K.atO (.binOp .neq 9 _ _ _) ?_); refine wpL_valZ rfl (.bool true) (by rw [← HS.out]; exact exec_neS _ _ _ rfl (c :: r) [] rfl rfl _) ?_) | ((with_reducible refine K.atO (.index 9 _ _) ?_); refine wpL_valZ rfl (.int .u8 (c.toNat : Int)) (by rw [← HS.out]; exact exec_idx _ _ rfl (c :: r) 0 c rfl 0 rfl rfl rfl _) ?_) | fail)
              try rw [Exit.noGoto_ret]
              refine ret_three rfl rfl ⟨?_, HO.out.fr⟩
              rw [← HRV2.out]
              exact ⟨[], [], Nat.zero_le _, Nat.zero_le _, rfl⟩
            · have n59 := h59
              clear h59
              by_cases h60 : c = 60
              · have hon : one den c r = none := by unfold one; rw [if_neg n92, h60]; rfl
                rw [hon] at hR
                have HRV2 : Hid (none = RV) := hid hR
                have e44 : ((c.toNat : Int) == 44) = false := beqF (k := 44) (by rw [h60]; decide)
                have e43 : ((c.toNat : Int) == 43) = false := beqF (k := 43) (by rw [h60]; decide)
                have e92 : ((c.toNat : Int) == 92) = false := beqF (k := 92) (by rw [h60]; decide)
                have e34 : ((c.toNat : Int) == 34) = false := beqF (k := 34) (by rw [h60]; decide)
                have e59 : ((c.toNat : Int) == 59) = false := beqF (k := 59) (by rw [h60]; decide)
                have e60 : ((c.toNat : Int) == 60) = true := beqT (k := 60) (by rw [h60]; rfl)
                clear hR hon n44 n43 n92 n34 n59 h60
                go_wp2_with (first | ((with_reducible refine K.atO (.binOp .neq 9 _ _ _) ?_); refine wpL_valZ rfl (.bool true) (by rw [← HS.out]; exact exec_neS _ _ _ rfl (c :: r) [] rfl rfl _) ?_) | ((with_reducible refine K.atO (.index 9 _ _) ?_); refine wpL_valZ rfl (.int .u8 (c.toNat : Int)) (by rw [← HS.out]; exact exec_idx _ _ rfl (c :: r) 0 c rfl 0 rfl rfl rfl _) ?_) | fail)
                try rw [Exit.noGoto_ret]
                refine ret_three rfl rfl ⟨?_, HO.out.fr⟩
                rw [← HRV2.out]
                exact ⟨[], [], Nat.zero_le _, Nat.zero_le _, rfl⟩
              · have n60 := h60
                clear h60
                by_cases h62 : c = 62
                · have hon : one den c r = none := by unfold one; rw [if_neg n92, h62]; rfl
                  rw [hon] at hR
                  have HRV2 : Hid (none = RV) := hid hR
                  have e44 : ((c.toNat : Int) == 44) = false := beqF (k := 44) (by rw [h62]; decide)
                  have e43 : ((c.toNat : Int) == 43) = false := beqF (k := 43) (by rw [h62]; decide)
                  have e92 : ((c.toNat : Int) == 92) = false := beqF (k := 92) (by rw [h62]; decide)
                  have e34 : ((c.toNat : Int) == 34) = false := beqF (k := 34) (by rw [h62]; decide)
                  have e59 : ((c.toNat : Int) == 59) = false := beqF (k := 59) (by rw [h62]; decide)
                  have e60 : ((c.toNat : Int) == 60) = false := beqF (k := 60) (by rw [h62]; decide)
                  have e62 : ((c.toNat : Int) == 62) = true := beqT (k := 62) (by rw [h62]; rfl)
                  clear hR hon n44 n43 n92 n34 n59 n60 h62
                  go_wp2_with (first | ((with_reducible refine K.atO (.binOp .neq 9 _ _ _) ?_); refine wpL_valZ rfl (.bool true) (by rw [← HS.out]; exact exec_neS _ _ _ rfl (c :: r) [] rfl rfl _) ?_) | ((with_reducible refine K.atO (.index 9 _ _) ?_); refine wpL_valZ rfl (.int .u8 (c.toNat : Int)) (by rw [← HS.out]; exact exec_idx _ _ rfl (c :: r) 0 c rfl 0 rfl rfl rfl _) ?_) | fail)
                  try rw [Exit.noGoto_ret]
                  refine ret_three rfl rfl ⟨?_, HO.out.fr⟩
                  rw [← HRV2.out]
                  exact ⟨[], [], Nat.zero_le _, Nat.zero_le _, rfl⟩
                · have n62 := h62
                  clear h62
                  by_cases h0 : c = 0
                  · have hon : one den c r = none := by unfold one; rw [if_neg n92, h0]; rfl
                    rw [hon] at hR
                    have HRV2 : Hid (none = RV) := hid hR
                    have e44 : ((c.toNat : Int) == 44) = false := beqF (k := 44) (by rw [h0]; decide)
                    have e43 : ((c.toNat : Int) == 43) = false := beqF (k := 43) (by rw [h0]; decide)
                    have e92 : ((c.toNat : Int) == 92) = false := beqF (k := 92) (by rw [h0]; decide)
                    have e34 : ((c.toNat : Int) == 34) = false := beqF (k := 34) (by rw [h0]; decide)
                    have e59 : ((c.toNat : Int) == 59) = false := beqF (k := 59) (by rw [h0]; decide)
                    have e60 : ((c.toNat : Int) == 60) = false := beqF (k := 60) (by rw [h0]; decide)
                    have e62 : ((c.toNat : Int) == 62) = false := beqF (k := 62) (by rw [h0]; decide)
                    have e0 : ((c.toNat : Int) == 0) = true := beqT (k := 0) (by rw [h0]; rfl)
                    clear hR hon n44 n43 n92 n34 n59 n60 n62 h0
                    go_wp2_with (first | ((with_reducible refine K.atO (.binOp .neq 9 _ _ _) ?_); refine wpL_valZ rfl (.bool true) (by rw [← HS.out]; exact exec_neS _ _ _ rfl (c :: r) [] rfl rfl _) ?_) | ((with_reducible refine K.atO (.index 9 _ _) ?_); refine wpL_valZ rfl (.int .u8 (c.toNat : Int)) (by rw [← HS.out]; exact exec_idx _ _ rfl (c :: r) 0 c rfl 0 rfl rfl rfl _) ?_) | fail)
                    try rw [Exit.noGoto_ret]
                    refine ret_three rfl rfl ⟨?_, HO.out.fr⟩
                    rw [← HRV2.out]
                    exact ⟨[], [], Nat.zero_le _, Nat.zero_le _, rfl⟩
                  · have n0 := h0
                    clear h0
                    have hbad : (c == 34 || c == 59 || c == 60 || c == 62 || c == 0) = false := by simp [n34, n59, n60, n62, n0]
                    have HD : Hid (1 ≤ (c :: r).length ∧ (c :: r).drop 1 = r) := hid ⟨by simp, rfl⟩
                    have hon : one den c r = if (c == 35 || c == 32) && den.isEmpty then none else some (c, c == 32, r) := by unfold one; rw [if_neg n92, hbad]; rfl
                    rw [hon] at hR
                    have hde : den.isEmpty = decide (dl = 0) := by rw [← HDL.out]; cases den <;> simp
                    rw [hde] at hR
                    by_cases h35 : c = 35
                    · have e44 : ((c.toNat : Int) == 44) = false := beqF (k := 44) (by rw [h35]; decide)
                      have e43 : ((c.toNat : Int) == 43) = false := beqF (k := 43) (by rw [h35]; decide)
                      have e92 : ((c.toNat : Int) == 92) = false := beqF (k := 92) (by rw [h35]; decide)
                      have e34 : ((c.toNat : Int) == 34) = false := beqF (k := 34) (by rw [h35]; decide)
                      have e59 : ((c.toNat : Int) == 59) = false := beqF (k := 59) (by rw [h35]; decide)
                      have e60 : ((c.toNat : Int) == 60) = false := beqF (k := 60) (by rw [h35]; decide)
                      have e62 : ((c.toNat : Int) == 62) = false := beqF (k := 62) (by rw [h35]; decide)
                      have e0 : ((c.toNat : Int) == 0) = false := beqF (k := 0) (by rw [h35]; decide)
                      have e35 : ((c.toNat : Int) == 35) = true := beqT (k := 35) (by rw [h35]; rfl)
                      have e32 : ((c.toNat : Int) == 32) = false := beqF (k := 32) (by rw [h35]; decide)
                      by_cases hd0 : dl = 0
                      · have HRV2 : Hid (none = RV) := hid (by rw [h35, decide_eq_true hd0] at hR; exact hR)
                        have hdz : ((dl : Int) == 0) = true := by rw [beq_iff_eq]; omega
                        clear hR hon hde hbad h35 n44 n43 n92 n34 n59 n60 n62 n0 hd0
                        go_wp2_with (first | ((with_reducible refine K.atO (.binOp .neq 9 _ _ _) ?_); refine wpL_valZ rfl (.bool true) (by rw [← HS.out]; exact exec_neS _ _ _ rfl (c :: r) [] rfl rfl _) ?_) | ((with_reducible refine K.atO (.index 9 _ _) ?_); refine wpL_valZ rfl (.int .u8 (c.toNat : Int)) (by rw [← HS.out]; exact exec_idx _ _ rfl (c :: r) 0 c rfl 0 rfl rfl rfl _) ?_) | fail)
                        try rw [Exit.noGoto_ret]
                        refine ret_three rfl rfl ⟨?_, HO.out.fr⟩
                        rw [← HRV2.out]
                        exact ⟨[], [], Nat.zero_le _, Nat.zero_le _, rfl⟩
                      · have HNX : Hid (rvF (r.length + 1) (den ++ [c]) false r = RV) := hid (by rw [decide_eq_false hd0, Bool.and_false] at hR; rw [show (c == 32) = false by rw [h35]; rfl] at hR; exact hR)
                        have hdz : ((dl : Int) == 0) = false := by rw [beq_eq_false_iff_ne]; omega
                        clear hR hon hde hbad h35 n44 n43 n92 n34 n59 n60 n62 n0 hd0
                        go_wp2_with (first | ((with_reducible refine K.atO (.binOp .neq 9 _ _ _) ?_); refine wpL_valZ rfl (.bool true) (by rw [← HS.out]; exact exec_neS _ _ _ rfl (c :: r) [] rfl rfl _) ?_) | ((with_reducible refine K.atO (.index 9 _ _) ?_); refine wpL_valZ rfl (.int .u8 (c.toNat : Int)) (by rw [← HS.out]; exact exec_idx _ _ rfl (c :: r) 0 c rfl 0 rfl rfl rfl _) ?_) | fail)
                        have hold : Facts.hold [] wr.drew := Facts.nil_hold _
                        refine wpD_region hold (by kernel_rfl) 9 rfl ?_
                        (refine K.pl 0 (v := ?_) rfl ?_ ?_; rotate_left; (intro _w; go_simp; try with_reducible rfl); simp only [Act.put, K.put3])
                        (refine K.pl 1 (v := ?_) rfl ?_ ?_; rotate_left; (intro _w; go_simp; try with_reducible rfl); simp only [Act.put, K.put3])
                        (refine K.pl 4 (v := ?_) rfl ?_ ?_; rotate_left; (intro _w; go_simp; try with_reducible rfl); simp only [Act.put, K.put3])
                        (refine K.pl 5 (v := ?_) rfl ?_ ?_; rotate_left; (intro _w; go_simp; try with_reducible rfl); simp only [Act.put, K.put3])
                        (refine K.pl 6 (v := (.string (sb r))) rfl ?_ ?_; (intro _w; first | exact exec_from _ _ rfl (c :: r) 1 (by rw [HS.out]; rfl) rfl HD.out.1 _ HD.out.2 _w | exact exec_from _ _ rfl (c :: r) 1 (by rw [HS.out]; rfl) (by rfl) HD.out.1 _ HD.out.2 _w); simp only [Act.put, K.put3])
                        clear hold
                        refine K.on 2 [] rfl (fun K2 hK2 => ?_)
                        obtain ⟨ib, hib, hzb, hsb, hbb⟩ := Go.info_parts infoU
                        refine wp_buildOne 51 5 _ rfl ib _ Tryd.underlying51 hib hzb (by rw [hsb]; decide) (by rw [hsb]; decide) (.int .u8 (c.toNat : Int)) [.int .u8 (c.toNat : Int)] rfl rfl (by rw [hsb]; rfl) ?_
                        intro w3 HB3 HF3 HS3
                        refine hK2 _ _ (Facts.nil_hold _) ?_
                        clear hK2 K2 hib hzb hsb hbb
                        simp only [Act.put, K.put3]
                        have HO3 : Hid (OwR 5 1 w w3 (.slice va dl vc) dl (u8s den)) := hid (OwR.no HO.out ((Fr.refl No wr).drew.trans' HF3.out))
                        refine K.on 3 [] rfl (fun K3 hK3 => ?_)
                        refine wp_appR _ _ 51 5 rfl Tryd.underlying51 infoU rfl (by decide) HO3.out rfl wr.heap.size 1 1 _ rfl rfl HB3.out (by simp [Value.oneCell']) (by omega) (by omega) ?_
                        intro a4 c4 w4 HO4 HF4
                        refine hK3 _ _ (Facts.nil_hold _) ?_
                        clear hK3 K3
                        simp only [Act.put, K.put3]
                        have hold : Facts.hold [] w4 := Facts.nil_hold _
                        (refine K.pl 7 (v := ?_) rfl ?_ ?_; rotate_left; (intro _w; go_simp; try with_reducible rfl); simp only [Act.put, K.put3])
                        (refine K.pl 8 (v := ?_) rfl ?_ ?_; rotate_left; (intro _w; go_simp; try with_reducible rfl); simp only [Act.put, K.put3])
                        clear hold
                        refine wpD_done (by kernel_rfl) ?_ _
                        go_wp2_with fail
                        refine ⟨⟨r, den ++ [c], false, rfl, rfl, hid (by have := HLr.out; have := HDL.out; have := HD.out.2; rw [List.length_append]; simp; omega), hid ?_, HNX⟩, ?_⟩
                        · have h := HO4.out
                          rw [show (den ++ [c]).length = dl + 1 by rw [List.length_append, HDL.out]; rfl]
                          rwa [show u8s den ++ [Value.int .u8 (c.toNat : Int)] = u8s (den ++ [c]) by simp [u8s]] at h
                        · show (sb r).size < S.size
                          rw [← HS.out, sb_size, sb_size]
                          simp
                    · have n35 := h35
                      clear h35
                      by_cases h32 : c = 32
                      · have e44 : ((c.toNat : Int) == 44) = false := beqF (k := 44) (by rw [h32]; decide)
                        have e43 : ((c.toNat : Int) == 43) = false := beqF (k := 43) (by rw [h32]; decide)
                        have e92 : ((c.toNat : Int) == 92) = false := beqF (k := 92) (by rw [h32]; decide)
                        have e34 : ((c.toNat : Int) == 34) = false := beqF (k := 34) (by rw [h32]; decide)
                        have e59 : ((c.toNat : Int) == 59) = false := beqF (k := 59) (by rw [h32]; decide)
                        have e60 : ((c.toNat : Int) == 60) = false := beqF (k := 60) (by rw [h32]; decide)
                        have e62 : ((c.toNat : Int) == 62) = false := beqF (k := 62) (by rw [h32]; decide)
                        have e0 : ((c.toNat : Int) == 0) = false := beqF (k := 0) (by rw [h32]; decide)
                        have e35 : ((c.toNat : Int) == 35) = false := beqF (k := 35) (by rw [h32]; decide)
                        have e32 : ((c.toNat : Int) == 32) = true := beqT (k := 32) (by rw [h32]; rfl)
                        by_cases hd0 : dl = 0
                        · have HRV2 : Hid (none = RV) := hid (by rw [h32, decide_eq_true hd0] at hR; exact hR)
                          have hdz : ((dl : Int) == 0) = true := by rw [beq_iff_eq]; omega
                          clear hR hon hde hbad h32 n44 n43 n92 n34 n59 n60 n62 n0 hd0 n35
                          go_wp2_with (first | ((with_reducible refine K.atO (.binOp .neq 9 _ _ _) ?_); refine wpL_valZ rfl (.bool true) (by rw [← HS.out]; exact exec_neS _ _ _ rfl (c :: r) [] rfl rfl _) ?_) | ((with_reducible refine K.atO (.index 9 _ _) ?_); refine wpL_valZ rfl (.int .u8 (c.toNat : Int)) (by rw [← HS.out]; exact exec_idx _ _ rfl (c :: r) 0 c rfl 0 rfl rfl rfl _) ?_) | fail)
                          try rw [Exit.noGoto_ret]
                          refine ret_three rfl rfl ⟨?_, HO.out.fr⟩
                          rw [← HRV2.out]
                          exact ⟨[], [], Nat.zero_le _, Nat.zero_le _, rfl⟩
                        · have HNX : Hid (rvF (r.length + 1) (den ++ [c]) true r = RV) := hid (by rw [decide_eq_false hd0, Bool.and_false] at hR; rw [show (c == 32) = true by rw [h32]; rfl] at hR; exact hR)
                          have hdz : ((dl : Int) == 0) = false := by rw [beq_eq_false_iff_ne]; omega
                          clear hR hon hde hbad h32 n44 n43 n92 n34 n59 n60 n62 n0 hd0 n35
                          go_wp2_with (first | ((with_reducible refine K.atO (.binOp .neq 9 _ _ _) ?_); refine wpL_valZ rfl (.bool true) (by rw [← HS.out]; exact exec_neS _ _ _ rfl (c :: r) [] rfl rfl _) ?_) | ((with_reducible refine K.atO (.index 9 _ _) ?_); refine wpL_valZ rfl (.int .u8 (c.toNat : Int)) (by rw [← HS.out]; exact exec_idx _ _ rfl (c :: r) 0 c rfl 0 rfl rfl rfl _) ?_) | fail)
                          have hold : Facts.hold [] wr.drew := Facts.nil_hold _
                          refine wpD_region hold (by kernel_rfl) 9 rfl ?_
                          (refine K.pl 0 (v := ?_) rfl ?_ ?_; rotate_left; (intro _w; go_simp; try with_reducible rfl); simp only [Act.put, K.put3])
                          (refine K.pl 1 (v := ?_) rfl ?_ ?_; rotate_left; (intro _w; go_simp; try with_reducible rfl); simp only [Act.put, K.put3])
                          (refine K.pl 4 (v := ?_) rfl ?_ ?_; rotate_left; (intro _w; go_simp; try with_reducible rfl); simp only [Act.put, K.put3])
                          (refine K.pl 5 (v := ?_) rfl ?_ ?_; rotate_left; (intro _w; go_simp; try with_reducible rfl); simp only [Act.put, K.put3])
                          (refine K.pl 6 (v := (.string (sb r))) rfl ?_ ?_; (intro _w; first | exact exec_from _ _ rfl (c :: r) 1 (by rw [HS.out]; rfl) rfl HD.out.1 _ HD.out.2 _w | exact exec_from _ _ rfl (c :: r) 1 (by rw [HS.out]; rfl) (by rfl) HD.out.1 _ HD.out.2 _w); simp only [Act.put, K.put3])
                          clear hold
                          refine K.on 2 [] rfl (fun K2 hK2 => ?_)
                          obtain ⟨ib, hib, hzb, hsb, hbb⟩ := Go.info_parts infoU
                          refine wp_buildOne 51 5 _ rfl ib _ Tryd.underlying51 hib hzb (by rw [hsb]; decide) (by rw [hsb]; decide) (.int .u8 (c.toNat : Int)) [.int .u8 (c.toNat : Int)] rfl rfl (by rw [hsb]; rfl) ?_
                          intro w3 HB3 HF3 HS3
                          refine hK2 _ _ (Facts.nil_hold _) ?_
                          clear hK2 K2 hib hzb hsb hbb
                          simp only [Act.put, K.put3]
                          have HO3 : Hid (OwR 5 1 w w3 (.slice va dl vc) dl (u8s den)) := hid (OwR.no HO.out ((Fr.refl No wr).drew.trans' HF3.out))
                          refine K.on 3 [] rfl (fun K3 hK3 => ?_)
                          refine wp_appR _ _ 51 5 rfl Tryd.underlying51 infoU rfl (by decide) HO3.out rfl wr.heap.size 1 1 _ rfl rfl HB3.out (by simp [Value.oneCell']) (by omega) (by omega) ?_
                          intro a4 c4 w4 HO4 HF4
                          refine hK3 _ _ (Facts.nil_hold _) ?_
                          clear hK3 K3
                          simp only [Act.put, K.put3]
                          have hold : Facts.hold [] w4 := Facts.nil_hold _
                          (refine K.pl 7 (v := ?_) rfl ?_ ?_; rotate_left; (intro _w; go_simp; try with_reducible rfl); simp only [Act.put, K.put3])
                          (refine K.pl 8 (v := ?_) rfl ?_ ?_; rotate_left; (intro _w; go_simp; try with_reducible rfl); simp only [Act.put, K.put3])
                          clear hold
                          refine wpD_done (by kernel_rfl) ?_ _
                          go_wp2_with fail
                          refine ⟨⟨r, den ++ [c], true, rfl, rfl, hid (by have := HLr.out; have := HDL.out; have := HD.out.2; rw [List.length_append]; simp; omega), hid ?_, HNX⟩, ?_⟩
                          · have h := HO4.out
                            rw [show (den ++ [c]).length = dl + 1 by rw [List.length_append, HDL.out]; rfl]
                            rwa [show u8s den ++ [Value.int .u8 (c.toNat : Int)] = u8s (den ++ [c]) by simp [u8s]] at h
                          · show (sb r).size < S.size
                            rw [← HS.out, sb_size, sb_size]
                            simp
                      · have n32 := h32
                        clear h32
                        have e44 : ((c.toNat : Int) == 44) = false := beqF (k := 44) (fun h => n44 (UInt8.toNat_inj.1 h))
                        have e43 : ((c.toNat : Int) == 43) = false := beqF (k := 43) (fun h => n43 (UInt8.toNat_inj.1 h))
                        have e92 : ((c.toNat : Int) == 92) = false := beqF (k := 92) (fun h => n92 (UInt8.toNat_inj.1 h))
                        have e34 : ((c.toNat : Int) == 34) = false := beqF (k := 34) (fun h => n34 (UInt8.toNat_inj.1 h))
                        have e59 : ((c.toNat : Int) == 59) = false := beqF (k := 59) (fun h => n59 (UInt8.toNat_inj.1 h))
                        have e60 : ((c.toNat : Int) == 60) = false := beqF (k := 60) (fun h => n60 (UInt8.toNat_inj.1 h))
                        have e62 : ((c.toNat : Int) == 62) = false := beqF (k := 62) (fun h => n62 (UInt8.toNat_inj.1 h))
                        have e0 : ((c.toNat : Int) == 0) = false := beqF (k := 0) (fun h => n0 (UInt8.toNat_inj.1 h))
                        have e35 : ((c.toNat : Int) == 35) = false := beqF (k := 35) (fun h => n35 (UInt8.toNat_inj.1 h))
                        have e32 : ((c.toNat : Int) == 32) = false := beqF (k := 32) (fun h => n32 (UInt8.toNat_inj.1 h))
                        have HNX : Hid (rvF (r.length + 1) (den ++ [c]) false r = RV) := hid (by rw [show (c == 35) = false by simpa using n35, show (c == 32) = false by simpa using n32] at hR; exact hR)
                        clear hR hon hde hbad n44 n43 n92 n34 n59 n60 n62 n0 n35 n32
                        go_wp2_with (first | ((with_reducible refine K.atO (.binOp .neq 9 _ _ _) ?_); refine wpL_valZ rfl (.bool true) (by rw [← HS.out]; exact exec_neS _ _ _ rfl (c :: r) [] rfl rfl _) ?_) | ((with_reducible refine K.atO (.index 9 _ _) ?_); refine wpL_valZ rfl (.int .u8 (c.toNat : Int)) (by rw [← HS.out]; exact exec_idx _ _ rfl (c :: r) 0 c rfl 0 rfl rfl rfl _) ?_) | fail)
                        have hold : Facts.hold [] wr.drew := Facts.nil_hold _
                        refine wpD_region hold (by kernel_rfl) 9 rfl ?_
                        (refine K.pl 0 (v := ?_) rfl ?_ ?_; rotate_left; (intro _w; go_simp; try with_reducible rfl); simp only [Act.put, K.put3])
                        (refine K.pl 1 (v := ?_) rfl ?_ ?_; rotate_left; (intro _w; go_simp; try with_reducible rfl); simp only [Act.put, K.put3])
                        (refine K.pl 4 (v := ?_) rfl ?_ ?_; rotate_left; (intro _w; go_simp; try with_reducible rfl); simp only [Act.put, K.put3])
                        (refine K.pl 5 (v := ?_) rfl ?_ ?_; rotate_left; (intro _w; go_simp; try with_reducible rfl); simp only [Act.put, K.put3])
                        (refine K.pl 6 (v := (.string (sb r))) rfl ?_ ?_; (intro _w; first | exact exec_from _ _ rfl (c :: r) 1 (by rw [HS.out]; rfl) rfl HD.out.1 _ HD.out.2 _w | exact exec_from _ _ rfl (c :: r) 1 (by rw [HS.out]; rfl) (by rfl) HD.out.1 _ HD.out.2 _w); simp only [Act.put, K.put3])
                        clear hold
                        refine K.on 2 [] rfl (fun K2 hK2 => ?_)
                        obtain ⟨ib, hib, hzb, hsb, hbb⟩ := Go.info_parts infoU
                        refine wp_buildOne 51 5 _ rfl ib _ Tryd.underlying51 hib hzb (by rw [hsb]; decide) (by rw [hsb]; decide) (.int .u8 (c.toNat : Int)) [.int .u8 (c.toNat : Int)] rfl rfl (by rw [hsb]; rfl) ?_
                        intro w3 HB3 HF3 HS3
                        refine hK2 _ _ (Facts.nil_hold _) ?_
                        clear hK2 K2 hib hzb hsb hbb
                        simp only [Act.put, K.put3]
                        have HO3 : Hid (OwR 5 1 w w3 (.slice va dl vc) dl (u8s den)) := hid (OwR.no HO.out ((Fr.refl No wr).drew.trans' HF3.out))
                        refine K.on 3 [] rfl (fun K3 hK3 => ?_)
                        refine wp_appR _ _ 51 5 rfl Tryd.underlying51 infoU rfl (by decide) HO3.out rfl wr.heap.size 1 1 _ rfl rfl HB3.out (by simp [Value.oneCell']) (by omega) (by omega) ?_
                        intro a4 c4 w4 HO4 HF4
                        refine hK3 _ _ (Facts.nil_hold _) ?_
                        clear hK3 K3
                        simp only [Act.put, K.put3]
                        have hold : Facts.hold [] w4 := Facts.nil_hold _
                        (refine K.pl 7 (v := ?_) rfl ?_ ?_; rotate_left; (intro _w; go_simp; try with_reducible rfl); simp only [Act.put, K.put3])
                        (refine K.pl 8 (v := ?_) rfl ?_ ?_; rotate_left; (intro _w; go_simp; try with_reducible rfl); simp only [Act.put, K.put3])
                        clear hold
                        refine wpD_done (by kernel_rfl) ?_ _
                        go_wp2_with fail
                        refine ⟨⟨r, den ++ [c], false, rfl, rfl, hid (by have := HLr.out; have := HDL.out; have := HD.out.2; rw [List.length_append]; simp; omega), hid ?_, HNX⟩, ?_⟩
                        · have h := HO4.out
                          rw [show (den ++ [c]).length = dl + 1 by rw [List.length_append, HDL.out]; rfl]
                          rwa [show u8s den ++ [Value.int .u8 (c.toNat : Int)] = u8s (den ++ [c]) by simp [u8s]] at h
                        · show (sb r).size < S.size
                          rw [← HS.out, sb_size, sb_size]
                          simp
/-- Told: a place, or -1. -/
def Found (b : Bool) (w : World) (e : Ending) (w' : World) : Prop := ∃ n : Int, e = .returned (.int .i64 n) ∧ decide (0 ≤ n) = b ∧ -1 ≤ n ∧ n ≤ 9223372036854775807 ∧ Fr No w w'
set_option maxHeartbeats 8000000 in
theorem indexAv {α : Type} (f : FuncId) (cap : List Value) (q : α → Bool) (p : World → α → List Value → Prop) (E : Nat → Prop) (v0 : Value) (X : List α) (w : World) (hp : ∀ w w' x c, p w x c → Fr No w w' → p w' x c)
    (h0 : Sl 2 (p w) E w v0 X) (hent : ∀ (vs : Array Value) (w : World), (callFunc f vs).run Tryd.prog w = .ok (.enter f vs) w)
    (hf : ∀ x ∈ X, ∀ c wv, p wv x c → Fr No w wv → Calls Tryd.prog f (Value.agg c.toArray :: cap).toArray wv fun e w' => e = .returned (.bool (q x)) ∧ Fr No wv w') :
    Calls Tryd.prog 59 #[v0, .func (.func f) #[] cap.toArray] w (Found (X.any q) w) := by
  obtain ⟨a, c, rfl, -, hl0⟩ := h0.form
  have HX0 := hid h0
  obtain ⟨n, hn⟩ : ∃ n, X.length = n := ⟨_, rfl⟩
  rw [hn] at HX0 hl0 ⊢
  have HNN := hid hn; have HP := hid hp; have HE := hid hent; have HF := hid hf
  obtain ⟨R, hR⟩ : ∃ R, X.any q = R := ⟨_, rfl⟩
  rw [hR]
  have HR := hid hR
  have hni : (n : Int) ≤ 140737488351232 := by omega
  clear hp h0 hent hf hn hR
  go_enter Tryd.func59, Tryd.ntmps59
  go_wp2_with fail
  go_loopw [8] (fun iv wr => ∃ (i : Nat), iv = .int .i64 i ∧ i ≤ n ∧ Hid ((X.take i).any q = false ∧ Fr No w wr)) (fun iv _ => n - (intOf iv).toNat)
  case atStart => exact ⟨0, rfl, Nat.zero_le _, hid ⟨rfl, Fr.refl _ _⟩⟩
  case round =>
    obtain ⟨i, rfl, hi, HI⟩ := hrel
    by_cases hlt : i < n
    · have hiX : i < X.length := by rw [HNN.out]; exact hlt
      obtain ⟨x, hx⟩ : ∃ x, X[i]? = some x := ⟨_, List.getElem?_eq_getElem hiX⟩
      have HXM := hid (List.mem_of_getElem? hx)
      have HNX : Hid ((X.take (i + 1)).any q = (q x || false)) := hid (by
        have hxx : X[i] = x := by rw [List.getElem?_eq_getElem hiX] at hx; exact Option.some.inj hx
        rw [List.take_succ_eq_append_getElem hiX, List.any_append, HI.out.1, hxx]; simp)
      have hlti : (i : Int) < n := by omega
      have hi0 : (0 : Int) ≤ i := by omega
      obtain ⟨g, o, cp, c, e1, hEg, hgw, hr, hc, hxa⟩ := (HX0.out.fr HI.out.2 (fun _ _ _ e => e) (fun x c _ h => HP.out _ _ x c h HI.out.2)).get hx
      rw [HNN.out] at e1
      simp only [Value.slice.injEq, true_and] at e1
      obtain ⟨rfl, rfl⟩ := e1
      have HXA := hid hxa; have HC := hid hc; have HRR := hid hr
      have HI3 : Hid ((Tryd.prog.info? 37).map (·.size) = some c.length) := hid (by rw [hc]; exact infoAv)
      clear hc hEg hgw hr hxa hx
      go_wp2_with (first
        | ((with_reducible refine K.atO (.load 37 _) ?_); refine wpL_load rfl _ _ rfl g (o + i * 2) rfl c _ HRR.out rfl rfl HI3.out ?_)
        | ((with_reducible refine K.atO (.call { callee := .value _, args := _, argTypes := _ }) ?_); refine wpL_callP rfl _ [_] _ rfl f cap rfl HE.out (Value.agg c.toArray :: cap) rfl ?_)
        | fail)
      refine (HF.out x HXM.out c wr HXA.out HI.out.2).mono ?_
      rintro e w4 ⟨rfl, f4⟩
      refine .inl ⟨_, rfl, ?_⟩
      have HF4 := hid (HI.out.2.trans' f4)
      have HLT := hid hlt
      clear f4 hlt
      cases hq : q x with
      | true =>
        have HQ := hid hq
        clear hq
        go_wp2_with fail
        go_ret
        refine ⟨i, rfl, ?_, by omega, by omega, HF4.out⟩
        rw [← HR.out]
        have h1 : X.any q = true := List.any_eq_true.2 ⟨x, HXM.out, HQ.out⟩
        rw [h1]
        simp
      | false =>
        have HQ := hid hq
        clear hq
        go_wp2_with fail
        go_roundw
        case rel => exact ⟨i + 1, by go_num, HLT.out, hid ⟨by rw [HNX.out, HQ.out]; rfl, HF4.out⟩⟩
        case measure => have := HLT.out; simp [intOf]; omega
    · obtain rfl : i = n := by omega
      go_wp2_with fail
      go_ret
      refine ⟨-1, rfl, ?_, by omega, by omega, HI.out.2⟩
      rw [← HR.out]
      have h1 := HI.out.1
      rw [List.take_of_length_le (by rw [HNN.out]; exact Nat.le_refl _)] at h1
      rw [h1]
      rfl
theorem containsAv {α : Type} (f : FuncId) (cap : List Value) (q : α → Bool) (p : World → α → List Value → Prop) (E : Nat → Prop) (v0 : Value) (X : List α) (w : World) (hp : ∀ w w' x c, p w x c → Fr No w w' → p w' x c)
    (h0 : Sl 2 (p w) E w v0 X) (hent : ∀ (vs : Array Value) (w : World), (callFunc f vs).run Tryd.prog w = .ok (.enter f vs) w)
    (hf : ∀ x ∈ X, ∀ c wv, p wv x c → Fr No w wv → Calls Tryd.prog f (Value.agg c.toArray :: cap).toArray wv fun e w' => e = .returned (.bool (q x)) ∧ Fr No wv w') :
    Calls Tryd.prog 48 #[v0, .func (.func f) #[] cap.toArray] w fun e w' => e = .returned (.bool (X.any q)) ∧ Fr No w w' := by
  have H := hid (indexAv f cap q p E v0 X w hp h0 hent hf)
  obtain ⟨a, c, rfl, -, -⟩ := h0.form
  obtain ⟨R, hR⟩ : ∃ R, X.any q = R := ⟨_, rfl⟩
  obtain ⟨n, hn⟩ : ∃ n, X.length = n := ⟨_, rfl⟩
  rw [hR] at H ⊢
  rw [hn] at H ⊢
  clear hp h0 hent hf hR hn
  go_enter Tryd.func48, Tryd.ntmps48
  go_wp2_with fail
  refine H.out.mono ?_
  rintro e w2 ⟨m, rfl, hm, h1, h2, f2⟩
  have HF := hid f2
  clear f2
  have HM := hid hm
  clear hm
  go_wp2_with fail
  go_ret
  exact ⟨by rw [← HM.out]; rfl, HF.out⟩
set_option maxHeartbeats 8000000 in
theorem indexRd {α : Type} (f : FuncId) (cap : List Value) (q : α → Bool) (p : World → α → Value → Prop) (E : Nat → Prop) (v0 : Value) (X : List α) (w : World) (hp : ∀ w w' x c, p w x c → Fr No w w' → p w' x c)
    (h0 : Sl 1 (fun x c => ∃ v, c = [v] ∧ p w x v) E w v0 X) (hent : ∀ (vs : Array Value) (w : World), (callFunc f vs).run Tryd.prog w = .ok (.enter f vs) w)
    (hf : ∀ x ∈ X, ∀ c wv, p wv x c → Fr No w wv → Calls Tryd.prog f (c :: cap).toArray wv fun e w' => e = .returned (.bool (q x)) ∧ Fr No wv w') :
    Calls Tryd.prog 45 #[v0, .func (.func f) #[] cap.toArray] w (Found (X.any q) w) := by
  obtain ⟨a, c, rfl, -, hl0⟩ := h0.form
  have HX0 := hid h0
  obtain ⟨n, hn⟩ : ∃ n, X.length = n := ⟨_, rfl⟩
  rw [hn] at HX0 hl0 ⊢
  have HNN := hid hn; have HP := hid hp; have HE := hid hent; have HF := hid hf
  obtain ⟨R, hR⟩ : ∃ R, X.any q = R := ⟨_, rfl⟩
  rw [hR]
  have HR := hid hR
  have hni : (n : Int) ≤ 140737488351232 := by omega
  clear hp h0 hent hf hn hR
  go_enter Tryd.func45, Tryd.ntmps45
  go_wp2_with fail
  go_loopw [8] (fun iv wr => ∃ (i : Nat), iv = .int .i64 i ∧ i ≤ n ∧ Hid ((X.take i).any q = false ∧ Fr No w wr)) (fun iv _ => n - (intOf iv).toNat)
  case atStart => exact ⟨0, rfl, Nat.zero_le _, hid ⟨rfl, Fr.refl _ _⟩⟩
  case round =>
    obtain ⟨i, rfl, hi, HI⟩ := hrel
    by_cases hlt : i < n
    · have hiX : i < X.length := by rw [HNN.out]; exact hlt
      obtain ⟨x, hx⟩ : ∃ x, X[i]? = some x := ⟨_, List.getElem?_eq_getElem hiX⟩
      have HXM := hid (List.mem_of_getElem? hx)
      have HNX : Hid ((X.take (i + 1)).any q = (q x || false)) := hid (by
        have hxx : X[i] = x := by rw [List.getElem?_eq_getElem hiX] at hx; exact Option.some.inj hx
        rw [List.take_succ_eq_append_getElem hiX, List.any_append, HI.out.1, hxx]; simp)
      have hlti : (i : Int) < n := by omega
      have hi0 : (0 : Int) ≤ i := by omega
      obtain ⟨g, o, cp, c, e1, hEg, hgw, hr, hc, hxa⟩ := (Sl.fr (p' := fun x c => ∃ v, c = [v] ∧ p wr x v) HX0.out HI.out.2 (fun _ _ _ e => e) (fun x c _ h => ⟨h.choose, h.choose_spec.1, HP.out _ _ x _ h.choose_spec.2 HI.out.2⟩)).get hx
      rw [HNN.out] at e1
      simp only [Value.slice.injEq, true_and] at e1
      obtain ⟨rfl, rfl⟩ := e1
      obtain ⟨c, rfl, hxa⟩ := hxa
      have hcell : wr.cell? ⟨g, o + i, none⟩ = some c := by have := hr 0 c rfl; simpa using this
      have HXA := hid hxa
      clear hc hEg hgw hr hxa hx
      go_wp2_with (first
        | ((with_reducible refine K.atO (.call { callee := .value _, args := _, argTypes := _ }) ?_); refine wpL_callP rfl _ [_] _ rfl f cap rfl HE.out (c :: cap) rfl ?_)
        | fail)
      refine (HF.out x HXM.out c wr HXA.out HI.out.2).mono ?_
      rintro e w4 ⟨rfl, f4⟩
      refine .inl ⟨_, rfl, ?_⟩
      have HF4 := hid (HI.out.2.trans' f4)
      have HLT := hid hlt
      clear f4 hlt
      cases hq : q x with
      | true =>
        have HQ := hid hq
        clear hq
        go_wp2_with fail
        go_ret
        refine ⟨i, rfl, ?_, by omega, by omega, HF4.out⟩
        rw [← HR.out]
        have h1 : X.any q = true := List.any_eq_true.2 ⟨x, HXM.out, HQ.out⟩
        rw [h1]
        simp
      | false =>
        have HQ := hid hq
        clear hq
        go_wp2_with fail
        go_roundw
        case rel => exact ⟨i + 1, by go_num, HLT.out, hid ⟨by rw [HNX.out, HQ.out]; rfl, HF4.out⟩⟩
        case measure => have := HLT.out; simp [intOf]; omega
    · obtain rfl : i = n := by omega
      go_wp2_with fail
      go_ret
      refine ⟨-1, rfl, ?_, by omega, by omega, HI.out.2⟩
      rw [← HR.out]
      have h1 := HI.out.1
      rw [List.take_of_length_le (by rw [HNN.out]; exact Nat.le_refl _)] at h1
      rw [h1]
      rfl
theorem containsRd {α : Type} (f : FuncId) (cap : List Value) (q : α → Bool) (p : World → α → Value → Prop) (E : Nat → Prop) (v0 : Value) (X : List α) (w : World) (hp : ∀ w w' x c, p w x c → Fr No w w' → p w' x c)
    (h0 : Sl 1 (fun x c => ∃ v, c = [v] ∧ p w x v) E w v0 X) (hent : ∀ (vs : Array Value) (w : World), (callFunc f vs).run Tryd.prog w = .ok (.enter f vs) w)
    (hf : ∀ x ∈ X, ∀ c wv, p wv x c → Fr No w wv → Calls Tryd.prog f (c :: cap).toArray wv fun e w' => e = .returned (.bool (q x)) ∧ Fr No wv w') :
    Calls Tryd.prog 34 #[v0, .func (.func f) #[] cap.toArray] w fun e w' => e = .returned (.bool (X.any q)) ∧ Fr No w w' := by
  have H := hid (indexRd f cap q p E v0 X w hp h0 hent hf)
  obtain ⟨a, c, rfl, -, -⟩ := h0.form
  obtain ⟨R, hR⟩ : ∃ R, X.any q = R := ⟨_, rfl⟩
  obtain ⟨n, hn⟩ : ∃ n, X.length = n := ⟨_, rfl⟩
  rw [hR] at H ⊢
  rw [hn] at H ⊢
  clear hp h0 hent hf hR hn
  go_enter Tryd.func34, Tryd.ntmps34
  go_wp2_with fail
  refine H.out.mono ?_
  rintro e w2 ⟨m, rfl, hm, h1, h2, f2⟩
  have HF := hid f2
  clear f2
  have HM := hid hm
  clear hm
  go_wp2_with fail
  go_ret
  exact ⟨by rw [← HM.out]; rfl, HF.out⟩
end Go.Proofs.YtnjemnmhkhkpeaaDoor.DN
