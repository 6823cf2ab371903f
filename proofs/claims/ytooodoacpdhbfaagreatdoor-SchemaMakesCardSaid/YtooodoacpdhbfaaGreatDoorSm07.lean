/-
  Part 7 of the proof: DnR, DnS.
-/
import Derived.Test.YtooodoacpdhbfaaGreatDoorSm06
import Derived.WalkMore
set_option linter.unusedSimpArgs false
set_option linter.unusedVariables false
namespace Go.Proofs.YtooodoacpdhbfaaGreatDoor.DN
set_option maxRecDepth 100000
open Go.RowKit K Go.Proofs.YtooodoacpdhbfaaGreatDoor.BE

theorem esc_drop {r r' : B} {d : UInt8} (h : esc r = some (d, r')) : r.drop (r.length - r'.length) = r' ∧ r'.length < r.length := by
  refine ⟨?_, esc_len h⟩
  cases r with
  | nil => cases h
  | cons c r =>
    rw [esc_cons] at h
    split at h
    · simp only [Option.some.injEq, Prod.mk.injEq] at h
      obtain ⟨rfl, rfl⟩ := h
      have : (c :: r).length - r.length = 1 := by simp
      rw [this]
      rfl
    · cases r with
      | nil => cases h
      | cons e r =>
        simp only at h
        split at h
        · simp only [Option.some.injEq, Prod.mk.injEq] at h
          obtain ⟨-, rfl⟩ := h
          have : (c :: e :: r).length - r.length = 2 := by simp; omega
          rw [this]
          rfl
        · cases h
def strLen : Value → Nat
  | .string s => s.size
  | _ => 0
theorem owR_bytes {w0 w : World} {v : Value} {l : B} (h : OwR 5 1 w0 w v l.length (u8s l)) : BytesIn w (fun _ => True) v l := by
  obtain ⟨a, cap, e, hc, h1⟩ := h.reads
  exact ⟨a, _, cap, e, rfl, hc, h1.imp id fun ⟨g, e2, _, hg, hr⟩ => ⟨g, 0, e2, trivial, hg, hr⟩⟩
/-- What is told of a value that is read: nothing is said of the texts where it is none. -/
def ToldV (o : Option (B × B)) (e : Ending) : Prop := match o with
  | some x => e = .returned (.tuple #[.string (sb x.1), .string (sb x.2), .bool true])
  | none => ∃ p q : B, p.length ≤ 400 ∧ q.length ≤ 400 ∧ e = .returned (.tuple #[.string (sb p), .string (sb q), .bool false])
theorem beqT {m k : Nat} (h : m = k) : ((m : Int) == (k : Int)) = true := by rw [beq_iff_eq]; omega
theorem beqF {m k : Nat} (h : m ≠ k) : ((m : Int) == (k : Int)) = false := by rw [beq_eq_false_iff_ne]; omega
theorem rvF_len1 (f : Nat) (den : B) (bl : Bool) (c : UInt8) (r : B) : rvF ((c :: r).length + 1) den bl (c :: r) = if c = 44 ∨ c = 43 then (if bl then none else some (den, c :: r)) else
    match one den c r with
    | none => none
    | some x => rvF (x.2.2.length + 1) (den ++ [x.1]) x.2.1 x.2.2 := by
  rw [rvF_cons]
  split
  · rfl
  · cases ho : one den c r with
    | none => rfl
    | some x =>
      obtain ⟨d, b, r'⟩ := x
      have := one_len ho
      exact rvF_more _ _ _ _ _ (by simp; omega) (by simp)
set_option maxHeartbeats 16000000 in
theorem readValue_any (s : B) (hs : s.length ≤ 400) (w : World) (hG : Gl w) : Calls Tryz.prog 115 #[.string (sb s)] w fun e w' => ToldV (rv s) e ∧ Fr No w w' := by
  have HG := hid hG
  obtain ⟨RV, hRV⟩ : ∃ RV, rv s = RV := ⟨_, rfl⟩
  have HRV : Hid (rvF (s.length + 1) [] false s = RV) := hid hRV
  rw [hRV]
  have HS400 := hid hs
  clear hG hRV hs
  go_enter Tryz.func115, Tryz.ntmps115
  go_wp2_with fail
  go_step3
  go_wp2_with fail
  go_step3
  go_wp2_with fail
  go_loopw [3, 5, 6] (fun rv' dv bv wr => ∃ (rest den : B) (bl : Bool), rv' = .string (sb rest) ∧ bv = .bool bl ∧ Hid (den.length + rest.length ≤ 400) ∧ Hid (OwR 5 1 w wr dv den.length (u8s den)) ∧ Hid (rvF (rest.length + 1) den bl rest = RV)) (fun rv' _ _ _ => strLen rv')
  case atStart => exact ⟨s, [], false, rfl, rfl, hid (by simpa using HS400.out), hid (owR_nil (Fr.refl _ _)), HRV⟩
  case round =>
    obtain ⟨rest, den, bl, rfl, rfl, HL, HO, HR⟩ := hrel
    obtain ⟨va, vc, rfl⟩ := HO.out.1
    obtain ⟨dl, hdl⟩ : ∃ dl, den.length = dl := ⟨_, rfl⟩
    have HDL := hid hdl
    rw [hdl] at HO HL ⊢
    have HDEN := hid (owR_bytes (HDL.out ▸ HO.out : OwR 5 1 w wr (.slice va den.length vc) den.length (u8s den)))
    rw [hdl] at HDEN
    have hdl0 : (dl : Int) ≤ 400 := by have := HL.out; omega
    clear hdl
    cases rest with
    | nil =>
      have HRV2 : Hid ((if bl then none else some (den, ([] : B))) = RV) := HR
      clear HR
      go_wp2_with (first
        | ((with_reducible refine K.atO (.binOp .neq 9 _ _ _) ?_); refine wpL_valZ rfl (.bool false) (by exact exec_neS _ _ _ rfl [] [] rfl rfl _) ?_)
        | ((with_reducible refine K.atO (.convert _ 9 _) ?_); refine wpL_stringOf rfl _ _ _ _ rfl _ _ den rfl HDEN.out Tryz.underlying120 Tryz.underlying5 Tryz.underlying9 ?_)
        | fail)
      try rw [Exit.noGoto_ret]
      refine ret_three rfl rfl ⟨?_, HO.out.fr⟩
      rw [← HRV2.out]
      cases bl
      · rfl
      · exact ⟨den, [], by have := HL.out; have := HDL.out; omega, Nat.zero_le _, rfl⟩
    | cons c r =>
      have hR := HR.out
      rw [rvF_len1 0] at hR
      have HLr : Hid (dl + (r.length + 1) ≤ 400) := hid (by have := HL.out; simpa using this)
      obtain ⟨S, hS⟩ : ∃ S, sb (c :: r) = S := ⟨_, rfl⟩
      have HS := hid hS
      have hsl : (S.size : Int) = (r.length : Int) + 1 := by rw [← hS, sb_size]; simp
      obtain ⟨rn, hrn⟩ : ∃ rn : Int, (r.length : Int) = rn := ⟨_, rfl⟩
      have hrn0 : 0 ≤ rn := by omega
      have hrn4 : rn ≤ 400 := by have := HLr.out; omega
      have HRN := hid hrn
      rw [hrn] at hsl
      rw [hS]
      clear hS hrn HR HL
      by_cases hcm : c = 44 ∨ c = 43
      · rw [if_pos hcm] at hR
        have HRV2 := hid hR
        clear hR
        rcases hcm with hcm | hcm
        · have e44 : ((c.toNat : Int) == 44) = true := beqT (k := 44) (by rw [hcm]; rfl)
          clear hcm
          go_wp2_with (first | ((with_reducible refine K.atO (.binOp .neq 9 _ _ _) ?_); refine wpL_valZ rfl (.bool true) (by rw [← HS.out]; exact exec_neS _ _ _ rfl (c :: r) [] rfl rfl _) ?_) | ((with_reducible refine K.atO (.index 9 _ _) ?_); refine wpL_valZ rfl (.int .u8 (c.toNat : Int)) (by rw [← HS.out]; exact exec_idx _ _ rfl (c :: r) 0 c rfl 0 rfl rfl rfl _) ?_) | ((with_reducible refine K.atO (.convert _ 9 _) ?_); refine wpL_stringOf rfl _ _ _ _ rfl _ _ den rfl HDEN.out Tryz.underlying120 Tryz.underlying5 Tryz.underlying9 ?_) | fail)
          try rw [Exit.noGoto_ret]
          refine ret_three rfl rfl ⟨?_, HO.out.fr⟩
          rw [← HRV2.out]
          cases bl
          · show Ending.returned (.tuple #[.string (sb den), .string S, .bool true]) = _
            rw [← HS.out]
          · refine ⟨den, c :: r, by have := HLr.out; have := HDL.out; omega, by have := HLr.out; simp; omega, ?_⟩
            show Ending.returned (.tuple #[.string (sb den), .string S, .bool false]) = _
            rw [← HS.out]
        · have e44 : ((c.toNat : Int) == 44) = false := beqF (k := 44) (by rw [hcm]; decide)
          have e43 : ((c.toNat : Int) == 43) = true := beqT (k := 43) (by rw [hcm]; rfl)
          clear hcm
          go_wp2_with (first | ((with_reducible refine K.atO (.binOp .neq 9 _ _ _) ?_); refine wpL_valZ rfl (.bool true) (by rw [← HS.out]; exact exec_neS _ _ _ rfl (c :: r) [] rfl rfl _) ?_) | ((with_reducible refine K.atO (.index 9 _ _) ?_); refine wpL_valZ rfl (.int .u8 (c.toNat : Int)) (by rw [← HS.out]; exact exec_idx _ _ rfl (c :: r) 0 c rfl 0 rfl rfl rfl _) ?_) | ((with_reducible refine K.atO (.convert _ 9 _) ?_); refine wpL_stringOf rfl _ _ _ _ rfl _ _ den rfl HDEN.out Tryz.underlying120 Tryz.underlying5 Tryz.underlying9 ?_) | fail)
          try rw [Exit.noGoto_ret]
          refine ret_three rfl rfl ⟨?_, HO.out.fr⟩
          rw [← HRV2.out]
          cases bl
          · show Ending.returned (.tuple #[.string (sb den), .string S, .bool true]) = _
            rw [← HS.out]
          · refine ⟨den, c :: r, by have := HLr.out; have := HDL.out; omega, by have := HLr.out; simp; omega, ?_⟩
            show Ending.returned (.tuple #[.string (sb den), .string S, .bool false]) = _
            rw [← HS.out]
      · rw [if_neg hcm] at hR
        have n44 : c ≠ 44 := fun h => hcm (.inl h)
        have n43 : c ≠ 43 := fun h => hcm (.inr h)
        clear hcm
        by_cases h92 : c = 92
        · have HRR := hid (fun w (hG : Gl w) => escaped_any r (by have := HLr.out; unfold Sz; omega) w hG)
          have hsl1 : (1 : Int) ≤ rn + 1 := by omega
          have HONE : Hid (1 ≤ (c :: r).length) := hid (by simp)
          have hon : one den c r = (esc r).map fun x => (x.1, false, x.2) := by unfold one; rw [if_pos h92]
          rw [hon] at hR
          have e44 : ((c.toNat : Int) == 44) = false := beqF (k := 44) (by rw [h92]; decide)
          have e43 : ((c.toNat : Int) == 43) = false := beqF (k := 43) (by rw [h92]; decide)
          have e92 : ((c.toNat : Int) == 92) = true := beqT (k := 92) (by rw [h92]; rfl)
          have e32 : ((c.toNat : Int) == 32) = false := beqF (k := 32) (by rw [h92]; decide)
          cases he : esc r with
          | none =>
            rw [he] at hR
            have HRV2 : Hid (none = RV) := hid hR
            have HEV : Hid (escV r = .tuple #[.int .u8 0, .int .i64 0]) := hid (by unfold escV; rw [he])
            clear hR he hon n44 n43 h92
            go_wp2_with (first | ((with_reducible refine K.atO (.binOp .neq 9 _ _ _) ?_); refine wpL_valZ rfl (.bool true) (by rw [← HS.out]; exact exec_neS _ _ _ rfl (c :: r) [] rfl rfl _) ?_) | ((with_reducible refine K.atO (.index 9 _ _) ?_); refine wpL_valZ rfl (.int .u8 (c.toNat : Int)) (by rw [← HS.out]; exact exec_idx _ _ rfl (c :: r) 0 c rfl 0 rfl rfl rfl _) ?_) | ((with_reducible refine K.atO (.slice 9 _ _ _ _) ?_); refine wpL_valZ rfl (.string (sb r)) (by rw [← HS.out]; exact exec_from _ _ rfl (c :: r) 1 rfl rfl HONE.out _ rfl _) ?_) | fail)
            refine (HRR.out wr (HG.out.no HO.out.fr)).mono ?_
            rintro e w2 ⟨rfl, f2⟩
            have HF2 := hid (HO.out.fr.trans' f2)
            clear f2
            rw [HEV.out]
            go_wp2_with fail
            try rw [Exit.noGoto_ret]
            refine ret_three rfl rfl ⟨?_, HF2.out⟩
            rw [← HRV2.out]
            exact ⟨[], [], Nat.zero_le _, Nat.zero_le _, rfl⟩
          | some x =>
            obtain ⟨d, r'⟩ := x
            rw [he] at hR
            have HNX : Hid (rvF (r'.length + 1) (den ++ [d]) false r' = RV) := hid hR
            obtain ⟨hed, hel⟩ := esc_drop he
            obtain ⟨m, hm⟩ : ∃ m, r.length - r'.length = m := ⟨_, rfl⟩
            rw [hm] at hed
            have HEV : Hid (escV r = .tuple #[.int .u8 (d.toNat : Int), .int .i64 ((m + 1 : Nat) : Int)]) := hid (by unfold escV; rw [he, ← hm])
            have HD : Hid (m + 1 ≤ (c :: r).length ∧ (c :: r).drop (m + 1) = r') := hid ⟨by simp; omega, by rw [List.drop_succ_cons]; exact hed⟩
            have HM : Hid (r'.length + m = r.length) := hid (by omega)
            have hm0 : (0 : Int) ≤ m := by omega
            have hmz : (((m : Int) + 1) == 0) = false := by rw [beq_eq_false_iff_ne]; omega
            have hmle : (m : Int) + 1 ≤ rn + 1 := by have := HRN.out; omega
            clear hR he hon n44 n43 h92 hed hel hm
            go_wp2_with (first | ((with_reducible refine K.atO (.binOp .neq 9 _ _ _) ?_); refine wpL_valZ rfl (.bool true) (by rw [← HS.out]; exact exec_neS _ _ _ rfl (c :: r) [] rfl rfl _) ?_) | ((with_reducible refine K.atO (.index 9 _ _) ?_); refine wpL_valZ rfl (.int .u8 (c.toNat : Int)) (by rw [← HS.out]; exact exec_idx _ _ rfl (c :: r) 0 c rfl 0 rfl rfl rfl _) ?_) | ((with_reducible refine K.atO (.slice 9 _ _ _ _) ?_); refine wpL_valZ rfl (.string (sb r)) (by rw [← HS.out]; exact exec_from _ _ rfl (c :: r) 1 rfl rfl HONE.out _ rfl _) ?_) | fail)
            refine (HRR.out wr (HG.out.no HO.out.fr)).mono ?_
            rintro e w2 ⟨rfl, f2⟩
            have HO2 := hid (OwR.no HO.out f2)
            clear f2
            rw [HEV.out]
            go_wp2_with (first | ((with_reducible refine K.atO (.index 9 _ _) ?_); refine wpL_valZ rfl (.int .u8 (c.toNat : Int)) (by rw [← HS.out]; exact exec_idx _ _ rfl (c :: r) 0 c rfl 0 rfl rfl rfl _) ?_) | fail)
            have hold : Facts.hold [] w2.drew := Facts.nil_hold _
            refine wpD_region hold (by kernel_rfl) 9 rfl ?_
            (refine wpD_plain 0 (v := ?_) rfl (by kernel_rfl) (by kernel_rfl) (by kernel_rfl) (fun _ _ _ h => h) (by rfl) ?_ (by assumption) ?_; rotate_left; (intro _w; go_simp; try with_reducible rfl); simp only [Act.put, K.put3])
            (refine wpD_plain 1 (v := ?_) rfl (by kernel_rfl) (by kernel_rfl) (by kernel_rfl) (fun _ _ _ h => h) (by rfl) ?_ (by assumption) ?_; rotate_left; (intro _w; go_simp; try with_reducible rfl); simp only [Act.put, K.put3])
            (refine wpD_plain 4 (v := ?_) rfl (by kernel_rfl) (by kernel_rfl) (by kernel_rfl) (fun _ _ _ h => h) (by rfl) ?_ (by assumption) ?_; rotate_left; (intro _w; go_simp; try with_reducible rfl); simp only [Act.put, K.put3])
            (refine wpD_plain 5 (v := ?_) rfl (by kernel_rfl) (by kernel_rfl) (by kernel_rfl) (fun _ _ _ h => h) (by rfl) ?_ (by assumption) ?_; rotate_left; (intro _w; go_simp; try with_reducible rfl); simp only [Act.put, K.put3])
            (refine wpD_plain 6 (v := (.string (sb r'))) rfl (by kernel_rfl) (by kernel_rfl) (by kernel_rfl) (fun _ _ _ h => h) (by rfl) ?_ (by assumption) ?_; (intro _w; first | exact exec_from _ _ rfl (c :: r) (m + 1) (by rw [HS.out]; rfl) rfl HD.out.1 _ HD.out.2 _w | exact exec_from _ _ rfl (c :: r) (m + 1) (by rw [HS.out]; rfl) (by rfl) HD.out.1 _ HD.out.2 _w); simp only [Act.put, K.put3])
            clear hold
            refine wpD_only 2 [] rfl (by kernel_rfl) (by kernel_rfl) (by rfl) (fun K2 hK2 => ?_)
            obtain ⟨ib, hib, hzb, hsb, hbb⟩ := Go.info_parts infoU
            refine wp_buildOne 120 5 _ rfl ib _ Tryz.underlying120 hib hzb (by rw [hsb]; decide) (by rw [hsb]; decide) (.int .u8 (d.toNat : Int)) [.int .u8 (d.toNat : Int)] rfl rfl (by rw [hsb]; rfl) ?_
            intro w3 HB3 HF3 HS3
            refine hK2 _ _ (Facts.nil_hold _) ?_
            clear hK2 K2 hib hzb hsb hbb
            simp only [Act.put, K.put3]
            have HO3 : Hid (OwR 5 1 w w3 (.slice va dl vc) dl (u8s den)) := hid (OwR.no HO2.out ((Fr.refl No w2).drew.trans' HF3.out))
            refine wpD_only 3 [] rfl (by kernel_rfl) (by kernel_rfl) (by rfl) (fun K3 hK3 => ?_)
            refine wp_appR _ _ 120 5 rfl Tryz.underlying120 infoU rfl (by decide) HO3.out rfl w2.heap.size 1 1 _ rfl rfl HB3.out (by simp [Value.oneCell']) (by omega) (by omega) ?_
            intro a4 c4 w4 HO4 HF4
            refine hK3 _ _ (Facts.nil_hold _) ?_
            clear hK3 K3
            simp only [Act.put, K.put3]
            have hold : Facts.hold [] w4 := Facts.nil_hold _
            (refine wpD_plain 7 (v := ?_) rfl (by kernel_rfl) (by kernel_rfl) (by kernel_rfl) (fun _ _ _ h => h) (by rfl) ?_ (by assumption) ?_; rotate_left; (intro _w; go_simp; try with_reducible rfl); simp only [Act.put, K.put3])
            (refine wpD_plain 8 (v := ?_) rfl (by kernel_rfl) (by kernel_rfl) (by kernel_rfl) (fun _ _ _ h => h) (by rfl) ?_ (by assumption) ?_; rotate_left; (intro _w; go_simp; try with_reducible rfl); simp only [Act.put, K.put3])
            clear hold
            refine wpD_done (by kernel_rfl) ?_ _
            go_wp2_with fail
            refine ⟨⟨r', den ++ [d], false, rfl, rfl, hid (by have := HLr.out; have := HDL.out; have := HD.out.2; rw [List.length_append]; have := HM.out; simp; omega), hid ?_, HNX⟩, ?_⟩
            · have h := HO4.out
              rw [show (den ++ [d]).length = dl + 1 by rw [List.length_append, HDL.out]; rfl]
              rwa [show u8s den ++ [Value.int .u8 (d.toNat : Int)] = u8s (den ++ [d]) by simp [u8s]] at h
            · show (sb r').size < S.size
              rw [← HS.out, sb_size, sb_size]
              have := HM.out; simp; omega
        · have n92 := h92
          clear h92
          by_cases h34 : c = 34
          · have hon : one den c r = none := by unfold one; rw [if_neg n92, h34]; rfl
            rw [hon] at hR
            have HRV2 : Hid (none = RV) := hid hR
            have e44 : ((c.toNat : Int) == 44) = false := beqF (k := 44) (by rw [h34]; decide)
            have e43 : ((c.toNat : Int) == 43) = false := beqF (k := 43) (by rw [h34]; decide)
            have e92 : ((c.toNat : Int) == 92) = false := beqF (k := 92) (by rw [h34]; decide)
            have e34 : ((c.toNat : Int) == 34) = true := beqT (k := 34) (by rw [h34]; rfl)
            clear hR hon n44 n43 n92  h34
            go_wp2_with (first | ((with_reducible refine K.atO (.binOp .neq 9 _ _ _) ?_); refine wpL_valZ rfl (.bool true) (by rw [← HS.out]; exact exec_neS _ _ _ rfl (c :: r) [] rfl rfl _) ?_) | ((with_reducible refine K.atO (.index 9 _ _) ?_); refine wpL_valZ rfl (.int .u8 (c.toNat : Int)) (by rw [← HS.out]; exact exec_idx _ _ rfl (c :: r) 0 c rfl 0 rfl rfl rfl _) ?_) | fail)
            try rw [Exit.noGoto_ret]
            refine ret_three rfl rfl ⟨?_, HO.out.fr⟩
            rw [← HRV2.out]
            exact ⟨[], [], Nat.zero_le _, Nat.zero_le _, rfl⟩
          · have n34 := h34
            clear h34
            by_cases h59 : c = 59
            · have hon : one den c r = none := by unfold one; rw [if_neg n92, h59]; rfl
              rw [hon] at hR
              have HRV2 : Hid (none = RV) := hid hR
              have e44 : ((c.toNat : Int) == 44) = false := beqF (k := 44) (by rw [h59]; decide)
              have e43 : ((c.toNat : Int) == 43) = false := beqF (k := 43) (by rw [h59]; decide)
              have e92 : ((c.toNat : Int) == 92) = false := beqF (k := 92) (by rw [h59]; decide)
              have e34 : ((c.toNat : Int) == 34) = false := beqF (k := 34) (by rw [h59]; decide)
              have e59 : ((c.toNat : Int) == 59) = true := beqT (k := 59) (by rw [h59]; rfl)
              clear hR hon n44 n43 n92 n34 h59
              go_wp2_with (first | ((with_reducible refine K.atO (.binOp .neq 9 _ _ _) ?_); refine wpL_valZ rfl (.bool true) (by rw [← HS.out]; exact exec_neS _ _ _ rfl (c :: r) [] rfl rfl _) ?_) | ((with_reducible refine K.atO (.index 9 _ _) ?_); refine wpL_valZ rfl (.int .u8 (c.toNat : Int)) (by rw [← HS.out]; exact exec_idx _ _ rfl (c :: r) 0 c rfl 0 rfl rfl rfl _) ?_) | fail)
              try rw [Exit.noGoto_ret]
              refine ret_three rfl rfl ⟨?_, HO.out.fr⟩
              rw [← HRV2.out]
              exact ⟨[], [], Nat.zero_le _, Nat.zero_le _, rfl⟩
            · have n59 := h59
              clear h59
              by_cases h60 : c = 60
              · have hon : one den c r = none := by unfold one; rw [if_neg n92, h60]; rfl
                rw [hon] at hR
                have HRV2 : Hid (none = RV) := hid hR
                have e44 : ((c.toNat : Int) == 44) = false := beqF (k := 44) (by rw [h60]; decide)
                have e43 : ((c.toNat : Int) == 43) = false := beqF (k := 43) (by rw [h60]; decide)
                have e92 : ((c.toNat : Int) == 92) = false := beqF (k := 92) (by rw [h60]; decide)
                have e34 : ((c.toNat : Int) == 34) = false := beqF (k := 34) (by rw [h60]; decide)
                have e59 : ((c.toNat : Int) == 59) = false := beqF (k := 59) (by rw [h60]; decide)
                have e60 : ((c.toNat : Int) == 60) = true := beqT (k := 60) (by rw [h60]; rfl)
                clear hR hon n44 n43 n92 n34 n59 h60
                go_wp2_with (first | ((with_reducible refine K.atO (.binOp .neq 9 _ _ _) ?_); refine wpL_valZ rfl (.bool true) (by rw [← HS.out]; exact exec_neS _ _ _ rfl (c :: r) [] rfl rfl _) ?_) | ((with_reducible refine K.atO (.index 9 _ _) ?_); refine wpL_valZ rfl (.int .u8 (c.toNat : Int)) (by rw [← HS.out]; exact exec_idx _ _ rfl (c :: r) 0 c rfl 0 rfl rfl rfl _) ?_) | fail)
                try rw [Exit.noGoto_ret]
                refine ret_three rfl rfl ⟨?_, HO.out.fr⟩
                rw [← HRV2.out]
                exact ⟨[], [], Nat.zero_le _, Nat.zero_le _, rfl⟩
              · have n60 := h60
                clear h60
                by_cases h62 : c = 62
                · have hon : one den c r = none := by unfold one; rw [if_neg n92, h62]; rfl
                  rw [hon] at hR
                  have HRV2 : Hid (none = RV) := hid hR
                  have e44 : ((c.toNat : Int) == 44) = false := beqF (k := 44) (by rw [h62]; decide)
                  have e43 : ((c.toNat : Int) == 43) = false := beqF (k := 43) (by rw [h62]; decide)
                  have e92 : ((c.toNat : Int) == 92) = false := beqF (k := 92) (by rw [h62]; decide)
                  have e34 : ((c.toNat : Int) == 34) = false := beqF (k := 34) (by rw [h62]; decide)
                  have e59 : ((c.toNat : Int) == 59) = false := beqF (k := 59) (by rw [h62]; decide)
                  have e60 : ((c.toNat : Int) == 60) = false := beqF (k := 60) (by rw [h62]; decide)
                  have e62 : ((c.toNat : Int) == 62) = true := beqT (k := 62) (by rw [h62]; rfl)
                  clear hR hon n44 n43 n92 n34 n59 n60 h62
                  go_wp2_with (first | ((with_reducible refine K.atO (.binOp .neq 9 _ _ _) ?_); refine wpL_valZ rfl (.bool true) (by rw [← HS.out]; exact exec_neS _ _ _ rfl (c :: r) [] rfl rfl _) ?_) | ((with_reducible refine K.atO (.index 9 _ _) ?_); refine wpL_valZ rfl (.int .u8 (c.toNat : Int)) (by rw [← HS.out]; exact exec_idx _ _ rfl (c :: r) 0 c rfl 0 rfl rfl rfl _) ?_) | fail)
                  try rw [Exit.noGoto_ret]
                  refine ret_three rfl rfl ⟨?_, HO.out.fr⟩
                  rw [← HRV2.out]
                  exact ⟨[], [], Nat.zero_le _, Nat.zero_le _, rfl⟩
                · have n62 := h62
                  clear h62
                  by_cases h0 : c = 0
                  · have hon : one den c r = none := by unfold one; rw [if_neg n92, h0]; rfl
                    rw [hon] at hR
                    have HRV2 : Hid (none = RV) := hid hR
                    have e44 : ((c.toNat : Int) == 44) = false := beqF (k := 44) (by rw [h0]; decide)
                    have e43 : ((c.toNat : Int) == 43) = false := beqF (k := 43) (by rw [h0]; decide)
                    have e92 : ((c.toNat : Int) == 92) = false := beqF (k := 92) (by rw [h0]; decide)
                    have e34 : ((c.toNat : Int) == 34) = false := beqF (k := 34) (by rw [h0]; decide)
                    have e59 : ((c.toNat : Int) == 59) = false := beqF (k := 59) (by rw [h0]; decide)
                    have e60 : ((c.toNat : Int) == 60) = false := beqF (k := 60) (by rw [h0]; decide)
                    have e62 : ((c.toNat : Int) == 62) = false := beqF (k := 62) (by rw [h0]; decide)
                    have e0 : ((c.toNat : Int) == 0) = true := beqT (k := 0) (by rw [h0]; rfl)
                    clear hR hon n44 n43 n92 n34 n59 n60 n62 h0
                    go_wp2_with (first | ((with_reducible refine K.atO (.binOp .neq 9 _ _ _) ?_); refine wpL_valZ rfl (.bool true) (by rw [← HS.out]; exact exec_neS _ _ _ rfl (c :: r) [] rfl rfl _) ?_) | ((with_reducible refine K.atO (.index 9 _ _) ?_); refine wpL_valZ rfl (.int .u8 (c.toNat : Int)) (by rw [← HS.out]; exact exec_idx _ _ rfl (c :: r) 0 c rfl 0 rfl rfl rfl _) ?_) | fail)
                    try rw [Exit.noGoto_ret]
                    refine ret_three rfl rfl ⟨?_, HO.out.fr⟩
                    rw [← HRV2.out]
                    exact ⟨[], [], Nat.zero_le _, Nat.zero_le _, rfl⟩
                  · have n0 := h0
                    clear h0
                    have hbad : (c == 34 || c == 59 || c == 60 || c == 62 || c == 0) = false := by simp [n34, n59, n60, n62, n0]
                    have HD : Hid (1 ≤ (c :: r).length ∧ (c :: r).drop 1 = r) := hid ⟨by simp, rfl⟩
                    have hon : one den c r = if (c == 35 || c == 32) && den.isEmpty then none else some (c, c == 32, r) := by unfold one; rw [if_neg n92, hbad]; rfl
                    rw [hon] at hR
                    have hde : den.isEmpty = decide (dl = 0) := by rw [← HDL.out]; cases den <;> simp
                    rw [hde] at hR
                    by_cases h35 : c = 35
                    · have e44 : ((c.toNat : Int) == 44) = false := beqF (k := 44) (by rw [h35]; decide)
                      have e43 : ((c.toNat : Int) == 43) = false := beqF (k := 43) (by rw [h35]; decide)
                      have e92 : ((c.toNat : Int) == 92) = false := beqF (k := 92) (by rw [h35]; decide)
                      have e34 : ((c.toNat : Int) == 34) = false := beqF (k := 34) (by rw [h35]; decide)
                      have e59 : ((c.toNat : Int) == 59) = false := beqF (k := 59) (by rw [h35]; decide)
                      have e60 : ((c.toNat : Int) == 60) = false := beqF (k := 60) (by rw [h35]; decide)
                      have e62 : ((c.toNat : Int) == 62) = false := beqF (k := 62) (by rw [h35]; decide)
                      have e0 : ((c.toNat : Int) == 0) = false := beqF (k := 0) (by rw [h35]; decide)
                      have e35 : ((c.toNat : Int) == 35) = true := beqT (k := 35) (by rw [h35]; rfl)
                      have e32 : ((c.toNat : Int) == 32) = false := beqF (k := 32) (by rw [h35]; decide)
                      by_cases hd0 : dl = 0
                      · have HRV2 : Hid (none = RV) := hid (by rw [h35, decide_eq_true hd0] at hR; exact hR)
                        have hdz : ((dl : Int) == 0) = true := by rw [beq_iff_eq]; omega
                        clear hR hon hde hbad h35 n44 n43 n92 n34 n59 n60 n62 n0 hd0
                        go_wp2_with (first | ((with_reducible refine K.atO (.binOp .neq 9 _ _ _) ?_); refine wpL_valZ rfl (.bool true) (by rw [← HS.out]; exact exec_neS _ _ _ rfl (c :: r) [] rfl rfl _) ?_) | ((with_reducible refine K.atO (.index 9 _ _) ?_); refine wpL_valZ rfl (.int .u8 (c.toNat : Int)) (by rw [← HS.out]; exact exec_idx _ _ rfl (c :: r) 0 c rfl 0 rfl rfl rfl _) ?_) | fail)
                        try rw [Exit.noGoto_ret]
                        refine ret_three rfl rfl ⟨?_, HO.out.fr⟩
                        rw [← HRV2.out]
                        exact ⟨[], [], Nat.zero_le _, Nat.zero_le _, rfl⟩
                      · have HNX : Hid (rvF (r.length + 1) (den ++ [c]) false r = RV) := hid (by rw [decide_eq_false hd0, Bool.and_false] at hR; rw [show (c == 32) = false by rw [h35]; rfl] at hR; exact hR)
                        have hdz : ((dl : Int) == 0) = false := by rw [beq_eq_false_iff_ne]; omega
                        clear hR hon hde hbad h35 n44 n43 n92 n34 n59 n60 n62 n0 hd0
                        go_wp2_with (first | ((with_reducible refine K.atO (.binOp .neq 9 _ _ _) ?_); refine wpL_valZ rfl (.bool true) (by rw [← HS.out]; exact exec_neS _ _ _ rfl (c :: r) [] rfl rfl _) ?_) | ((with_reducible refine K.atO (.index 9 _ _) ?_); refine wpL_valZ rfl (.int .u8 (c.toNat : Int)) (by rw [← HS.out]; exact exec_idx _ _ rfl (c :: r) 0 c rfl 0 rfl rfl rfl _) ?_) | fail)
                        have hold : Facts.hold [] wr.drew := Facts.nil_hold _
                        refine wpD_region hold (by kernel_rfl) 9 rfl ?_
                        (refine wpD_plain 0 (v := ?_) rfl (by kernel_rfl) (by kernel_rfl) (by kernel_rfl) (fun _ _ _ h => h) (by rfl) ?_ (by assumption) ?_; rotate_left; (intro _w; go_simp; try with_reducible rfl); simp only [Act.put, K.put3])
                        (refine wpD_plain 1 (v := ?_) rfl (by kernel_rfl) (by kernel_rfl) (by kernel_rfl) (fun _ _ _ h => h) (by rfl) ?_ (by assumption) ?_; rotate_left; (intro _w; go_simp; try with_reducible rfl); simp only [Act.put, K.put3])
                        (refine wpD_plain 4 (v := ?_) rfl (by kernel_rfl) (by kernel_rfl) (by kernel_rfl) (fun _ _ _ h => h) (by rfl) ?_ (by assumption) ?_; rotate_left; (intro _w; go_simp; try with_reducible rfl); simp only [Act.put, K.put3])
                        (refine wpD_plain 5 (v := ?_) rfl (by kernel_rfl) (by kernel_rfl) (by kernel_rfl) (fun _ _ _ h => h) (by rfl) ?_ (by assumption) ?_; rotate_left; (intro _w; go_simp; try with_reducible rfl); simp only [Act.put, K.put3])
                        (refine wpD_plain 6 (v := (.string (sb r))) rfl (by kernel_rfl) (by kernel_rfl) (by kernel_rfl) (fun _ _ _ h => h) (by rfl) ?_ (by assumption) ?_; (intro _w; first | exact exec_from _ _ rfl (c :: r) 1 (by rw [HS.out]; rfl) rfl HD.out.1 _ HD.out.2 _w | exact exec_from _ _ rfl (c :: r) 1 (by rw [HS.out]; rfl) (by rfl) HD.out.1 _ HD.out.2 _w); simp only [Act.put, K.put3])
                        clear hold
                        refine wpD_only 2 [] rfl (by kernel_rfl) (by kernel_rfl) (by rfl) (fun K2 hK2 => ?_)
                        obtain ⟨ib, hib, hzb, hsb, hbb⟩ := Go.info_parts infoU
                        refine wp_buildOne 120 5 _ rfl ib _ Tryz.underlying120 hib hzb (by rw [hsb]; decide) (by rw [hsb]; decide) (.int .u8 (c.toNat : Int)) [.int .u8 (c.toNat : Int)] rfl rfl (by rw [hsb]; rfl) ?_
                        intro w3 HB3 HF3 HS3
                        refine hK2 _ _ (Facts.nil_hold _) ?_
                        clear hK2 K2 hib hzb hsb hbb
                        simp only [Act.put, K.put3]
                        have HO3 : Hid (OwR 5 1 w w3 (.slice va dl vc) dl (u8s den)) := hid (OwR.no HO.out ((Fr.refl No wr).drew.trans' HF3.out))
                        refine wpD_only 3 [] rfl (by kernel_rfl) (by kernel_rfl) (by rfl) (fun K3 hK3 => ?_)
                        refine wp_appR _ _ 120 5 rfl Tryz.underlying120 infoU rfl (by decide) HO3.out rfl wr.heap.size 1 1 _ rfl rfl HB3.out (by simp [Value.oneCell']) (by omega) (by omega) ?_
                        intro a4 c4 w4 HO4 HF4
                        refine hK3 _ _ (Facts.nil_hold _) ?_
                        clear hK3 K3
                        simp only [Act.put, K.put3]
                        have hold : Facts.hold [] w4 := Facts.nil_hold _
                        (refine wpD_plain 7 (v := ?_) rfl (by kernel_rfl) (by kernel_rfl) (by kernel_rfl) (fun _ _ _ h => h) (by rfl) ?_ (by assumption) ?_; rotate_left; (intro _w; go_simp; try with_reducible rfl); simp only [Act.put, K.put3])
                        (refine wpD_plain 8 (v := ?_) rfl (by kernel_rfl) (by kernel_rfl) (by kernel_rfl) (fun _ _ _ h => h) (by rfl) ?_ (by assumption) ?_; rotate_left; (intro _w; go_simp; try with_reducible rfl); simp only [Act.put, K.put3])
                        clear hold
                        refine wpD_done (by kernel_rfl) ?_ _
                        go_wp2_with fail
                        refine ⟨⟨r, den ++ [c], false, rfl, rfl, hid (by have := HLr.out; have := HDL.out; have := HD.out.2; rw [List.length_append]; simp; omega), hid ?_, HNX⟩, ?_⟩
                        · have h := HO4.out
                          rw [show (den ++ [c]).length = dl + 1 by rw [List.length_append, HDL.out]; rfl]
                          rwa [show u8s den ++ [Value.int .u8 (c.toNat : Int)] = u8s (den ++ [c]) by simp [u8s]] at h
                        · show (sb r).size < S.size
                          rw [← HS.out, sb_size, sb_size]
                          simp
                    · have n35 := h35
                      clear h35
                      by_cases h32 : c = 32
                      · have e44 : ((c.toNat : Int) == 44) = false := beqF (k := 44) (by rw [h32]; decide)
                        have e43 : ((c.toNat : Int) == 43) = false := beqF (k := 43) (by rw [h32]; decide)
                        have e92 : ((c.toNat : Int) == 92) = false := beqF (k := 92) (by rw [h32]; decide)
                        have e34 : ((c.toNat : Int) == 34) = false := beqF (k := 34) (by rw [h32]; decide)
                        have e59 : ((c.toNat : Int) == 59) = false := beqF (k := 59) (by rw [h32]; decide)
                        have e60 : ((c.toNat : Int) == 60) = false := beqF (k := 60) (by rw [h32]; decide)
                        have e62 : ((c.toNat : Int) == 62) = false := beqF (k := 62) (by rw [h32]; decide)
                        have e0 : ((c.toNat : Int) == 0) = false := beqF (k := 0) (by rw [h32]; decide)
                        have e35 : ((c.toNat : Int) == 35) = false := beqF (k := 35) (by rw [h32]; decide)
                        have e32 : ((c.toNat : Int) == 32) = true := beqT (k := 32) (by rw [h32]; rfl)
                        by_cases hd0 : dl = 0
                        · have HRV2 : Hid (none = RV) := hid (by rw [h32, decide_eq_true hd0] at hR; exact hR)
                          have hdz : ((dl : Int) == 0) = true := by rw [beq_iff_eq]; omega
                          clear hR hon hde hbad h32 n44 n43 n92 n34 n59 n60 n62 n0 hd0 n35
                          go_wp2_with (first | ((with_reducible refine K.atO (.binOp .neq 9 _ _ _) ?_); refine wpL_valZ rfl (.bool true) (by rw [← HS.out]; exact exec_neS _ _ _ rfl (c :: r) [] rfl rfl _) ?_) | ((with_reducible refine K.atO (.index 9 _ _) ?_); refine wpL_valZ rfl (.int .u8 (c.toNat : Int)) (by rw [← HS.out]; exact exec_idx _ _ rfl (c :: r) 0 c rfl 0 rfl rfl rfl _) ?_) | fail)
                          try rw [Exit.noGoto_ret]
                          refine ret_three rfl rfl ⟨?_, HO.out.fr⟩
                          rw [← HRV2.out]
                          exact ⟨[], [], Nat.zero_le _, Nat.zero_le _, rfl⟩
                        · have HNX : Hid (rvF (r.length + 1) (den ++ [c]) true r = RV) := hid (by rw [decide_eq_false hd0, Bool.and_false] at hR; rw [show (c == 32) = true by rw [h32]; rfl] at hR; exact hR)
                          have hdz : ((dl : Int) == 0) = false := by rw [beq_eq_false_iff_ne]; omega
                          clear hR hon hde hbad h32 n44 n43 n92 n34 n59 n60 n62 n0 hd0 n35
                          go_wp2_with (first | ((with_reducible refine K.atO (.binOp .neq 9 _ _ _) ?_); refine wpL_valZ rfl (.bool true) (by rw [← HS.out]; exact exec_neS _ _ _ rfl (c :: r) [] rfl rfl _) ?_) | ((with_reducible refine K.atO (.index 9 _ _) ?_); refine wpL_valZ rfl (.int .u8 (c.toNat : Int)) (by rw [← HS.out]; exact exec_idx _ _ rfl (c :: r) 0 c rfl 0 rfl rfl rfl _) ?_) | fail)
                          have hold : Facts.hold [] wr.drew := Facts.nil_hold _
                          refine wpD_region hold (by kernel_rfl) 9 rfl ?_
                          (refine wpD_plain 0 (v := ?_) rfl (by kernel_rfl) (by kernel_rfl) (by kernel_rfl) (fun _ _ _ h => h) (by rfl) ?_ (by assumption) ?_; rotate_left; (intro _w; go_simp; try with_reducible rfl); simp only [Act.put, K.put3])
                          (refine wpD_plain 1 (v := ?_) rfl (by kernel_rfl) (by kernel_rfl) (by kernel_rfl) (fun _ _ _ h => h) (by rfl) ?_ (by assumption) ?_; rotate_left; (intro _w; go_simp; try with_reducible rfl); simp only [Act.put, K.put3])
                          (refine wpD_plain 4 (v := ?_) rfl (by kernel_rfl) (by kernel_rfl) (by kernel_rfl) (fun _ _ _ h => h) (by rfl) ?_ (by assumption) ?_; rotate_left; (intro _w; go_simp; try with_reducible rfl); simp only [Act.put, K.put3])
                          (refine wpD_plain 5 (v := ?_) rfl (by kernel_rfl) (by kernel_rfl) (by kernel_rfl) (fun _ _ _ h => h) (by rfl) ?_ (by assumption) ?_; rotate_left; (intro _w; go_simp; try with_reducible rfl); simp only [Act.put, K.put3])
                          (refine wpD_plain 6 (v := (.string (sb r))) rfl (by kernel_rfl) (by kernel_rfl) (by kernel_rfl) (fun _ _ _ h => h) (by rfl) ?_ (by assumption) ?_; (intro _w; first | exact exec_from _ _ rfl (c :: r) 1 (by rw [HS.out]; rfl) rfl HD.out.1 _ HD.out.2 _w | exact exec_from _ _ rfl (c :: r) 1 (by rw [HS.out]; rfl) (by rfl) HD.out.1 _ HD.out.2 _w); simp only [Act.put, K.put3])
                          clear hold
                          refine wpD_only 2 [] rfl (by kernel_rfl) (by kernel_rfl) (by rfl) (fun K2 hK2 => ?_)
                          obtain ⟨ib, hib, hzb, hsb, hbb⟩ := Go.info_parts infoU
                          refine wp_buildOne 120 5 _ rfl ib _ Tryz.underlying120 hib hzb (by rw [hsb]; decide) (by rw [hsb]; decide) (.int .u8 (c.toNat : Int)) [.int .u8 (c.toNat : Int)] rfl rfl (by rw [hsb]; rfl) ?_
                          intro w3 HB3 HF3 HS3
                          refine hK2 _ _ (Facts.nil_hold _) ?_
                          clear hK2 K2 hib hzb hsb hbb
                          simp only [Act.put, K.put3]
                          have HO3 : Hid (OwR 5 1 w w3 (.slice va dl vc) dl (u8s den)) := hid (OwR.no HO.out ((Fr.refl No wr).drew.trans' HF3.out))
                          refine wpD_only 3 [] rfl (by kernel_rfl) (by kernel_rfl) (by rfl) (fun K3 hK3 => ?_)
                          refine wp_appR _ _ 120 5 rfl Tryz.underlying120 infoU rfl (by decide) HO3.out rfl wr.heap.size 1 1 _ rfl rfl HB3.out (by simp [Value.oneCell']) (by omega) (by omega) ?_
                          intro a4 c4 w4 HO4 HF4
                          refine hK3 _ _ (Facts.nil_hold _) ?_
                          clear hK3 K3
                          simp only [Act.put, K.put3]
                          have hold : Facts.hold [] w4 := Facts.nil_hold _
                          (refine wpD_plain 7 (v := ?_) rfl (by kernel_rfl) (by kernel_rfl) (by kernel_rfl) (fun _ _ _ h => h) (by rfl) ?_ (by assumption) ?_; rotate_left; (intro _w; go_simp; try with_reducible rfl); simp only [Act.put, K.put3])
                          (refine wpD_plain 8 (v := ?_) rfl (by kernel_rfl) (by kernel_rfl) (by kernel_rfl) (fun _ _ _ h => h) (by rfl) ?_ (by assumption) ?_; rotate_left; (intro _w; go_simp; try with_reducible rfl); simp only [Act.put, K.put3])
                          clear hold
                          refine wpD_done (by kernel_rfl) ?_ _
                          go_wp2_with fail
                          refine ⟨⟨r, den ++ [c], true, rfl, rfl, hid (by have := HLr.out; have := HDL.out; have := HD.out.2; rw [List.length_append]; simp; omega), hid ?_, HNX⟩, ?_⟩
                          · have h := HO4.out
                            rw [show (den ++ [c]).length = dl + 1 by rw [List.length_append, HDL.out]; rfl]
                            rwa [show u8s den ++ [Value.int .u8 (c.toNat : Int)] = u8s (den ++ [c]) by simp [u8s]] at h
                          · show (sb r).size < S.size
                            rw [← HS.out, sb_size, sb_size]
                            simp
                      · have n32 := h32
                        clear h32
                        have e44 : ((c.toNat : Int) == 44) = false := beqF (k := 44) (fun h => n44 (UInt8.toNat_inj.1 h))
                        have e43 : ((c.toNat : Int) == 43) = false := beqF (k := 43) (fun h => n43 (UInt8.toNat_inj.1 h))
                        have e92 : ((c.toNat : Int) == 92) = false := beqF (k := 92) (fun h => n92 (UInt8.toNat_inj.1 h))
                        have e34 : ((c.toNat : Int) == 34) = false := beqF (k := 34) (fun h => n34 (UInt8.toNat_inj.1 h))
                        have e59 : ((c.toNat : Int) == 59) = false := beqF (k := 59) (fun h => n59 (UInt8.toNat_inj.1 h))
                        have e60 : ((c.toNat : Int) == 60) = false := beqF (k := 60) (fun h => n60 (UInt8.toNat_inj.1 h))
                        have e62 : ((c.toNat : Int) == 62) = false := beqF (k := 62) (fun h => n62 (UInt8.toNat_inj.1 h))
                        have e0 : ((c.toNat : Int) == 0) = false := beqF (k := 0) (fun h => n0 (UInt8.toNat_inj.1 h))
                        have e35 : ((c.toNat : Int) == 35) = false := beqF (k := 35) (fun h => n35 (UInt8.toNat_inj.1 h))
                        have e32 : ((c.toNat : Int) == 32) = false := beqF (k := 32) (fun h => n32 (UInt8.toNat_inj.1 h))
                        have HNX : Hid (rvF (r.length + 1) (den ++ [c]) false r = RV) := hid (by rw [show (c == 35) = false by simpa using n35, show (c == 32) = false by simpa using n32] at hR; exact hR)
                        clear hR hon hde hbad n44 n43 n92 n34 n59 n60 n62 n0 n35 n32
                        go_wp2_with (first | ((with_reducible refine K.atO (.binOp .neq 9 _ _ _) ?_); refine wpL_valZ rfl (.bool true) (by rw [← HS.out]; exact exec_neS _ _ _ rfl (c :: r) [] rfl rfl _) ?_) | ((with_reducible refine K.atO (.index 9 _ _) ?_); refine wpL_valZ rfl (.int .u8 (c.toNat : Int)) (by rw [← HS.out]; exact exec_idx _ _ rfl (c :: r) 0 c rfl 0 rfl rfl rfl _) ?_) | fail)
                        have hold : Facts.hold [] wr.drew := Facts.nil_hold _
                        refine wpD_region hold (by kernel_rfl) 9 rfl ?_
                        (refine wpD_plain 0 (v := ?_) rfl (by kernel_rfl) (by kernel_rfl) (by kernel_rfl) (fun _ _ _ h => h) (by rfl) ?_ (by assumption) ?_; rotate_left; (intro _w; go_simp; try with_reducible rfl); simp only [Act.put, K.put3])
                        (refine wpD_plain 1 (v := ?_) rfl (by kernel_rfl) (by kernel_rfl) (by kernel_rfl) (fun _ _ _ h => h) (by rfl) ?_ (by assumption) ?_; rotate_left; (intro _w; go_simp; try with_reducible rfl); simp only [Act.put, K.put3])
                        (refine wpD_plain 4 (v := ?_) rfl (by kernel_rfl) (by kernel_rfl) (by kernel_rfl) (fun _ _ _ h => h) (by rfl) ?_ (by assumption) ?_; rotate_left; (intro _w; go_simp; try with_reducible rfl); simp only [Act.put, K.put3])
                        (refine wpD_plain 5 (v := ?_) rfl (by kernel_rfl) (by kernel_rfl) (by kernel_rfl) (fun _ _ _ h => h) (by rfl) ?_ (by assumption) ?_; rotate_left; (intro _w; go_simp; try with_reducible rfl); simp only [Act.put, K.put3])
                        (refine wpD_plain 6 (v := (.string (sb r))) rfl (by kernel_rfl) (by kernel_rfl) (by kernel_rfl) (fun _ _ _ h => h) (by rfl) ?_ (by assumption) ?_; (intro _w; first | exact exec_from _ _ rfl (c :: r) 1 (by rw [HS.out]; rfl) rfl HD.out.1 _ HD.out.2 _w | exact exec_from _ _ rfl (c :: r) 1 (by rw [HS.out]; rfl) (by rfl) HD.out.1 _ HD.out.2 _w); simp only [Act.put, K.put3])
                        clear hold
                        refine wpD_only 2 [] rfl (by kernel_rfl) (by kernel_rfl) (by rfl) (fun K2 hK2 => ?_)
                        obtain ⟨ib, hib, hzb, hsb, hbb⟩ := Go.info_parts infoU
                        refine wp_buildOne 120 5 _ rfl ib _ Tryz.underlying120 hib hzb (by rw [hsb]; decide) (by rw [hsb]; decide) (.int .u8 (c.toNat : Int)) [.int .u8 (c.toNat : Int)] rfl rfl (by rw [hsb]; rfl) ?_
                        intro w3 HB3 HF3 HS3
                        refine hK2 _ _ (Facts.nil_hold _) ?_
                        clear hK2 K2 hib hzb hsb hbb
                        simp only [Act.put, K.put3]
                        have HO3 : Hid (OwR 5 1 w w3 (.slice va dl vc) dl (u8s den)) := hid (OwR.no HO.out ((Fr.refl No wr).drew.trans' HF3.out))
                        refine wpD_only 3 [] rfl (by kernel_rfl) (by kernel_rfl) (by rfl) (fun K3 hK3 => ?_)
                        refine wp_appR _ _ 120 5 rfl Tryz.underlying120 infoU rfl (by decide) HO3.out rfl wr.heap.size 1 1 _ rfl rfl HB3.out (by simp [Value.oneCell']) (by omega) (by omega) ?_
                        intro a4 c4 w4 HO4 HF4
                        refine hK3 _ _ (Facts.nil_hold _) ?_
                        clear hK3 K3
                        simp only [Act.put, K.put3]
                        have hold : Facts.hold [] w4 := Facts.nil_hold _
                        (refine wpD_plain 7 (v := ?_) rfl (by kernel_rfl) (by kernel_rfl) (by kernel_rfl) (fun _ _ _ h => h) (by rfl) ?_ (by assumption) ?_; rotate_left; (intro _w; go_simp; try with_reducible rfl); simp only [Act.put, K.put3])
                        (refine wpD_plain 8 (v := ?_) rfl (by kernel_rfl) (by kernel_rfl) (by kernel_rfl) (fun _ _ _ h => h) (by rfl) ?_ (by assumption) ?_; rotate_left; (intro _w; go_simp; try with_reducible rfl); simp only [Act.put, K.put3])
                        clear hold
                        refine wpD_done (by kernel_rfl) ?_ _
                        go_wp2_with fail
                        refine ⟨⟨r, den ++ [c], false, rfl, rfl, hid (by have := HLr.out; have := HDL.out; have := HD.out.2; rw [List.length_append]; simp; omega), hid ?_, HNX⟩, ?_⟩
                        · have h := HO4.out
                          rw [show (den ++ [c]).length = dl + 1 by rw [List.length_append, HDL.out]; rfl]
                          rwa [show u8s den ++ [Value.int .u8 (c.toNat : Int)] = u8s (den ++ [c]) by simp [u8s]] at h
                        · show (sb r).size < S.size
                          rw [← HS.out, sb_size, sb_size]
                          simp
end Go.Proofs.YtooodoacpdhbfaaGreatDoor.DN

namespace Go.Proofs.YtooodoacpdhbfaaGreatDoor.DN
set_option maxRecDepth 100000
open Go.RowKit K Go.Proofs.YtooodoacpdhbfaaGreatDoor.BE

theorem low_dec (p q : B) : decide (low p = low q) = (low p == low q) := by
  rw [Bool.eq_iff_iff]
  simp
set_option maxHeartbeats 4000000 in
theorem again_any (t u t0 u0 : B) (b : Nat) (w : World) (hb : Blk w b 71 [.string (sb t0), .string (sb u0)]) (h1 : Sz t) (h2 : Sz t0) :
    Calls Tryz.prog 117 #[.agg #[.string (sb t), .string (sb u)], .pointer (some ⟨b, 0, none⟩)] w fun e w' => e = .returned (.bool (low t == low t0)) ∧ Fr No w w' := by
  rw [← low_dec]
  have HB := hid hb; have H1 := hid h1; have H2 := hid h2
  clear hb h1 h2
  go_enter Tryz.func117, Tryz.ntmps117
  go_wp2_with (first
    | ((with_reducible refine K.atO (.box 71 _) ?_); refine wpL_box rfl _ _ rfl _ rfl [.string (sb t), .string (sb u)] rfl ?_; intro w1 HB1 HF1 HS1)
    | fail)
  obtain ⟨g, hg⟩ : ∃ g, w.heap.size = g := ⟨_, rfl⟩
  rw [hg] at HB1 ⊢
  have c0 : w1.cell? ⟨g, 0, none⟩ = some (.string (sb t)) := HB1.out.cell 0
  have c1 : w1.cell? ⟨b, 0, none⟩ = some (.string (sb t0)) := (HB.out.fr HF1.out id).cell 0
  have hold : Facts.hold [(1, fun w' => w'.cell? ⟨g, 0, none⟩ = some (.string (sb t))), (4, fun w' => w'.cell? ⟨b, 0, none⟩ = some (.string (sb t0)))] w1.drew := Facts.cons_hold c0 (Facts.cons_hold c1 (Facts.nil_hold _))
  refine wpD_region hold (by kernel_rfl) 8 rfl ?_
  (refine wpD_plain 0 (v := ?_) rfl (by kernel_rfl) (by kernel_rfl) (by kernel_rfl) (fun _ _ _ h => h) (by rfl) ?_ (by assumption) ?_; rotate_left; (intro _w; go_simp; try with_reducible rfl); simp only [Act.put, K.put3])
  (refine wpD_plain 3 (v := ?_) rfl (by kernel_rfl) (by kernel_rfl) (by kernel_rfl) (fun _ _ _ h => h) (by rfl) ?_ (by assumption) ?_; rotate_left; (intro _w; go_simp; try with_reducible rfl); simp only [Act.put, K.put3])
  (refine wpD_take 1 _ rfl (by kernel_rfl) (by kernel_rfl) (by kernel_rfl) (fun _ _ _ h => h) List.mem_cons_self (by rfl) (v := ?_) ?_ (by assumption) ?_; rotate_left; (intro _w _hw; go_simp; try with_reducible rfl); simp only [Act.put, K.put3])
  (refine wpD_take 4 _ rfl (by kernel_rfl) (by kernel_rfl) (by kernel_rfl) (fun _ _ _ h => h) (List.mem_cons_of_mem _ List.mem_cons_self) (by rfl) (v := ?_) ?_ (by assumption) ?_; rotate_left; (intro _w _hw; go_simp; try with_reducible rfl); simp only [Act.put, K.put3])
  clear hold
  refine wpD_only 2 [(4, fun w' => w'.cell? ⟨b, 0, none⟩ = some (.string (sb t0)))] rfl (by kernel_rfl) (by kernel_rfl) (by rfl) (fun K2 hK2 => ?_)
  refine wp_call _ _ _ rfl 70 [] rfl (fun vs w => by kernel_rfl) [.string (sb t)] (by rfl) ?_
  refine (lower_str t H1.out w1.drew).mono ?_
  rintro e w2 ⟨rfl, f2⟩
  have c12 : w2.cell? ⟨b, 0, none⟩ = some (.string (sb t0)) := f2.cell (show w1.drew.cell? _ = _ from c1) id
  have HF2 := hid (HF1.out.trans' ((Fr.refl No w1).drew.trans' f2))
  refine ⟨_, rfl, hK2 _ _ (Facts.cons_hold c12 (Facts.nil_hold _)) ?_⟩
  clear hK2 K2 f2
  simp only [Act.put, K.put3]
  refine wpD_only 5 [] rfl (by kernel_rfl) (by kernel_rfl) (by rfl) (fun K5 hK5 => ?_)
  refine wp_call _ _ _ rfl 70 [] rfl (fun vs w => by kernel_rfl) [.string (sb t0)] (by rfl) ?_
  refine (lower_str t0 H2.out w2).mono ?_
  rintro e w3 ⟨rfl, f3⟩
  have HF3 := hid (HF2.out.trans' f3)
  refine ⟨_, rfl, hK5 _ _ (Facts.nil_hold _) ?_⟩
  clear hK5 K5 f3
  simp only [Act.put, K.put3]
  have hold : Facts.hold [] w3 := Facts.nil_hold _
  (refine wpD_plain 6 (v := (.bool (decide (low t = low t0)))) rfl (by kernel_rfl) (by kernel_rfl) (by kernel_rfl) (fun _ _ _ h => h) (by rfl) ?_ (by assumption) ?_; (intro _w; exact exec_eqS _ _ _ rfl _ _ rfl rfl _w); simp only [Act.put, K.put3])
  (refine wpD_plain 7 (v := ?_) rfl (by kernel_rfl) (by kernel_rfl) (by kernel_rfl) (fun _ _ _ h => h) (by rfl) ?_ (by assumption) ?_; rotate_left; (intro _w; go_simp; try with_reducible rfl); simp only [Act.put, K.put3])
  clear hold
  refine wpD_done (by kernel_rfl) ?_ _
  go_wp2_with fail
  go_ret
  exact ⟨rfl, HF3.out⟩
theorem Sl.take {α : Type} {k : Nat} {p : α → List Value → Prop} {S : Nat → Prop} {w : World} {a : Option Addr} {len cap : Nat} {xs : List α} (h : Sl k p S w (.slice a len cap) xs) (i : Nat) (hi : i ≤ len) : Sl k p S w (.slice a i cap) (xs.take i) := by
  obtain ⟨a, c, h1, h2, h3, h4⟩ := h
  simp only [Value.slice.injEq] at h1
  obtain ⟨rfl, rfl, rfl⟩ := h1
  have hl : (xs.take i).length = i := by rw [List.length_take]; omega
  refine ⟨_, _, by rw [hl], by rw [hl]; omega, by rw [hl]; omega, ?_⟩
  by_cases h0 : xs.take i = []
  · exact .inl h0
  · right
    have hne : xs ≠ [] := fun e => h0 (by rw [e]; simp)
    obtain ⟨g, o, L, e, hS, hg, hr, hL, hc, hp⟩ := h4.resolve_left hne
    refine ⟨g, o, L.take i, e, hS, hg, ?_, by rw [List.length_take, hL, hl]; omega, fun c hcm => hc c (List.mem_of_mem_take hcm), fun j x c hx hcj => ?_⟩
    · intro j u hj
      refine hr j u ?_
      have hs : L.flatten = (L.take i).flatten ++ (L.drop i).flatten := by rw [← List.flatten_append, List.take_append_drop]
      rw [hs, List.getElem?_append_left (List.getElem?_eq_some_iff.1 hj).1]
      exact hj
    · have hji : j < i := by have := (List.getElem?_eq_some_iff.1 hx).1; omega
      rw [List.getElem?_take, if_pos hji] at hx hcj
      exact hp j x c hx hcj
set_option maxHeartbeats 4000000 in
theorem isWrong_any (E : Nat → Prop) (v : Value) (r : Rd) (w : World) (h : RdIn E w v r) : Calls Tryz.prog 81 #[v] w fun e w' => e = .returned (.bool (!okStep r)) ∧ Fr No w w' := by
  obtain ⟨a, cp, rfl, hcp, hl0⟩ := h.form
  have HX := hid h
  obtain ⟨n, hn⟩ : ∃ n, r.length = n := ⟨_, rfl⟩
  obtain ⟨R, hR⟩ : ∃ R, (!okStep r) = R := ⟨_, rfl⟩
  rw [hR]
  rw [hn] at HX hl0 hcp ⊢
  have HNN := hid hn
  by_cases h0 : n = 0 ∨ 4 < n
  · have hRt : R = true := by
      rw [← hR]
      unfold okStep
      rcases h0 with h0 | h0
      · rw [decide_eq_false (show ¬ 1 ≤ r.length by omega)]; rfl
      · rw [decide_eq_false (show ¬ r.length ≤ 4 by omega)]; simp
    subst hRt
    rcases h0 with rfl | h0
    · clear hR hn h
      go_enter Tryz.func81, Tryz.ntmps81
      go_wp2
      go_ret
      exact ⟨rfl, Fr.refl _ _⟩
    · have h1 : (4 : Int) < n := by omega
      have h2 : ¬ (n : Int) = 0 := by omega
      clear hR hn h h0
      go_enter Tryz.func81, Tryz.ntmps81
      go_wp2
      go_ret
      exact ⟨rfl, Fr.refl _ _⟩
  · have hRt : (!typs [] r) = R := by
      rw [← hR]
      unfold okStep
      rw [decide_eq_true (show 1 ≤ r.length by omega), decide_eq_true (show r.length ≤ 4 by omega)]
      rfl
    have HRT : Hid ((!typs (r.take 0) (r.drop 0)) = R) := hid hRt
    have h1 : ¬ (4 : Int) < n := by omega
    have h2 : ¬ (n : Int) = 0 := by omega
    have h4 : (n : Int) ≤ 4 := by omega
    have hcpi : (n : Int) ≤ cp := by omega
    clear hR hRt hn h h0
    go_enter Tryz.func81, Tryz.ntmps81
    go_wp2_with fail
    go_loopw [16] (fun iv wr => ∃ (i : Nat), iv = .int .i64 i ∧ i ≤ n ∧ Hid (Fr No w wr) ∧ Hid ((!typs (r.take i) (r.drop i)) = R)) (fun iv _ => n - (intOf iv).toNat)
    case atStart => exact ⟨0, rfl, Nat.zero_le _, hid (Fr.refl _ _), HRT⟩
    case round =>
      obtain ⟨i, rfl, hi, HF, HT⟩ := hrel
      by_cases hlt : i < n
      · obtain ⟨x, hx⟩ : ∃ x, r[i]? = some x := ⟨_, List.getElem?_eq_getElem (by rw [HNN.out]; exact hlt)⟩
        have hlti : (i : Int) < n := by omega
        have hi0 : (0 : Int) ≤ i := by omega
        have hicp : (i : Int) ≤ cp := by omega
        obtain ⟨g, o, cq, c, e1, -, hgw, hrr, hc, hxa⟩ := (RdIn.no HX.out HF.out).get hx
        rw [HNN.out] at e1
        simp only [Value.slice.injEq, true_and] at e1
        obtain ⟨rfl, rfl⟩ := e1
        obtain ⟨rfl, hs1, hs2⟩ := hxa
        have HRR := hid hrr; have HS1 := hid hs1
        have hdrop : r.drop i = x :: r.drop (i + 1) := by
          have hl : i < r.length := by rw [HNN.out]; exact hlt
          rw [List.drop_eq_getElem_cons hl]
          rw [List.getElem?_eq_getElem hl] at hx
          rw [Option.some.inj hx]
        have htake : r.take (i + 1) = r.take i ++ [x] := by rw [List.take_add_one, hx]; rfl
        have HT2 : Hid ((!(typ x.1 && !dup (r.take i) x.1 && typs (r.take (i + 1)) (r.drop (i + 1)))) = R) := hid (by
          have h := HT.out
          rw [hdrop] at h
          rw [htake]
          exact h)
        have HLT := hid hlt
        have HSUB : Hid (∀ w', Fr No w w' → Sl 2 AvC E w' (.slice (some ⟨g, o, none⟩) i cp) (r.take i)) := hid (fun w' hf => Sl.take (RdIn.no HX.out hf) i (Nat.le_of_lt HLT.out))
        clear hc hgw hrr hs1 hs2 hx hdrop htake HT hi hlt
        go_wp2_with (first
          | ((with_reducible refine K.atO (.load 71 _) ?_); refine wpL_load rfl _ _ rfl g (o + i * 2) rfl [.string (sb x.1), .string (sb x.2)] _ HRR.out rfl rfl infoAv ?_)
          | ((with_reducible refine K.atO (.alloc 71) ?_); refine wpList_plain rfl fun K1 hK1 => ?_; refine wp_alloc 71 rfl (.agg #[.string ⟨#[]⟩, .string ⟨#[]⟩]) (fun _ => by kernel_rfl) [.string ⟨#[]⟩, .string ⟨#[]⟩] rfl ?_; intro w2 HB2 HF2 HS2; refine hK1 _ _ ?_; clear hK1 K1)
          | ((with_reducible refine K.atO (.store 71 _ _) ?_); refine wpL_store rfl _ _ _ rfl wr.heap.size 0 [.string (sb x.1), .string (sb x.2)] rfl rfl 71 _ HB2.out (by simp) infoAv (by simp [Value.oneCell']) ?_; intro w3 HB3 HF3 HS3;
              (have hcell3 : w3.cell? ⟨wr.heap.size, 0, none⟩ = some (.string (sb x.1)) := HB3.out.cell 0))
          | fail)
        have HFR3 : Hid (Fr No wr w3) := hid (HF2.out.trans HF3.out fun k e => .inr (by have e : k = wr.heap.size := e; omega))
        have HBK : Hid (Blk w3 wr.heap.size 71 [.string (sb x.1), .string (sb x.2)]) := hid (by simpa [spl] using HB3.out)
        refine (type_any x.1 w3).mono ?_
        rintro e w4 ⟨rfl, f4⟩
        have HFR4 := hid (HF.out.trans' (HFR3.out.trans' f4))
        have HBK4 := hid (HBK.out.fr f4 id)
        clear f4 hcell3
        cases ht : typ x.1 with
        | false =>
          have hRf : R = true := by have h := HT2.out; rw [ht] at h; exact h.symm
          subst hRf
          clear ht
          go_wp2_with fail
          go_ret
          exact ⟨rfl, HFR4.out⟩
        | true =>
          obtain ⟨b, hb⟩ : ∃ b, wr.heap.size = b := ⟨_, rfl⟩
          rw [hb] at HBK4 ⊢
          have HC := hid (containsAv (α := Av) 117 [.pointer (some ⟨b, 0, none⟩)] (fun a => low a.1 == low x.1) (fun w' a c => AvC a c ∧ Blk w' b 71 [.string (sb x.1), .string (sb x.2)]) E (.slice (some ⟨g, o, none⟩) i cp) (r.take i) w4
            (fun w w' a c h hf => ⟨h.1, h.2.fr hf id⟩) (Sl.fr (HSUB.out w4 HFR4.out) (Fr.refl No w4) (fun _ _ _ e => e) (fun a c _ h => ⟨h, HBK4.out⟩)) (fun _ _ => by kernel_rfl)
            (fun a _ c wv hp _ => by
              obtain ⟨⟨rfl, hz1, -⟩, hbk⟩ := hp
              exact again_any a.1 a.2 x.1 x.2 b wv hbk hz1 HS1.out))
          clear hb
          go_wp2_with fail
          refine HC.out.mono ?_
          rintro e w5 ⟨rfl, f5⟩
          have HFR5 := hid (HFR4.out.trans' f5)
          clear f5
          cases hd : dup (r.take i) x.1 with
          | true =>
            have hRf : R = true := by have h := HT2.out; rw [ht, hd] at h; exact h.symm
            subst hRf
            have hd2 : ((r.take i).any fun a => low a.1 == low x.1) = true := hd
            rw [hd2]
            clear ht hd hd2
            go_wp2_with fail
            go_ret
            exact ⟨rfl, HFR5.out⟩
          | false =>
            have HT3 : Hid ((!typs (r.take (i + 1)) (r.drop (i + 1))) = R) := hid (by have h := HT2.out; rw [ht, hd] at h; exact h)
            have hd2 : ((r.take i).any fun a => low a.1 == low x.1) = false := hd
            rw [hd2]
            clear ht hd hd2
            go_wp2_with fail
            refine ⟨⟨i + 1, by go_num, HLT.out, HFR5, HT3⟩, ?_⟩
            have := HLT.out
            simp [intOf]; omega
      · obtain rfl : i = n := by omega
        have hRf : R = false := by
          have h := HT.out
          rw [← HNN.out, List.drop_length] at h
          exact h.symm
        subst hRf
        go_wp2_with fail
        go_ret
        exact ⟨rfl, HF.out⟩
theorem isBuilt_any (E : Nat → Prop) (v : Value) (n : Nm) (w : World) (h : NmIn E w v n) : Calls Tryz.prog 39 #[v] w fun e w' => e = .returned (.bool (built n)) ∧ Fr No w w' := by
  have HC := hid (containsRd (α := Rd) 81 [] (fun r => !okStep r) (fun w' r v => RdIn E w' v r) E v n w (fun w w' r v h hf => h.no hf) h (fun _ _ => by kernel_rfl)
    (fun r _ v wv hp _ => isWrong_any E v r wv hp))
  have hany : (n.any fun r => !okStep r) = !n.all okStep := by
    rw [List.all_eq_not_any_not]
    simp
  rw [hany] at HC
  obtain ⟨a, cp, rfl, -, hl0⟩ := h.form
  obtain ⟨m, hm⟩ : ∃ m, n.length = m := ⟨_, rfl⟩
  unfold built
  rw [hm] at HC ⊢
  clear h hany hm
  by_cases h16 : m ≤ 16
  · rw [decide_eq_true h16]
    have h1 : (m : Int) ≤ 16 := by omega
    clear h16
    go_enter Tryz.func39, Tryz.ntmps39
    go_wp2_with fail
    refine HC.out.mono ?_
    rintro e w1 ⟨rfl, f1⟩
    have HF := hid f1
    clear f1
    cases hq : n.all okStep with
    | true =>
      have HQ := hid hq
      clear hq
      go_wp2_with fail
      go_ret
      exact ⟨by rw [HQ.out]; rfl, HF.out⟩
    | false =>
      have HQ := hid hq
      clear hq
      go_wp2_with fail
      go_ret
      exact ⟨by rw [HQ.out]; rfl, HF.out⟩
  · rw [decide_eq_false h16]
    have h1 : ¬ (m : Int) ≤ 16 := by omega
    clear h16 HC
    go_enter Tryz.func39, Tryz.ntmps39
    go_wp2
    go_ret
    exact ⟨rfl, Fr.refl _ _⟩
end Go.Proofs.YtooodoacpdhbfaaGreatDoor.DN
