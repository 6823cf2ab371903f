/-
  Part 40 of the proof: StAw, StRc.
-/
import Derived.Test.YtflfmkokfbgclaaGreatRc35
import Derived.Test.YtflfmkokfbgclaaGreatRc37
import Derived.Test.YtflfmkokfbgclaaGreatRc39
set_option linter.unusedSimpArgs false
set_option linter.unusedVariables false
namespace Go.Proofs.YtflfmkokfbgclaaGreat.ST
set_option maxRecDepth 100000
open Go.RowKit K L

theorem buildA (w : World) : (Instr.build 55 #[(0, .string ⟨#[97]⟩), (1, .string ⟨#[49]⟩)]).run Tryz.prog w = .ok chA.agg w := by kernel_rfl
theorem buildB (w : World) : (Instr.build 55 #[(0, .string ⟨#[98]⟩), (1, .string ⟨#[50]⟩)]).run Tryz.prog w = .ok chB.agg w := by kernel_rfl
theorem buildG (w : World) : (Instr.build 55 #[(0, .string ⟨#[97]⟩), (2, .bool true)]).run Tryz.prog w = .ok chG.agg w := by kernel_rfl
theorem buildCc (w : World) : (Instr.build 55 #[(0, .string ⟨#[99]⟩), (1, .string ⟨#[51]⟩)]).run Tryz.prog w = .ok chC.agg w := by kernel_rfl
theorem buildE (w : World) : (Instr.build 55 #[(1, .string ⟨#[49]⟩)]).run Tryz.prog w = .ok chE.agg w := by kernel_rfl
/-- The blocks of a list of changes that a law has laid. -/
theorem chin_new {w' : World} {xs : List Ch} {b : Nat} {t : TypeId} (hB : Blk w' b t (chs xs)) (n : Nat) (hn : xs.length = n) : ChIn w' (fun k => k = b) (.slice (some ⟨b, 0, none⟩) n n) xs :=
  ⟨_, n, by rw [hn], .inr ⟨b, 0, rfl, rfl, hB.lt, hB.range 0 _ (by rw [List.drop_zero, List.take_length])⟩⟩
theorem crash_nil (w : World) (E : Nat → Prop) : D.BoolsIn w E (.slice none 0 0) [] := ⟨_, _, _, rfl, rfl, .inl rfl⟩
theorem stp_at {W w w' : World} {b bd : Nat} {O : Nat → Prop} {p : Int × Sd} {c : Int} {e : Ending} (h : StP W w b bd O p e w') (hc : p.1 = c) : e = .returned (.int .i64 c) ∧ ∃ O', Sto W w' b bd O' p.2 ∧ Fr O w w' ∧ Grows w O O' := by
  obtain ⟨h1, h2⟩ := h
  rw [hc] at h1
  exact ⟨h1, h2⟩
theorem frN {W w w' : World} {b bd : Nat} {O : Nat → Prop} {s : Sd} (h : Fr No W w) (hS : Sto W w b bd O s) (hF : Fr O w w') : Fr No W w' := h.trans hF (fun k hk => .inr (hS.ow k hk).1)
theorem outsS {W w : World} {b bd : Nat} {O : Nat → Prop} {s : Sd} (hS : Sto W w b bd O s) {k : Nat} (hk : w.heap.size ≤ k) : ¬ O k := fun e => by have := (hS.ow k e).2; omega
set_option maxHeartbeats 16000000 in
theorem awake_any (w : World) : Calls Tryz.prog 7 #[] w fun e w' => e = .returned (.bool true) ∧ Fr No w w' := by
  obtain ⟨ic, hic, hzc, hsc, hbc⟩ := Go.info_parts infozCh
  have IC := hid hic; have ZC := hid hzc; have SC := hid hsc
  clear hic hzc hsc hbc
  go_enter Tryz.func7, Tryz.ntmps7
  go_wp2_with fail
  refine (dnew_any 40 w (by decide) (by decide)).mono ?_
  rintro e w1 ⟨bd, Z, rfl, hd, hz, f1⟩
  have HD1 := hid hd; have HZ := hid hz; have HF1 := hid f1
  clear hd hz f1
  go_wp2_with fail
  refine (open_any w HD1.out (by decide) HF1.out HZ.out).mono ?_
  intro e w2 ho
  rw [show openS (U.new 40) = (0, q0.2.1, some (sd q0)) from is_sd e0] at ho
  obtain ⟨b0, O0, rfl, hS, hF, hG⟩ := ho
  have HS2 := hid hS
  have HF2 : Hid (Fr No w w2) := hid (HF1.out.trans hF (fun k hk => .inr (HZ.out k hk)))
  clear hS hF hG HD1
  obtain ⟨bg2, c1, hroom⟩ := HS2.out.room
  have HRM := hid (hroom w2 (Fr.refl _ _))
  clear hroom
  go_wp2_with fail
  refine HRM.out.mono ?_
  rintro e w3 ⟨rfl, f3⟩
  rw [e0m]
  have HS3 := hid (HS2.out.no f3)
  have HF3 := hid (HF2.out.trans' f3)
  clear f3 c1 HRM HS2 HF2
  have hbA := buildA; have hbB := buildB; have hbG := buildG; have hbC := buildCc; have hbE := buildE
  go_wp2_with (first
    | ((with_reducible show wpList _ _ _ (⟨_, .buildSlice 22 _ _, _, _, _, _⟩ :: _) _ _); refine wpL_buildTwo rfl _ 55 _ _ rfl ic _ rfl IC.out ZC.out (by rw [SC.out]; decide) (by rw [SC.out]; decide) chA.agg chB.agg chA.cells chB.cells rfl rfl rfl rfl (by rw [SC.out]; rfl) (by rw [SC.out]; rfl) ?_; intro w4 HB4 F4 HS4)
    | fail)
  have HS4' := hid (HS3.out.no F4.out)
  have HF4 := hid (HF3.out.trans' F4.out)
  refine (commit_any _ [chA, chB] _ HS4'.out (chin_new (xs := [chA, chB]) HB4.out 2 rfl) ⟨_, _, rfl, Nat.le_refl _⟩ (fun k hk => ⟨outsS HS3.out (by have e' : k = w3.heap.size := hk; omega), by have e' : k = w3.heap.size := hk; have := HB4.out.lt; omega⟩) (by intro y hy; simp at hy; rcases hy with rfl | rfl <;> decide) (by decide) (by rw [e0p.1]; decide) (by rw [e0p.2.1]; decide) (by rw [e0p.2.2]; decide)).mono ?_
  intro e w5 hst
  obtain ⟨rfl, O5, hS, hF, -⟩ := stp_at hst e1
  have HS5 : Hid (Sto w w5 b0 bd O5 q1.2) := hid hS
  have HF5 := hid (frN (w' := w5) HF4.out HS4'.out hF)
  clear hst hS hF HB4 F4 HS4 HS4' HS3 HF3 HF4
  go_wp2_with (first
    | ((with_reducible show wpList _ _ _ (⟨_, .buildSlice 22 _ _, _, _, _, _⟩ :: _) _ _); refine wpL_buildTwo rfl _ 55 _ _ rfl ic _ rfl IC.out ZC.out (by rw [SC.out]; decide) (by rw [SC.out]; decide) chG.agg chC.agg chG.cells chC.cells rfl rfl rfl rfl (by rw [SC.out]; rfl) (by rw [SC.out]; rfl) ?_; intro w6 HB6 F6 HS6)
    | fail)
  have HS6' := hid (HS5.out.no F6.out)
  have HF6 := hid (HF5.out.trans' F6.out)
  refine (commit_any _ [chG, chC] _ HS6'.out (chin_new (xs := [chG, chC]) HB6.out 2 rfl) ⟨_, _, rfl, Nat.le_refl _⟩ (fun k hk => ⟨outsS HS5.out (by have e' : k = w5.heap.size := hk; omega), by have e' : k = w5.heap.size := hk; have := HB6.out.lt; omega⟩) (by intro y hy; simp at hy; rcases hy with rfl | rfl <;> decide) (by decide) (by rw [e1p.1]; decide) (by rw [e1p.2.1]; decide) (by rw [e1p.2.2]; decide)).mono ?_
  intro e w7 hst
  obtain ⟨rfl, O7, hS, hF, -⟩ := stp_at hst e2
  have HS7 : Hid (Sto w w7 b0 bd O7 q2.2) := hid hS
  have HF7 := hid (frN (w' := w7) HF6.out HS6'.out hF)
  clear hst hS hF HB6 F6 HS6 HS6' HS5 HF5 HF6
  obtain ⟨Z7, hd7, hz7⟩ := HS7.out.disk
  have HD7 := hid hd7
  have HZ7 := hid (fun k (hk : Z7 k) => (HS7.out.ow k (hz7 k hk)).1)
  clear hd7 hz7 HS7
  go_wp2_with fail
  refine (dcrash_any (.slice none 0 0) [] No (crash_nil _ _) (fun _ h => h.elim) (by decide) HD7.out).mono ?_
  rintro e w8 ⟨rfl, hd, hf⟩
  have HD8 : Hid (Dk w8 bd Z7 u3) := hid hd
  have HF8 := hid (HF7.out.trans hf (fun k hk => .inr (HZ7.out k hk)))
  clear hd hf HD7 HF7
  go_wp2_with fail
  refine (open_any w HD8.out (by rw [e3u]; decide) HF8.out HZ7.out).mono ?_
  intro e w9 ho
  rw [show openS u3 = (0, q3.2.1, some (sd q3)) from is_sd e3] at ho
  obtain ⟨b3, O9, rfl, hS, hF, -⟩ := ho
  have HS9 := hid hS
  have HF9 := hid (HF8.out.trans hF (fun k hk => .inr (HZ7.out k hk)))
  clear hS hF HD8 HF8 HZ7
  go_wp2_with fail
  refine (all_any HS9.out (by rw [e3p.2.2]; decide)).mono ?_
  rintro e w10 ⟨pv, rfl, hp, f10⟩
  rw [e3l] at hp
  obtain ⟨pa, pc, rfl, hp⟩ := hp
  obtain ⟨gp, rfl, hr, hg1, hg2⟩ : ∃ g, pa = some ⟨g, 0, none⟩ ∧ w10.rangeAt g 0 (TR.pcs bcL) ∧ w9.heap.size ≤ g ∧ g < w10.heap.size := hp.elim (fun e => by cases e) id
  have HP10 := hid hr
  have HS10 := hid (HS9.out.no f10)
  have HF10 := hid (HF9.out.trans' f10)
  have HO10 := hid (outsS HS9.out hg1)
  have HGW := hid (And.intro (show w.heap.size ≤ gp by have := HF9.out.size; omega) hg2)
  rw [show bcL.length = 2 from rfl]
  clear hr hg1 hg2 hp f10 HS9 HF9
  go_wp2_with fail
  refine (checkpoint_any HS10.out (by rw [e3p.1]; decide) (by rw [e3p.2.1]; decide) (by rw [e3p.2.2]; decide)).mono ?_
  intro e w11 hst
  obtain ⟨rfl, O11, hS, hF, hG⟩ := stp_at hst e4
  have HS11 : Hid (Sto w w11 b3 bd O11 q4.2) := hid hS
  have HF11 := hid (frN (w' := w11) HF10.out HS10.out hF)
  have HP11 := hid (hF.range HP10.out HO10.out)
  have HO11 := hid (show ¬ O11 gp from fun e => (hG gp e).elim HO10.out (fun hge => by have := HGW.out.2; omega))
  have HG11 := hid (Nat.lt_of_lt_of_le HGW.out.2 hF.size)
  clear hst hS hF hG HS10 HF10 HP10 HO10
  go_wp2_with fail
  refine (epoch_any HS11.out).mono ?_
  rintro e w' ⟨rfl, rfl⟩
  rw [e4r]
  obtain ⟨bg11, c1, hroom⟩ := HS11.out.room
  have HRM := hid (hroom w11 (Fr.refl _ _))
  clear hroom
  go_wp2_with fail
  refine HRM.out.mono ?_
  rintro e w12 ⟨rfl, f12⟩
  rw [e4m]
  have HS12 := hid (HS11.out.no f12)
  have HF12 := hid (HF11.out.trans' f12)
  have HP12 := hid (f12.range HP11.out id)
  have HG12 := hid (Nat.lt_of_lt_of_le HG11.out f12.size)
  clear f12 c1 HRM HS11 HF11 HP11 HG11
  obtain ⟨Z12, hd12, hz12⟩ := HS12.out.disk
  have HD12 := hid hd12
  have HZ12 := hid (fun k (hk : Z12 k) => (HS12.out.ow k (hz12 k hk)).1)
  have HZP := hid (show ¬ Z12 gp from fun e => HO11.out (hz12 gp e))
  clear hd12 hz12 HS12 HO11
  go_wp2_with fail
  refine (dcrash_any (.slice none 0 0) [] No (crash_nil _ _) (fun _ h => h.elim) (by decide) HD12.out).mono ?_
  rintro e w13 ⟨rfl, hd, hf⟩
  have HD13 : Hid (Dk w13 bd Z12 u5) := hid hd
  have HF13 := hid (HF12.out.trans hf (fun k hk => .inr (HZ12.out k hk)))
  have HP13 := hid (hf.range HP12.out HZP.out)
  have HG13 := hid (Nat.lt_of_lt_of_le HG12.out hf.size)
  clear hd hf HD12 HF12 HP12 HG12
  go_wp2_with fail
  refine (open_any w HD13.out (by rw [e5u]; decide) HF13.out HZ12.out).mono ?_
  intro e w14 ho
  rw [show openS u5 = (0, q5.2.1, some (sd q5)) from is_sd e5] at ho
  obtain ⟨b5, O14, rfl, hS, hF, hG⟩ := ho
  have HS14 := hid hS
  have HF14 := hid (HF13.out.trans hF (fun k hk => .inr (HZ12.out k hk)))
  have HP14 := hid (hF.range HP13.out HZP.out)
  have HO14 := hid (show ¬ O14 gp from fun e => (hG gp e).elim HZP.out (fun hge => by have := HG13.out; omega))
  clear hS hF hG HD13 HF13 HZ12 HP13
  go_wp2_with fail
  refine (all_any HS14.out (by rw [e5p.2.2]; decide)).mono ?_
  rintro e w15 ⟨qv, rfl, hq, f15⟩
  rw [e5l] at hq
  have HQ15 := hid hq.pr
  have HS15 := hid (HS14.out.no f15)
  have HF15 := hid (HF14.out.trans' f15)
  have HP15 := hid (f15.range HP14.out id)
  obtain ⟨qa, qc, rfl, -⟩ := hq
  rw [show bcL.length = 2 from rfl] at HQ15 ⊢
  clear f15 HS14 HF14 HP14
  go_wp2_with fail
  refine (TR.same_any w15 _ _ bcL bcL (show TR.PR w15 (.slice (some ⟨gp, 0, none⟩) 2 pc) bcL from ⟨_, _, rfl, .inr ⟨gp, 0, rfl, HP15.out⟩⟩) HQ15.out (by decide) (by decide)).mono ?_
  rintro e w16 ⟨rfl, f16⟩
  rw [show decide (bcL = bcL) = true from decide_eq_true rfl]
  have HS16 := hid (HS15.out.no f16)
  have HF16 := hid (HF15.out.trans' f16)
  have HP16 := hid (f16.range HP15.out id)
  clear f16 HS15 HF15 HP15 HQ15
  go_wp2_with (first
    | ((with_reducible show wpList _ _ _ (⟨_, .buildSlice 22 _ _, _, _, _, _⟩ :: _) _ _); refine wpL_buildOne rfl _ 55 _ rfl ic _ rfl IC.out ZC.out (by rw [SC.out]; decide) (by rw [SC.out]; decide) chE.agg chE.cells rfl rfl (by rw [SC.out]; rfl) ?_; intro w17 HB17 F17 HS17)
    | fail)
  have HS17' := hid (HS16.out.no F17.out)
  have HF17 := hid (HF16.out.trans' F17.out)
  have HP17 := hid (F17.out.range HP16.out id)
  refine (commit_any _ [chE] _ HS17'.out (chin_new (xs := [chE]) HB17.out 1 rfl) ⟨_, _, rfl, Nat.le_refl _⟩ (fun k hk => ⟨outsS HS16.out (by have e' : k = w16.heap.size := hk; omega), by have e' : k = w16.heap.size := hk; have := HB17.out.lt; omega⟩) (by intro y hy; simp at hy; rcases hy with rfl <;> decide) (by decide) (by rw [e5p.1]; decide) (by rw [e5p.2.1]; decide) (by rw [e5p.2.2]; decide)).mono ?_
  intro e w18 hst
  obtain ⟨rfl, O18, hS, hF, -⟩ := stp_at hst e6
  have HF18 := hid (frN (w' := w18) HF17.out HS17'.out hF)
  have HP18 := hid (hF.range HP17.out HO14.out)
  clear hst hS hF HB17 F17 HS17 HS17' HF17 HP17 HS16 HF16 HP16
  go_wp2_with (first
    | ((with_reducible show wpList _ _ _ (⟨_, .buildSlice 22 _ _, _, _, _, _⟩ :: _) _ _); refine wpL_buildOne rfl _ 55 _ rfl ic _ rfl IC.out ZC.out (by rw [SC.out]; decide) (by rw [SC.out]; decide) chA.agg chA.cells rfl rfl (by rw [SC.out]; rfl) ?_; intro w19 HB19 F19 HS19)
    | fail)
  have HF19 := hid (HF18.out.trans' F19.out)
  have HP19 := hid (F19.out.range HP18.out id)
  refine (encode_any _ [chA] _ w19 (chin_new (xs := [chA]) HB19.out 1 rfl) (by intro y hy; simp at hy; rcases hy with rfl <;> decide) (by decide)).mono ?_
  rintro e w20 ⟨rfl, f20⟩
  rw [eA]
  have HF20 := hid (HF19.out.trans' f20)
  have HP20 := hid (f20.range HP19.out id)
  clear f20 HB19 F19 HS19 HF19 HP19
  rw [show L.str [0, 1, 1, 0, 97, 49] = Value.string ⟨#[0, 1, 1, 0, 97, 49]⟩ from rfl]
  have p0 : w20.cell? ⟨gp, 0, none⟩ = some (.string ⟨#[98]⟩) := HP20.out 0 _ rfl
  have p1 : w20.cell? ⟨gp, 1, none⟩ = some (.string ⟨#[50]⟩) := HP20.out 1 _ rfl
  have p2 : w20.cell? ⟨gp, 2, none⟩ = some (.string ⟨#[99]⟩) := HP20.out 2 _ rfl
  have p3 : w20.cell? ⟨gp, 3, none⟩ = some (.string ⟨#[51]⟩) := HP20.out 3 _ rfl
  clear hbA hbB hbG hbC hbE
  go_wp2_with (first
    | ((with_reducible show wpList _ _ _ (⟨_, .binOp .eql 71 _ _ _, _, _, _, _⟩ :: _) _ _); refine wpL_valZ rfl (.bool true) (by kernel_rfl) ?_)
    | fail)
  go_ret
  exact ⟨rfl, HF20.out⟩
end Go.Proofs.YtflfmkokfbgclaaGreat.ST

namespace Go.Proofs.YtflfmkokfbgclaaGreat.ST
set_option maxRecDepth 100000
open Go.RowKit K L

theorem sub_EC {w w' : World} {E : Nat → Prop} {v : Value} {xs : List Ch} (h : ChIn w E v xs) (f : Fr No w w') : ChIn w' E v xs := h.fr f (fun _ _ _ e => e)
theorem chg_len : ∀ (n : Nat) (s : S) (acc xs : List Ch), chgG n s acc = some xs → acc.length ≤ xs.length
  | 0, _, acc, xs, h => by simp only [chgG, Option.some.injEq] at h; rw [h]; exact Nat.le_refl _
  | n + 1, s, acc, xs, h => by
    unfold chgG at h
    split at h
    · simp only [Option.some.injEq] at h; rw [h]; exact Nat.le_refl _
    · split at h
      · cases h
      · have := chg_len n _ _ _ h
        simp only [List.length_append, List.length_cons, List.length_nil] at this
        omega
def few : Option (List Ch) → Option (List Ch)
  | none => none
  | some xs => if 32 < xs.length then none else some xs
theorem decG_chg : ∀ (n : Nat) (s : S) (acc : List Ch), acc.length ≤ 32 → s.size < n → decG n s acc = few (chgG n s acc)
  | 0, s, _, _, h => by omega
  | n + 1, s, acc, ha, hn => by
    unfold decG chgG
    by_cases h0 : s.size = 0
    · rw [if_pos h0, if_pos h0]
      have h3 : ¬ 32 < acc.length := by omega
      simp [few, h3]
    · rw [if_neg h0, if_neg h0]
      cases hc : cutS s with
      | none => rfl
      | some p =>
        obtain ⟨c, r⟩ := p
        have hlt := cut_less hc
        simp only
        by_cases h32 : acc.length = 32
        · rw [if_pos h32]
          cases hg : chgG n r (acc ++ [c]) with
          | none => rfl
          | some xs =>
            have := chg_len _ _ _ _ hg
            simp only [List.length_append, List.length_cons, List.length_nil] at this
            have h3 : 32 < xs.length := by omega
            simp [few, h3]
        · rw [if_neg h32]
          exact decG_chg n r _ (by simp; omega) (by omega)
theorem decS_chg (s : S) : decS s = if 2000 < s.size then none else few (chgS s) := by
  unfold decS chgS
  by_cases h : 2000 < s.size
  · rw [if_pos h, if_pos h]
  · rw [if_neg h, if_neg h, decG_chg _ _ _ (by simp) (Nat.lt_succ_self _)]
set_option maxHeartbeats 8000000 in
theorem rdecode_any (s : S) (w : World) (hs : s.size ≤ 1048576) : Calls Tryz.prog 12 #[.string s] w (Decoded w (decS s)) := by
  have hsi : (s.size : Int) ≤ 1048576 := by omega
  obtain ⟨r, hr⟩ : ∃ r, decS s = r := ⟨_, rfl⟩
  have HR : Hid ((if 2000 < s.size then none else few (chgS s)) = r) := hid (by rw [← decS_chg, hr])
  have HS := hid hs
  rw [hr]
  clear hr hs
  go_enter Tryz.func12, Tryz.ntmps12
  go_wp2_with fail
  refine (rchanges_any s w HS.out).mono ?_
  intro e w1 hc
  cases hq : chgS s with
  | none =>
    rw [hq] at hc
    obtain ⟨rfl, f1⟩ := hc
    have HRN : Hid (r = none) := hid (by rw [← HR.out, hq]; split <;> rfl)
    have HF := hid f1
    clear f1 hq
    go_wp2_with fail
    go_ret2
    rw [HRN.out]
    exact ⟨_, rfl, World.ownsRow_nil _ _ _ _, HF.out⟩
  | some xs =>
    rw [hq] at hc
    obtain ⟨a, c, rfl, ho, f1⟩ := hc
    have HO := hid ho; have HF := hid f1
    have HRQ : Hid ((if 2000 < s.size then none else if 32 < xs.length then none else some xs) = r) := hid (by rw [← HR.out, hq]; rfl)
    clear f1 ho hq
    by_cases h2 : 2000 < s.size
    · have h2i : (2000 : Int) < s.size := by omega
      have HRN : Hid (r = none) := hid (by rw [← HRQ.out, if_pos h2])
      clear h2
      go_wp2_with fail
      go_ret2
      rw [HRN.out]
      exact ⟨_, rfl, World.ownsRow_nil _ _ _ _, HF.out⟩
    · have h2i : ¬ (2000 : Int) < s.size := by omega
      by_cases h3 : 32 < xs.length
      · have h3i : (32 : Int) < xs.length := by omega
        have HRN : Hid (r = none) := hid (by rw [← HRQ.out, if_neg h2, if_pos h3])
        clear h2 h3
        go_wp2_with fail
        go_ret2
        rw [HRN.out]
        exact ⟨_, rfl, World.ownsRow_nil _ _ _ _, HF.out⟩
      · have h3i : ¬ (32 : Int) < xs.length := by omega
        have HRN : Hid (r = some xs) := hid (by rw [← HRQ.out, if_neg h2, if_neg h3])
        clear h2 h3
        go_wp2_with fail
        go_ret2
        rw [HRN.out]
        exact ⟨_, rfl, HO.out, HF.out⟩
section
variable {w : World}
set_option maxHeartbeats 32000000 in
theorem storeRecords_arg (w : World) (v : Value) (xs : List Ch) (s : S) (h : ChArg w v xs) (hs : s.size ≤ 1048576) : Calls Tryz.prog 3 #[v, .string s] w fun e w' => e = .returned (.bool true) ∧ Fr No w w' := by
  obtain ⟨a, c, rfl, hc, hlen, hsm, hx⟩ := h
  have HX := hid hx; have HSM : Hid (∀ x ∈ xs, x.key.size ≤ 140737488351232 ∧ x.value.size ≤ 140737488351232) := hid hsm; have HLEN := hid hlen; have HS := hid hs
  have HDE := hid (@dec_enc xs)
  clear hc hlen hsm hx hs
  go_enter Tryz.func3, Tryz.ntmps3
  go_wp2_with fail
  refine (awake_any w).mono ?_
  rintro e w1 ⟨rfl, f1⟩
  have HF1 := hid f1
  clear f1
  go_wp2_with fail
  refine (encode_any _ xs _ w1 (sub_EC HX.out HF1.out) HSM.out HLEN.out).mono ?_
  rintro e w2 ⟨rfl, f2⟩
  have HF2 := hid (HF1.out.trans' f2)
  obtain ⟨t, ht⟩ : ∃ t : S, ByteArray.mk (encS xs).2.toArray = t := ⟨_, rfl⟩
  obtain ⟨ce, hce⟩ : ∃ c, (encS xs).1 = c := ⟨_, rfl⟩
  have hst : L.str (encS xs).2 = Value.string t := congrArg Value.string ht
  have hren := fun w h => rencode_any (.slice a xs.length c) xs (fun k => k < w.heap.size) w h HSM.out HLEN.out
  rw [ht, hce] at HDE
  have HCE := hid hce; have HST := hid hst
  have HTZ : Hid (ce = 0 → t.size ≤ 2000) := hid (fun h => by
    have h2 := encS_ok (hce.trans h)
    have : t.size = (encS xs).2.length := by rw [← ht]; show (encS xs).2.toArray.size = _; simp
    rw [this, h2.2.2.1]; exact h2.2.2.2)
  rw [hst, hce]
  clear f2 ht hren hst hce
  go_wp2_with fail
  refine (rencode_any _ xs _ w2 (sub_EC HX.out HF2.out) HSM.out HLEN.out).mono ?_
  rintro e w3 ⟨rfl, f3⟩
  have HF3 := hid (HF2.out.trans' f3)
  rw [HST.out, HCE.out]
  clear f3
  by_cases hc0 : ce = 0
  · have HTS := hid (HTZ.out hc0)
    have HDT := hid (HDE.out hc0)
    subst hc0
    go_wp2_with fail
    refine (decode_any t w3 (by have := HTS.out; omega)).mono ?_
    rintro e w4 ⟨v4, rfl, ho4, f4⟩
    rw [HDT.out] at ho4 ⊢
    have hc4 := own_ch (l := xs) ho4
    obtain ⟨a4, c4, rfl, -⟩ := id hc4
    have HC4 := hid hc4
    have HF4 := hid (HF3.out.trans' f4)
    rw [show decErr (some xs) = 0 from rfl]
    clear ho4 f4 hc4
    go_wp2_with fail
    refine (sameC_any w4 _ _ xs xs _ _ (sub_EC HX.out HF4.out) HC4.out HLEN.out HLEN.out).mono ?_
    rintro e w5 ⟨rfl, f5⟩
    rw [show decide (xs = xs) = true from decide_eq_true rfl]
    have HF5 := hid (HF4.out.trans' f5)
    clear f5
    go_wp2_with fail
    refine (decode_any s w5 (by have := HS.out; omega)).mono ?_
    rintro e wa ⟨va, rfl, hoa, fa⟩
    have HFa := hid (HF5.out.trans' fa)
    have HRT := hid (fun (w : World) => rdecode_any s w HS.out)
    have HED := hid (fun (ys : List Ch) (h : decS s = some ys) => enc_dec h)
    have HMY := hid (fun (ys : List Ch) (h : decS s = some ys) => decS_may h)
    cases hd : decS s with
    | none =>
      rw [hd] at hoa
      have hca := own_ch (l := []) hoa
      obtain ⟨aa, ca, rfl, -⟩ := id hca
      have HCA := hid hca
      rw [show decErr none = 30 from rfl]
      clear hoa fa hca
      go_wp2_with fail
      refine (HRT.out wa).mono ?_
      rintro e wb ⟨vb, rfl, hob, fb⟩
      rw [hd] at hob ⊢
      have hcb := own_ch (l := []) hob
      obtain ⟨ab, cb, rfl, -⟩ := id hcb
      have HCB := hid hcb
      have HCA2 := hid (sub_EC HCA.out fb)
      have HFb := hid (HFa.out.trans' fb)
      rw [show decErr none = 30 from rfl]
      clear hob fb hcb hd
      go_wp2_with fail
      refine (sameC_any wb _ _ [] [] _ _ HCA2.out HCB.out (by decide) (by decide)).mono ?_
      rintro e wc ⟨rfl, fc⟩
      rw [show decide (([] : List Ch) = []) = true from decide_eq_true rfl]
      have HFc := hid (HFb.out.trans' fc)
      clear fc
      go_wp2_with fail
      go_ret
      exact ⟨rfl, HFc.out⟩
    | some ys =>
      rw [hd] at hoa
      have hca := own_ch (l := ys) hoa
      obtain ⟨aa, ca, rfl, -⟩ := id hca
      have HCA := hid hca
      have HYE := hid (HED.out ys hd)
      have HYM := hid (HMY.out ys hd)
      have hyi : (ys.length : Int) ≤ 32 := by have := HYM.out.2; omega
      rw [show decErr (some ys) = 0 from rfl]
      clear hoa fa hca
      go_wp2_with fail
      refine (HRT.out wa).mono ?_
      rintro e wb ⟨vb, rfl, hob, fb⟩
      rw [hd] at hob ⊢
      have hcb := own_ch (l := ys) hob
      obtain ⟨ab, cb, rfl, -⟩ := id hcb
      have HCB := hid hcb
      have HCA2 := hid (sub_EC HCA.out fb)
      have HFb := hid (HFa.out.trans' fb)
      rw [show decErr (some ys) = 0 from rfl]
      clear hob fb hcb hd
      go_wp2_with fail
      refine (sameC_any wb _ _ ys ys _ _ HCA2.out HCB.out (by have := HYM.out.2; omega) (by have := HYM.out.2; omega)).mono ?_
      rintro e wc ⟨rfl, fc⟩
      rw [show decide (ys = ys) = true from decide_eq_true rfl]
      have HFc := hid (HFb.out.trans' fc)
      have HCA3 := hid (sub_EC HCA2.out fc)
      clear fc
      go_wp2_with fail
      refine (encode_any _ ys _ wc HCA3.out (fun x hx => by have := may_sizes (HYM.out.1 x hx); omega) (by have := HYM.out.2; omega)).mono ?_
      rintro e wd ⟨rfl, fd⟩
      rw [HYE.out]
      rw [show L.str s.data.toList = Value.string s from rfl]
      have HFd := hid (HFc.out.trans' fd)
      clear fd
      go_wp2_with fail
      go_ret
      exact ⟨rfl, HFd.out⟩
  · go_wp2_with fail
    refine (decode_any s w3 (by have := HS.out; omega)).mono ?_
    rintro e wa ⟨va, rfl, hoa, fa⟩
    have HFa := hid (HF3.out.trans' fa)
    have HRT := hid (fun (w : World) => rdecode_any s w HS.out)
    have HED := hid (fun (ys : List Ch) (h : decS s = some ys) => enc_dec h)
    have HMY := hid (fun (ys : List Ch) (h : decS s = some ys) => decS_may h)
    cases hd : decS s with
    | none =>
      rw [hd] at hoa
      have hca := own_ch (l := []) hoa
      obtain ⟨aa, ca, rfl, -⟩ := id hca
      have HCA := hid hca
      rw [show decErr none = 30 from rfl]
      clear hoa fa hca
      go_wp2_with fail
      refine (HRT.out wa).mono ?_
      rintro e wb ⟨vb, rfl, hob, fb⟩
      rw [hd] at hob ⊢
      have hcb := own_ch (l := []) hob
      obtain ⟨ab, cb, rfl, -⟩ := id hcb
      have HCB := hid hcb
      have HCA2 := hid (sub_EC HCA.out fb)
      have HFb := hid (HFa.out.trans' fb)
      rw [show decErr none = 30 from rfl]
      clear hob fb hcb hd
      go_wp2_with fail
      refine (sameC_any wb _ _ [] [] _ _ HCA2.out HCB.out (by decide) (by decide)).mono ?_
      rintro e wc ⟨rfl, fc⟩
      rw [show decide (([] : List Ch) = []) = true from decide_eq_true rfl]
      have HFc := hid (HFb.out.trans' fc)
      clear fc
      go_wp2_with fail
      go_ret
      exact ⟨rfl, HFc.out⟩
    | some ys =>
      rw [hd] at hoa
      have hca := own_ch (l := ys) hoa
      obtain ⟨aa, ca, rfl, -⟩ := id hca
      have HCA := hid hca
      have HYE := hid (HED.out ys hd)
      have HYM := hid (HMY.out ys hd)
      have hyi : (ys.length : Int) ≤ 32 := by have := HYM.out.2; omega
      rw [show decErr (some ys) = 0 from rfl]
      clear hoa fa hca
      go_wp2_with fail
      refine (HRT.out wa).mono ?_
      rintro e wb ⟨vb, rfl, hob, fb⟩
      rw [hd] at hob ⊢
      have hcb := own_ch (l := ys) hob
      obtain ⟨ab, cb, rfl, -⟩ := id hcb
      have HCB := hid hcb
      have HCA2 := hid (sub_EC HCA.out fb)
      have HFb := hid (HFa.out.trans' fb)
      rw [show decErr (some ys) = 0 from rfl]
      clear hob fb hcb hd
      go_wp2_with fail
      refine (sameC_any wb _ _ ys ys _ _ HCA2.out HCB.out (by have := HYM.out.2; omega) (by have := HYM.out.2; omega)).mono ?_
      rintro e wc ⟨rfl, fc⟩
      rw [show decide (ys = ys) = true from decide_eq_true rfl]
      have HFc := hid (HFb.out.trans' fc)
      have HCA3 := hid (sub_EC HCA2.out fc)
      clear fc
      go_wp2_with fail
      refine (encode_any _ ys _ wc HCA3.out (fun x hx => by have := may_sizes (HYM.out.1 x hx); omega) (by have := HYM.out.2; omega)).mono ?_
      rintro e wd ⟨rfl, fd⟩
      rw [HYE.out]
      rw [show L.str s.data.toList = Value.string s from rfl]
      have HFd := hid (HFc.out.trans' fd)
      clear fd
      go_wp2_with fail
      go_ret
      exact ⟨rfl, HFd.out⟩
end
end Go.Proofs.YtflfmkokfbgclaaGreat.ST
