/-
  Part 38 of the proof: StK, StAw.
-/
import Derived.Test.YtejbanlhgnlliaaGreatPt34
import Derived.Test.YtejbanlhgnlliaaGreatPt36
namespace Go.Proofs.YtejbanlhgnlliaaGreat.ST
set_option maxRecDepth 100000
open Go.RowKit K L

def sd (k : Int × U × Option Sd) : Sd := match k.2.2 with
  | some s => s
  | none => ⟨[], ⟨0, 0, 0, 0⟩, ⟨0, 0, 0, 0, 0⟩, true, k.2.1⟩
def isS (k : Int × U × Option Sd) : Bool := decide (k.1 = 0) && k.2.2.isSome
def chA : Ch := ⟨⟨#[97]⟩, ⟨#[49]⟩, false⟩
def chB : Ch := ⟨⟨#[98]⟩, ⟨#[50]⟩, false⟩
def chG : Ch := ⟨⟨#[97]⟩, ⟨#[]⟩, true⟩
def chC : Ch := ⟨⟨#[99]⟩, ⟨#[51]⟩, false⟩
def chE : Ch := ⟨⟨#[]⟩, ⟨#[49]⟩, false⟩
def q0 : Int × U × Option Sd := openS (U.new 40)
theorem e0 : isS q0 = true := by decide +kernel
def q1 : Int × Sd := comS (sd q0) [chA, chB]
theorem e1 : q1.1 = 0 := by decide +kernel
def q2 : Int × Sd := comS q1.2 [chG, chC]
theorem e2 : q2.1 = 0 := by decide +kernel
def u3 : U := (q2.2.u.crash []).2
def q3 : Int × U × Option Sd := openS u3
theorem e3 : isS q3 = true := by decide +kernel
def q4 : Int × Sd := ckS (sd q3)
theorem e4 : q4.1 = 0 := by decide +kernel
def u5 : U := (q4.2.u.crash []).2
def q5 : Int × U × Option Sd := openS u5
theorem e5 : isS q5 = true := by decide +kernel
def q6 : Int × Sd := comS (sd q5) [chE]
theorem e6 : q6.1 = 40 := by decide +kernel
def bcL : TR.L := [(⟨#[98]⟩, ⟨#[50]⟩), (⟨#[99]⟩, ⟨#[51]⟩)]
theorem e3l : (sd q3).l = bcL := by decide +kernel
theorem e5l : (sd q5).l = bcL := by decide +kernel
theorem e4r : q4.2.r.epoch = 1 := by decide +kernel
theorem e0m : ((sd q0).g.count : Int) - (sd q0).g.next = 20 := by decide +kernel
theorem e4m : (q4.2.g.count : Int) - q4.2.g.next = 20 := by decide +kernel
theorem e0p : (sd q0).u.P.length = 0 ∧ imgN (sd q0).l = 0 ∧ (sd q0).l.length = 0 := by decide +kernel
theorem e1p : q1.2.u.P.length = 0 ∧ imgN q1.2.l = 12 ∧ q1.2.l.length = 2 := by decide +kernel
theorem e2p : q2.2.u.P.length = 0 := by decide +kernel
theorem e3p : (sd q3).u.P.length = 0 ∧ imgN (sd q3).l = 12 ∧ (sd q3).l.length = 2 := by decide +kernel
theorem e4p : q4.2.u.P.length = 0 := by decide +kernel
theorem e5p : (sd q5).u.P.length = 0 ∧ imgN (sd q5).l = 12 ∧ (sd q5).l.length = 2 := by decide +kernel
theorem e3u : u3.P.length = 0 := by decide +kernel
theorem e5u : u5.P.length = 0 := by decide +kernel
theorem eA : encS [chA] = (0, [0, 1, 1, 0, 97, 49]) := by decide +kernel
theorem is_sd {k : Int × U × Option Sd} (h : isS k = true) : k = (0, k.2.1, some (sd k)) := by
  obtain ⟨c, u, o⟩ := k
  cases o with
  | none => simp [isS] at h
  | some s => simp only [isS, Bool.and_eq_true, decide_eq_true_eq] at h; rw [h.1]; rfl
/-- The disk that Open gives is the store's. -/
theorem openS_u {u : U} {c : Int} {u' : U} {s : Sd} (h : openS u = (c, u', some s)) : s.u = u' := by
  unfold openS at h
  split at h
  · simp at h
  · split at h
    · simp at h
    · split at h
      · simp at h
      · simp only [Prod.mk.injEq, Option.some.injEq] at h; rw [← h.2.2, ← h.2.1]
end Go.Proofs.YtejbanlhgnlliaaGreat.ST

namespace Go.Proofs.YtejbanlhgnlliaaGreat.ST
set_option maxRecDepth 100000
open Go.RowKit K L

theorem buildA (w : World) : (Instr.build 55 #[(0, .string ⟨#[97]⟩), (1, .string ⟨#[49]⟩)]).run Tryz.prog w = .ok chA.agg w := by kernel_rfl
theorem buildB (w : World) : (Instr.build 55 #[(0, .string ⟨#[98]⟩), (1, .string ⟨#[50]⟩)]).run Tryz.prog w = .ok chB.agg w := by kernel_rfl
theorem buildG (w : World) : (Instr.build 55 #[(0, .string ⟨#[97]⟩), (2, .bool true)]).run Tryz.prog w = .ok chG.agg w := by kernel_rfl
theorem buildCc (w : World) : (Instr.build 55 #[(0, .string ⟨#[99]⟩), (1, .string ⟨#[51]⟩)]).run Tryz.prog w = .ok chC.agg w := by kernel_rfl
theorem buildE (w : World) : (Instr.build 55 #[(1, .string ⟨#[49]⟩)]).run Tryz.prog w = .ok chE.agg w := by kernel_rfl
/-- The blocks of a list of changes that a law has laid. -/
theorem chin_new {w' : World} {xs : List Ch} {b : Nat} {t : TypeId} (hB : Blk w' b t (chs xs)) (n : Nat) (hn : xs.length = n) : ChIn w' (fun k => k = b) (.slice (some ⟨b, 0, none⟩) n n) xs :=
  ⟨_, n, by rw [hn], .inr ⟨b, 0, rfl, rfl, hB.lt, hB.range 0 _ (by rw [List.drop_zero, List.take_length])⟩⟩
theorem crash_nil (w : World) (E : Nat → Prop) : D.BoolsIn w E (.slice none 0 0) [] := ⟨_, _, _, rfl, rfl, .inl rfl⟩
theorem stp_at {W w w' : World} {b bd : Nat} {O : Nat → Prop} {p : Int × Sd} {c : Int} {e : Ending} (h : StP W w b bd O p e w') (hc : p.1 = c) : e = .returned (.int .i64 c) ∧ ∃ O', Sto W w' b bd O' p.2 ∧ Fr O w w' ∧ Grows w O O' := by
  obtain ⟨h1, h2⟩ := h
  rw [hc] at h1
  exact ⟨h1, h2⟩
theorem frN {W w w' : World} {b bd : Nat} {O : Nat → Prop} {s : Sd} (h : Fr No W w) (hS : Sto W w b bd O s) (hF : Fr O w w') : Fr No W w' := h.trans hF (fun k hk => .inr (hS.ow k hk).1)
theorem outsS {W w : World} {b bd : Nat} {O : Nat → Prop} {s : Sd} (hS : Sto W w b bd O s) {k : Nat} (hk : w.heap.size ≤ k) : ¬ O k := fun e => by have := (hS.ow k e).2; omega
set_option maxHeartbeats 16000000 in
theorem awake_any (w : World) : Calls Tryz.prog 7 #[] w fun e w' => e = .returned (.bool true) ∧ Fr No w w' := by
  obtain ⟨ic, hic, hzc, hsc, hbc⟩ := Go.info_parts infozCh
  have IC := hid hic; have ZC := hid hzc; have SC := hid hsc
  clear hic hzc hsc hbc
  go_enter Tryz.func7, Tryz.ntmps7
  go_wp2_with fail
  refine (dnew_any 40 w (by decide) (by decide)).mono ?_
  rintro e w1 ⟨bd, Z, rfl, hd, hz, f1⟩
  have HD1 := hid hd; have HZ := hid hz; have HF1 := hid f1
  clear hd hz f1
  go_wp2_with fail
  refine (open_any w HD1.out (by decide) HF1.out HZ.out).mono ?_
  intro e w2 ho
  rw [show openS (U.new 40) = (0, q0.2.1, some (sd q0)) from is_sd e0] at ho
  obtain ⟨b0, O0, rfl, hS, hF, hG⟩ := ho
  have HS2 := hid hS
  have HF2 : Hid (Fr No w w2) := hid (HF1.out.trans hF (fun k hk => .inr (HZ.out k hk)))
  clear hS hF hG HD1
  obtain ⟨bg2, c1, hroom⟩ := HS2.out.room
  have HRM := hid (hroom w2 (Fr.refl _ _))
  clear hroom
  go_wp2_with fail
  refine HRM.out.mono ?_
  rintro e w3 ⟨rfl, f3⟩
  rw [e0m]
  have HS3 := hid (HS2.out.no f3)
  have HF3 := hid (HF2.out.trans' f3)
  clear f3 c1 HRM HS2 HF2
  have hbA := buildA; have hbB := buildB; have hbG := buildG; have hbC := buildCc; have hbE := buildE
  go_wp2_with (first
    | ((with_reducible show wpList _ _ _ ({ dst := _, op := .buildSlice 22 _ _, type := _, pos := _, after := _, guard := _ } :: _) _ _); refine wpL_buildTwo rfl _ 55 _ _ rfl ic _ rfl IC.out ZC.out (by rw [SC.out]; decide) (by rw [SC.out]; decide) chA.agg chB.agg chA.cells chB.cells rfl rfl rfl rfl (by rw [SC.out]; rfl) (by rw [SC.out]; rfl) ?_; intro w4 HB4 F4 HS4)
    | fail)
  have HS4' := hid (HS3.out.no F4.out)
  have HF4 := hid (HF3.out.trans' F4.out)
  refine (commit_any _ [chA, chB] _ HS4'.out (chin_new (xs := [chA, chB]) HB4.out 2 rfl) ⟨_, _, rfl, Nat.le_refl _⟩ (fun k hk => ⟨outsS HS3.out (by have e' : k = w3.heap.size := hk; omega), by have e' : k = w3.heap.size := hk; have := HB4.out.lt; omega⟩) (by intro y hy; simp at hy; rcases hy with rfl | rfl <;> decide) (by decide) (by rw [e0p.1]; decide) (by rw [e0p.2.1]; decide) (by rw [e0p.2.2]; decide)).mono ?_
  intro e w5 hst
  obtain ⟨rfl, O5, hS, hF, -⟩ := stp_at hst e1
  have HS5 : Hid (Sto w w5 b0 bd O5 q1.2) := hid hS
  have HF5 := hid (frN (w' := w5) HF4.out HS4'.out hF)
  clear hst hS hF HB4 F4 HS4 HS4' HS3 HF3 HF4
  go_wp2_with (first
    | ((with_reducible show wpList _ _ _ ({ dst := _, op := .buildSlice 22 _ _, type := _, pos := _, after := _, guard := _ } :: _) _ _); refine wpL_buildTwo rfl _ 55 _ _ rfl ic _ rfl IC.out ZC.out (by rw [SC.out]; decide) (by rw [SC.out]; decide) chG.agg chC.agg chG.cells chC.cells rfl rfl rfl rfl (by rw [SC.out]; rfl) (by rw [SC.out]; rfl) ?_; intro w6 HB6 F6 HS6)
    | fail)
  have HS6' := hid (HS5.out.no F6.out)
  have HF6 := hid (HF5.out.trans' F6.out)
  refine (commit_any _ [chG, chC] _ HS6'.out (chin_new (xs := [chG, chC]) HB6.out 2 rfl) ⟨_, _, rfl, Nat.le_refl _⟩ (fun k hk => ⟨outsS HS5.out (by have e' : k = w5.heap.size := hk; omega), by have e' : k = w5.heap.size := hk; have := HB6.out.lt; omega⟩) (by intro y hy; simp at hy; rcases hy with rfl | rfl <;> decide) (by decide) (by rw [e1p.1]; decide) (by rw [e1p.2.1]; decide) (by rw [e1p.2.2]; decide)).mono ?_
  intro e w7 hst
  obtain ⟨rfl, O7, hS, hF, -⟩ := stp_at hst e2
  have HS7 : Hid (Sto w w7 b0 bd O7 q2.2) := hid hS
  have HF7 := hid (frN (w' := w7) HF6.out HS6'.out hF)
  clear hst hS hF HB6 F6 HS6 HS6' HS5 HF5 HF6
  obtain ⟨Z7, hd7, hz7⟩ := HS7.out.disk
  have HD7 := hid hd7
  have HZ7 := hid (fun k (hk : Z7 k) => (HS7.out.ow k (hz7 k hk)).1)
  clear hd7 hz7 HS7
  go_wp2_with fail
  refine (dcrash_any (.slice none 0 0) [] No (crash_nil _ _) (fun _ h => h.elim) (by decide) HD7.out).mono ?_
  rintro e w8 ⟨rfl, hd, hf⟩
  have HD8 : Hid (Dk w8 bd Z7 u3) := hid hd
  have HF8 := hid (HF7.out.trans hf (fun k hk => .inr (HZ7.out k hk)))
  clear hd hf HD7 HF7
  go_wp2_with fail
  refine (open_any w HD8.out (by rw [e3u]; decide) HF8.out HZ7.out).mono ?_
  intro e w9 ho
  rw [show openS u3 = (0, q3.2.1, some (sd q3)) from is_sd e3] at ho
  obtain ⟨b3, O9, rfl, hS, hF, -⟩ := ho
  have HS9 := hid hS
  have HF9 := hid (HF8.out.trans hF (fun k hk => .inr (HZ7.out k hk)))
  clear hS hF HD8 HF8 HZ7
  go_wp2_with fail
  refine (all_any HS9.out (by rw [e3p.2.2]; decide)).mono ?_
  rintro e w10 ⟨pv, rfl, hp, f10⟩
  rw [e3l] at hp
  obtain ⟨pa, pc, rfl, hp⟩ := hp
  obtain ⟨gp, rfl, hr, hg1, hg2⟩ : ∃ g, pa = some ⟨g, 0, none⟩ ∧ w10.rangeAt g 0 (TR.pcs bcL) ∧ w9.heap.size ≤ g ∧ g < w10.heap.size := hp.elim (fun e => by cases e) id
  have HP10 := hid hr
  have HS10 := hid (HS9.out.no f10)
  have HF10 := hid (HF9.out.trans' f10)
  have HO10 := hid (outsS HS9.out hg1)
  have HGW := hid (And.intro (show w.heap.size ≤ gp by have := HF9.out.size; omega) hg2)
  rw [show bcL.length = 2 from rfl]
  clear hr hg1 hg2 hp f10 HS9 HF9
  go_wp2_with fail
  refine (checkpoint_any HS10.out (by rw [e3p.1]; decide) (by rw [e3p.2.1]; decide) (by rw [e3p.2.2]; decide)).mono ?_
  intro e w11 hst
  obtain ⟨rfl, O11, hS, hF, hG⟩ := stp_at hst e4
  have HS11 : Hid (Sto w w11 b3 bd O11 q4.2) := hid hS
  have HF11 := hid (frN (w' := w11) HF10.out HS10.out hF)
  have HP11 := hid (hF.range HP10.out HO10.out)
  have HO11 := hid (show ¬ O11 gp from fun e => (hG gp e).elim HO10.out (fun hge => by have := HGW.out.2; omega))
  have HG11 := hid (Nat.lt_of_lt_of_le HGW.out.2 hF.size)
  clear hst hS hF hG HS10 HF10 HP10 HO10
  go_wp2_with fail
  refine (epoch_any HS11.out).mono ?_
  rintro e w' ⟨rfl, rfl⟩
  rw [e4r]
  obtain ⟨bg11, c1, hroom⟩ := HS11.out.room
  have HRM := hid (hroom w11 (Fr.refl _ _))
  clear hroom
  go_wp2_with fail
  refine HRM.out.mono ?_
  rintro e w12 ⟨rfl, f12⟩
  rw [e4m]
  have HS12 := hid (HS11.out.no f12)
  have HF12 := hid (HF11.out.trans' f12)
  have HP12 := hid (f12.range HP11.out id)
  have HG12 := hid (Nat.lt_of_lt_of_le HG11.out f12.size)
  clear f12 c1 HRM HS11 HF11 HP11 HG11
  obtain ⟨Z12, hd12, hz12⟩ := HS12.out.disk
  have HD12 := hid hd12
  have HZ12 := hid (fun k (hk : Z12 k) => (HS12.out.ow k (hz12 k hk)).1)
  have HZP := hid (show ¬ Z12 gp from fun e => HO11.out (hz12 gp e))
  clear hd12 hz12 HS12 HO11
  go_wp2_with fail
  refine (dcrash_any (.slice none 0 0) [] No (crash_nil _ _) (fun _ h => h.elim) (by decide) HD12.out).mono ?_
  rintro e w13 ⟨rfl, hd, hf⟩
  have HD13 : Hid (Dk w13 bd Z12 u5) := hid hd
  have HF13 := hid (HF12.out.trans hf (fun k hk => .inr (HZ12.out k hk)))
  have HP13 := hid (hf.range HP12.out HZP.out)
  have HG13 := hid (Nat.lt_of_lt_of_le HG12.out hf.size)
  clear hd hf HD12 HF12 HP12 HG12
  go_wp2_with fail
  refine (open_any w HD13.out (by rw [e5u]; decide) HF13.out HZ12.out).mono ?_
  intro e w14 ho
  rw [show openS u5 = (0, q5.2.1, some (sd q5)) from is_sd e5] at ho
  obtain ⟨b5, O14, rfl, hS, hF, hG⟩ := ho
  have HS14 := hid hS
  have HF14 := hid (HF13.out.trans hF (fun k hk => .inr (HZ12.out k hk)))
  have HP14 := hid (hF.range HP13.out HZP.out)
  have HO14 := hid (show ¬ O14 gp from fun e => (hG gp e).elim HZP.out (fun hge => by have := HG13.out; omega))
  clear hS hF hG HD13 HF13 HZ12 HP13
  go_wp2_with fail
  refine (all_any HS14.out (by rw [e5p.2.2]; decide)).mono ?_
  rintro e w15 ⟨qv, rfl, hq, f15⟩
  rw [e5l] at hq
  have HQ15 := hid hq.pr
  have HS15 := hid (HS14.out.no f15)
  have HF15 := hid (HF14.out.trans' f15)
  have HP15 := hid (f15.range HP14.out id)
  obtain ⟨qa, qc, rfl, -⟩ := hq
  rw [show bcL.length = 2 from rfl] at HQ15 ⊢
  clear f15 HS14 HF14 HP14
  go_wp2_with fail
  refine (TR.same_any w15 _ _ bcL bcL (show TR.PR w15 (.slice (some ⟨gp, 0, none⟩) 2 pc) bcL from ⟨_, _, rfl, .inr ⟨gp, 0, rfl, HP15.out⟩⟩) HQ15.out (by decide) (by decide)).mono ?_
  rintro e w16 ⟨rfl, f16⟩
  rw [show decide (bcL = bcL) = true from decide_eq_true rfl]
  have HS16 := hid (HS15.out.no f16)
  have HF16 := hid (HF15.out.trans' f16)
  have HP16 := hid (f16.range HP15.out id)
  clear f16 HS15 HF15 HP15 HQ15
  go_wp2_with (first
    | ((with_reducible show wpList _ _ _ ({ dst := _, op := .buildSlice 22 _ _, type := _, pos := _, after := _, guard := _ } :: _) _ _); refine wpL_buildOne rfl _ 55 _ rfl ic _ rfl IC.out ZC.out (by rw [SC.out]; decide) (by rw [SC.out]; decide) chE.agg chE.cells rfl rfl (by rw [SC.out]; rfl) ?_; intro w17 HB17 F17 HS17)
    | fail)
  have HS17' := hid (HS16.out.no F17.out)
  have HF17 := hid (HF16.out.trans' F17.out)
  have HP17 := hid (F17.out.range HP16.out id)
  refine (commit_any _ [chE] _ HS17'.out (chin_new (xs := [chE]) HB17.out 1 rfl) ⟨_, _, rfl, Nat.le_refl _⟩ (fun k hk => ⟨outsS HS16.out (by have e' : k = w16.heap.size := hk; omega), by have e' : k = w16.heap.size := hk; have := HB17.out.lt; omega⟩) (by intro y hy; simp at hy; rcases hy with rfl <;> decide) (by decide) (by rw [e5p.1]; decide) (by rw [e5p.2.1]; decide) (by rw [e5p.2.2]; decide)).mono ?_
  intro e w18 hst
  obtain ⟨rfl, O18, hS, hF, -⟩ := stp_at hst e6
  have HF18 := hid (frN (w' := w18) HF17.out HS17'.out hF)
  have HP18 := hid (hF.range HP17.out HO14.out)
  clear hst hS hF HB17 F17 HS17 HS17' HF17 HP17 HS16 HF16 HP16
  go_wp2_with (first
    | ((with_reducible show wpList _ _ _ ({ dst := _, op := .buildSlice 22 _ _, type := _, pos := _, after := _, guard := _ } :: _) _ _); refine wpL_buildOne rfl _ 55 _ rfl ic _ rfl IC.out ZC.out (by rw [SC.out]; decide) (by rw [SC.out]; decide) chA.agg chA.cells rfl rfl (by rw [SC.out]; rfl) ?_; intro w19 HB19 F19 HS19)
    | fail)
  have HF19 := hid (HF18.out.trans' F19.out)
  have HP19 := hid (F19.out.range HP18.out id)
  refine (encode_any _ [chA] _ w19 (chin_new (xs := [chA]) HB19.out 1 rfl) (by intro y hy; simp at hy; rcases hy with rfl <;> decide) (by decide)).mono ?_
  rintro e w20 ⟨rfl, f20⟩
  rw [eA]
  have HF20 := hid (HF19.out.trans' f20)
  have HP20 := hid (f20.range HP19.out id)
  clear f20 HB19 F19 HS19 HF19 HP19
  rw [show L.str [0, 1, 1, 0, 97, 49] = Value.string ⟨#[0, 1, 1, 0, 97, 49]⟩ from rfl]
  have p0 : w20.cell? ⟨gp, 0, none⟩ = some (.string ⟨#[98]⟩) := HP20.out 0 _ rfl
  have p1 : w20.cell? ⟨gp, 1, none⟩ = some (.string ⟨#[50]⟩) := HP20.out 1 _ rfl
  have p2 : w20.cell? ⟨gp, 2, none⟩ = some (.string ⟨#[99]⟩) := HP20.out 2 _ rfl
  have p3 : w20.cell? ⟨gp, 3, none⟩ = some (.string ⟨#[51]⟩) := HP20.out 3 _ rfl
  clear hbA hbB hbG hbC hbE
  go_wp2_with (first
    | ((with_reducible show wpList _ _ _ ({ dst := _, op := .binOp .eql 71 _ _ _, type := _, pos := _, after := _, guard := _ } :: _) _ _); refine wpL_valZ rfl (.bool true) (by kernel_rfl) ?_)
    | fail)
  go_ret
  exact ⟨rfl, HF20.out⟩
end Go.Proofs.YtejbanlhgnlliaaGreat.ST
