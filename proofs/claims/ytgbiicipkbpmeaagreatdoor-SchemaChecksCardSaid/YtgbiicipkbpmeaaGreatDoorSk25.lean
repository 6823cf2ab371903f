/-
  Part 25 of the proof: FtCa, FtN3, FtCv.
-/
import Derived.Test.YtgbiicipkbpmeaaGreatDoorSk18
import Derived.Test.YtgbiicipkbpmeaaGreatDoorSk24
import Derived.Test.YtgbiicipkbpmeaaGreatDoorSk01
import Derived.Test.YtgbiicipkbpmeaaGreatDoorSk04
import Derived.Test.YtgbiicipkbpmeaaGreatDoorSk14
set_option linter.unusedSimpArgs false
set_option linter.unusedVariables false
namespace Go.Proofs.YtgbiicipkbpmeaaGreatDoor.FT
set_option maxRecDepth 100000
open Go.RowKit K BE DN SC
set_option maxHeartbeats 16000000 in
theorem value1_any (v : B) (hv : Sz v) (w : World) : Calls Tryz.prog 57 #[.int .i64 1, .string (sb v)] w fun e w' => (∃ x b, e = .returned (.tuple #[.string (sb x), .bool b]) ∧ Sz x ∧ normV 1 v = if b then some x else none) ∧ Fr No w w' := by
 obtain ⟨S, hS⟩ : ∃ S, sb v = S := ⟨_, rfl⟩
 obtain ⟨n, hn⟩ : ∃ n, v.length = n := ⟨_, rfl⟩
 have hsz : (S.size : Int) = n := by rw [← hS, sb_size, hn]
 have HS := hid hS; have HN := hid hn
 have hni : (n : Int) ≤ 140737488351232 := by unfold Sz at hv; omega
 rw [hS]
 by_cases h200 : 200 < n
 ·have hg : (200 : Int) < n := by omega
  have HE : Hid (normV 1 v = none) := hid (by unfold normV; rw [if_pos (by omega)])
  clear hS hn hv h200
  go_enter Tryz.func57, Tryz.ntmps57
  go_wp2_with fail
  go_ret2
  exact ⟨⟨[], false, rfl, by unfold Sz; simp, HE.out⟩, Fr.refl _ _⟩
 ·have hg : ¬ (200 : Int) < n := by omega
  have HL := hid (show ¬ 200 < v.length by omega)
  have HV := hid (show v.length ≤ 4294967000 by omega)
  clear hS hn hv h200
  have HE : Hid (normV 1 v = if !decide (fold v = []) then some (fold v) else none) := hid (by
   unfold normV
   rw [if_neg HL.out, if_pos rfl]
   by_cases h : fold v = [] <;> simp [h])
  have HZ : Hid (Sz (fold v)) := hid (by have := fold_len v; have := HV.out; unfold Sz; omega)
  obtain ⟨b, hb⟩ : ∃ b, (!decide (fold v = [])) = b := ⟨_, rfl⟩
  have HB := hid hb
  rw [hb] at HE
  clear hb
  go_enter Tryz.func57, Tryz.ntmps57
  go_wp2_with fail
  rw [← HS.out]
  refine (rfold_any v HV.out w).mono ?_
  rintro e w1 ⟨rfl, f1⟩
  have HF1 := hid f1
  clear f1
  go_wp2_with (first
   | ((with_reducible refine K.atO (.binOp .neq 9 _ _ _) ?_); refine wpL_valZ rfl (.bool b) (by rw [← HB.out]; exact exec_neS _ _ _ rfl (fold v) [] rfl rfl _) ?_)
   | fail)
  go_ret2
  exact ⟨⟨fold v, b, rfl, HZ.out, HE.out⟩, HF1.out⟩
theorem bb_ext {f g : Set} {n : Nat} (h : ∀ i, i < n → f i = g i) : bb f n = bb g n := by
 unfold bb
 exact List.map_congr_left fun i hi => by rw [h i (List.mem_range.1 hi)]
theorem bb_set (f : Set) (n j : Nat) (x : Bool) : (bb f n).set j (.bool x) = bb (fun i => if i = j then x else f i) n := by
 unfold bb
 apply List.ext_getElem
 ·simp
 ·intro i h1 h2
  rw [List.getElem_set]
  by_cases h : j = i
  ·subst h; simp
  ·have : ¬ i = j := fun e => h e.symm
   simp [h, this]
def upTo (f g : Set) (j : Nat) : Set := fun i => if i < j then g i else f i
theorem upTo_zero (f g : Set) : upTo f g 0 = f := by funext i; simp [upTo]
theorem upTo_step (f g : Set) (n j : Nat) : (bb (upTo f g j) n).set j (.bool (g j)) = bb (upTo f g (j + 1)) n := by
 rw [bb_set]
 refine bb_ext fun i _ => ?_
 unfold upTo
 by_cases h : i = j
 ·subst h; simp
 ·by_cases h2 : i < j
  ·have : i < j + 1 := by omega
   simp [h, h2, this]
  ·have : ¬ i < j + 1 := by omega
   simp [h, h2, this]
theorem upTo_all (f g : Set) (n : Nat) : bb (upTo f g n) n = bb g n := bb_ext fun i hi => by unfold upTo; rw [if_pos hi]
theorem upTo_at (f g : Set) (j : Nat) : upTo f g j j = f j := by unfold upTo; rw [if_neg (by omega)]
theorem infoBoo : (Tryz.prog.info? 4).map (fun i => (i.zero, i.size, i.bytes)) = some (some (.bool false), 1, 1) := by kernel_rfl
theorem infoBoo1 : (Tryz.prog.info? 4).map (·.size) = some 1 := by kernel_rfl
theorem bb_none (n : Nat) : List.replicate (n * 1) (Value.bool false) = bb none_ n := by
 unfold bb none_
 rw [Nat.mul_one]
 apply List.ext_getElem
 ·simp
 ·intro i h1 h2; simp
theorem sbOC : sb [111, 98, 106, 101, 99, 116, 67, 108, 97, 115, 115] = (⟨#[111, 98, 106, 101, 99, 116, 67, 108, 97, 115, 115]⟩ : ByteArray) := rfl
theorem low_oc : low [111, 98, 106, 101, 99, 116, 67, 108, 97, 115, 115] = oc := by decide +kernel
set_option maxHeartbeats 64000000 in
theorem classes_any {S S2 S3 : Nat → Prop} (vt vc ve : Value) (s : Sch) (en : Ent) (w : World) (h : TysIn S w vt s.tys) (hy : ClsIn S2 w vc s.cls) (he : EnIn S3 w ve en) (hk : okS s = true) :
  Calls Tryz.prog 26 #[.agg #[vt, vc], ve] w fun e w' => ∃ g, e = .returned (.tuple #[.slice (some ⟨g, 0, none⟩) s.cls.length s.cls.length, .bool (clsD s en).2]) ∧ Blk w' g 4 (bb (clsD s en).1 s.cls.length) ∧ w.heap.size ≤ g ∧ Fr No w w' := by
 have HT := hid h; have HC := hid hy; have HEN := hid he; have HK := hid hk
 obtain ⟨a2, n2, c2, e2⟩ : ∃ a n c, vt = .slice a n c := by obtain ⟨a, c, e, -⟩ := h.form; exact ⟨_, _, _, e⟩
 obtain ⟨va, vcp, e0, -, -⟩ := hy.form
 obtain ⟨ea, ec, e3, -, hel⟩ := he.form
 obtain ⟨N, hN⟩ : ∃ N, s.cls.length = N := ⟨_, rfl⟩
 obtain ⟨E, hE⟩ : ∃ E, en.length = E := ⟨_, rfl⟩
 have hN20 : N ≤ 20 := by have := ((okS_iff s).1 hk).1.2.2; omega
 have HNN := hid hN; have HEE := hid hE; have HN20 := hid hN20
 subst e0 e2 e3
 rw [hN] at HC ⊢
 rw [hE] at HEN hel ⊢
 have hNi : (N : Int) ≤ 20 := by omega
 have hEi : (E : Int) ≤ 140737488351232 := by omega
 obtain ⟨R, hR⟩ : ∃ R, clsD s en = R := ⟨_, rfl⟩
 have HR := hid hR
 rw [hR]
 obtain ⟨bi, hbi, hbz, hb1, hb2⟩ := info_ex infoBoo
 have HI1 := hid hbi; have HI2 := hid hbz; have HI3 := hid hb1; have HI4 := hid hb2
 obtain ⟨p0, hp0⟩ : ∃ p, w.heap.size = p := ⟨_, rfl⟩
 have HP0 := hid hp0
 rw [hp0]
 clear h hy he hk hN hE hel hR hN20 hbi hbz hb1 hb2 hp0
 go_enter Tryz.func26, Tryz.ntmps26
 go_wp2_with (first
  | ((with_reducible refine K.atO (.box 25 _) ?_); refine wpL_box rfl _ _ rfl _ rfl [.slice a2 n2 c2, .slice va N vcp] rfl ?_; intro w1 HB1 HF1 HS1; refine Hid.out ?_)
  | fail)
 obtain ⟨b, hb⟩ : ∃ b, w.heap.size = b := ⟨_, rfl⟩
 rw [hb] at HB1 ⊢
 have HBP := hid (show b = p0 ∧ w1.heap.size = b + 1 from ⟨by rw [← hb]; exact HP0.out, by have := HS1.out; omega⟩)
 have c1 : w1.cell? ⟨b, 1, none⟩ = some (.slice va N vcp) := HB1.out.cell 1
 clear hb HS1
 refine hid ?_
 go_wp2_with (first
  | ((with_reducible refine K.atO (.makeSlice 84 _ _) ?_); refine wpL_make rfl _ _ _ rfl 4 bi (.bool false) (.bool false) 1 Tryz.underlying84 HI1.out HI2.out rfl (by decide) HI3.out .i64 .i64 N rfl rfl (by rw [HI4.out]; omega) (by unfold maxLen; omega) ?_; intro w2 HB2 HF2 HS2; refine Hid.out ?_)
  | fail)
 obtain ⟨g, hg⟩ : ∃ g, w1.heap.size = g := ⟨_, rfl⟩
 rw [hg] at HB2 ⊢
 rw [bb_none] at HB2
 have HGB := hid (show p0 ≤ g ∧ b ≠ g from by have := HBP.out; omega)
 have HB1' := hid (HB1.out.fr HF2.out id)
 have HF := hid (HF1.out.trans' HF2.out)
 have HEN2 := hid (EnIn.fr (D := No) HEN.out HF.out (fun _ _ _ e => e))
 clear hg HS2 HB1 c1 HF1 HF2
 refine hid ?_
 go_wp2_with fail
 rw [← sbOC]
 refine (at_any _ en [111, 98, 106, 101, 99, 116, 67, 108, 97, 115, 115] w2 HEN2.out (by unfold Sz; decide)).mono ?_
 rintro e w3 ⟨rfl, f3⟩
 rw [low_oc]
 have HB3 := hid (HB1'.out.fr f3 id); have HBG := hid (HB2.out.fr f3 id)
 have HF3 := hid (HF.out.trans' f3)
 clear f3 HB1' HB2 HF HEN2
 rcases find_idx en (fun a => low a.1 == oc) with ⟨h1, h2⟩ | ⟨j, a, h1, hja, h2⟩
 ·have HE : Hid (R = (none_, false)) := hid (by rw [← HR.out]; unfold clsD; rw [h1])
  rw [h2]
  clear h1 h2
  go_wp2_with fail
  go_ret2
  exact ⟨g, by rw [HE.out]; rfl, by rw [HE.out]; exact HBG.out, HGB.out.1, HF3.out⟩
 ·have HE : Hid (R = clVals s none_ true a.2) := hid (by rw [← HR.out]; unfold clsD; rw [h1])
  have HJA := hid hja
  have hjE : (j : Int) < E := by have := (List.getElem?_eq_some_iff.1 hja).1; rw [HEE.out] at this; omega
  have hj0 : (0 : Int) ≤ j := by omega
  have hjn : ¬ ((j : Int) < 0) := by omega
  rw [h2]
  obtain ⟨m, hm⟩ : ∃ m, a.2.length = m := ⟨_, rfl⟩
  have HMM := hid hm
  have HEN4 := hid ((HEN.out.mono (S' := fun i => i < p0) (fun i _ hi => by rw [← HP0.out]; exact hi)).fr HF3.out (fun _ _ _ e => e))
  obtain ⟨gx, ox, cx2, cy, e5, hgx, -, hr, -, hp⟩ := HEN4.out.get hja
  rw [HEE.out] at e5
  simp only [Value.slice.injEq, true_and] at e5
  obtain ⟨rfl, rfl⟩ := e5
  obtain ⟨vv, rfl, -, hvl⟩ := hp
  obtain ⟨aa2, ac2, rfl, -, hvle⟩ := hvl.form
  have HVL := hid hvl
  have HGX := hid hgx
  rw [hm] at HVL hvle hr
  have hmi : (m : Int) ≤ 140737488351232 := by omega
  have HRE := hid (hr 1 _ rfl)
  clear h1 h2 hja hm hr hvl hvle hgx
  go_wp2_with fail
  go_loopw [8, 9] (fun bv iv wr => ∃ (i : Nat) (F : Set) (all : Bool), bv = .bool all ∧ iv = .int .i64 i ∧ i ≤ m ∧ Hid (R = clVals s F all (a.2.drop i)) ∧ Hid (Blk wr g 4 (bb F N)) ∧ Hid (Fr (fun k => k = g) w3 wr)) (fun _ iv _ => m - (intOf iv).toNat)
  case atStart => exact ⟨0, none_, true, rfl, rfl, Nat.zero_le _, HE, HBG, hid (Fr.refl _ _)⟩
  case round =>
   obtain ⟨i, F, all, rfl, rfl, hi, HI, HBr, HFw⟩ := hrel
   have HGX2 := hid (show ¬ gx = g by have := HGX.out; have := HGB.out; omega)
   have d1 : wr.cell? ⟨gx, ox + j * 2 + 1, none⟩ = some (.slice aa2 m ac2) := HFw.out.cell HRE.out HGX2.out
   by_cases hlt : i < m
   ·have hiX : i < a.2.length := by rw [HMM.out]; exact hlt
    obtain ⟨x, hx⟩ : ∃ x, a.2[i]? = some x := ⟨_, List.getElem?_eq_getElem hiX⟩
    have hlti : (i : Int) < m := by omega
    have hi0 : (0 : Int) ≤ i := by omega
    obtain ⟨gv, og, cq, e1, dx, hz⟩ := (LsIn.fr HVL.out HFw.out (fun k hk _ e => by have := HGB.out; have e : k = g := e; omega)).at_ hx
    rw [HMM.out] at e1
    simp only [Value.slice.injEq, true_and] at e1
    obtain ⟨rfl, rfl⟩ := e1
    have HZ := hid hz
    have HDR : Hid (clVals s F all (a.2.drop i) = clVals s (clStep s F all x).1 (clStep s F all x).2 (a.2.drop (i + 1))) := hid (by
     obtain ⟨q1, q2⟩ := List.getElem?_eq_some_iff.1 hx
     rw [List.drop_eq_getElem_cons q1, q2]
     rfl)
    have HLT := hid hlt
    have g0 : wr.rangeAt b 0 [.slice a2 n2 c2, .slice va N vcp] := (HB3.out.fr HFw.out HGB.out.2).range 0 _ rfl
    clear hz hx hlt hiX
    go_wp2_with fail
    refine (value1_any x HZ.out wr).mono ?_
    rintro e w4 ⟨⟨y, ok, rfl, hzy, hny⟩, f4⟩
    have HZY := hid hzy; have HNY := hid hny
    have HF4 := hid (HFw.out.trans f4 (fun k e => e.elim))
    have HB4 : Hid (Blk w4 b 25 [.slice a2 n2 c2, .slice va N vcp]) := hid (HB3.out.fr HF4.out HGB.out.2)
    have HBr4 := hid (HBr.out.fr f4 id)
    have g04 := hid (HB4.out.range 0 [.slice a2 n2 c2, .slice va N vcp] rfl)
    have HFN : Hid (Fr No w w4) := hid (HF3.out.trans HF4.out (fun k e => .inr (by have e : k = g := e; have := HGB.out; have := HP0.out; omega)))
    clear f4 hzy hny d1 dx g0 HBr
    go_wp2_with (first
     | ((with_reducible refine K.atO (.load 25 _) ?_); refine wpL_valZ rfl (.agg #[.slice a2 n2 c2, .slice va N vcp]) (exec_load _ (.tmp 2) rfl b 0 rfl [.slice a2 n2 c2, .slice va N vcp] _ rfl rfl infoSc6 w4 g04.out) ?_)
     | fail)
    refine (rfindC_any _ _ s y w4 (TysIn.fr (D := No) HT.out HFN.out (fun _ _ _ e => e)) (ClsIn.fr (D := No) HC.out HFN.out (fun _ _ _ e => e)) HZY.out).mono ?_
    rintro e w5 ⟨rfl, f5⟩
    rw [clAt_idx]
    have HF5 := hid (HF4.out.trans f5 (fun k e => e.elim))
    have HB5 := hid (HB4.out.fr f5 id); have HBr5 := hid (HBr4.out.fr f5 id)
    clear f5 HF4 HB4 HBr4 g04 HFN
    cases ok with
    | false =>
     have HST : Hid (clStep s F all x = (F, false)) := hid (by unfold clStep; rw [HNY.out]; rfl)
     generalize (match s.clAt y with | none => (-1 : Int) | some i => (i : Int)) = kk
     go_wp2_with fail
     refine ⟨⟨i + 1, F, false, rfl, by go_num, HLT.out, hid (by rw [HI.out, HDR.out, HST.out]), HBr5, HF5⟩, ?_⟩
     have := HLT.out
     simp [intOf]; omega
    | true =>
     cases hcl : s.clAt y with
     | none =>
      have HST : Hid (clStep s F all x = (F, false)) := hid (by unfold clStep; rw [HNY.out]; show (match s.clAt y with | none => _ | some k => _) = _; rw [hcl])
      clear hcl
      go_wp2_with fail
      refine ⟨⟨i + 1, F, false, rfl, by go_num, HLT.out, hid (by rw [HI.out, HDR.out, HST.out]), HBr5, HF5⟩, ?_⟩
      have := HLT.out
      simp [intOf]; omega
     | some k =>
      have HST : Hid (clStep s F all x = (puts F (line s k), all)) := hid (by unfold clStep; rw [HNY.out]; show (match s.clAt y with | none => _ | some k => _) = _; rw [hcl])
      have hkN : k < N := by
       have h1 := clAt_idx s y
       rw [hcl] at h1
       rcases idx_b s.cls (fun a => low a.nm == low y) with ⟨-, h⟩ | ⟨-, h⟩
       ·rw [h1, HNN.out] at h; simp only at h; omega
       ·rw [h1] at h; simp only at h; omega
      have hk0 : (0 : Int) ≤ k := by omega
      have hki : (k : Int) < N := by omega
      have hkn : ¬ (k : Int) < 0 := by omega
      have HKN := hid hkN
      clear hcl hkN
      go_wp2_with (first
       | ((with_reducible refine K.atO (.store 4 _ _) ?_); refine wpL_setV rfl _ _ _ rfl g k (.bool true) (by first | rfl | (show Value.pointer (some ⟨g, 0 + k, none⟩) = _; rw [Nat.zero_add])) rfl rfl rfl 4 _ HBr5.out (by rw [bb_length]; exact HKN.out) infoBoo1 ?_; intro w6 HB6 HF6 HS6; refine Hid.out ?_)
       | fail)
      rw [bb_put] at HB6
      have HF6' := hid (HF5.out.trans' HF6.out)
      have HBS6 := hid (HB5.out.fr HF6.out HGB.out.2)
      clear HF6 HS6 HBr5 HB5 HF5
      refine hid ?_
      go_wp2_with fail
      go_loopw [13] (fun jv wq => ∃ (l : Nat), jv = .int .i64 l ∧ l ≤ N ∧ Hid (Blk wq g 4 (bb (upTo (put F k) (puts F (line s k)) l) N)) ∧ Hid (Fr (fun k => k = g) w6 wq)) (fun jv _ => N - (intOf jv).toNat)
      case atStart => exact ⟨0, rfl, Nat.zero_le _, hid (by rw [upTo_zero]; exact HB6.out), hid (Fr.refl _ _)⟩
      case round =>
       obtain ⟨l, rfl, hl, HBq, HFq⟩ := hrel
       have cb : wr.cell? ⟨b, 1, none⟩ = some (.slice va N vcp) := (HBS6.out.fr HFq.out HGB.out.2).cell 1
       by_cases hlN : l < N
       ·have hli : (l : Int) < N := by omega
        have hl0 : (0 : Int) ≤ l := by omega
        have HLN := hid hlN
        have HGS : Hid (wr.rangeAt b 0 [.slice a2 n2 c2, .slice va N vcp]) := hid ((HBS6.out.fr HFq.out HGB.out.2).range 0 _ rfl)
        have HFQ : Hid (Fr No w wr) := hid ((HF3.out.trans HF6'.out (fun k e => .inr (by have e : k = g := e; have := HGB.out; have := HP0.out; omega))).trans HFq.out (fun k e => .inr (by have e : k = g := e; have := HGB.out; have := HP0.out; omega)))
        clear hlN
        go_wp2_with (first
         | ((with_reducible refine K.atO (.load 25 _) ?_); refine wpL_valZ rfl (.agg #[.slice a2 n2 c2, .slice va N vcp]) (exec_load _ (.tmp 2) rfl b 0 rfl [.slice a2 n2 c2, .slice va N vcp] _ rfl rfl infoSc6 wr HGS.out) ?_)
         | fail)
        refine (above_any _ _ s l k wr (TysIn.fr (D := No) HT.out HFQ.out (fun _ _ _ e => e)) (ClsIn.fr (D := No) HC.out HFQ.out (fun _ _ _ e => e)) HK.out (by rw [HNN.out]; exact HKN.out)).mono ?_
        rintro e w7 ⟨rfl, f7⟩
        have HB7 := hid (HBq.out.fr f7 id)
        have HF7 := hid (HFq.out.trans f7 (fun k e => e.elim))
        have cl : w7.cell? ⟨g, l, none⟩ = some (.bool (put F k l)) := by
         have := HB7.out.cell l
         rw [this, bb_get _ HLN.out, upTo_at]
        have HPL := hid (puts_line s F k l)
        clear f7 HBq HFq HGS cb
        cases hpu : put F k l with
        | true =>
         rw [hpu] at cl HPL
         have HV : Hid (Value.bool true = .bool (puts F (line s k) l)) := hid (by rw [HPL.out]; rfl)
         clear hpu
         go_wp2_with (first
          | ((with_reducible refine K.atO (.store 4 _ _) ?_); refine wpL_setV rfl _ _ _ rfl g l (.bool true) (by first | rfl | (show Value.pointer (some ⟨g, 0 + l, none⟩) = _; rw [Nat.zero_add])) rfl rfl rfl 4 _ HB7.out (by rw [bb_length]; exact HLN.out) infoBoo1 ?_; intro w8 HB8 HF8 HS8)
          | fail)
         refine ⟨⟨l + 1, by go_num, HLN.out, hid (by rw [← upTo_step, ← HV.out]; exact HB8.out), hid (HF7.out.trans' HF8.out)⟩, ?_⟩
         have := HLN.out
         simp [intOf]; omega
        | false =>
         rw [hpu] at cl HPL
         obtain ⟨av, hav⟩ : ∃ av, abv s l k = av := ⟨_, rfl⟩
         rw [hav] at HPL ⊢
         have HV : Hid (Value.bool av = .bool (puts F (line s k) l)) := hid (by rw [HPL.out]; rfl)
         clear hpu hav
         go_wp2_with (first
          | ((with_reducible refine K.atO (.store 4 _ _) ?_); refine wpL_setV rfl _ _ _ rfl g l (.bool av) (by first | rfl | (show Value.pointer (some ⟨g, 0 + l, none⟩) = _; rw [Nat.zero_add])) rfl rfl rfl 4 _ HB7.out (by rw [bb_length]; exact HLN.out) infoBoo1 ?_; intro w8 HB8 HF8 HS8)
          | fail)
         refine ⟨⟨l + 1, by go_num, HLN.out, hid (by rw [← upTo_step, ← HV.out]; exact HB8.out), hid (HF7.out.trans' HF8.out)⟩, ?_⟩
         have := HLN.out
         simp [intOf]; omega
       ·obtain rfl : l = N := by omega
        have HBq2 : Hid (Blk wr g 4 (bb (puts F (line s k)) l)) := hid (by rw [← upTo_all (put F k)]; exact HBq.out)
        go_wp2_with fail
        refine ⟨⟨i + 1, puts F (line s k), all, rfl, by go_num, HLT.out, hid (by rw [HI.out, HDR.out, HST.out]), HBq2, hid (HF6'.out.trans' HFq.out)⟩, ?_⟩
        have := HLT.out
        simp [intOf]; omega
   ·obtain rfl : i = m := by omega
    have HE2 : Hid (R = (F, all)) := hid (by rw [HI.out, List.drop_of_length_le (by rw [HMM.out]; exact Nat.le_refl _)]; rfl)
    have HFN : Hid (Fr No w wr) := hid (HF3.out.trans HFw.out (fun k e => .inr (by have e : k = g := e; have := HGB.out; have := HP0.out; omega)))
    go_wp2_with fail
    go_ret2
    exact ⟨g, by rw [HE2.out]; rfl, by rw [HE2.out]; exact HBr.out, HGB.out.1, HFN.out⟩
theorem tyAt_idx (s : Sch) (n : B) : idxI s.tys (fun a => low a.nm == low n) = match s.tyAt n with | none => -1 | some i => (i : Int) := by
 unfold Sch.tyAt Sch.tn
 rw [fnd_ty]
 unfold idxI
 cases s.tys.findIdx? fun a => low a.nm == low n <;> rfl
theorem syn_ok {s : Sch} (hk : okS s = true) {n : B} {i : Nat} (h : s.tyAt n = some i) : 1 ≤ (tyOf s n).syn ∧ (tyOf s n).syn ≤ 5 := by
 have h2 := ((okS_iff s).1 hk).2.2.1 i _ (tyAt_tys h)
 unfold rT at h2
 simp only [Bool.and_eq_true, decide_eq_true_eq] at h2
 exact h2.2
theorem okVals_none {syn : Int} {seen : List B} {v : B} {r : List B} (h : normV syn v = none) : okVals syn seen (v :: r) = false := by
 unfold okVals; rw [h]
theorem okVals_some {syn : Int} {seen : List B} {v n : B} {r : List B} (h : normV syn v = some n) : okVals syn seen (v :: r) = (!(seen.contains n) && okVals syn (seen ++ [n]) r) := by
 rw [okVals, h]
theorem strs_snoc (l : List B) (x : B) : strs (l ++ [x]) = strs l ++ [.string (sb x)] := by simp [strs]
set_option maxHeartbeats 64000000 in
theorem values_any {S S2 S3 : Nat → Prop} (vt vc ve : Value) (s : Sch) (en : Ent) (w : World) (h : TysIn S w vt s.tys) (hy : ClsIn S2 w vc s.cls) (he : EnIn S3 w ve en) (hk : okS s = true) (h16 : ∀ a ∈ en, a.2.length * 16 ≤ 140737488351232) :
  Calls Tryz.prog 25 #[.agg #[vt, vc], ve] w fun e w' => e = .returned (.int .i64 (valsF s en 0 en)) ∧ Fr No w w' := by
 have HT := hid h; have HC := hid hy; have HEN := hid he; have HK := hid hk; have H16 := hid h16
 obtain ⟨va, vcp, e0, -, hle⟩ := h.form
 obtain ⟨a2, n2, c2, e2⟩ : ∃ a n c, vc = .slice a n c := by obtain ⟨a, c, e, -⟩ := hy.form; exact ⟨_, _, _, e⟩
 obtain ⟨ea, ec, e3, -, hel⟩ := he.form
 obtain ⟨N, hN⟩ : ∃ N, s.tys.length = N := ⟨_, rfl⟩
 obtain ⟨E, hE⟩ : ∃ E, en.length = E := ⟨_, rfl⟩
 have HNN := hid hN; have HEE := hid hE
 subst e0 e2 e3
 rw [hN] at HT hle ⊢
 rw [hE] at HEN hel ⊢
 have hNi : (N : Int) ≤ 140737488351232 := by omega
 have hEi : (E : Int) ≤ 140737488351232 := by omega
 obtain ⟨R, hR⟩ : ∃ R, valsF s en 0 en = R := ⟨_, rfl⟩
 have HR := hid hR
 rw [hR]
 clear h hy he hk hN hE hle hel hR h16
 go_enter Tryz.func25, Tryz.ntmps25
 go_wp2_with (first
  | ((with_reducible refine K.atO (.box 25 _) ?_); refine wpL_box rfl _ _ rfl _ rfl [.slice va N vcp, .slice a2 n2 c2] rfl ?_; intro w1 HB1 HF1 HS1; refine Hid.out ?_)
  | fail)
 obtain ⟨b, hb⟩ : ∃ b, w.heap.size = b := ⟨_, rfl⟩
 rw [hb] at HB1 ⊢
 clear hb HS1
 refine hid ?_
 go_wp2_with fail
 go_loopw [5] (fun iv wr => ∃ (i : Nat), iv = .int .i64 i ∧ i ≤ E ∧ Hid (R = valsF s en i (en.drop i)) ∧ Hid (Fr No w1 wr)) (fun iv _ => E - (intOf iv).toNat)
 case atStart => exact ⟨0, rfl, Nat.zero_le _, hid HR.out.symm, hid (Fr.refl _ _)⟩
 case round =>
  obtain ⟨i, rfl, hi, HI, HFw⟩ := hrel
  by_cases hlt : i < E
  ·have hiX : i < en.length := by rw [HEE.out]; exact hlt
   obtain ⟨a, ha⟩ : ∃ a, en[i]? = some a := ⟨_, List.getElem?_eq_getElem hiX⟩
   have hlti : (i : Int) < E := by omega
   have hi0 : (0 : Int) ≤ i := by omega
   have HFa := hid (HF1.out.trans' HFw.out)
   obtain ⟨ge, oe, cq, cs, e1, -, -, hr, -, hp⟩ := (EnIn.fr (D := No) HEN.out HFa.out (fun _ _ _ e => e)).get ha
   rw [HEE.out] at e1
   simp only [Value.slice.injEq, true_and] at e1
   obtain ⟨rfl, rfl⟩ := e1
   obtain ⟨u, rfl, hz, hls⟩ := hp
   have hmem := List.mem_of_getElem? ha
   obtain ⟨aa2, ac2, rfl, -, hvle⟩ := hls.form
   obtain ⟨m, hm⟩ : ∃ m, a.2.length = m := ⟨_, rfl⟩
   have HMM := hid hm
   have HM16 : Hid (m * 16 ≤ 140737488351232) := hid (by rw [← hm]; exact H16.out a hmem)
   have HRG := hid hr; have HZ := hid hz; have HLS := hid hls
   rw [hm] at HLS HRG hvle
   have hmi : (m : Int) ≤ 140737488351232 := by omega
   have HONE : Hid (∀ v ∈ [Value.string (sb a.1), .slice aa2 m ac2], v.oneCell' = true) := hid (by
    intro v hv
    simp only [List.mem_cons, List.not_mem_nil, or_false] at hv
    rcases hv with rfl | rfl <;> rfl)
   have HDR : Hid (en.drop i = a :: en.drop (i + 1)) := hid (drop_at ha).1
   have HLT := hid hlt
   clear hr hz hls ha hmem hlt hiX hm hvle hi
   go_wp2_with (first
    | ((with_reducible refine K.atO (.load 45 _) ?_); refine wpL_load rfl _ _ rfl ge (oe + i * 2) rfl [.string (sb a.1), .slice aa2 m ac2] _ HRG.out rfl rfl infoAt ?_)
    | ((with_reducible refine K.atO (.alloc 45) ?_); refine wpL_alloc rfl _ rfl _ zeroAt _ rfl ?_; intro y2 HB2 HF2 HS2)
    | ((with_reducible refine K.atO (.store 45 _ _) ?_); refine wpL_store rfl _ _ _ rfl wr.heap.size 0 [.string (sb a.1), .slice aa2 m ac2] rfl rfl 45 _ HB2.out (by simp) infoAt HONE.out ?_; intro y3 HB3 HF3 HS3; refine Hid.out ?_)
    | fail)
   have HFR3 : Hid (Fr No wr y3) := hid (HF2.out.trans HF3.out fun k e => .inr (by have e : k = wr.heap.size := e; omega))
   obtain ⟨q, hq⟩ : ∃ q, wr.heap.size = q := ⟨_, rfl⟩
   rw [hq] at HB3 ⊢
   have HBK : Hid (Blk y3 q 45 [.string (sb a.1), .slice aa2 m ac2]) := hid HB3.out
   have HFy := hid (HFa.out.trans' HFR3.out)
   have HFy1 := hid (HFw.out.trans' HFR3.out)
   have HBy := hid (HB1.out.fr HFy1.out id)
   have c0 : y3.cell? ⟨q, 0, none⟩ = some (.string (sb a.1)) := HBK.out.cell 0
   have HLD := hid (HBy.out.range 0 [.slice va N vcp, .slice a2 n2 c2] rfl)
   clear hq HB3 HB2 HF2 HF3 HS2 HS3
   refine hid ?_
   go_wp2_with (first
    | ((with_reducible refine K.atO (.load 25 _) ?_); refine wpL_valZ rfl (.agg #[.slice va N vcp, .slice a2 n2 c2]) (exec_load _ (.tmp 2) rfl b 0 rfl [.slice va N vcp, .slice a2 n2 c2] _ rfl rfl infoSc6 y3 HLD.out) ?_)
    | fail)
   refine (rfind_any _ _ s a.1 y3 (TysIn.fr (D := No) HT.out HFy.out (fun _ _ _ e => e)) (ClsIn.fr (D := No) HC.out HFy.out (fun _ _ _ e => e)) HZ.out).mono ?_
   rintro e w4 ⟨rfl, f4⟩
   have HF4 := hid (HFy.out.trans' f4); have HF41 := hid (HFy1.out.trans' f4); have HFz4 := hid (HFR3.out.trans' f4)
   have HBK4 := hid (HBK.out.fr f4 id)
   have c0 : w4.cell? ⟨q, 0, none⟩ = some (.string (sb a.1)) := HBK4.out.cell 0
   clear f4 HFy HFy1 HBy HLD HBK
   obtain ⟨ti, hti⟩ : ∃ ti, idxI s.tys (fun x => low x.nm == low a.1) = ti := ⟨_, rfl⟩
   have HTI := hid hti
   rw [hti]
   clear hti
   go_wp2_with fail
   refine (at_any _ en a.1 w4 (EnIn.fr (D := No) HEN.out HF4.out (fun _ _ _ e => e)) HZ.out).mono ?_
   rintro e w5 ⟨rfl, f5⟩
   have HF5 := hid (HF4.out.trans' f5); have HF51 := hid (HF41.out.trans' f5)
   have HLS5 := hid (LsIn.fr (D := No) HLS.out (HFz4.out.trans' f5) (fun _ _ _ e => e))
   have HBK5 := hid (HBK4.out.fr f5 id)
   clear f5 c0 HF4 HF41 HBK4 HFz4 HLS HFR3 HRG
   have HST : Hid (R = if s.tyAt a.1 = none ∨ idxI en (fun x => low x.1 == low a.1) < (i : Int) then 131 else if chkVals (tyOf s a.1) a.2 = 0 then valsF s en (i + 1) (en.drop (i + 1)) else chkVals (tyOf s a.1) a.2) := hid (by rw [HI.out, HDR.out, valsF])
   obtain ⟨ix, hix⟩ : ∃ ix, idxI en (fun x => low x.1 == low a.1) = ix := ⟨_, rfl⟩
   rw [hix] at HST ⊢
   clear hix
   cases hat : s.tyAt a.1 with
   | none =>
    have HE : Hid (R = 131) := hid (by rw [HST.out, if_pos (.inl hat)])
    obtain rfl : ti = -1 := by rw [← HTI.out, tyAt_idx, hat]
    clear hat HTI
    go_wp2_with fail
    go_ret
    exact ⟨by rw [HE.out]; first | done | rfl, HF5.out⟩
   | some t =>
    obtain rfl : ti = (t : Int) := by rw [← HTI.out, tyAt_idx, hat]
    have HAT := hid hat
    have htn : ¬ ((t : Int) < 0) := by omega
    by_cases hix : ix < (i : Int)
    ·have HE : Hid (R = 131) := hid (by rw [HST.out, if_pos (.inr hix)])
     clear hat HTI
     go_wp2_with fail
     go_ret
     exact ⟨by rw [HE.out]; first | done | rfl, HF5.out⟩
    ·have HS2 : Hid (R = if chkVals (tyOf s a.1) a.2 = 0 then valsF s en (i + 1) (en.drop (i + 1)) else chkVals (tyOf s a.1) a.2) := hid (by rw [HST.out, if_neg (by rintro (h | h); (rw [hat] at h; cases h); exact hix h)])
     have c1 : w5.cell? ⟨q, 1, none⟩ = some (.slice aa2 m ac2) := HBK5.out.cell 1
     clear hat HTI HST
     by_cases hm0 : m = 0
     ·have HE : Hid (R = 132) := hid (by
       have hnil : a.2 = [] := List.eq_nil_of_length_eq_zero (by rw [HMM.out, hm0])
       have : chkVals (tyOf s a.1) a.2 = 132 := by unfold chkVals; rw [if_pos hnil]
       rw [HS2.out, this]; rfl)
      subst hm0
      go_wp2_with fail
      go_ret
      exact ⟨by rw [HE.out]; first | done | rfl, HF5.out⟩
     ·have hm1 : ((m : Int) == 0) = false := beqN (by omega)
      have hm3 : ¬ (m : Int) = 0 := by omega
      have HCK : Hid (chkVals (tyOf s a.1) a.2 = if okVals (tyOf s a.1).syn [] a.2 then (if (tyOf s a.1).one ∧ 1 < m then 136 else 0) else 132) := hid (by
       have hnil : ¬ a.2 = [] := fun e => hm0 (by rw [← HMM.out, e]; rfl)
       unfold chkVals
       rw [if_neg hnil, HMM.out])
      obtain ⟨g, o, cq2, cs2, e1, -, -, hr, -, hp⟩ := (TysIn.fr (D := No) HT.out HF5.out (fun _ _ _ e => e)).get (tyAt_tys HAT.out)
      rw [HNN.out] at e1
      simp only [Value.slice.injEq, true_and] at e1
      obtain ⟨rfl, rfl⟩ := e1
      obtain ⟨rfl, -⟩ := hp
      have HD1 := hid (hr 1 _ rfl); have HD2 := hid (hr 2 _ rfl)
      have htN : (t : Int) < N := by have := (List.getElem?_eq_some_iff.1 (tyAt_tys HAT.out)).1; rw [HNN.out] at this; omega
      have ht0 : (0 : Int) ≤ t := by omega
      obtain ⟨s1, s5⟩ := syn_ok HK.out HAT.out
      obtain ⟨sy, hsy⟩ : ∃ sy, (tyOf s a.1).syn = sy := ⟨_, rfl⟩
      rw [hsy] at s1 s5 HCK
      have HSY := hid (show 1 ≤ sy ∧ sy ≤ 5 from ⟨s1, s5⟩)
      have HD1' : Hid (w5.cell? ⟨g, o + t * 6 + 1, none⟩ = some (.int .i64 sy)) := hid (by have := HD1.out; rwa [hsy] at this)
      clear hr hm0 hsy s1 s5 HD1
      go_wp2_with fail
      go_loopw [9, 10] (fun nv kv wq => ∃ (k : Nat) (seen : List B), kv = .int .i64 k ∧ k ≤ m ∧ Hid (OwR 9 1 w5 wq nv k (strs seen)) ∧ Hid (seen.length = k) ∧ Hid (okVals sy [] a.2 = okVals sy seen (a.2.drop k))) (fun _ kv _ => m - (intOf kv).toNat)
      case atStart => exact ⟨0, [], rfl, Nat.zero_le _, hid (owR_nil (Fr.refl _ _)), hid rfl, hid rfl⟩
      case round =>
       obtain ⟨k, seen, rfl, hk, HO, HSL, HOK⟩ := hrel
       obtain ⟨na, nc, rfl⟩ := HO.out.1
       have HFr := hid HO.out.fr
       have c1 : wr.cell? ⟨q, 1, none⟩ = some (.slice aa2 m ac2) := (HBK5.out.fr HFr.out id).cell 1
       by_cases hkm : k < m
       ·have hkX : k < a.2.length := by rw [HMM.out]; exact hkm
        obtain ⟨x, hx⟩ : ∃ x, a.2[k]? = some x := ⟨_, List.getElem?_eq_getElem hkX⟩
        have hkmi : (k : Int) < m := by omega
        have hk0 : (0 : Int) ≤ k := by omega
        have HFt := hid (HF5.out.trans' HFr.out)
        obtain ⟨gv, og, cv, e1, dx, hzx⟩ := (LsIn.fr (D := No) HLS5.out HFr.out (fun _ _ _ e => e)).at_ hx
        rw [HMM.out] at e1
        simp only [Value.slice.injEq, true_and] at e1
        obtain ⟨rfl, rfl⟩ := e1
        have HZX := hid hzx
        have HKM := hid hkm
        have HDRk : Hid (a.2.drop k = x :: a.2.drop (k + 1)) := hid (drop_at hx).1
        have HB1r := hid (HB1.out.fr (HF51.out.trans' HFr.out) id)
        have cb : wr.cell? ⟨b, 0, none⟩ = some (.slice (some ⟨g, o, none⟩) N vcp) := HB1r.out.cell 0
        have d1 : wr.cell? ⟨g, o + t * 6 + 1, none⟩ = some (.int .i64 sy) := HFr.out.cell HD1'.out id
        clear hx hzx hkm hkX
        go_wp2_with fail
        have hold : Facts.hold [(1, fun w' => w'.cell? ⟨b, 0, none⟩ = some (.slice (some ⟨g, o, none⟩) N vcp)), (5, fun w' => w'.cell? ⟨g, o + t * 6 + 1, none⟩ = some (.int .i64 sy)), (7, fun w' => w'.cell? ⟨q, 1, none⟩ = some (.slice (some ⟨gv, og, none⟩) m ac2)), (10, fun w' => w'.cell? ⟨gv, og + k, none⟩ = some (.string (sb x)))] wr.drew := Facts.cons_hold cb (Facts.cons_hold d1 (Facts.cons_hold c1 (Facts.cons_hold dx (Facts.nil_hold _))))
        refine wpD_region hold (by kernel_rfl) 17 rfl ?_
        (refine K.pl 0 (v := ?_) rfl ?_ ?_; rotate_left; (intro _w; go_simp; try with_reducible rfl); simp only [Act.put, K.put3])
        (refine K.tk 1 _ rfl K.m0 (v := ?_) ?_ ?_; rotate_left; (intro _w _hw; go_simp; try with_reducible rfl); simp only [Act.put, K.put3])
        (refine K.pl 2 (v := ?_) rfl ?_ ?_; rotate_left; (intro _w; go_simp; try with_reducible rfl); simp only [Act.put, K.put3])
        (refine K.pl 3 (v := ?_) rfl ?_ ?_; rotate_left; (intro _w; go_simp; try with_reducible rfl); simp only [Act.put, K.put3])
        (refine K.pl 4 (v := ?_) rfl ?_ ?_; rotate_left; (intro _w; go_simp; try with_reducible rfl); simp only [Act.put, K.put3])
        (refine K.tk 5 _ rfl K.m1 (v := ?_) ?_ ?_; rotate_left; (intro _w _hw; go_simp; try with_reducible rfl); simp only [Act.put, K.put3])
        (refine K.pl 6 (v := ?_) rfl ?_ ?_; rotate_left; (intro _w; go_simp; try with_reducible rfl); simp only [Act.put, K.put3])
        (refine K.tk 7 _ rfl K.m2 (v := ?_) ?_ ?_; rotate_left; (intro _w _hw; go_simp; try with_reducible rfl); simp only [Act.put, K.put3])
        (refine K.pl 8 (v := ?_) rfl ?_ ?_; rotate_left; (intro _w; go_simp; try with_reducible rfl); simp only [Act.put, K.put3])
        (refine K.pl 9 (v := ?_) rfl ?_ ?_; rotate_left; (intro _w; go_simp; try with_reducible rfl); simp only [Act.put, K.put3])
        (refine K.tk 10 _ rfl K.m3 (v := ?_) ?_ ?_; rotate_left; (intro _w _hw; go_simp; try with_reducible rfl); simp only [Act.put, K.put3])
        clear hold
        refine K.on 11 [(1, fun w' => w'.cell? ⟨b, 0, none⟩ = some (.slice (some ⟨g, o, none⟩) N vcp)),(7, fun w' => w'.cell? ⟨q, 1, none⟩ = some (.slice (some ⟨gv, og, none⟩) m ac2))] rfl (fun K11 hK11 => ?_)
        refine wp_call _ _ _ rfl 57 [] rfl (fun vs w => by kernel_rfl) [.int .i64 sy, .string (sb x)] (by rfl) ?_
        refine (rvalue13_any sy x HZX.out HSY.out.1 HSY.out.2 wr.drew).mono ?_
        rintro e w6 ⟨⟨y, rfl, hy⟩, f6⟩
        have HY := hid hy
        have FD : Fr No wr w6 := (Fr.refl No wr).drew.trans' f6
        have HFD := hid FD
        have hold : Facts.hold [(1, fun w' => w'.cell? ⟨b, 0, none⟩ = some (.slice (some ⟨g, o, none⟩) N vcp)), (7, fun w' => w'.cell? ⟨q, 1, none⟩ = some (.slice (some ⟨gv, og, none⟩) m ac2))] w6 := Facts.cons_hold (FD.cell cb id) (Facts.cons_hold (FD.cell c1 id) (Facts.nil_hold _))
        refine ⟨_, rfl, hK11 _ _ hold ?_⟩
        clear hK11 K11 f6 cb d1 c1 dx FD hy
        obtain ⟨iso, hiso⟩ : ∃ iso, (normV sy x).isSome = iso := ⟨_, rfl⟩
        rw [hiso]
        simp only [Act.put, K.put3]
        (refine K.pl 12 (v := ?_) rfl ?_ ?_; rotate_left; (intro _w; go_simp; try with_reducible rfl); simp only [Act.put, K.put3])
        (refine K.pl 13 (v := ?_) rfl ?_ ?_; rotate_left; (intro _w; go_simp; try with_reducible rfl); simp only [Act.put, K.put3])
        (refine K.pl 14 (v := ?_) rfl ?_ ?_; rotate_left; (intro _w; go_simp; try with_reducible rfl); simp only [Act.put, K.put3])
        (refine K.pl 15 (v := ?_) rfl ?_ ?_; rotate_left; (intro _w; go_simp; try with_reducible rfl); simp only [Act.put, K.put3])
        (refine K.pl 16 (v := ?_) rfl ?_ ?_; rotate_left; (intro _w; go_simp; try with_reducible rfl); simp only [Act.put, K.put3])
        clear hold
        refine wpD_done (by kernel_rfl) ?_ _
        have HO6 := hid (HO.out.no HFD.out)
        cases iso with
        | false =>
         have HE : Hid (R = 132) := hid (by
          have hn : normV sy x = none := by cases hv : normV sy x with
           | none => rfl
           | some _ => rw [hv] at hiso; cases hiso
          have h1 : okVals sy [] a.2 = false := by rw [HOK.out, HDRk.out, okVals_none hn]
          have h2 : chkVals (tyOf s a.1) a.2 = 132 := by rw [HCK.out, h1]; rfl
          rw [HS2.out, h2]; rfl)
         clear hiso
         go_wp2_with fail
         go_ret
         exact ⟨by rw [HE.out]; first | done | rfl, HF5.out.trans' HO6.out.fr⟩
        | true =>
         have HNV : Hid (normV sy x = some y) := hid (by
          cases hv : normV sy x with
          | none => rw [hv] at hiso; cases hiso
          | some z => rw [HY.out z hv])
         have HOK2 : Hid (okVals sy [] a.2 = (!(seen.contains y) && okVals sy (seen ++ [y]) (a.2.drop (k + 1)))) := hid (by rw [HOK.out, HDRk.out, okVals_some HNV.out])
         obtain ⟨na2, nc2, e7, -, hrd⟩ := HO6.out.reads
         simp only [Value.slice.injEq, true_and] at e7
         obtain ⟨rfl, rfl⟩ := e7
         have HRD := hid hrd
         clear hiso hrd
         go_wp2_with fail
         go_loopw [13] (fun jv wq => ∃ (j : Nat), jv = .int .i64 j ∧ j ≤ k ∧ wq = w6 ∧ Hid ((seen.take j).contains y = false)) (fun jv _ => k - (intOf jv).toNat)
         case atStart => exact ⟨0, rfl, Nat.zero_le _, rfl, hid rfl⟩
         case round =>
          obtain ⟨j, rfl, hj, rfl, HJ⟩ := hrel
          by_cases hjk : j < k
          ·have hjki : (j : Int) < k := by omega
           have hj0 : (0 : Int) ≤ j := by omega
           obtain ⟨z, hz⟩ : ∃ z, seen[j]? = some z := ⟨_, List.getElem?_eq_getElem (by rw [HSL.out]; exact hjk)⟩
           obtain ⟨gn, rfl, -, -, hrn⟩ := HRD.out.resolve_left (by omega)
           have cz : wr.cell? ⟨gn, j, none⟩ = some (.string (sb z)) := by
            have := hrn j (.string (sb z)) (by simp [strs, hz])
            simpa using this
           have HJK := hid hjk; have HZM := hid (List.mem_of_getElem? hz)
           have HNX : Hid ((seen.take (j + 1)).contains y = decide (z = y)) := hid (by
            have h1 : ([z] : List B).contains y = decide (z = y) := by rw [Bool.eq_iff_iff]; simp [eq_comm]
            rw [List.take_add_one, hz, Option.toList_some, List.contains_append, HJ.out, Bool.false_or, h1])
           clear hrn hz hjk
           by_cases hzy : z = y
           ·have HQ := hid (decide_eq_true hzy)
            have HE : Hid (R = 132) := hid (by
             have hc : seen.contains y = true := by rw [← hzy]; exact List.contains_iff_mem.2 HZM.out
             have h1 : okVals sy [] a.2 = false := by rw [HOK2.out, hc]; rfl
             have h2 : chkVals (tyOf s a.1) a.2 = 132 := by rw [HCK.out, h1]; rfl
             rw [HS2.out, h2]; rfl)
            clear hzy
            go_wp2_with (first
             | ((with_reducible refine K.atO (.binOp .eql 9 _ _ _) ?_); refine wpL_valZ rfl (.bool true) (by rw [← HQ.out]; exact exec_eqS _ _ _ rfl z y rfl rfl _) ?_)
             | fail)
            go_ret
            exact ⟨by rw [HE.out]; first | done | rfl, HF5.out.trans' HO6.out.fr⟩
           ·have HQ := hid (decide_eq_false hzy)
            clear hzy
            go_wp2_with (first
             | ((with_reducible refine K.atO (.binOp .eql 9 _ _ _) ?_); refine wpL_valZ rfl (.bool false) (by rw [← HQ.out]; exact exec_eqS _ _ _ rfl z y rfl rfl _) ?_)
             | fail)
            refine ⟨⟨j + 1, by go_num, HJK.out, by first | trivial | rfl, hid (by rw [HNX.out, HQ.out])⟩, ?_⟩
            have := HJK.out
            simp [intOf]; omega
          ·obtain rfl : j = k := by omega
           have HCN : Hid (seen.contains y = false) := hid (by have := HJ.out; rwa [List.take_of_length_le (by rw [HSL.out]; exact Nat.le_refl _)] at this)
           have HOK3 : Hid (okVals sy [] a.2 = okVals sy (seen ++ [y]) (a.2.drop (j + 1))) := hid (by rw [HOK2.out, HCN.out]; rfl)
           have HB16 : Hid ((j + 1) * 16 ≤ 140737488355328 ∧ j + 1 ≤ 140737488355328) := hid (by have := HM16.out; have := HKM.out; omega)
           clear HJ
           go_wp2_with (first
            | ((with_reducible refine K.atO (.buildSlice 37 _ _) ?_); refine wpL_app1 rfl rfl _ _ _ 37 9 rfl rfl Tryz.underlying37 Go.Proofs.YtgbiicipkbpmeaaGreatDoor.DN.infoStr rfl (by decide) (by decide) HO6.out (.string (sb y)) [.string (sb y)] rfl rfl rfl (by simp [Value.oneCell']) (fun _ => rfl) (fun _ => rfl) HB16.out.1 HB16.out.2 ?_; intro q7 a7 c7 w7 HO7 HF7)
            | fail)
           refine ⟨⟨j + 1, seen ++ [y], by go_num, HKM.out, hid (by rw [strs_snoc]; exact HO7.out), hid (by rw [List.length_append, HSL.out]; rfl), HOK3⟩, ?_⟩
           have := HKM.out
           simp [intOf]; omega
       ·obtain rfl : k = m := by omega
        have HCE : Hid (chkVals (tyOf s a.1) a.2 = if (tyOf s a.1).one ∧ 1 < k then 136 else 0) := hid (by
         have h1 : okVals sy [] a.2 = true := by rw [HOK.out, List.drop_of_length_le (by rw [HMM.out]; exact Nat.le_refl _)]; rfl
         rw [HCK.out, h1, if_pos rfl])
        have cb : wr.cell? ⟨b, 0, none⟩ = some (.slice (some ⟨g, o, none⟩) N vcp) := (HB1.out.fr (HF51.out.trans' HFr.out) id).cell 0
        have d2 : wr.cell? ⟨g, o + t * 6 + 2, none⟩ = some (.bool (tyOf s a.1).one) := HFr.out.cell HD2.out id
        have HFE := hid (HF51.out.trans' HFr.out)
        have HFN := hid (HF5.out.trans' HFr.out)
        obtain ⟨on, hon⟩ : ∃ on, (tyOf s a.1).one = on := ⟨_, rfl⟩
        rw [hon] at d2 HCE
        clear hon hkm
        cases on with
        | false =>
         have HNX : Hid (R = valsF s en (i + 1) (en.drop (i + 1))) := hid (by rw [HS2.out, HCE.out]; simp)
         go_wp2_with fail
         refine ⟨⟨i + 1, by go_num, HLT.out, HNX, HFE⟩, ?_⟩
         have := HLT.out
         simp [intOf]; omega
        | true =>
         by_cases h1 : 1 < k
         ·have h1i : (1 : Int) < k := by omega
          have HE : Hid (R = 136) := hid (by rw [HS2.out, HCE.out]; simp [h1])
          clear h1
          go_wp2_with fail
          go_ret
          exact ⟨by rw [HE.out]; first | done | rfl, HFN.out⟩
         ·have h1i : ¬ (1 : Int) < k := by omega
          have HNX : Hid (R = valsF s en (i + 1) (en.drop (i + 1))) := hid (by rw [HS2.out, HCE.out]; simp [h1])
          clear h1
          go_wp2_with fail
          refine ⟨⟨i + 1, by go_num, HLT.out, HNX, HFE⟩, ?_⟩
          have := HLT.out
          simp [intOf]; omega
  ·obtain rfl : i = E := by omega
   have HE : Hid (R = 0) := hid (by rw [HI.out, List.drop_of_length_le (by rw [HEE.out]; exact Nat.le_refl _)]; rfl)
   go_wp2_with fail
   go_ret
   exact ⟨by rw [HE.out]; first | done | rfl, HF1.out.trans' HFw.out⟩
end Go.Proofs.YtgbiicipkbpmeaaGreatDoor.FT
