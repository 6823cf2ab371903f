/-
  Part 26 of the proof: FtCc, FtCh.
-/
import Derived.Test.YtgbiicipkbpmeaaGreatDoorSk25
import Derived.Deep.DeepCutAuto
import Derived.Test.YtgbiicipkbpmeaaGreatDoorSk16
import Derived.Test.YtgbiicipkbpmeaaGreatDoorSk17
set_option linter.unusedSimpArgs false
set_option linter.unusedVariables false
namespace Go.Proofs.YtgbiicipkbpmeaaGreatDoor.FT
set_option maxRecDepth 100000
open Go.RowKit K BE DN SC
theorem cls_at {S : Nat → Prop} {w : World} {g o N cp : Nat} {X : List Cl} (h : ClsIn S w (.slice (some ⟨g, o, none⟩) N cp) X) {i : Nat} {c : Cl} (hc : X[i]? = some c) :
  ∃ v1 v2, w.rangeAt g (o + i * 5) [.string (sb c.nm), .int .i64 c.kind, .string (sb c.sup), v1, v2] ∧ LsIn S w v1 c.must ∧ LsIn S w v2 c.may := by
 obtain ⟨g', o', cq, cs, e1, -, -, hr, -, hp⟩ := h.get hc
 simp only [Value.slice.injEq, Option.some.injEq, Addr.mk.injEq, and_true] at e1
 obtain ⟨⟨rfl, rfl⟩, -, -⟩ := e1
 obtain ⟨u1, u2, rfl, -, -, h1, h2, -⟩ := hp
 exact ⟨u1, u2, hr, h1, h2⟩
theorem cls_form {S : Nat → Prop} {w : World} {va : Option Addr} {N cp : Nat} {X : List Cl} (h : ClsIn S w (.slice va N cp) X) {i : Nat} {c : Cl} (hc : X[i]? = some c) : ∃ g o, va = some ⟨g, o, none⟩ := by
 obtain ⟨g', o', cq, cs, e1, -⟩ := h.get hc
 simp only [Value.slice.injEq] at e1
 exact ⟨g', o', e1.1⟩
theorem all_range {n : Nat} {p : Nat → Bool} (h : (List.range n).all p = true) {i : Nat} (hi : i < n) : p i = true := List.all_eq_true.1 h i (List.mem_range.2 hi)
theorem all_range_step {n : Nat} {p : Nat → Bool} (h : (List.range n).all p = true) (hn : p n = true) : (List.range (n + 1)).all p = true := by
 rw [List.range_succ, List.all_append, h]
 simp [hn]
theorem some_step (s : Sch) (f : Set) (i : Nat) : someB s f (i + 1) = (someB s f i || (f i && isK1 s i)) := by
 unfold someB
 rw [List.range_succ, List.any_append]
 simp
theorem may_step (s : Sch) (f : Set) (a : Atr) (k : Nat) : may1 s f a (k + 1) = (may1 s f a k || (f k && (inB (clA s k).must a.1 || inB (clA s k).may a.1))) := by
 unfold may1
 rw [List.range_succ, List.any_append]
 simp
theorem has_idx (en : Ent) (m : B) : hasA en m = decide (0 ≤ idxI en fun a => low a.1 == low m) := (idx_any en _).symm
theorem all_take_step {α : Type} {l : List α} {p : α → Bool} {i : Nat} {x : α} (h : (l.take i).all p = true) (hx : l[i]? = some x) (hp : p x = true) : (l.take (i + 1)).all p = true := by
 rw [List.take_add_one, hx, Option.toList_some, List.all_append, h]
 simp [hp]
def restD (s : Sch) (en : Ent) (F : Set) : Int := if mustB s en F then (if mayB s en F then 0 else 135) else 134
def mayS (s : Sch) (en : Ent) (F : Set) : Int := if mayB s en F then 0 else 135
theorem exec_neI {op : Oper} {a : Act} (x y : Operand) (t : TypeId) (ho : op.op = .binOp .neq 3 x y t) (m n : Nat) (hx : a.eval x = .int .i64 (m : Int)) (hy : a.eval y = .int .i64 (n : Int)) (r : Bool) (hr : (!decide (m = n)) = r) (w : World) :
  (execOp a.eval op).run Tryz.prog w = .ok (.value (.bool r)) w := by
 subst hr
 have h : (((m : Int)) == (n : Int)) = decide (m = n) := by rw [Bool.eq_iff_iff]; simp; omega
 unfold execOp
 simp only [ho, hx, hy]
 simp [go_sem, eqGuard, Result.andThen, bne, h]
set_option maxHeartbeats 128000000 in
theorem checkD_any {S S2 S3 : Nat → Prop} (vt vc ve : Value) (s : Sch) (en : Ent) (w : World) (h : TysIn S w vt s.tys) (hy : ClsIn S2 w vc s.cls) (he : EnIn S3 w ve en) (hk : okS s = true) (h16 : ∀ a ∈ en, a.2.length * 16 ≤ 140737488351232) :
  Calls Tryz.prog 9 #[.agg #[vt, vc], ve] w fun e w' => e = .returned (.int .i64 (checkD s en)) ∧ Fr No w w' := by
 have HT := hid h; have HC := hid hy; have HEN := hid he; have HK := hid hk; have H16 := hid h16
 obtain ⟨ta, tcp, e2, -, htl⟩ := h.form
 obtain ⟨va, vcp, e0, -, -⟩ := hy.form
 obtain ⟨ea, ec, e3, -, hel⟩ := he.form
 obtain ⟨N, hN⟩ : ∃ N, s.cls.length = N := ⟨_, rfl⟩
 obtain ⟨TN, hTN⟩ : ∃ TN, s.tys.length = TN := ⟨_, rfl⟩
 obtain ⟨E, hE⟩ : ∃ E, en.length = E := ⟨_, rfl⟩
 have hN20 : N ≤ 20 := by have := ((okS_iff s).1 hk).1.2.2; omega
 have HNN := hid hN; have HEE := hid hE; have HTN := hid hTN
 subst e0 e2 e3
 rw [hN] at HC ⊢
 rw [hTN] at HT htl ⊢
 rw [hE] at HEN hel ⊢
 have hNi : (N : Int) ≤ 20 := by omega
 have hEi : (E : Int) ≤ 140737488351232 := by omega
 have hTi : (TN : Int) ≤ 140737488351232 := by omega
 have HCK := hid (vals_is s en en [] rfl (fun _ h => by cases h))
 obtain ⟨R, hR⟩ : ∃ R, checkD s en = R := ⟨_, rfl⟩
 have HR := hid hR
 rw [hR]
 obtain ⟨VT, hVT⟩ : ∃ VT, Value.slice ta TN tcp = VT := ⟨_, rfl⟩
 have HVT := hid hVT
 clear h hy he hk hN hE hTN hel htl hR hN20 h16 hVT
 go_enter Tryz.func9, Tryz.ntmps9
 go_wp2_with (first
  | ((with_reducible refine K.atO (.box 25 _) ?_); refine wpL_box rfl _ _ rfl _ rfl [.slice ta TN tcp, .slice va N vcp] rfl ?_; intro w1 HB1 HF1 HS1; refine Hid.out ?_)
  | fail)
 obtain ⟨b, hb⟩ : ∃ b, w.heap.size = b := ⟨_, rfl⟩
 rw [hb] at HB1 ⊢
 have HLD := hid (HB1.out.range 0 [.slice ta TN tcp, .slice va N vcp] rfl)
 clear hb HS1
 refine hid ?_
 go_wp2_with (first
  | ((with_reducible refine K.atO (.load 25 _) ?_); refine wpL_valZ rfl (.agg #[.slice ta TN tcp, .slice va N vcp]) (exec_load _ (.tmp 2) rfl b 0 rfl [.slice ta TN tcp, .slice va N vcp] _ rfl rfl infoSc6 w1 HLD.out) ?_)
  | fail)
 refine (values_any _ _ _ s en w1 (TysIn.fr (D := No) HT.out HF1.out (fun _ _ _ e => e)) (ClsIn.fr (D := No) HC.out HF1.out (fun _ _ _ e => e)) (EnIn.fr (D := No) HEN.out HF1.out (fun _ _ _ e => e)) HK.out H16.out).mono ?_
 rintro e w2 ⟨rfl, f2⟩
 rw [show valsF s en 0 en = (chkAts s none_ en).2 from HCK.out]
 have HF2 := hid (HF1.out.trans' f2)
 have HB2 := hid (HB1.out.fr f2 id)
 have HLD2 := hid (HB2.out.range 0 [.slice ta TN tcp, .slice va N vcp] rfl)
 clear f2 HLD HCK
 obtain ⟨cv, hcv⟩ : ∃ cv, (chkAts s none_ en).2 = cv := ⟨_, rfl⟩
 rw [hcv]
 by_cases hc0 : cv = 0
 rotate_left
 ·have HE : Hid (R = cv) := hid (by rw [← HR.out]; unfold checkD; rw [hcv, if_neg hc0])
  have bc := beqN hc0
  clear hcv hc0
  go_wp2_with fail
  go_ret
  exact ⟨by rw [HE.out]; first | done | rfl, HF2.out⟩
 ·subst hc0
  have HGD := hid ((chkAts_iff s en none_).1 hcv).1
  have HR1 : Hid (R = if (clsD s en).2 then (if chainB s (clsD s en).1 && someB s (clsD s en).1 s.cls.length then restD s en (clsD s en).1 else 133) else 133) := hid (by rw [← HR.out]; unfold checkD; rw [hcv, if_pos rfl]; rfl)
  clear hcv
  go_wp2_with (first
   | ((with_reducible refine K.atO (.load 25 _) ?_); refine wpL_valZ rfl (.agg #[.slice ta TN tcp, .slice va N vcp]) (exec_load _ (.tmp 2) rfl b 0 rfl [.slice ta TN tcp, .slice va N vcp] _ rfl rfl infoSc6 w2 HLD2.out) ?_)
   | fail)
  refine (classes_any _ _ _ s en w2 (TysIn.fr (D := No) HT.out HF2.out (fun _ _ _ e => e)) (ClsIn.fr (D := No) HC.out HF2.out (fun _ _ _ e => e)) (EnIn.fr (D := No) HEN.out HF2.out (fun _ _ _ e => e)) HK.out).mono ?_
  rintro e w3 ⟨g, rfl, hBg, hgp, f3⟩
  rw [HNN.out] at hBg ⊢
  have HF3 := hid (HF2.out.trans' f3); have HB3 := hid (HB2.out.fr f3 id); have HBG := hid hBg
  obtain ⟨F, hFe⟩ : ∃ F, (clsD s en).1 = F := ⟨_, rfl⟩
  obtain ⟨wh, hwh⟩ : ∃ wh, (clsD s en).2 = wh := ⟨_, rfl⟩
  rw [hFe, hwh, HNN.out] at HR1
  rw [hFe] at HBG
  rw [hwh]
  clear f3 hBg hgp hFe hwh HF2 HB2 HLD2
  cases wh with
  | false =>
   have HE : Hid (R = 133) := hid (by rw [HR1.out]; rfl)
   go_wp2_with fail
   go_ret
   exact ⟨by rw [HE.out]; first | done | rfl, HF3.out⟩
  | true =>
  have HR2 : Hid (R = if chainB s F && someB s F N then restD s en F else 133) := hid (by rw [HR1.out, if_pos rfl])
  clear HR1
  go_wp2_with fail
  go_loopw [8, 9] (fun sv iv wr => ∃ (i : Nat), sv = .bool (someB s F i) ∧ iv = .int .i64 i ∧ i ≤ N ∧ Hid ((List.range i).all (fun i => (List.range N).all fun k => pairB s F i k) = true) ∧ Hid (Fr No w3 wr)) (fun _ iv _ => N - (intOf iv).toNat)
  case atStart => exact ⟨0, rfl, rfl, Nat.zero_le _, hid rfl, hid (Fr.refl _ _)⟩
  case round =>
   obtain ⟨i, rfl, rfl, hi, HI, HFw⟩ := hrel
   by_cases hlt : i < N
   ·have hlti : (i : Int) < N := by omega
    have hi0 : (0 : Int) ≤ i := by omega
    have HLT := hid hlt
    obtain ⟨so, hso⟩ : ∃ so, someB s F i = so := ⟨_, rfl⟩
    have HSO := hid hso
    rw [hso]
    clear hlt hi hso
    go_wp2_with fail
    go_loopw [10] (fun kv wq => ∃ (k : Nat), kv = .int .i64 k ∧ k ≤ N ∧ Hid ((List.range k).all (fun k => pairB s F i k) = true) ∧ Hid (Fr No w3 wq)) (fun kv _ => N - (intOf kv).toNat)
    case atStart => exact ⟨0, rfl, Nat.zero_le _, hid rfl, HFw⟩
    case round =>
     obtain ⟨k, rfl, hk, HJ, HFq⟩ := hrel
     have HFt := hid (HF3.out.trans' HFq.out)
     have HGq := hid (HBG.out.fr HFq.out id); have HBq := hid (HB3.out.fr HFq.out id)
     have ci : wr.cell? ⟨g, i, none⟩ = some (.bool (F i)) := by have := HGq.out.cell i; rw [this, bb_get _ HLT.out]
     have hci := clA_at (s := s) (k := i) (by rw [HNN.out]; exact HLT.out)
     obtain ⟨gc, og, hva⟩ := cls_form HC.out hci
     have HCq := hid (ClsIn.fr (D := No) HC.out HFt.out (fun _ _ _ e => e))
     obtain ⟨i1, i2, hri, -, -⟩ := cls_at (by rw [← hva]; exact HCq.out) hci
     have di : wr.cell? ⟨gc, og + i * 5 + 1, none⟩ = some (.int .i64 (clA s i).kind) := hri 1 _ rfl
     have HDI := hid hci
     have cb : wr.cell? ⟨b, 1, none⟩ = some (.slice (some ⟨gc, og, none⟩) N vcp) := by rw [← hva]; exact HBq.out.cell 1
     clear hri hci
     by_cases hkN : k < N
     ·have hki : (k : Int) < N := by omega
      have hk0 : (0 : Int) ≤ k := by omega
      have HKL := hid hkN
      have ck : wr.cell? ⟨g, k, none⟩ = some (.bool (F k)) := by have := HGq.out.cell k; rw [this, bb_get _ hkN]
      have hck := clA_at (s := s) (k := k) (by rw [HNN.out]; exact hkN)
      obtain ⟨k1, k2, hrk, -, -⟩ := cls_at (by rw [← hva]; exact HCq.out) hck
      have dk : wr.cell? ⟨gc, og + k * 5 + 1, none⟩ = some (.int .i64 (clA s k).kind) := hrk 1 _ rfl
      have HVA := hid hva
      clear hrk hck hkN hva hk
      have HPB := hid (show pairB s F i k = (!(F i && F k && !decide (i = k) && isK1 s i && isK1 s k) || (abv s i k || abv s k i)) from rfl)
      obtain ⟨fi, hfi⟩ : ∃ fi, F i = fi := ⟨_, rfl⟩
      obtain ⟨fk, hfk⟩ : ∃ fk, F k = fk := ⟨_, rfl⟩
      obtain ⟨ki, hki'⟩ : ∃ ki, (clA s i).kind = ki := ⟨_, rfl⟩
      obtain ⟨kk, hkk'⟩ : ∃ kk, (clA s k).kind = kk := ⟨_, rfl⟩
      have hik1 : isK1 s i = decide (ki = 1) := by unfold isK1; rw [hki']
      have hkk1 : isK1 s k = decide (kk = 1) := by unfold isK1; rw [hkk']
      rw [hfi] at ci
      rw [hfk] at ck
      rw [hki'] at di
      rw [hkk'] at dk
      rw [hfi, hfk, hik1, hkk1] at HPB
      clear hfi hfk hki' hkk' hik1 hkk1
      have HNE := hid (show (!decide (i = k)) = !decide (i = k) from rfl)
      cases fi with
      | false =>
       have HPT : Hid (pairB s F i k = true) := hid (by rw [HPB.out]; simp)
       go_wp2_with fail
       refine ⟨⟨k + 1, by go_num, HKL.out, hid (all_range_step HJ.out HPT.out), HFq⟩, ?_⟩
       have := HKL.out
       simp [intOf]; omega
      | true =>
      cases fk with
      | false =>
       have HPT : Hid (pairB s F i k = true) := hid (by rw [HPB.out]; simp)
       go_wp2_with fail
       refine ⟨⟨k + 1, by go_num, HKL.out, hid (all_range_step HJ.out HPT.out), HFq⟩, ?_⟩
       have := HKL.out
       simp [intOf]; omega
      | true =>
      by_cases hik : i = k
      ·have HPT : Hid (pairB s F i k = true) := hid (by rw [HPB.out, hik]; simp)
       have HNQ := hid (show (!decide (i = k)) = false by rw [hik]; simp)
       clear hik HNE
       go_wp2_with (first
        | ((with_reducible refine K.atO (.binOp .neq 3 _ _ _) ?_); refine wpL_valZ (by rfl) (.bool false) (exec_neI _ _ _ rfl i k rfl rfl _ HNQ.out _) ?_)
        | fail)
       refine ⟨⟨k + 1, by go_num, HKL.out, hid (all_range_step HJ.out HPT.out), HFq⟩, ?_⟩
       have := HKL.out
       simp [intOf]; omega
      ·have HNQ := hid (show (!decide (i = k)) = true by rw [decide_eq_false hik]; rfl)
       have HIK := hid hik
       clear hik HNE
       by_cases hi1 : ki = 1
       rotate_left
       ·have HPT : Hid (pairB s F i k = true) := hid (by rw [HPB.out, decide_eq_false hi1]; simp)
        have bi := beqN hi1
        clear hi1
        go_wp2_with (first
         | ((with_reducible refine K.atO (.binOp .neq 3 _ _ _) ?_); refine wpL_valZ (by rfl) (.bool true) (exec_neI _ _ _ rfl i k rfl rfl _ HNQ.out _) ?_)
         | fail)
        refine ⟨⟨k + 1, by go_num, HKL.out, hid (all_range_step HJ.out HPT.out), HFq⟩, ?_⟩
        have := HKL.out
        simp [intOf]; omega
       ·subst hi1
        by_cases hk1 : kk = 1
        rotate_left
        ·have HPT : Hid (pairB s F i k = true) := hid (by rw [HPB.out, decide_eq_false hk1]; simp)
         have bk := beqN hk1
         clear hk1
         go_wp2_with (first
          | ((with_reducible refine K.atO (.binOp .neq 3 _ _ _) ?_); refine wpL_valZ (by rfl) (.bool true) (exec_neI _ _ _ rfl i k rfl rfl _ HNQ.out _) ?_)
          | fail)
         refine ⟨⟨k + 1, by go_num, HKL.out, hid (all_range_step HJ.out HPT.out), HFq⟩, ?_⟩
         have := HKL.out
         simp [intOf]; omega
        ·subst hk1
         have HPC : Hid (pairB s F i k = (abv s i k || abv s k i)) := hid (by rw [HPB.out, HNQ.out]; rfl)
         have HLq := hid (HBq.out.range 0 [.slice ta TN tcp, .slice va N vcp] rfl)
         have HTq := hid (TysIn.fr (D := No) HT.out HFt.out (fun _ _ _ e => e))
         go_wp2_with (first
          | ((with_reducible refine K.atO (.binOp .neq 3 _ _ _) ?_); refine wpL_valZ (by rfl) (.bool true) (exec_neI _ _ _ rfl i k rfl rfl _ HNQ.out _) ?_)
          | ((with_reducible refine K.atO (.load 25 _) ?_); refine wpL_valZ rfl (.agg #[.slice ta TN tcp, .slice va N vcp]) (exec_load _ (.tmp 2) rfl b 0 rfl [.slice ta TN tcp, .slice va N vcp] _ rfl rfl infoSc6 wr HLq.out) ?_)
          | fail)
         refine (above_any _ _ s i k wr HTq.out HCq.out HK.out (by rw [HNN.out]; exact HKL.out)).mono ?_
         rintro e w4 ⟨rfl, f4⟩
         have HF4 := hid (HFq.out.trans' f4)
         have HB4 := hid (HB3.out.fr HF4.out id)
         have HL4 := hid (HB4.out.range 0 [.slice ta TN tcp, .slice va N vcp] rfl)
         have HT4 := hid (TysIn.fr (D := No) HTq.out f4 (fun _ _ _ e => e)); have HC4 := hid (ClsIn.fr (D := No) HCq.out f4 (fun _ _ _ e => e))
         clear f4 ci ck di dk cb HLq HTq HCq HBq HGq
         go_wp2_with (first
          | ((with_reducible refine K.atO (.load 25 _) ?_); refine wpL_valZ rfl (.agg #[.slice ta TN tcp, .slice va N vcp]) (exec_load _ (.tmp 2) rfl b 0 rfl [.slice ta TN tcp, .slice va N vcp] _ rfl rfl infoSc6 w4 HL4.out) ?_)
          | fail)
         refine (above_any _ _ s k i w4 HT4.out HC4.out HK.out (by rw [HNN.out]; exact HLT.out)).mono ?_
         rintro e w5 ⟨rfl, f5⟩
         have HF5 := hid (HF4.out.trans' f5)
         clear f5 HL4 HT4 HC4 HB4
         obtain ⟨a1, ha1⟩ : ∃ a1, abv s i k = a1 := ⟨_, rfl⟩
         obtain ⟨a2, ha2⟩ : ∃ a2, abv s k i = a2 := ⟨_, rfl⟩
         rw [ha1, ha2] at HPC
         rw [ha1, ha2]
         clear ha1 ha2
         cases a1 with
         | true =>
          have HPT : Hid (pairB s F i k = true) := hid (by rw [HPC.out]; rfl)
          go_wp2_with fail
          refine ⟨⟨k + 1, by go_num, HKL.out, hid (all_range_step HJ.out HPT.out), HF5⟩, ?_⟩
          have := HKL.out
          simp [intOf]; omega
         | false =>
         cases a2 with
         | true =>
          have HPT : Hid (pairB s F i k = true) := hid (by rw [HPC.out]; rfl)
          go_wp2_with fail
          refine ⟨⟨k + 1, by go_num, HKL.out, hid (all_range_step HJ.out HPT.out), HF5⟩, ?_⟩
          have := HKL.out
          simp [intOf]; omega
         | false =>
          have HE : Hid (R = 133) := hid (by
           have hp : pairB s F i k = false := by rw [HPC.out]; rfl
           have hc : chainB s F = false := by
            cases hch : chainB s F with
            | false => rfl
            | true =>
             unfold chainB at hch
             rw [HNN.out] at hch
             have := all_range (all_range hch HLT.out) HKL.out
             rw [hp] at this
             cases this
           rw [HR2.out, hc]
           rfl)
          go_wp2_with fail
          go_ret
          exact ⟨by rw [HE.out]; first | done | rfl, HF3.out.trans' HF5.out⟩
     ·obtain rfl : k = N := by omega
      have HIN : Hid ((List.range (i + 1)).all (fun i => (List.range k).all fun k => pairB s F i k) = true) := hid (all_range_step HI.out HJ.out)
      have HSS := hid (some_step s F i)
      obtain ⟨fi, hfi⟩ : ∃ fi, F i = fi := ⟨_, rfl⟩
      obtain ⟨ki, hki'⟩ : ∃ ki, (clA s i).kind = ki := ⟨_, rfl⟩
      have hik1 : isK1 s i = decide (ki = 1) := by unfold isK1; rw [hki']
      rw [hfi] at ci
      rw [hki'] at di
      rw [hfi, hik1, HSO.out] at HSS
      clear hfi hki' hik1 hkN hk hva
      cases so with
      | true =>
       have HV : Hid (someB s F (i + 1) = true) := hid (by rw [HSS.out]; rfl)
       go_wp2_with fail
       refine ⟨⟨i + 1, by rw [HV.out], by go_num, HLT.out, HIN, HFq⟩, ?_⟩
       have := HLT.out
       simp [intOf]; omega
      | false =>
      cases fi with
      | false =>
       have HV : Hid (someB s F (i + 1) = false) := hid (by rw [HSS.out]; rfl)
       go_wp2_with fail
       refine ⟨⟨i + 1, by rw [HV.out], by go_num, HLT.out, HIN, HFq⟩, ?_⟩
       have := HLT.out
       simp [intOf]; omega
      | true =>
      by_cases hi1 : ki = 1
      ·have HV : Hid (someB s F (i + 1) = true) := hid (by rw [HSS.out, decide_eq_true hi1]; rfl)
       subst hi1
       go_wp2_with fail
       refine ⟨⟨i + 1, by rw [HV.out], by go_num, HLT.out, HIN, HFq⟩, ?_⟩
       have := HLT.out
       simp [intOf]; omega
      ·have HV : Hid (someB s F (i + 1) = false) := hid (by rw [HSS.out, decide_eq_false hi1]; rfl)
       have bi := beqN hi1
       clear hi1
       go_wp2_with fail
       refine ⟨⟨i + 1, by rw [HV.out], by go_num, HLT.out, HIN, HFq⟩, ?_⟩
       have := HLT.out
       simp [intOf]; omega
   ·obtain rfl : i = N := by omega
    have HCH : Hid (chainB s F = true) := hid (by unfold chainB; rw [HNN.out]; exact HI.out)
    have HR3 : Hid (R = if someB s F i then restD s en F else 133) := hid (by rw [HR2.out, HCH.out, Bool.true_and])
    obtain ⟨so, hso⟩ : ∃ so, someB s F i = so := ⟨_, rfl⟩
    rw [hso] at HR3 ⊢
    clear hso HI HR2 HCH
    cases so with
    | false =>
     have HE : Hid (R = 133) := hid (by rw [HR3.out]; rfl)
     go_wp2_with fail
     go_ret
     exact ⟨by rw [HE.out]; first | done | rfl, HF3.out.trans' HFw.out⟩
    | true =>
     have HR4 : Hid (R = restD s en F) := hid (by rw [HR3.out, if_pos rfl])
     clear HR3
     go_wp2_with fail
     go_loopw [13] (fun iv wq => ∃ (j : Nat), iv = .int .i64 j ∧ j ≤ i ∧ Hid ((List.range j).all (fun i => !F i || (clA s i).must.all fun m => hasA en m) = true) ∧ Hid (Fr No w3 wq)) (fun iv _ => i - (intOf iv).toNat)
     case atStart => exact ⟨0, rfl, Nat.zero_le _, hid rfl, HFw⟩
     case round =>
      obtain ⟨j, rfl, hj, HJ, HFq⟩ := hrel
      by_cases hjN : j < i
      ·have hji : (j : Int) < i := by omega
       have hj0 : (0 : Int) ≤ j := by omega
       have HLJ := hid hjN
       have hcj := clA_at (s := s) (k := j) (by rw [HNN.out]; exact hjN)
       obtain ⟨gc, og, rfl⟩ := cls_form HC.out hcj
       have HCJ := hid hcj
       clear hjN hj hcj
       go_wp2_with fail
       go_loopw [14] (fun kv wq => ∃ (k : Nat), kv = .int .i64 k ∧ k ≤ (clA s j).must.length ∧ Hid (k = 0 ∨ F j = true) ∧ Hid (((clA s j).must.take k).all (fun m => hasA en m) = true) ∧ Hid (Fr No w3 wq)) (fun kv _ => (clA s j).must.length - (intOf kv).toNat)
       case atStart => exact ⟨0, rfl, Nat.zero_le _, hid (.inl rfl), hid rfl, HFq⟩
       case round =>
        obtain ⟨k, rfl, hk, HK0, HM, HFr⟩ := hrel
        have HFt := hid (HF3.out.trans' HFr.out)
        have HGq := hid (HBG.out.fr HFr.out id); have HBq := hid (HB3.out.fr HFr.out id)
        have cj : wr.cell? ⟨g, j, none⟩ = some (.bool (F j)) := by have := HGq.out.cell j; rw [this, bb_get _ HLJ.out]
        have HCq := hid (ClsIn.fr (D := No) HC.out HFt.out (fun _ _ _ e => e))
        obtain ⟨v1, v2, hrj, hm1, -⟩ := cls_at HCq.out HCJ.out
        obtain ⟨ma, mc, rfl, -, hml⟩ := hm1.form
        have dj : wr.cell? ⟨gc, og + j * 5 + 3, none⟩ = some (.slice ma (clA s j).must.length mc) := hrj 3 _ rfl
        have HMU := hid hm1
        have cb : wr.cell? ⟨b, 1, none⟩ = some (.slice (some ⟨gc, og, none⟩) i vcp) := HBq.out.cell 1
        obtain ⟨ml, hmle⟩ : ∃ ml, (clA s j).must.length = ml := ⟨_, rfl⟩
        have HML := hid hmle
        rw [hmle] at dj hml hk HMU ⊢
        have hmi : (ml : Int) ≤ 140737488351232 := by omega
        obtain ⟨fj, hfj⟩ : ∃ fj, F j = fj := ⟨_, rfl⟩
        have HFJ := hid hfj
        rw [hfj] at cj HK0
        clear hrj hm1 hmle hfj hml
        by_cases hkm : k < ml
        ·have hkmi : (k : Int) < ml := by omega
         have hk0 : (0 : Int) ≤ k := by omega
         cases fj with
         | false =>
          have HKZ : Hid (k = 0) := hid (HK0.out.resolve_right (by decide))
          have HNX : Hid ((List.range (j + 1)).all (fun i => !F i || (clA s i).must.all fun m => hasA en m) = true) := hid (all_range_step HJ.out (by rw [HFJ.out]; rfl))
          clear hkm hk
          go_wp2_with fail
          refine ⟨⟨j + 1, by go_num, HLJ.out, HNX, HFr⟩, ?_⟩
          have := HLJ.out
          simp [intOf]; omega
         | true =>
          obtain ⟨x, hx⟩ : ∃ x, (clA s j).must[k]? = some x := ⟨_, List.getElem?_eq_getElem (by rw [HML.out]; exact hkm)⟩
          obtain ⟨gm, om, cm, e1, dx, hzx⟩ := HMU.out.at_ hx
          rw [HML.out] at e1
          simp only [Value.slice.injEq, true_and] at e1
          obtain ⟨rfl, rfl⟩ := e1
          have HZX := hid hzx; have HKM := hid hkm
          have HXX := hid hx
          clear hx hzx hkm hk
          go_wp2_with fail
          refine (at_any _ en x wr (EnIn.fr (D := No) HEN.out HFt.out (fun _ _ _ e => e)) HZX.out).mono ?_
          rintro e w6 ⟨rfl, f6⟩
          have HF6 := hid (HFr.out.trans' f6)
          have HHX := hid (has_idx en x)
          clear f6 cj dj cb dx HGq HBq
          obtain ⟨ix, hix⟩ : ∃ ix, idxI en (fun a => low a.1 == low x) = ix := ⟨_, rfl⟩
          rw [hix] at HHX ⊢
          clear hix
          by_cases hneg : ix < 0
          ·have HE : Hid (R = 134) := hid (by
            have hh : hasA en x = false := by rw [HHX.out]; exact decide_eq_false (by omega)
            have hmb : mustB s en F = false := by
             cases hmb : mustB s en F with
             | false => rfl
             | true =>
              unfold mustB at hmb
              rw [HNN.out] at hmb
              have h1 := all_range hmb HLJ.out
              rw [HFJ.out] at h1
              have h2 := List.all_eq_true.1 h1 x (List.mem_of_getElem? HXX.out)
              rw [hh] at h2
              cases h2
            rw [HR4.out]
            unfold restD
            rw [hmb]
            rfl)
           go_wp2_with fail
           go_ret
           exact ⟨by rw [HE.out]; first | done | rfl, HF3.out.trans' HF6.out⟩
          ·have HNX : Hid (((clA s j).must.take (k + 1)).all (fun m => hasA en m) = true) := hid (all_take_step HM.out HXX.out (by rw [HHX.out]; exact decide_eq_true (by omega)))
           go_wp2_with fail
           refine ⟨⟨k + 1, by go_num, HKM.out, hid (.inr HFJ.out), HNX, HF6⟩, ?_⟩
           have := HKM.out
           simp [intOf]; omega
        ·obtain rfl : k = ml := by omega
         have HNX : Hid ((List.range (j + 1)).all (fun i => !F i || (clA s i).must.all fun m => hasA en m) = true) := hid (all_range_step HJ.out (by
          have h1 := HM.out
          rw [List.take_of_length_le (by rw [HML.out]; exact Nat.le_refl _)] at h1
          rw [h1, Bool.or_true]))
         clear hkm hk
         go_wp2_with fail
         refine ⟨⟨j + 1, by go_num, HLJ.out, HNX, HFr⟩, ?_⟩
         have := HLJ.out
         simp [intOf]; omega
      ·obtain rfl : j = i := by omega
       have HR5 : Hid (R = mayS s en F) := hid (by
        have hmb : mustB s en F = true := by unfold mustB; rw [HNN.out]; exact HJ.out
        rw [HR4.out]
        unfold restD
        rw [hmb, if_pos rfl]
        rfl)
       clear HJ hj hjN
       go_wp2_with fail
       go_loopw [16] (fun iv wq => ∃ (p : Nat), iv = .int .i64 p ∧ p ≤ E ∧ Hid ((en.take p).all (mayA s F) = true) ∧ Hid (Fr No w3 wq)) (fun iv _ => E - (intOf iv).toNat)
       case atStart => exact ⟨0, rfl, Nat.zero_le _, hid rfl, HFq⟩
       case round =>
        obtain ⟨p, rfl, hp, HP, HFp⟩ := hrel
        by_cases hpE : p < E
        ·obtain ⟨a, ha⟩ : ∃ a, en[p]? = some a := ⟨_, List.getElem?_eq_getElem (by rw [HEE.out]; exact hpE)⟩
         have hpi : (p : Int) < E := by omega
         have hp0 : (0 : Int) ≤ p := by omega
         have HFt := hid (HF3.out.trans' HFp.out)
         have HBp := hid (HB3.out.fr HFp.out id)
         obtain ⟨ge, oe, cq, cs, e1, -, -, hr, -, hpp⟩ := (EnIn.fr (D := No) HEN.out HFt.out (fun _ _ _ e => e)).get ha
         rw [HEE.out] at e1
         simp only [Value.slice.injEq, true_and] at e1
         obtain ⟨rfl, rfl⟩ := e1
         obtain ⟨u, rfl, hz, -⟩ := hpp
         have d0 : wr.cell? ⟨ge, oe + p * 2, none⟩ = some (.string (sb a.1)) := by have := hr 0 _ rfl; simpa using this
         have HZ := hid hz; have HPE := hid hpE
         have HAA := hid ha
         obtain ⟨t, tt, hat, -, -⟩ := HGD.out a (List.mem_of_getElem? ha)
         have HAT := hid hat
         have g0 : wr.rangeAt b 0 [.slice ta TN tcp, .slice va j vcp] := HBp.out.range 0 _ rfl
         clear hr hz ha hpE hp hat
         go_wp2_with fail
         have hold : Facts.hold [(0, fun w' => w'.rangeAt b 0 [.slice ta TN tcp, .slice va j vcp]), (5, fun w' => w'.cell? ⟨ge, oe + p * 2, none⟩ = some (.string (sb a.1)))] wr.drew := Facts.cons_hold g0 (Facts.cons_hold d0 (Facts.nil_hold _))
         refine wpD_region hold (by kernel_rfl) 8 rfl ?_
         (refine K.pl 1 (v := ?_) rfl ?_ ?_; rotate_left; (intro _w; go_simp; try with_reducible rfl); simp only [Act.put, K.put3])
         (refine K.pl 2 (v := ?_) rfl ?_ ?_; rotate_left; (intro _w; go_simp; try with_reducible rfl); simp only [Act.put, K.put3])
         (refine K.pl 3 (v := ?_) rfl ?_ ?_; rotate_left; (intro _w; go_simp; try with_reducible rfl); simp only [Act.put, K.put3])
         (refine K.pl 4 (v := ?_) rfl ?_ ?_; rotate_left; (intro _w; go_simp; try with_reducible rfl); simp only [Act.put, K.put3])
         (refine K.tk 5 _ rfl K.m1 (v := ?_) ?_ ?_; rotate_left; (intro _w _hw; go_simp; try with_reducible rfl); simp only [Act.put, K.put3])
         (refine K.tk 0 _ rfl K.m0 (exec_load _ _ rfl b 0 rfl _ _ rfl rfl infoSc6) ?_; simp only [Act.put, K.put3])
         clear hold
         refine K.on 6 [] rfl (fun K6 hK6 => ?_)
         refine wp_call _ _ _ rfl 29 [] rfl (fun vs w => by kernel_rfl) [.agg #[.slice ta TN tcp, .slice va j vcp], .string (sb a.1)] (by rfl) ?_
         have FD := HFt.out.trans' (Fr.refl No wr).drew
         refine (rfind_any _ _ s a.1 wr.drew (TysIn.fr (D := No) HT.out FD (fun _ _ _ e => e)) (ClsIn.fr (D := No) HC.out FD (fun _ _ _ e => e)) HZ.out).mono ?_
         rintro e w6 ⟨rfl, f6⟩
         have HF6 : Hid (Fr No w3 w6) := hid ((HFp.out.trans' (Fr.refl No wr).drew).trans' f6)
         have d06 : w6.cell? ⟨ge, oe + p * 2, none⟩ = some (.string (sb a.1)) := ((Fr.refl No wr).drew.trans' f6).cell d0 id
         have HD06 := hid d06
         have hold : Facts.hold [] w6 := Facts.nil_hold _
         refine ⟨_, rfl, hK6 _ _ hold ?_⟩
         rw [tyAt_idx, HAT.out]
         clear hK6 K6 f6 g0 d0 FD d06
         simp only [Act.put, K.put3]
         (refine K.pl 7 (v := ?_) rfl ?_ ?_; rotate_left; (intro _w; go_simp; try with_reducible rfl); simp only [Act.put, K.put3])
         clear hold
         refine wpD_done (by kernel_rfl) ?_ _
         obtain ⟨gt, ot, cq2, cs2, e1, -, -, hr, -, hpp⟩ := (TysIn.fr (D := No) HT.out (HF3.out.trans' HF6.out) (fun _ _ _ e => e)).get (tyAt_tys HAT.out)
         rw [HTN.out] at e1
         simp only [Value.slice.injEq, true_and] at e1
         obtain ⟨rfl, rfl⟩ := e1
         obtain ⟨rfl, -⟩ := hpp
         have d4 : w6.cell? ⟨gt, ot + t * 6 + 4, none⟩ = some (.bool (tyOf s a.1).sys) := hr 4 _ rfl
         have htN : (t : Int) < TN := by have := (List.getElem?_eq_some_iff.1 (tyAt_tys HAT.out)).1; rw [HTN.out] at this; omega
         have ht0 : (0 : Int) ≤ t := by omega
         have cb : w6.cell? ⟨b, 0, none⟩ = some (.slice (some ⟨gt, ot, none⟩) TN tcp) := (HB3.out.fr HF6.out id).cell 0
         have HMA : Hid (mayA s F a = ((decide (t = 0) || (tyOf s a.1).sys) || may1 s F a j)) := hid (by unfold mayA; rw [HAT.out, HNN.out]; simp)
         obtain ⟨sys, hsys⟩ : ∃ sys, (tyOf s a.1).sys = sys := ⟨_, rfl⟩
         rw [hsys] at d4 HMA
         obtain ⟨base, hbase⟩ : ∃ base, (decide (t = 0) || sys) = base := ⟨_, rfl⟩
         rw [hbase] at HMA
         have HBASE := hid hbase
         clear hr hsys hbase
         go_upto_region 35 with fail
         go_cut [18] (fun s18 wx => s18 = .bool base ∧ wx = w6)
         case first =>
          by_cases ht : t = 0
          ·have HV : Hid (base = true) := hid (by rw [← HBASE.out, decide_eq_true ht]; rfl)
           subst ht
           go_wp2_with fail
           go_meet
           exact ⟨by rw [HV.out]; first | done | rfl, rfl⟩
          ·have HV : Hid (base = sys) := hid (by rw [← HBASE.out, decide_eq_false ht]; rfl)
           have bt : ((t : Int) == 0) = false := beqN (by omega)
           go_wp2_with fail
           go_meet
           exact ⟨by rw [HV.out]; first | done | rfl, rfl⟩
         case rest =>
          obtain ⟨rfl, hwc⟩ := hcut
          have hwc := hwc.symm
          subst hwc
          clear d4 cb
          go_wp2_with fail
          go_loopw [18, 19] (fun mv kv wq => ∃ (k : Nat), mv = .bool (base || may1 s F a k) ∧ kv = .int .i64 k ∧ k ≤ j ∧ Hid (Fr No w3 wq)) (fun _ kv _ => j - (intOf kv).toNat)
          case atStart => exact ⟨0, by simp [may1], rfl, Nat.zero_le _, HF6⟩
          case round =>
           obtain ⟨k, rfl, rfl, hk, HFk⟩ := hrel
           have HMS := hid (may_step s F a k)
           by_cases hkj : k < j
           ·have hki : (k : Int) < j := by omega
            have hk0 : (0 : Int) ≤ k := by omega
            have HKJ := hid hkj
            have hck := clA_at (s := s) (k := k) (by rw [HNN.out]; exact hkj)
            obtain ⟨gc, og, rfl⟩ := cls_form HC.out hck
            have HFu := hid (HF3.out.trans' HFk.out)
            have HCq := hid (ClsIn.fr (D := No) HC.out HFu.out (fun _ _ _ e => e))
            obtain ⟨v1, v2, hrk, hm1, hm2⟩ := cls_at HCq.out hck
            obtain ⟨ma, mc, rfl, -, -⟩ := hm1.form
            obtain ⟨ya, yc, rfl, -, -⟩ := hm2.form
            have HM1 := hid hm1; have HM2 := hid hm2
            have dm : wr.cell? ⟨gc, og + k * 5 + 3, none⟩ = some (.slice ma (clA s k).must.length mc) := hrk 3 _ rfl
            have HDY : Hid (wr.cell? ⟨gc, og + k * 5 + 4, none⟩ = some (.slice ya (clA s k).may.length yc)) := hid (hrk 4 _ rfl)
            have cb : wr.cell? ⟨b, 1, none⟩ = some (.slice (some ⟨gc, og, none⟩) j vcp) := (HB3.out.fr HFk.out id).cell 1
            obtain ⟨ge2, oe2, cq3, cs3, e1, -, -, hr, -, hpp⟩ := (EnIn.fr (D := No) HEN.out HFu.out (fun _ _ _ e => e)).get HAA.out
            rw [HEE.out] at e1
            simp only [Value.slice.injEq, true_and, Option.some.injEq, Addr.mk.injEq, and_true] at e1
            obtain ⟨⟨rfl, rfl⟩, rfl⟩ := e1
            obtain ⟨u3, rfl, -, -⟩ := hpp
            have d0 : wr.cell? ⟨ge, oe + p * 2, none⟩ = some (.string (sb a.1)) := by have := hr 0 _ rfl; simpa using this
            clear hrk hm1 hm2 hr hck hkj hk
            obtain ⟨acc, hacc⟩ : ∃ acc, (base || may1 s F a k) = acc := ⟨_, rfl⟩
            have HACC := hid hacc
            rw [hacc]
            clear hacc
            go_wp2_with fail
            have hold : Facts.hold [(1, fun w' => w'.cell? ⟨b, 1, none⟩ = some (.slice (some ⟨gc, og, none⟩) j vcp)), (5, fun w' => w'.cell? ⟨gc, og + k * 5 + 3, none⟩ = some (.slice ma (clA s k).must.length mc)), (10, fun w' => w'.cell? ⟨ge, oe + p * 2, none⟩ = some (.string (sb a.1)))] wr.drew := Facts.cons_hold cb (Facts.cons_hold dm (Facts.cons_hold d0 (Facts.nil_hold _)))
            refine wpD_region hold (by kernel_rfl) 13 rfl ?_
            (refine K.pl 0 (v := ?_) rfl ?_ ?_; rotate_left; (intro _w; go_simp; try with_reducible rfl); simp only [Act.put, K.put3])
            (refine K.tk 1 _ rfl K.m0 (v := ?_) ?_ ?_; rotate_left; (intro _w _hw; go_simp; try with_reducible rfl); simp only [Act.put, K.put3])
            (refine K.pl 2 (v := ?_) rfl ?_ ?_; rotate_left; (intro _w; go_simp; try with_reducible rfl); simp only [Act.put, K.put3])
            (refine K.pl 3 (v := ?_) rfl ?_ ?_; rotate_left; (intro _w; go_simp; try with_reducible rfl); simp only [Act.put, K.put3])
            (refine K.pl 4 (v := ?_) rfl ?_ ?_; rotate_left; (intro _w; go_simp; try with_reducible rfl); simp only [Act.put, K.put3])
            (refine K.tk 5 _ rfl K.m1 (v := ?_) ?_ ?_; rotate_left; (intro _w _hw; go_simp; try with_reducible rfl); simp only [Act.put, K.put3])
            (refine K.pl 6 (v := ?_) rfl ?_ ?_; rotate_left; (intro _w; go_simp; try with_reducible rfl); simp only [Act.put, K.put3])
            (refine K.pl 7 (v := ?_) rfl ?_ ?_; rotate_left; (intro _w; go_simp; try with_reducible rfl); simp only [Act.put, K.put3])
            (refine K.pl 8 (v := ?_) rfl ?_ ?_; rotate_left; (intro _w; go_simp; try with_reducible rfl); simp only [Act.put, K.put3])
            (refine K.pl 9 (v := ?_) rfl ?_ ?_; rotate_left; (intro _w; go_simp; try with_reducible rfl); simp only [Act.put, K.put3])
            (refine K.tk 10 _ rfl K.m2 (v := ?_) ?_ ?_; rotate_left; (intro _w _hw; go_simp; try with_reducible rfl); simp only [Act.put, K.put3])
            clear hold
            refine K.on 11 [(1, fun w' => w'.cell? ⟨b, 1, none⟩ = some (.slice (some ⟨gc, og, none⟩) j vcp))] rfl (fun K11 hK11 => ?_)
            refine wp_call _ _ _ rfl 30 [] rfl (fun vs w => by kernel_rfl) [.slice ma (clA s k).must.length mc, .string (sb a.1)] (by rfl) ?_
            refine (in_any _ (clA s k).must a.1 wr.drew (LsIn.fr (D := No) HM1.out (Fr.refl No wr).drew (fun _ _ _ e => e)) HZ.out).mono ?_
            rintro e w7 ⟨rfl, f7⟩
            have FD : Fr No wr w7 := (Fr.refl No wr).drew.trans' f7
            have hold : Facts.hold [(1, fun w' => w'.cell? ⟨b, 1, none⟩ = some (.slice (some ⟨gc, og, none⟩) j vcp))] w7 := Facts.cons_hold (FD.cell cb id) (Facts.nil_hold _)
            refine ⟨_, rfl, hK11 _ _ hold ?_⟩
            have cb7 := FD.cell cb id
            have d07 := FD.cell d0 id
            have dy7 := FD.cell HDY.out id
            have HM27 := hid (LsIn.fr (D := No) HM2.out FD (fun _ _ _ e => e))
            have HF7 := hid (HFk.out.trans' FD)
            clear hK11 K11 f7 cb dm d0 FD
            simp only [Act.put, K.put3]
            (refine K.pl 12 (v := ?_) rfl ?_ ?_; rotate_left; (intro _w; go_simp; try with_reducible rfl); simp only [Act.put, K.put3])
            clear hold
            refine wpD_done (by kernel_rfl) ?_ _
            go_wp2_with fail
            have hold : Facts.hold [(1, fun w' => w'.cell? ⟨b, 1, none⟩ = some (.slice (some ⟨gc, og, none⟩) j vcp)), (5, fun w' => w'.cell? ⟨gc, og + k * 5 + 4, none⟩ = some (.slice ya (clA s k).may.length yc)), (10, fun w' => w'.cell? ⟨ge, oe + p * 2, none⟩ = some (.string (sb a.1)))] w7.drew := Facts.cons_hold cb7 (Facts.cons_hold dy7 (Facts.cons_hold d07 (Facts.nil_hold _)))
            refine wpD_region hold (by kernel_rfl) 13 rfl ?_
            (refine K.pl 0 (v := ?_) rfl ?_ ?_; rotate_left; (intro _w; go_simp; try with_reducible rfl); simp only [Act.put, K.put3])
            (refine K.tk 1 _ rfl K.m0 (v := ?_) ?_ ?_; rotate_left; (intro _w _hw; go_simp; try with_reducible rfl); simp only [Act.put, K.put3])
            (refine K.pl 2 (v := ?_) rfl ?_ ?_; rotate_left; (intro _w; go_simp; try with_reducible rfl); simp only [Act.put, K.put3])
            (refine K.pl 3 (v := ?_) rfl ?_ ?_; rotate_left; (intro _w; go_simp; try with_reducible rfl); simp only [Act.put, K.put3])
            (refine K.pl 4 (v := ?_) rfl ?_ ?_; rotate_left; (intro _w; go_simp; try with_reducible rfl); simp only [Act.put, K.put3])
            (refine K.tk 5 _ rfl K.m1 (v := ?_) ?_ ?_; rotate_left; (intro _w _hw; go_simp; try with_reducible rfl); simp only [Act.put, K.put3])
            (refine K.pl 6 (v := ?_) rfl ?_ ?_; rotate_left; (intro _w; go_simp; try with_reducible rfl); simp only [Act.put, K.put3])
            (refine K.pl 7 (v := ?_) rfl ?_ ?_; rotate_left; (intro _w; go_simp; try with_reducible rfl); simp only [Act.put, K.put3])
            (refine K.pl 8 (v := ?_) rfl ?_ ?_; rotate_left; (intro _w; go_simp; try with_reducible rfl); simp only [Act.put, K.put3])
            (refine K.pl 9 (v := ?_) rfl ?_ ?_; rotate_left; (intro _w; go_simp; try with_reducible rfl); simp only [Act.put, K.put3])
            (refine K.tk 10 _ rfl K.m2 (v := ?_) ?_ ?_; rotate_left; (intro _w _hw; go_simp; try with_reducible rfl); simp only [Act.put, K.put3])
            clear hold
            refine K.on 11 [(1, fun w' => w'.cell? ⟨b, 1, none⟩ = some (.slice (some ⟨gc, og, none⟩) j vcp))] rfl (fun K11 hK11 => ?_)
            refine wp_call _ _ _ rfl 30 [] rfl (fun vs w => by kernel_rfl) [.slice ya (clA s k).may.length yc, .string (sb a.1)] (by rfl) ?_
            refine (in_any _ (clA s k).may a.1 w7.drew (LsIn.fr (D := No) HM27.out (Fr.refl No w7).drew (fun _ _ _ e => e)) HZ.out).mono ?_
            rintro e w8 ⟨rfl, f8⟩
            have FD : Fr No w7 w8 := (Fr.refl No w7).drew.trans' f8
            have hold : Facts.hold [(1, fun w' => w'.cell? ⟨b, 1, none⟩ = some (.slice (some ⟨gc, og, none⟩) j vcp))] w8 := Facts.cons_hold (FD.cell cb7 id) (Facts.nil_hold _)
            refine ⟨_, rfl, hK11 _ _ hold ?_⟩
            have HF8 := hid (HF7.out.trans' FD)
            have ck : w8.cell? ⟨g, k, none⟩ = some (.bool (F k)) := by have := (HBG.out.fr HF8.out id).cell k; rw [this, bb_get _ HKJ.out]
            clear hK11 K11 f8 cb7 dy7 d07 FD
            simp only [Act.put, K.put3]
            (refine K.pl 12 (v := ?_) rfl ?_ ?_; rotate_left; (intro _w; go_simp; try with_reducible rfl); simp only [Act.put, K.put3])
            clear hold
            refine wpD_done (by kernel_rfl) ?_ _
            obtain ⟨q1, hq1⟩ : ∃ q1, inB (clA s k).must a.1 = q1 := ⟨_, rfl⟩
            obtain ⟨q2, hq2⟩ : ∃ q2, inB (clA s k).may a.1 = q2 := ⟨_, rfl⟩
            obtain ⟨fk, hfk⟩ : ∃ fk, F k = fk := ⟨_, rfl⟩
            rw [hfk] at ck
            rw [hfk, hq1, hq2] at HMS
            rw [hq1, hq2]
            have HNV : Hid ((base || may1 s F a (k + 1)) = (acc || (fk && (q1 || q2)))) := hid (by rw [HMS.out, ← Bool.or_assoc, HACC.out])
            clear hq1 hq2 hfk
            cases acc with
            | true =>
             go_wp2_with fail
             refine ⟨⟨k + 1, by rw [HNV.out]; rfl, by go_num, HKJ.out, HF8⟩, ?_⟩
             have := HKJ.out
             simp [intOf]; omega
            | false =>
            cases fk with
            | false =>
             go_wp2_with fail
             refine ⟨⟨k + 1, by rw [HNV.out]; rfl, by go_num, HKJ.out, HF8⟩, ?_⟩
             have := HKJ.out
             simp [intOf]; omega
            | true =>
            cases q1 with
            | true =>
             go_wp2_with fail
             refine ⟨⟨k + 1, by rw [HNV.out]; rfl, by go_num, HKJ.out, HF8⟩, ?_⟩
             have := HKJ.out
             simp [intOf]; omega
            | false =>
             go_wp2_with fail
             refine ⟨⟨k + 1, by rw [HNV.out]; rfl, by go_num, HKJ.out, HF8⟩, ?_⟩
             have := HKJ.out
             simp [intOf]; omega
           ·obtain rfl : k = j := by omega
            obtain ⟨acc, hacc⟩ : ∃ acc, (base || may1 s F a k) = acc := ⟨_, rfl⟩
            rw [hacc] at HMA ⊢
            clear hacc hkj hk
            cases acc with
            | true =>
             have HNX : Hid ((en.take (p + 1)).all (mayA s F) = true) := hid (all_take_step HP.out HAA.out HMA.out)
             go_wp2_with fail
             refine ⟨⟨p + 1, by go_num, HPE.out, HNX, HFk⟩, ?_⟩
             have := HPE.out
             simp [intOf]; omega
            | false =>
             have HE : Hid (R = 135) := hid (by
              have hmb : mayB s en F = false := by
               cases hmb : mayB s en F with
               | false => rfl
               | true =>
                unfold mayB at hmb
                have h2 := List.all_eq_true.1 hmb a (List.mem_of_getElem? HAA.out)
                rw [HMA.out] at h2
                cases h2
              rw [HR5.out]
              unfold mayS
              rw [hmb]
              rfl)
             go_wp2_with fail
             go_ret
             exact ⟨by rw [HE.out]; first | done | rfl, HF3.out.trans' HFk.out⟩
        ·obtain rfl : p = E := by omega
         have HE : Hid (R = 0) := hid (by
          have hmb : mayB s en F = true := by
           have h1 := HP.out
           rw [List.take_of_length_le (by rw [HEE.out]; exact Nat.le_refl _)] at h1
           exact h1
          rw [HR5.out]
          unfold mayS
          rw [hmb]
          rfl)
         go_wp2_with fail
         go_ret
         exact ⟨by rw [HE.out]; first | done | rfl, HF3.out.trans' HFp.out⟩
set_option maxHeartbeats 16000000 in
theorem isAD_any {S S2 S3 : Nat → Prop} (vt vc ve : Value) (s : Sch) (en : Ent) (c : B) (w : World) (h : TysIn S w vt s.tys) (hy : ClsIn S2 w vc s.cls) (he : EnIn S3 w ve en) (hk : okS s = true) (hz : Sz c) :
  Calls Tryz.prog 10 #[.agg #[vt, vc], ve, .string (sb c)] w fun e w' => e = .returned (.bool (isAD s en c)) ∧ Fr No w w' := by
 have HT := hid h; have HC := hid hy; have HEN := hid he; have HK := hid hk; have HZ := hid hz
 obtain ⟨ta, tn, tcp, e2⟩ : ∃ a n c, vt = .slice a n c := by obtain ⟨a, c, e, -⟩ := h.form; exact ⟨_, _, _, e⟩
 obtain ⟨va, vcp, e0, -, -⟩ := hy.form
 obtain ⟨ea, ec, e3, -, -⟩ := he.form
 obtain ⟨N, hN⟩ : ∃ N, s.cls.length = N := ⟨_, rfl⟩
 have hN20 : N ≤ 20 := by have := ((okS_iff s).1 hk).1.2.2; omega
 have HNN := hid hN
 subst e0 e2 e3
 rw [hN] at HC ⊢
 have hNi : (N : Int) ≤ 20 := by omega
 obtain ⟨R, hR⟩ : ∃ R, isAD s en c = R := ⟨_, rfl⟩
 have HR := hid hR
 rw [hR]
 clear h hy he hk hN hR hN20 hz
 go_enter Tryz.func10, Tryz.ntmps10
 go_wp2_with (first
  | ((with_reducible refine K.atO (.box 25 _) ?_); refine wpL_box rfl _ _ rfl _ rfl [.slice ta tn tcp, .slice va N vcp] rfl ?_; intro w1 HB1 HF1 HS1; refine Hid.out ?_)
  | fail)
 obtain ⟨b, hb⟩ : ∃ b, w.heap.size = b := ⟨_, rfl⟩
 rw [hb] at HB1 ⊢
 have HLD := hid (HB1.out.range 0 [.slice ta tn tcp, .slice va N vcp] rfl)
 clear hb HS1
 refine hid ?_
 go_wp2_with (first
  | ((with_reducible refine K.atO (.load 25 _) ?_); refine wpL_valZ rfl (.agg #[.slice ta tn tcp, .slice va N vcp]) (exec_load _ (.tmp 3) rfl b 0 rfl [.slice ta tn tcp, .slice va N vcp] _ rfl rfl infoSc6 w1 HLD.out) ?_)
  | fail)
 refine (rfindC_any _ _ s c w1 (TysIn.fr (D := No) HT.out HF1.out (fun _ _ _ e => e)) (ClsIn.fr (D := No) HC.out HF1.out (fun _ _ _ e => e)) HZ.out).mono ?_
 rintro e w2 ⟨rfl, f2⟩
 have HIX := hid (clAt_idx s c)
 obtain ⟨ix, hix⟩ : ∃ ix, idxI s.cls (fun a => low a.nm == low c) = ix := ⟨_, rfl⟩
 rw [hix] at HIX ⊢
 have HF2 := hid (HF1.out.trans' f2)
 have HB2 := hid (HB1.out.fr f2 id)
 have HLD2 := hid (HB2.out.range 0 [.slice ta tn tcp, .slice va N vcp] rfl)
 clear f2 HLD hix HB1 HF1
 go_wp2_with (first
  | ((with_reducible refine K.atO (.load 25 _) ?_); refine wpL_valZ rfl (.agg #[.slice ta tn tcp, .slice va N vcp]) (exec_load _ (.tmp 3) rfl b 0 rfl [.slice ta tn tcp, .slice va N vcp] _ rfl rfl infoSc6 w2 HLD2.out) ?_)
  | fail)
 refine (classes_any _ _ _ s en w2 (TysIn.fr (D := No) HT.out HF2.out (fun _ _ _ e => e)) (ClsIn.fr (D := No) HC.out HF2.out (fun _ _ _ e => e)) (EnIn.fr (D := No) HEN.out HF2.out (fun _ _ _ e => e)) HK.out).mono ?_
 rintro e w3 ⟨g, rfl, hBg, hgp, f3⟩
 rw [HNN.out] at hBg ⊢
 have HF3 := hid (HF2.out.trans' f3); have HBG := hid hBg
 clear f3 hBg hgp HF2 HB2 HLD2
 generalize (clsD s en).2 = wh
 cases hcl : s.clAt c with
 | none =>
  obtain rfl : ix = -1 := by rw [HIX.out, hcl]
  have HE : Hid (R = false) := hid (by rw [← HR.out]; unfold isAD; rw [hcl])
  clear hcl HIX
  go_wp2_with fail
  go_ret
  exact ⟨by rw [HE.out]; first | done | rfl, HF3.out⟩
 | some k =>
  obtain rfl : ix = (k : Int) := by rw [HIX.out, hcl]
  have HE : Hid (R = (clsD s en).1 k) := hid (by rw [← HR.out]; unfold isAD; rw [hcl])
  have hkN : k < N := by
   have h1 := clAt_idx s c
   rw [hcl] at h1
   rcases idx_b s.cls (fun a => low a.nm == low c) with ⟨-, h⟩ | ⟨-, h⟩
   ·rw [h1, HNN.out] at h; simp only at h; omega
   ·rw [h1] at h; simp only at h; omega
  have hk0 : (0 : Int) ≤ k := by omega
  have hki : (k : Int) < N := by omega
  have ck : w3.cell? ⟨g, k, none⟩ = some (.bool ((clsD s en).1 k)) := by have := HBG.out.cell k; rw [this, bb_get _ hkN]
  obtain ⟨fk, hfk⟩ : ∃ fk, (clsD s en).1 k = fk := ⟨_, rfl⟩
  rw [hfk] at ck HE
  clear hcl hkN hfk HIX
  go_wp2_with fail
  go_ret
  exact ⟨by rw [HE.out]; first | done | rfl, HF3.out⟩
set_option maxHeartbeats 16000000 in
theorem checksLaw {S S2 : Nat → Prop} (vt vc v : Value) (s : Sch) (en : Ent) (c : B) (w : World) (h : TysIn S w vt s.tys) (hy : ClsIn S2 w vc s.cls) (hG : Gs w) (he : EnIn (fun i => i < w.heap.size) w v en) (h16 : ∀ a ∈ en, a.2.length * 16 ≤ 140737488351232) (hz : Sz c) :
  Calls Tryz.prog 3 #[.agg #[vt, vc], v, .string (sb c)] w fun e w' => e = .returned (.bool true) ∧ Fr No w w' := by
 obtain ⟨X, hXe⟩ : ∃ X : Nat → Prop, X = fun k => k < w.heap.size := ⟨_, rfl⟩
 have HX := hid hXe
 have HGX : Hid (GX X) := hid (by rw [hXe]; exact hG.gx)
 have HG := hid hG; have HT := hid h; have HC := hid hy; have HE := hid he; have H16 := hid h16; have HZ := hid hz
 obtain ⟨va, vcp, rfl, -, -⟩ := he.form
 clear h hy hG hXe he h16 hz
 go_enter Tryz.func3, Tryz.ntmps3
 go_wp2_with (first
  | ((with_reducible refine K.atO (.box 25 _) ?_); refine wpL_box rfl _ _ rfl _ rfl [vt, vc] rfl ?_; intro w1 HB1 HF1 HS1; refine Hid.out ?_)
  | fail)
 obtain ⟨b0, hb0⟩ : ∃ b, w.heap.size = b := ⟨_, rfl⟩
 rw [hb0] at HB1 ⊢
 clear hb0 HS1
 refine hid ?_
 go_wp2_with fail
 refine (SC.awake_any w1 (HG.out.no HF1.out)).mono ?_
 rintro e w4 ⟨rfl, f4⟩
 have HB4 := hid (HB1.out.fr f4 id)
 have HR4 : Hid (w4.rangeAt b0 0 [vt, vc]) := hid (HB4.out.range 0 _ rfl)
 have HF4 : Hid (Fr No w w4) := hid (HF1.out.trans' f4)
 have HT4 := hid (TysIn.fr (D := No) HT.out HF4.out (fun _ _ _ e => e)); have HC4 := hid (ClsIn.fr (D := No) HC.out HF4.out (fun _ _ _ e => e))
 clear f4 HB1 HF1
 go_wp2_with (first
  | ((with_reducible refine K.atO (.load 25 _) ?_); refine wpL_valZ rfl (.agg #[vt, vc]) (exec_load _ _ rfl b0 0 rfl [vt, vc] _ rfl rfl infoSc6 w4 HR4.out) ?_)
  | fail)
 cases hok : okS s with
 | false =>
  refine (new_bad vt vc s w4 HT4.out HC4.out hok).mono ?_
  rintro e w5 ⟨rfl, f5⟩
  have HF5 := hid (HF4.out.trans' f5)
  clear f5 HT4 HC4 hok
  go_wp2_with fail
  go_ret
  exact ⟨rfl, HF5.out⟩
 | true =>
  have HOK := hid hok
  refine (new_ok vt vc s w4 HT4.out HC4.out hok).mono ?_
  rintro e w5 ⟨q, rfl, hs, f5⟩
  have HF5 : Hid (Fr No w w5) := hid (HF4.out.trans' f5)
  have HSX : Hid (Sx w5 X q s) := hid (hs.less (fun k hk => by rw [HX.out] at hk; exact Nat.lt_of_lt_of_le hk HF4.out.size))
  have HQ4 : Hid (w4.heap.size ≤ q) := hid (by have := hs.nx; omega)
  have HQW : Hid (w.heap.size ≤ q) := hid (Nat.le_trans HF4.out.size HQ4.out)
  have HEN : Hid (EnIn (fun i => i ≠ q) w5 (.slice va en.length vcp) en) := hid ((HE.out.no HF5.out).mono (fun i hi _ e => by have := HQW.out; omega))
  have HBA := hid (HB4.out.fr f5 id)
  have HNE : Hid (b0 ≠ q) := hid (by have := HQ4.out; have := HB4.out.lt; omega)
  have HG5 := hid (HG.out.no HF5.out)
  have HXL5 : Hid (∀ k, X k → k < w5.heap.size) := hid (fun k hk => by rw [HX.out] at hk; exact Nat.lt_of_lt_of_le hk HF5.out.size)
  clear hs f5 HT4 HC4 hok HB4 HR4 HF4
  go_wp2_with fail
  refine (check_any X q s _ en w5 HSX.out HXL5.out HGX.out HG5.out HEN.out (fun i hi => hi)).mono ?_
  rintro e w6 ⟨rfl, hs6, f6⟩
  have HF6 : Hid (Fr No w w6) := hid (HF5.out.trans f6 (fun i e => .inr (by rw [e]; exact HQW.out)))
  have HS6 := hid hs6
  have HG6 := hid (hs6.bb HG5.out f6 HGX.out)
  have HXL6 : Hid (∀ k, X k → k < w6.heap.size) := hid (fun k hk => Nat.lt_of_lt_of_le (HXL5.out k hk) f6.size)
  have HEN6 : Hid (EnIn (fun i => i ≠ q) w6 (.slice va en.length vcp) en) := hid (HEN.out.fr f6 (fun i hi _ e => hi e))
  have HBB := hid (HBA.out.fr f6 HNE.out)
  clear hs6 f6 HSX HEN HBA HG5 HXL5 HF5
  go_wp2_with fail
  refine (isA_any X q s _ en c w6 HS6.out HXL6.out HGX.out HG6.out HEN6.out (fun i hi => hi) HZ.out).mono ?_
  rintro e w7 ⟨rfl, hs7, f7⟩
  have HF7 : Hid (Fr No w w7) := hid (HF6.out.trans f7 (fun i e => .inr (by rw [e]; exact HQW.out)))
  have HBC := hid (HBB.out.fr f7 HNE.out)
  have HR7 : Hid (w7.rangeAt b0 0 [vt, vc]) := hid (HBC.out.range 0 _ rfl)
  clear hs7 f7 HS6 HEN6 HBB HG6 HXL6 HF6
  go_wp2_with (first
   | ((with_reducible refine K.atO (.load 25 _) ?_); refine wpL_valZ rfl (.agg #[vt, vc]) (exec_load _ _ rfl b0 0 rfl [vt, vc] _ rfl rfl infoSc6 w7 HR7.out) ?_)
   | fail)
  refine (checkD_any vt vc _ s en w7 (TysIn.fr (D := No) HT.out HF7.out (fun _ _ _ e => e)) (ClsIn.fr (D := No) HC.out HF7.out (fun _ _ _ e => e)) (HE.out.no HF7.out) HOK.out H16.out).mono ?_
  rintro e w8 ⟨rfl, f8⟩
  have HF8 := hid (HF7.out.trans' f8)
  have HR8 : Hid (w8.rangeAt b0 0 [vt, vc]) := hid ((HBC.out.fr f8 id).range 0 _ rfl)
  rw [check_is HOK.out en]
  generalize checkD s en = y
  have byy : (y == y) = true := beq_self_eq_true y
  clear f8 HBC HR7
  go_wp2_with (first
   | ((with_reducible refine K.atO (.load 25 _) ?_); refine wpL_valZ rfl (.agg #[vt, vc]) (exec_load _ _ rfl b0 0 rfl [vt, vc] _ rfl rfl infoSc6 w8 HR8.out) ?_)
   | fail)
  refine (isAD_any vt vc _ s en c w8 (TysIn.fr (D := No) HT.out HF8.out (fun _ _ _ e => e)) (ClsIn.fr (D := No) HC.out HF8.out (fun _ _ _ e => e)) (HE.out.no HF8.out) HOK.out HZ.out).mono ?_
  rintro e w9 ⟨rfl, f9⟩
  have HF9 := hid (HF8.out.trans' f9)
  rw [isA_is HOK.out]
  generalize isAD s en c = z
  clear f9 byy
  cases z with
  | true =>
   go_wp2_with fail
   go_ret
   exact ⟨rfl, HF9.out⟩
  | false =>
   go_wp2_with fail
   go_ret
   exact ⟨rfl, HF9.out⟩
end Go.Proofs.YtgbiicipkbpmeaaGreatDoor.FT
