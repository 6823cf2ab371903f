/-
  Part 19 of the proof: SdB, SdC, SdD, SdE.
-/
import Derived.Test.YtgbiicipkbpmeaaGreatDoorFe18
set_option linter.unusedSimpArgs false
set_option linter.unusedVariables false
namespace Go.Proofs.YtgbiicipkbpmeaaGreatDoor.SC
set_option maxRecDepth 100000
set_option maxHeartbeats 128000000
open Go.RowKit K BE DN
theorem puts_snoc (f : Set) (l : List Nat) (i : Nat) : puts f (l ++ [i]) = put (puts f l) i := by
 unfold puts
 rw [List.foldl_append]
 rfl
theorem addTypes_any {S : Nat → Prop} (X : Nat → Prop) (b r : Nat) (s : Sch) (f : Set) (v : Value) (l : List B) (w : World) (h : Sx w X b s) (hX : ∀ k, X k → k < w.heap.size) (hr : X r) (hB : Blk w r 73 (bb f 40)) (hl : LsIn S w v l) (hS : ∀ i, S i → i ≠ b ∧ i ≠ r) :
  Calls Tryz.prog 53 #[.pointer (some ⟨b, 0, none⟩), .pointer (some ⟨r, 0, none⟩), v] w fun e w' => e = .returned (.tuple #[]) ∧ Blk w' r 73 (bb (puts f (ats s l)) 40) ∧ Sx w' X b s ∧ Fr (fun i => i = b ∨ i = r) w w' := by
 have HX := hid h; have HXL := hid hX; have HXR := hid hr; have HB := hid hB; have HL := hid hl; have HS := hid hS
 have HOK := hid h.ok
 have HNE : Hid (¬ r = b) := hid (fun e => h.nx (by rw [← e]; exact hr))
 obtain ⟨a, cp, rfl, hcap, hlm⟩ := hl.form
 obtain ⟨n, hn⟩ : ∃ n, l.length = n := ⟨_, rfl⟩
 have HNN := hid hn
 rw [hn] at HL hlm ⊢
 have hni : (n : Int) ≤ 140737488351232 := by omega
 clear h hX hr hB hl hS hn hcap hlm
 go_enter Tryz.func53, Tryz.ntmps53
 go_wp2_with fail
 go_loopw [12] (fun iv wr => ∃ (i : Nat), iv = .int .i64 i ∧ i ≤ n ∧ Hid (Blk wr r 73 (bb (puts f (ats s (l.take i))) 40) ∧ Sx wr X b s ∧ Fr (fun i => i = b ∨ i = r) w wr)) (fun iv _ => n - (intOf iv).toNat)
 case atStart => exact ⟨0, rfl, Nat.zero_le _, hid ⟨HB.out, HX.out, Fr.refl _ _⟩⟩
 case round =>
  obtain ⟨i, rfl, hi, HI⟩ := hrel
  by_cases hlt : i < n
  ·obtain ⟨x, hx⟩ : ∃ x, l[i]? = some x := ⟨_, List.getElem?_eq_getElem (by rw [HNN.out]; exact hlt)⟩
   have hlti : (i : Int) < n := by omega
   have hi0 : (0 : Int) ≤ i := by omega
   obtain ⟨g, o, cq, e1, hc, hz⟩ := (HL.out.fr HI.out.2.2 (fun i hi _ e => e.elim (HS.out i hi).1 (HS.out i hi).2)).at_ hx
   rw [HNN.out] at e1
   obtain ⟨rfl, rfl⟩ := K.sj e1
   have HZ := hid hz
   have HP : Hid (put (puts f (ats s (l.take i))) ((s.tyAt x).getD 0) = puts f (ats s (l.take (i + 1)))) := hid (by
    rw [(drop_at hx).2]
    unfold ats
    rw [List.map_append, List.map_singleton, puts_snoc])
   have HLT := hid hlt
   clear hz hx hi hlt
   go_wp2_with fail
   refine (typeAt_any X b s x wr HI.out.2.1 (fun k hk => Nat.lt_of_lt_of_le (HXL.out k hk) HI.out.2.2.size) HZ.out).mono ?_
   rintro e w3 ⟨rfl, hs3, f3⟩
   have HS3 := hid hs3.sx
   have HB3 := hid (HI.out.1.fr f3 HNE.out)
   have HFR3 : Hid (Fr (fun i => i = b ∨ i = r) w w3) := hid (HI.out.2.2.trans' (f3.mono (fun i e => .inl e)))
   clear hs3 f3 hc
   have hj : (s.tyAt x).getD 0 < 40 := by
    cases ht : s.tyAt x with
    | none => decide
    | some j => exact (tyAt_lt HOK.out ht).2
   have hat : atR (s.tyAt x) = .tuple #[.int .i64 (((s.tyAt x).getD 0 : Nat) : Int), .bool (s.tyAt x).isSome] := by
    unfold atR
    cases s.tyAt x <;> rfl
   rw [hat]
   obtain ⟨j, hjj⟩ : ∃ j, (s.tyAt x).getD 0 = j := ⟨_, rfl⟩
   rw [hjj] at hj HP ⊢
   have hji : (j : Int) < 40 := by omega
   have hj0 : (0 : Int) ≤ j := by omega
   have HJ := hid hj
   clear hat hjj hj
   go_wp2_with (first
    | ((with_reducible refine K.atO (.store 4 _ _) ?_); refine wpL_setV rfl _ _ _ rfl r j (.bool true) rfl rfl rfl rfl 73 _ HB3.out (by rw [bb_length]; exact HJ.out) infoBool ?_; intro w4 HB4 HF4 HS4; rw [bb_put, HP.out] at HB4))
   refine ⟨⟨i + 1, by go_num, HLT.out, hid ⟨HB4.out, HS3.out.fr HF4.out (fun k e => .inl (by have e : k = r := e; rw [e]; exact HXR.out)), HFR3.out.trans' (HF4.out.mono (fun i e => .inr e))⟩⟩, ?_⟩
   have := HLT.out
   simp [intOf]; omega
  ·obtain rfl : i = n := by omega
   go_wp2_with fail
   go_end0
   refine ⟨rfl, ?_, HI.out.2.1, HI.out.2.2⟩
   have := HI.out.1
   rw [← HNN.out, List.take_length] at this
   exact this
theorem mustF_step (s : Sch) (f : Set) {i : Nat} {c : Cl} (h : s.cls[i]? = some c) : mustF s f (i + 1) = if f i then puts (mustF s f i) (ats s c.must) else mustF s f i := by
 rw [mustF, h]
 rfl
theorem mayF_step (s : Sch) (f : Set) {i : Nat} {c : Cl} (h : s.cls[i]? = some c) : mayF s f (i + 1) = if f i then puts (mayF s f i) (ats s c.may) else mayF s f i := by
 rw [mayF, h]
 rfl
def mOk (mu pr : Set) (i : Nat) : Bool := !(mu i && !pr i)
theorem checkTypes_any (X : Nat → Prop) (b : Nat) (s : Sch) (pr f : Set) (w : World) (h : Sx w X b s) (hX : ∀ k, X k → k < w.heap.size) :
  Calls Tryz.prog 23 #[.pointer (some ⟨b, 0, none⟩), .agg (bb pr 40).toArray, .agg (bb f 20).toArray] w fun e w' => e = .returned (.int .i64 (chkTys s pr f)) ∧ Sx w' X b s ∧ Fr (fun k => k = b) w w' := by
 have HX := hid h; have HXB := hid hX; have HOK := hid h.ok
 have HBL := hid h.lt
 obtain ⟨R, hR⟩ : ∃ R, chkTys s pr f = R := ⟨_, rfl⟩
 rw [hR]
 have HR : Hid ((if okMust s pr f = true then (if okMayF s pr f 0 s.tys = true then 0 else 135) else (134 : Int)) = R) := hid hR
 obtain ⟨base, hbase⟩ : ∃ b, w.heap.size = b := ⟨_, rfl⟩
 have HBASE := hid hbase
 obtain ⟨n, hn⟩ : ∃ n, s.cls.length = n := ⟨_, rfl⟩
 have HNN := hid hn
 have HN20 : Hid (n ≤ 20) := hid (by rw [← hn]; exact (okS_b h.ok).2.2)
 have hni : (n : Int) ≤ 20 := by have := HN20.out; omega
 clear h hX hR hbase hn
 go_enter Tryz.func23, Tryz.ntmps23
 go_wp2_with (first
  | ((with_reducible refine K.atO (.box 73 _) ?_); refine wpL_box rfl _ _ rfl _ rfl (bb pr 40) rfl ?_; intro w1 HB1 HF1 HS1)
  | ((with_reducible refine K.atO (.box 77 _) ?_); refine wpL_box rfl _ _ rfl _ rfl (bb f 20) rfl ?_; intro w2 HB2 HF2 HS2)
  | ((with_reducible refine K.atO (.alloc 73) ?_); (fail_if_success (have := HB3)); refine wpL_alloc rfl _ rfl _ zeroTs (bb none_ 40) rfl ?_; intro w3 HB3 HF3 HS3)
  | ((with_reducible refine K.atO (.alloc 73) ?_); refine wpL_alloc rfl _ rfl _ zeroTs (bb none_ 40) rfl ?_; intro w4 HB4 HF4 HS4; refine Hid.out ?_))
 obtain ⟨pb, hpb⟩ : ∃ b, w.heap.size = b := ⟨_, rfl⟩
 obtain ⟨cb, hcb⟩ : ∃ b, w1.heap.size = b := ⟨_, rfl⟩
 obtain ⟨mb, hmb⟩ : ∃ b, w2.heap.size = b := ⟨_, rfl⟩
 obtain ⟨yb, hyb⟩ : ∃ b, w3.heap.size = b := ⟨_, rfl⟩
 have HO := hid (show pb = base ∧ cb = pb + 1 ∧ mb = cb + 1 ∧ yb = mb + 1 ∧ w4.heap.size = yb + 1 from by have := HS1.out; have := HS2.out; have := HS3.out; have := HS4.out; have := HBASE.out; omega)
 rw [hpb] at HB1 ⊢
 rw [hcb] at HB2 ⊢
 rw [hmb] at HB3 ⊢
 rw [hyb] at HB4 ⊢
 have HFw4 : Hid (Fr No w w4) := hid (((HF1.out.trans' HF2.out).trans' HF3.out).trans' HF4.out)
 have HBp := hid (((HB1.out.fr HF2.out id).fr HF3.out id).fr HF4.out id)
 have HBc := hid ((HB2.out.fr HF3.out id).fr HF4.out id)
 have HBm := hid (HB3.out.fr HF4.out id)
 have HX4 : Hid (Sx w4 (Also (Also X mb) yb) b s) := hid (((HX.out.no ((HF1.out.trans' HF2.out))).also (r := mb) (by omega) |>.no HF3.out |>.also (r := yb) (by omega)).no HF4.out)
 have HXL4 : Hid (∀ k, Also (Also X mb) yb k → k < w4.heap.size) := hid (fun k hk => by
  have := HO.out; have := HBASE.out
  rcases hk with (hk | hk) | hk
  ·have := HXB.out k hk; omega
  ·omega
  ·omega)
 have HBB := hid (show b < pb from by have := HBL.out; have := HO.out; have := HBASE.out; omega)
 clear hpb hcb hmb hyb HB1 HB2 HB3 HF1 HF2 HF3 HF4 HS1 HS2 HS3 HS4 HX
 obtain ⟨vt, vc, d, tm, cm, hSB, -, -, hcl, -, -⟩ := HX4.out
 obtain ⟨a, cp, rfl, -, -⟩ := hcl.form
 have HSB := hid hSB; have HCL := hid hcl
 rw [HNN.out] at HSB HCL
 have d1 : w4.cell? ⟨b, 1, none⟩ = some (.slice a n cp) := HSB.out.cell 1
 clear hSB hcl
 refine hid ?_
 go_wp2_with fail
 clear d1
 go_loopw [20] (fun iv wr => ∃ (i : Nat), iv = .int .i64 i ∧ i ≤ n ∧ Hid (Blk wr mb 73 (bb (mustF s f i) 40) ∧ Blk wr yb 73 (bb (mayF s f i) 40)) ∧ Hid (Sx wr (Also (Also X mb) yb) b s ∧ Fr (fun k => k = b ∨ k = mb ∨ k = yb) w4 wr)) (fun iv _ => n - (intOf iv).toNat)
 case atStart => exact ⟨0, rfl, Nat.zero_le _, hid ⟨HBm.out, HB4.out⟩, hid ⟨HX4.out, Fr.refl _ _⟩⟩
 case round =>
  obtain ⟨i, rfl, hi, HM, HI⟩ := hrel
  have HBc4 : Hid (Blk wr cb 77 (bb f 20)) := hid (HBc.out.fr HI.out.2 (fun e => by have := HO.out; have := HBB.out; rcases e with e | e | e <;> omega))
  by_cases hlt : i < n
  ·obtain ⟨c, hc⟩ : ∃ c, s.cls[i]? = some c := ⟨_, List.getElem?_eq_getElem (by rw [HNN.out]; exact hlt)⟩
   have hlti : (i : Int) < n := by omega
   have hi0 : (0 : Int) ≤ i := by omega
   have hi20 : (i : Int) < 20 := by omega
   have hi20n : i < 20 := by have := HN20.out; omega
   obtain ⟨g, o, cq, cs, e1, hOg, -, hr, -, hp⟩ := (HCL.out.fr HI.out.2 (fun i hi _ e => by
    rcases e with e | e | e
    ·exact hi.2 e
    ·exact hi.1 (.inl (.inr e))
    ·exact hi.1 (.inr e))).get hc
   rw [HNN.out] at e1
   obtain ⟨rfl, rfl⟩ := K.sj e1
   obtain ⟨v1, v2, rfl, -, -, hv1, hv2, -⟩ := hp
   have HRR := hid hr; have HV1 := hid hv1; have HV2 := hid hv2
   have HONE : Hid (∀ v ∈ clV c v1 v2, v.oneCell' = true) := hid (oneCl c (by obtain ⟨a, cp, rfl, -⟩ := hv1.form; rfl) (by obtain ⟨a, cp, rfl, -⟩ := hv2.form; rfl))
   have HMS := hid (mustF_step s f hc); have HYS := hid (mayF_step s f hc)
   have HLT := hid hlt
   obtain ⟨P, hP⟩ : ∃ P, f i = P := ⟨_, rfl⟩
   have HFI : Hid (∀ w', Fr No wr w' → w'.cell? ⟨cb, i, none⟩ = some (.bool P)) := hid (fun w' hf => by rw [(HBc4.out.fr hf id).cell, bb_get f hi20n, hP])
   rw [hP] at HMS HYS
   clear hr hv1 hv2 hc hi hlt hi20n hOg hP
   go_wp2_with (first
    | ((with_reducible refine K.atO (.load 55 _) ?_); refine wpL_load rfl _ _ rfl g (o + i * 5) rfl (clV c v1 v2) _ HRR.out rfl rfl infoCl ?_)
    | ((with_reducible refine K.atO (.alloc 55) ?_); refine wpL_alloc rfl _ rfl _ zeroCl _ rfl ?_; intro y2 HB2 HF2 HS2)
    | ((with_reducible refine K.atO (.store 55 _ _) ?_); refine wpL_store rfl _ _ _ rfl wr.heap.size 0 (clV c v1 v2) rfl rfl 55 _ HB2.out (by simp [clV]) infoCl HONE.out ?_; intro y3 HB3 HF3 HS3; refine Hid.out ?_))
   have HFR3 : Hid (Fr No wr y3) := hid (HF2.out.trans HF3.out fun k e => .inr (by have e : k = wr.heap.size := e; omega))
   obtain ⟨q, hq⟩ : ∃ q, wr.heap.size = q := ⟨_, rfl⟩
   have HQ := hid hq
   rw [hq] at HB3 ⊢
   have HB3' : Hid (Blk y3 q 55 (clV c v1 v2)) := hid HB3.out
   have cf : y3.cell? ⟨cb, i, none⟩ = some (.bool P) := HFI.out y3 HFR3.out
   have c3 : y3.cell? ⟨q, 3, none⟩ = some v1 := HB3'.out.cell 3
   have HQB := hid (show q ≠ b ∧ q ≠ mb ∧ q ≠ yb from by have := HQ.out; have := HI.out.2.size; have := HO.out; have := HBB.out; omega)
   have HX3 := hid (HI.out.1.no HFR3.out)
   have HXL3 : Hid (∀ k, Also (Also X mb) yb k → k < y3.heap.size) := hid (fun k hk => Nat.lt_of_lt_of_le (HXL4.out k hk) (Nat.le_trans HI.out.2.size HFR3.out.size))
   clear HB2 HF2 HS2 HB3 HF3 HS3 hq HFI
   refine hid ?_
   cases P with
   | false =>
    have HM1 : Hid (mustF s f (i + 1) = mustF s f i) := hid HMS.out
    have HY1 : Hid (mayF s f (i + 1) = mayF s f i) := hid HYS.out
    go_wp2_with fail
    refine ⟨⟨i + 1, by go_num, HLT.out, hid ⟨by rw [HM1.out]; exact HM.out.1.fr HFR3.out id, by rw [HY1.out]; exact HM.out.2.fr HFR3.out id⟩, hid ⟨HX3.out, HI.out.2.trans' HFR3.out.no⟩⟩, ?_⟩
    have := HLT.out
    simp [intOf]; omega
   | true =>
    have HM1 : Hid (mustF s f (i + 1) = puts (mustF s f i) (ats s c.must)) := hid HMS.out
    have HY1 : Hid (mayF s f (i + 1) = puts (mayF s f i) (ats s c.may)) := hid HYS.out
    go_wp2_with fail
    refine (addTypes_any (Also (Also X mb) yb) b mb s (mustF s f i) v1 c.must y3 HX3.out HXL3.out (.inl (.inr rfl)) (HM.out.1.fr HFR3.out id) (LsIn.fr (D := No) HV1.out HFR3.out (fun _ _ _ e => e)) (fun i hi => ⟨hi.2, fun e => hi.1 (.inl (.inr e))⟩)).mono ?_
    rintro e y4 ⟨rfl, hb4, hs4, f4⟩
    have HB4' := hid hb4; have HS4 := hid hs4; have HF4 := hid f4
    have HBy4 := hid ((HM.out.2.fr HFR3.out id).fr f4 (fun e => by have := HO.out; have := HBB.out; rcases e with e | e <;> omega))
    have c4 : y4.cell? ⟨q, 4, none⟩ = some v2 := (HB3'.out.fr f4 (fun e => e.elim HQB.out.1 HQB.out.2.1)).cell 4
    have HXL5 : Hid (∀ k, Also (Also X mb) yb k → k < y4.heap.size) := hid (fun k hk => Nat.lt_of_lt_of_le (HXL3.out k hk) f4.size)
    clear hb4 hs4 f4 c3 cf
    go_wp2_with fail
    refine (addTypes_any (Also (Also X mb) yb) b yb s (mayF s f i) v2 c.may y4 HS4.out HXL5.out (.inr rfl) HBy4.out ((LsIn.fr (D := No) HV2.out HFR3.out (fun _ _ _ e => e)).fr HF4.out (fun i hi _ e => e.elim hi.2 (fun e => hi.1 (.inl (.inr e))))) (fun i hi => ⟨hi.2, fun e => hi.1 (.inr e)⟩)).mono ?_
    rintro e y5 ⟨rfl, hb5, hs5, f5⟩
    have HB5 := hid hb5; have HS5 := hid hs5
    have HBm5 := hid (HB4'.out.fr f5 (fun e => by have := HO.out; have := HBB.out; rcases e with e | e <;> omega))
    have HFR5 : Hid (Fr (fun k => k = b ∨ k = mb ∨ k = yb) w4 y5) := hid (((HI.out.2.trans' HFR3.out.no).trans' (HF4.out.mono (fun k e => e.imp id .inl))).trans' (f5.mono (fun k e => e.imp id .inr)))
    clear hb5 hs5 f5 c4
    go_wp2_with fail
    refine ⟨⟨i + 1, by go_num, HLT.out, hid ⟨by rw [HM1.out]; exact HBm5.out, by rw [HY1.out]; exact HB5.out⟩, hid ⟨HS5.out, HFR5.out⟩⟩, ?_⟩
    have := HLT.out
    simp [intOf]; omega
  ·obtain rfl : i = n := by omega
   have HBp4 : Hid (Blk wr pb 73 (bb pr 40)) := hid (HBp.out.fr HI.out.2 (fun e => by have := HO.out; have := HBB.out; rcases e with e | e | e <;> omega))
   obtain ⟨mu, hmu⟩ : ∃ g, mustF s f i = g := ⟨_, rfl⟩
   obtain ⟨ma, hma⟩ : ∃ g, mayF s f i = g := ⟨_, rfl⟩
   have HMU : Hid (mustF s f s.cls.length = mu ∧ mayF s f s.cls.length = ma) := hid (by rw [HNN.out]; exact ⟨hmu, hma⟩)
   rw [hmu, hma] at HM
   obtain ⟨w5, hw5⟩ : ∃ w5, wr = w5 := ⟨_, rfl⟩
   rw [hw5] at HI HM HBp4 ⊢
   have HFIN : Hid (∀ w6, Fr No w5 w6 → Sx w6 X b s ∧ Fr (fun k => k = b) w w6) := hid (fun w6 hf =>
    ⟨(HI.out.1.no hf).less (fun _ hk => .inl (.inl hk)), (HFw4.out.no.trans HI.out.2 (fun k e => by
     have := HO.out; have := HBASE.out
     rcases e with e | e | e
     ·exact .inl e
     ·exact .inr (by omega)
     ·exact .inr (by omega))).trans' hf.no⟩)
   clear hmu hma hw5 hi hlt
   go_wp2_with fail
   go_loopw [37] (fun iv wr => ∃ (j : Nat), iv = .int .i64 j ∧ j ≤ 40 ∧ Hid ((List.range j).all (mOk mu pr) = true) ∧ Hid (Fr No w5 wr)) (fun iv _ => 40 - (intOf iv).toNat)
   case atStart => exact ⟨0, rfl, Nat.zero_le _, hid rfl, hid (Fr.refl _ _)⟩
   case round =>
    obtain ⟨j, rfl, hj, HT, HJ⟩ := hrel
    by_cases hlt : j < 40
    ·have hji : (j : Int) < 40 := by omega
     have hj0 : (0 : Int) ≤ j := by omega
     have HLT := hid hlt
     have cm : wr.cell? ⟨mb, j, none⟩ = some (.bool (mu j)) := by rw [(HM.out.1.fr HJ.out id).cell, bb_get mu hlt]
     have cpj : wr.cell? ⟨pb, j, none⟩ = some (.bool (pr j)) := by rw [(HBp4.out.fr HJ.out id).cell, bb_get pr hlt]
     obtain ⟨A, hA⟩ : ∃ A, mu j = A := ⟨_, rfl⟩
     obtain ⟨P, hP⟩ : ∃ P, pr j = P := ⟨_, rfl⟩
     rw [hA] at cm
     rw [hP] at cpj
     have HSt : Hid ((List.range (j + 1)).all (mOk mu pr) = !(A && !P)) := hid (by rw [List.range_succ, List.all_append, HT.out]; simp [mOk, hA, hP])
     have HAP := hid (show mu j = A ∧ pr j = P from ⟨hA, hP⟩)
     clear hA hP hj hlt HT
     cases A with
     | false =>
      go_wp2_with fail
      refine ⟨⟨j + 1, by go_num, HLT.out, hid (by rw [HSt.out]; rfl), HJ⟩, ?_⟩
      have := HLT.out
      simp [intOf]; omega
     | true =>
      cases P with
      | true =>
       go_wp2_with fail
       refine ⟨⟨j + 1, by go_num, HLT.out, hid (by rw [HSt.out]; rfl), HJ⟩, ?_⟩
       have := HLT.out
       simp [intOf]; omega
      | false =>
       obtain rfl : R = 134 := by
        have h := HR.out
        have hno : okMust s pr f = false := by
         unfold okMust
         rw [HMU.out.1, List.all_eq_false]
         exact ⟨j, List.mem_range.2 HLT.out, by rw [HAP.out.1, HAP.out.2]; decide⟩
        rw [hno] at h
        exact h.symm
       go_wp2_with fail
       go_ret
       exact ⟨rfl, (HFIN.out wr HJ.out).1, (HFIN.out wr HJ.out).2⟩
    ·obtain rfl : j = 40 := by omega
     rw [show ((40 : Nat) : Int) = (40 : Int) from rfl]
     have HR2 : Hid ((if okMayF s pr f 0 (s.tys.drop 0) = true then 0 else (135 : Int)) = R) := hid (by
      have h := HR.out
      have hyes : okMust s pr f = true := by unfold okMust; rw [HMU.out.1]; exact HT.out
      rw [if_pos hyes] at h
      exact h)
     obtain ⟨w6, hw6⟩ : ∃ w6, wr = w6 := ⟨_, rfl⟩
     rw [hw6] at HJ ⊢
     obtain ⟨vt', vc', d', tm', cm', hSB6, -, htv, -, -, -⟩ := (HI.out.1.no HJ.out)
     obtain ⟨ta, tcp, rfl, -, htl⟩ := htv.form
     have HTV := hid htv
     obtain ⟨m, hm⟩ : ∃ m, s.tys.length = m := ⟨_, rfl⟩
     have HMM := hid hm
     have hm40 : m ≤ 40 := by rw [← hm]; exact (okS_b HOK.out).2.1
     have HM40 := hid hm40
     rw [hm] at HTV hSB6
     have d0 : w6.cell? ⟨b, 0, none⟩ = some (.slice ta m tcp) := hSB6.cell 0
     have hmi : (m : Int) ≤ 40 := by omega
     clear hSB6 htv htl hm hm40 hw6 hj hlt HT
     go_wp2_with fail
     clear d0
     go_loopw [56] (fun iv wr => ∃ (j : Nat), iv = .int .i64 j ∧ j ≤ m ∧ Hid ((if okMayF s pr f j (s.tys.drop j) = true then 0 else (135 : Int)) = R) ∧ Hid (Fr No w6 wr)) (fun iv _ => m - (intOf iv).toNat)
     case atStart => exact ⟨0, rfl, Nat.zero_le _, HR2, hid (Fr.refl _ _)⟩
     case round =>
      obtain ⟨j, rfl, hj, HT, HJ2⟩ := hrel
      have HJ6 : Hid (Fr No w5 wr) := hid (HJ.out.trans' HJ2.out)
      by_cases hlt : j < m
      ·obtain ⟨t, ht⟩ : ∃ t, s.tys[j]? = some t := ⟨_, List.getElem?_eq_getElem (by rw [HMM.out]; exact hlt)⟩
       have hlti : (j : Int) < m := by omega
       have hj40 : (j : Int) < 40 := by omega
       have hj0 : (0 : Int) ≤ j := by omega
       have hj40n : j < 40 := by have := HM40.out; omega
       obtain ⟨g, o, cq, cs, e1, -, -, hr, -, hp⟩ := (TysIn.fr (D := No) HTV.out HJ2.out (fun _ _ _ e => e)).get ht
       rw [HMM.out] at e1
       obtain ⟨rfl, rfl⟩ := K.sj e1
       obtain ⟨rfl, -⟩ := hp
       have HRR := hid hr
       have HT2 : Hid ((if (okMay1 s pr f j t && okMayF s pr f (j + 1) (s.tys.drop (j + 1))) = true then 0 else (135 : Int)) = R) := hid (by
        have h := HT.out
        rw [(drop_at ht).1] at h
        exact h)
       have HLT := hid hlt
       have HC : Hid (∀ w', Fr No wr w' → w'.cell? ⟨mb, j, none⟩ = some (.bool (mu j)) ∧ w'.cell? ⟨yb, j, none⟩ = some (.bool (ma j)) ∧ w'.cell? ⟨pb, j, none⟩ = some (.bool (pr j))) := hid (fun w' hf => by
        have h6 := HJ6.out.trans' hf
        exact ⟨by rw [(HM.out.1.fr h6 id).cell, bb_get mu hj40n], by rw [(HM.out.2.fr h6 id).cell, bb_get ma hj40n], by rw [(HBp4.out.fr h6 id).cell, bb_get pr hj40n]⟩)
       clear hr ht HT hj hlt hj40n
       go_wp2_with (first
        | ((with_reducible refine K.atO (.load 53 _) ?_); refine wpL_load rfl _ _ rfl g (o + j * 6) rfl (tyV t) _ HRR.out rfl rfl infoTy ?_)
        | ((with_reducible refine K.atO (.alloc 53) ?_); refine wpL_alloc rfl _ rfl _ zeroTy _ rfl ?_; intro y2 HB2 HF2 HS2)
        | ((with_reducible refine K.atO (.store 53 _ _) ?_); refine wpL_store rfl _ _ _ rfl wr.heap.size 0 (tyV t) rfl rfl 53 _ HB2.out (by simp [tyV]) infoTy (oneTy t) ?_; intro y3 HB3 HF3 HS3; refine Hid.out ?_))
       have HFR3 : Hid (Fr No wr y3) := hid (HF2.out.trans HF3.out fun k e => .inr (by have e : k = wr.heap.size := e; omega))
       have HB3' : Hid (Blk y3 wr.heap.size 53 (tyV t)) := hid HB3.out
       have HFJ : Hid (Fr No w5 y3) := hid (HJ6.out.trans' HFR3.out)
       have HJ : Hid (Fr No w6 wr) := HJ2
       obtain ⟨q, hq⟩ : ∃ q, wr.heap.size = q := ⟨_, rfl⟩
       rw [hq] at HB3' ⊢
       have c4 : y3.cell? ⟨q, 4, none⟩ = some (.bool t.sys) := HB3'.out.cell 4
       obtain ⟨cmu, cma, cpr⟩ := HC.out y3 HFR3.out
       have HQ1 : Hid (okMay1 s pr f j t = !(pr j && !t.sys && !decide (j = 0) && !mu j && !ma j)) := hid (by unfold okMay1; rw [HMU.out.1, HMU.out.2])
       obtain ⟨A, hA⟩ : ∃ A, mu j = A := ⟨_, rfl⟩
       obtain ⟨M, hM⟩ : ∃ M, ma j = M := ⟨_, rfl⟩
       obtain ⟨P, hP⟩ : ∃ P, pr j = P := ⟨_, rfl⟩
       obtain ⟨Y, hY⟩ : ∃ Y, t.sys = Y := ⟨_, rfl⟩
       rw [hA, hM, hP, hY] at HQ1
       rw [hA] at cmu
       rw [hM] at cma
       rw [hP] at cpr
       rw [hY] at c4
       clear hA hM hP hY hq HB2 HF2 HS2 HB3 HF3 HS3 HC
       refine hid ?_
       have HGO : Hid (okMay1 s pr f j t = true → Hid ((if okMayF s pr f (j + 1) (s.tys.drop (j + 1)) = true then 0 else (135 : Int)) = R)) := hid (fun e => hid (by have h := HT2.out; rw [e, Bool.true_and] at h; exact h))
       cases P with
       | false =>
        have HT3 := HGO.out (by rw [HQ1.out]; rfl)
        go_wp2_with fail
        go_roundw
        case rel => exact ⟨j + 1, by go_num, HLT.out, HT3, hid (HJ.out.trans' HFR3.out)⟩
        case measure => have := HLT.out; simp [intOf]; omega
       | true =>
        cases Y with
        | true =>
         have HT3 := HGO.out (by rw [HQ1.out]; rfl)
         go_wp2_with fail
         go_roundw
         case rel => exact ⟨j + 1, by go_num, HLT.out, HT3, hid (HJ.out.trans' HFR3.out)⟩
         case measure => have := HLT.out; simp [intOf]; omega
        | false =>
         by_cases hz : j = 0
         ·subst hz
          have HT3 := HGO.out (by rw [HQ1.out]; rfl)
          go_wp2_with fail
          go_roundw
          case rel => exact ⟨1, by go_num, HLT.out, HT3, hid (HJ.out.trans' HFR3.out)⟩
          case measure => have := HLT.out; simp [intOf]; omega
         ·have hzb : ((j : Int) != 0) = true := by rw [bne_iff_ne]; omega
          have HZ := hid hz
          clear hz
          cases A with
          | true =>
           have HT3 := HGO.out (by rw [HQ1.out]; simp)
           go_wp2_with fail
           go_roundw
           case rel => exact ⟨j + 1, by go_num, HLT.out, HT3, hid (HJ.out.trans' HFR3.out)⟩
           case measure => have := HLT.out; simp [intOf]; omega
          | false =>
           cases M with
           | true =>
            have HT3 := HGO.out (by rw [HQ1.out]; simp)
            go_wp2_with fail
            go_roundw
            case rel => exact ⟨j + 1, by go_num, HLT.out, HT3, hid (HJ.out.trans' HFR3.out)⟩
            case measure => have := HLT.out; simp [intOf]; omega
           | false =>
            obtain rfl : R = 135 := by
             have h := HT2.out
             rw [HQ1.out, decide_eq_false HZ.out] at h
             exact h.symm
            go_wp2_with fail
            go_ret
            exact ⟨rfl, (HFIN.out y3 HFJ.out).1, (HFIN.out y3 HFJ.out).2⟩
      ·obtain rfl : j = m := by omega
       obtain rfl : R = 0 := by
        have h := HT.out
        rw [← HMM.out, List.drop_length] at h
        exact h.symm
       go_wp2_with fail
       go_ret
       exact ⟨rfl, (HFIN.out wr HJ6.out).1, (HFIN.out wr HJ6.out).2⟩
theorem Sx.bb {X : Nat → Prop} {w w' : World} {b : Nat} {s : Sch} (h : Sx w' X b s) (hG : Gs w) (hf : Fr (fun k => k = b) w w') (hx : GX X) : Gs w' := hG.bb hf hx h.nx
theorem check_any {S : Nat → Prop} (X : Nat → Prop) (b : Nat) (s : Sch) (v : Value) (en : Ent) (w : World) (h : Sx w X b s) (hX : ∀ k, X k → k < w.heap.size) (hx : GX X) (hG : Gs w) (he : EnIn S w v en) (hS : ∀ i, S i → i ≠ b) :
  Calls Tryz.prog 7 #[.pointer (some ⟨b, 0, none⟩), v] w fun e w' => e = .returned (.int .i64 (check s en)) ∧ Sx w' X b s ∧ Fr (fun k => k = b) w w' := by
 have HA := hid (checkAttrs_any X b s v en w h hX hx hG he hS)
 have HXB := hid hX; have HGX := hid hx; have HG := hid hG; have HE := hid he; have HS := hid hS
 have HBL := hid h.lt
 obtain ⟨R, hR⟩ : ∃ R, check s en = R := ⟨_, rfl⟩
 rw [hR]
 obtain ⟨pr, hpr⟩ : ∃ g, (chkAts s none_ en).1 = g := ⟨_, rfl⟩
 obtain ⟨E1, hE1⟩ : ∃ g, (chkAts s none_ en).2 = g := ⟨_, rfl⟩
 obtain ⟨f, hf⟩ : ∃ g, (classesOf s en).1 = g := ⟨_, rfl⟩
 obtain ⟨al, hal⟩ : ∃ g, (classesOf s en).2 = g := ⟨_, rfl⟩
 have HFA := hid (show (classesOf s en).1 = f ∧ (classesOf s en).2 = al from ⟨hf, hal⟩)
 have HR : Hid ((if E1 = 0 then (if (al && chain s f) = true then chkTys s pr f else 133) else E1) = R) := hid (by
  unfold check at hR
  rw [hpr, hE1, hf, hal] at hR
  exact hR)
 rw [hpr, hE1] at HA
 obtain ⟨a, cp, rfl, -, -⟩ := he.form
 obtain ⟨n, hn⟩ : ∃ n, en.length = n := ⟨_, rfl⟩
 rw [hn] at HA HE ⊢
 clear h hX hx hG he hS hR hpr hE1 hf hal hn
 go_enter Tryz.func7, Tryz.ntmps7
 go_wp2_with fail
 refine HA.out.mono ?_
 rintro e w1 ⟨rfl, hs1, f1⟩
 have HS1 := hid hs1; have HF1 := hid f1
 have HG1 := hid (hs1.bb HG.out f1 HGX.out)
 have HXB1 := hid (fun k hk => Nat.lt_of_lt_of_le (HXB.out k hk) f1.size)
 have HE1 := hid (HE.out.fr f1 (fun i hi _ e => HS.out i hi e))
 clear hs1 f1 HA
 by_cases h0 : E1 = 0
 case neg =>
  obtain rfl : R = E1 := by have h := HR.out; rw [if_neg h0] at h; exact h.symm
  have h0b : (R != 0) = true := by rw [bne_iff_ne]; exact h0
  clear h0
  go_wp2_with (first
   | ((with_reducible refine K.atO (.alloc 73) ?_); refine wpL_alloc rfl _ rfl _ zeroTs (bb none_ 40) rfl ?_; intro w2 HB2 HF2 HS2)
   | ((with_reducible refine K.atO (.store 73 _ _) ?_); refine wpL_store rfl _ _ _ rfl w1.heap.size 0 (bb pr 40) rfl rfl 73 _ HB2.out (by simp) (by rw [bb_length]; exact infoTs) (bb_one _ _) ?_; intro w3 HB3 HF3 HS3))
  go_ret
  have hf3 : Fr No w1 w3 := HF2.out.trans HF3.out (fun k e => .inr (by have e : k = w1.heap.size := e; omega))
  exact ⟨rfl, HS1.out.no hf3, HF1.out.trans' hf3.no⟩
 subst h0
 have HR1 : Hid ((if (al && chain s f) = true then chkTys s pr f else 133) = R) := hid (by have h := HR.out; rw [if_pos rfl] at h; exact h)
 go_wp2_with (first
  | ((with_reducible refine K.atO (.alloc 73) ?_); refine wpL_alloc rfl _ rfl _ zeroTs (bb none_ 40) rfl ?_; intro w2 HB2 HF2 HS2)
  | ((with_reducible refine K.atO (.store 73 _ _) ?_); refine wpL_store rfl _ _ _ rfl w1.heap.size 0 (bb pr 40) rfl rfl 73 _ HB2.out (by simp) (by rw [bb_length]; exact infoTs) (bb_one _ _) ?_; intro w3 HB3 HF3 HS3; rw [bb_spl] at HB3; refine Hid.out ?_))
 have HF3' : Hid (Fr No w1 w3) := hid (HF2.out.trans HF3.out (fun k e => .inr (by have e : k = w1.heap.size := e; omega)))
 obtain ⟨pb, hpb⟩ : ∃ b, w1.heap.size = b := ⟨_, rfl⟩
 have HPB := hid (show ¬ pb = b ∧ pb < w3.heap.size ∧ pb = w1.heap.size from ⟨by have := HS1.out.lt; omega, by have := HS2.out; have := HS3.out; omega, hpb.symm⟩)
 rw [hpb] at HB3 ⊢
 clear HB2 HF2 HS2 HF3 HS3 hpb
 refine hid ?_
 go_wp2_with fail
 refine (classesOf_any X b s _ en w3 (HS1.out.no HF3'.out) (fun k hk => Nat.lt_of_lt_of_le (HXB1.out k hk) HF3'.out.size) HGX.out (HG1.out.no HF3'.out) (HE1.out.fr HF3'.out (fun _ _ _ e => e)) HS.out).mono ?_
 rintro e w4 ⟨rfl, hs4, f4⟩
 rw [HFA.out.1, HFA.out.2]
 have HS4 := hid hs4
 have HB4 := hid (HB3.out.fr f4 HPB.out.1)
 have HFR4 : Hid (Fr (fun k => k = b) w w4) := hid ((HF1.out.trans' HF3'.out.no).trans' f4)
 have HXB4 := hid (fun k hk => Nat.lt_of_lt_of_le (HXB.out k hk) HFR4.out.size)
 have HPB4 : Hid (pb < w4.heap.size) := hid (Nat.lt_of_lt_of_le HPB.out.2.1 f4.size)
 clear hs4 f4 HB3
 go_wp2_with (first
  | ((with_reducible refine K.atO (.alloc 77) ?_); refine wpL_alloc rfl _ rfl _ zeroCs (bb none_ 20) rfl ?_; intro w5 HB5 HF5 HS5)
  | ((with_reducible refine K.atO (.store 77 _ _) ?_); refine wpL_store rfl _ _ _ rfl w4.heap.size 0 (bb f 20) rfl rfl 77 _ HB5.out (by simp) (by rw [bb_length]; exact infoCs2) (bb_one _ _) ?_; intro w6 HB6 HF6 HS6; rw [bb_spl] at HB6; refine Hid.out ?_))
 have HF6' : Hid (Fr No w4 w6) := hid (HF5.out.trans HF6.out (fun k e => .inr (by have e : k = w4.heap.size := e; omega)))
 obtain ⟨cb, hcb⟩ : ∃ b, w4.heap.size = b := ⟨_, rfl⟩
 have HCB : Hid (¬ cb = b) := hid (by have := HS4.out.lt; omega)
 rw [hcb] at HB6 ⊢
 have HB46 := hid (HB4.out.fr HF6'.out id)
 have HRc : Hid (w6.rangeAt cb 0 (bb f 20)) := hid (HB6.out.range 0 _ (by rw [List.drop_zero, List.take_length]))
 clear HB5 HF5 HS5 HF6 HS6 hcb
 refine hid ?_
 cases al with
 | false =>
  obtain rfl : R = 133 := by have h := HR1.out; simp at h; exact h.symm
  go_wp2_with fail
  go_ret
  exact ⟨rfl, HS4.out.no HF6'.out, HFR4.out.trans' HF6'.out.no⟩
 | true =>
  go_wp2_with (first
   | ((with_reducible refine K.atO (.load 77 _) ?_); refine wpL_valZ rfl (.agg (bb f 20).toArray) (exec_load _ _ rfl cb 0 rfl (bb f 20) _ rfl rfl (by rw [bb_length]; exact infoCs2) w6 HRc.out) ?_))
  refine (isOneChain_any X b s f w6 (HS4.out.no HF6'.out) (fun k hk => Nat.lt_of_lt_of_le (HXB4.out k hk) HF6'.out.size)).mono ?_
  rintro e w7 ⟨rfl, hs7, f7⟩
  have HS7 := hid hs7
  have HFR7 : Hid (Fr (fun k => k = b) w w7) := hid ((HFR4.out.trans' HF6'.out.no).trans' f7)
  have HRp7 : Hid (w7.rangeAt pb 0 (bb pr 40)) := hid ((HB46.out.fr f7 HPB.out.1).range 0 _ (by rw [List.drop_zero, List.take_length]))
  have HRc7 : Hid (w7.rangeAt cb 0 (bb f 20)) := hid ((HB6.out.fr f7 HCB.out).range 0 _ (by rw [List.drop_zero, List.take_length]))
  have HXB7 := hid (fun k hk => Nat.lt_of_lt_of_le (HXB.out k hk) HFR7.out.size)
  clear hs7 f7
  obtain ⟨C, hC⟩ : ∃ C, chain s f = C := ⟨_, rfl⟩
  have HC := hid hC
  rw [hC]
  clear hC
  cases C with
  | false =>
   obtain rfl : R = 133 := by have h := HR1.out; rw [HC.out] at h; simp at h; exact h.symm
   go_wp2_with fail
   go_ret
   exact ⟨rfl, HS7.out, HFR7.out⟩
  | true =>
   have HR2 : Hid (chkTys s pr f = R) := hid (by have h := HR1.out; rw [HC.out, Bool.true_and, if_pos rfl] at h; exact h)
   go_wp2_with (first
    | ((with_reducible refine K.atO (.load 73 _) ?_); refine wpL_load rfl _ _ rfl pb 0 rfl (bb pr 40) _ HRp7.out rfl rfl (by rw [bb_length]; exact infoTs) ?_)
    | ((with_reducible refine K.atO (.load 77 _) ?_); refine wpL_load rfl _ _ rfl cb 0 rfl (bb f 20) _ HRc7.out rfl rfl (by rw [bb_length]; exact infoCs2) ?_))
   refine (checkTypes_any X b s pr f w7 HS7.out HXB7.out).mono ?_
   rintro e w8 ⟨rfl, hs8, f8⟩
   have HS8 := hid hs8; have HFR8 := hid (HFR7.out.trans' f8)
   rw [HR2.out]
   clear hs8 f8
   go_wp2_with fail
   go_ret
   exact ⟨rfl, HS8.out, HFR8.out⟩
theorem isA_any {S : Nat → Prop} (X : Nat → Prop) (b : Nat) (s : Sch) (v : Value) (en : Ent) (c : B) (w : World) (h : Sx w X b s) (hX : ∀ k, X k → k < w.heap.size) (hx : GX X) (hG : Gs w) (he : EnIn S w v en) (hS : ∀ i, S i → i ≠ b) (hz : Sz c) :
  Calls Tryz.prog 8 #[.pointer (some ⟨b, 0, none⟩), v, .string (sb c)] w fun e w' => e = .returned (.bool (isA s en c)) ∧ Sx w' X b s ∧ Fr (fun k => k = b) w w' := by
 have HA := hid (classAt_any X b s c w h hX hz)
 have HXB := hid hX; have HGX := hid hx; have HG := hid hG; have HE := hid he; have HS := hid hS
 have HOK := hid h.ok
 obtain ⟨R, hR⟩ : ∃ R, isA s en c = R := ⟨_, rfl⟩
 rw [hR]
 have HR : Hid ((match s.clAt c with | none => false | some k => (classesOf s en).1 k) = R) := hid hR
 obtain ⟨a, cp, rfl, -, -⟩ := he.form
 obtain ⟨n, hn⟩ : ∃ n, en.length = n := ⟨_, rfl⟩
 rw [hn] at HE ⊢
 clear h hX hx hG he hS hR hn hz
 go_enter Tryz.func8, Tryz.ntmps8
 go_wp2_with fail
 refine HA.out.mono ?_
 rintro e w1 ⟨rfl, hs1, f1⟩
 have HS1 := hid hs1.sx; have HF1 := hid f1
 have HG1 := hid (hs1.bb HG.out f1 HGX.out)
 have HXB1 := hid (fun k hk => Nat.lt_of_lt_of_le (HXB.out k hk) f1.size)
 have HE1 := hid (HE.out.fr f1 (fun i hi _ e => HS.out i hi e))
 clear hs1 f1 HA
 have hat : atR (s.clAt c) = .tuple #[.int .i64 (((s.clAt c).getD 0 : Nat) : Int), .bool (s.clAt c).isSome] := by
  unfold atR
  cases s.clAt c <;> rfl
 rw [hat]
 clear hat
 obtain ⟨k, hk⟩ : ∃ k, (s.clAt c).getD 0 = k := ⟨_, rfl⟩
 obtain ⟨O, hO⟩ : ∃ O, (s.clAt c).isSome = O := ⟨_, rfl⟩
 have HK := hid hk; have HO := hid hO
 rw [hk, hO]
 clear hk hO
 go_wp2_with fail
 refine (classesOf_any X b s _ en w1 HS1.out HXB1.out HGX.out HG1.out HE1.out HS.out).mono ?_
 rintro e w2 ⟨rfl, hs2, f2⟩
 have HS2 := hid hs2; have HFR2 := hid (HF1.out.trans' f2)
 obtain ⟨f, hf⟩ : ∃ g, (classesOf s en).1 = g := ⟨_, rfl⟩
 have HFF := hid hf
 rw [hf]
 clear hs2 f2 hf
 go_wp2_with (first
  | ((with_reducible refine K.atO (.alloc 77) ?_); refine wpL_alloc rfl _ rfl _ zeroCs (bb none_ 20) rfl ?_; intro w5 HB5 HF5 HS5)
  | ((with_reducible refine K.atO (.store 77 _ _) ?_); refine wpL_store rfl _ _ _ rfl w2.heap.size 0 (bb f 20) rfl rfl 77 _ HB5.out (by simp) (by rw [bb_length]; exact infoCs2) (bb_one _ _) ?_; intro w6 HB6 HF6 HS6; rw [bb_spl] at HB6; refine Hid.out ?_))
 have HF6' : Hid (Fr No w2 w6) := hid (HF5.out.trans HF6.out (fun k e => .inr (by have e : k = w2.heap.size := e; omega)))
 obtain ⟨cb, hcb⟩ : ∃ b, w2.heap.size = b := ⟨_, rfl⟩
 rw [hcb] at HB6 ⊢
 clear HB5 HF5 HS5 HF6 HS6 hcb
 refine hid ?_
 cases O with
 | false =>
  obtain rfl : R = false := by
   have h := HR.out
   have h2 := HO.out
   rw [Option.isSome_eq_false_iff, Option.isNone_iff_eq_none] at h2
   rw [h2] at h
   exact h.symm
  go_wp2_with fail
  go_ret
  exact ⟨rfl, HS2.out.no HF6'.out, HFR2.out.trans' HF6'.out.no⟩
 | true =>
  obtain ⟨j, hj⟩ := Option.isSome_iff_exists.1 HO.out
  obtain rfl : k = j := by have := HK.out; rw [hj] at this; exact this.symm
  have hk20 : k < 20 := (clAt_lt HOK.out hj).2
  have hki : (k : Int) < 20 := by omega
  have hk0 : (0 : Int) ≤ k := by omega
  have HR2 : Hid (f k = R) := hid (by have h := HR.out; rw [hj, HFF.out] at h; exact h)
  have ck : w6.cell? ⟨cb, k, none⟩ = some (.bool R) := by rw [HB6.out.cell, bb_get f hk20, HR2.out]
  clear hj hk20
  go_wp2_with fail
  go_ret
  exact ⟨rfl, HS2.out.no HF6'.out, HFR2.out.trans' HF6'.out.no⟩
section
variable {P : Program} {ops : Array Oper} {rest : List Oper} {op : Oper} {a : Act} {w : World} {Q : Exit → Act → World → Prop}
theorem wpL_buildAll (hgd : op.guard = none) (t e : TypeId) (xs : List Operand) (ho : op.op = .buildSlice t xs.length ((xs.zipIdx 0).map fun x => (x.2, x.1)).toArray) (i : TypeInfo) (z : Value) (hu : P.underlying t = some (.slice e)) (hi : P.info? e = some i) (hz : i.zero = some z) (hs0 : 0 < i.size)
  (hs1 : xs.length * i.size ≤ 16777216) (hx0 : 0 < xs.length) (vs : List Value) (hvs : xs.map a.eval = vs) (hv : ∀ v ∈ vs, v.cells.size = i.size) (cs : List Value) (hcs : (vs.flatMap fun v => v.cells.toList) = cs)
  (h : ∀ w', Hid (Blk w' w.heap.size e cs) → Hid (Fr No w w') → Hid (w'.heap.size = w.heap.size + 1) → wpList P ops Q rest (a.put op.dst (.slice (some ⟨w.heap.size, 0, none⟩) xs.length xs.length)) w') : wpList P ops Q (op :: rest) a w := by
 subst hvs hcs
 refine wpL_buildSlice hgd t e xs.length ((xs.zipIdx 0).map fun x => (x.2, x.1)) ho _ ?_ h
 have := run_buildAll (P := P) t e (xs.map a.eval) i z hu hi hz hs0 (by rw [List.length_map]; exact hs1) (by rw [List.length_map]; exact hx0) hv w
 rw [List.length_map] at this
 rw [← this]
 congr 2
 rw [List.zipIdx_map, List.map_map, List.map_map]
 rfl
end
theorem blk_ls {w : World} {g : Nat} (l : List B) (h : Blk w g 9 (strs l)) (hl : l.length ≤ 140737488351232) (hz : ∀ x ∈ l, Sz x) : LsIn (fun i => i = g) w (.slice (some ⟨g, 0, none⟩) l.length l.length) l := by
 refine ⟨_, _, rfl, Nat.le_refl _, hl, ?_⟩
 by_cases h0 : l = []
 ·exact .inl h0
 ·refine .inr ⟨g, 0, l.map fun x => [.string (sb x)], rfl, rfl, h.lt, ?_, by simp, fun c hc => ?_, fun j x c hx hc => ?_⟩
  ·have e : (l.map fun x => [Value.string (sb x)]).flatten = strs l := by
    unfold strs
    clear h hl hz h0
    induction l with
    | nil => rfl
    | cons a r ih => simp only [List.map_cons, List.flatten_cons, ih]; rfl
   rw [e]
   exact h.range 0 _ (by rw [List.drop_zero, List.take_length])
  ·obtain ⟨x, _, rfl⟩ := List.mem_map.1 hc
   rfl
  ·rw [List.getElem?_map, hx] at hc
   obtain rfl : [Value.string (sb x)] = c := by simpa using hc
   exact ⟨rfl, hz x (List.mem_of_getElem? hx)⟩
theorem blk_sl {α : Type} {k : Nat} {p : α → List Value → Prop} {w : World} {g : Nat} {t : TypeId} (xs : List α) (L : List (List Value)) (h : Blk w g t L.flatten) (hL : L.length = xs.length) (hk : ∀ c ∈ L, c.length = k) (hp : ∀ (j : Nat) (x : α) (c : List Value), xs[j]? = some x → L[j]? = some c → p x c) (hl : xs.length ≤ 140737488351232) :
  Sl k p (fun i => i = g) w (.slice (some ⟨g, 0, none⟩) xs.length xs.length) xs :=
 ⟨_, _, rfl, Nat.le_refl _, hl, .inr ⟨g, 0, L, rfl, rfl, h.lt, h.range 0 _ (by rw [List.drop_zero, List.take_length]), hL, hk, hp⟩⟩
def sOC : B := [111, 98, 106, 101, 99, 116, 67, 108, 97, 115, 115]
def sCn : B := [99, 110]
def sAge : B := [97, 103, 101]
def sDc : B := [100, 99]
def sTop : B := [116, 111, 112]
def sPerson : B := [112, 101, 114, 115, 111, 110]
def sDomain : B := [100, 111, 109, 97, 105, 110]
def sAged : B := [97, 103, 101, 100]
def exT : List Ty := [⟨sOC, 1, false, false, false, false⟩, ⟨sCn, 1, false, false, false, false⟩, ⟨sAge, 3, true, false, false, false⟩, ⟨sDc, 1, false, false, false, false⟩]
def exC : List Cl := [⟨sTop, 0, [], [], []⟩, ⟨sPerson, 1, sTop, [sCn], [sAge]⟩, ⟨sDomain, 1, sTop, [sDc], []⟩, ⟨sAged, 2, [], [sAge], []⟩]
def exS : Sch := ⟨exT, exC⟩
theorem ex_ok : okS exS = true := by decide +kernel
theorem ex_n1 : normE exS [67, 78] [32, 65, 32, 32, 98] = ([97, 32, 98], 0) := by decide +kernel
theorem ex_n2 : normE exS sAge [48, 48, 55] = ([], 132) := by decide +kernel
theorem ex_c : cmpE exS sAge [45, 53] [49, 50] = (-1, 0) := by decide +kernel
def aOC : Atr := (sOC, [sPerson])
def aCn : Atr := (sCn, [[65]])
theorem ex_k1 : check exS [aOC, aCn] = 0 := by decide +kernel
theorem ex_k2 : check exS [aOC] = 134 := by decide +kernel
theorem ex_k3 : check exS [aOC, aCn, (sDc, [[120]])] = 135 := by decide +kernel
theorem ex_k4 : check exS [aOC, aCn, (sAge, [[49], [50]])] = 136 := by decide +kernel
theorem ex_k5 : check exS [(sOC, [sTop])] = 133 := by decide +kernel
theorem ex_i1 : isA exS [aOC] [84, 79, 80] = true := by decide +kernel
theorem ex_i2 : isA exS [aOC] sDomain = false := by decide +kernel
end Go.Proofs.YtgbiicipkbpmeaaGreatDoor.SC
namespace Go.Proofs.YtgbiicipkbpmeaaGreatDoor.SC
set_option maxRecDepth 100000
set_option maxHeartbeats 128000000
open Go.RowKit K BE DN
def exTv (i : Nat) : Value := .agg (tyV (exT.getD i ty0)).toArray
def exCv (i : Nat) (v1 v2 : Value) : Value := .agg (clV (exC.getD i ⟨[], 0, [], [], []⟩) v1 v2).toArray
theorem exec_bld {op : Oper} {a : Act} (t : TypeId) (fs : List (Nat × Operand)) (ho : op.op = .build t fs.toArray) (gs : List (Nat × Value)) (hx : (fs.map fun x => (x.1, a.eval x.2)) = gs) (v : Value) (w : World) (h : (Instr.build t gs.toArray).run Tryz.prog w = .ok v w) : (execOp a.eval op).run Tryz.prog w = .ok (.value v) w := by
 subst hx
 have e : (fs.toArray.map fun x => (x.1, a.eval x.2)) = (fs.map fun x => (x.1, a.eval x.2)).toArray := by simp
 simp only [execOp, ho]
 rw [e]
 simp [h, Result.andThen]
theorem bty0 (w : World) : (Instr.build 53 [(0, .string (sb sOC)), (1, .int .i64 1)].toArray).run Tryz.prog w = .ok (exTv 0) w := by kernel_rfl
theorem bty1 (w : World) : (Instr.build 53 [(0, .string (sb sCn)), (1, .int .i64 1)].toArray).run Tryz.prog w = .ok (exTv 1) w := by kernel_rfl
theorem bty2 (w : World) : (Instr.build 53 [(0, .string (sb sAge)), (1, .int .i64 3), (2, .bool true)].toArray).run Tryz.prog w = .ok (exTv 2) w := by kernel_rfl
theorem bty3 (w : World) : (Instr.build 53 [(0, .string (sb sDc)), (1, .int .i64 1)].toArray).run Tryz.prog w = .ok (exTv 3) w := by kernel_rfl
theorem bcl0 (w : World) : (Instr.build 55 [(0, .string (sb sTop))].toArray).run Tryz.prog w = .ok (exCv 0 (.slice none 0 0) (.slice none 0 0)) w := by kernel_rfl
theorem bcl1 (p q : Nat) (w : World) : (Instr.build 55 [(0, .string (sb sPerson)), (1, .int .i64 1), (2, .string (sb sTop)), (3, .slice (some ⟨p, 0, none⟩) 1 1), (4, .slice (some ⟨q, 0, none⟩) 1 1)].toArray).run Tryz.prog w = .ok (exCv 1 (.slice (some ⟨p, 0, none⟩) 1 1) (.slice (some ⟨q, 0, none⟩) 1 1)) w := by kernel_rfl
theorem bcl2 (p : Nat) (w : World) : (Instr.build 55 [(0, .string (sb sDomain)), (1, .int .i64 1), (2, .string (sb sTop)), (3, .slice (some ⟨p, 0, none⟩) 1 1)].toArray).run Tryz.prog w = .ok (exCv 2 (.slice (some ⟨p, 0, none⟩) 1 1) (.slice none 0 0)) w := by kernel_rfl
theorem bcl3 (p : Nat) (w : World) : (Instr.build 55 [(0, .string (sb sAged)), (1, .int .i64 2), (3, .slice (some ⟨p, 0, none⟩) 1 1)].toArray).run Tryz.prog w = .ok (exCv 3 (.slice (some ⟨p, 0, none⟩) 1 1) (.slice none 0 0)) w := by kernel_rfl
theorem bsc (p q : Nat) (w : World) : (Instr.build 25 [(0, .slice (some ⟨p, 0, none⟩) 4 4), (1, .slice (some ⟨q, 0, none⟩) 4 4)].toArray).run Tryz.prog w = .ok (.agg #[.slice (some ⟨p, 0, none⟩) 4 4, .slice (some ⟨q, 0, none⟩) 4 4]) w := by kernel_rfl
theorem fty : ([exTv 0, exTv 1, exTv 2, exTv 3].flatMap fun v => v.cells.toList) = (exT.map tyV).flatten := by kernel_rfl
theorem szty (i : Nat) : (exTv i).cells.size = 6 := rfl
theorem szcl (i : Nat) (u v : Value) : (exCv i u v).cells.size = 5 := rfl
theorem fcl (p q r s : Nat) : ([exCv 0 (.slice none 0 0) (.slice none 0 0), exCv 1 (.slice (some ⟨p, 0, none⟩) 1 1) (.slice (some ⟨q, 0, none⟩) 1 1), exCv 2 (.slice (some ⟨r, 0, none⟩) 1 1) (.slice none 0 0), exCv 3 (.slice (some ⟨s, 0, none⟩) 1 1) (.slice none 0 0)].flatMap fun v => v.cells.toList) = ([clV (exC.getD 0 ⟨[], 0, [], [], []⟩) (.slice none 0 0) (.slice none 0 0), clV (exC.getD 1 ⟨[], 0, [], [], []⟩) (.slice (some ⟨p, 0, none⟩) 1 1) (.slice (some ⟨q, 0, none⟩) 1 1), clV (exC.getD 2 ⟨[], 0, [], [], []⟩) (.slice (some ⟨r, 0, none⟩) 1 1) (.slice none 0 0), clV (exC.getD 3 ⟨[], 0, [], [], []⟩) (.slice (some ⟨s, 0, none⟩) 1 1) (.slice none 0 0)] : List (List Value)).flatten := by kernel_rfl
attribute [irreducible] exTv exCv
theorem example_any (w : World) : Calls Tryz.prog 14 #[] w fun e w' => ∃ vt vc, e = .returned (.agg #[vt, vc]) ∧ TysIn (fun i => w.heap.size ≤ i) w' vt exT ∧ ClsIn (fun i => w.heap.size ≤ i) w' vc exC ∧ Fr No w w' := by
 obtain ⟨is, his, hzs, hss, hbs⟩ := info_ex infoS3
 obtain ⟨it, hit, hzt, hst, hbt⟩ := info_ex infoTy3
 obtain ⟨ic, hic, hzc, hsc, hbc⟩ := info_ex infoCl3
 have IS := hid his; have ZS := hid hzs; have SS := hid hss
 have IT := hid hit; have ZT := hid hzt; have ST := hid hst
 have IC := hid hic; have ZC := hid hzc; have SC := hid hsc
 obtain ⟨base, hbase⟩ : ∃ b, w.heap.size = b := ⟨_, rfl⟩
 have HBASE := hid hbase
 clear his hzs hss hbs hit hzt hst hbt hic hzc hsc hbc hbase
 go_enter Tryz.func14, Tryz.ntmps14
 go_wp2_with (first
  | ((with_reducible refine K.atO (.alloc 25) ?_); refine wpL_alloc rfl _ rfl _ zeroSc _ rfl ?_; intro w1 HB1 F1 HS1; simp only [K.pu])
  | ((with_reducible refine K.atO (.build 53 _) ?_); refine wpL_valZ rfl (exTv 0) (exec_bld _ [(0, .const (.string (sb sOC))), (1, .const (.int .i64 1))] rfl [(0, .string (sb sOC)), (1, .int .i64 1)] rfl _ _ (bty0 _)) ?_; simp only [K.pu])
  | ((with_reducible refine K.atO (.build 53 _) ?_); refine wpL_valZ rfl (exTv 1) (exec_bld _ [(0, .const (.string (sb sCn))), (1, .const (.int .i64 1))] rfl [(0, .string (sb sCn)), (1, .int .i64 1)] rfl _ _ (bty1 _)) ?_; simp only [K.pu])
  | ((with_reducible refine K.atO (.build 53 _) ?_); refine wpL_valZ rfl (exTv 2) (exec_bld _ [(0, .const (.string (sb sAge))), (1, .const (.int .i64 3)), (2, .const (.bool true))] rfl [(0, .string (sb sAge)), (1, .int .i64 3), (2, .bool true)] rfl _ _ (bty2 _)) ?_; simp only [K.pu])
  | ((with_reducible refine K.atO (.build 53 _) ?_); refine wpL_valZ rfl (exTv 3) (exec_bld _ [(0, .const (.string (sb sDc))), (1, .const (.int .i64 1))] rfl [(0, .string (sb sDc)), (1, .int .i64 1)] rfl _ _ (bty3 _)) ?_; simp only [K.pu])
  | ((with_reducible refine K.atO (.buildSlice 22 _ _) ?_); refine wpL_buildAll rfl 22 53 [.tmp 1, .tmp 2, .tmp 3, .tmp 4] rfl it _ Tryz.underlying22 IT.out ZT.out (by rw [ST.out]; decide) (by rw [ST.out]; decide) (by decide) [exTv 0, exTv 1, exTv 2, exTv 3] rfl (by intro v hv; rw [ST.out]; simp only [List.mem_cons, List.not_mem_nil, or_false] at hv; rcases hv with rfl | rfl | rfl | rfl <;> exact szty _) (exT.map tyV).flatten fty ?_; intro y1 HY1 G1 HT1; simp only [K.pu])
  | ((with_reducible refine K.atO (.build 55 _) ?_); (have := HY5); refine wpL_valZ rfl (exCv 3 (.slice (some ⟨y4.heap.size, 0, none⟩) 1 1) (.slice none 0 0)) (exec_bld _ [(0, .const (.string (sb sAged))), (1, .const (.int .i64 2)), (3, .tmp 12)] rfl [(0, (.string (sb sAged))), (1, .int .i64 2), (3, (.slice (some ⟨y4.heap.size, 0, none⟩) 1 1))] rfl _ _ (bcl3 _ _)) ?_; simp only [K.pu])
  | ((with_reducible refine K.atO (.build 55 _) ?_); (have := HY4); refine wpL_valZ rfl (exCv 2 (.slice (some ⟨y3.heap.size, 0, none⟩) 1 1) (.slice none 0 0)) (exec_bld _ [(0, .const (.string (sb sDomain))), (1, .const (.int .i64 1)), (2, .const (.string (sb sTop))), (3, .tmp 10)] rfl [(0, (.string (sb sDomain))), (1, .int .i64 1), (2, (.string (sb sTop))), (3, (.slice (some ⟨y3.heap.size, 0, none⟩) 1 1))] rfl _ _ (bcl2 _ _)) ?_; simp only [K.pu])
  | ((with_reducible refine K.atO (.build 55 _) ?_); (have := HY3); refine wpL_valZ rfl (exCv 1 (.slice (some ⟨y1.heap.size, 0, none⟩) 1 1) (.slice (some ⟨y2.heap.size, 0, none⟩) 1 1)) (exec_bld _ [(0, .const (.string (sb sPerson))), (1, .const (.int .i64 1)), (2, .const (.string (sb sTop))), (3, .tmp 7), (4, .tmp 8)] rfl [(0, (.string (sb sPerson))), (1, .int .i64 1), (2, (.string (sb sTop))), (3, (.slice (some ⟨y1.heap.size, 0, none⟩) 1 1)), (4, (.slice (some ⟨y2.heap.size, 0, none⟩) 1 1))] rfl _ _ (bcl1 _ _ _)) ?_; simp only [K.pu])
  | ((with_reducible refine K.atO (.build 55 _) ?_); refine wpL_valZ rfl (exCv 0 (.slice none 0 0) (.slice none 0 0)) (exec_bld _ [(0, .const (.string (sb sTop)))] rfl [(0, (.string (sb sTop)))] rfl _ _ (bcl0 _)) ?_; simp only [K.pu])
  | ((with_reducible refine K.atO (.buildSlice 37 _ _) ?_); (have := HY4); refine wpL_buildAll rfl 37 9 [.const (.string (sb sAge))] rfl is _ Tryz.underlying37 IS.out ZS.out (by rw [SS.out]; decide) (by rw [SS.out]; decide) (by decide) [.string (sb sAge)] rfl (by intro v hv; rw [List.mem_singleton.1 hv, SS.out]; rfl) (strs [sAge]) rfl ?_; intro y5 HY5 G5 HT5; simp only [K.pu])
  | ((with_reducible refine K.atO (.buildSlice 37 _ _) ?_); (have := HY3); refine wpL_buildAll rfl 37 9 [.const (.string (sb sDc))] rfl is _ Tryz.underlying37 IS.out ZS.out (by rw [SS.out]; decide) (by rw [SS.out]; decide) (by decide) [.string (sb sDc)] rfl (by intro v hv; rw [List.mem_singleton.1 hv, SS.out]; rfl) (strs [sDc]) rfl ?_; intro y4 HY4 G4 HT4; simp only [K.pu])
  | ((with_reducible refine K.atO (.buildSlice 37 _ _) ?_); (have := HY2); refine wpL_buildAll rfl 37 9 [.const (.string (sb sAge))] rfl is _ Tryz.underlying37 IS.out ZS.out (by rw [SS.out]; decide) (by rw [SS.out]; decide) (by decide) [.string (sb sAge)] rfl (by intro v hv; rw [List.mem_singleton.1 hv, SS.out]; rfl) (strs [sAge]) rfl ?_; intro y3 HY3 G3 HT3; simp only [K.pu])
  | ((with_reducible refine K.atO (.buildSlice 37 _ _) ?_); refine wpL_buildAll rfl 37 9 [.const (.string (sb sCn))] rfl is _ Tryz.underlying37 IS.out ZS.out (by rw [SS.out]; decide) (by rw [SS.out]; decide) (by decide) [.string (sb sCn)] rfl (by intro v hv; rw [List.mem_singleton.1 hv, SS.out]; rfl) (strs [sCn]) rfl ?_; intro y2 HY2 G2 HT2; simp only [K.pu])
  | ((with_reducible refine K.atO (.buildSlice 23 _ _) ?_); refine wpL_buildAll rfl 23 55 [.tmp 6, .tmp 9, .tmp 11, .tmp 13] rfl ic _ Tryz.underlying23 IC.out ZC.out (by rw [SC.out]; decide) (by rw [SC.out]; decide) (by decide) [exCv 0 (.slice none 0 0) (.slice none 0 0), exCv 1 (.slice (some ⟨y1.heap.size, 0, none⟩) 1 1) (.slice (some ⟨y2.heap.size, 0, none⟩) 1 1), exCv 2 (.slice (some ⟨y3.heap.size, 0, none⟩) 1 1) (.slice none 0 0), exCv 3 (.slice (some ⟨y4.heap.size, 0, none⟩) 1 1) (.slice none 0 0)] rfl (by intro v hv; rw [SC.out]; simp only [List.mem_cons, List.not_mem_nil, or_false] at hv; rcases hv with rfl | rfl | rfl | rfl <;> exact szcl _ _ _) ([clV (exC.getD 0 ⟨[], 0, [], [], []⟩) (.slice none 0 0) (.slice none 0 0), clV (exC.getD 1 ⟨[], 0, [], [], []⟩) (.slice (some ⟨y1.heap.size, 0, none⟩) 1 1) (.slice (some ⟨y2.heap.size, 0, none⟩) 1 1), clV (exC.getD 2 ⟨[], 0, [], [], []⟩) (.slice (some ⟨y3.heap.size, 0, none⟩) 1 1) (.slice none 0 0), clV (exC.getD 3 ⟨[], 0, [], [], []⟩) (.slice (some ⟨y4.heap.size, 0, none⟩) 1 1) (.slice none 0 0)] : List (List Value)).flatten (fcl _ _ _ _) ?_; intro y6 HY6 G6 HT6; simp only [K.pu])
  | ((with_reducible refine K.atO (.build 25 _) ?_); refine wpL_valZ rfl (.agg #[.slice (some ⟨w1.heap.size, 0, none⟩) 4 4, .slice (some ⟨y5.heap.size, 0, none⟩) 4 4]) (exec_bld _ [(0, .tmp 5), (1, .tmp 14)] rfl [(0, .slice (some ⟨w1.heap.size, 0, none⟩) 4 4), (1, .slice (some ⟨y5.heap.size, 0, none⟩) 4 4)] rfl _ _ (bsc _ _ _)) ?_; simp only [K.pu])
  | ((with_reducible refine K.atO (.store 25 _ _) ?_); refine wpL_store rfl _ _ _ rfl w.heap.size 0 [.slice (some ⟨w1.heap.size, 0, none⟩) 4 4, .slice (some ⟨y5.heap.size, 0, none⟩) 4 4] rfl rfl 25 _ ((((((HB1.out.fr G1.out id).fr G2.out id).fr G3.out id).fr G4.out id).fr G5.out id).fr G6.out id) (by simp) infoSc (by simp [Value.oneCell']) ?_; intro y7 HY7 G7 HT7))
 have hs1 := HS1.out; have t1 := HT1.out; have t2 := HT2.out; have t3 := HT3.out; have t4 := HT4.out; have t5 := HT5.out; have t6 := HT6.out
 have hf : Fr No w y7 := (((((((F1.out.trans' G1.out).trans' G2.out).trans' G3.out).trans' G4.out).trans' G5.out).trans' G6.out).trans G7.out (fun k e => .inr (by have e : k = w.heap.size := e; omega)))
 have hg : ∀ {t : TypeId} {b : Nat} {cs : List Value} {u : World}, Blk u b t cs → Fr No u y6 → b ≠ w.heap.size → Blk y7 b t cs := fun h f hb => (h.fr f id).fr G7.out hb
 refine ret_cell rfl _ rfl HY7.out rfl rfl infoSc rfl ?_
 refine ⟨_, _, rfl, ?_, ?_, hf⟩
 ·have hb := hg HY1.out ((((G2.out.trans' G3.out).trans' G4.out).trans' G5.out).trans' G6.out) (by omega)
  have := blk_sl (k := 6) (p := TyC) exT (exT.map tyV) hb rfl (by intro c hc; obtain ⟨t, _, rfl⟩ := List.mem_map.1 hc; rfl) (fun j x c hx hc => by
   rw [List.getElem?_map, hx] at hc
   obtain rfl : tyV x = c := by simpa using hc
   have hm := List.mem_of_getElem? hx
   refine ⟨rfl, ?_⟩
   simp only [exT, List.mem_cons, List.not_mem_nil, or_false] at hm
   rcases hm with rfl | rfl | rfl | rfl <;> (unfold Sz; decide)) (by decide)
  exact Sl.mono this (fun i hi _ => by have hi : i = w1.heap.size := hi; omega) (fun _ _ _ h => h)
 ·have hb := hg HY6.out (Fr.refl _ _) (by omega)
  have l2 := LsIn.mono (S' := fun i => w.heap.size ≤ i) (blk_ls [sCn] (hg HY2.out (((G3.out.trans' G4.out).trans' G5.out).trans' G6.out) (by omega)) (by decide) (by intro x hx; rw [List.mem_singleton.1 hx]; unfold Sz; decide)) (fun i hi _ => by have hi : i = y1.heap.size := hi; omega)
  have l3 := LsIn.mono (S' := fun i => w.heap.size ≤ i) (blk_ls [sAge] (hg HY3.out ((G4.out.trans' G5.out).trans' G6.out) (by omega)) (by decide) (by intro x hx; rw [List.mem_singleton.1 hx]; unfold Sz; decide)) (fun i hi _ => by have hi : i = y2.heap.size := hi; omega)
  have l4 := LsIn.mono (S' := fun i => w.heap.size ≤ i) (blk_ls [sDc] (hg HY4.out (G5.out.trans' G6.out) (by omega)) (by decide) (by intro x hx; rw [List.mem_singleton.1 hx]; unfold Sz; decide)) (fun i hi _ => by have hi : i = y3.heap.size := hi; omega)
  have l5 := LsIn.mono (S' := fun i => w.heap.size ≤ i) (blk_ls [sAge] (hg HY5.out G6.out (by omega)) (by decide) (by intro x hx; rw [List.mem_singleton.1 hx]; unfold Sz; decide)) (fun i hi _ => by have hi : i = y4.heap.size := hi; omega)
  have l0 : LsIn (fun i => w.heap.size ≤ i) y7 (.slice none 0 0) [] := ⟨none, 0, rfl, Nat.le_refl _, by simp, .inl rfl⟩
  have := blk_sl (k := 5) (p := ClC (fun i => w.heap.size ≤ i) y7) exC [clV (exC.getD 0 ⟨[], 0, [], [], []⟩) (.slice none 0 0) (.slice none 0 0), clV (exC.getD 1 ⟨[], 0, [], [], []⟩) (.slice (some ⟨y1.heap.size, 0, none⟩) 1 1) (.slice (some ⟨y2.heap.size, 0, none⟩) 1 1), clV (exC.getD 2 ⟨[], 0, [], [], []⟩) (.slice (some ⟨y3.heap.size, 0, none⟩) 1 1) (.slice none 0 0), clV (exC.getD 3 ⟨[], 0, [], [], []⟩) (.slice (some ⟨y4.heap.size, 0, none⟩) 1 1) (.slice none 0 0)] hb rfl (by intro c hc; simp only [List.mem_cons, List.not_mem_nil, or_false] at hc; rcases hc with rfl | rfl | rfl | rfl <;> rfl) (fun j x c hx hc => by
   match j, hx, hc with
   | 0, hx, hc => cases hx; cases hc; exact ⟨_, _, rfl, by unfold Sz; decide, by unfold Sz; decide, l0, l0, by unfold LB; decide⟩
   | 1, hx, hc => cases hx; cases hc; exact ⟨_, _, rfl, by unfold Sz; decide, by unfold Sz; decide, l2, l3, by unfold LB; decide⟩
   | 2, hx, hc => cases hx; cases hc; exact ⟨_, _, rfl, by unfold Sz; decide, by unfold Sz; decide, l4, l0, by unfold LB; decide⟩
   | 3, hx, hc => cases hx; cases hc; exact ⟨_, _, rfl, by unfold Sz; decide, by unfold Sz; decide, l5, l0, by unfold LB; decide⟩
   | n + 4, hx, _ => simp [exC] at hx) (by decide)
  exact Sl.mono this (fun i hi _ => by have hi : i = y5.heap.size := hi; omega) (fun _ _ _ h => h)
end Go.Proofs.YtgbiicipkbpmeaaGreatDoor.SC
