/-
  The document's reads and Decode.
-/
import Derived.Test.YthnahoodgkeaiaaBf9
import Derived.Test.YthnahoodgkeaiaaBf2
import Derived.Test.YthnahoodgkeaiaaBeA
set_option linter.unusedVariables false
set_option linter.unusedSimpArgs false
namespace Go.Proofs.Ythnahoodgkeaiaa.BE
set_option maxRecDepth 100000
open Go.RowKit K

/-- What the document's reads leaves. -/
def DReads (m : Nat) (s : B) (w : World) (e : Ending) (w' : World) : Prop := Fr No w w' ∧ match rd m s with
  | .error k => e = .returned (.tuple #[.agg #[.int .i64 0, .string ⟨#[]⟩, .slice none 0 0], .int .i64 0, .int .i64 (k : Int)])
  | .ok (n, u) => ∃ cs, e = .returned (.tuple #[.agg cs.toArray, .int .i64 (u : Int), .int .i64 0]) ∧ NdAt m (Since w.heap.size) w' n cs
/-- Three results, of which the first lies in memory. -/
theorem ret_ctt {P : Program} {a : Act} {w : World} {fn : Func} {R : Ending → World → Prop} {p q r : Tmp} {ty : TypeId} {b : Nat} {t : TypeId} {cs : List Value} (hr : fn.results = #[.cell p ty, .tmp q, .tmp r]) (d : TypeDesc) (hp : a.tmps.getD p undef = .pointer (some ⟨b, 0, none⟩)) (hB : Blk w b t cs)
    (hu : P.underlying ty = some d) (hd : (match d with | .struct _ | .array _ _ => true | _ => false) = true) (hi : (P.info? ty).map (·.size) = some cs.length) (hdf : a.defers = [])
    (h : R (.returned (.tuple #[.agg cs.toArray, a.tmps.getD q undef, a.tmps.getD r undef])) w) : bodyPost P fn R .ret a w := by
  refine bodyPost_ret ?_ hdf h
  have hp' : a.tmps[p]?.getD undef = .pointer (some ⟨b, 0, none⟩) := by simpa using hp
  simp [results, hr, hp', asAddr, run_loadVar_row w b t ty cs.toArray (0, 0) d hB hu hd (by simpa using hi)]
theorem zN1 : ∀ u ∈ [Value.int .i64 0, .string ⟨#[]⟩, .slice none 0 0], u.oneCell' = true := by intro u hu; simp at hu; rcases hu with rfl | rfl | rfl <;> rfl
theorem con_of2 {t : Nat} : ((t : Int) / 32 % 2 == 0) = !conB (t : Int) := by
  unfold conB
  by_cases h : (t : Int) / 32 % 2 = 1
  · rw [h]; rfl
  · have h0 : (t : Int) / 32 % 2 = 0 := by omega
    rw [h0]; rfl
def strV : Value → Nat
  | .string x => x.size
  | _ => 0
set_option maxHeartbeats 16000000 in
theorem docReads_any : ∀ (m : Nat), m ≤ 8 → ∀ (s : B) (w : World), s.length ≤ 281474976710656 → Calls Try.prog 32 #[.string (sb s), .int .i64 ((9 - m : Nat) : Int)] w (DReads m s w) := by
  intro m
  induction m with
  | zero =>
    intro _ s w hs
    obtain ⟨ss, hss⟩ : ∃ ss, sb s = ss := ⟨_, rfl⟩
    rw [hss]
    clear hs hss
    go_enter Try.func32, Try.ntmps32
    go_wp2_with (first
      | ((with_reducible show wpList _ _ _ (⟨_, .alloc 24, _, _, _, _⟩ :: _) _ _); refine wpL_alloc rfl _ rfl _ zeroN [.int .i64 0, .string ⟨#[]⟩, .slice none 0 0] rfl ?_; intro w1 HB1 F1 HS1)
      | ((with_reducible show wpList _ _ _ (⟨_, .store 24 _ _, _, _, _, _⟩ :: _) _ _); refine wpL_storeV rfl _ _ _ rfl w.heap.size 0 (.agg #[.int .i64 0, .string ⟨#[]⟩, .slice none 0 0]) [.int .i64 0, .string ⟨#[]⟩, .slice none 0 0] rfl rfl rfl _ _ HB1.out (by simp) infoN zN1 ?_; intro w2 HB2 F2 HS2))
    have hb2 : Blk w2 w.heap.size 24 [.int .i64 0, .string ⟨#[]⟩, .slice none 0 0] := by have h := HB2.out; rwa [spl_all (by simp)] at h
    refine ret_ctt rfl _ rfl hb2 rfl rfl (by simpa using infoN) rfl ?_
    exact ⟨F1.out.trans F2.out (fun i e => .inr (by have e : i = w.heap.size := e; omega)), rfl⟩
  | succ m ih =>
    intro hm s w hs
    have HIH := hid (ih (by omega)); have HSL := hid hs
    have hd : ((9 - (m + 1) : Nat) : Int) = 8 - m := by omega
    have hd8 : (8 - (m : Int)) ≤ 8 := by omega
    have hd0 : 0 ≤ (8 - (m : Int)) := by omega
    rw [hd]
    obtain ⟨q, hq⟩ : ∃ q, 8 - (m : Int) = q := ⟨_, rfl⟩
    rw [hq] at hd8 hd0 ⊢
    have HQ := hid (show q + 1 = ((9 - m : Nat) : Int) by omega)
    have hsz : ((sb s).size : Int) = s.length := by rw [sb_size]
    obtain ⟨sl, hsl⟩ : ∃ sl, s.length = sl := ⟨_, rfl⟩
    rw [hsl] at hsz hs
    have HSE := hid hsl
    have hsli : (sl : Int) ≤ 281474976710656 := by omega
    clear ih hm hd hq hsl hs
    go_enter Try.func32, Try.ntmps32
    go_wp2_with ((with_reducible show wpList _ _ _ (⟨_, .alloc 24, _, _, _, _⟩ :: _) _ _); refine wpL_alloc rfl _ rfl _ zeroN [.int .i64 0, .string ⟨#[]⟩, .slice none 0 0] rfl ?_; intro w1 HB1 F1 HS1)
    refine (docHead_any s w1 HSL.out).mono ?_
    rintro e w2 ⟨rfl, f2⟩
    have HF2 := hid (F1.out.trans' f2); have HB2 := hid (HB1.out.fr f2 id)
    have HLT := hid (show w.heap.size < w2.heap.size from HB2.out.lt)
    clear f2 HB1
    cases hh : hdS s with
    | error k =>
      have hX : toldH (headN s) = .returned (.tuple #[.int .i64 0, .int .i64 0, .int .i64 0, .int .i64 (k : Int)]) := by
        have h : headN s = (0, 0, 0, k) := by unfold headN; rw [hh]
        rw [h]; rfl
      have hk := hd_err hh
      have e : rd (m + 1) s = .error k := by unfold rd; rw [hh]
      have HE := hid e
      have hki : ((k : Int) != 0) = true := by simp; omega
      rw [hX]
      clear hX hh e hk
      go_wp2_with (first
        | ((with_reducible show wpList _ _ _ (⟨_, .store 24 _ _, _, _, _, _⟩ :: _) _ _); refine wpL_storeV rfl _ _ _ rfl w.heap.size 0 (.agg #[.int .i64 0, .string ⟨#[]⟩, .slice none 0 0]) [.int .i64 0, .string ⟨#[]⟩, .slice none 0 0] rfl rfl rfl _ _ HB2.out (by simp) infoN zN1 ?_; intro w3 HB3 F3 HS3))
      have hb3 : Blk w3 w.heap.size 24 [.int .i64 0, .string ⟨#[]⟩, .slice none 0 0] := by have h := HB3.out; rwa [spl_all (by simp)] at h
      refine ret_ctt rfl _ rfl hb3 rfl rfl (by simpa using infoN) rfl ?_
      refine ⟨HF2.out.trans F3.out (fun i e => .inr (by have e : i = w.heap.size := e; omega)), ?_⟩
      rw [HE.out]
      rfl
    | ok p =>
      obtain ⟨t, c, h⟩ := p
      have hX : toldH (headN s) = .returned (.tuple #[.int .i64 (t : Int), .int .i64 (c : Int), .int .i64 (h : Int), .int .i64 0]) := by
        have h : headN s = (t, c, h, 0) := by unfold headN; rw [hh]
        rw [h]; rfl
      rw [hX]
      obtain ⟨b, htb, htag, hc4, hhl, r, hsr⟩ := hd_inv hh
      have hlp := len_pos c
      have ht255 := lt256 b
      rw [← htb] at ht255 htag
      have HH := hid hh; have HTG := hid htag
      have hrd := rd_succ (m := m) hh
      have HRD := hid hrd
      have hh4 : h ≤ 4 := by omega
      clear hsr htb htag hhl hlp hh hrd hX
      have hci : (c : Int) ≤ 4000 := by omega
      have hhi : (h : Int) ≤ 4 := by omega
      by_cases hlt : sl < h + c
      · have hlti : (sl : Int) < (h : Int) + c := by omega
        have HE : Hid (rd (m + 1) s = .error 92) := hid (by rw [HRD.out]; unfold rdT; rw [if_pos (by rw [HSE.out]; omega)])
        clear hlt
        go_wp2_with (first
          | ((with_reducible show wpList _ _ _ (⟨_, .store 24 _ _, _, _, _, _⟩ :: _) _ _); refine wpL_storeV rfl _ _ _ rfl w.heap.size 0 (.agg #[.int .i64 0, .string ⟨#[]⟩, .slice none 0 0]) [.int .i64 0, .string ⟨#[]⟩, .slice none 0 0] rfl rfl rfl _ _ HB2.out (by simp) infoN zN1 ?_; intro w3 HB3 F3 HS3))
        have hb3 : Blk w3 w.heap.size 24 [.int .i64 0, .string ⟨#[]⟩, .slice none 0 0] := by have h := HB3.out; rwa [spl_all (by simp)] at h
        refine ret_ctt rfl _ rfl hb3 rfl rfl (by simpa using infoN) rfl ?_
        refine ⟨HF2.out.trans F3.out (fun i e => .inr (by have e : i = w.heap.size := e; omega)), ?_⟩
        rw [HE.out]
        rfl
      · have hlen : h + c ≤ sl := by omega
        have hleni : (h : Int) + c ≤ sl := by omega
        have HLEN := hid hlen
        have hnl : ¬ s.length < h + c := by rw [HSE.out]; omega
        have HNL := hid hnl
        obtain ⟨bd, hbd⟩ : ∃ bd, (s.drop h).take c = bd := ⟨_, rfl⟩
        have hbl : bd.length = c := by rw [← hbd, List.length_take, List.length_drop, HSE.out]; omega
        have HBD := hid hbd; have HBDL := hid hbl
        have hcq := con_of2 (t := t)
        clear hlt hlen hnl hbd hbl
        have hti : (t : Int) ≤ 255 := by omega
        cases hcn : conB t with
        | false =>
          have HCN := hid hcn
          have hcq1 : ((t : Int) / 32 % 2 == 0) = true := by rw [hcq, hcn]; rfl
          clear hcn hcq
          go_wp2_with (first
            | ((with_reducible show wpList _ _ _ (⟨_, .alloc 24, _, _, _, _⟩ :: _) _ _); refine wpL_alloc rfl _ rfl _ zeroN [.int .i64 0, .string ⟨#[]⟩, .slice none 0 0] rfl ?_; intro w3 HB3 F3 HS3)
            | ((with_reducible show wpList _ _ _ (⟨_, .store 24 _ _, _, _, _, _⟩ :: _) _ _); (have := HB3); (fail_if_success (have := HB4)); refine wpL_storeV rfl _ _ _ rfl w2.heap.size 0 (.agg #[.int .i64 (t : Int), .string ⟨#[]⟩, .slice none 0 0]) [.int .i64 (t : Int), .string ⟨#[]⟩, .slice none 0 0] rfl rfl rfl _ _ HB3.out (by simp) infoN (by intro u hu; simp at hu; rcases hu with rfl | rfl | rfl <;> rfl) ?_; intro w4 HB4 F4 HS4)
            | ((with_reducible show wpList _ _ _ (⟨_, .slice 9 _ _ _ _, _, _, _, _⟩ :: _) _ _); refine wpL_valZ rfl (.string (sb bd)) (exec_two _ _ _ rfl s h (h + c) rfl rfl (by push_cast; rfl) (by omega) (by have := HSE.out; have := HLEN.out; omega) _ (by rw [Nat.add_sub_cancel_left]; exact HBD.out) _) ?_)
            | ((with_reducible show wpList _ _ _ (⟨_, .store 9 _ _, _, _, _, _⟩ :: _) _ _); refine wpL_setV rfl _ _ _ rfl w2.heap.size 1 (.string (sb bd)) rfl rfl rfl rfl _ _ HB4.out (by simp [spl]) infoStr ?_; intro w5 HB5 F5 HS5;
                have HB5c : Hid (Blk w5 w2.heap.size 24 [.int .i64 (t : Int), .string (sb bd), .slice none 0 0]) := hid (by simpa [spl] using HB5.out);
                have HR5 : Hid (Blk w5 w.heap.size 24 [.int .i64 0, .string ⟨#[]⟩, .slice none 0 0]) := hid (((HB2.out.fr F3.out id).fr F4.out (fun e => by have e : w.heap.size = w2.heap.size := e; have := HLT.out; omega)).fr F5.out (fun e => by have e : w.heap.size = w2.heap.size := e; have := HLT.out; omega)))
            | ((with_reducible show wpList _ _ _ (⟨_, .load 24 _, _, _, _, _⟩ :: _) _ _); refine wpL_load rfl _ _ rfl w2.heap.size 0 rfl [.int .i64 (t : Int), .string (sb bd), .slice none 0 0] _ (HB5c.out.range 0 _ rfl) rfl rfl infoN ?_)
            | ((with_reducible show wpList _ _ _ (⟨_, .store 24 _ _, _, _, _, _⟩ :: _) _ _); (have := HB5); refine wpL_storeV rfl _ _ _ rfl w.heap.size 0 (.agg #[.int .i64 (t : Int), .string (sb bd), .slice none 0 0]) [.int .i64 (t : Int), .string (sb bd), .slice none 0 0] rfl rfl rfl _ _ HR5.out (by simp) infoN (by intro u hu; simp at hu; rcases hu with rfl | rfl | rfl <;> rfl) ?_; intro w6 HB6 F6 HS6))
          have hb6 : Blk w6 w.heap.size 24 [.int .i64 (t : Int), .string (sb bd), .slice none 0 0] := by have h := HB6.out; rwa [spl_all (by simp)] at h
          refine ret_ctt rfl _ rfl hb6 rfl rfl (by simpa using infoN) rfl ?_
          have hlt2 := HLT.out
          refine ⟨(((HF2.out.trans' F3.out).trans F4.out (fun i e => .inr (by have e : i = w2.heap.size := e; omega))).trans F5.out (fun i e => .inr (by have e : i = w2.heap.size := e; omega))).trans F6.out (fun i e => .inr (by have e : i = w.heap.size := e; omega)), ?_⟩
          rw [HRD.out]
          unfold rdT
          rw [if_neg HNL.out, if_neg (by rw [HCN.out]; simp), HBD.out]
          exact ⟨_, by simp, leaf_nd m _ _ _ _ (by omega) (by have := HBDL.out; omega)⟩
        | true =>
          have HCN := hid hcn
          have hcq1 : ((t : Int) / 32 % 2 == 0) = false := by rw [hcq, hcn]; rfl
          clear hcn hcq
          obtain ⟨ic, hic, hzc, hsc, hbc⟩ := Go.info_parts infozN
          have IC := hid hic; have ZC := hid hzc; have SC := hid hsc; have BC := hid hbc
          clear hic hzc hsc hbc
          go_wp2_with (first
            | ((with_reducible show wpList _ _ _ (⟨_, .alloc 24, _, _, _, _⟩ :: _) _ _); refine wpL_alloc rfl _ rfl _ zeroN [.int .i64 0, .string ⟨#[]⟩, .slice none 0 0] rfl ?_; intro w3 HB3 F3 HS3)
            | ((with_reducible show wpList _ _ _ (⟨_, .store 24 _ _, _, _, _, _⟩ :: _) _ _); (have := HB3); (fail_if_success (have := HB4)); refine wpL_storeV rfl _ _ _ rfl w2.heap.size 0 (.agg #[.int .i64 (t : Int), .string ⟨#[]⟩, .slice none 0 0]) [.int .i64 (t : Int), .string ⟨#[]⟩, .slice none 0 0] rfl rfl rfl _ _ HB3.out (by simp) infoN (by intro u hu; simp at hu; rcases hu with rfl | rfl | rfl <;> rfl) ?_; intro w4 HB4 F4 HS4)
            | ((with_reducible show wpList _ _ _ (⟨_, .slice 9 _ _ _ _, _, _, _, _⟩ :: _) _ _); refine wpL_valZ rfl (.string (sb bd)) (exec_two _ _ _ rfl s h (h + c) rfl rfl (by push_cast; rfl) (by omega) (by have := HSE.out; have := HLEN.out; omega) _ (by rw [Nat.add_sub_cancel_left]; exact HBD.out) _) ?_))
          have hb4 : Blk w4 w2.heap.size 24 [.int .i64 (t : Int), .string ⟨#[]⟩, .slice none 0 0] := by have h := HB4.out; rwa [spl_all (by simp)] at h
          have HB4' := hid hb4
          have hlt2 := HLT.out
          have hs3 := HS3.out
          have hs4 := HS4.out
          have hbase : w4.heap.size = w2.heap.size + 1 := by omega
          have hr4 : Blk w4 w.heap.size 24 [.int .i64 0, .string ⟨#[]⟩, .slice none 0 0] := (HB2.out.fr F3.out id).fr F4.out (fun e => by have e : w.heap.size = w2.heap.size := e; omega)
          have hf4 : Fr No w w4 := (HF2.out.trans' F3.out).trans F4.out (fun i e => .inr (by have e : i = w2.heap.size := e; omega))
          have HR4 := hid hr4; have HF4 := hid hf4; have HBASE := hid hbase
          obtain ⟨bn, hbn⟩ : ∃ bn, w2.heap.size = bn := ⟨_, rfl⟩
          obtain ⟨R, hRR⟩ : ∃ R, w.heap.size = R := ⟨_, rfl⟩
          rw [hbn, hRR] at hlt2
          have HBN := hid hbn; have HRW := hid hRR; have HRL := hid hlt2
          rw [hbn] at HB4' HBASE
          rw [hRR] at HR4
          rw [hbn]
          rw [hRR]
          clear hb4 hlt2 hs3 hs4 hbase hr4 hf4 hbn hRR
          go_loopw [12] (fun rv wr => ∃ (r : B) (acc : List Nd) (v : Value) (L : List (List Value)) (k : Nat), rv = .string (sb r) ∧ Hid (KS m (bn + 1) bn t acc v L wr) ∧ Hid (kidsG (rd m) bd.length bd = mapK acc (kidsG (rd m) k r)) ∧ Hid (r.length ≤ k ∧ acc.length * 2 + r.length ≤ 4000) ∧ Hid (Fr (fun k => k = bn) w4 wr)) (fun rv _ => strV rv)
          case atStart => exact ⟨bd, [], .slice none 0 0, [], bd.length, rfl, hid ⟨HB4'.out, World.ownsRow_nil _ _ _ _, rfl, fun j x c h => by simp at h⟩, hid (mapK_nil _).symm, hid ⟨Nat.le_refl _, by have := HBDL.out; simp; omega⟩, hid (Fr.refl _ _)⟩
          case round =>
            obtain ⟨r, acc, v, L, k, rfl, HKS, HK0, HL, HF⟩ := hrel
            have hrn := HRL.out
            have HRr : Hid (Blk wr R 24 [.int .i64 0, .string ⟨#[]⟩, .slice none 0 0]) := hid (HR4.out.fr HF.out (fun e => by have e : R = bn := e; omega))
            have HFw : Hid (Fr No w wr) := hid (HF4.out.trans HF.out (fun i e => .inr (by have e : i = bn := e; have := HBN.out; have := HRW.out; omega)))
            clear hrn
            by_cases hr : r = []
            · subst hr
              have hse : ((sb []).size : Int) = 0 := by rw [sb_size]; rfl
              have hkg : kidsG (rd m) bd.length bd = .ok acc := by rw [HK0.out, mapK_done]
              have hklen := kids_len hkg
              have HKG := hid hkg
              have HKLEN := hid (show acc.length ≤ 140737488351232 by have := HBDL.out; omega)
              obtain ⟨va, vc, hv, -, -⟩ := own_form HKS.out.r
              have HV := hid hv
              clear hkg hklen hv
              generalize hq0 : sb ([] : B) = q0 at *
              clear hq0
              go_wp2_with (first
                | ((with_reducible show wpList _ _ _ (⟨_, .load 24 _, _, _, _, _⟩ :: _) _ _); refine wpL_load rfl _ _ rfl bn 0 rfl [.int .i64 (t : Int), .string ⟨#[]⟩, v] _ (HKS.out.b.range 0 _ rfl) rfl rfl infoN ?_)
                | ((with_reducible show wpList _ _ _ (⟨_, .store 24 _ _, _, _, _, _⟩ :: _) _ _); refine wpL_storeV rfl _ _ _ rfl R 0 (.agg #[.int .i64 (t : Int), .string ⟨#[]⟩, v]) [.int .i64 (t : Int), .string ⟨#[]⟩, v] rfl rfl rfl _ _ HRr.out (by simp) infoN (by intro u hu; simp at hu; rcases hu with rfl | rfl | rfl; rfl; rfl; rw [HV.out]; rfl) ?_; intro w5 HB5 F5 HS5))
              have hb5 : Blk w5 R 24 [.int .i64 (t : Int), .string ⟨#[]⟩, v] := by have h := HB5.out; rwa [spl_all (by simp)] at h
              refine ret_ctt rfl _ rfl hb5 rfl rfl (by simpa using infoN) rfl ?_
              have hrn := HRL.out; have hrw := HRW.out
              refine ⟨HFw.out.trans F5.out (fun i e => .inr (by have e : i = R := e; omega)), ?_⟩
              rw [HRD.out]
              unfold rdT
              rw [if_neg HNL.out, if_pos HCN.out, HBD.out, HKG.out]
              exact ⟨_, by simp, (HKS.out.fr F5.out (fun k hk => by have e : k = R := hk; omega)).nd (by omega) (by omega) HKLEN.out⟩
            · have HR := hid hr
              have hrl : r.length ≤ 4000 := by have := HL.out; omega
              obtain ⟨rl, hrle⟩ : ∃ rl, r.length = rl := ⟨_, rfl⟩
              have hrp : 0 < rl := by rw [← hrle]; exact List.length_pos_iff.2 hr
              have hszr : ((sb r).size : Int) = rl := by rw [sb_size, hrle]
              have hrpi : (0 : Int) < rl := by omega
              have HRLE := hid hrle
              have hw4 : bn + 1 ≤ wr.heap.size := by have := HF.out.size; have := HBASE.out; omega
              have HW4 := hid hw4
              rw [hrle] at hrl
              clear hr hrle hrp hw4
              go_wp2_with fail
              rw [HQ.out]
              refine (HIH.out r wr (by have := HRLE.out; omega)).mono ?_
              rintro e w5 ⟨f5, hm⟩
              cases hrd : rd m r with
              | error k' =>
                rw [hrd] at hm
                simp only at hm
                subst hm
                have hne := rd_err m r k' hrd
                have hkg : kidsG (rd m) bd.length bd = .error k' := by rw [HK0.out, mapK_err acc (rd m) HR.out HL.out.1 hrd]
                have HE : Hid (rd (m + 1) s = .error (if k' = 92 then 90 else k')) := hid (by
                  rw [HRD.out]
                  unfold rdT
                  rw [if_neg HNL.out, if_pos HCN.out, HBD.out, hkg])
                have HRr5 := hid (HRr.out.fr f5 id)
                have HFw5 := hid (HFw.out.trans' f5)
                clear hrd hkg f5
                have hrn := HRL.out
                have hr5 : R < w5.heap.size := HRr5.out.lt
                have HR5L := hid hr5
                clear hrn hr5
                by_cases h92 : k' = 92
                · subst h92
                  clear hne
                  go_wp2_with (first
                    | ((with_reducible show wpList _ _ _ (⟨_, .alloc 24, _, _, _, _⟩ :: _) _ _); refine wpL_alloc rfl _ rfl _ zeroN [.int .i64 0, .string ⟨#[]⟩, .slice none 0 0] rfl ?_; intro w6 HB6 F6 HS6)
                    | ((with_reducible show wpList _ _ _ (⟨_, .store 24 _ _, _, _, _, _⟩ :: _) _ _); (have := HB6); (fail_if_success (have := HB7)); refine wpL_storeV rfl _ _ _ rfl w5.heap.size 0 (.agg #[.int .i64 0, .string ⟨#[]⟩, .slice none 0 0]) [.int .i64 0, .string ⟨#[]⟩, .slice none 0 0] rfl rfl rfl _ _ HB6.out (by simp) infoN zN1 ?_; intro w7 HB7 F7 HS7;
                        have HRr7 : Hid (Blk w7 R 24 [.int .i64 0, .string ⟨#[]⟩, .slice none 0 0]) := hid ((HRr5.out.fr F6.out id).fr F7.out (fun e => by have e : R = w5.heap.size := e; have := HR5L.out; omega)))
                    | ((with_reducible show wpList _ _ _ (⟨_, .store 24 _ _, _, _, _, _⟩ :: _) _ _); (have := HB7); refine wpL_storeV rfl _ _ _ rfl R 0 (.agg #[.int .i64 0, .string ⟨#[]⟩, .slice none 0 0]) [.int .i64 0, .string ⟨#[]⟩, .slice none 0 0] rfl rfl rfl _ _ HRr7.out (by simp) infoN zN1 ?_; intro w8 HB8 F8 HS8))
                  have hb8 : Blk w8 R 24 [.int .i64 0, .string ⟨#[]⟩, .slice none 0 0] := by have h := HB8.out; rwa [spl_all (by simp)] at h
                  refine ret_ctt rfl _ rfl hb8 rfl rfl (by simpa using infoN) rfl ?_
                  have hrw := HRW.out; have hsz5 := HFw5.out.size
                  refine ⟨((HFw5.out.trans' F6.out).trans F7.out (fun i e => .inr (by have e : i = w5.heap.size := e; omega))).trans F8.out (fun i e => .inr (by have e : i = R := e; omega)), ?_⟩
                  rw [HE.out]
                  rfl
                · have h92i : ((k' : Int) == 92) = false := by simp; omega
                  have hnei : ((k' : Int) != 0) = true := by simp; omega
                  have H92 := hid h92
                  clear hne h92
                  go_wp2_with (first
                    | ((with_reducible show wpList _ _ _ (⟨_, .alloc 24, _, _, _, _⟩ :: _) _ _); refine wpL_alloc rfl _ rfl _ zeroN [.int .i64 0, .string ⟨#[]⟩, .slice none 0 0] rfl ?_; intro w6 HB6 F6 HS6)
                    | ((with_reducible show wpList _ _ _ (⟨_, .store 24 _ _, _, _, _, _⟩ :: _) _ _); (have := HB6); (fail_if_success (have := HB7)); refine wpL_storeV rfl _ _ _ rfl w5.heap.size 0 (.agg #[.int .i64 0, .string ⟨#[]⟩, .slice none 0 0]) [.int .i64 0, .string ⟨#[]⟩, .slice none 0 0] rfl rfl rfl _ _ HB6.out (by simp) infoN zN1 ?_; intro w7 HB7 F7 HS7;
                        have HRr7 : Hid (Blk w7 R 24 [.int .i64 0, .string ⟨#[]⟩, .slice none 0 0]) := hid ((HRr5.out.fr F6.out id).fr F7.out (fun e => by have e : R = w5.heap.size := e; have := HR5L.out; omega)))
                    | ((with_reducible show wpList _ _ _ (⟨_, .store 24 _ _, _, _, _, _⟩ :: _) _ _); (have := HB7); refine wpL_storeV rfl _ _ _ rfl R 0 (.agg #[.int .i64 0, .string ⟨#[]⟩, .slice none 0 0]) [.int .i64 0, .string ⟨#[]⟩, .slice none 0 0] rfl rfl rfl _ _ HRr7.out (by simp) infoN zN1 ?_; intro w8 HB8 F8 HS8))
                  have hb8 : Blk w8 R 24 [.int .i64 0, .string ⟨#[]⟩, .slice none 0 0] := by have h := HB8.out; rwa [spl_all (by simp)] at h
                  refine ret_ctt rfl _ rfl hb8 rfl rfl (by simpa using infoN) rfl ?_
                  have hrw := HRW.out; have hsz5 := HFw5.out.size
                  refine ⟨((HFw5.out.trans' F6.out).trans F7.out (fun i e => .inr (by have e : i = w5.heap.size := e; omega))).trans F8.out (fun i e => .inr (by have e : i = R := e; omega)), ?_⟩
                  rw [HE.out, if_neg H92.out]
                  rfl
              | ok p =>
                obtain ⟨n, u⟩ := p
                rw [hrd] at hm
                simp only at hm
                obtain ⟨cs, rfl, hn⟩ := hm
                obtain ⟨x', y', z', hcs⟩ := box_kid cs hn.len
                subst hcs
                have hui := rd_inv m r n u hrd
                have HU := hid (show 2 ≤ u ∧ u ≤ r.length from ⟨hui.2.2.2.2.1, hui.2.2.2.2.2⟩)
                obtain ⟨j, hkj, hstep⟩ := mapK_step acc (rd m) HR.out HL.out.1 hrd
                have HJ := hid hkj; have HST := hid hstep; have HN := hid hn; have HF5 := hid f5
                obtain ⟨va, vc, rfl, -, -⟩ := own_form HKS.out.r
                obtain ⟨ql, hql⟩ : ∃ ql, acc.length = ql := ⟨_, rfl⟩
                have HQL := hid hql
                have HO := hid HKS.out.r
                rw [hql] at HO HKS
                have hqll : ql ≤ 4000 := by have := HL.out; rw [hql] at this; omega
                have hqi : (ql : Int) ≤ 4000 := by omega
                clear hui hkj hstep hn f5 hrd hql
                have HX1 := hid HN.out.one
                go_wp2_with (first
                  | ((with_reducible show wpList _ _ _ (⟨_, .alloc 24, _, _, _, _⟩ :: _) _ _); refine wpL_alloc rfl _ rfl _ zeroN [.int .i64 0, .string ⟨#[]⟩, .slice none 0 0] rfl ?_; intro w6 HB6 F6 HS6)
                  | ((with_reducible show wpList _ _ _ (⟨_, .store 24 _ _, _, _, _, _⟩ :: _) _ _); (have := HB6); (fail_if_success (have := HB7)); refine wpL_storeV rfl _ _ _ rfl w5.heap.size 0 (.agg #[x', y', z']) [x', y', z'] rfl rfl rfl _ _ HB6.out (by simp) infoN (by intro u hu; exact HX1.out u hu) ?_; intro w7 HB7 F7 HS7;
                      have HB7c : Hid (Blk w7 w5.heap.size 24 [x', y', z']) := hid (by have h := HB7.out; rwa [spl_all (by simp)] at h);
                      have HF57 : Hid (Fr No w5 w7) := hid (F6.out.trans F7.out (fun i e => .inr (by have e : i = w5.heap.size := e; omega)));
                      have HFR7 : Hid (Fr No wr w7) := hid (HF5.out.trans' HF57.out);
                      have HKS7 : Hid (KS m (bn + 1) bn t acc (.slice va ql vc) L w7) := hid (HKS.out.no HFR7.out);
                      have c2 : w7.cell? ⟨bn, 2, none⟩ = some (.slice va ql vc) := HKS7.out.b.cell 2)
                  | ((with_reducible show wpList _ _ _ (⟨_, .load 24 _, _, _, _, _⟩ :: _) _ _); refine wpL_load rfl _ _ rfl w5.heap.size 0 rfl [x', y', z'] _ (HB7c.out.range 0 _ rfl) rfl rfl infoN ?_)
                  | ((with_reducible show wpList _ _ _ (⟨_, .buildSlice 22 _ _, _, _, _, _⟩ :: _) _ _); refine wpL_buildOne rfl _ 24 _ rfl ic _ rfl IC.out ZC.out (by rw [SC.out]; decide) (by rw [SC.out]; decide) (.agg #[x', y', z']) [x', y', z'] rfl rfl (by rw [SC.out]; rfl) ?_; intro w8 HB8 F8 HS8)
                  | ((with_reducible show wpList _ _ _ (⟨_, .call { callee := .builtin .append, args := _, argTypes := _ }, _, _, _, _⟩ :: _) _ _); refine wpL_append rfl _ _ 22 rfl (bn + 1) 24 ic _ 3 48 Try.underlying22 IC.out ZC.out SC.out BC.out rfl (by decide) (.slice va ql vc) ql L.flatten rfl (own_fr HO.out (HFR7.out.trans' F8.out) (fun _ _ e => e)) (some ⟨w7.heap.size, 0, none⟩) 1 _ [x', y', z'] rfl rfl (.inr ⟨_, rfl, HB8.out.news⟩) (by intro u hu; exact HX1.out u hu) (by unfold maxLen; omega) (by omega) (Nat.le_trans HW4.out (HFR7.out.trans' F8.out).size) ?_; intro a9 c9 w9 HO9 HG9 HA9;
                      have HBb9 : Hid (Blk w9 bn 24 [.int .i64 (t : Int), .string ⟨#[]⟩, .slice va ql vc]) := hid ((HKS7.out.b.fr F8.out id).fr (frown HG9.out) (fun e => by have := own_low HO.out bn e; omega)))
                  | ((with_reducible show wpList _ _ _ (⟨_, .store 22 _ _, _, _, _, _⟩ :: _) _ _); refine wpL_setV rfl _ _ _ rfl bn 2 (.slice a9 (ql + 1) c9) rfl rfl rfl rfl _ _ HBb9.out (by simp) infoNs ?_; intro w10 HB10 F10 HS10)
                  | ((with_reducible show wpList _ _ _ (⟨_, .slice 9 _ _ _ _, _, _, _, _⟩ :: _) _ _); refine wpL_valZ rfl (.string (sb (r.drop u))) (exec_from _ _ rfl r u rfl rfl HU.out.2 _ rfl _) ?_))
                have hb10 : Blk w10 bn 24 [.int .i64 (t : Int), .string ⟨#[]⟩, .slice a9 (ql + 1) c9] := by simpa using HB10.out
                have hr10 : w10.ownsRow (bn + 1) 24 3 (.slice a9 (ql + 1) c9) (acc.length + 1) (L.flatten ++ [x', y', z']) := by
                  rw [HQL.out]
                  exact own_fr HO9.out F10.out (fun k hk e => by have := own_low HO9.out k hk; have e : k = bn := e; omega)
                have hfr : Fr (fun k => k = bn ∨ (Value.slice va ql vc).ownBlock = some k ∨ (Value.slice a9 (ql + 1) c9).ownBlock = some k) w7 w10 := ((Fr.no F8.out).trans' ((frown HG9.out).mono fun k hk => .inr (.inl hk))).trans' (F10.out.mono fun k hk => .inl hk)
                have hown : ∀ g, (Value.slice a9 (ql + 1) c9).ownBlock = some g → (Value.slice va ql vc).ownBlock = some g ∨ w7.heap.size ≤ g := fun g hg => by
                  rcases or_own HA9.out g hg with h | h
                  · exact .inl h
                  · exact .inr (by have := HS8.out; omega)
                have hks10 := HKS7.out.step (by omega) (HN.out.no HF57.out) HW4.out (fun g hg => (own_ge HO.out g hg).2) hb10 hr10 hfr hown
                have hl := HL.out; have hu := HU.out; have hj := HJ.out
                have hfin : Fr (fun k => k = bn) w4 w10 := (HF.out.trans' HFR7.out.no).trans hfr (fun k hk => by
                  rcases hk with h | h | h
                  · exact .inl h
                  · exact .inr (by have := own_low HO.out k h; have := HBASE.out; omega)
                  · exact .inr (by have := own_low HO9.out k h; have := HBASE.out; omega))
                refine ⟨⟨r.drop u, acc ++ [n], .slice a9 (ql + 1) c9, L ++ [[x', y', z']], j, rfl, hid hks10, hid (HK0.out.trans HST.out), hid ⟨by rw [List.length_drop]; omega, by rw [List.length_append, List.length_drop]; simp only [List.length_cons, List.length_nil]; omega⟩, hid hfin⟩, ?_⟩
                show (sb (r.drop u)).size < (sb r).size
                rw [sb_size, sb_size, List.length_drop]
                omega
set_option maxHeartbeats 4000000 in
theorem docDecode_any (s : B) (w : World) (hs : s.length ≤ 281474976710656) : Calls Try.prog 16 #[.string (sb s)] w (Decodes s w) := by
  have HS := hid hs
  obtain ⟨ss, hss⟩ : ∃ ss, sb s = ss := ⟨_, rfl⟩
  rw [hss]
  have HSS := hid hss
  clear hs hss
  go_enter Try.func16, Try.ntmps16
  go_wp2_with ((with_reducible show wpList _ _ _ (⟨_, .alloc 24, _, _, _, _⟩ :: _) _ _); refine wpL_alloc rfl _ rfl _ zeroN [.int .i64 0, .string ⟨#[]⟩, .slice none 0 0] rfl ?_; intro w1 HB1 F1 HS1)
  rw [← HSS.out]
  have hd := docReads_any 8 (Nat.le_refl _) s w1 HS.out
  rw [show ((9 - 8 : Nat) : Int) = 1 from rfl] at hd
  refine hd.mono ?_
  clear hd
  rintro e w2 ⟨f2, hm⟩
  have HF2 := hid (F1.out.trans' f2); have HB2 := hid (HB1.out.fr f2 id)
  have HW1 := hid (show w1.heap.size = w.heap.size + 1 from HS1.out)
  clear f2
  have key : ∃ cs : List Value, e = .returned (.tuple #[.agg cs.toArray, .int .i64 ((decN s).2.1 : Int), .int .i64 ((decN s).2.2 : Int)]) ∧ NdAt 8 (Since w1.heap.size) w2 (decN s).1 cs := by
    cases hr : rd 8 s with
    | error k =>
      rw [hr] at hm
      have hde : decN s = (noNd, 0, k) := by unfold decN; rw [hr]
      rw [hde]
      exact ⟨zN, hm, no_nd _ _⟩
    | ok p =>
      obtain ⟨n, u⟩ := p
      rw [hr] at hm
      simp only at hm
      obtain ⟨cs, h1, hn⟩ := hm
      have hde : decN s = (n, u, 0) := by unfold decN; rw [hr]
      rw [hde]
      exact ⟨cs, h1, hn⟩
  clear hm
  obtain ⟨cs, rfl, hn⟩ := key
  obtain ⟨x, y, z, hcs⟩ := box_kid cs hn.len
  subst hcs
  obtain ⟨er, her⟩ : ∃ er, (decN s).2.2 = er := ⟨_, rfl⟩
  obtain ⟨us, hus⟩ : ∃ us, (decN s).2.1 = us := ⟨_, rfl⟩
  rw [her, hus]
  have HER := hid her; have HUS := hid hus; have HN := hid hn
  clear her hus hn
  go_wp2_with ((with_reducible show wpList _ _ _ (⟨_, .store 24 _ _, _, _, _, _⟩ :: _) _ _); refine wpL_storeV rfl _ _ _ rfl w.heap.size 0 (.agg #[x, y, z]) [x, y, z] rfl rfl rfl _ _ HB2.out (by simp) infoN (by intro u hu; exact HN.out.one u hu) ?_; intro w3 HB3 F3 HS3)
  have hb3 : Blk w3 w.heap.size 24 [x, y, z] := by have h := HB3.out; rwa [spl_all (by simp)] at h
  refine ret_ctt rfl _ rfl hb3 rfl rfl (by simpa using infoN) rfl ?_
  have hw := HW1.out
  refine ⟨HF2.out.trans F3.out (fun i e => .inr (by have e : i = w.heap.size := e; omega)), [x, y, z], by rw [HER.out, HUS.out]; rfl, ?_⟩
  exact NdAt.mono (fun k _ hk => by have h : w1.heap.size ≤ k := hk; show w.heap.size ≤ k; omega) (NdAt.fr F3.out (fun k hk _ e => by have h : w1.heap.size ≤ k := hk; have e : k = w.heap.size := e; omega) HN.out)
end Go.Proofs.Ythnahoodgkeaiaa.BE
