/-
  The document's sha: Mac.
-/
import Derived.Test.YtejbanlhgnlliaaDoorShaS
namespace Go.Proofs.YtejbanlhgnlliaaDoor.SH
set_option maxRecDepth 100000
open Go.RowKit K AR

theorem with_length (c : UInt8) (k : List UInt8) : (with_ c k).length = k.length := by simp [with_]
theorem with_take (c : UInt8) (k : List UInt8) {i : Nat} (h : i < k.length) : (with_ c k).take i ++ [k[i] ^^^ c] = (with_ c k).take (i + 1) := by
  rw [List.take_succ_eq_append_getElem (by rw [with_length]; exact h)]
  simp [with_]
theorem xor_u8 (x : UInt8) (c : Nat) (hc : c < 256) : bits .xor .u8 (x.toNat : Int) (c : Int) = (((x ^^^ UInt8.ofNat c).toNat : Nat) : Int) := by
  rw [u8_xor_nat _ _ x.toNat_lt hc, UInt8.toNat_xor, UInt8.toNat_ofNat', Nat.mod_eq_of_lt hc]
theorem digL_length (l : List UInt8) : (digL l).length = 32 := by simp [digL]
theorem digL_cells (l : List UInt8) : u8s (digL l) = bw .u8 (dig l) 32 := by
  unfold u8s digL bw
  rw [List.map_map]
  refine List.map_congr_left fun i _ => ?_
  show Value.int .u8 (((UInt8.ofNat (dig l i)).toNat : Nat) : Int) = _
  rw [UInt8.toNat_ofNat', Nat.mod_eq_of_lt (dig_lt l i)]
theorem dig_src {w : World} {b : Nat} {t : TypeId} {l : List UInt8} (h : Blk w b t (bw .u8 (dig l) 32)) : 32 = 0 ∨ ∃ ad, (some (⟨b, 0, none⟩ : Addr)) = some ad ∧ ∀ (j : Nat) (u : Value), (u8s (digL l))[j]? = some u → w.cell? (ad.add j) = some u :=
  .inr ⟨_, rfl, range_loads (h.range 0 _ (by rw [digL_cells, List.drop_zero, List.take_of_length_le (by simp)]))⟩
theorem key64_short {key : List UInt8} (h : ¬ 64 < key.length) : key64 key = key ++ List.replicate (64 - key.length) 0 := by unfold key64; rw [if_neg h, if_neg h]
theorem key64_long {key : List UInt8} (h : 64 < key.length) : key64 key = digL key ++ List.replicate (64 - (digL key).length) 0 := by unfold key64; rw [if_pos h, if_pos h, digL_length]; rfl

set_option maxHeartbeats 8000000 in
theorem rmac_any (key b : List UInt8) (vk vb : Value) (w : World) {E E' : Nat → Prop} (hk : BytesIn w E vk key) (hb : BytesIn w E' vb b) (hkl : key.length ≤ 140737488355200) (hbl : b.length ≤ 140737488355072) : Calls Tryd.prog 11 #[vk, vb] w fun e w' =>
    e = .returned (ba .u8 (mac key b) 32) ∧ Fr No w w' := by
  have HK := hid hk; have HB := hid hb; have HKL := hid hkl; have HBL := hid hbl
  obtain ⟨ak, lk, ck, rfl, hkn, -, -⟩ := hk
  obtain ⟨ab, lb, cb, rfl, hbn, -, -⟩ := hb
  have HKN := hid hkn; have HBN := hid hbn
  have hlki : (lk : Int) ≤ 140737488355200 := by omega
  clear hkl hbl hkn hbn
  go_enter Tryd.func11, Tryd.ntmps11
  by_cases hlong : 64 < lk
  · go_wp2_with (first
      | ((with_reducible show wpList _ _ _ ({ dst := _, op := .alloc 24, type := _, pos := _, after := _, guard := _ } :: _) _ _); have := HO3; refine Hid.out ?_)
      | ((with_reducible show wpList _ _ _ ({ dst := _, op := .alloc 24, type := _, pos := _, after := _, guard := _ } :: _) _ _); refine wpL_alloc rfl _ rfl _ zero32b (bw .u8 (fun _ => 0) 32) rfl ?_; intro w1 HB1 HF1 HS1)
      | ((with_reducible show wpList _ _ _ ({ dst := _, op := .buildSlice 22 _ _, type := _, pos := _, after := _, guard := _ } :: _) _ _); refine wpL_buildNone rfl _ 5 rfl buildE ?_; intro w2 HB2 HF2 HS2; have HO2 := hid (owB_new (w0 := w1) HB2.out (Nat.le_refl _) HF2.out))
      | ((with_reducible show wpList _ _ _ ({ dst := _, op := .call { callee := .builtin .append, args := _, argTypes := _ }, type := _, pos := _, after := _, guard := _ } :: _) _ _); refine wpL_appB rfl _ _ rfl HO2.out rfl ak lk ck key rfl HKN.out ((src_of (HK.out.no (HF1.out.trans' HF2.out))).2) lk (by simp) key rfl (by have := HKL.out; have := HKN.out; omega) ?_; intro a3 c3 w3 HO3 HG3 HA3))
    have hf3 := HF1.out.trans' HO3.out.fr
    refine (rsum_any key _ _ (HK.out.no hf3) HKL.out).mono ?_
    rintro e w4 ⟨rfl, hf4⟩
    have HF4 := hid (HO3.out.fr.trans' hf4)
    clear hf3 hf4 HO2 HB2 HF2 HS2 HG3 HA3
    go_wp2_with (first
      | ((with_reducible show wpList _ _ _ ({ dst := _, op := .alloc 24, type := _, pos := _, after := _, guard := _ } :: _) _ _); refine wpL_alloc rfl _ rfl _ zero32b (bw .u8 (fun _ => 0) 32) rfl ?_; intro w5 HB5 HF5 HS5)
      | ((with_reducible show wpList _ _ _ ({ dst := _, op := .store 24 _ _, type := _, pos := _, after := _, guard := _ } :: _) _ _); refine wpL_whole rfl _ _ _ rfl w4.heap.size (dig key) 32 rfl rfl _ _ HB5.out info32b ?_; intro w6 HB6 HF6 HS6; have HF16 := hid ((HF4.out.trans' HF5.out).trans HF6.out fun i e => .inr (by have := HF4.out.size; have : i = w4.heap.size := e; omega)))
      | ((with_reducible show wpList _ _ _ ({ dst := _, op := .buildSlice 22 _ _, type := _, pos := _, after := _, guard := _ } :: _) _ _); refine wpL_buildNone rfl _ 5 rfl buildE ?_; intro w7 HB7 HF7 HS7; have HO7 := hid (owB_new (w0 := w1) HB7.out HF16.out.size (HF16.out.trans' HF7.out)))
      | ((with_reducible show wpList _ _ _ ({ dst := _, op := .call { callee := .builtin .append, args := _, argTypes := _ }, type := _, pos := _, after := _, guard := _ } :: _) _ _); refine wpL_appB rfl _ _ rfl HO7.out rfl (some ⟨w4.heap.size, 0, none⟩) 32 32 (digL key) rfl (digL_length key) (dig_src (HB6.out.fr HF7.out id)) 32 (by simp) (digL key) rfl (by decide) ?_; intro a8 c8 w8 HO8 HG8 HA8))
    have HK0 := hid (And.intro (digL_length key) (key64_long (key := key) (by have := HKN.out; omega)))
    have HOk := HO8
    clear HO3 HF4 HB5 HF5 HS5 HB6 HF6 HS6 HF16 HB7 HF7 HS7 HO7 HO8 HG8 HA8
    have hL0 : 32 ≤ 64 := by decide
    have hL0i : (32 : Int) ≤ 64 := by omega
    go_loopw [5] (fun x wr => ∃ (n : Nat) (a' : Option Addr) (c' : Nat), 32 + n ≤ 64 ∧ x = .slice a' (32 + n) c' ∧ Hid (OwB w1 wr (.slice a' (32 + n) c') (digL key ++ List.replicate n 0))) (fun x _ => match x with | .slice _ k _ => 64 - k | _ => 0)
    case atStart => exact ⟨0, a8, c8, by omega, rfl, hid (by have := HOk.out; simpa using this)⟩
    case round =>
      clear HOk
      obtain ⟨n, a5, c5, hn, rfl, HO⟩ := hrel
      by_cases hlt : 32 + n < 64
      · go_wp2_with (first
          | ((with_reducible show wpList _ _ _ ({ dst := _, op := .buildSlice 22 _ _, type := _, pos := _, after := _, guard := _ } :: _) _ _); refine wpL_buildSlice rfl _ 5 1 [(0, .const (.int .u8 0))] rfl [.int .u8 0] (build1 _ _) ?_; intro w7 HB7 HF7 HS7; have HO7 := hid (HO.out.no HF7.out))
          | ((with_reducible show wpList _ _ _ ({ dst := _, op := .call { callee := .builtin .append, args := _, argTypes := _ }, type := _, pos := _, after := _, guard := _ } :: _) _ _); refine wpL_appB rfl _ _ rfl HO7.out rfl _ 1 1 [0] rfl rfl (one_src HB7.out) (32 + (n + 1)) (by have := HK0.out.1; simp; omega) (digL key ++ List.replicate (n + 1) 0) (by rw [List.append_assoc, List.replicate_succ']) (by omega) ?_; intro a8 c8 w8 HO8 HG8 HA8))
        go_roundw
        case rel => exact ⟨n + 1, a8, c8, by omega, rfl, HO8⟩
        case measure => first | (simp; done) | (simp; omega)
      · have hnn : n = 64 - 32 := by omega
        have hk64 : digL key ++ List.replicate n 0 = key64 key := by rw [HK0.out.2, HK0.out.1, hnn]
        have ho := HO.out
        rw [hk64, show 32 + n = 64 by omega] at ho
        rw [show 32 + n = 64 by omega]
        obtain ⟨Q, hQ⟩ : ∃ Q, key64 key = Q := ⟨_, rfl⟩
        rw [hQ] at ho
        have hQl : Q.length = 64 := by rw [← hQ, ← hk64]; have := HK0.out.1; simp; omega
        have HQ := hid hQ; have HQL := hid hQl
        obtain ⟨g, c9, e9, hg, hat⟩ := at_own ho (by omega)
        rw [hQl] at e9
        simp only [Value.slice.injEq] at e9
        obtain ⟨rfl, -, rfl⟩ := e9
        have HOQ := hid ho
        have HGW := hid (ho.lt g rfl)
        clear ho hat hk64 hnn hlt HO hn hQ hQl
        go_wp2_with fail
        go_loopw [7, 8, 9] (fun x y i wr => ∃ (j : Nat) (ai : Option Addr) (ci : Nat) (ao : Option Addr) (co : Nat), j ≤ 64 ∧ i = .int .i64 j ∧ x = .slice ai j ci ∧ y = .slice ao j co ∧ Hid (OwB w1 wr (.slice (some ⟨g, 0, none⟩) 64 c5) Q ∧ OwB w1 wr (.slice ai j ci) ((with_ 54 Q).take j) ∧ OwB w1 wr (.slice ao j co) ((with_ 92 Q).take j) ∧ (Value.slice ai j ci).ownBlock ≠ some g ∧ (Value.slice ao j co).ownBlock ≠ some g ∧ ∀ h, (Value.slice ai j ci).ownBlock = some h → (Value.slice ao j co).ownBlock ≠ some h)) (fun _ _ i _ => 64 - (intOf i).toNat)
        case atStart => exact ⟨0, none, 0, none, 0, by omega, rfl, rfl, rfl, hid ⟨HOQ.out, owB_nil HOQ.out.fr, owB_nil HOQ.out.fr, fun e => (by cases e), fun e => (by cases e), fun h e => (by cases e)⟩⟩
        case round =>
          clear HOQ
          obtain ⟨j, ai, ci, ao, co, hj, rfl, rfl, rfl, HO⟩ := hrel
          by_cases hlt2 : j < 64
          · have hq : j < Q.length := by rw [HQL.out]; exact hlt2
            have hoq := HO.out.1.2.1
            rw [HQL.out] at hoq
            have c0 := (own_at hoq j _ (u8s_get Q j hq)).1
            clear hoq
            obtain ⟨q, hqe⟩ : ∃ q, Q[j] = q := ⟨_, rfl⟩
            have t1 := with_take 54 Q hq
            have t2 := with_take 92 Q hq
            rw [hqe] at c0 t1 t2
            have T1 := hid t1; have T2 := hid t2
            have hqg : Q[j]? = some q := by rw [List.getElem?_eq_getElem hq, hqe]
            have HQE := hid hqg
            clear hqg
            have x1 : bits .xor .u8 (q.toNat : Int) 54 = (((q ^^^ 54).toNat : Nat) : Int) := xor_u8 q 54 (by decide)
            have x2 : bits .xor .u8 (q.toNat : Int) 92 = (((q ^^^ 92).toNat : Nat) : Int) := xor_u8 q 92 (by decide)
            clear hq hqe t1 t2
            have l1 : ((with_ 54 Q).take j).length = j := by rw [List.length_take, with_length, HQL.out]; omega
            have l2 : ((with_ 92 Q).take j).length = j := by rw [List.length_take, with_length, HQL.out]; omega
            have L1 := hid l1; have L2 := hid l2
            clear l1 l2
            go_wp2_with (first
              | ((with_reducible show wpList _ _ _ ({ dst := _, op := .buildSlice 22 _ _, type := _, pos := _, after := _, guard := _ } :: _) _ _); have := HP8; refine wpL_buildSlice rfl _ 5 1 [(0, .tmp 45)] rfl _ (build1 _ _) ?_; intro w9 HB9 HF9 HS9; have HP9 := hid (And.intro (HP8.out.1.no HF9.out) (And.intro (HP8.out.2.1.no HF9.out) (HP8.out.2.2.no HF9.out))))
              | ((with_reducible show wpList _ _ _ ({ dst := _, op := .buildSlice 22 _ _, type := _, pos := _, after := _, guard := _ } :: _) _ _); refine wpL_buildSlice rfl _ 5 1 [(0, .tmp 37)] rfl _ (build1 _ _) ?_; intro w7 HB7 HF7 HS7; have HP7 := hid (And.intro (HO.out.1.no HF7.out) (And.intro (HO.out.2.1.no HF7.out) (HO.out.2.2.1.no HF7.out))))
              | ((with_reducible show wpList _ _ _ ({ dst := _, op := .call { callee := .builtin .append, args := _, argTypes := _ }, type := _, pos := _, after := _, guard := _ } :: _) _ _); have := HP9; refine wpL_appB rfl _ _ rfl HP9.out.2.2 rfl _ 1 1 [q ^^^ 92] rfl rfl (one_src (by simpa [x2] using HB9.out)) (j + 1) (by rw [L2.out]) ((with_ 92 Q).take (j + 1)) T2.out (by omega) ?_; intro ao' co' w10 HO10 HG10 HA10)
              | ((with_reducible show wpList _ _ _ ({ dst := _, op := .call { callee := .builtin .append, args := _, argTypes := _ }, type := _, pos := _, after := _, guard := _ } :: _) _ _); refine wpL_appB rfl _ _ rfl HP7.out.2.1 rfl _ 1 1 [q ^^^ 54] rfl rfl (one_src (by simpa [x1] using HB7.out)) (j + 1) (by rw [L1.out]) ((with_ 54 Q).take (j + 1)) T1.out (by omega) ?_; intro ai' ci' w8 HO8 HG8 HA8;
                  have HD8 := hid (show (Value.slice ai' (j + 1) ci').ownBlock ≠ some g ∧ ∀ h, (Value.slice ai' (j + 1) ci').ownBlock = some h → (Value.slice ao j co).ownBlock ≠ some h from ⟨fun e => by
                    rcases HA8.out with e2 | e2
                    · exact HO.out.2.2.2.1 (e2.symm.trans e)
                    · rw [e2] at e; have h1 := HP7.out.1.lt g rfl; cases e; omega, fun h e e3 => by
                    rcases HA8.out with e2 | e2
                    · exact HO.out.2.2.2.2.2 h (e2.symm.trans e) e3
                    · rw [e2] at e; have h1 := HP7.out.2.2.lt h e3; cases e; omega⟩);
                  have HP8 := hid (And.intro (HP7.out.1.later HG8.out (fun k e e' => HO.out.2.2.2.1 (e'.trans e.symm)) (fun k e => HP7.out.2.1.ge k e)) (And.intro HO8.out (HP7.out.2.2.later HG8.out (fun k e e' => HO.out.2.2.2.2.2 k e' e) (fun k e => HP7.out.2.1.ge k e))));
                  have c8 : w8.cell? ⟨g, j, none⟩ = some (.int .u8 ((q.toNat : Nat) : Int)) := (by have hoq := HP8.out.1.2.1; rw [HQL.out] at hoq; exact (own_at hoq j _ (by unfold u8s; rw [List.getElem?_map, HQE.out]; rfl)).1)))
            have HR' := hid (show OwB w1 w10 (.slice (some ⟨g, 0, none⟩) 64 c5) Q ∧ OwB w1 w10 (.slice ai' (j + 1) ci') ((with_ 54 Q).take (j + 1)) ∧ OwB w1 w10 (.slice ao' (j + 1) co') ((with_ 92 Q).take (j + 1)) ∧ (Value.slice ai' (j + 1) ci').ownBlock ≠ some g ∧ (Value.slice ao' (j + 1) co').ownBlock ≠ some g ∧ ∀ h, (Value.slice ai' (j + 1) ci').ownBlock = some h → (Value.slice ao' (j + 1) co').ownBlock ≠ some h from
              ⟨HP9.out.1.later HG10.out (fun k e e' => HO.out.2.2.2.2.1 (e'.trans e.symm)) (fun k e => HP9.out.2.2.ge k e), HP9.out.2.1.later HG10.out (fun k e e' => HD8.out.2 k e e') (fun k e => HP9.out.2.2.ge k e), HO10.out, HD8.out.1, fun e => by
                rcases HA10.out with e2 | e2
                · exact HO.out.2.2.2.2.1 (e2.symm.trans e)
                · rw [e2] at e; have h1 := HP9.out.1.lt g rfl; cases e; omega, fun h e e3 => by
                rcases HA10.out with e2 | e2
                · exact HD8.out.2 h e (e2.symm.trans e3)
                · rw [e2] at e3; have h1 := HP9.out.2.1.lt h e; cases e3; omega⟩)
            clear HO HP7 HP8 HP9 HD8 HO8 HG8 HA8 HO10 HG10 HA10 HB7 HF7 HS7 HB9 HF9 HS9 c0 c8 x1 x2
            go_wp2_with fail
            go_roundw
            case rel => exact ⟨j + 1, ai', ci', ao', co', by omega, by go_num, rfl, rfl, HR'⟩
            case measure => simp [intOf]; omega
          · obtain rfl : j = 64 := by omega
            have hr := HO.out
            rw [List.take_of_length_le (by rw [with_length, HQL.out]; exact Nat.le_refl _), List.take_of_length_le (by rw [with_length, HQL.out]; exact Nat.le_refl _)] at hr
            have HI := hid hr
            clear HO hr
            have HF := hid (HF1.out.trans' HI.out.1.fr)
            have HL54 := hid (show (with_ 54 Q).length = 64 by rw [with_length, HQL.out])
            have HL92 := hid (show (with_ 92 Q).length = 64 by rw [with_length, HQL.out])
            go_wp2_with (first
              | ((with_reducible show wpList _ _ _ ({ dst := _, op := .call { callee := .builtin .append, args := _, argTypes := _ }, type := _, pos := _, after := _, guard := _ } :: _) _ _); refine wpL_appB rfl _ _ rfl HI.out.2.1 rfl ab lb cb b rfl HBN.out ((src_of (HB.out.no HF.out)).2) (64 + lb) (by rw [HL54.out]) (with_ 54 Q ++ b) rfl (by have := HBL.out; have := HBN.out; omega) ?_; intro a7 c7 w7 HO7 HG7 HA7)
              | fail)
            have HOut := hid (HI.out.2.2.1.later HG7.out (fun k e e' => HI.out.2.2.2.2.2 k e' e) (fun k e => HI.out.2.1.ge k e))
            refine (rsum_any (with_ 54 Q ++ b) _ _ HO7.out.bytes (by have := HBL.out; have := HL54.out; rw [List.length_append]; omega)).mono ?_
            rintro e w8 ⟨rfl, hf8⟩
            have HO8 := hid (HOut.out.no hf8)
            clear HI HF HO7 HG7 HA7 HOut hf8
            obtain ⟨inn, hin⟩ : ∃ l, with_ 54 Q ++ b = l := ⟨_, rfl⟩
            have HIN := hid hin
            rw [hin]
            clear hin
            go_wp2_with (first
              | ((with_reducible show wpList _ _ _ ({ dst := _, op := .alloc 24, type := _, pos := _, after := _, guard := _ } :: _) _ _); refine wpL_alloc rfl _ rfl _ zero32b (bw .u8 (fun _ => 0) 32) rfl ?_; intro w9 HB9 HF9 HS9)
              | ((with_reducible show wpList _ _ _ ({ dst := _, op := .store 24 _ _, type := _, pos := _, after := _, guard := _ } :: _) _ _); refine wpL_whole rfl _ _ _ rfl w8.heap.size (dig inn) 32 rfl rfl _ _ HB9.out info32b ?_; intro w10 HB10 HF10 HS10; have HO10 := hid ((HO8.out.no HF9.out).later HF10.out (fun k e e' => by have := HO8.out.lt k e; have : k = w8.heap.size := e'; omega) (fun k e => by have : k = w8.heap.size := e; have := HO8.out.fr.size; omega)))
              | ((with_reducible show wpList _ _ _ ({ dst := _, op := .call { callee := .builtin .append, args := _, argTypes := _ }, type := _, pos := _, after := _, guard := _ } :: _) _ _); refine wpL_appB rfl _ _ rfl HO10.out rfl (some ⟨w8.heap.size, 0, none⟩) 32 32 (digL inn) rfl (digL_length inn) (dig_src HB10.out) 96 (by rw [HL92.out]) (with_ 92 Q ++ digL inn) rfl (by decide) ?_; intro a11 c11 w11 HO11 HG11 HA11))
            refine (rsum_any (with_ 92 Q ++ digL inn) _ _ HO11.out.bytes (by have := HL92.out; rw [List.length_append, digL_length]; omega)).mono ?_
            rintro e w12 ⟨rfl, hf12⟩
            have HBw := hid (HB1.out.fr (HO11.out.fr.trans' hf12) id)
            have HFw := hid ((HF1.out.trans' HO11.out.fr).trans' hf12)
            go_wp2_with (first
              | ((with_reducible show wpList _ _ _ ({ dst := _, op := .store 24 _ _, type := _, pos := _, after := _, guard := _ } :: _) _ _); refine wpL_whole rfl _ _ _ rfl w.heap.size (dig (with_ 92 Q ++ digL inn)) 32 rfl rfl _ _ HBw.out info32b ?_; intro w13 HB13 HF13 HS13)
              | fail)
            have hB := HB13.out
            rw [← HIN.out, ← HQ.out] at hB
            refine ret_cell rfl _ rfl hB rfl rfl (by simpa using info32b) rfl ?_
            exact ⟨rfl, HFw.out.trans HF13.out fun i e => .inr (by have : i = w.heap.size := e; omega)⟩
  · go_wp2_with (first
      | ((with_reducible show wpList _ _ _ ({ dst := _, op := .alloc 24, type := _, pos := _, after := _, guard := _ } :: _) _ _); refine wpL_alloc rfl _ rfl _ zero32b (bw .u8 (fun _ => 0) 32) rfl ?_; intro w1 HB1 HF1 HS1)
      | ((with_reducible show wpList _ _ _ ({ dst := _, op := .buildSlice 22 _ _, type := _, pos := _, after := _, guard := _ } :: _) _ _); refine wpL_buildNone rfl _ 5 rfl buildE ?_; intro w2 HB2 HF2 HS2; have HO2 := hid (owB_new (w0 := w1) HB2.out (Nat.le_refl _) HF2.out))
      | ((with_reducible show wpList _ _ _ ({ dst := _, op := .call { callee := .builtin .append, args := _, argTypes := _ }, type := _, pos := _, after := _, guard := _ } :: _) _ _); refine wpL_appB rfl _ _ rfl HO2.out rfl ak lk ck key rfl HKN.out ((src_of (HK.out.no (HF1.out.trans' HF2.out))).2) lk (by simp) key rfl (by have := HKL.out; have := HKN.out; omega) ?_; intro a3 c3 w3 HO3 HG3 HA3))
    have HK0 := hid (And.intro HKN.out (key64_short (key := key) (by have := HKN.out; omega)))
    have HOk := HO3
    clear HO2 HB2 HF2 HS2 HO3 HG3 HA3
    have hL0 : lk ≤ 64 := by omega
    have hL0i : (lk : Int) ≤ 64 := by omega
    go_loopw [5] (fun x wr => ∃ (n : Nat) (a' : Option Addr) (c' : Nat), lk + n ≤ 64 ∧ x = .slice a' (lk + n) c' ∧ Hid (OwB w1 wr (.slice a' (lk + n) c') (key ++ List.replicate n 0))) (fun x _ => match x with | .slice _ k _ => 64 - k | _ => 0)
    case atStart => exact ⟨0, a3, c3, by omega, rfl, hid (by have := HOk.out; simpa using this)⟩
    case round =>
      clear HOk
      obtain ⟨n, a5, c5, hn, rfl, HO⟩ := hrel
      by_cases hlt : lk + n < 64
      · go_wp2_with (first
          | ((with_reducible show wpList _ _ _ ({ dst := _, op := .buildSlice 22 _ _, type := _, pos := _, after := _, guard := _ } :: _) _ _); refine wpL_buildSlice rfl _ 5 1 [(0, .const (.int .u8 0))] rfl [.int .u8 0] (build1 _ _) ?_; intro w7 HB7 HF7 HS7; have HO7 := hid (HO.out.no HF7.out))
          | ((with_reducible show wpList _ _ _ ({ dst := _, op := .call { callee := .builtin .append, args := _, argTypes := _ }, type := _, pos := _, after := _, guard := _ } :: _) _ _); refine wpL_appB rfl _ _ rfl HO7.out rfl _ 1 1 [0] rfl rfl (one_src HB7.out) (lk + (n + 1)) (by have := HK0.out.1; simp; omega) (key ++ List.replicate (n + 1) 0) (by rw [List.append_assoc, List.replicate_succ']) (by omega) ?_; intro a8 c8 w8 HO8 HG8 HA8))
        go_roundw
        case rel => exact ⟨n + 1, a8, c8, by omega, rfl, HO8⟩
        case measure => first | (simp; done) | (simp; omega)
      · have hnn : n = 64 - lk := by omega
        have hk64 : key ++ List.replicate n 0 = key64 key := by rw [HK0.out.2, HK0.out.1, hnn]
        have ho := HO.out
        rw [hk64, show lk + n = 64 by omega] at ho
        rw [show lk + n = 64 by omega]
        obtain ⟨Q, hQ⟩ : ∃ Q, key64 key = Q := ⟨_, rfl⟩
        rw [hQ] at ho
        have hQl : Q.length = 64 := by rw [← hQ, ← hk64]; have := HK0.out.1; simp; omega
        have HQ := hid hQ; have HQL := hid hQl
        obtain ⟨g, c9, e9, hg, hat⟩ := at_own ho (by omega)
        rw [hQl] at e9
        simp only [Value.slice.injEq] at e9
        obtain ⟨rfl, -, rfl⟩ := e9
        have HOQ := hid ho
        have HGW := hid (ho.lt g rfl)
        clear ho hat hk64 hnn hlt HO hn hQ hQl
        go_wp2_with fail
        go_loopw [7, 8, 9] (fun x y i wr => ∃ (j : Nat) (ai : Option Addr) (ci : Nat) (ao : Option Addr) (co : Nat), j ≤ 64 ∧ i = .int .i64 j ∧ x = .slice ai j ci ∧ y = .slice ao j co ∧ Hid (OwB w1 wr (.slice (some ⟨g, 0, none⟩) 64 c5) Q ∧ OwB w1 wr (.slice ai j ci) ((with_ 54 Q).take j) ∧ OwB w1 wr (.slice ao j co) ((with_ 92 Q).take j) ∧ (Value.slice ai j ci).ownBlock ≠ some g ∧ (Value.slice ao j co).ownBlock ≠ some g ∧ ∀ h, (Value.slice ai j ci).ownBlock = some h → (Value.slice ao j co).ownBlock ≠ some h)) (fun _ _ i _ => 64 - (intOf i).toNat)
        case atStart => exact ⟨0, none, 0, none, 0, by omega, rfl, rfl, rfl, hid ⟨HOQ.out, owB_nil HOQ.out.fr, owB_nil HOQ.out.fr, fun e => (by cases e), fun e => (by cases e), fun h e => (by cases e)⟩⟩
        case round =>
          clear HOQ
          obtain ⟨j, ai, ci, ao, co, hj, rfl, rfl, rfl, HO⟩ := hrel
          by_cases hlt2 : j < 64
          · have hq : j < Q.length := by rw [HQL.out]; exact hlt2
            have hoq := HO.out.1.2.1
            rw [HQL.out] at hoq
            have c0 := (own_at hoq j _ (u8s_get Q j hq)).1
            clear hoq
            obtain ⟨q, hqe⟩ : ∃ q, Q[j] = q := ⟨_, rfl⟩
            have t1 := with_take 54 Q hq
            have t2 := with_take 92 Q hq
            rw [hqe] at c0 t1 t2
            have T1 := hid t1; have T2 := hid t2
            have hqg : Q[j]? = some q := by rw [List.getElem?_eq_getElem hq, hqe]
            have HQE := hid hqg
            clear hqg
            have x1 : bits .xor .u8 (q.toNat : Int) 54 = (((q ^^^ 54).toNat : Nat) : Int) := xor_u8 q 54 (by decide)
            have x2 : bits .xor .u8 (q.toNat : Int) 92 = (((q ^^^ 92).toNat : Nat) : Int) := xor_u8 q 92 (by decide)
            clear hq hqe t1 t2
            have l1 : ((with_ 54 Q).take j).length = j := by rw [List.length_take, with_length, HQL.out]; omega
            have l2 : ((with_ 92 Q).take j).length = j := by rw [List.length_take, with_length, HQL.out]; omega
            have L1 := hid l1; have L2 := hid l2
            clear l1 l2
            go_wp2_with (first
              | ((with_reducible show wpList _ _ _ ({ dst := _, op := .buildSlice 22 _ _, type := _, pos := _, after := _, guard := _ } :: _) _ _); have := HP8; refine wpL_buildSlice rfl _ 5 1 [(0, .tmp 45)] rfl _ (build1 _ _) ?_; intro w9 HB9 HF9 HS9; have HP9 := hid (And.intro (HP8.out.1.no HF9.out) (And.intro (HP8.out.2.1.no HF9.out) (HP8.out.2.2.no HF9.out))))
              | ((with_reducible show wpList _ _ _ ({ dst := _, op := .buildSlice 22 _ _, type := _, pos := _, after := _, guard := _ } :: _) _ _); refine wpL_buildSlice rfl _ 5 1 [(0, .tmp 37)] rfl _ (build1 _ _) ?_; intro w7 HB7 HF7 HS7; have HP7 := hid (And.intro (HO.out.1.no HF7.out) (And.intro (HO.out.2.1.no HF7.out) (HO.out.2.2.1.no HF7.out))))
              | ((with_reducible show wpList _ _ _ ({ dst := _, op := .call { callee := .builtin .append, args := _, argTypes := _ }, type := _, pos := _, after := _, guard := _ } :: _) _ _); have := HP9; refine wpL_appB rfl _ _ rfl HP9.out.2.2 rfl _ 1 1 [q ^^^ 92] rfl rfl (one_src (by simpa [x2] using HB9.out)) (j + 1) (by rw [L2.out]) ((with_ 92 Q).take (j + 1)) T2.out (by omega) ?_; intro ao' co' w10 HO10 HG10 HA10)
              | ((with_reducible show wpList _ _ _ ({ dst := _, op := .call { callee := .builtin .append, args := _, argTypes := _ }, type := _, pos := _, after := _, guard := _ } :: _) _ _); refine wpL_appB rfl _ _ rfl HP7.out.2.1 rfl _ 1 1 [q ^^^ 54] rfl rfl (one_src (by simpa [x1] using HB7.out)) (j + 1) (by rw [L1.out]) ((with_ 54 Q).take (j + 1)) T1.out (by omega) ?_; intro ai' ci' w8 HO8 HG8 HA8;
                  have HD8 := hid (show (Value.slice ai' (j + 1) ci').ownBlock ≠ some g ∧ ∀ h, (Value.slice ai' (j + 1) ci').ownBlock = some h → (Value.slice ao j co).ownBlock ≠ some h from ⟨fun e => by
                    rcases HA8.out with e2 | e2
                    · exact HO.out.2.2.2.1 (e2.symm.trans e)
                    · rw [e2] at e; have h1 := HP7.out.1.lt g rfl; cases e; omega, fun h e e3 => by
                    rcases HA8.out with e2 | e2
                    · exact HO.out.2.2.2.2.2 h (e2.symm.trans e) e3
                    · rw [e2] at e; have h1 := HP7.out.2.2.lt h e3; cases e; omega⟩);
                  have HP8 := hid (And.intro (HP7.out.1.later HG8.out (fun k e e' => HO.out.2.2.2.1 (e'.trans e.symm)) (fun k e => HP7.out.2.1.ge k e)) (And.intro HO8.out (HP7.out.2.2.later HG8.out (fun k e e' => HO.out.2.2.2.2.2 k e' e) (fun k e => HP7.out.2.1.ge k e))));
                  have c8 : w8.cell? ⟨g, j, none⟩ = some (.int .u8 ((q.toNat : Nat) : Int)) := (by have hoq := HP8.out.1.2.1; rw [HQL.out] at hoq; exact (own_at hoq j _ (by unfold u8s; rw [List.getElem?_map, HQE.out]; rfl)).1)))
            have HR' := hid (show OwB w1 w10 (.slice (some ⟨g, 0, none⟩) 64 c5) Q ∧ OwB w1 w10 (.slice ai' (j + 1) ci') ((with_ 54 Q).take (j + 1)) ∧ OwB w1 w10 (.slice ao' (j + 1) co') ((with_ 92 Q).take (j + 1)) ∧ (Value.slice ai' (j + 1) ci').ownBlock ≠ some g ∧ (Value.slice ao' (j + 1) co').ownBlock ≠ some g ∧ ∀ h, (Value.slice ai' (j + 1) ci').ownBlock = some h → (Value.slice ao' (j + 1) co').ownBlock ≠ some h from
              ⟨HP9.out.1.later HG10.out (fun k e e' => HO.out.2.2.2.2.1 (e'.trans e.symm)) (fun k e => HP9.out.2.2.ge k e), HP9.out.2.1.later HG10.out (fun k e e' => HD8.out.2 k e e') (fun k e => HP9.out.2.2.ge k e), HO10.out, HD8.out.1, fun e => by
                rcases HA10.out with e2 | e2
                · exact HO.out.2.2.2.2.1 (e2.symm.trans e)
                · rw [e2] at e; have h1 := HP9.out.1.lt g rfl; cases e; omega, fun h e e3 => by
                rcases HA10.out with e2 | e2
                · exact HD8.out.2 h e (e2.symm.trans e3)
                · rw [e2] at e3; have h1 := HP9.out.2.1.lt h e; cases e3; omega⟩)
            clear HO HP7 HP8 HP9 HD8 HO8 HG8 HA8 HO10 HG10 HA10 HB7 HF7 HS7 HB9 HF9 HS9 c0 c8 x1 x2
            go_wp2_with fail
            go_roundw
            case rel => exact ⟨j + 1, ai', ci', ao', co', by omega, by go_num, rfl, rfl, HR'⟩
            case measure => simp [intOf]; omega
          · obtain rfl : j = 64 := by omega
            have hr := HO.out
            rw [List.take_of_length_le (by rw [with_length, HQL.out]; exact Nat.le_refl _), List.take_of_length_le (by rw [with_length, HQL.out]; exact Nat.le_refl _)] at hr
            have HI := hid hr
            clear HO hr
            have HF := hid (HF1.out.trans' HI.out.1.fr)
            have HL54 := hid (show (with_ 54 Q).length = 64 by rw [with_length, HQL.out])
            have HL92 := hid (show (with_ 92 Q).length = 64 by rw [with_length, HQL.out])
            go_wp2_with (first
              | ((with_reducible show wpList _ _ _ ({ dst := _, op := .call { callee := .builtin .append, args := _, argTypes := _ }, type := _, pos := _, after := _, guard := _ } :: _) _ _); refine wpL_appB rfl _ _ rfl HI.out.2.1 rfl ab lb cb b rfl HBN.out ((src_of (HB.out.no HF.out)).2) (64 + lb) (by rw [HL54.out]) (with_ 54 Q ++ b) rfl (by have := HBL.out; have := HBN.out; omega) ?_; intro a7 c7 w7 HO7 HG7 HA7)
              | fail)
            have HOut := hid (HI.out.2.2.1.later HG7.out (fun k e e' => HI.out.2.2.2.2.2 k e' e) (fun k e => HI.out.2.1.ge k e))
            refine (rsum_any (with_ 54 Q ++ b) _ _ HO7.out.bytes (by have := HBL.out; have := HL54.out; rw [List.length_append]; omega)).mono ?_
            rintro e w8 ⟨rfl, hf8⟩
            have HO8 := hid (HOut.out.no hf8)
            clear HI HF HO7 HG7 HA7 HOut hf8
            obtain ⟨inn, hin⟩ : ∃ l, with_ 54 Q ++ b = l := ⟨_, rfl⟩
            have HIN := hid hin
            rw [hin]
            clear hin
            go_wp2_with (first
              | ((with_reducible show wpList _ _ _ ({ dst := _, op := .alloc 24, type := _, pos := _, after := _, guard := _ } :: _) _ _); refine wpL_alloc rfl _ rfl _ zero32b (bw .u8 (fun _ => 0) 32) rfl ?_; intro w9 HB9 HF9 HS9)
              | ((with_reducible show wpList _ _ _ ({ dst := _, op := .store 24 _ _, type := _, pos := _, after := _, guard := _ } :: _) _ _); refine wpL_whole rfl _ _ _ rfl w8.heap.size (dig inn) 32 rfl rfl _ _ HB9.out info32b ?_; intro w10 HB10 HF10 HS10; have HO10 := hid ((HO8.out.no HF9.out).later HF10.out (fun k e e' => by have := HO8.out.lt k e; have : k = w8.heap.size := e'; omega) (fun k e => by have : k = w8.heap.size := e; have := HO8.out.fr.size; omega)))
              | ((with_reducible show wpList _ _ _ ({ dst := _, op := .call { callee := .builtin .append, args := _, argTypes := _ }, type := _, pos := _, after := _, guard := _ } :: _) _ _); refine wpL_appB rfl _ _ rfl HO10.out rfl (some ⟨w8.heap.size, 0, none⟩) 32 32 (digL inn) rfl (digL_length inn) (dig_src HB10.out) 96 (by rw [HL92.out]) (with_ 92 Q ++ digL inn) rfl (by decide) ?_; intro a11 c11 w11 HO11 HG11 HA11))
            refine (rsum_any (with_ 92 Q ++ digL inn) _ _ HO11.out.bytes (by have := HL92.out; rw [List.length_append, digL_length]; omega)).mono ?_
            rintro e w12 ⟨rfl, hf12⟩
            have HBw := hid (HB1.out.fr (HO11.out.fr.trans' hf12) id)
            have HFw := hid ((HF1.out.trans' HO11.out.fr).trans' hf12)
            go_wp2_with (first
              | ((with_reducible show wpList _ _ _ ({ dst := _, op := .store 24 _ _, type := _, pos := _, after := _, guard := _ } :: _) _ _); refine wpL_whole rfl _ _ _ rfl w.heap.size (dig (with_ 92 Q ++ digL inn)) 32 rfl rfl _ _ HBw.out info32b ?_; intro w13 HB13 HF13 HS13)
              | fail)
            have hB := HB13.out
            rw [← HIN.out, ← HQ.out] at hB
            refine ret_cell rfl _ rfl hB rfl rfl (by simpa using info32b) rfl ?_
            exact ⟨rfl, HFw.out.trans HF13.out fun i e => .inr (by have : i = w.heap.size := e; omega)⟩
end Go.Proofs.YtejbanlhgnlliaaDoor.SH
