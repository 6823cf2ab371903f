/-
  BerNests: pieces stand in one another eight deep, and no deeper.
-/
import Derived.Test.YthnahoodgkeaiaaBeBk
set_option linter.unusedVariables false
set_option linter.unusedSimpArgs false
namespace Go.Proofs.Ythnahoodgkeaiaa.BE
set_option maxRecDepth 100000
open Go.RowKit K

/-- So many pieces around one. -/
def nst (b : B) : Nat → Nd
  | 0 => .mk 4 b []
  | k + 1 => .mk 48 [] [nst b k]
theorem nst_deep (b : B) : ∀ (k m : Nat), deep m (nst b k) = decide (k < m)
  | 0, 0 => rfl
  | 0, m + 1 => by simp [deep, nst, Nd.kids]
  | k + 1, 0 => rfl
  | k + 1, m + 1 => by
    have h := nst_deep b k m
    simp [deep, nst, Nd.kids, h]
theorem shaped_sq (m : Nat) (n : Nd) : shaped (m + 1) n = (tagB n.tag && (if conB n.tag then n.body.isEmpty else n.kids.isEmpty) && n.kids.all (shaped m)) := rfl
theorem nst_enc {b : B} (hb : b.length ≤ 60) : ∀ (k m : Nat), k < m → m ≤ 8 → shaped m (nst b k) = true ∧ fits m (nst b k) = true ∧ (enc m (nst b k)).length = 2 * k + 2 + b.length
  | k, 0, h, _ => by omega
  | 0, m + 1, _, _ => by
    have hc : cont m (nst b 0) = b := by simp [cont, nst, Nd.body, Nd.kids]
    refine ⟨by rw [shaped_sq]; show (tagB 4 && (if conB 4 then b.isEmpty else ([] : List Nd).isEmpty) && ([] : List Nd).all (shaped m)) = true; rfl, by rw [show fits (m + 1) (nst b 0) = ((nst b 0).kids.all (fits m) && decide ((cont m (nst b 0)).length ≤ 4000)) from rfl, hc]; simp [nst, Nd.kids]; omega, ?_⟩
    rw [enc_len, hc]
    unfold lenB
    rw [if_pos (by omega)]
    show 1 + 1 + b.length = 2 * 0 + 2 + b.length
    omega
  | k + 1, m + 1, h, hm => by
    obtain ⟨h1, h2, h3⟩ := nst_enc hb k m (by omega) (by omega)
    have hc : cont m (nst b (k + 1)) = enc m (nst b k) := by simp [cont, nst, Nd.body, Nd.kids]
    refine ⟨by rw [shaped_sq]; show (tagB 48 && (if conB 48 then ([] : B).isEmpty else [nst b k].isEmpty) && [nst b k].all (shaped m)) = true; rw [List.all_cons, h1]; rfl, by rw [show fits (m + 1) (nst b (k + 1)) = ((nst b (k + 1)).kids.all (fits m) && decide ((cont m (nst b (k + 1))).length ≤ 4000)) from rfl, hc, h3]; simp [nst, Nd.kids, h2]; omega, ?_⟩
    rw [enc_len, hc, h3]
    unfold lenB
    rw [if_pos (by omega)]
    show 1 + 1 + (2 * k + 2 + b.length) = 2 * (k + 1) + 2 + b.length
    omega
theorem nst_err {b : B} (hb : b.length ≤ 60) (k : Nat) : errN (nst b k) = if k ≤ 7 then 0 else 91 := by
  by_cases h : k ≤ 7
  · rw [if_pos h]
    obtain ⟨h1, h2, _⟩ := nst_enc hb k 8 (by omega) (Nat.le_refl _)
    exact err_zero.2 ⟨by rw [nst_deep]; simp; omega, h1, h2⟩
  · rw [if_neg h]
    unfold errN
    rw [if_pos (by rw [nst_deep]; simp; omega)]
set_option maxHeartbeats 16000000 in
theorem berNests_walk (ar : Int) (b : B) (w : World) (hb0 : b.length ≤ 140737488351232) : Calls Try.prog 9 #[.int .i64 ar, .string (sb b)] w fun e w' => e = .returned (.bool true) ∧ Fr No w w' := by
  have hsz : ((sb b).size : Int) = b.length := by rw [sb_size]
  obtain ⟨bl, hbl⟩ : ∃ bl, b.length = bl := ⟨_, rfl⟩
  rw [hbl] at hsz hb0
  have HBL := hid hbl
  clear hbl
  obtain ⟨ic, hic, hzc, hsc, hbc⟩ := Go.info_parts infozN
  have IC := hid hic; have ZC := hid hzc; have SC := hid hsc; have BC := hid hbc
  clear hic hzc hsc hbc
  by_cases hlim : ar < 0 ∨ 60 < ar ∨ (60 : Int) < bl
  · go_enter Try.func9, Try.ntmps9
    go_wp2_with fail
    refine (awake_any w).mono ?_
    rintro e w2 ⟨rfl, f2⟩
    have F2 := hid f2
    clear f2
    rcases hlim with h | h | h
    · go_wp2_with fail
      all_goals (go_ret; exact ⟨rfl, F2.out⟩)
    · go_wp2_with fail
      all_goals (go_ret; exact ⟨rfl, F2.out⟩)
    · go_wp2_with fail
      all_goals (go_ret; exact ⟨rfl, F2.out⟩)
  · have h0 : ¬ ar < 0 := fun h => hlim (.inl h)
    have h60 : ¬ 60 < ar := fun h => hlim (.inr (.inl h))
    have hb60 : ¬ (60 : Int) < bl := fun h => hlim (.inr (.inr h))
    obtain ⟨an, rfl⟩ : ∃ an : Nat, ar = an := ⟨ar.toNat, by omega⟩
    have HB60 := hid (show b.length ≤ 60 by rw [HBL.out]; omega)
    clear hlim
    go_enter Try.func9, Try.ntmps9
    go_wp2_with fail
    refine (awake_any w).mono ?_
    rintro e w2 ⟨rfl, f2⟩
    have F2 := hid f2
    clear f2
    go_wp2_with (first
      | ((with_reducible show wpList _ _ _ (⟨_, .alloc 24, _, _, _, _⟩ :: _) _ _); refine wpL_alloc rfl _ rfl _ zeroN zN rfl ?_; intro w3 HB3 F3 HS3)
      | ((with_reducible show wpList _ _ _ (⟨_, .store 24 _ _, _, _, _, _⟩ :: _) _ _); refine wpL_storeV rfl _ _ _ rfl w2.heap.size 0 (.agg #[.int .i64 4, .string (sb b), .slice none 0 0]) [.int .i64 4, .string (sb b), .slice none 0 0] rfl rfl rfl _ _ HB3.out (by simp [zN]) infoN (by intro u hu; simp at hu; rcases hu with rfl | rfl | rfl <;> rfl) ?_; intro w4 HB4 F4 HS4;
          have HB4' : Hid (Blk w4 w2.heap.size 24 [.int .i64 4, .string (sb b), .slice none 0 0]) := hid (by have h := HB4.out; rwa [spl_all (by simp [zN])] at h);
          have F24 : Hid (Fr No w2 w4) := hid (F3.out.trans F4.out (fun i e => .inr (by have e : i = w2.heap.size := e; omega))))
      | fail)
    have HN0 : Hid (NdAt (0 + 1) (Since (w2.heap.size + 1)) w4 (nst b 0) [.int .i64 4, .string (sb b), .slice none 0 0]) := hid (leaf_nd 0 _ w4 4 b (by omega) (by have := HB60.out; omega))
    go_loopw [7] (fun iv wr => ∃ (k : Nat) (x y z : Value), iv = .int .i64 k ∧ k ≤ an ∧ Hid (Blk wr w2.heap.size 24 [x, y, z]) ∧ Hid (NdAt (k + 1) (Since (w2.heap.size + 1)) wr (nst b k) [x, y, z]) ∧ Hid (Fr No w2 wr)) (fun iv _ => an - (intOf iv).toNat)
    case atStart => exact ⟨0, _, _, _, rfl, Nat.zero_le _, HB4', HN0, F24⟩
    case round =>
      obtain ⟨k, x, y, z, rfl, hk, HBr, HNr, HF⟩ := hrel
      by_cases hlt : k < an
      · have hlti : (k : Int) < an := by omega
        go_wp2_with (first
          | ((with_reducible show wpList _ _ _ (⟨_, .load 24 _, _, _, _, _⟩ :: _) _ _); refine wpL_load rfl _ _ rfl w2.heap.size 0 rfl [x, y, z] _ (HBr.out.range 0 _ rfl) rfl rfl infoN ?_)
          | ((with_reducible show wpList _ _ _ (⟨_, .buildSlice 22 _ _, _, _, _, _⟩ :: _) _ _); refine wpL_buildOne rfl _ 24 _ rfl ic _ rfl IC.out ZC.out (by rw [SC.out]; decide) (by rw [SC.out]; decide) (.agg #[x, y, z]) [x, y, z] rfl rfl (by rw [SC.out]; rfl) ?_; intro w6 HB6 F6 HS6; have HBr6 := hid (HBr.out.fr F6.out id))
          | ((with_reducible show wpList _ _ _ (⟨_, .store 24 _ _, _, _, _, _⟩ :: _) _ _); refine wpL_storeV rfl _ _ _ rfl w2.heap.size 0 (.agg #[.int .i64 48, .string ⟨#[]⟩, .slice (some ⟨wr.heap.size, 0, none⟩) 1 1]) [.int .i64 48, .string ⟨#[]⟩, .slice (some ⟨wr.heap.size, 0, none⟩) 1 1] rfl rfl rfl _ _ HBr6.out (by simp) infoN (by intro u hu; simp at hu; rcases hu with rfl | rfl | rfl <;> rfl) ?_; intro w7 HB7 F7 HS7)
          | fail)
        have hbl' := HBr.out.lt
        have hkid : NdAt (k + 1) (Since (w2.heap.size + 1)) w7 (nst b k) [x, y, z] := NdAt.fr F7.out (fun j hj _ e => by have h1 : w2.heap.size + 1 ≤ j := hj; have e : j = w2.heap.size := e; omega) (HNr.out.no F6.out)
        have hB67 : Blk w7 wr.heap.size 24 [x, y, z] := HB6.out.fr F7.out (fun e => by have e : wr.heap.size = w2.heap.size := e; omega)
        have hnew : NdAt (k + 1 + 1) (Since (w2.heap.size + 1)) w7 (nst b (k + 1)) [.int .i64 48, .string ⟨#[]⟩, .slice (some ⟨wr.heap.size, 0, none⟩) 1 1] := by
          refine ⟨some ⟨wr.heap.size, 0, none⟩, 1, rfl, by simp [nst, Nd.tag], by simp [nst, Nd.body], by simp [nst, Nd.kids], .inr ⟨wr.heap.size, 0, [[x, y, z]], rfl, hbl', hB67.lt, hB67.range 0 _ rfl, rfl, ?_⟩⟩
          intro j x' c' hx hc
          match j, hx, hc with
          | 0, hx, hc => cases hx; cases hc; exact hkid
          | j + 1, hx, hc => simp at hc
        have hB7 : Blk w7 w2.heap.size 24 [.int .i64 48, .string ⟨#[]⟩, .slice (some ⟨wr.heap.size, 0, none⟩) 1 1] := by have h := HB7.out; rwa [spl_all (by simp)] at h
        have hf7 : Fr No w2 w7 := (HF.out.trans' F6.out).trans F7.out (fun i e => .inr (by have e : i = w2.heap.size := e; omega))
        have HH := hid hnew; have HBB := hid hB7; have HFF := hid hf7
        clear hkid hB67 hnew hB7 hf7 hbl'
        go_wp2_with fail
        go_roundw
        case rel => exact ⟨k + 1, _, _, _, by go_num, by omega, HBB, HH, HFF⟩
        case measure => simp [intOf]; omega
      · obtain rfl : k = an := by omega
        go_wp2_with (first
          | ((with_reducible show wpList _ _ _ (⟨_, .load 24 _, _, _, _, _⟩ :: _) _ _); refine wpL_load rfl _ _ rfl w2.heap.size 0 rfl [x, y, z] _ (HBr.out.range 0 _ rfl) rfl rfl infoN ?_)
          | fail)
        refine (encode_any (k + 1) wr.heap.size (nst b k) [x, y, z] wr (NdAt.mono (fun j hj _ => hj) HNr.out) (Nat.le_refl _)).mono ?_
        rintro e w8 ⟨rfl, f8⟩
        have F8 := hid f8
        clear f8
        by_cases h7 : k ≤ 7
        · have herr : errN (nst b k) = 0 := by rw [nst_err HB60.out, if_pos h7]
          have hes : encS (nst b k) = enc 8 (nst b k) := by unfold encS; rw [if_pos herr]
          have hlen := (nst_enc HB60.out k 8 (by omega) (Nat.le_refl _)).2.2
          have hdec := dec_enc herr []
          rw [List.append_nil] at hdec
          rw [herr, hes]
          obtain ⟨E, hE⟩ : ∃ E, enc 8 (nst b k) = E := ⟨_, rfl⟩
          rw [hE] at hlen hdec ⊢
          rw [HBL.out] at hlen
          rw [hlen] at hdec
          have hsE : ((sb E).size : Int) = 2 * (k : Int) + 2 + bl := by rw [sb_size, hlen]; push_cast; rfl
          have HD := hid hdec; have HLE := hid hlen
          have h7i : ¬ (7 : Int) < k := by omega
          clear herr hes hlen hdec hE
          show (match Ending.returned (Value.tuple #[.string (sb E), .int .i64 0]), w8 with | _, _ => _)
          go_wp2_with fail
          refine (decode_any E w8 (by rw [HLE.out]; omega)).mono ?_
          rintro e w9 ⟨f9, ds, rfl, hm⟩
          rw [HD.out] at hm ⊢
          obtain ⟨x', y', z', hds⟩ := box_kid ds hm.len
          subst hds
          have F9 := hid (F8.out.trans' f9); have HM := hid hm; have HB9 := hid (HBr.out.fr F9.out id)
          clear f9 hm
          show (match Ending.returned (Value.tuple #[.agg #[x', y', z'], .int .i64 ((2 * k + 2 + bl : Nat) : Int), .int .i64 0]), w9 with | _, _ => _)
          rw [show ((2 * k + 2 + bl : Nat) : Int) = 2 * (k : Int) + 2 + bl by push_cast; rfl]
          go_wp2_with (first
            | ((with_reducible show wpList _ _ _ (⟨_, .alloc 24, _, _, _, _⟩ :: _) _ _); refine wpL_alloc rfl _ rfl _ zeroN zN rfl ?_; intro w10 HB10 F10 HS10)
            | ((with_reducible show wpList _ _ _ (⟨_, .store 24 _ _, _, _, _, _⟩ :: _) _ _); refine wpL_storeV rfl _ _ _ rfl w9.heap.size 0 (.agg #[x', y', z']) [x', y', z'] rfl rfl rfl _ _ HB10.out (by simp [zN]) infoN (by intro u hu; exact HM.out.one u hu) ?_; intro w11 HB11 F11 HS11;
                have HB11' : Hid (Blk w11 w9.heap.size 24 [x', y', z']) := hid (by have h := HB11.out; rwa [spl_all (by simp [zN])] at h);
                have GF : Hid (Fr No w9 w11) := hid (F10.out.trans F11.out (fun i e => .inr (by have e : i = w9.heap.size := e; omega)));
                have HB12 : Hid (Blk w11 w2.heap.size 24 [x, y, z]) := hid (HB9.out.fr GF.out id))
            | ((with_reducible show wpList _ _ _ (⟨_, .load 24 _, _, _, _, _⟩ :: _) _ _); refine wpL_load rfl _ _ rfl w2.heap.size 0 rfl [x, y, z] _ (HB12.out.range 0 _ rfl) rfl rfl infoN ?_)
            | ((with_reducible show wpList _ _ _ (⟨_, .load 24 _, _, _, _, _⟩ :: _) _ _); refine wpL_load rfl _ _ rfl w9.heap.size 0 rfl [x', y', z'] _ (HB11'.out.range 0 _ rfl) rfl rfl infoN ?_)
            | fail)
          have F12 := hid (F9.out.trans' GF.out)
          refine (same_any (k + 1) 8 w11.heap.size (nst b k) [x, y, z] [x', y', z'] w11 (NdAt.mono (fun j hj _ => hj) (HNr.out.no F12.out)) (NdAt.mono (fun j hj _ => hj) (HM.out.no GF.out)) (Nat.le_refl _)).mono ?_
          rintro e w13 ⟨rfl, f13⟩
          have F13 := hid (((F2.out.trans' HF.out).trans' F12.out).trans' f13)
          clear f13
          go_wp2_with fail
          go_ret
          exact ⟨rfl, F13.out⟩
        · have herr : errN (nst b k) = 91 := by rw [nst_err HB60.out, if_neg h7]
          have hes : encS (nst b k) = [] := by unfold encS; rw [herr]; rfl
          rw [herr, hes]
          have h7i : (7 : Int) < k := by omega
          have hse : (sb []).toList.isEmpty = true := by rw [sb_empty]; rfl
          clear herr hes
          show (match Ending.returned (Value.tuple #[.string (sb []), .int .i64 91]), w8 with | _, _ => _)
          go_wp2_with fail
          go_ret
          exact ⟨rfl, (F2.out.trans' HF.out).trans' F8.out⟩
end Go.Proofs.Ythnahoodgkeaiaa.BE
