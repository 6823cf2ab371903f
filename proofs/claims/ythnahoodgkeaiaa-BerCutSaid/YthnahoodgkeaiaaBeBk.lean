/-
  BerBack, BerCut: what was written is read, with whatever stands behind it; a piece that is cut off asks for more.
-/
import Derived.Test.YthnahoodgkeaiaaBeW
set_option linter.unusedVariables false
set_option linter.unusedSimpArgs false
namespace Go.Proofs.Ythnahoodgkeaiaa.BE
set_option maxRecDepth 100000
open Go.RowKit K

theorem dec_enc {n : Nd} (h : errN n = 0) (r : B) : decN (enc 8 n ++ r) = (n, (enc 8 n).length, 0) := by
  obtain ⟨h1, h2, h3⟩ := err_zero.1 h
  unfold decN
  rw [rd_enc 8 n r h1 h2 h3]
theorem dec_cut {n : Nd} (h : errN n = 0) {k : Nat} (hk : k < (enc 8 n).length) : (decN ((enc 8 n).take k)).2 = (0, 92) := by
  obtain ⟨h1, h2, h3⟩ := err_zero.1 h
  unfold decN
  rw [rd_cut (m := 7) h2 h3 hk]
set_option maxHeartbeats 16000000 in
theorem berBack_walk (M : Nat) (n : Nd) (cs : List Value) (bh : B) (w : World) (hn : NdAt M (Lo w.heap.size) w n cs) (hb : bh.length ≤ 140737488351232) : Calls Try.prog 5 #[.agg cs.toArray, .string (sb bh)] w fun e w' => e = .returned (.bool true) ∧ Fr No w w' := by
  obtain ⟨x, y, z, hcs⟩ := box_kid cs hn.len
  subst hcs
  have HN := hid hn; have HB := hid hb
  clear hn hb
  go_enter Try.func5, Try.ntmps5
  go_wp2_with (first
    | ((with_reducible show wpList _ _ _ (⟨_, .box 24 _, _, _, _, _⟩ :: _) _ _); refine wpL_box rfl _ _ rfl _ rfl [x, y, z] rfl ?_; intro w1 HB1 F1 HS1)
    | fail)
  refine (awake_any w1).mono ?_
  rintro e w2 ⟨rfl, f2⟩
  have F2 := hid (F1.out.trans' f2); have HB2 := hid (HB1.out.fr f2 id)
  clear f2
  go_wp2_with (first
    | ((with_reducible show wpList _ _ _ (⟨_, .load 24 _, _, _, _, _⟩ :: _) _ _); refine wpL_load rfl _ _ rfl w.heap.size 0 rfl [x, y, z] _ (HB2.out.range 0 _ rfl) rfl rfl infoN ?_)
    | fail)
  refine (encode_any M w.heap.size n [x, y, z] w2 (HN.out.no F2.out) F2.out.size).mono ?_
  rintro e w3 ⟨rfl, f3⟩
  have F3 := hid (F2.out.trans' f3); have HB3 := hid (HB2.out.fr f3 id)
  clear f3
  obtain ⟨er, her⟩ : ∃ er, errN n = er := ⟨_, rfl⟩
  have HER := hid her
  rw [her]
  by_cases h0 : er = 0
  · subst h0
    have hes : encS n = enc 8 n := by unfold encS; rw [if_pos her]
    have HL := hid (enc8_len (err_zero.1 her).2.2)
    obtain ⟨E, hE⟩ : ∃ E, enc 8 n = E := ⟨_, rfl⟩
    have hd := dec_enc her bh
    rw [hE] at hd hes HL
    rw [hes]
    have HD := hid hd
    obtain ⟨el, hel⟩ : ∃ el, E.length = el := ⟨_, rfl⟩
    have hsz : ((sb E).size : Int) = el := by rw [sb_size, hel]
    rw [hel] at HD HL
    have HEL := hid hel
    clear her hes hE hd hel
    show (match Ending.returned (Value.tuple #[.string (sb E), .int .i64 0]), w3 with | _, _ => _)
    have HBL := hid (show E.length + bh.length ≤ 9223372036854775807 by have := HL.out; have := HB.out; have := HEL.out; omega)
    go_wp2_with (first
      | ((with_reducible show wpList _ _ _ (⟨_, .binOp .add 9 _ _ _, _, _, _, _⟩ :: _) _ _); refine wpL_valZ rfl (.string (sb (E ++ bh))) (exec_addS _ _ _ rfl E bh rfl rfl HBL.out _ rfl _) ?_)
      | fail)
    refine (decode_any (E ++ bh) w3 (by rw [List.length_append]; have := HL.out; have := HB.out; have := HEL.out; omega)).mono ?_
    rintro e w4 ⟨f4, ds, rfl, hm⟩
    rw [HD.out] at hm ⊢
    obtain ⟨x', y', z', hds⟩ := box_kid ds hm.len
    subst hds
    have F4 := hid (F3.out.trans' f4); have HB4 := hid (HB3.out.fr f4 id); have HM := hid hm
    clear f4 hm
    show (match Ending.returned (Value.tuple #[.agg #[x', y', z'], .int .i64 (el : Int), .int .i64 0]), w4 with | _, _ => _)
    go_wp2_with (first
      | ((with_reducible show wpList _ _ _ (⟨_, .alloc 24, _, _, _, _⟩ :: _) _ _); refine wpL_alloc rfl _ rfl _ zeroN zN rfl ?_; intro w5 HB5 F5 HS5)
      | ((with_reducible show wpList _ _ _ (⟨_, .store 24 _ _, _, _, _, _⟩ :: _) _ _); refine wpL_storeV rfl _ _ _ rfl w4.heap.size 0 (.agg #[x', y', z']) [x', y', z'] rfl rfl rfl _ _ HB5.out (by simp [zN]) infoN (by intro u hu; exact HM.out.one u hu) ?_; intro w6 HB6 F6 HS6;
          have HB6' : Hid (Blk w6 w4.heap.size 24 [x', y', z']) := hid (by have h := HB6.out; rwa [spl_all (by simp [zN])] at h);
          have GF : Hid (Fr No w4 w6) := hid (F5.out.trans F6.out (fun i e => .inr (by have e : i = w4.heap.size := e; omega)));
          have HB7 : Hid (Blk w6 w.heap.size 24 [x, y, z]) := hid (HB4.out.fr GF.out id))
      | ((with_reducible show wpList _ _ _ (⟨_, .load 24 _, _, _, _, _⟩ :: _) _ _); refine wpL_load rfl _ _ rfl w.heap.size 0 rfl [x, y, z] _ (HB7.out.range 0 _ rfl) rfl rfl infoN ?_)
      | ((with_reducible show wpList _ _ _ (⟨_, .load 24 _, _, _, _, _⟩ :: _) _ _); refine wpL_load rfl _ _ rfl w4.heap.size 0 rfl [x', y', z'] _ (HB6'.out.range 0 _ rfl) rfl rfl infoN ?_)
      | fail)
    have F7 := hid (F4.out.trans' GF.out)
    refine (same_any M 8 w6.heap.size n [x, y, z] [x', y', z'] w6 (NdAt.mono (fun k hk _ => hk) (HN.out.no F7.out)) (NdAt.mono (fun k hk _ => hk) (HM.out.no GF.out)) (Nat.le_refl _)).mono ?_
    rintro e w8 ⟨rfl, f8⟩
    have F8 := hid (F7.out.trans' f8)
    clear f8
    go_wp2_with fail
    go_ret
    exact ⟨rfl, F8.out⟩
  · have hes : encS n = [] := by unfold encS; rw [her, if_neg h0]
    rw [hes]
    have hei : ¬ (er : Int) = 0 := by omega
    clear her h0 hes
    have hse : (sb []).toList.isEmpty = true := by rw [sb_empty]; rfl
    show (match Ending.returned (Value.tuple #[.string (sb []), .int .i64 (er : Int)]), w3 with | _, _ => _)
    go_wp2_with fail
    go_ret
    exact ⟨rfl, F3.out⟩
set_option maxHeartbeats 16000000 in
theorem berCut_walk (M : Nat) (n : Nd) (cs : List Value) (at_ : Int) (w : World) (hn : NdAt M (Lo w.heap.size) w n cs) : Calls Try.prog 7 #[.agg cs.toArray, .int .i64 at_] w fun e w' => e = .returned (.bool true) ∧ Fr No w w' := by
  obtain ⟨x, y, z, hcs⟩ := box_kid cs hn.len
  subst hcs
  have HN := hid hn
  clear hn
  go_enter Try.func7, Try.ntmps7
  go_wp2_with (first
    | ((with_reducible show wpList _ _ _ (⟨_, .box 24 _, _, _, _, _⟩ :: _) _ _); refine wpL_box rfl _ _ rfl _ rfl [x, y, z] rfl ?_; intro w1 HB1 F1 HS1)
    | fail)
  refine (awake_any w1).mono ?_
  rintro e w2 ⟨rfl, f2⟩
  have F2 := hid (F1.out.trans' f2); have HB2 := hid (HB1.out.fr f2 id)
  clear f2
  go_wp2_with (first
    | ((with_reducible show wpList _ _ _ (⟨_, .load 24 _, _, _, _, _⟩ :: _) _ _); refine wpL_load rfl _ _ rfl w.heap.size 0 rfl [x, y, z] _ (HB2.out.range 0 _ rfl) rfl rfl infoN ?_)
    | fail)
  refine (encode_any M w.heap.size n [x, y, z] w2 (HN.out.no F2.out) F2.out.size).mono ?_
  rintro e w3 ⟨rfl, f3⟩
  have F3 := hid (F2.out.trans' f3)
  clear f3
  obtain ⟨er, her⟩ : ∃ er, errN n = er := ⟨_, rfl⟩
  have HER := hid her
  rw [her]
  obtain ⟨E, hE⟩ : ∃ E, encS n = E := ⟨_, rfl⟩
  rw [hE]
  have HE := hid hE
  obtain ⟨el, hel⟩ : ∃ el, E.length = el := ⟨_, rfl⟩
  have hsz : ((sb E).size : Int) = el := by rw [sb_size, hel]
  have HEL := hid hel
  clear her hE hel
  by_cases h0 : er = 0
  · subst h0
    have hd : enc 8 n = E := by rw [← HE.out]; unfold encS; rw [if_pos HER.out]
    have hl : el ≤ 4004 := by rw [← HEL.out, ← hd]; exact enc8_len (err_zero.1 HER.out).2.2
    have HD := hid hd
    clear hd
    show (match Ending.returned (Value.tuple #[.string (sb E), .int .i64 0]), w3 with | _, _ => _)
    by_cases ha : at_ < 0
    · go_wp2_with fail
      go_ret
      exact ⟨rfl, F3.out⟩
    · by_cases hb : (el : Int) ≤ at_
      · go_wp2_with fail
        go_ret
        exact ⟨rfl, F3.out⟩
      · obtain ⟨k, rfl⟩ : ∃ k : Nat, at_ = k := ⟨at_.toNat, by omega⟩
        have hkl : k < el := by omega
        have hdc := dec_cut HER.out (k := k) (by rw [HD.out, HEL.out]; exact hkl)
        rw [HD.out] at hdc
        have HDC := hid hdc
        have HKL := hid hkl
        clear hdc
        go_wp2_with (first
          | ((with_reducible show wpList _ _ _ (⟨_, .slice 9 _ _ _ _, _, _, _, _⟩ :: _) _ _); refine wpL_valZ rfl (.string (sb (E.take k))) (exec_to _ _ rfl E k rfl rfl (by rw [HEL.out]; omega) _ rfl _) ?_)
          | fail)
        refine (decode_any (E.take k) w3 (by rw [List.length_take, HEL.out]; omega)).mono ?_
        rintro e w4 ⟨f4, ds, rfl, hm⟩
        rw [show (decN (E.take k)).2.1 = 0 from congrArg Prod.fst HDC.out, show (decN (E.take k)).2.2 = 92 from congrArg Prod.snd HDC.out]
        obtain ⟨x', y', z', hds⟩ := box_kid ds hm.len
        subst hds
        have F4 := hid (F3.out.trans' f4); have HM := hid hm
        clear f4 hm
        show (match Ending.returned (Value.tuple #[.agg #[x', y', z'], .int .i64 0, .int .i64 92]), w4 with | _, _ => _)
        go_wp2_with (first
          | ((with_reducible show wpList _ _ _ (⟨_, .alloc 24, _, _, _, _⟩ :: _) _ _); refine wpL_alloc rfl _ rfl _ zeroN zN rfl ?_; intro w5 HB5 F5 HS5)
          | ((with_reducible show wpList _ _ _ (⟨_, .store 24 _ _, _, _, _, _⟩ :: _) _ _); refine wpL_storeV rfl _ _ _ rfl w4.heap.size 0 (.agg #[x', y', z']) [x', y', z'] rfl rfl rfl _ _ HB5.out (by simp [zN]) infoN (by intro u hu; exact HM.out.one u hu) ?_; intro w6 HB6 F6 HS6;
              have GF : Hid (Fr No w4 w6) := hid (F5.out.trans F6.out (fun i e => .inr (by have e : i = w4.heap.size := e; omega))))
          | fail)
        go_ret
        exact ⟨rfl, F4.out.trans' GF.out⟩
  · have hei : ¬ (er : Int) = 0 := by omega
    clear h0
    go_wp2_with fail
    go_ret
    exact ⟨rfl, F3.out⟩
end Go.Proofs.Ythnahoodgkeaiaa.BE
