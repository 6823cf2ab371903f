/-
  FrameCuts: how bytes are cut into chunks does not matter.
-/
import Derived.Test.YtoikiokcpakokaaFrW
set_option linter.unusedVariables false
set_option linter.unusedSimpArgs false
namespace Go.Proofs.Ytoikiokcpakokaa.FR
set_option maxRecDepth 100000
open Go.RowKit K Go.Proofs.Ytoikiokcpakokaa.BE

/-- What bytes leave, and whether they are refused. -/
def stP (p : B) : Fs := match (cut p).2 with
  | none => ⟨[], true⟩
  | some r => ⟨r, false⟩
def erP (p : B) : Nat := match (cut p).2 with
  | none => 100
  | some _ => 0
theorem stP_nil : stP [] = Fs.new := rfl
/-- Going on behind these bytes is going on with all of them. -/
theorem fd_go (p c : B) : (cut p).1 ++ fdF (stP p) c = (cut (p ++ c)).1 ∧ fdS (stP p) c = stP (p ++ c) ∧ fdE (stP p) c = erP (p ++ c) := by
  have h := cut_append p.length p c (Nat.le_refl _)
  unfold stP erP
  obtain ⟨⟨fs, r⟩, hx⟩ : ∃ x, cut p = x := ⟨_, rfl⟩
  rw [hx] at h ⊢
  cases r with
  | none =>
    rw [h]
    exact ⟨List.append_nil _, rfl, rfl⟩
  | some r =>
    rw [h]
    refine ⟨rfl, rfl, rfl⟩
theorem stP_wait (p : B) : (stP p).wait.length ≤ p.length := by
  have h := (cut_count p).2.2
  unfold stP
  cases hr : (cut p).2 with
  | none => simp
  | some r => exact h r hr
theorem take_next {s : B} {k : Nat} (h : k < s.length) : s.take k ++ (s.drop k).take 1 = s.take (k + 1) := by
  rw [List.drop_eq_getElem_cons h, List.take_succ_eq_append_getElem h]
  rfl
theorem tx_src {w : World} {E : Nat → Prop} {a : Option Addr} {n c : Nat} {L : List B} (h : TxIn w E (.slice a n c) L) : n = 0 ∨ ∃ ad, a = some ad ∧ ∀ j u, (strs L)[j]? = some u → w.cell? (ad.add j) = some u := by
  obtain ⟨a', n', c', e, h1, -, h2⟩ := h
  simp only [Value.slice.injEq] at e
  obtain ⟨rfl, rfl, rfl⟩ := e
  rcases h2 with h2 | ⟨g, o, rfl, -, -, hr⟩
  · exact .inl h2
  · exact .inr ⟨_, rfl, range_loads hr⟩
theorem erP_le (p : B) : erP p = 0 ∨ erP p = 100 := by
  unfold erP
  cases (cut p).2 with
  | none => exact .inr rfl
  | some r => exact .inl rfl
set_option maxHeartbeats 32000000 in
theorem frameCuts_walk (s : B) (ar : Int) (w : World) (hs : s.length ≤ 1073741824) : Calls Try.prog 4 #[.string (sb s), .int .i64 ar] w fun e w' => e = .returned (.bool true) ∧ Fr No w w' := by
  have HS := hid hs
  obtain ⟨n, hn⟩ : ∃ n, s.length = n := ⟨_, rfl⟩
  have hsz : ((sb s).size : Int) = n := by rw [sb_size, hn]
  have HNL := hid hn
  have hn0 : (0 : Int) ≤ n := by omega
  have hnb : (n : Int) ≤ 1073741824 := by omega
  obtain ⟨is, his, hzs, hss, hbs⟩ := Go.info_parts infoS3
  have HIS := hid his; have HZS := hid hzs; have HSS := hid hss; have HBS := hid hbs
  clear hs hn his hzs hss hbs
  go_enter Try.func4, Try.ntmps4
  go_wp2_with fail
  refine (awake_any w).mono ?_
  rintro e w1 ⟨rfl, f1⟩
  have F1 := hid f1
  clear f1
  go_wp2_with fail
  refine (new_any w1).mono ?_
  rintro e w2 ⟨rfl, hb2, f2, hs2⟩
  obtain ⟨bf, hbf⟩ : ∃ x, w1.heap.size = x := ⟨_, rfl⟩
  rw [hbf] at hb2 ⊢
  have HB2 := hid hb2; have F2 := hid (F1.out.trans' f2)
  have HN : Hid (w.heap.size ≤ bf ∧ w2.heap.size = bf + 1) := hid (by have := F1.out.size; omega)
  clear hb2 f2 hs2 hbf F1
  go_wp2_with fail
  refine (new_any w2).mono ?_
  rintro e w3 ⟨rfl, hb3, f3, hs3⟩
  obtain ⟨bg, hbg⟩ : ∃ x, w2.heap.size = x := ⟨_, rfl⟩
  rw [hbg] at hb3 ⊢
  have HB3 : Hid (FrAt w3 bf Fs.new ∧ FrAt w3 bg Fs.new) := hid ⟨HB2.out.fr f3 id, hb3⟩
  have F3 := hid (F2.out.trans' f3)
  have HN3 : Hid (w.heap.size ≤ bf ∧ bg = bf + 1 ∧ w3.heap.size = bf + 2) := hid (by have := HN.out; omega)
  clear hb3 f3 hs3 hbg HB2 F2 HN
  go_wp2_with fail
  refine (new_any w3).mono ?_
  rintro e w4 ⟨rfl, hb4, f4, hs4⟩
  obtain ⟨bh, hbh⟩ : ∃ x, w3.heap.size = x := ⟨_, rfl⟩
  rw [hbh] at hb4 ⊢
  have HI4 : Hid (FrAt w4 bf Fs.new ∧ FrAt w4 bg Fs.new ∧ FrAt w4 bh Fs.new ∧ Fr No w w4) := hid ⟨HB3.out.1.fr f4 id, HB3.out.2.fr f4 id, hb4, F3.out.trans' f4⟩
  have HN4 : Hid (w.heap.size ≤ bf ∧ bg = bf + 1 ∧ bh = bf + 2 ∧ w4.heap.size = bf + 3) := hid (by have := HN3.out; omega)
  clear hb4 f4 hs4 hbh HB3 F3 HN3
  obtain ⟨L, hL⟩ : ∃ L, (cut s).1 = L := ⟨_, rfl⟩
  have HL := hid hL
  obtain ⟨er, her⟩ : ∃ er, erP s = er := ⟨_, rfl⟩
  have HER := hid her
  have hLn := (cut_count s).1
  rw [hL, HNL.out] at hLn
  obtain ⟨lw, hlw⟩ : ∃ lw, L.length = lw := ⟨_, rfl⟩
  have HLW := hid hlw
  have hlwi : (lw : Int) ≤ 1073741824 := by omega
  have HLN := hid (show 2 * lw ≤ n by omega)
  have HGS : Hid ((cut ([] : B)).1 ++ fdF (stP []) s = L ∧ fdS (stP []) s = stP s ∧ fdE (stP []) s = er) := hid (by
    have h := fd_go [] s
    rw [List.nil_append] at h
    rw [← hL, ← her]
    exact h)
  have heri : (er : Int) ≤ 100 := by rcases erP_le s with h | h <;> omega
  clear hL her hLn hlw
  by_cases hneg : ar < 0
  · have hneg2 : ¬ (n : Int) < ar := by omega
    obtain ⟨P1, hP1⟩ : ∃ P1, s.take 0 = P1 := ⟨_, rfl⟩
    obtain ⟨P2, hP2⟩ : ∃ P2, s.drop 0 = P2 := ⟨_, rfl⟩
    have HP1 := hid hP1; have HP2 := hid hP2
    have HPP : Hid (P1 ++ P2 = s) := hid (by rw [← hP1, ← hP2, List.take_append_drop])
    have HTL : Hid (0 ≤ s.length) := hid (by rw [HNL.out]; omega)
    have HP1L := hid (show P1.length ≤ 1073741824 by have := congrArg List.length HPP.out; rw [List.length_append] at this; have := HS.out; omega)
    have HP12 := hid (show P1.length + P2.length ≤ 1073741824 by have := congrArg List.length HPP.out; rw [List.length_append] at this; have := HS.out; omega)
    obtain ⟨L1, hL1⟩ : ∃ L1, (cut P1).1 = L1 := ⟨_, rfl⟩
    obtain ⟨L2, hL2⟩ : ∃ L2, fdF (stP P1) P2 = L2 := ⟨_, rfl⟩
    obtain ⟨er1, her1⟩ : ∃ er1, erP P1 = er1 := ⟨_, rfl⟩
    have HG1 : Hid (fdF Fs.new P1 = L1 ∧ fdS Fs.new P1 = stP P1 ∧ fdE Fs.new P1 = er1) := hid (by
      have h := fd_go [] P1
      rw [List.nil_append, stP_nil] at h
      rw [← hL1, ← her1]
      exact h)
    have HG2 : Hid (L1 ++ L2 = L ∧ fdS (stP P1) P2 = stP s ∧ fdE (stP P1) P2 = er) := hid (by
      have h := fd_go P1 P2
      rw [HPP.out, hL1, hL2, HL.out, HER.out] at h
      exact h)
    have HL2 := hid hL2
    obtain ⟨lw1, hlw1⟩ : ∃ x, L1.length = x := ⟨_, rfl⟩
    obtain ⟨lw2, hlw2⟩ : ∃ x, L2.length = x := ⟨_, rfl⟩
    have HLW1 := hid hlw1; have HLW2 := hid hlw2
    have hl12 : lw1 + lw2 = lw := by rw [← hlw1, ← hlw2, ← HLW.out, ← HG2.out.1, List.length_append]
    have HL12 := hid hl12
    have hw1i : (lw1 : Int) ≤ 1073741824 := by omega
    have hw2i : (lw2 : Int) ≤ 1073741824 := by omega
    clear hP1 hP2 hL1 hL2 her1 hlw1 hlw2 hl12
    go_wp2_with fail
    refine (feed_at bf Fs.new s w4 L er (stP s) HI4.out.1 (by have := HS.out; simp [Fs.new]; omega) (by have h := HGS.out.1; rwa [show (cut ([] : B)).1 = [] from rfl, List.nil_append] at h) HGS.out.2.2 HGS.out.2.1).mono ?_
    rintro e w5 ⟨a5, c5, rfl, ht5, hb5, f5⟩
    rw [HLW.out] at ht5 ⊢
    have HT5 : Hid (TxIn w5 (fun k => bf + 3 ≤ k) (.slice a5 lw c5) L) := hid (ht5.mono fun k hk => by have h : w4.heap.size ≤ k := hk; have := HN4.out; omega)
    have HI5 : Hid (FrAt w5 bg Fs.new ∧ FrAt w5 bh Fs.new ∧ Fr No w w5 ∧ bf + 3 ≤ w5.heap.size) := hid ⟨HI4.out.2.1.fr f5 (fun e => by have e : bg = bf := e; have := HN4.out; omega), HI4.out.2.2.1.fr f5 (fun e => by have e : bh = bf := e; have := HN4.out; omega), HI4.out.2.2.2.trans f5 (fun k e => .inr (by have e : k = bf := e; have := HN4.out; omega)), by have := f5.size; have := HN4.out; omega⟩
    clear ht5 hb5 f5
    go_wp2_with (first
      | ((with_reducible show wpList _ _ _ (⟨_, .slice 9 _ _ _ _, _, _, _, _⟩ :: _) _ _); refine wpL_valZ (by rfl) (.string (sb P1)) (exec_to _ _ rfl s 0 rfl rfl HTL.out P1 HP1.out _) ?_)
      | fail)
    refine (feed_at bg Fs.new P1 w5 L1 er1 (stP P1) HI5.out.1 (by have := HP1L.out; simp [Fs.new]; omega) HG1.out.1 HG1.out.2.2 HG1.out.2.1).mono ?_
    rintro e w6 ⟨a6, c6, rfl, ht6, hb6, f6⟩
    rw [HLW1.out] at ht6 ⊢
    have HT6 : Hid (TxIn w6 (fun k => bf + 3 ≤ k) (.slice a5 lw c5) L ∧ TxIn w6 (fun k => bf + 3 ≤ k) (.slice a6 lw1 c6) L1) := hid ⟨HT5.out.fr f6 fun k hk _ e => by have e : k = bg := e; have := HN4.out; omega, ht6.mono fun k hk => by have h : w5.heap.size ≤ k := hk; have := HI5.out; omega⟩
    have HI6 : Hid (FrAt w6 bg (stP P1) ∧ FrAt w6 bh Fs.new ∧ Fr No w w6 ∧ bf + 3 ≤ w6.heap.size) := hid ⟨hb6, HI5.out.2.1.fr f6 (fun e => by have e : bh = bg := e; have := HN4.out; omega), HI5.out.2.2.1.trans f6 (fun k e => .inr (by have e : k = bg := e; have := HN4.out; omega)), by have := f6.size; have := HI5.out; omega⟩
    clear ht6 hb6 f6 HT5 HI5
    go_wp2_with (first
      | ((with_reducible show wpList _ _ _ (⟨_, .slice 9 _ _ _ _, _, _, _, _⟩ :: _) _ _); refine wpL_valZ (by rfl) (.string (sb P2)) (exec_from _ _ rfl s 0 rfl rfl HTL.out P2 HP2.out _) ?_)
      | fail)
    refine (feed_at bg (stP P1) P2 w6 L2 er (stP s) HI6.out.1 (by have := stP_wait P1; have := HP12.out; omega) HL2.out HG2.out.2.2 HG2.out.2.1).mono ?_
    rintro e w7 ⟨a7, c7, rfl, ht7, hb7, f7⟩
    rw [HLW2.out] at ht7 ⊢
    have HT7 : Hid (TxIn w7 (fun k => bf + 3 ≤ k) (.slice a5 lw c5) L ∧ TxIn w7 (fun k => bf + 3 ≤ k) (.slice a6 lw1 c6) L1 ∧ TxIn w7 (fun k => bf + 3 ≤ k) (.slice a7 lw2 c7) L2) :=
      hid ⟨HT6.out.1.fr f7 fun k hk _ e => by have e : k = bg := e; have := HN4.out; omega, HT6.out.2.fr f7 fun k hk _ e => by have e : k = bg := e; have := HN4.out; omega, ht7.mono fun k hk => by have h : w6.heap.size ≤ k := hk; have := HI6.out; omega⟩
    have HI7 : Hid (FrAt w7 bh (stP (s.take 0)) ∧ Fr No w w7 ∧ bf + 3 ≤ w7.heap.size) := hid ⟨HI6.out.2.1.fr f7 (fun e => by have e : bh = bg := e; have := HN4.out; omega), HI6.out.2.2.1.trans f7 (fun k e => .inr (by have e : k = bg := e; have := HN4.out; omega)), by have := f7.size; have := HI6.out; omega⟩
    clear ht7 hb7 f7 HT6 HI6
    have HR0 : Hid (w7.ownsRow w7.heap.size 9 1 (.slice none 0 0) (cut (s.take 0)).1.length (strs (cut (s.take 0)).1)) := hid (World.ownsRow_nil _ _ _ _)
    go_wp2_with fail
    go_loopw [15, 16, 17] (fun bv lv kv wr => ∃ (k m ek : Nat) (va : Option Addr) (vc : Nat), bv = .slice va m vc ∧ lv = .int .i64 (ek : Int) ∧ kv = .int .i64 k ∧ k ≤ 3000 ∧ k ≤ n ∧
        Hid (wr.ownsRow w7.heap.size 9 1 (.slice va m vc) m (strs (cut (s.take k)).1) ∧ (cut (s.take k)).1.length = m ∧ erP (s.take k) = ek ∧ FrAt wr bh (stP (s.take k)) ∧ Fr (fun i => i = bh) w7 wr)) (fun _ _ kv _ => 3000 - (intOf kv).toNat)
    case atStart => exact ⟨0, 0, 0, none, 0, rfl, rfl, rfl, Nat.zero_le _, Nat.zero_le _, hid ⟨HR0.out, rfl, rfl, HI7.out.1, Fr.refl _ _⟩⟩
    case round =>
      obtain ⟨k, m, ek, va, vc, rfl, rfl, rfl, hk3, hkn, HI⟩ := hrel
      have HW8 : Hid (w7.heap.size ≤ wr.heap.size ∧ bh < w7.heap.size) := hid ⟨HI.out.2.2.2.2.size, HI7.out.1.lt⟩
      have hmc := (cut_count (s.take k)).1
      rw [HI.out.2.1, List.length_take, HNL.out] at hmc
      have hmi : (m : Int) ≤ 1073741824 := by omega
      by_cases hlt : k < n ∧ k < 3000
      · have h1 : (k : Int) < n := by omega
        have h2 : (k : Int) < 3000 := by omega
        have hks : k < s.length := by rw [HNL.out]; exact hlt.1
        have hnx := take_next hks
        obtain ⟨c, hc⟩ : ∃ c, (s.drop k).take 1 = c := ⟨_, rfl⟩
        have hcl : c.length = 1 := by rw [← hc, List.length_take, List.length_drop]; omega
        have hgo := fd_go (s.take k) c
        rw [hc] at hnx
        rw [hnx] at hgo
        obtain ⟨Lk, hLk⟩ : ∃ Lk, fdF (stP (s.take k)) c = Lk := ⟨_, rfl⟩
        rw [hLk] at hgo
        obtain ⟨ek', hek'⟩ : ∃ x, erP (s.take (k + 1)) = x := ⟨_, rfl⟩
        rw [hek'] at hgo
        obtain ⟨mk, hmk⟩ : ∃ mk, Lk.length = mk := ⟨_, rfl⟩
        have hmm := (cut_count (s.take (k + 1))).1
        rw [← hgo.1, List.length_append, HI.out.2.1, hmk, List.length_take, HNL.out] at hmm
        have hmmi : (m : Int) + (mk : Int) ≤ 1073741824 := by omega
        have HGO := hid hgo; have HLK := hid hLk; have HCL := hid hcl; have HMK := hid hmk; have HEK := hid hek'; have HLT := hid hlt; have HKS := hid hks; have HC1 := hid hc
        have HKK := hid (show ((k : Int) + 1) = ((k + 1 : Nat) : Int) by omega)
        have HWT := hid (show (stP (s.take k)).wait.length + c.length ≤ 1099511627776 by have h3 := stP_wait (s.take k); rw [List.length_take] at h3; have := HS.out; omega)
        clear hlt hks hnx hc hcl hgo hLk hek' hmk hmm hmc
        go_wp2_with (first
          | ((with_reducible show wpList _ _ _ (⟨_, .slice 9 _ _ _ _, _, _, _, _⟩ :: _) _ _); refine wpL_valZ (by rfl) (.string (sb c)) (exec_two _ _ _ rfl s k (k + 1) rfl rfl (by first | rfl | exact congrArg (Value.int .i64) HKK.out) (by omega) HKS.out c (by rw [show k + 1 - k = 1 by omega]; exact HC1.out) _) ?_)
          | fail)
        refine (feed_at bh (stP (s.take k)) c wr Lk ek' (stP (s.take (k + 1))) HI.out.2.2.2.1 HWT.out HLK.out HGO.out.2.2 HGO.out.2.1).mono ?_
        rintro e w8 ⟨a8, c8, rfl, ht8, hb8, f8⟩
        rw [HMK.out] at ht8 ⊢
        have HT8 := hid ht8; have HB8 := hid hb8; have F8 := hid f8
        have HO8 := hid (own_fr2 HI.out.1 f8 fun i hi e => by have e : i = bh := e; have := HW8.out; omega)
        clear ht8 hb8 f8
        go_wp2_with (first
          | ((with_reducible show wpList _ _ _ (⟨_, .call { callee := .builtin .append, args := _, argTypes := _ }, _, _, _, _⟩ :: _) _ _); refine wpL_append rfl _ _ 22 rfl w7.heap.size 9 is _ 1 16 Try.underlying22 HIS.out HZS.out HSS.out HBS.out rfl (by decide) (.slice va m vc) m (strs (cut (s.take k)).1) rfl HO8.out a8 mk c8 (strs Lk) rfl (by rw [strs_length, HMK.out, Nat.mul_one]) (tx_src HT8.out) (strs_one _) (by unfold maxLen; omega) (by omega) (by have := HW8.out; have := F8.out.size; omega) ?_; intro a9 c9 w9 HO9 HG9 HA9)
          | fail)
        go_roundw
        case rel =>
          have f89 : Fr (fun i => w7.heap.size ≤ i) w8 w9 := (frown HG9.out).mono fun i e => (own_ge HO8.out i e).1
          refine ⟨k + 1, m + mk, ek', a9, c9, rfl, rfl, by go_num, by have := HLT.out; omega, by have := HLT.out; omega, hid ⟨?_, ?_, HEK.out, ?_, ?_⟩⟩
          · have ho := HO9.out
            rw [← HGO.out.1]
            simpa [strs] using ho
          · rw [← HGO.out.1, List.length_append, HI.out.2.1, HMK.out]
          · exact HB8.out.fr f89 (by have := HW8.out; omega)
          · refine (HI.out.2.2.2.2.trans' F8.out).trans f89 fun i e => .inr e
        case measure => have := HLT.out; simp [intOf]; omega
      · have HT9 : Hid (TxIn wr (fun i => bf + 3 ≤ i) (.slice a5 lw c5) L ∧ TxIn wr (fun i => bf + 3 ≤ i) (.slice a6 lw1 c6) L1 ∧ TxIn wr (fun i => bf + 3 ≤ i) (.slice a7 lw2 c7) L2 ∧ TxIn wr (fun i => w7.heap.size ≤ i) (.slice va m vc) (cut (s.take k)).1) :=
          hid ⟨HT7.out.1.fr HI.out.2.2.2.2 fun i hi _ e => by have e : i = bh := e; have := HN4.out; omega, HT7.out.2.1.fr HI.out.2.2.2.2 fun i hi _ e => by have e : i = bh := e; have := HN4.out; omega, HT7.out.2.2.fr HI.out.2.2.2.2 fun i hi _ e => by have e : i = bh := e; have := HN4.out; omega, own_tx HI.out.1⟩
        have HF9 : Hid (Fr No w wr) := hid (HI7.out.2.1.trans HI.out.2.2.2.2 fun i e => .inr (by have e : i = bh := e; have := HN4.out; omega))
        have hall : (n : Int) ≤ 3000 → k = n := fun h => by omega
        have HALL : Hid ((n : Int) ≤ 3000 → (cut (s.take k)).1 = L ∧ ek = er) := hid fun h => by
          have hk := hall h
          have h3 := HI.out.2.2.1
          rw [List.take_of_length_le (by rw [HNL.out]; omega)] at h3 ⊢
          exact ⟨HL.out, by rw [← h3, HER.out]⟩
        obtain ⟨Lk, hLk⟩ : ∃ Lk, (cut (s.take k)).1 = Lk := ⟨_, rfl⟩
        rw [hLk] at HT9 HALL
        have HLKM : Hid (Lk.length = m) := hid (by rw [← hLk]; exact HI.out.2.1)
        have HEQ : Hid (decide (L = Lk) = true ∨ (3000 : Int) < n) := hid (by
          by_cases h : (n : Int) ≤ 3000
          · exact .inl (decide_eq_true (HALL.out h).1.symm)
          · exact .inr (by omega))
        obtain ⟨D, hD⟩ : ∃ D, decide (L = Lk) = D := ⟨_, rfl⟩
        have HD := hid hD
        rw [hD] at HEQ
        have hst : ¬ ((k : Int) < n ∧ (k : Int) < 3000) := by omega
        clear hall hLk hD hlt hmc
        have HG2' := HG2
        by_cases h1 : (k : Int) < n
        · have h2 : ¬ (k : Int) < 3000 := fun h => hst ⟨h1, h⟩
          have h3 : (3000 : Int) < n := by omega
          clear hst
          go_wp2_with (first
            | ((with_reducible show wpList _ _ _ (⟨_, .buildSlice 22 _ _, _, _, _, _⟩ :: _) _ _); refine wpL_buildNone rfl 22 9 rfl (fun _ => by kernel_rfl) ?_; intro w8 HB8 F8 HS8)
            | ((with_reducible show wpList _ _ _ (⟨_, .call { callee := .builtin .append, args := _, argTypes := _ }, _, _, _, _⟩ :: _) _ _); refine Hid.out ?_)
            | fail)
          refine hid ?_
          refine wpL_appendNew rfl _ _ 22 rfl wr.heap.size 9 is _ 1 16 Try.underlying22 HIS.out HZS.out HSS.out HBS.out rfl (by decide) (.slice (some ⟨wr.heap.size, 0, none⟩) 0 0) rfl (HB8.out.own (Nat.le_refl _) rfl (Nat.le_refl _) (by unfold maxLen; omega) rfl rfl) a6 lw1 c6 (strs L1) rfl (by rw [strs_length, HLW1.out, Nat.mul_one]) (tx_src (HT9.out.2.1.no F8.out)) (strs_one _) (by unfold maxLen; omega) (by omega) F8.out.size ?_
          intro a9 c9 w9 HO9 HG9 HA9
          have HF99 : Hid (Fr (fun i => wr.heap.size ≤ i) wr w9) := hid (F8.out.no.trans' ((frown HG9.out).mono fun i e => by cases e; exact Nat.le_refl _))
          go_wp2_with (first
            | ((with_reducible show wpList _ _ _ (⟨_, .call { callee := .builtin .append, args := _, argTypes := _ }, _, _, _, _⟩ :: _) _ _); refine Hid.out ?_)
            | fail)
          refine hid ?_
          refine wpL_append rfl _ _ 22 rfl wr.heap.size 9 is _ 1 16 Try.underlying22 HIS.out HZS.out HSS.out HBS.out rfl (by decide) (.slice a9 lw1 c9) lw1 (strs L1) rfl HO9.out a7 lw2 c7 (strs L2) rfl (by rw [strs_length, HLW2.out, Nat.mul_one]) (tx_src (HT9.out.2.2.1.fr HF99.out fun i hi hw e => by have e : wr.heap.size ≤ i := e; omega)) (strs_one _) (by unfold maxLen; omega) (by omega) HF99.out.size ?_
          intro a10 c10 w10 HO10 HG10 HA10
          go_wp2_with fail
          have HF10 : Hid (Fr (fun i => wr.heap.size ≤ i) wr w10) := hid (HF99.out.trans' ((frown HG10.out).mono fun i e => (own_ge HO9.out i e).1))
          have HT10 : Hid (TxIn w10 (fun i => wr.heap.size ≤ i) (.slice a10 (lw1 + lw2) c10) L) := hid (by
            have ho := HO10.out
            have e : strs L1 ++ strs L2 = strs L := by rw [← HG2.out.1]; simp [strs]
            rw [e] at ho
            exact own_tx ho)
          refine (texts_any _ _ _ _ L L w10 (HT9.out.1.fr HF10.out fun i hi hw e => by have e : wr.heap.size ≤ i := e; omega) HT10.out (by rw [HLW.out]; omega) (by rw [HLW.out]; omega)).mono ?_
          rintro e w11 ⟨rfl, f11⟩
          rw [decide_eq_true rfl]
          have HF11 : Hid (Fr (fun i => wr.heap.size ≤ i) wr w11) := hid (HF10.out.trans' f11.no)
          clear f11
          go_wp2_with fail
          refine (texts_any _ _ _ _ L Lk w11 (HT9.out.1.fr HF11.out fun i hi hw e => by have e : wr.heap.size ≤ i := e; omega) (HT9.out.2.2.2.fr HF11.out fun i hi hw e => by have e : wr.heap.size ≤ i := e; omega) (by rw [HLW.out]; omega) (by rw [HLKM.out]; omega)).mono ?_
          rintro e w12 ⟨rfl, f12⟩
          rw [HD.out]
          have HF12 : Hid (Fr No w w12) := hid ((HF9.out.trans HF11.out fun i e => .inr (Nat.le_trans HF9.out.size e)).trans' f12)
          clear f12
          go_wp2_with fail
          go_ret
          exact ⟨rfl, HF12.out⟩
        · clear hst
          by_cases h3 : (3000 : Int) < n
          · have h9 : Hid True := hid trivial
            go_wp2_with (first
              | ((with_reducible show wpList _ _ _ (⟨_, .buildSlice 22 _ _, _, _, _, _⟩ :: _) _ _); refine wpL_buildNone rfl 22 9 rfl (fun _ => by kernel_rfl) ?_; intro w8 HB8 F8 HS8)
              | ((with_reducible show wpList _ _ _ (⟨_, .call { callee := .builtin .append, args := _, argTypes := _ }, _, _, _, _⟩ :: _) _ _); refine Hid.out ?_)
              | fail)
            refine hid ?_
            refine wpL_appendNew rfl _ _ 22 rfl wr.heap.size 9 is _ 1 16 Try.underlying22 HIS.out HZS.out HSS.out HBS.out rfl (by decide) (.slice (some ⟨wr.heap.size, 0, none⟩) 0 0) rfl (HB8.out.own (Nat.le_refl _) rfl (Nat.le_refl _) (by unfold maxLen; omega) rfl rfl) a6 lw1 c6 (strs L1) rfl (by rw [strs_length, HLW1.out, Nat.mul_one]) (tx_src (HT9.out.2.1.no F8.out)) (strs_one _) (by unfold maxLen; omega) (by omega) F8.out.size ?_
            intro a9 c9 w9 HO9 HG9 HA9
            have HF99 : Hid (Fr (fun i => wr.heap.size ≤ i) wr w9) := hid (F8.out.no.trans' ((frown HG9.out).mono fun i e => by cases e; exact Nat.le_refl _))
            go_wp2_with (first
              | ((with_reducible show wpList _ _ _ (⟨_, .call { callee := .builtin .append, args := _, argTypes := _ }, _, _, _, _⟩ :: _) _ _); refine Hid.out ?_)
              | fail)
            refine hid ?_
            refine wpL_append rfl _ _ 22 rfl wr.heap.size 9 is _ 1 16 Try.underlying22 HIS.out HZS.out HSS.out HBS.out rfl (by decide) (.slice a9 lw1 c9) lw1 (strs L1) rfl HO9.out a7 lw2 c7 (strs L2) rfl (by rw [strs_length, HLW2.out, Nat.mul_one]) (tx_src (HT9.out.2.2.1.fr HF99.out fun i hi hw e => by have e : wr.heap.size ≤ i := e; omega)) (strs_one _) (by unfold maxLen; omega) (by omega) HF99.out.size ?_
            intro a10 c10 w10 HO10 HG10 HA10
            go_wp2_with fail
            have HF10 : Hid (Fr (fun i => wr.heap.size ≤ i) wr w10) := hid (HF99.out.trans' ((frown HG10.out).mono fun i e => (own_ge HO9.out i e).1))
            have HT10 : Hid (TxIn w10 (fun i => wr.heap.size ≤ i) (.slice a10 (lw1 + lw2) c10) L) := hid (by
              have ho := HO10.out
              have e : strs L1 ++ strs L2 = strs L := by rw [← HG2.out.1]; simp [strs]
              rw [e] at ho
              exact own_tx ho)
            refine (texts_any _ _ _ _ L L w10 (HT9.out.1.fr HF10.out fun i hi hw e => by have e : wr.heap.size ≤ i := e; omega) HT10.out (by rw [HLW.out]; omega) (by rw [HLW.out]; omega)).mono ?_
            rintro e w11 ⟨rfl, f11⟩
            rw [decide_eq_true rfl]
            have HF11 : Hid (Fr (fun i => wr.heap.size ≤ i) wr w11) := hid (HF10.out.trans' f11.no)
            clear f11
            go_wp2_with fail
            refine (texts_any _ _ _ _ L Lk w11 (HT9.out.1.fr HF11.out fun i hi hw e => by have e : wr.heap.size ≤ i := e; omega) (HT9.out.2.2.2.fr HF11.out fun i hi hw e => by have e : wr.heap.size ≤ i := e; omega) (by rw [HLW.out]; omega) (by rw [HLKM.out]; omega)).mono ?_
            rintro e w12 ⟨rfl, f12⟩
            rw [HD.out]
            have HF12 : Hid (Fr No w w12) := hid ((HF9.out.trans HF11.out fun i e => .inr (Nat.le_trans HF9.out.size e)).trans' f12)
            clear f12
            go_wp2_with fail
            go_ret
            exact ⟨rfl, HF12.out⟩
          · have hle : (n : Int) ≤ 3000 := by omega
            obtain ⟨hLL, rfl⟩ := HALL.out hle
            have HDT : Hid (D = true) := hid (by rcases HEQ.out with h | h; exact h; omega)
            clear hLL
            obtain rfl : D = true := HDT.out
            go_wp2_with (first
              | ((with_reducible show wpList _ _ _ (⟨_, .buildSlice 22 _ _, _, _, _, _⟩ :: _) _ _); refine wpL_buildNone rfl 22 9 rfl (fun _ => by kernel_rfl) ?_; intro w8 HB8 F8 HS8)
              | ((with_reducible show wpList _ _ _ (⟨_, .call { callee := .builtin .append, args := _, argTypes := _ }, _, _, _, _⟩ :: _) _ _); refine Hid.out ?_)
              | fail)
            refine hid ?_
            refine wpL_appendNew rfl _ _ 22 rfl wr.heap.size 9 is _ 1 16 Try.underlying22 HIS.out HZS.out HSS.out HBS.out rfl (by decide) (.slice (some ⟨wr.heap.size, 0, none⟩) 0 0) rfl (HB8.out.own (Nat.le_refl _) rfl (Nat.le_refl _) (by unfold maxLen; omega) rfl rfl) a6 lw1 c6 (strs L1) rfl (by rw [strs_length, HLW1.out, Nat.mul_one]) (tx_src (HT9.out.2.1.no F8.out)) (strs_one _) (by unfold maxLen; omega) (by omega) F8.out.size ?_
            intro a9 c9 w9 HO9 HG9 HA9
            have HF99 : Hid (Fr (fun i => wr.heap.size ≤ i) wr w9) := hid (F8.out.no.trans' ((frown HG9.out).mono fun i e => by cases e; exact Nat.le_refl _))
            go_wp2_with (first
              | ((with_reducible show wpList _ _ _ (⟨_, .call { callee := .builtin .append, args := _, argTypes := _ }, _, _, _, _⟩ :: _) _ _); refine Hid.out ?_)
              | fail)
            refine hid ?_
            refine wpL_append rfl _ _ 22 rfl wr.heap.size 9 is _ 1 16 Try.underlying22 HIS.out HZS.out HSS.out HBS.out rfl (by decide) (.slice a9 lw1 c9) lw1 (strs L1) rfl HO9.out a7 lw2 c7 (strs L2) rfl (by rw [strs_length, HLW2.out, Nat.mul_one]) (tx_src (HT9.out.2.2.1.fr HF99.out fun i hi hw e => by have e : wr.heap.size ≤ i := e; omega)) (strs_one _) (by unfold maxLen; omega) (by omega) HF99.out.size ?_
            intro a10 c10 w10 HO10 HG10 HA10
            go_wp2_with fail
            have HF10 : Hid (Fr (fun i => wr.heap.size ≤ i) wr w10) := hid (HF99.out.trans' ((frown HG10.out).mono fun i e => (own_ge HO9.out i e).1))
            have HT10 : Hid (TxIn w10 (fun i => wr.heap.size ≤ i) (.slice a10 (lw1 + lw2) c10) L) := hid (by
              have ho := HO10.out
              have e : strs L1 ++ strs L2 = strs L := by rw [← HG2.out.1]; simp [strs]
              rw [e] at ho
              exact own_tx ho)
            refine (texts_any _ _ _ _ L L w10 (HT9.out.1.fr HF10.out fun i hi hw e => by have e : wr.heap.size ≤ i := e; omega) HT10.out (by rw [HLW.out]; omega) (by rw [HLW.out]; omega)).mono ?_
            rintro e w11 ⟨rfl, f11⟩
            rw [decide_eq_true rfl]
            have HF11 : Hid (Fr (fun i => wr.heap.size ≤ i) wr w11) := hid (HF10.out.trans' f11.no)
            clear f11
            go_wp2_with fail
            refine (texts_any _ _ _ _ L Lk w11 (HT9.out.1.fr HF11.out fun i hi hw e => by have e : wr.heap.size ≤ i := e; omega) (HT9.out.2.2.2.fr HF11.out fun i hi hw e => by have e : wr.heap.size ≤ i := e; omega) (by rw [HLW.out]; omega) (by rw [HLKM.out]; omega)).mono ?_
            rintro e w12 ⟨rfl, f12⟩
            rw [HD.out]
            have HF12 : Hid (Fr No w w12) := hid ((HF9.out.trans HF11.out fun i e => .inr (Nat.le_trans HF9.out.size e)).trans' f12)
            clear f12
            go_wp2_with fail
            go_ret
            exact ⟨rfl, HF12.out⟩

  · by_cases hbig : (n : Int) < ar
    · have HZ : Hid True := hid trivial
      obtain ⟨P1, hP1⟩ : ∃ P1, s.take 0 = P1 := ⟨_, rfl⟩
      obtain ⟨P2, hP2⟩ : ∃ P2, s.drop 0 = P2 := ⟨_, rfl⟩
      have HP1 := hid hP1; have HP2 := hid hP2
      have HPP : Hid (P1 ++ P2 = s) := hid (by rw [← hP1, ← hP2, List.take_append_drop])
      have HTL : Hid (0 ≤ s.length) := hid (by rw [HNL.out]; omega)
      have HP1L := hid (show P1.length ≤ 1073741824 by have := congrArg List.length HPP.out; rw [List.length_append] at this; have := HS.out; omega)
      have HP12 := hid (show P1.length + P2.length ≤ 1073741824 by have := congrArg List.length HPP.out; rw [List.length_append] at this; have := HS.out; omega)
      obtain ⟨L1, hL1⟩ : ∃ L1, (cut P1).1 = L1 := ⟨_, rfl⟩
      obtain ⟨L2, hL2⟩ : ∃ L2, fdF (stP P1) P2 = L2 := ⟨_, rfl⟩
      obtain ⟨er1, her1⟩ : ∃ er1, erP P1 = er1 := ⟨_, rfl⟩
      have HG1 : Hid (fdF Fs.new P1 = L1 ∧ fdS Fs.new P1 = stP P1 ∧ fdE Fs.new P1 = er1) := hid (by
        have h := fd_go [] P1
        rw [List.nil_append, stP_nil] at h
        rw [← hL1, ← her1]
        exact h)
      have HG2 : Hid (L1 ++ L2 = L ∧ fdS (stP P1) P2 = stP s ∧ fdE (stP P1) P2 = er) := hid (by
        have h := fd_go P1 P2
        rw [HPP.out, hL1, hL2, HL.out, HER.out] at h
        exact h)
      have HL2 := hid hL2
      obtain ⟨lw1, hlw1⟩ : ∃ x, L1.length = x := ⟨_, rfl⟩
      obtain ⟨lw2, hlw2⟩ : ∃ x, L2.length = x := ⟨_, rfl⟩
      have HLW1 := hid hlw1; have HLW2 := hid hlw2
      have hl12 : lw1 + lw2 = lw := by rw [← hlw1, ← hlw2, ← HLW.out, ← HG2.out.1, List.length_append]
      have HL12 := hid hl12
      have hw1i : (lw1 : Int) ≤ 1073741824 := by omega
      have hw2i : (lw2 : Int) ≤ 1073741824 := by omega
      clear hP1 hP2 hL1 hL2 her1 hlw1 hlw2 hl12
      go_wp2_with fail
      refine (feed_at bf Fs.new s w4 L er (stP s) HI4.out.1 (by have := HS.out; simp [Fs.new]; omega) (by have h := HGS.out.1; rwa [show (cut ([] : B)).1 = [] from rfl, List.nil_append] at h) HGS.out.2.2 HGS.out.2.1).mono ?_
      rintro e w5 ⟨a5, c5, rfl, ht5, hb5, f5⟩
      rw [HLW.out] at ht5 ⊢
      have HT5 : Hid (TxIn w5 (fun k => bf + 3 ≤ k) (.slice a5 lw c5) L) := hid (ht5.mono fun k hk => by have h : w4.heap.size ≤ k := hk; have := HN4.out; omega)
      have HI5 : Hid (FrAt w5 bg Fs.new ∧ FrAt w5 bh Fs.new ∧ Fr No w w5 ∧ bf + 3 ≤ w5.heap.size) := hid ⟨HI4.out.2.1.fr f5 (fun e => by have e : bg = bf := e; have := HN4.out; omega), HI4.out.2.2.1.fr f5 (fun e => by have e : bh = bf := e; have := HN4.out; omega), HI4.out.2.2.2.trans f5 (fun k e => .inr (by have e : k = bf := e; have := HN4.out; omega)), by have := f5.size; have := HN4.out; omega⟩
      clear ht5 hb5 f5
      go_wp2_with (first
        | ((with_reducible show wpList _ _ _ (⟨_, .slice 9 _ _ _ _, _, _, _, _⟩ :: _) _ _); refine wpL_valZ (by rfl) (.string (sb P1)) (exec_to _ _ rfl s 0 rfl rfl HTL.out P1 HP1.out _) ?_)
        | fail)
      refine (feed_at bg Fs.new P1 w5 L1 er1 (stP P1) HI5.out.1 (by have := HP1L.out; simp [Fs.new]; omega) HG1.out.1 HG1.out.2.2 HG1.out.2.1).mono ?_
      rintro e w6 ⟨a6, c6, rfl, ht6, hb6, f6⟩
      rw [HLW1.out] at ht6 ⊢
      have HT6 : Hid (TxIn w6 (fun k => bf + 3 ≤ k) (.slice a5 lw c5) L ∧ TxIn w6 (fun k => bf + 3 ≤ k) (.slice a6 lw1 c6) L1) := hid ⟨HT5.out.fr f6 fun k hk _ e => by have e : k = bg := e; have := HN4.out; omega, ht6.mono fun k hk => by have h : w5.heap.size ≤ k := hk; have := HI5.out; omega⟩
      have HI6 : Hid (FrAt w6 bg (stP P1) ∧ FrAt w6 bh Fs.new ∧ Fr No w w6 ∧ bf + 3 ≤ w6.heap.size) := hid ⟨hb6, HI5.out.2.1.fr f6 (fun e => by have e : bh = bg := e; have := HN4.out; omega), HI5.out.2.2.1.trans f6 (fun k e => .inr (by have e : k = bg := e; have := HN4.out; omega)), by have := f6.size; have := HI5.out; omega⟩
      clear ht6 hb6 f6 HT5 HI5
      go_wp2_with (first
        | ((with_reducible show wpList _ _ _ (⟨_, .slice 9 _ _ _ _, _, _, _, _⟩ :: _) _ _); refine wpL_valZ (by rfl) (.string (sb P2)) (exec_from _ _ rfl s 0 rfl rfl HTL.out P2 HP2.out _) ?_)
        | fail)
      refine (feed_at bg (stP P1) P2 w6 L2 er (stP s) HI6.out.1 (by have := stP_wait P1; have := HP12.out; omega) HL2.out HG2.out.2.2 HG2.out.2.1).mono ?_
      rintro e w7 ⟨a7, c7, rfl, ht7, hb7, f7⟩
      rw [HLW2.out] at ht7 ⊢
      have HT7 : Hid (TxIn w7 (fun k => bf + 3 ≤ k) (.slice a5 lw c5) L ∧ TxIn w7 (fun k => bf + 3 ≤ k) (.slice a6 lw1 c6) L1 ∧ TxIn w7 (fun k => bf + 3 ≤ k) (.slice a7 lw2 c7) L2) :=
        hid ⟨HT6.out.1.fr f7 fun k hk _ e => by have e : k = bg := e; have := HN4.out; omega, HT6.out.2.fr f7 fun k hk _ e => by have e : k = bg := e; have := HN4.out; omega, ht7.mono fun k hk => by have h : w6.heap.size ≤ k := hk; have := HI6.out; omega⟩
      have HI7 : Hid (FrAt w7 bh (stP (s.take 0)) ∧ Fr No w w7 ∧ bf + 3 ≤ w7.heap.size) := hid ⟨HI6.out.2.1.fr f7 (fun e => by have e : bh = bg := e; have := HN4.out; omega), HI6.out.2.2.1.trans f7 (fun k e => .inr (by have e : k = bg := e; have := HN4.out; omega)), by have := f7.size; have := HI6.out; omega⟩
      clear ht7 hb7 f7 HT6 HI6
      have HR0 : Hid (w7.ownsRow w7.heap.size 9 1 (.slice none 0 0) (cut (s.take 0)).1.length (strs (cut (s.take 0)).1)) := hid (World.ownsRow_nil _ _ _ _)
      go_wp2_with fail
      go_loopw [15, 16, 17] (fun bv lv kv wr => ∃ (k m ek : Nat) (va : Option Addr) (vc : Nat), bv = .slice va m vc ∧ lv = .int .i64 (ek : Int) ∧ kv = .int .i64 k ∧ k ≤ 3000 ∧ k ≤ n ∧
          Hid (wr.ownsRow w7.heap.size 9 1 (.slice va m vc) m (strs (cut (s.take k)).1) ∧ (cut (s.take k)).1.length = m ∧ erP (s.take k) = ek ∧ FrAt wr bh (stP (s.take k)) ∧ Fr (fun i => i = bh) w7 wr)) (fun _ _ kv _ => 3000 - (intOf kv).toNat)
      case atStart => exact ⟨0, 0, 0, none, 0, rfl, rfl, rfl, Nat.zero_le _, Nat.zero_le _, hid ⟨HR0.out, rfl, rfl, HI7.out.1, Fr.refl _ _⟩⟩
      case round =>
        obtain ⟨k, m, ek, va, vc, rfl, rfl, rfl, hk3, hkn, HI⟩ := hrel
        have HW8 : Hid (w7.heap.size ≤ wr.heap.size ∧ bh < w7.heap.size) := hid ⟨HI.out.2.2.2.2.size, HI7.out.1.lt⟩
        have hmc := (cut_count (s.take k)).1
        rw [HI.out.2.1, List.length_take, HNL.out] at hmc
        have hmi : (m : Int) ≤ 1073741824 := by omega
        by_cases hlt : k < n ∧ k < 3000
        · have h1 : (k : Int) < n := by omega
          have h2 : (k : Int) < 3000 := by omega
          have hks : k < s.length := by rw [HNL.out]; exact hlt.1
          have hnx := take_next hks
          obtain ⟨c, hc⟩ : ∃ c, (s.drop k).take 1 = c := ⟨_, rfl⟩
          have hcl : c.length = 1 := by rw [← hc, List.length_take, List.length_drop]; omega
          have hgo := fd_go (s.take k) c
          rw [hc] at hnx
          rw [hnx] at hgo
          obtain ⟨Lk, hLk⟩ : ∃ Lk, fdF (stP (s.take k)) c = Lk := ⟨_, rfl⟩
          rw [hLk] at hgo
          obtain ⟨ek', hek'⟩ : ∃ x, erP (s.take (k + 1)) = x := ⟨_, rfl⟩
          rw [hek'] at hgo
          obtain ⟨mk, hmk⟩ : ∃ mk, Lk.length = mk := ⟨_, rfl⟩
          have hmm := (cut_count (s.take (k + 1))).1
          rw [← hgo.1, List.length_append, HI.out.2.1, hmk, List.length_take, HNL.out] at hmm
          have hmmi : (m : Int) + (mk : Int) ≤ 1073741824 := by omega
          have HGO := hid hgo; have HLK := hid hLk; have HCL := hid hcl; have HMK := hid hmk; have HEK := hid hek'; have HLT := hid hlt; have HKS := hid hks; have HC1 := hid hc
          have HKK := hid (show ((k : Int) + 1) = ((k + 1 : Nat) : Int) by omega)
          have HWT := hid (show (stP (s.take k)).wait.length + c.length ≤ 1099511627776 by have h3 := stP_wait (s.take k); rw [List.length_take] at h3; have := HS.out; omega)
          clear hlt hks hnx hc hcl hgo hLk hek' hmk hmm hmc
          go_wp2_with (first
            | ((with_reducible show wpList _ _ _ (⟨_, .slice 9 _ _ _ _, _, _, _, _⟩ :: _) _ _); refine wpL_valZ (by rfl) (.string (sb c)) (exec_two _ _ _ rfl s k (k + 1) rfl rfl (by first | rfl | exact congrArg (Value.int .i64) HKK.out) (by omega) HKS.out c (by rw [show k + 1 - k = 1 by omega]; exact HC1.out) _) ?_)
            | fail)
          refine (feed_at bh (stP (s.take k)) c wr Lk ek' (stP (s.take (k + 1))) HI.out.2.2.2.1 HWT.out HLK.out HGO.out.2.2 HGO.out.2.1).mono ?_
          rintro e w8 ⟨a8, c8, rfl, ht8, hb8, f8⟩
          rw [HMK.out] at ht8 ⊢
          have HT8 := hid ht8; have HB8 := hid hb8; have F8 := hid f8
          have HO8 := hid (own_fr2 HI.out.1 f8 fun i hi e => by have e : i = bh := e; have := HW8.out; omega)
          clear ht8 hb8 f8
          go_wp2_with (first
            | ((with_reducible show wpList _ _ _ (⟨_, .call { callee := .builtin .append, args := _, argTypes := _ }, _, _, _, _⟩ :: _) _ _); refine wpL_append rfl _ _ 22 rfl w7.heap.size 9 is _ 1 16 Try.underlying22 HIS.out HZS.out HSS.out HBS.out rfl (by decide) (.slice va m vc) m (strs (cut (s.take k)).1) rfl HO8.out a8 mk c8 (strs Lk) rfl (by rw [strs_length, HMK.out, Nat.mul_one]) (tx_src HT8.out) (strs_one _) (by unfold maxLen; omega) (by omega) (by have := HW8.out; have := F8.out.size; omega) ?_; intro a9 c9 w9 HO9 HG9 HA9)
            | fail)
          go_roundw
          case rel =>
            have f89 : Fr (fun i => w7.heap.size ≤ i) w8 w9 := (frown HG9.out).mono fun i e => (own_ge HO8.out i e).1
            refine ⟨k + 1, m + mk, ek', a9, c9, rfl, rfl, by go_num, by have := HLT.out; omega, by have := HLT.out; omega, hid ⟨?_, ?_, HEK.out, ?_, ?_⟩⟩
            · have ho := HO9.out
              rw [← HGO.out.1]
              simpa [strs] using ho
            · rw [← HGO.out.1, List.length_append, HI.out.2.1, HMK.out]
            · exact HB8.out.fr f89 (by have := HW8.out; omega)
            · refine (HI.out.2.2.2.2.trans' F8.out).trans f89 fun i e => .inr e
          case measure => have := HLT.out; simp [intOf]; omega
        · have HT9 : Hid (TxIn wr (fun i => bf + 3 ≤ i) (.slice a5 lw c5) L ∧ TxIn wr (fun i => bf + 3 ≤ i) (.slice a6 lw1 c6) L1 ∧ TxIn wr (fun i => bf + 3 ≤ i) (.slice a7 lw2 c7) L2 ∧ TxIn wr (fun i => w7.heap.size ≤ i) (.slice va m vc) (cut (s.take k)).1) :=
            hid ⟨HT7.out.1.fr HI.out.2.2.2.2 fun i hi _ e => by have e : i = bh := e; have := HN4.out; omega, HT7.out.2.1.fr HI.out.2.2.2.2 fun i hi _ e => by have e : i = bh := e; have := HN4.out; omega, HT7.out.2.2.fr HI.out.2.2.2.2 fun i hi _ e => by have e : i = bh := e; have := HN4.out; omega, own_tx HI.out.1⟩
          have HF9 : Hid (Fr No w wr) := hid (HI7.out.2.1.trans HI.out.2.2.2.2 fun i e => .inr (by have e : i = bh := e; have := HN4.out; omega))
          have hall : (n : Int) ≤ 3000 → k = n := fun h => by omega
          have HALL : Hid ((n : Int) ≤ 3000 → (cut (s.take k)).1 = L ∧ ek = er) := hid fun h => by
            have hk := hall h
            have h3 := HI.out.2.2.1
            rw [List.take_of_length_le (by rw [HNL.out]; omega)] at h3 ⊢
            exact ⟨HL.out, by rw [← h3, HER.out]⟩
          obtain ⟨Lk, hLk⟩ : ∃ Lk, (cut (s.take k)).1 = Lk := ⟨_, rfl⟩
          rw [hLk] at HT9 HALL
          have HLKM : Hid (Lk.length = m) := hid (by rw [← hLk]; exact HI.out.2.1)
          have HEQ : Hid (decide (L = Lk) = true ∨ (3000 : Int) < n) := hid (by
            by_cases h : (n : Int) ≤ 3000
            · exact .inl (decide_eq_true (HALL.out h).1.symm)
            · exact .inr (by omega))
          obtain ⟨D, hD⟩ : ∃ D, decide (L = Lk) = D := ⟨_, rfl⟩
          have HD := hid hD
          rw [hD] at HEQ
          have hst : ¬ ((k : Int) < n ∧ (k : Int) < 3000) := by omega
          clear hall hLk hD hlt hmc
          have HG2' := HG2
          by_cases h1 : (k : Int) < n
          · have h2 : ¬ (k : Int) < 3000 := fun h => hst ⟨h1, h⟩
            have h3 : (3000 : Int) < n := by omega
            clear hst
            go_wp2_with (first
              | ((with_reducible show wpList _ _ _ (⟨_, .buildSlice 22 _ _, _, _, _, _⟩ :: _) _ _); refine wpL_buildNone rfl 22 9 rfl (fun _ => by kernel_rfl) ?_; intro w8 HB8 F8 HS8)
              | ((with_reducible show wpList _ _ _ (⟨_, .call { callee := .builtin .append, args := _, argTypes := _ }, _, _, _, _⟩ :: _) _ _); refine Hid.out ?_)
              | fail)
            refine hid ?_
            refine wpL_appendNew rfl _ _ 22 rfl wr.heap.size 9 is _ 1 16 Try.underlying22 HIS.out HZS.out HSS.out HBS.out rfl (by decide) (.slice (some ⟨wr.heap.size, 0, none⟩) 0 0) rfl (HB8.out.own (Nat.le_refl _) rfl (Nat.le_refl _) (by unfold maxLen; omega) rfl rfl) a6 lw1 c6 (strs L1) rfl (by rw [strs_length, HLW1.out, Nat.mul_one]) (tx_src (HT9.out.2.1.no F8.out)) (strs_one _) (by unfold maxLen; omega) (by omega) F8.out.size ?_
            intro a9 c9 w9 HO9 HG9 HA9
            have HF99 : Hid (Fr (fun i => wr.heap.size ≤ i) wr w9) := hid (F8.out.no.trans' ((frown HG9.out).mono fun i e => by cases e; exact Nat.le_refl _))
            go_wp2_with (first
              | ((with_reducible show wpList _ _ _ (⟨_, .call { callee := .builtin .append, args := _, argTypes := _ }, _, _, _, _⟩ :: _) _ _); refine Hid.out ?_)
              | fail)
            refine hid ?_
            refine wpL_append rfl _ _ 22 rfl wr.heap.size 9 is _ 1 16 Try.underlying22 HIS.out HZS.out HSS.out HBS.out rfl (by decide) (.slice a9 lw1 c9) lw1 (strs L1) rfl HO9.out a7 lw2 c7 (strs L2) rfl (by rw [strs_length, HLW2.out, Nat.mul_one]) (tx_src (HT9.out.2.2.1.fr HF99.out fun i hi hw e => by have e : wr.heap.size ≤ i := e; omega)) (strs_one _) (by unfold maxLen; omega) (by omega) HF99.out.size ?_
            intro a10 c10 w10 HO10 HG10 HA10
            go_wp2_with fail
            have HF10 : Hid (Fr (fun i => wr.heap.size ≤ i) wr w10) := hid (HF99.out.trans' ((frown HG10.out).mono fun i e => (own_ge HO9.out i e).1))
            have HT10 : Hid (TxIn w10 (fun i => wr.heap.size ≤ i) (.slice a10 (lw1 + lw2) c10) L) := hid (by
              have ho := HO10.out
              have e : strs L1 ++ strs L2 = strs L := by rw [← HG2.out.1]; simp [strs]
              rw [e] at ho
              exact own_tx ho)
            refine (texts_any _ _ _ _ L L w10 (HT9.out.1.fr HF10.out fun i hi hw e => by have e : wr.heap.size ≤ i := e; omega) HT10.out (by rw [HLW.out]; omega) (by rw [HLW.out]; omega)).mono ?_
            rintro e w11 ⟨rfl, f11⟩
            rw [decide_eq_true rfl]
            have HF11 : Hid (Fr (fun i => wr.heap.size ≤ i) wr w11) := hid (HF10.out.trans' f11.no)
            clear f11
            go_wp2_with fail
            refine (texts_any _ _ _ _ L Lk w11 (HT9.out.1.fr HF11.out fun i hi hw e => by have e : wr.heap.size ≤ i := e; omega) (HT9.out.2.2.2.fr HF11.out fun i hi hw e => by have e : wr.heap.size ≤ i := e; omega) (by rw [HLW.out]; omega) (by rw [HLKM.out]; omega)).mono ?_
            rintro e w12 ⟨rfl, f12⟩
            rw [HD.out]
            have HF12 : Hid (Fr No w w12) := hid ((HF9.out.trans HF11.out fun i e => .inr (Nat.le_trans HF9.out.size e)).trans' f12)
            clear f12
            go_wp2_with fail
            go_ret
            exact ⟨rfl, HF12.out⟩
          · clear hst
            by_cases h3 : (3000 : Int) < n
            · have h9 : Hid True := hid trivial
              go_wp2_with (first
                | ((with_reducible show wpList _ _ _ (⟨_, .buildSlice 22 _ _, _, _, _, _⟩ :: _) _ _); refine wpL_buildNone rfl 22 9 rfl (fun _ => by kernel_rfl) ?_; intro w8 HB8 F8 HS8)
                | ((with_reducible show wpList _ _ _ (⟨_, .call { callee := .builtin .append, args := _, argTypes := _ }, _, _, _, _⟩ :: _) _ _); refine Hid.out ?_)
                | fail)
              refine hid ?_
              refine wpL_appendNew rfl _ _ 22 rfl wr.heap.size 9 is _ 1 16 Try.underlying22 HIS.out HZS.out HSS.out HBS.out rfl (by decide) (.slice (some ⟨wr.heap.size, 0, none⟩) 0 0) rfl (HB8.out.own (Nat.le_refl _) rfl (Nat.le_refl _) (by unfold maxLen; omega) rfl rfl) a6 lw1 c6 (strs L1) rfl (by rw [strs_length, HLW1.out, Nat.mul_one]) (tx_src (HT9.out.2.1.no F8.out)) (strs_one _) (by unfold maxLen; omega) (by omega) F8.out.size ?_
              intro a9 c9 w9 HO9 HG9 HA9
              have HF99 : Hid (Fr (fun i => wr.heap.size ≤ i) wr w9) := hid (F8.out.no.trans' ((frown HG9.out).mono fun i e => by cases e; exact Nat.le_refl _))
              go_wp2_with (first
                | ((with_reducible show wpList _ _ _ (⟨_, .call { callee := .builtin .append, args := _, argTypes := _ }, _, _, _, _⟩ :: _) _ _); refine Hid.out ?_)
                | fail)
              refine hid ?_
              refine wpL_append rfl _ _ 22 rfl wr.heap.size 9 is _ 1 16 Try.underlying22 HIS.out HZS.out HSS.out HBS.out rfl (by decide) (.slice a9 lw1 c9) lw1 (strs L1) rfl HO9.out a7 lw2 c7 (strs L2) rfl (by rw [strs_length, HLW2.out, Nat.mul_one]) (tx_src (HT9.out.2.2.1.fr HF99.out fun i hi hw e => by have e : wr.heap.size ≤ i := e; omega)) (strs_one _) (by unfold maxLen; omega) (by omega) HF99.out.size ?_
              intro a10 c10 w10 HO10 HG10 HA10
              go_wp2_with fail
              have HF10 : Hid (Fr (fun i => wr.heap.size ≤ i) wr w10) := hid (HF99.out.trans' ((frown HG10.out).mono fun i e => (own_ge HO9.out i e).1))
              have HT10 : Hid (TxIn w10 (fun i => wr.heap.size ≤ i) (.slice a10 (lw1 + lw2) c10) L) := hid (by
                have ho := HO10.out
                have e : strs L1 ++ strs L2 = strs L := by rw [← HG2.out.1]; simp [strs]
                rw [e] at ho
                exact own_tx ho)
              refine (texts_any _ _ _ _ L L w10 (HT9.out.1.fr HF10.out fun i hi hw e => by have e : wr.heap.size ≤ i := e; omega) HT10.out (by rw [HLW.out]; omega) (by rw [HLW.out]; omega)).mono ?_
              rintro e w11 ⟨rfl, f11⟩
              rw [decide_eq_true rfl]
              have HF11 : Hid (Fr (fun i => wr.heap.size ≤ i) wr w11) := hid (HF10.out.trans' f11.no)
              clear f11
              go_wp2_with fail
              refine (texts_any _ _ _ _ L Lk w11 (HT9.out.1.fr HF11.out fun i hi hw e => by have e : wr.heap.size ≤ i := e; omega) (HT9.out.2.2.2.fr HF11.out fun i hi hw e => by have e : wr.heap.size ≤ i := e; omega) (by rw [HLW.out]; omega) (by rw [HLKM.out]; omega)).mono ?_
              rintro e w12 ⟨rfl, f12⟩
              rw [HD.out]
              have HF12 : Hid (Fr No w w12) := hid ((HF9.out.trans HF11.out fun i e => .inr (Nat.le_trans HF9.out.size e)).trans' f12)
              clear f12
              go_wp2_with fail
              go_ret
              exact ⟨rfl, HF12.out⟩
            · have hle : (n : Int) ≤ 3000 := by omega
              obtain ⟨hLL, rfl⟩ := HALL.out hle
              have HDT : Hid (D = true) := hid (by rcases HEQ.out with h | h; exact h; omega)
              clear hLL
              obtain rfl : D = true := HDT.out
              go_wp2_with (first
                | ((with_reducible show wpList _ _ _ (⟨_, .buildSlice 22 _ _, _, _, _, _⟩ :: _) _ _); refine wpL_buildNone rfl 22 9 rfl (fun _ => by kernel_rfl) ?_; intro w8 HB8 F8 HS8)
                | ((with_reducible show wpList _ _ _ (⟨_, .call { callee := .builtin .append, args := _, argTypes := _ }, _, _, _, _⟩ :: _) _ _); refine Hid.out ?_)
                | fail)
              refine hid ?_
              refine wpL_appendNew rfl _ _ 22 rfl wr.heap.size 9 is _ 1 16 Try.underlying22 HIS.out HZS.out HSS.out HBS.out rfl (by decide) (.slice (some ⟨wr.heap.size, 0, none⟩) 0 0) rfl (HB8.out.own (Nat.le_refl _) rfl (Nat.le_refl _) (by unfold maxLen; omega) rfl rfl) a6 lw1 c6 (strs L1) rfl (by rw [strs_length, HLW1.out, Nat.mul_one]) (tx_src (HT9.out.2.1.no F8.out)) (strs_one _) (by unfold maxLen; omega) (by omega) F8.out.size ?_
              intro a9 c9 w9 HO9 HG9 HA9
              have HF99 : Hid (Fr (fun i => wr.heap.size ≤ i) wr w9) := hid (F8.out.no.trans' ((frown HG9.out).mono fun i e => by cases e; exact Nat.le_refl _))
              go_wp2_with (first
                | ((with_reducible show wpList _ _ _ (⟨_, .call { callee := .builtin .append, args := _, argTypes := _ }, _, _, _, _⟩ :: _) _ _); refine Hid.out ?_)
                | fail)
              refine hid ?_
              refine wpL_append rfl _ _ 22 rfl wr.heap.size 9 is _ 1 16 Try.underlying22 HIS.out HZS.out HSS.out HBS.out rfl (by decide) (.slice a9 lw1 c9) lw1 (strs L1) rfl HO9.out a7 lw2 c7 (strs L2) rfl (by rw [strs_length, HLW2.out, Nat.mul_one]) (tx_src (HT9.out.2.2.1.fr HF99.out fun i hi hw e => by have e : wr.heap.size ≤ i := e; omega)) (strs_one _) (by unfold maxLen; omega) (by omega) HF99.out.size ?_
              intro a10 c10 w10 HO10 HG10 HA10
              go_wp2_with fail
              have HF10 : Hid (Fr (fun i => wr.heap.size ≤ i) wr w10) := hid (HF99.out.trans' ((frown HG10.out).mono fun i e => (own_ge HO9.out i e).1))
              have HT10 : Hid (TxIn w10 (fun i => wr.heap.size ≤ i) (.slice a10 (lw1 + lw2) c10) L) := hid (by
                have ho := HO10.out
                have e : strs L1 ++ strs L2 = strs L := by rw [← HG2.out.1]; simp [strs]
                rw [e] at ho
                exact own_tx ho)
              refine (texts_any _ _ _ _ L L w10 (HT9.out.1.fr HF10.out fun i hi hw e => by have e : wr.heap.size ≤ i := e; omega) HT10.out (by rw [HLW.out]; omega) (by rw [HLW.out]; omega)).mono ?_
              rintro e w11 ⟨rfl, f11⟩
              rw [decide_eq_true rfl]
              have HF11 : Hid (Fr (fun i => wr.heap.size ≤ i) wr w11) := hid (HF10.out.trans' f11.no)
              clear f11
              go_wp2_with fail
              refine (texts_any _ _ _ _ L Lk w11 (HT9.out.1.fr HF11.out fun i hi hw e => by have e : wr.heap.size ≤ i := e; omega) (HT9.out.2.2.2.fr HF11.out fun i hi hw e => by have e : wr.heap.size ≤ i := e; omega) (by rw [HLW.out]; omega) (by rw [HLKM.out]; omega)).mono ?_
              rintro e w12 ⟨rfl, f12⟩
              rw [HD.out]
              have HF12 : Hid (Fr No w w12) := hid ((HF9.out.trans HF11.out fun i e => .inr (Nat.le_trans HF9.out.size e)).trans' f12)
              clear f12
              go_wp2_with fail
              go_ret
              exact ⟨rfl, HF12.out⟩

    · obtain ⟨t, rfl⟩ : ∃ t : Nat, ar = t := ⟨ar.toNat, by omega⟩
      obtain ⟨P1, hP1⟩ : ∃ P1, s.take t = P1 := ⟨_, rfl⟩
      obtain ⟨P2, hP2⟩ : ∃ P2, s.drop t = P2 := ⟨_, rfl⟩
      have HP1 := hid hP1; have HP2 := hid hP2
      have HPP : Hid (P1 ++ P2 = s) := hid (by rw [← hP1, ← hP2, List.take_append_drop])
      have HTL : Hid (t ≤ s.length) := hid (by rw [HNL.out]; omega)
      have HP1L := hid (show P1.length ≤ 1073741824 by have := congrArg List.length HPP.out; rw [List.length_append] at this; have := HS.out; omega)
      have HP12 := hid (show P1.length + P2.length ≤ 1073741824 by have := congrArg List.length HPP.out; rw [List.length_append] at this; have := HS.out; omega)
      obtain ⟨L1, hL1⟩ : ∃ L1, (cut P1).1 = L1 := ⟨_, rfl⟩
      obtain ⟨L2, hL2⟩ : ∃ L2, fdF (stP P1) P2 = L2 := ⟨_, rfl⟩
      obtain ⟨er1, her1⟩ : ∃ er1, erP P1 = er1 := ⟨_, rfl⟩
      have HG1 : Hid (fdF Fs.new P1 = L1 ∧ fdS Fs.new P1 = stP P1 ∧ fdE Fs.new P1 = er1) := hid (by
        have h := fd_go [] P1
        rw [List.nil_append, stP_nil] at h
        rw [← hL1, ← her1]
        exact h)
      have HG2 : Hid (L1 ++ L2 = L ∧ fdS (stP P1) P2 = stP s ∧ fdE (stP P1) P2 = er) := hid (by
        have h := fd_go P1 P2
        rw [HPP.out, hL1, hL2, HL.out, HER.out] at h
        exact h)
      have HL2 := hid hL2
      obtain ⟨lw1, hlw1⟩ : ∃ x, L1.length = x := ⟨_, rfl⟩
      obtain ⟨lw2, hlw2⟩ : ∃ x, L2.length = x := ⟨_, rfl⟩
      have HLW1 := hid hlw1; have HLW2 := hid hlw2
      have hl12 : lw1 + lw2 = lw := by rw [← hlw1, ← hlw2, ← HLW.out, ← HG2.out.1, List.length_append]
      have HL12 := hid hl12
      have hw1i : (lw1 : Int) ≤ 1073741824 := by omega
      have hw2i : (lw2 : Int) ≤ 1073741824 := by omega
      clear hP1 hP2 hL1 hL2 her1 hlw1 hlw2 hl12
      go_wp2_with fail
      refine (feed_at bf Fs.new s w4 L er (stP s) HI4.out.1 (by have := HS.out; simp [Fs.new]; omega) (by have h := HGS.out.1; rwa [show (cut ([] : B)).1 = [] from rfl, List.nil_append] at h) HGS.out.2.2 HGS.out.2.1).mono ?_
      rintro e w5 ⟨a5, c5, rfl, ht5, hb5, f5⟩
      rw [HLW.out] at ht5 ⊢
      have HT5 : Hid (TxIn w5 (fun k => bf + 3 ≤ k) (.slice a5 lw c5) L) := hid (ht5.mono fun k hk => by have h : w4.heap.size ≤ k := hk; have := HN4.out; omega)
      have HI5 : Hid (FrAt w5 bg Fs.new ∧ FrAt w5 bh Fs.new ∧ Fr No w w5 ∧ bf + 3 ≤ w5.heap.size) := hid ⟨HI4.out.2.1.fr f5 (fun e => by have e : bg = bf := e; have := HN4.out; omega), HI4.out.2.2.1.fr f5 (fun e => by have e : bh = bf := e; have := HN4.out; omega), HI4.out.2.2.2.trans f5 (fun k e => .inr (by have e : k = bf := e; have := HN4.out; omega)), by have := f5.size; have := HN4.out; omega⟩
      clear ht5 hb5 f5
      go_wp2_with (first
        | ((with_reducible show wpList _ _ _ (⟨_, .slice 9 _ _ _ _, _, _, _, _⟩ :: _) _ _); refine wpL_valZ (by rfl) (.string (sb P1)) (exec_to _ _ rfl s t rfl rfl HTL.out P1 HP1.out _) ?_)
        | fail)
      refine (feed_at bg Fs.new P1 w5 L1 er1 (stP P1) HI5.out.1 (by have := HP1L.out; simp [Fs.new]; omega) HG1.out.1 HG1.out.2.2 HG1.out.2.1).mono ?_
      rintro e w6 ⟨a6, c6, rfl, ht6, hb6, f6⟩
      rw [HLW1.out] at ht6 ⊢
      have HT6 : Hid (TxIn w6 (fun k => bf + 3 ≤ k) (.slice a5 lw c5) L ∧ TxIn w6 (fun k => bf + 3 ≤ k) (.slice a6 lw1 c6) L1) := hid ⟨HT5.out.fr f6 fun k hk _ e => by have e : k = bg := e; have := HN4.out; omega, ht6.mono fun k hk => by have h : w5.heap.size ≤ k := hk; have := HI5.out; omega⟩
      have HI6 : Hid (FrAt w6 bg (stP P1) ∧ FrAt w6 bh Fs.new ∧ Fr No w w6 ∧ bf + 3 ≤ w6.heap.size) := hid ⟨hb6, HI5.out.2.1.fr f6 (fun e => by have e : bh = bg := e; have := HN4.out; omega), HI5.out.2.2.1.trans f6 (fun k e => .inr (by have e : k = bg := e; have := HN4.out; omega)), by have := f6.size; have := HI5.out; omega⟩
      clear ht6 hb6 f6 HT5 HI5
      go_wp2_with (first
        | ((with_reducible show wpList _ _ _ (⟨_, .slice 9 _ _ _ _, _, _, _, _⟩ :: _) _ _); refine wpL_valZ (by rfl) (.string (sb P2)) (exec_from _ _ rfl s t rfl rfl HTL.out P2 HP2.out _) ?_)
        | fail)
      refine (feed_at bg (stP P1) P2 w6 L2 er (stP s) HI6.out.1 (by have := stP_wait P1; have := HP12.out; omega) HL2.out HG2.out.2.2 HG2.out.2.1).mono ?_
      rintro e w7 ⟨a7, c7, rfl, ht7, hb7, f7⟩
      rw [HLW2.out] at ht7 ⊢
      have HT7 : Hid (TxIn w7 (fun k => bf + 3 ≤ k) (.slice a5 lw c5) L ∧ TxIn w7 (fun k => bf + 3 ≤ k) (.slice a6 lw1 c6) L1 ∧ TxIn w7 (fun k => bf + 3 ≤ k) (.slice a7 lw2 c7) L2) :=
        hid ⟨HT6.out.1.fr f7 fun k hk _ e => by have e : k = bg := e; have := HN4.out; omega, HT6.out.2.fr f7 fun k hk _ e => by have e : k = bg := e; have := HN4.out; omega, ht7.mono fun k hk => by have h : w6.heap.size ≤ k := hk; have := HI6.out; omega⟩
      have HI7 : Hid (FrAt w7 bh (stP (s.take 0)) ∧ Fr No w w7 ∧ bf + 3 ≤ w7.heap.size) := hid ⟨HI6.out.2.1.fr f7 (fun e => by have e : bh = bg := e; have := HN4.out; omega), HI6.out.2.2.1.trans f7 (fun k e => .inr (by have e : k = bg := e; have := HN4.out; omega)), by have := f7.size; have := HI6.out; omega⟩
      clear ht7 hb7 f7 HT6 HI6
      have HR0 : Hid (w7.ownsRow w7.heap.size 9 1 (.slice none 0 0) (cut (s.take 0)).1.length (strs (cut (s.take 0)).1)) := hid (World.ownsRow_nil _ _ _ _)
      go_wp2_with fail
      go_loopw [15, 16, 17] (fun bv lv kv wr => ∃ (k m ek : Nat) (va : Option Addr) (vc : Nat), bv = .slice va m vc ∧ lv = .int .i64 (ek : Int) ∧ kv = .int .i64 k ∧ k ≤ 3000 ∧ k ≤ n ∧
          Hid (wr.ownsRow w7.heap.size 9 1 (.slice va m vc) m (strs (cut (s.take k)).1) ∧ (cut (s.take k)).1.length = m ∧ erP (s.take k) = ek ∧ FrAt wr bh (stP (s.take k)) ∧ Fr (fun i => i = bh) w7 wr)) (fun _ _ kv _ => 3000 - (intOf kv).toNat)
      case atStart => exact ⟨0, 0, 0, none, 0, rfl, rfl, rfl, Nat.zero_le _, Nat.zero_le _, hid ⟨HR0.out, rfl, rfl, HI7.out.1, Fr.refl _ _⟩⟩
      case round =>
        obtain ⟨k, m, ek, va, vc, rfl, rfl, rfl, hk3, hkn, HI⟩ := hrel
        have HW8 : Hid (w7.heap.size ≤ wr.heap.size ∧ bh < w7.heap.size) := hid ⟨HI.out.2.2.2.2.size, HI7.out.1.lt⟩
        have hmc := (cut_count (s.take k)).1
        rw [HI.out.2.1, List.length_take, HNL.out] at hmc
        have hmi : (m : Int) ≤ 1073741824 := by omega
        by_cases hlt : k < n ∧ k < 3000
        · have h1 : (k : Int) < n := by omega
          have h2 : (k : Int) < 3000 := by omega
          have hks : k < s.length := by rw [HNL.out]; exact hlt.1
          have hnx := take_next hks
          obtain ⟨c, hc⟩ : ∃ c, (s.drop k).take 1 = c := ⟨_, rfl⟩
          have hcl : c.length = 1 := by rw [← hc, List.length_take, List.length_drop]; omega
          have hgo := fd_go (s.take k) c
          rw [hc] at hnx
          rw [hnx] at hgo
          obtain ⟨Lk, hLk⟩ : ∃ Lk, fdF (stP (s.take k)) c = Lk := ⟨_, rfl⟩
          rw [hLk] at hgo
          obtain ⟨ek', hek'⟩ : ∃ x, erP (s.take (k + 1)) = x := ⟨_, rfl⟩
          rw [hek'] at hgo
          obtain ⟨mk, hmk⟩ : ∃ mk, Lk.length = mk := ⟨_, rfl⟩
          have hmm := (cut_count (s.take (k + 1))).1
          rw [← hgo.1, List.length_append, HI.out.2.1, hmk, List.length_take, HNL.out] at hmm
          have hmmi : (m : Int) + (mk : Int) ≤ 1073741824 := by omega
          have HGO := hid hgo; have HLK := hid hLk; have HCL := hid hcl; have HMK := hid hmk; have HEK := hid hek'; have HLT := hid hlt; have HKS := hid hks; have HC1 := hid hc
          have HKK := hid (show ((k : Int) + 1) = ((k + 1 : Nat) : Int) by omega)
          have HWT := hid (show (stP (s.take k)).wait.length + c.length ≤ 1099511627776 by have h3 := stP_wait (s.take k); rw [List.length_take] at h3; have := HS.out; omega)
          clear hlt hks hnx hc hcl hgo hLk hek' hmk hmm hmc
          go_wp2_with (first
            | ((with_reducible show wpList _ _ _ (⟨_, .slice 9 _ _ _ _, _, _, _, _⟩ :: _) _ _); refine wpL_valZ (by rfl) (.string (sb c)) (exec_two _ _ _ rfl s k (k + 1) rfl rfl (by first | rfl | exact congrArg (Value.int .i64) HKK.out) (by omega) HKS.out c (by rw [show k + 1 - k = 1 by omega]; exact HC1.out) _) ?_)
            | fail)
          refine (feed_at bh (stP (s.take k)) c wr Lk ek' (stP (s.take (k + 1))) HI.out.2.2.2.1 HWT.out HLK.out HGO.out.2.2 HGO.out.2.1).mono ?_
          rintro e w8 ⟨a8, c8, rfl, ht8, hb8, f8⟩
          rw [HMK.out] at ht8 ⊢
          have HT8 := hid ht8; have HB8 := hid hb8; have F8 := hid f8
          have HO8 := hid (own_fr2 HI.out.1 f8 fun i hi e => by have e : i = bh := e; have := HW8.out; omega)
          clear ht8 hb8 f8
          go_wp2_with (first
            | ((with_reducible show wpList _ _ _ (⟨_, .call { callee := .builtin .append, args := _, argTypes := _ }, _, _, _, _⟩ :: _) _ _); refine wpL_append rfl _ _ 22 rfl w7.heap.size 9 is _ 1 16 Try.underlying22 HIS.out HZS.out HSS.out HBS.out rfl (by decide) (.slice va m vc) m (strs (cut (s.take k)).1) rfl HO8.out a8 mk c8 (strs Lk) rfl (by rw [strs_length, HMK.out, Nat.mul_one]) (tx_src HT8.out) (strs_one _) (by unfold maxLen; omega) (by omega) (by have := HW8.out; have := F8.out.size; omega) ?_; intro a9 c9 w9 HO9 HG9 HA9)
            | fail)
          go_roundw
          case rel =>
            have f89 : Fr (fun i => w7.heap.size ≤ i) w8 w9 := (frown HG9.out).mono fun i e => (own_ge HO8.out i e).1
            refine ⟨k + 1, m + mk, ek', a9, c9, rfl, rfl, by go_num, by have := HLT.out; omega, by have := HLT.out; omega, hid ⟨?_, ?_, HEK.out, ?_, ?_⟩⟩
            · have ho := HO9.out
              rw [← HGO.out.1]
              simpa [strs] using ho
            · rw [← HGO.out.1, List.length_append, HI.out.2.1, HMK.out]
            · exact HB8.out.fr f89 (by have := HW8.out; omega)
            · refine (HI.out.2.2.2.2.trans' F8.out).trans f89 fun i e => .inr e
          case measure => have := HLT.out; simp [intOf]; omega
        · have HT9 : Hid (TxIn wr (fun i => bf + 3 ≤ i) (.slice a5 lw c5) L ∧ TxIn wr (fun i => bf + 3 ≤ i) (.slice a6 lw1 c6) L1 ∧ TxIn wr (fun i => bf + 3 ≤ i) (.slice a7 lw2 c7) L2 ∧ TxIn wr (fun i => w7.heap.size ≤ i) (.slice va m vc) (cut (s.take k)).1) :=
            hid ⟨HT7.out.1.fr HI.out.2.2.2.2 fun i hi _ e => by have e : i = bh := e; have := HN4.out; omega, HT7.out.2.1.fr HI.out.2.2.2.2 fun i hi _ e => by have e : i = bh := e; have := HN4.out; omega, HT7.out.2.2.fr HI.out.2.2.2.2 fun i hi _ e => by have e : i = bh := e; have := HN4.out; omega, own_tx HI.out.1⟩
          have HF9 : Hid (Fr No w wr) := hid (HI7.out.2.1.trans HI.out.2.2.2.2 fun i e => .inr (by have e : i = bh := e; have := HN4.out; omega))
          have hall : (n : Int) ≤ 3000 → k = n := fun h => by omega
          have HALL : Hid ((n : Int) ≤ 3000 → (cut (s.take k)).1 = L ∧ ek = er) := hid fun h => by
            have hk := hall h
            have h3 := HI.out.2.2.1
            rw [List.take_of_length_le (by rw [HNL.out]; omega)] at h3 ⊢
            exact ⟨HL.out, by rw [← h3, HER.out]⟩
          obtain ⟨Lk, hLk⟩ : ∃ Lk, (cut (s.take k)).1 = Lk := ⟨_, rfl⟩
          rw [hLk] at HT9 HALL
          have HLKM : Hid (Lk.length = m) := hid (by rw [← hLk]; exact HI.out.2.1)
          have HEQ : Hid (decide (L = Lk) = true ∨ (3000 : Int) < n) := hid (by
            by_cases h : (n : Int) ≤ 3000
            · exact .inl (decide_eq_true (HALL.out h).1.symm)
            · exact .inr (by omega))
          obtain ⟨D, hD⟩ : ∃ D, decide (L = Lk) = D := ⟨_, rfl⟩
          have HD := hid hD
          rw [hD] at HEQ
          have hst : ¬ ((k : Int) < n ∧ (k : Int) < 3000) := by omega
          clear hall hLk hD hlt hmc
          have HG2' := HG2
          by_cases h1 : (k : Int) < n
          · have h2 : ¬ (k : Int) < 3000 := fun h => hst ⟨h1, h⟩
            have h3 : (3000 : Int) < n := by omega
            clear hst
            go_wp2_with (first
              | ((with_reducible show wpList _ _ _ (⟨_, .buildSlice 22 _ _, _, _, _, _⟩ :: _) _ _); refine wpL_buildNone rfl 22 9 rfl (fun _ => by kernel_rfl) ?_; intro w8 HB8 F8 HS8)
              | ((with_reducible show wpList _ _ _ (⟨_, .call { callee := .builtin .append, args := _, argTypes := _ }, _, _, _, _⟩ :: _) _ _); refine Hid.out ?_)
              | fail)
            refine hid ?_
            refine wpL_appendNew rfl _ _ 22 rfl wr.heap.size 9 is _ 1 16 Try.underlying22 HIS.out HZS.out HSS.out HBS.out rfl (by decide) (.slice (some ⟨wr.heap.size, 0, none⟩) 0 0) rfl (HB8.out.own (Nat.le_refl _) rfl (Nat.le_refl _) (by unfold maxLen; omega) rfl rfl) a6 lw1 c6 (strs L1) rfl (by rw [strs_length, HLW1.out, Nat.mul_one]) (tx_src (HT9.out.2.1.no F8.out)) (strs_one _) (by unfold maxLen; omega) (by omega) F8.out.size ?_
            intro a9 c9 w9 HO9 HG9 HA9
            have HF99 : Hid (Fr (fun i => wr.heap.size ≤ i) wr w9) := hid (F8.out.no.trans' ((frown HG9.out).mono fun i e => by cases e; exact Nat.le_refl _))
            go_wp2_with (first
              | ((with_reducible show wpList _ _ _ (⟨_, .call { callee := .builtin .append, args := _, argTypes := _ }, _, _, _, _⟩ :: _) _ _); refine Hid.out ?_)
              | fail)
            refine hid ?_
            refine wpL_append rfl _ _ 22 rfl wr.heap.size 9 is _ 1 16 Try.underlying22 HIS.out HZS.out HSS.out HBS.out rfl (by decide) (.slice a9 lw1 c9) lw1 (strs L1) rfl HO9.out a7 lw2 c7 (strs L2) rfl (by rw [strs_length, HLW2.out, Nat.mul_one]) (tx_src (HT9.out.2.2.1.fr HF99.out fun i hi hw e => by have e : wr.heap.size ≤ i := e; omega)) (strs_one _) (by unfold maxLen; omega) (by omega) HF99.out.size ?_
            intro a10 c10 w10 HO10 HG10 HA10
            go_wp2_with fail
            have HF10 : Hid (Fr (fun i => wr.heap.size ≤ i) wr w10) := hid (HF99.out.trans' ((frown HG10.out).mono fun i e => (own_ge HO9.out i e).1))
            have HT10 : Hid (TxIn w10 (fun i => wr.heap.size ≤ i) (.slice a10 (lw1 + lw2) c10) L) := hid (by
              have ho := HO10.out
              have e : strs L1 ++ strs L2 = strs L := by rw [← HG2.out.1]; simp [strs]
              rw [e] at ho
              exact own_tx ho)
            refine (texts_any _ _ _ _ L L w10 (HT9.out.1.fr HF10.out fun i hi hw e => by have e : wr.heap.size ≤ i := e; omega) HT10.out (by rw [HLW.out]; omega) (by rw [HLW.out]; omega)).mono ?_
            rintro e w11 ⟨rfl, f11⟩
            rw [decide_eq_true rfl]
            have HF11 : Hid (Fr (fun i => wr.heap.size ≤ i) wr w11) := hid (HF10.out.trans' f11.no)
            clear f11
            go_wp2_with fail
            refine (texts_any _ _ _ _ L Lk w11 (HT9.out.1.fr HF11.out fun i hi hw e => by have e : wr.heap.size ≤ i := e; omega) (HT9.out.2.2.2.fr HF11.out fun i hi hw e => by have e : wr.heap.size ≤ i := e; omega) (by rw [HLW.out]; omega) (by rw [HLKM.out]; omega)).mono ?_
            rintro e w12 ⟨rfl, f12⟩
            rw [HD.out]
            have HF12 : Hid (Fr No w w12) := hid ((HF9.out.trans HF11.out fun i e => .inr (Nat.le_trans HF9.out.size e)).trans' f12)
            clear f12
            go_wp2_with fail
            go_ret
            exact ⟨rfl, HF12.out⟩
          · clear hst
            by_cases h3 : (3000 : Int) < n
            · have h9 : Hid True := hid trivial
              go_wp2_with (first
                | ((with_reducible show wpList _ _ _ (⟨_, .buildSlice 22 _ _, _, _, _, _⟩ :: _) _ _); refine wpL_buildNone rfl 22 9 rfl (fun _ => by kernel_rfl) ?_; intro w8 HB8 F8 HS8)
                | ((with_reducible show wpList _ _ _ (⟨_, .call { callee := .builtin .append, args := _, argTypes := _ }, _, _, _, _⟩ :: _) _ _); refine Hid.out ?_)
                | fail)
              refine hid ?_
              refine wpL_appendNew rfl _ _ 22 rfl wr.heap.size 9 is _ 1 16 Try.underlying22 HIS.out HZS.out HSS.out HBS.out rfl (by decide) (.slice (some ⟨wr.heap.size, 0, none⟩) 0 0) rfl (HB8.out.own (Nat.le_refl _) rfl (Nat.le_refl _) (by unfold maxLen; omega) rfl rfl) a6 lw1 c6 (strs L1) rfl (by rw [strs_length, HLW1.out, Nat.mul_one]) (tx_src (HT9.out.2.1.no F8.out)) (strs_one _) (by unfold maxLen; omega) (by omega) F8.out.size ?_
              intro a9 c9 w9 HO9 HG9 HA9
              have HF99 : Hid (Fr (fun i => wr.heap.size ≤ i) wr w9) := hid (F8.out.no.trans' ((frown HG9.out).mono fun i e => by cases e; exact Nat.le_refl _))
              go_wp2_with (first
                | ((with_reducible show wpList _ _ _ (⟨_, .call { callee := .builtin .append, args := _, argTypes := _ }, _, _, _, _⟩ :: _) _ _); refine Hid.out ?_)
                | fail)
              refine hid ?_
              refine wpL_append rfl _ _ 22 rfl wr.heap.size 9 is _ 1 16 Try.underlying22 HIS.out HZS.out HSS.out HBS.out rfl (by decide) (.slice a9 lw1 c9) lw1 (strs L1) rfl HO9.out a7 lw2 c7 (strs L2) rfl (by rw [strs_length, HLW2.out, Nat.mul_one]) (tx_src (HT9.out.2.2.1.fr HF99.out fun i hi hw e => by have e : wr.heap.size ≤ i := e; omega)) (strs_one _) (by unfold maxLen; omega) (by omega) HF99.out.size ?_
              intro a10 c10 w10 HO10 HG10 HA10
              go_wp2_with fail
              have HF10 : Hid (Fr (fun i => wr.heap.size ≤ i) wr w10) := hid (HF99.out.trans' ((frown HG10.out).mono fun i e => (own_ge HO9.out i e).1))
              have HT10 : Hid (TxIn w10 (fun i => wr.heap.size ≤ i) (.slice a10 (lw1 + lw2) c10) L) := hid (by
                have ho := HO10.out
                have e : strs L1 ++ strs L2 = strs L := by rw [← HG2.out.1]; simp [strs]
                rw [e] at ho
                exact own_tx ho)
              refine (texts_any _ _ _ _ L L w10 (HT9.out.1.fr HF10.out fun i hi hw e => by have e : wr.heap.size ≤ i := e; omega) HT10.out (by rw [HLW.out]; omega) (by rw [HLW.out]; omega)).mono ?_
              rintro e w11 ⟨rfl, f11⟩
              rw [decide_eq_true rfl]
              have HF11 : Hid (Fr (fun i => wr.heap.size ≤ i) wr w11) := hid (HF10.out.trans' f11.no)
              clear f11
              go_wp2_with fail
              refine (texts_any _ _ _ _ L Lk w11 (HT9.out.1.fr HF11.out fun i hi hw e => by have e : wr.heap.size ≤ i := e; omega) (HT9.out.2.2.2.fr HF11.out fun i hi hw e => by have e : wr.heap.size ≤ i := e; omega) (by rw [HLW.out]; omega) (by rw [HLKM.out]; omega)).mono ?_
              rintro e w12 ⟨rfl, f12⟩
              rw [HD.out]
              have HF12 : Hid (Fr No w w12) := hid ((HF9.out.trans HF11.out fun i e => .inr (Nat.le_trans HF9.out.size e)).trans' f12)
              clear f12
              go_wp2_with fail
              go_ret
              exact ⟨rfl, HF12.out⟩
            · have hle : (n : Int) ≤ 3000 := by omega
              obtain ⟨hLL, rfl⟩ := HALL.out hle
              have HDT : Hid (D = true) := hid (by rcases HEQ.out with h | h; exact h; omega)
              clear hLL
              obtain rfl : D = true := HDT.out
              go_wp2_with (first
                | ((with_reducible show wpList _ _ _ (⟨_, .buildSlice 22 _ _, _, _, _, _⟩ :: _) _ _); refine wpL_buildNone rfl 22 9 rfl (fun _ => by kernel_rfl) ?_; intro w8 HB8 F8 HS8)
                | ((with_reducible show wpList _ _ _ (⟨_, .call { callee := .builtin .append, args := _, argTypes := _ }, _, _, _, _⟩ :: _) _ _); refine Hid.out ?_)
                | fail)
              refine hid ?_
              refine wpL_appendNew rfl _ _ 22 rfl wr.heap.size 9 is _ 1 16 Try.underlying22 HIS.out HZS.out HSS.out HBS.out rfl (by decide) (.slice (some ⟨wr.heap.size, 0, none⟩) 0 0) rfl (HB8.out.own (Nat.le_refl _) rfl (Nat.le_refl _) (by unfold maxLen; omega) rfl rfl) a6 lw1 c6 (strs L1) rfl (by rw [strs_length, HLW1.out, Nat.mul_one]) (tx_src (HT9.out.2.1.no F8.out)) (strs_one _) (by unfold maxLen; omega) (by omega) F8.out.size ?_
              intro a9 c9 w9 HO9 HG9 HA9
              have HF99 : Hid (Fr (fun i => wr.heap.size ≤ i) wr w9) := hid (F8.out.no.trans' ((frown HG9.out).mono fun i e => by cases e; exact Nat.le_refl _))
              go_wp2_with (first
                | ((with_reducible show wpList _ _ _ (⟨_, .call { callee := .builtin .append, args := _, argTypes := _ }, _, _, _, _⟩ :: _) _ _); refine Hid.out ?_)
                | fail)
              refine hid ?_
              refine wpL_append rfl _ _ 22 rfl wr.heap.size 9 is _ 1 16 Try.underlying22 HIS.out HZS.out HSS.out HBS.out rfl (by decide) (.slice a9 lw1 c9) lw1 (strs L1) rfl HO9.out a7 lw2 c7 (strs L2) rfl (by rw [strs_length, HLW2.out, Nat.mul_one]) (tx_src (HT9.out.2.2.1.fr HF99.out fun i hi hw e => by have e : wr.heap.size ≤ i := e; omega)) (strs_one _) (by unfold maxLen; omega) (by omega) HF99.out.size ?_
              intro a10 c10 w10 HO10 HG10 HA10
              go_wp2_with fail
              have HF10 : Hid (Fr (fun i => wr.heap.size ≤ i) wr w10) := hid (HF99.out.trans' ((frown HG10.out).mono fun i e => (own_ge HO9.out i e).1))
              have HT10 : Hid (TxIn w10 (fun i => wr.heap.size ≤ i) (.slice a10 (lw1 + lw2) c10) L) := hid (by
                have ho := HO10.out
                have e : strs L1 ++ strs L2 = strs L := by rw [← HG2.out.1]; simp [strs]
                rw [e] at ho
                exact own_tx ho)
              refine (texts_any _ _ _ _ L L w10 (HT9.out.1.fr HF10.out fun i hi hw e => by have e : wr.heap.size ≤ i := e; omega) HT10.out (by rw [HLW.out]; omega) (by rw [HLW.out]; omega)).mono ?_
              rintro e w11 ⟨rfl, f11⟩
              rw [decide_eq_true rfl]
              have HF11 : Hid (Fr (fun i => wr.heap.size ≤ i) wr w11) := hid (HF10.out.trans' f11.no)
              clear f11
              go_wp2_with fail
              refine (texts_any _ _ _ _ L Lk w11 (HT9.out.1.fr HF11.out fun i hi hw e => by have e : wr.heap.size ≤ i := e; omega) (HT9.out.2.2.2.fr HF11.out fun i hi hw e => by have e : wr.heap.size ≤ i := e; omega) (by rw [HLW.out]; omega) (by rw [HLKM.out]; omega)).mono ?_
              rintro e w12 ⟨rfl, f12⟩
              rw [HD.out]
              have HF12 : Hid (Fr No w w12) := hid ((HF9.out.trans HF11.out fun i e => .inr (Nat.le_trans HF9.out.size e)).trans' f12)
              clear f12
              go_wp2_with fail
              go_ret
              exact ⟨rfl, HF12.out⟩

end Go.Proofs.Ytoikiokcpakokaa.FR
