/-
  Part 7 of the proof: DnT, DnS, DnRd.
-/
import Derived.Test.YtnjemnmhkhkpeaaDoorDo05
import Derived.Test.YtnjemnmhkhkpeaaDoorDo06
import Derived.Lib.OthersKept
import Derived.Test.YtnjemnmhkhkpeaaDoorDo04
set_option linter.unusedSimpArgs false
set_option linter.unusedVariables false
namespace Go.Proofs.YtnjemnmhkhkpeaaDoor.DN
set_option maxRecDepth 100000
open Go.RowKit K Go.Proofs.YtnjemnmhkhkpeaaDoor.BE
def letN (n : Nat) : Bool := decide (97 ≤ n ∧ n ≤ 122) || decide (65 ≤ n ∧ n ≤ 90)
def digN (n : Nat) : Bool := decide (48 ≤ n ∧ n ≤ 57)
theorem isLetter_any (n : Nat) (w : World) : Calls Tryd.prog 57 #[.int .i32 (n : Int)] w fun e w' => e = .returned (.bool (letN n)) ∧ w' = w := by
  have h : (n < 65 ∧ letN n = false) ∨ ((65 ≤ n ∧ n ≤ 90) ∧ letN n = true) ∨ ((90 < n ∧ n < 97) ∧ letN n = false) ∨ ((97 ≤ n ∧ n ≤ 122) ∧ letN n = true) ∨ (122 < n ∧ letN n = false) := by
    unfold letN
    simp only [Bool.or_eq_true, Bool.or_eq_false_iff, decide_eq_true_eq, decide_eq_false_iff_not]
    omega
  rcases h with ⟨h1, h2⟩ | ⟨⟨h1, h3⟩, h2⟩ | ⟨⟨h1, h3⟩, h2⟩ | ⟨⟨h1, h3⟩, h2⟩ | ⟨h1, h2⟩
  · rw [h2]; clear h2
    have a1 : ¬ (97 : Int) ≤ n := by omega
    have a2 : ¬ (65 : Int) ≤ n := by omega
    go_enter Tryd.func57, Tryd.ntmps57
    go_wp2
    go_ret
    exact ⟨rfl, rfl⟩
  · rw [h2]; clear h2
    have a1 : ¬ (97 : Int) ≤ n := by omega
    have a2 : (65 : Int) ≤ n := by omega
    have a3 : (n : Int) ≤ 90 := by omega
    go_enter Tryd.func57, Tryd.ntmps57
    go_wp2
    go_ret
    exact ⟨rfl, rfl⟩
  · rw [h2]; clear h2
    have a1 : ¬ (97 : Int) ≤ n := by omega
    have a2 : (65 : Int) ≤ n := by omega
    have a3 : ¬ (n : Int) ≤ 90 := by omega
    go_enter Tryd.func57, Tryd.ntmps57
    go_wp2
    go_ret
    exact ⟨rfl, rfl⟩
  · rw [h2]; clear h2
    have a1 : (97 : Int) ≤ n := by omega
    have a2 : (n : Int) ≤ 122 := by omega
    go_enter Tryd.func57, Tryd.ntmps57
    go_wp2
    go_ret
    exact ⟨rfl, rfl⟩
  · rw [h2]; clear h2
    have a1 : (97 : Int) ≤ n := by omega
    have a2 : ¬ (n : Int) ≤ 122 := by omega
    have a3 : (65 : Int) ≤ n := by omega
    have a4 : ¬ (n : Int) ≤ 90 := by omega
    go_enter Tryd.func57, Tryd.ntmps57
    go_wp2
    go_ret
    exact ⟨rfl, rfl⟩
theorem isDigit_any (n : Nat) (w : World) : Calls Tryd.prog 58 #[.int .i32 (n : Int)] w fun e w' => e = .returned (.bool (digN n)) ∧ w' = w := by
  have h : (n < 48 ∧ digN n = false) ∨ ((48 ≤ n ∧ n ≤ 57) ∧ digN n = true) ∨ (57 < n ∧ digN n = false) := by
    unfold digN
    simp only [decide_eq_true_eq, decide_eq_false_iff_not]
    omega
  rcases h with ⟨h1, h2⟩ | ⟨⟨h1, h3⟩, h2⟩ | ⟨h1, h2⟩
  · rw [h2]; clear h2
    have a1 : ¬ (48 : Int) ≤ n := by omega
    go_enter Tryd.func58, Tryd.ntmps58
    go_wp2
    go_ret
    exact ⟨rfl, rfl⟩
  · rw [h2]; clear h2
    have a1 : (48 : Int) ≤ n := by omega
    have a2 : (n : Int) ≤ 57 := by omega
    go_enter Tryd.func58, Tryd.ntmps58
    go_wp2
    go_ret
    exact ⟨rfl, rfl⟩
  · rw [h2]; clear h2
    have a1 : (48 : Int) ≤ n := by omega
    have a2 : ¬ (n : Int) ≤ 57 := by omega
    go_enter Tryd.func58, Tryd.ntmps58
    go_wp2
    go_ret
    exact ⟨rfl, rfl⟩
/-- What may stand at a place of a type, of numbers. -/
def okN (first : Bool) (n : Nat) : Bool := letN n || (!first && (digN n || n == 45))
theorem ok_nat (first : Bool) (c : UInt8) : okAt first c = okN first c.toNat := by
  have := u8_all (fun c => okAt first c == okN first c.toNat) (by cases first <;> decide +kernel) c
  simpa using this
theorem okN_high (first : Bool) (n : Nat) (h : 128 ≤ n) : okN first n = false := by
  unfold okN letN digN
  simp
  omega
/-- The places of a type are right up to here. -/
def okTo (s : B) (i : Nat) : Prop := ∀ j c, j < i → s[j]? = some c → okAt (j == 0) c = true
theorem typ_len {s : B} (h : s.length = 0 ∨ 20 < s.length) : typ s = false := by
  unfold typ
  rcases h with h | h
  · rw [decide_eq_false (show ¬ 1 ≤ s.length by omega)]; rfl
  · rw [decide_eq_false (show ¬ s.length ≤ 20 by omega)]; simp
theorem typ_all {s : B} (h1 : 1 ≤ s.length) (h2 : s.length ≤ 20) : typ s = true ↔ okTo s s.length := by
  unfold typ okTo
  rw [decide_eq_true h1, decide_eq_true h2]
  cases s with
  | nil => simp at h1
  | cons c r =>
    simp only [Bool.true_and, Bool.and_eq_true, List.all_eq_true]
    constructor
    · rintro ⟨h3, h4⟩ j d hj hd
      cases j with
      | zero =>
        obtain rfl : c = d := by simpa using hd
        exact h3
      | succ j => exact h4 d (List.mem_of_getElem? (by simpa using hd))
    · intro h
      refine ⟨h 0 c (by simp) rfl, fun d hd => ?_⟩
      obtain ⟨j, hj⟩ := List.mem_iff_getElem?.1 hd
      exact h (j + 1) d (by have := (List.getElem?_eq_some_iff.1 hj).1; simp; omega) (by simpa using hj)
theorem typ_no {s : B} {i : Nat} {c : UInt8} (hc : s[i]? = some c) (h : okAt (i == 0) c = false) : typ s = false := by
  by_cases h1 : 1 ≤ s.length ∧ s.length ≤ 20
  · cases ht : typ s with
    | false => rfl
    | true =>
      have := (typ_all h1.1 h1.2).1 ht i c (List.getElem?_eq_some_iff.1 hc).1 hc
      rw [h] at this
      cases this
  · exact typ_len (by omega)
theorem iterAt_fr {w : World} {k : Nat} {s : ByteArray} {pos : Nat} : Fr (fun j => j = k) w (w.iterAt k s pos) := ⟨rfl, rfl, rfl, by rw [Lib.iterAt_size]; exact Nat.le_refl _, fun j _ hn => Lib.iterAt_other w k j s pos hn⟩
theorem empty_sb (l : B) : (sb l).toList.isEmpty = l.isEmpty := by rw [ByteArray.toList_eq, sb_list]
theorem nil_sb (l : B) : ((sb l).toList = []) = (l = []) := by rw [ByteArray.toList_eq, sb_list]
set_option maxHeartbeats 4000000 in
theorem type_any (s : B) (w : World) : Calls Tryd.prog 47 #[.string (sb s)] w fun e w' => e = .returned (.bool (typ s)) ∧ Fr No w w' := by
  by_cases h00 : s = []
  · subst h00
    have hT : typ [] = false := rfl
    have he : (sb []).toList.isEmpty = true := empty_sb []
    have hz : (sb []).size = 0 := rfl
    rw [hT]
    obtain ⟨S, hS⟩ : ∃ S, sb [] = S := ⟨_, rfl⟩
    rw [hS] at he hz ⊢
    clear hT hS
    go_enter Tryd.func47, Tryd.ntmps47
    go_wp2
    go_ret
    exact ⟨rfl, Fr.refl _ _⟩
  · have hz := sb_size s
    have hzl := sb_list s
    have hemp : (sb s).toList.isEmpty = false := by rw [empty_sb]; cases s with
      | nil => exact absurd rfl h00
      | cons _ _ => rfl
    have hnil : ¬ (sb s).toList = [] := by rw [nil_sb]; exact h00
    have hpos := List.length_pos_iff.2 h00
    obtain ⟨n, hn⟩ : ∃ n, s.length = n := ⟨_, rfl⟩
    obtain ⟨T, hT⟩ : ∃ T, typ s = T := ⟨_, rfl⟩
    have HNN := hid hn; have HT := hid hT
    rw [hn] at hz hpos
    by_cases h0 : 20 < n
    · have hTf : T = false := by rw [← hT]; exact typ_len (by omega)
      rw [hT, hTf]
      obtain ⟨S, hS⟩ : ∃ S, sb s = S := ⟨_, rfl⟩
      rw [hS] at hz hemp hnil ⊢
      have hszi : (20 : Int) < (S.size : Int) := by omega
      clear hn hT hTf hz hzl hS h00 h0 hpos
      go_enter Tryd.func47, Tryd.ntmps47
      go_wp2
      go_ret
      exact ⟨rfl, Fr.refl _ _⟩
    · have h1 : 1 ≤ n := by omega
      have h2 : n ≤ 20 := by omega
      rw [hT]
      obtain ⟨S, hS⟩ : ∃ S, sb s = S := ⟨_, rfl⟩
      have HZL : Hid (S.data.toList = s) := hid (by rw [← hS]; exact hzl)
      rw [hS] at hz hemp hnil ⊢
      have hszi : (S.size : Int) = n := by omega
      have hszl : ¬ (20 : Int) < n := by omega
      have HZ := hid hz
      clear h0 hn hT hz hzl hS h00 hpos
      obtain ⟨g, hg⟩ : ∃ g, w.heap.size = g := ⟨_, rfl⟩
      have HG := hid hg
      go_enter Tryd.func47, Tryd.ntmps47
      go_wp2_with fail
      try rw [hg]
      obtain ⟨w1, hw1⟩ : ∃ w1, w.iter S 0 = w1 := ⟨_, rfl⟩
      have HI0 : Hid (w1.heap[g]? = some (.stringIter S 0) ∧ Fr No w w1) := hid ⟨by rw [← hw1, ← hg]; exact World.iter_heap w S 0, by rw [← hw1]; exact (Fr.refl No w).alloc _⟩
      first | rw [hw1] | skip
      go_loopw [] (fun wr => ∃ (i : Nat), i ≤ n ∧ Hid (okTo s i) ∧ Hid (wr.heap[g]? = some (.stringIter S i)) ∧ Hid (Fr No w wr)) (fun wr => n - wr.iterPos g)
      case atStart => exact ⟨0, Nat.zero_le _, hid (fun j c hj => by omega), hid HI0.out.1, hid HI0.out.2⟩
      case round =>
        obtain ⟨i, hi, HOK, HIT, HFR⟩ := hrel
        clear HI0 hw1 hg
        by_cases hlt : i < n
        · obtain ⟨c, hc⟩ : ∃ c, s[i]? = some c := ⟨_, List.getElem?_eq_getElem (by rw [HNN.out]; exact hlt)⟩
          have hltS : i < S.size := by rw [HZ.out]; exact hlt
          have hSc : S[i]'hltS = c := by
            have h := hc
            rw [← HZL.out, List.getElem?_eq_getElem (by simpa using hltS)] at h
            exact Option.some.inj h
          have hnx : ∀ ty, (Instr.next (.pointer (some ⟨g, 0, none⟩)) true ty).run Tryd.prog wr = _ := fun ty => Lib.run_next_any_at wr g S i ty HIT.out hltS
          have hit2 := Lib.iterAt_heap wr g S i (i + (Utf8.decode S i).2) HIT.out
          have hok : okAt (i == 0) c = okN (i == 0) (Utf8.decode S i).1 ∧ (okN (i == 0) (Utf8.decode S i).1 = true → (Utf8.decode S i).2 = 1) := by
            rw [ok_nat]
            by_cases ha : c.toNat < 128
            · have h := decode_ascii S i hltS (by rw [hSc]; exact ha)
              rw [hSc] at h
              rw [h]
              exact ⟨rfl, fun _ => rfl⟩
            · have h := (decode_high S i hltS (by rw [hSc]; omega)).1
              rw [okN_high _ _ h, okN_high _ _ (by omega)]
              exact ⟨rfl, fun h => by cases h⟩
          obtain ⟨R, hR⟩ : ∃ R, (Utf8.decode S i).1 = R := ⟨_, rfl⟩
          obtain ⟨M, hM⟩ : ∃ M, (Utf8.decode S i).2 = M := ⟨_, rfl⟩
          obtain ⟨W, hW⟩ : ∃ W, wr.iterAt g S (i + M) = W := ⟨_, rfl⟩
          rw [hR, hM] at hnx hok
          rw [hM] at hit2
          rw [hW] at hnx hit2
          have hfW : Fr No w W := by rw [← hW]; exact HFR.out.trans iterAt_fr (fun k e => .inr (by rw [HG.out]; have e : k = g := e; omega))
          have HFW := hid hfW
          have HIT2 := hid hit2
          have HNX : Hid (okN (i == 0) R = true → okTo s (i + 1) ∧ M = 1) := hid (fun h => by
            refine ⟨fun j d hj hd => ?_, hok.2 h⟩
            by_cases hji : j = i
            · subst hji
              rw [hc] at hd
              obtain rfl := Option.some.inj hd
              rw [hok.1, h]
            · exact HOK.out j d (by omega) hd)
          have HNO : Hid (okN (i == 0) R = false → T = false) := hid (fun h => by rw [← HT.out]; exact typ_no hc (by rw [hok.1, h]))
          have HLT := hid hlt
          have hi0 : (0 : Int) ≤ i := by omega
          have HPOS := hid (show wr.iterPos g = i by unfold World.iterPos; rw [HIT.out])
          clear hc hltS hSc hit2 hok hR hM hW hfW HIT HOK hlt hi
          cases hl : letN R with
          | true =>
            obtain ⟨k1, k2⟩ := HNX.out (by unfold okN; rw [hl]; rfl)
            subst k2
            have HL := hid (fun w => isLetter_any R w)
            rw [hl] at HL
            have HK1 := hid k1
            clear hl HNX HNO k1
            go_wp2_with fail
            refine (HL.out _).mono ?_
            rintro e w3 ⟨rfl, rfl⟩
            go_wp2_with fail
            refine ⟨⟨i + 1, HLT.out, HK1, HIT2, HFW⟩, ?_⟩
            have h5 := HIT2.out
            have h6 := HLT.out
            rw [HPOS.out]
            unfold World.iterPos
            rw [h5]
            show n - (i + 1) < n - i
            omega
          | false =>
            have HL := hid (fun w => isLetter_any R w)
            rw [hl] at HL
            by_cases hz0 : i = 0
            · subst hz0
              have hTf := HNO.out (by unfold okN; rw [hl]; rfl)
              subst hTf
              clear hl HNX HNO
              go_wp2_with fail
              refine (HL.out _).mono ?_
              rintro e w3 ⟨rfl, rfl⟩
              go_wp2_with fail
              go_ret
              exact ⟨rfl, HFW.out⟩
            · have hz1 : ¬ (i : Int) = 0 := by omega
              have HD := hid (fun w => isDigit_any R w)
              have hzb : (i == 0) = false := by simpa using hz0
              cases hd : digN R with
              | true =>
                obtain ⟨k1, k2⟩ := HNX.out (by unfold okN; rw [hl, hd, hzb]; rfl)
                subst k2
                rw [hd] at HD
                have HK1 := hid k1
                clear hl hd HNX HNO k1 hzb hz0
                go_wp2_with fail
                refine (HL.out _).mono ?_
                rintro e w3 ⟨rfl, rfl⟩
                go_wp2_with fail
                refine (HD.out _).mono ?_
                rintro e w4 ⟨rfl, rfl⟩
                go_wp2_with fail
                refine ⟨⟨i + 1, HLT.out, HK1, HIT2, HFW⟩, ?_⟩
                have h5 := HIT2.out
                have h6 := HLT.out
                rw [HPOS.out]
                unfold World.iterPos
                rw [h5]
                show n - (i + 1) < n - i
                omega
              | false =>
                rw [hd] at HD
                by_cases h45 : R = 45
                · obtain ⟨k1, k2⟩ := HNX.out (by unfold okN; rw [hl, hd, hzb, h45]; rfl)
                  subst k2
                  have HK1 := hid k1
                  subst h45
                  have HL4 : Hid (∀ w : World, Calls Tryd.prog 57 #[.int .i32 45] w fun e w' => e = .returned (.bool false) ∧ w' = w) := HL
                  have HD4 : Hid (∀ w : World, Calls Tryd.prog 58 #[.int .i32 45] w fun e w' => e = .returned (.bool false) ∧ w' = w) := HD
                  have hnx4 : ∀ ty, (Instr.next (.pointer (some ⟨g, 0, none⟩)) true ty).run Tryd.prog wr = .ok (.tuple #[.bool true, .int .i64 (i : Int), .int .i32 45]) W := hnx
                  clear hl hd HNX HNO k1 hzb hz0 HL HD hnx
                  go_wp2_with fail
                  refine (HL4.out _).mono ?_
                  rintro e w3 ⟨rfl, rfl⟩
                  go_wp2_with fail
                  refine (HD4.out _).mono ?_
                  rintro e w4 ⟨rfl, rfl⟩
                  go_wp2_with fail
                  refine ⟨⟨i + 1, HLT.out, HK1, HIT2, HFW⟩, ?_⟩
                  have h5 := HIT2.out
                  have h6 := HLT.out
                  rw [HPOS.out]
                  unfold World.iterPos
                  rw [h5]
                  show n - (i + 1) < n - i
                  omega
                · have hTf := HNO.out (by unfold okN; rw [hl, hd, hzb]; simpa using h45)
                  subst hTf
                  have hR45 : ((R : Int) != 45) = true := by rw [bne_iff_ne]; omega
                  have hzi : ((i : Int) == 0) = false := by rw [beq_eq_false_iff_ne]; exact hz1
                  clear hl hd HNX HNO hzb hz0 h45
                  go_wp2_with fail
                  refine (HL.out _).mono ?_
                  rintro e w3 ⟨rfl, rfl⟩
                  go_wp2_with fail
                  refine (HD.out _).mono ?_
                  rintro e w4 ⟨rfl, rfl⟩
                  go_wp2_with fail
                  go_ret
                  exact ⟨rfl, HFW.out⟩
        · obtain rfl : i = n := by omega
          have hTt : T = true := by
            rw [← HT.out]
            exact (typ_all (by rw [HNN.out]; exact h1) (by rw [HNN.out]; exact h2)).2 (by rw [HNN.out]; exact HOK.out)
          subst hTt
          have hnx : ∀ ty, (Instr.next (.pointer (some ⟨g, 0, none⟩)) true ty).run Tryd.prog wr = .ok (.tuple #[.bool false]) wr := fun ty => Lib.run_next_end_at wr g S i ty HIT.out (by rw [HZ.out]; omega)
          go_wp2_with fail
          go_ret
          exact ⟨rfl, HFR.out⟩
theorem low_dec (p q : B) : decide (low p = low q) = (low p == low q) := by
  rw [Bool.eq_iff_iff]
  simp
set_option maxHeartbeats 4000000 in
theorem again_any (t u t0 u0 : B) (b : Nat) (w : World) (hb : Blk w b 37 [.string (sb t0), .string (sb u0)]) (h1 : Sz t) (h2 : Sz t0) :
    Calls Tryd.prog 46 #[.agg #[.string (sb t), .string (sb u)], .pointer (some ⟨b, 0, none⟩)] w fun e w' => e = .returned (.bool (low t == low t0)) ∧ Fr No w w' := by
  rw [← low_dec]
  have HB := hid hb; have H1 := hid h1; have H2 := hid h2
  clear hb h1 h2
  go_enter Tryd.func46, Tryd.ntmps46
  go_wp2_with (first
    | ((with_reducible refine K.atO (.box 37 _) ?_); refine wpL_box rfl _ _ rfl _ rfl [.string (sb t), .string (sb u)] rfl ?_; intro w1 HB1 HF1 HS1)
    | fail)
  obtain ⟨g, hg⟩ : ∃ g, w.heap.size = g := ⟨_, rfl⟩
  rw [hg] at HB1 ⊢
  have c0 : w1.cell? ⟨g, 0, none⟩ = some (.string (sb t)) := HB1.out.cell 0
  have c1 : w1.cell? ⟨b, 0, none⟩ = some (.string (sb t0)) := (HB.out.fr HF1.out id).cell 0
  have hold : Facts.hold [(1, fun w' => w'.cell? ⟨g, 0, none⟩ = some (.string (sb t))), (4, fun w' => w'.cell? ⟨b, 0, none⟩ = some (.string (sb t0)))] w1.drew := Facts.cons_hold c0 (Facts.cons_hold c1 (Facts.nil_hold _))
  refine wpD_region hold (by kernel_rfl) 8 rfl ?_
  (refine K.pl 0 (v := ?_) rfl ?_ ?_; rotate_left; (intro _w; go_simp; try with_reducible rfl); simp only [Act.put, K.put3])
  (refine K.pl 3 (v := ?_) rfl ?_ ?_; rotate_left; (intro _w; go_simp; try with_reducible rfl); simp only [Act.put, K.put3])
  (refine K.tk 1 _ rfl K.m0 (v := ?_) ?_ ?_; rotate_left; (intro _w _hw; go_simp; try with_reducible rfl); simp only [Act.put, K.put3])
  (refine K.tk 4 _ rfl K.m1 (v := ?_) ?_ ?_; rotate_left; (intro _w _hw; go_simp; try with_reducible rfl); simp only [Act.put, K.put3])
  clear hold
  refine K.on 2 [(4, fun w' => w'.cell? ⟨b, 0, none⟩ = some (.string (sb t0)))] rfl (fun K2 hK2 => ?_)
  refine wp_call _ _ _ rfl 17 [] rfl (fun vs w => by kernel_rfl) [.string (sb t)] (by rfl) ?_
  refine (lower_str t H1.out w1.drew).mono ?_
  rintro e w2 ⟨rfl, f2⟩
  have c12 : w2.cell? ⟨b, 0, none⟩ = some (.string (sb t0)) := f2.cell (show w1.drew.cell? _ = _ from c1) id
  have HF2 := hid (HF1.out.trans' ((Fr.refl No w1).drew.trans' f2))
  refine ⟨_, rfl, hK2 _ _ (Facts.cons_hold c12 (Facts.nil_hold _)) ?_⟩
  clear hK2 K2 f2
  simp only [Act.put, K.put3]
  refine K.on 5 [] rfl (fun K5 hK5 => ?_)
  refine wp_call _ _ _ rfl 17 [] rfl (fun vs w => by kernel_rfl) [.string (sb t0)] (by rfl) ?_
  refine (lower_str t0 H2.out w2).mono ?_
  rintro e w3 ⟨rfl, f3⟩
  have HF3 := hid (HF2.out.trans' f3)
  refine ⟨_, rfl, hK5 _ _ (Facts.nil_hold _) ?_⟩
  clear hK5 K5 f3
  simp only [Act.put, K.put3]
  have hold : Facts.hold [] w3 := Facts.nil_hold _
  (refine K.pl 6 (v := (.bool (decide (low t = low t0)))) rfl ?_ ?_; (intro _w; exact exec_eqS _ _ _ rfl _ _ rfl rfl _w); simp only [Act.put, K.put3])
  (refine K.pl 7 (v := ?_) rfl ?_ ?_; rotate_left; (intro _w; go_simp; try with_reducible rfl); simp only [Act.put, K.put3])
  clear hold
  refine wpD_done (by kernel_rfl) ?_ _
  go_wp2_with fail
  go_ret
  exact ⟨rfl, HF3.out⟩
theorem Sl.take {α : Type} {k : Nat} {p : α → List Value → Prop} {S : Nat → Prop} {w : World} {a : Option Addr} {len cap : Nat} {xs : List α} (h : Sl k p S w (.slice a len cap) xs) (i : Nat) (hi : i ≤ len) : Sl k p S w (.slice a i cap) (xs.take i) := by
  obtain ⟨a, c, h1, h2, h3, h4⟩ := h
  simp only [Value.slice.injEq] at h1
  obtain ⟨rfl, rfl, rfl⟩ := h1
  have hl : (xs.take i).length = i := by rw [List.length_take]; omega
  refine ⟨_, _, by rw [hl], by rw [hl]; omega, by rw [hl]; omega, ?_⟩
  by_cases h0 : xs.take i = []
  · exact .inl h0
  · right
    have hne : xs ≠ [] := fun e => h0 (by rw [e]; simp)
    obtain ⟨g, o, L, e, hS, hg, hr, hL, hc, hp⟩ := h4.resolve_left hne
    refine ⟨g, o, L.take i, e, hS, hg, ?_, by rw [List.length_take, hL, hl]; omega, fun c hcm => hc c (List.mem_of_mem_take hcm), fun j x c hx hcj => ?_⟩
    · intro j u hj
      refine hr j u ?_
      have hs : L.flatten = (L.take i).flatten ++ (L.drop i).flatten := by rw [← List.flatten_append, List.take_append_drop]
      rw [hs, List.getElem?_append_left (List.getElem?_eq_some_iff.1 hj).1]
      exact hj
    · have hji : j < i := by have := (List.getElem?_eq_some_iff.1 hx).1; omega
      rw [List.getElem?_take, if_pos hji] at hx hcj
      exact hp j x c hx hcj
set_option maxHeartbeats 4000000 in
theorem isWrong_any (E : Nat → Prop) (v : Value) (r : Rd) (w : World) (h : RdIn E w v r) : Calls Tryd.prog 35 #[v] w fun e w' => e = .returned (.bool (!okStep r)) ∧ Fr No w w' := by
  obtain ⟨a, cp, rfl, hcp, hl0⟩ := h.form
  have HX := hid h
  obtain ⟨n, hn⟩ : ∃ n, r.length = n := ⟨_, rfl⟩
  obtain ⟨R, hR⟩ : ∃ R, (!okStep r) = R := ⟨_, rfl⟩
  rw [hR]
  rw [hn] at HX hl0 hcp ⊢
  have HNN := hid hn
  by_cases h0 : n = 0 ∨ 4 < n
  · have hRt : R = true := by
      rw [← hR]
      unfold okStep
      rcases h0 with h0 | h0
      · rw [decide_eq_false (show ¬ 1 ≤ r.length by omega)]; rfl
      · rw [decide_eq_false (show ¬ r.length ≤ 4 by omega)]; simp
    subst hRt
    rcases h0 with rfl | h0
    · clear hR hn h
      go_enter Tryd.func35, Tryd.ntmps35
      go_wp2
      go_ret
      exact ⟨rfl, Fr.refl _ _⟩
    · have h1 : (4 : Int) < n := by omega
      have h2 : ¬ (n : Int) = 0 := by omega
      clear hR hn h h0
      go_enter Tryd.func35, Tryd.ntmps35
      go_wp2
      go_ret
      exact ⟨rfl, Fr.refl _ _⟩
  · have hRt : (!typs [] r) = R := by
      rw [← hR]
      unfold okStep
      rw [decide_eq_true (show 1 ≤ r.length by omega), decide_eq_true (show r.length ≤ 4 by omega)]
      rfl
    have HRT : Hid ((!typs (r.take 0) (r.drop 0)) = R) := hid hRt
    have h1 : ¬ (4 : Int) < n := by omega
    have h2 : ¬ (n : Int) = 0 := by omega
    have h4 : (n : Int) ≤ 4 := by omega
    have hcpi : (n : Int) ≤ cp := by omega
    clear hR hRt hn h h0
    go_enter Tryd.func35, Tryd.ntmps35
    go_wp2_with fail
    go_loopw [16] (fun iv wr => ∃ (i : Nat), iv = .int .i64 i ∧ i ≤ n ∧ Hid (Fr No w wr) ∧ Hid ((!typs (r.take i) (r.drop i)) = R)) (fun iv _ => n - (intOf iv).toNat)
    case atStart => exact ⟨0, rfl, Nat.zero_le _, hid (Fr.refl _ _), HRT⟩
    case round =>
      obtain ⟨i, rfl, hi, HF, HT⟩ := hrel
      by_cases hlt : i < n
      · obtain ⟨x, hx⟩ : ∃ x, r[i]? = some x := ⟨_, List.getElem?_eq_getElem (by rw [HNN.out]; exact hlt)⟩
        have hlti : (i : Int) < n := by omega
        have hi0 : (0 : Int) ≤ i := by omega
        have hicp : (i : Int) ≤ cp := by omega
        obtain ⟨g, o, cq, c, e1, -, hgw, hrr, hc, hxa⟩ := (RdIn.no HX.out HF.out).get hx
        rw [HNN.out] at e1
        simp only [Value.slice.injEq, true_and] at e1
        obtain ⟨rfl, rfl⟩ := e1
        obtain ⟨rfl, hs1, hs2⟩ := hxa
        have HRR := hid hrr; have HS1 := hid hs1
        have hdrop : r.drop i = x :: r.drop (i + 1) := by
          have hl : i < r.length := by rw [HNN.out]; exact hlt
          rw [List.drop_eq_getElem_cons hl]
          rw [List.getElem?_eq_getElem hl] at hx
          rw [Option.some.inj hx]
        have htake : r.take (i + 1) = r.take i ++ [x] := by rw [List.take_add_one, hx]; rfl
        have HT2 : Hid ((!(typ x.1 && !dup (r.take i) x.1 && typs (r.take (i + 1)) (r.drop (i + 1)))) = R) := hid (by
          have h := HT.out
          rw [hdrop] at h
          rw [htake]
          exact h)
        have HLT := hid hlt
        have HSUB : Hid (∀ w', Fr No w w' → Sl 2 AvC E w' (.slice (some ⟨g, o, none⟩) i cp) (r.take i)) := hid (fun w' hf => Sl.take (RdIn.no HX.out hf) i (Nat.le_of_lt HLT.out))
        clear hc hgw hrr hs1 hs2 hx hdrop htake HT hi hlt
        go_wp2_with (first
          | ((with_reducible refine K.atO (.load 37 _) ?_); refine wpL_load rfl _ _ rfl g (o + i * 2) rfl [.string (sb x.1), .string (sb x.2)] _ HRR.out rfl rfl infoAv ?_)
          | ((with_reducible refine K.atO (.alloc 37) ?_); refine wpList_plain rfl fun K1 hK1 => ?_; refine wp_alloc 37 rfl (.agg #[.string ⟨#[]⟩, .string ⟨#[]⟩]) (fun _ => by kernel_rfl) [.string ⟨#[]⟩, .string ⟨#[]⟩] rfl ?_; intro w2 HB2 HF2 HS2; refine hK1 _ _ ?_; clear hK1 K1)
          | ((with_reducible refine K.atO (.store 37 _ _) ?_); refine wpL_store rfl _ _ _ rfl wr.heap.size 0 [.string (sb x.1), .string (sb x.2)] rfl rfl 37 _ HB2.out (by simp) infoAv (by simp [Value.oneCell']) ?_; intro w3 HB3 HF3 HS3;
              (have hcell3 : w3.cell? ⟨wr.heap.size, 0, none⟩ = some (.string (sb x.1)) := HB3.out.cell 0))
          | fail)
        have HFR3 : Hid (Fr No wr w3) := hid (HF2.out.trans HF3.out fun k e => .inr (by have e : k = wr.heap.size := e; omega))
        have HBK : Hid (Blk w3 wr.heap.size 37 [.string (sb x.1), .string (sb x.2)]) := hid (by simpa [spl] using HB3.out)
        refine (type_any x.1 w3).mono ?_
        rintro e w4 ⟨rfl, f4⟩
        have HFR4 := hid (HF.out.trans' (HFR3.out.trans' f4))
        have HBK4 := hid (HBK.out.fr f4 id)
        clear f4 hcell3
        cases ht : typ x.1 with
        | false =>
          have hRf : R = true := by have h := HT2.out; rw [ht] at h; exact h.symm
          subst hRf
          clear ht
          go_wp2_with fail
          go_ret
          exact ⟨rfl, HFR4.out⟩
        | true =>
          obtain ⟨b, hb⟩ : ∃ b, wr.heap.size = b := ⟨_, rfl⟩
          rw [hb] at HBK4 ⊢
          have HC := hid (containsAv (α := Av) 46 [.pointer (some ⟨b, 0, none⟩)] (fun a => low a.1 == low x.1) (fun w' a c => AvC a c ∧ Blk w' b 37 [.string (sb x.1), .string (sb x.2)]) E (.slice (some ⟨g, o, none⟩) i cp) (r.take i) w4
            (fun w w' a c h hf => ⟨h.1, h.2.fr hf id⟩) (Sl.fr (HSUB.out w4 HFR4.out) (Fr.refl No w4) (fun _ _ _ e => e) (fun a c _ h => ⟨h, HBK4.out⟩)) (fun _ _ => by kernel_rfl)
            (fun a _ c wv hp _ => by
              obtain ⟨⟨rfl, hz1, -⟩, hbk⟩ := hp
              exact again_any a.1 a.2 x.1 x.2 b wv hbk hz1 HS1.out))
          clear hb
          go_wp2_with fail
          refine HC.out.mono ?_
          rintro e w5 ⟨rfl, f5⟩
          have HFR5 := hid (HFR4.out.trans' f5)
          clear f5
          cases hd : dup (r.take i) x.1 with
          | true =>
            have hRf : R = true := by have h := HT2.out; rw [ht, hd] at h; exact h.symm
            subst hRf
            have hd2 : ((r.take i).any fun a => low a.1 == low x.1) = true := hd
            rw [hd2]
            clear ht hd hd2
            go_wp2_with fail
            go_ret
            exact ⟨rfl, HFR5.out⟩
          | false =>
            have HT3 : Hid ((!typs (r.take (i + 1)) (r.drop (i + 1))) = R) := hid (by have h := HT2.out; rw [ht, hd] at h; exact h)
            have hd2 : ((r.take i).any fun a => low a.1 == low x.1) = false := hd
            rw [hd2]
            clear ht hd hd2
            go_wp2_with fail
            refine ⟨⟨i + 1, by go_num, HLT.out, HFR5, HT3⟩, ?_⟩
            have := HLT.out
            simp [intOf]; omega
      · obtain rfl : i = n := by omega
        have hRf : R = false := by
          have h := HT.out
          rw [← HNN.out, List.drop_length] at h
          exact h.symm
        subst hRf
        go_wp2_with fail
        go_ret
        exact ⟨rfl, HF.out⟩
theorem isBuilt_any (E : Nat → Prop) (v : Value) (n : Nm) (w : World) (h : NmIn E w v n) : Calls Tryd.prog 22 #[v] w fun e w' => e = .returned (.bool (built n)) ∧ Fr No w w' := by
  have HC := hid (containsRd (α := Rd) 35 [] (fun r => !okStep r) (fun w' r v => RdIn E w' v r) E v n w (fun w w' r v h hf => h.no hf) h (fun _ _ => by kernel_rfl)
    (fun r _ v wv hp _ => isWrong_any E v r wv hp))
  have hany : (n.any fun r => !okStep r) = !n.all okStep := by
    rw [List.all_eq_not_any_not]
    simp
  rw [hany] at HC
  obtain ⟨a, cp, rfl, -, hl0⟩ := h.form
  obtain ⟨m, hm⟩ : ∃ m, n.length = m := ⟨_, rfl⟩
  unfold built
  rw [hm] at HC ⊢
  clear h hany hm
  by_cases h16 : m ≤ 16
  · rw [decide_eq_true h16]
    have h1 : (m : Int) ≤ 16 := by omega
    clear h16
    go_enter Tryd.func22, Tryd.ntmps22
    go_wp2_with fail
    refine HC.out.mono ?_
    rintro e w1 ⟨rfl, f1⟩
    have HF := hid f1
    clear f1
    cases hq : n.all okStep with
    | true =>
      have HQ := hid hq
      clear hq
      go_wp2_with fail
      go_ret
      exact ⟨by rw [HQ.out]; rfl, HF.out⟩
    | false =>
      have HQ := hid hq
      clear hq
      go_wp2_with fail
      go_ret
      exact ⟨by rw [HQ.out]; rfl, HF.out⟩
  · rw [decide_eq_false h16]
    have h1 : ¬ (m : Int) ≤ 16 := by omega
    clear h16 HC
    go_enter Tryd.func22, Tryd.ntmps22
    go_wp2
    go_ret
    exact ⟨rfl, Fr.refl _ _⟩
/-- What is told of a type with its value. -/
def ToldA (o : Option (Av × B)) (e : Ending) : Prop := match o with
  | some x => e = .returned (.tuple #[.agg #[.string (sb x.1.1), .string (sb x.1.2)], .string (sb x.2), .bool true])
  | none => ∃ p q r : B, e = .returned (.tuple #[.agg #[.string (sb p), .string (sb q)], .string (sb r), .bool false])
theorem zeroAv : ∀ w, (zeroValue 37).run Tryd.prog w = .ok (.agg #[.string ⟨#[]⟩, .string ⟨#[]⟩]) w := fun _ => by kernel_rfl
set_option maxHeartbeats 8000000 in
theorem readAva_any (s : B) (hs : s.length ≤ 400) (w : World) (hG : Gl w) : Calls Tryd.prog 33 #[.string (sb s)] w fun e w' => ToldA (readA s) e ∧ Fr No w w' := by
  have HG := hid hG
  have HC := hid (fun w => cut_any s (by unfold Sz; omega) w)
  have HS := hid hs
  obtain ⟨b, hb⟩ : ∃ b, w.heap.size = b := ⟨_, rfl⟩
  have HBB := hid hb
  clear hb
  unfold cutE at HC
  unfold readA
  cases hc : cutEq s with
  | none =>
    rw [hc] at HC
    clear hc hs hG
    go_enter Tryd.func33, Tryd.ntmps33
    go_wp2_with (first
      | ((with_reducible refine K.atO (.alloc 37) ?_); refine wpList_plain rfl fun K1 hK1 => ?_; refine wp_alloc 37 rfl (.agg #[.string ⟨#[]⟩, .string ⟨#[]⟩]) zeroAv [.string ⟨#[]⟩, .string ⟨#[]⟩] rfl ?_; intro w1 HB1 HF1 HS1; refine hK1 _ _ ?_; clear hK1 K1)
      | fail)
    rw [HBB.out] at HB1 ⊢
    refine (HC.out w1).mono ?_
    rintro e w2 ⟨rfl, f2⟩
    have HB2 := hid (HB1.out.fr f2 id)
    have HF2 := hid (HF1.out.trans' f2)
    have HGE := hid (show w.heap.size ≤ b by have := HBB.out; omega)
    clear f2
    go_wp2_with (first
      | ((with_reducible refine K.atO (.store 37 _ _) ?_); refine wpL_store rfl _ _ _ rfl b 0 [.string ⟨#[]⟩, .string ⟨#[]⟩] rfl rfl 37 _ HB2.out (by simp) infoAv (by simp [Value.oneCell']) ?_; intro w3 HB3 HF3 HS3)
      | fail)
    refine ret_cell3 rfl _ rfl HB3.out Tryd.underlying37 rfl (by simpa [spl] using infoAv) rfl ⟨⟨[], [], [], rfl⟩, ?_⟩
    exact HF2.out.trans HF3.out fun k e => .inr (by have e : k = b := e; have := HGE.out; omega)
  | some x =>
    obtain ⟨x1, x2⟩ := x
    rw [hc] at HC
    have hcl := cutEq_len hc
    have HV := hid (fun w hG => readValue_any x2 (by omega) w hG)
    simp only [Option.bind_some]
    obtain ⟨RV, hRV⟩ : ∃ RV, rv x2 = RV := ⟨_, rfl⟩
    rw [hRV] at HV ⊢
    have HRV := hid hRV
    clear hc hs hG hcl hRV
    go_enter Tryd.func33, Tryd.ntmps33
    go_wp2_with (first
      | ((with_reducible refine K.atO (.alloc 37) ?_); refine wpList_plain rfl fun K1 hK1 => ?_; refine wp_alloc 37 rfl (.agg #[.string ⟨#[]⟩, .string ⟨#[]⟩]) zeroAv [.string ⟨#[]⟩, .string ⟨#[]⟩] rfl ?_; intro w1 HB1 HF1 HS1; refine hK1 _ _ ?_; clear hK1 K1)
      | fail)
    rw [HBB.out] at HB1 ⊢
    refine (HC.out w1).mono ?_
    rintro e w2 ⟨rfl, f2⟩
    have HB2 := hid (HB1.out.fr f2 id)
    have HF2 := hid (HF1.out.trans' f2)
    have HGE := hid (show w.heap.size ≤ b by have := HBB.out; omega)
    clear f2
    go_wp2_with fail
    refine (HV.out w2 (HG.out.no HF2.out)).mono ?_
    rintro e w3 ⟨h3, f3⟩
    have HB3 := hid (HB2.out.fr f3 id)
    have HF3 := hid (HF2.out.trans' f3)
    clear f3
    unfold ToldV at h3
    cases RV with
    | none =>
      obtain ⟨p, q, -, -, rfl⟩ := h3
      go_wp2_with (first
        | ((with_reducible refine K.atO (.store 37 _ _) ?_); refine wpL_store rfl _ _ _ rfl b 0 [.string (sb x1), .string (sb p)] rfl rfl 37 _ HB3.out (by simp) infoAv (by simp [Value.oneCell']) ?_; intro w4 HB4 HF4 HS4)
        | fail)
      refine ret_cell3 rfl _ rfl HB4.out Tryd.underlying37 rfl (by simpa [spl] using infoAv) rfl ⟨⟨x1, p, q, rfl⟩, ?_⟩
      exact HF3.out.trans HF4.out fun k e => .inr (by have e : k = b := e; have := HGE.out; omega)
    | some y =>
      obtain ⟨y1, y2⟩ := y
      subst h3
      go_wp2_with (first
        | ((with_reducible refine K.atO (.store 37 _ _) ?_); refine wpL_store rfl _ _ _ rfl b 0 [.string (sb x1), .string (sb y1)] rfl rfl 37 _ HB3.out (by simp) infoAv (by simp [Value.oneCell']) ?_; intro w4 HB4 HF4 HS4)
        | fail)
      refine ret_cell3 rfl _ rfl HB4.out Tryd.underlying37 rfl (by simpa [spl] using infoAv) rfl ⟨rfl, ?_⟩
      exact HF3.out.trans HF4.out fun k e => .inr (by have e : k = b := e; have := HGE.out; omega)
theorem readF_len (n : Nm) (st : Rd) (s : B) : readF (s.length + 1) n st s = match readA s with
    | none => none
    | some x => match x.2 with
      | [] => some (n ++ [st ++ [x.1]])
      | c :: r => if c = 44 then readF (r.length + 1) (n ++ [st ++ [x.1]]) [] r else readF (r.length + 1) n (st ++ [x.1]) r := by
  rw [readF_succ]
  cases hA : readA s with
  | none => rfl
  | some x =>
    obtain ⟨a, r⟩ := x
    simp only [Option.bind_some]
    cases r with
    | nil => rfl
    | cons c r =>
      obtain ⟨h1, -⟩ := readA_len hA
      simp only [List.length_cons] at h1
      obtain ⟨f, hf⟩ : ∃ f, s.length = f + 1 := ⟨s.length - 1, by omega⟩
      simp only
      rw [hf, readF_more f r.length _ _ r (by omega) (Nat.le_refl _), readF_more f r.length _ _ r (by omega) (Nat.le_refl _)]
theorem avs_snoc (r : Rd) (x : Av) : avs (r ++ [x]) = avs r ++ [.string (sb x.1), .string (sb x.2)] := by simp [avs]
theorem avs_flat (r : Rd) : avs r = (r.map fun x => [Value.string (sb x.1), .string (sb x.2)]).flatten := by simp [avs, List.flatMap]
def SzR (r : Rd) : Prop := ∀ x ∈ r, Sz x.1 ∧ Sz x.2
/-- A row of types with values that a call has made is a step. -/
theorem ow_rd {w0 w : World} {v : Value} {r : Rd} (h : OwR 37 2 w0 w v r.length (avs r)) (hz : SzR r) (hl : r.length ≤ 140737488351232) : RdIn (fun k => w0.heap.size ≤ k ∧ v.ownBlock = some k) w v r := by
  obtain ⟨a, cap, rfl, hc, h1⟩ := h.reads
  refine ⟨a, cap, rfl, hc, hl, ?_⟩
  rcases h1 with h0 | ⟨g, rfl, hg1, hg2, hr⟩
  · exact .inl (List.eq_nil_of_length_eq_zero h0)
  · right
    refine ⟨g, 0, r.map fun x => [Value.string (sb x.1), .string (sb x.2)], rfl, ⟨hg1, rfl⟩, hg2, by rw [← avs_flat]; exact hr, List.length_map _, fun c hcm => ?_, fun j x c hx hcj => ?_⟩
    · obtain ⟨x, _, rfl⟩ := List.mem_map.1 hcm
      rfl
    · rw [List.getElem?_map, hx] at hcj
      obtain rfl := Option.some.inj hcj
      exact ⟨rfl, hz x (List.mem_of_getElem? hx)⟩
/-- A name and a step that grow. -/
structure Rs (w wr : World) (nv sv : Value) (n : Nm) (st : Rd) (vs : List Value) : Prop where
  no : OwR 34 1 w wr nv n.length vs
  so : OwR 37 2 w wr sv st.length (avs st)
  ne : ∀ g, nv.ownBlock = some g → sv.ownBlock ≠ some g
  ks : ∀ (i : Nat) (r : Rd) (v : Value), n[i]? = some r → vs[i]? = some v → RdIn (fun k => w.heap.size ≤ k ∧ nv.ownBlock ≠ some k ∧ sv.ownBlock ≠ some k) wr v r
  sz : SzR st
theorem Rs.fr {w wr w' : World} {nv sv : Value} {n : Nm} {st : Rd} {vs : List Value} (h : Rs w wr nv sv n st vs) (hf : Fr No wr w') : Rs w w' nv sv n st vs :=
  ⟨h.no.no hf, h.so.no hf, h.ne, fun i r v h1 h2 => (h.ks i r v h1 h2).no hf, h.sz⟩
theorem rd_lt {S : Nat → Prop} {w : World} {v : Value} {r : Rd} (h : RdIn S w v r) : RdIn (fun k => S k ∧ k < w.heap.size) w v r := by
  obtain ⟨a, cap, h1, h2, h3, h4⟩ := h
  exact ⟨a, cap, h1, h2, h3, h4.imp id fun ⟨g, o, L, e, hS, hg, q⟩ => ⟨g, o, L, e, ⟨hS, hg⟩, hg, q⟩⟩
/-- One more of a step. -/
theorem Rs.step {w wr w' : World} {nv sv sv' : Value} {n : Nm} {st : Rd} {vs : List Value} {x : Av} (h : Rs w wr nv sv n st vs) (ho : OwR 37 2 w w' sv' (st.length + 1) (avs st ++ [.string (sb x.1), .string (sb x.2)])) (hf : Fr (fun j => sv.ownBlock = some j) wr w')
    (hw : sv'.ownBlock = sv.ownBlock ∨ ∃ g, sv'.ownBlock = some g ∧ wr.heap.size ≤ g) (hx : Sz x.1 ∧ Sz x.2) : Rs w w' nv sv' n (st ++ [x]) vs := by
  refine ⟨h.no.later hf (fun g h1 h2 => h.ne g h1 h2) (fun g e => (h.so.ge g e).1), by rw [avs_snoc, List.length_append]; exact ho, ?_, ?_, ?_⟩
  · intro g h1 h2
    rcases hw with hw | ⟨g', hw, hge⟩
    · rw [hw] at h2; exact h.ne g h1 h2
    · rw [hw] at h2
      have e := Option.some.inj h2
      have := (h.no.ge g h1).2
      omega
  · intro i r v h1 h2
    refine (RdIn.fr (rd_lt (h.ks i r v h1 h2)) hf fun j hj _ e => hj.1.2.2 e).mono ?_
    rintro j ⟨⟨j1, j2, j3⟩, j4⟩
    refine ⟨j1, j2, fun e => ?_⟩
    rcases hw with hw | ⟨g', hw, hge⟩
    · rw [hw] at e; exact j3 e
    · rw [hw] at e
      have e := Option.some.inj e
      omega
  · intro y hy
    rcases List.mem_append.1 hy with hy | hy
    · exact h.sz y hy
    · obtain rfl := List.mem_singleton.1 hy
      exact hx
/-- The step is closed. -/
theorem Rs.close {w wr w' : World} {nv nv' sv : Value} {n : Nm} {st : Rd} {vs : List Value} (h : Rs w wr nv sv n st vs) (ho : OwR 34 1 w w' nv' (n.length + 1) (vs ++ [sv])) (hf : Fr (fun j => nv.ownBlock = some j) wr w')
    (hw : nv'.ownBlock = nv.ownBlock ∨ ∃ g, nv'.ownBlock = some g ∧ wr.heap.size ≤ g) (hl : st.length ≤ 140737488351232) (hvs : vs.length = n.length) : Rs w w' nv' (.slice none 0 0) (n ++ [st]) [] (vs ++ [sv]) := by
  refine ⟨by rw [List.length_append]; exact ho, owR_nil ho.fr, fun _ _ => by simp [Value.ownBlock], ?_, fun x hx => by cases hx⟩
  have hnew : ∀ j, j < wr.heap.size → nv.ownBlock ≠ some j → nv'.ownBlock ≠ some j := by
    intro j hj hn e
    rcases hw with hw | ⟨g', hw, hge⟩
    · rw [hw] at e; exact hn e
    · rw [hw] at e
      have e := Option.some.inj e
      omega
  intro i r v h1 h2
  by_cases hi : i < n.length
  · rw [List.getElem?_append_left hi] at h1
    rw [List.getElem?_append_left (by omega)] at h2
    refine (RdIn.fr (rd_lt (h.ks i r v h1 h2)) hf fun j hj _ e => hj.1.2.1 e).mono ?_
    rintro j ⟨⟨j1, j2, j3⟩, j4⟩
    exact ⟨j1, hnew j j4 j2, by simp [Value.ownBlock]⟩
  · rw [List.getElem?_append_right (by omega)] at h1
    rw [List.getElem?_append_right (by omega)] at h2
    have hi0 : i - n.length = 0 := by
      have := (List.getElem?_eq_some_iff.1 h1).1
      simp at this
      omega
    have hi1 : i - vs.length = 0 := by omega
    rw [hi0] at h1
    rw [hi1] at h2
    obtain rfl : st = r := by simpa using h1
    obtain rfl : sv = v := by simpa using h2
    refine (RdIn.fr (rd_lt (ow_rd h.so h.sz hl)) hf fun j hj _ e => h.ne j e hj.1.2).mono ?_
    rintro j ⟨⟨j1, j2⟩, j4⟩
    exact ⟨j1, hnew j j4 (fun e => h.ne j e j2), by simp [Value.ownBlock]⟩
/-- The whole name. -/
theorem Rs.name {w wr : World} {nv sv : Value} {n : Nm} {st : Rd} {vs : List Value} (h : Rs w wr nv sv n st vs) (hvs : vs.length = n.length) (hl : n.length ≤ 140737488351232) : NmIn (fun k => w.heap.size ≤ k) wr nv n := by
  obtain ⟨a, cap, rfl, hc, h1⟩ := h.no.reads
  refine ⟨a, cap, rfl, hc, hl, ?_⟩
  rcases h1 with h0 | ⟨g, rfl, hg1, hg2, hr⟩
  · exact .inl (List.eq_nil_of_length_eq_zero h0)
  · right
    refine ⟨g, 0, vs.map fun v => [v], rfl, hg1, hg2, ?_, by rw [List.length_map]; exact hvs, fun c hcm => ?_, fun j x c hx hcj => ?_⟩
    · rw [show (vs.map fun v => [v]).flatten = vs from by
        clear hr hvs h
        induction vs with
        | nil => rfl
        | cons v r ih => rw [List.map_cons, List.flatten_cons, ih]; rfl]
      exact hr
    · obtain ⟨x, _, rfl⟩ := List.mem_map.1 hcm
      rfl
    · rw [List.getElem?_map] at hcj
      obtain ⟨v, hv, rfl⟩ := Option.map_eq_some_iff.1 hcj
      exact ⟨v, rfl, (h.ks j x v hx hv).mono fun k hk => hk.1⟩
/-- What is told of a text that is read as a name. -/
def ToldN (w : World) (o : Option Nm) (e : Ending) (w' : World) : Prop := match o with
  | some n => ∃ v, e = .returned (.tuple #[v, .bool true]) ∧ NmIn (fun k => w.heap.size ≤ k) w' v n
  | none => ∃ a c, e = .returned (.tuple #[.slice a 0 c, .bool false])
set_option maxHeartbeats 16000000 in
theorem read_any (s : B) (hs : s.length ≤ 400) (w : World) (hG : Gl w) : Calls Tryd.prog 21 #[.string (sb s)] w fun e w' => ToldN w (read s) e w' ∧ Fr No w w' := by
  have HG := hid hG
  by_cases h0 : s = []
  · subst h0
    have hr : read [] = some [] := rfl
    rw [hr]
    clear hs hG hr
    go_enter Tryd.func21, Tryd.ntmps21
    go_wp2_with (first
      | ((with_reducible refine K.atO (.binOp .eql 9 _ _ _) ?_); refine wpL_valZ rfl (.bool true) (by exact exec_eqS _ _ _ rfl [] [] rfl rfl _) ?_)
      | fail)
    go_ret2
    exact ⟨⟨_, rfl, nm_nil _ _ _ _⟩, Fr.refl _ _⟩
  · obtain ⟨RF, hRF⟩ : ∃ RF, read s = RF := ⟨_, rfl⟩
    have HRF : Hid (readF (s.length + 1) [] [] s = RF) := hid (by unfold read at hRF; rw [if_neg h0] at hRF; exact hRF)
    rw [hRF]
    have HN0 := hid (show decide (s = []) = false from decide_eq_false h0)
    have HS4 := hid hs
    clear hs hG h0 hRF
    go_enter Tryd.func21, Tryd.ntmps21
    go_wp2_with (first
      | ((with_reducible refine K.atO (.binOp .eql 9 _ _ _) ?_); refine wpL_valZ rfl (.bool false) (by rw [← HN0.out]; exact exec_eqS _ _ _ rfl s [] rfl rfl _) ?_)
      | fail)
    go_loopw [0, 2, 4] (fun tv nv sv wr => ∃ (t : B) (n : Nm) (st : Rd) (vs : List Value), tv = .string (sb t) ∧ Hid (n.length + st.length + t.length ≤ 400) ∧ Hid (Rs w wr nv sv n st vs ∧ vs.length = n.length) ∧ Hid (readF (t.length + 1) n st t = RF)) (fun tv _ _ _ => strLen tv)
    case atStart => exact ⟨s, [], [], [], rfl, hid (by have := HS4.out; simpa using this), hid ⟨⟨owR_nil (Fr.refl _ _), owR_nil (Fr.refl _ _), (fun g e => by cases e), (fun i r v e => by simp at e), (fun x hx => by cases hx)⟩, rfl⟩, HRF⟩
    case round =>
      obtain ⟨t, n, st, vs, rfl, HL, HR, HF⟩ := hrel
      obtain ⟨na, nc, rfl⟩ := HR.out.1.no.1
      obtain ⟨sa, sc, rfl⟩ := HR.out.1.so.1
      have hF := HF.out
      rw [readF_len] at hF
      have HRA := hid (fun w hG => readAva_any t (by have := HL.out; omega) w hG)
      obtain ⟨nl, hnl⟩ : ∃ nl, n.length = nl := ⟨_, rfl⟩
      obtain ⟨sl, hsl⟩ : ∃ sl, st.length = sl := ⟨_, rfl⟩
      have HNL := hid hnl; have HSL := hid hsl
      rw [hnl, hsl] at HL ⊢
      have hnl4 : (nl : Int) ≤ 400 := by have := HL.out; omega
      have hsl4 : (sl : Int) ≤ 400 := by have := HL.out; omega
      have HGW : Hid (Gl wr) := hid (HG.out.no HR.out.1.no.fr)
      cases hA : readA t with
      | none =>
        rw [hA] at hF HRA
        have HRN : Hid (none = RF) := hid hF
        clear hF hA hnl hsl HF
        go_wp2_with fail
        refine (HRA.out wr HGW.out).mono ?_
        rintro e w2 ⟨⟨p, q, r, rfl⟩, f2⟩
        have HF2 := hid (HR.out.1.no.fr.trans' f2)
        clear f2
        go_wp2_with (first
          | ((with_reducible refine K.atO (.alloc 37) ?_); refine wpList_plain rfl fun K1 hK1 => ?_; refine wp_alloc 37 rfl (.agg #[.string ⟨#[]⟩, .string ⟨#[]⟩]) zeroAv [.string ⟨#[]⟩, .string ⟨#[]⟩] rfl ?_; intro w3 HB3 HF3 HS3; refine hK1 _ _ ?_; clear hK1 K1)
          | ((with_reducible refine K.atO (.store 37 _ _) ?_); refine wpL_store rfl _ _ _ rfl w2.heap.size 0 [.string (sb p), .string (sb q)] rfl rfl 37 _ HB3.out (by simp) infoAv (by simp [Value.oneCell']) ?_; intro w4 HB4 HF4 HS4)
          | fail)
        go_ret2
        rw [← HRN.out]
        exact ⟨⟨_, _, rfl⟩, HF2.out.trans' (HF3.out.trans HF4.out fun k e => .inr (by have e : k = w2.heap.size := e; omega))⟩
      | some x =>
        obtain ⟨⟨x1, x2⟩, rest⟩ := x
        rw [hA] at hF HRA
        obtain ⟨hl1, hl2, hl3, hl4⟩ := readA_len hA
        have HX12 : Hid (Sz x1 ∧ Sz x2) := hid ⟨by unfold Sz; simp only at hl2; have := HL.out; omega, by unfold Sz; simp only at hl3; have := HL.out; omega⟩
        have HTL := hid hl1
        simp only at hF
        have START : True := trivial
        clear hA hnl hsl HF hl1 hl2 hl3
        cases rest with
        | nil =>
          have HRN : Hid (some (n ++ [st ++ [(x1, x2)]]) = RF) := hid hF
          clear hF hl4 START
          go_wp2_with fail
          refine (HRA.out wr HGW.out).mono ?_
          rintro e w2 ⟨h2, f2⟩
          subst h2
          have HR2 := hid (HR.out.1.fr f2)
          clear f2
          go_wp2_with (first
            | ((with_reducible refine K.atO (.alloc 37) ?_); refine wpList_plain rfl fun K1 hK1 => ?_; refine wp_alloc 37 rfl (.agg #[.string ⟨#[]⟩, .string ⟨#[]⟩]) zeroAv [.string ⟨#[]⟩, .string ⟨#[]⟩] rfl ?_; intro w3 HB3 HF3 HS3; refine hK1 _ _ ?_; clear hK1 K1)
            | ((with_reducible refine K.atO (.store 37 _ _) ?_); refine wpL_store rfl _ _ _ rfl w2.heap.size 0 [.string (sb x1), .string (sb x2)] rfl rfl 37 _ HB3.out (by simp) infoAv (by simp [Value.oneCell']) ?_; intro w4 HB4 HF4 HS4;
                (have HR4 : Hid (Rs w w4 (.slice na nl nc) (.slice sa sl sc) n st vs) := hid (by rw [← HNL.out, ← HSL.out] at *; exact HR2.out.fr (HF3.out.trans HF4.out fun k e => .inr (by have e : k = w2.heap.size := e; omega)))))
            | ((with_reducible refine K.atO (.load 37 _) ?_); refine wpL_load rfl _ _ rfl w2.heap.size 0 rfl [.string (sb x1), .string (sb x2)] _ (by simpa [spl] using HB4.out.range 0 [.string (sb x1), .string (sb x2)] rfl) rfl rfl infoAv ?_)
            | ((with_reducible refine K.atO (.buildSlice 34 _ _) ?_); refine wpL_app1o rfl rfl _ _ _ 34 37 rfl rfl Tryd.underlying34 infoAva rfl (by decide) (by decide) (n := sl) (cs := avs st) (by have := HR4.out.so; rw [HSL.out] at this; exact this) (.agg #[.string (sb x1), .string (sb x2)]) [.string (sb x1), .string (sb x2)] rfl rfl rfl (by simp [Value.oneCell']) (fun _ => rfl) (fun _ => rfl) (by omega) (by omega) ?_; intro q5 a5 c5 w5 HO5 HF5 HW5)
            | ((with_reducible refine K.atO (.binOp .eql 9 _ _ _) ?_); refine wpL_valZ rfl (.bool true) (by exact exec_eqS _ _ _ rfl [] [] rfl rfl _) ?_)
            | ((with_reducible refine K.atO (.buildSlice 23 _ _) ?_); (have HR5 : Hid (Rs w w5 (.slice na nl nc) (.slice a5 (sl + 1) c5) n (st ++ [(x1, x2)]) vs) := hid (HR4.out.step (x := (x1, x2)) (by rw [HSL.out]; exact HO5.out) HF5.out HW5.out HX12.out));
                refine wpL_app1o rfl rfl _ _ _ 23 34 rfl rfl Tryd.underlying23 infoRdn rfl (by decide) (by decide) (n := nl) (cs := vs) (by have := HR5.out.no; rw [HNL.out] at this; exact this) (.slice a5 (sl + 1) c5) [.slice a5 (sl + 1) c5] rfl rfl rfl (by simp [Value.oneCell']) (fun _ => rfl) (fun _ => rfl) (by omega) (by omega) ?_; intro q6 a6 c6 w6 HO6 HF6 HW6)
            | fail)
          have HR6 : Hid (Rs w w6 (.slice a6 (nl + 1) c6) (.slice none 0 0) (n ++ [st ++ [(x1, x2)]]) [] (vs ++ [.slice a5 (sl + 1) c5])) := hid (HR5.out.close (by rw [HNL.out]; exact HO6.out) HF6.out HW6.out (by rw [List.length_append, HSL.out]; have := HL.out; simp; omega) HR.out.2)
          go_ret2
          rw [← HRN.out]
          exact ⟨⟨_, rfl, HR6.out.name (by have := HR.out.2; simp [this]) (by rw [List.length_append, HNL.out]; have := HL.out; simp; omega)⟩, HR6.out.no.fr⟩
        | cons c r =>
          dsimp only at hF
          have hcc : c = 44 ∨ c = 43 := by
            rcases hl4 with h | ⟨c', r', h, h2⟩
            · cases h
            · cases h; exact h2
          have HLr : Hid (r.length + 2 ≤ t.length) := hid (by have := HTL.out; simp only [List.length_cons] at this; omega)
          have HR1 : Hid ((c :: r).drop 1 = r) := hid rfl
          have HL1 : Hid (1 ≤ (c :: r).length) := hid (by simp)
          obtain ⟨S, hS⟩ : ∃ S, sb (c :: r) = S := ⟨_, rfl⟩
          have HSS := hid hS
          have hszi : (1 : Int) ≤ (S.size : Int) := by rw [← hS, sb_size]; simp; omega
          have HRA2 : Hid (∀ w, Gl w → Calls Tryd.prog 33 #[.string (sb t)] w fun e w' => e = .returned (.tuple #[.agg #[.string (sb x1), .string (sb x2)], .string S, .bool true]) ∧ Fr No w w') := hid (fun w hG => (HRA.out w hG).mono fun e w' h => ⟨by rw [← hS]; exact h.1, h.2⟩)
          clear hS hl4 START HRA
          by_cases h44 : c = 44
          · rw [if_pos h44] at hF
            have HRN := hid hF
            have e44 : ((c.toNat : Int) == 44) = true := beqT (k := 44) (by rw [h44]; rfl)
            clear hF h44 hcc
            go_wp2_with fail
            refine (HRA2.out wr HGW.out).mono ?_
            rintro e w2 ⟨h2, f2⟩
            subst h2
            have HR2 := hid (HR.out.1.fr f2)
            clear f2
            go_wp2_with (first
              | ((with_reducible refine K.atO (.alloc 37) ?_); refine wpList_plain rfl fun K1 hK1 => ?_; refine wp_alloc 37 rfl (.agg #[.string ⟨#[]⟩, .string ⟨#[]⟩]) zeroAv [.string ⟨#[]⟩, .string ⟨#[]⟩] rfl ?_; intro w3 HB3 HF3 HS3; refine hK1 _ _ ?_; clear hK1 K1)
              | ((with_reducible refine K.atO (.store 37 _ _) ?_); refine wpL_store rfl _ _ _ rfl w2.heap.size 0 [.string (sb x1), .string (sb x2)] rfl rfl 37 _ HB3.out (by simp) infoAv (by simp [Value.oneCell']) ?_; intro w4 HB4 HF4 HS4;
                  (have HR4 : Hid (Rs w w4 (.slice na nl nc) (.slice sa sl sc) n st vs) := hid (by rw [← HNL.out, ← HSL.out] at *; exact HR2.out.fr (HF3.out.trans HF4.out fun k e => .inr (by have e : k = w2.heap.size := e; omega)))))
              | ((with_reducible refine K.atO (.load 37 _) ?_); refine wpL_load rfl _ _ rfl w2.heap.size 0 rfl [.string (sb x1), .string (sb x2)] _ (by simpa [spl] using HB4.out.range 0 [.string (sb x1), .string (sb x2)] rfl) rfl rfl infoAv ?_)
              | ((with_reducible refine K.atO (.buildSlice 34 _ _) ?_); refine wpL_app1o rfl rfl _ _ _ 34 37 rfl rfl Tryd.underlying34 infoAva rfl (by decide) (by decide) (n := sl) (cs := avs st) (by have := HR4.out.so; rw [HSL.out] at this; exact this) (.agg #[.string (sb x1), .string (sb x2)]) [.string (sb x1), .string (sb x2)] rfl rfl rfl (by simp [Value.oneCell']) (fun _ => rfl) (fun _ => rfl) (by omega) (by omega) ?_; intro q5 a5 c5 w5 HO5 HF5 HW5)
              | ((with_reducible refine K.atO (.binOp .eql 9 _ _ _) ?_); refine wpL_valZ rfl (.bool false) (by rw [← HSS.out]; exact exec_eqS _ _ _ rfl (c :: r) [] rfl rfl _) ?_)
              | ((with_reducible refine K.atO (.index 9 _ _) ?_); refine wpL_valZ rfl (.int .u8 (c.toNat : Int)) (by rw [← HSS.out]; exact exec_idx _ _ rfl (c :: r) 0 c rfl 0 rfl rfl rfl _) ?_)
              | ((with_reducible refine K.atO (.slice 9 _ _ _ _) ?_); refine wpL_valZ rfl (.string (sb r)) (by rw [← HSS.out]; exact exec_from _ _ rfl (c :: r) 1 rfl rfl HL1.out _ HR1.out _) ?_)
              | ((with_reducible refine K.atO (.buildSlice 23 _ _) ?_); (have HR5 : Hid (Rs w w5 (.slice na nl nc) (.slice a5 (sl + 1) c5) n (st ++ [(x1, x2)]) vs) := hid (HR4.out.step (x := (x1, x2)) (by rw [HSL.out]; exact HO5.out) HF5.out HW5.out HX12.out));
                  refine wpL_app1o rfl rfl _ _ _ 23 34 rfl rfl Tryd.underlying23 infoRdn rfl (by decide) (by decide) (n := nl) (cs := vs) (by have := HR5.out.no; rw [HNL.out] at this; exact this) (.slice a5 (sl + 1) c5) [.slice a5 (sl + 1) c5] rfl rfl rfl (by simp [Value.oneCell']) (fun _ => rfl) (fun _ => rfl) (by omega) (by omega) ?_; intro q6 a6 c6 w6 HO6 HF6 HW6)
              | fail)
            have HR6 : Hid (Rs w w6 (.slice a6 (nl + 1) c6) (.slice none 0 0) (n ++ [st ++ [(x1, x2)]]) [] (vs ++ [.slice a5 (sl + 1) c5])) := hid (HR5.out.close (by rw [HNL.out]; exact HO6.out) HF6.out HW6.out (by rw [List.length_append, HSL.out]; have := HL.out; simp; omega) HR.out.2)
            refine ⟨⟨r, n ++ [st ++ [(x1, x2)]], [], _, rfl, hid (by have := HL.out; have := HLr.out; have := HNL.out; simp; omega), hid ⟨HR6.out, by have := HR.out.2; simp [this]⟩, HRN⟩, ?_⟩
            show (sb r).size < (sb t).size
            rw [sb_size, sb_size]
            have := HLr.out
            omega
          · rw [if_neg h44] at hF
            have HRN := hid hF
            have e44 : ((c.toNat : Int) == 44) = false := beqF (k := 44) (fun h => h44 (UInt8.toNat_inj.1 h))
            clear hF h44 hcc
            go_wp2_with fail
            refine (HRA2.out wr HGW.out).mono ?_
            rintro e w2 ⟨h2, f2⟩
            subst h2
            have HR2 := hid (HR.out.1.fr f2)
            clear f2
            go_wp2_with (first
              | ((with_reducible refine K.atO (.alloc 37) ?_); refine wpList_plain rfl fun K1 hK1 => ?_; refine wp_alloc 37 rfl (.agg #[.string ⟨#[]⟩, .string ⟨#[]⟩]) zeroAv [.string ⟨#[]⟩, .string ⟨#[]⟩] rfl ?_; intro w3 HB3 HF3 HS3; refine hK1 _ _ ?_; clear hK1 K1)
              | ((with_reducible refine K.atO (.store 37 _ _) ?_); refine wpL_store rfl _ _ _ rfl w2.heap.size 0 [.string (sb x1), .string (sb x2)] rfl rfl 37 _ HB3.out (by simp) infoAv (by simp [Value.oneCell']) ?_; intro w4 HB4 HF4 HS4;
                  (have HR4 : Hid (Rs w w4 (.slice na nl nc) (.slice sa sl sc) n st vs) := hid (by rw [← HNL.out, ← HSL.out] at *; exact HR2.out.fr (HF3.out.trans HF4.out fun k e => .inr (by have e : k = w2.heap.size := e; omega)))))
              | ((with_reducible refine K.atO (.load 37 _) ?_); refine wpL_load rfl _ _ rfl w2.heap.size 0 rfl [.string (sb x1), .string (sb x2)] _ (by simpa [spl] using HB4.out.range 0 [.string (sb x1), .string (sb x2)] rfl) rfl rfl infoAv ?_)
              | ((with_reducible refine K.atO (.buildSlice 34 _ _) ?_); refine wpL_app1o rfl rfl _ _ _ 34 37 rfl rfl Tryd.underlying34 infoAva rfl (by decide) (by decide) (n := sl) (cs := avs st) (by have := HR4.out.so; rw [HSL.out] at this; exact this) (.agg #[.string (sb x1), .string (sb x2)]) [.string (sb x1), .string (sb x2)] rfl rfl rfl (by simp [Value.oneCell']) (fun _ => rfl) (fun _ => rfl) (by omega) (by omega) ?_; intro q5 a5 c5 w5 HO5 HF5 HW5)
              | ((with_reducible refine K.atO (.binOp .eql 9 _ _ _) ?_); refine wpL_valZ rfl (.bool false) (by rw [← HSS.out]; exact exec_eqS _ _ _ rfl (c :: r) [] rfl rfl _) ?_)
              | ((with_reducible refine K.atO (.index 9 _ _) ?_); refine wpL_valZ rfl (.int .u8 (c.toNat : Int)) (by rw [← HSS.out]; exact exec_idx _ _ rfl (c :: r) 0 c rfl 0 rfl rfl rfl _) ?_)
              | ((with_reducible refine K.atO (.slice 9 _ _ _ _) ?_); refine wpL_valZ rfl (.string (sb r)) (by rw [← HSS.out]; exact exec_from _ _ rfl (c :: r) 1 rfl rfl HL1.out _ HR1.out _) ?_)
              | fail)
            have HR5 : Hid (Rs w w5 (.slice na nl nc) (.slice a5 (sl + 1) c5) n (st ++ [(x1, x2)]) vs) := hid (HR4.out.step (x := (x1, x2)) (by rw [HSL.out]; exact HO5.out) HF5.out HW5.out HX12.out)
            refine ⟨⟨r, n, st ++ [(x1, x2)], vs, rfl, hid (by have := HL.out; have := HLr.out; have := HSL.out; have := HNL.out; simp; omega), hid ⟨HR5.out, HR.out.2⟩, HRN⟩, ?_⟩
            show (sb r).size < (sb t).size
            rw [sb_size, sb_size]
            have := HLr.out
            omega
theorem parse_eq (s : B) : parse s = if 400 < s.length then (([] : Nm), (2 : Int)) else match read s with
  | none => (([] : Nm), (120 : Int))
  | some n => if built n then (n, (0 : Int)) else (([] : Nm), (120 : Int)) := rfl
set_option maxHeartbeats 4000000 in
theorem parse_any (s : B) (w : World) (hG : Gl w) : Calls Tryd.prog 11 #[.string (sb s)] w fun e w' => ∃ v, e = .returned (.tuple #[v, .int .i64 (parse s).2]) ∧ NmIn (fun k => w.heap.size ≤ k) w' v (parse s).1 ∧ Fr No w w' := by
  have hsz := sb_size s
  by_cases h4 : 400 < s.length
  · have hp : parse s = ([], 2) := by rw [parse_eq, if_pos h4]
    rw [hp]
    obtain ⟨S, hS⟩ : ∃ S, sb s = S := ⟨_, rfl⟩
    rw [hS] at hsz ⊢
    have h1 : (400 : Int) < (S.size : Int) := by omega
    clear hG hp hS hsz h4
    go_enter Tryd.func11, Tryd.ntmps11
    go_wp2
    go_ret2
    exact ⟨_, rfl, nm_nil _ _ _ _, Fr.refl _ _⟩
  · have HRD := hid (read_any s (by omega) w hG)
    have h1 : ¬ (400 : Int) < ((sb s).size : Int) := by omega
    have hpe := parse_eq s
    rw [if_neg h4] at hpe
    obtain ⟨RN, hRN⟩ : ∃ RN, read s = RN := ⟨_, rfl⟩
    rw [hRN] at hpe HRD
    obtain ⟨P, hP⟩ : ∃ P, parse s = P := ⟨_, rfl⟩
    rw [hP] at hpe ⊢
    obtain ⟨S, hS⟩ : ∃ S, sb s = S := ⟨_, rfl⟩
    rw [hS] at h1 HRD ⊢
    clear hG hsz h4 hRN hP hS
    cases RN with
    | none =>
      subst hpe
      go_enter Tryd.func11, Tryd.ntmps11
      go_wp2_with fail
      refine HRD.out.mono ?_
      rintro e w2 ⟨⟨a, c, rfl⟩, f2⟩
      have HF2 := hid f2
      clear f2
      go_wp2_with fail
      go_ret2
      exact ⟨_, rfl, nm_nil _ _ _ _, HF2.out⟩
    | some n =>
      have hpe2 : P = if built n then (n, (0 : Int)) else (([] : Nm), (120 : Int)) := hpe
      cases hb : built n with
      | true =>
        rw [hb] at hpe2
        subst hpe2
        have HBB := hid hb
        clear hpe hb
        go_enter Tryd.func11, Tryd.ntmps11
        go_wp2_with fail
        refine HRD.out.mono ?_
        rintro e w2 ⟨⟨v, rfl, hv⟩, f2⟩
        have HV := hid hv
        have HF2 := hid f2
        obtain ⟨a, cp, rfl, -, -⟩ := hv.form
        clear f2 hv
        go_wp2_with fail
        refine (isBuilt_any _ _ n w2 HV.out).mono ?_
        rintro e w3 ⟨rfl, f3⟩
        rw [HBB.out]
        have HV3 := hid (HV.out.no f3)
        have HF3 := hid (HF2.out.trans' f3)
        clear f3
        go_wp2_with fail
        go_ret2
        exact ⟨_, rfl, HV3.out, HF3.out⟩
      | false =>
        rw [hb] at hpe2
        subst hpe2
        have HBB := hid hb
        clear hpe hb
        go_enter Tryd.func11, Tryd.ntmps11
        go_wp2_with fail
        refine HRD.out.mono ?_
        rintro e w2 ⟨⟨v, rfl, hv⟩, f2⟩
        have HV := hid hv
        have HF2 := hid f2
        obtain ⟨a, cp, rfl, -, -⟩ := hv.form
        clear f2 hv
        go_wp2_with fail
        refine (isBuilt_any _ _ n w2 HV.out).mono ?_
        rintro e w3 ⟨rfl, f3⟩
        rw [HBB.out]
        have HF3 := hid (HF2.out.trans' f3)
        clear f3
        go_wp2_with fail
        go_ret2
        exact ⟨_, rfl, nm_nil _ _ _ _, HF3.out⟩
end Go.Proofs.YtnjemnmhkhkpeaaDoor.DN
