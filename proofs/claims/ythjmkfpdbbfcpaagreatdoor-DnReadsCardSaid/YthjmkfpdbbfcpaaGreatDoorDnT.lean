/-
  The program's Type, and whether a name is built as it may be.
-/
import Derived.Test.YthjmkfpdbbfcpaaGreatDoorDnL
import Derived.Test.YthjmkfpdbbfcpaaGreatDoorDnQ
import Derived.Lib.OthersKept
set_option linter.unusedVariables false
set_option linter.unusedSimpArgs false
namespace Go.Proofs.YthjmkfpdbbfcpaaGreatDoor.DN
set_option maxRecDepth 100000
open Go.RowKit K Go.Proofs.YthjmkfpdbbfcpaaGreatDoor.BE

def letN (n : Nat) : Bool := decide (97 ≤ n ∧ n ≤ 122) || decide (65 ≤ n ∧ n ≤ 90)
def digN (n : Nat) : Bool := decide (48 ≤ n ∧ n ≤ 57)
theorem isLetter_any (n : Nat) (w : World) : Calls Tryz.prog 18 #[.int .i32 (n : Int)] w fun e w' => e = .returned (.bool (letN n)) ∧ w' = w := by
  have h : (n < 65 ∧ letN n = false) ∨ ((65 ≤ n ∧ n ≤ 90) ∧ letN n = true) ∨ ((90 < n ∧ n < 97) ∧ letN n = false) ∨ ((97 ≤ n ∧ n ≤ 122) ∧ letN n = true) ∨ (122 < n ∧ letN n = false) := by
    unfold letN
    simp only [Bool.or_eq_true, Bool.or_eq_false_iff, decide_eq_true_eq, decide_eq_false_iff_not]
    omega
  rcases h with ⟨h1, h2⟩ | ⟨⟨h1, h3⟩, h2⟩ | ⟨⟨h1, h3⟩, h2⟩ | ⟨⟨h1, h3⟩, h2⟩ | ⟨h1, h2⟩
  · rw [h2]; clear h2
    have a1 : ¬ (97 : Int) ≤ n := by omega
    have a2 : ¬ (65 : Int) ≤ n := by omega
    go_enter Tryz.func18, Tryz.ntmps18
    go_wp2
    go_ret
    exact ⟨rfl, rfl⟩
  · rw [h2]; clear h2
    have a1 : ¬ (97 : Int) ≤ n := by omega
    have a2 : (65 : Int) ≤ n := by omega
    have a3 : (n : Int) ≤ 90 := by omega
    go_enter Tryz.func18, Tryz.ntmps18
    go_wp2
    go_ret
    exact ⟨rfl, rfl⟩
  · rw [h2]; clear h2
    have a1 : ¬ (97 : Int) ≤ n := by omega
    have a2 : (65 : Int) ≤ n := by omega
    have a3 : ¬ (n : Int) ≤ 90 := by omega
    go_enter Tryz.func18, Tryz.ntmps18
    go_wp2
    go_ret
    exact ⟨rfl, rfl⟩
  · rw [h2]; clear h2
    have a1 : (97 : Int) ≤ n := by omega
    have a2 : (n : Int) ≤ 122 := by omega
    go_enter Tryz.func18, Tryz.ntmps18
    go_wp2
    go_ret
    exact ⟨rfl, rfl⟩
  · rw [h2]; clear h2
    have a1 : (97 : Int) ≤ n := by omega
    have a2 : ¬ (n : Int) ≤ 122 := by omega
    have a3 : (65 : Int) ≤ n := by omega
    have a4 : ¬ (n : Int) ≤ 90 := by omega
    go_enter Tryz.func18, Tryz.ntmps18
    go_wp2
    go_ret
    exact ⟨rfl, rfl⟩
theorem isDigit_any (n : Nat) (w : World) : Calls Tryz.prog 19 #[.int .i32 (n : Int)] w fun e w' => e = .returned (.bool (digN n)) ∧ w' = w := by
  have h : (n < 48 ∧ digN n = false) ∨ ((48 ≤ n ∧ n ≤ 57) ∧ digN n = true) ∨ (57 < n ∧ digN n = false) := by
    unfold digN
    simp only [decide_eq_true_eq, decide_eq_false_iff_not]
    omega
  rcases h with ⟨h1, h2⟩ | ⟨⟨h1, h3⟩, h2⟩ | ⟨h1, h2⟩
  · rw [h2]; clear h2
    have a1 : ¬ (48 : Int) ≤ n := by omega
    go_enter Tryz.func19, Tryz.ntmps19
    go_wp2
    go_ret
    exact ⟨rfl, rfl⟩
  · rw [h2]; clear h2
    have a1 : (48 : Int) ≤ n := by omega
    have a2 : (n : Int) ≤ 57 := by omega
    go_enter Tryz.func19, Tryz.ntmps19
    go_wp2
    go_ret
    exact ⟨rfl, rfl⟩
  · rw [h2]; clear h2
    have a1 : (48 : Int) ≤ n := by omega
    have a2 : ¬ (n : Int) ≤ 57 := by omega
    go_enter Tryz.func19, Tryz.ntmps19
    go_wp2
    go_ret
    exact ⟨rfl, rfl⟩
/-- What may stand at a place of a type, of numbers. -/
def okN (first : Bool) (n : Nat) : Bool := letN n || (!first && (digN n || n == 45))
theorem ok_nat (first : Bool) (c : UInt8) : okAt first c = okN first c.toNat := by
  have := u8_all (fun c => okAt first c == okN first c.toNat) (by cases first <;> decide +kernel) c
  simpa using this
theorem okN_high (first : Bool) (n : Nat) (h : 128 ≤ n) : okN first n = false := by
  unfold okN letN digN
  simp
  omega
/-- The places of a type are right up to here. -/
def okTo (s : B) (i : Nat) : Prop := ∀ j c, j < i → s[j]? = some c → okAt (j == 0) c = true
theorem typ_len {s : B} (h : s.length = 0 ∨ 20 < s.length) : typ s = false := by
  unfold typ
  rcases h with h | h
  · rw [decide_eq_false (show ¬ 1 ≤ s.length by omega)]; rfl
  · rw [decide_eq_false (show ¬ s.length ≤ 20 by omega)]; simp
theorem typ_all {s : B} (h1 : 1 ≤ s.length) (h2 : s.length ≤ 20) : typ s = true ↔ okTo s s.length := by
  unfold typ okTo
  rw [decide_eq_true h1, decide_eq_true h2]
  cases s with
  | nil => simp at h1
  | cons c r =>
    simp only [Bool.true_and, Bool.and_eq_true, List.all_eq_true]
    constructor
    · rintro ⟨h3, h4⟩ j d hj hd
      cases j with
      | zero =>
        obtain rfl : c = d := by simpa using hd
        exact h3
      | succ j => exact h4 d (List.mem_of_getElem? (by simpa using hd))
    · intro h
      refine ⟨h 0 c (by simp) rfl, fun d hd => ?_⟩
      obtain ⟨j, hj⟩ := List.mem_iff_getElem?.1 hd
      exact h (j + 1) d (by have := (List.getElem?_eq_some_iff.1 hj).1; simp; omega) (by simpa using hj)
theorem typ_no {s : B} {i : Nat} {c : UInt8} (hc : s[i]? = some c) (h : okAt (i == 0) c = false) : typ s = false := by
  by_cases h1 : 1 ≤ s.length ∧ s.length ≤ 20
  · cases ht : typ s with
    | false => rfl
    | true =>
      have := (typ_all h1.1 h1.2).1 ht i c (List.getElem?_eq_some_iff.1 hc).1 hc
      rw [h] at this
      cases this
  · exact typ_len (by omega)
theorem iterAt_fr {w : World} {k : Nat} {s : ByteArray} {pos : Nat} : Fr (fun j => j = k) w (w.iterAt k s pos) := ⟨rfl, rfl, rfl, by rw [Lib.iterAt_size]; exact Nat.le_refl _, fun j _ hn => Lib.iterAt_other w k j s pos hn⟩
theorem empty_sb (l : B) : (sb l).toList.isEmpty = l.isEmpty := by rw [ByteArray.toList_eq, sb_list]
theorem nil_sb (l : B) : ((sb l).toList = []) = (l = []) := by rw [ByteArray.toList_eq, sb_list]
set_option maxHeartbeats 4000000 in
theorem type_any (s : B) (w : World) : Calls Tryz.prog 8 #[.string (sb s)] w fun e w' => e = .returned (.bool (typ s)) ∧ Fr No w w' := by
  by_cases h00 : s = []
  · subst h00
    have hT : typ [] = false := rfl
    have he : (sb []).toList.isEmpty = true := empty_sb []
    have hz : (sb []).size = 0 := rfl
    rw [hT]
    obtain ⟨S, hS⟩ : ∃ S, sb [] = S := ⟨_, rfl⟩
    rw [hS] at he hz ⊢
    clear hT hS
    go_enter Tryz.func8, Tryz.ntmps8
    go_wp2
    go_ret
    exact ⟨rfl, Fr.refl _ _⟩
  · have hz := sb_size s
    have hzl := sb_list s
    have hemp : (sb s).toList.isEmpty = false := by rw [empty_sb]; cases s with
      | nil => exact absurd rfl h00
      | cons _ _ => rfl
    have hnil : ¬ (sb s).toList = [] := by rw [nil_sb]; exact h00
    have hpos := List.length_pos_iff.2 h00
    obtain ⟨n, hn⟩ : ∃ n, s.length = n := ⟨_, rfl⟩
    obtain ⟨T, hT⟩ : ∃ T, typ s = T := ⟨_, rfl⟩
    have HNN := hid hn; have HT := hid hT
    rw [hn] at hz hpos
    by_cases h0 : 20 < n
    · have hTf : T = false := by rw [← hT]; exact typ_len (by omega)
      rw [hT, hTf]
      obtain ⟨S, hS⟩ : ∃ S, sb s = S := ⟨_, rfl⟩
      rw [hS] at hz hemp hnil ⊢
      have hszi : (20 : Int) < (S.size : Int) := by omega
      clear hn hT hTf hz hzl hS h00 h0 hpos
      go_enter Tryz.func8, Tryz.ntmps8
      go_wp2
      go_ret
      exact ⟨rfl, Fr.refl _ _⟩
    · have h1 : 1 ≤ n := by omega
      have h2 : n ≤ 20 := by omega
      rw [hT]
      obtain ⟨S, hS⟩ : ∃ S, sb s = S := ⟨_, rfl⟩
      have HZL : Hid (S.data.toList = s) := hid (by rw [← hS]; exact hzl)
      rw [hS] at hz hemp hnil ⊢
      have hszi : (S.size : Int) = n := by omega
      have hszl : ¬ (20 : Int) < n := by omega
      have HZ := hid hz
      clear h0 hn hT hz hzl hS h00 hpos
      obtain ⟨g, hg⟩ : ∃ g, w.heap.size = g := ⟨_, rfl⟩
      have HG := hid hg
      go_enter Tryz.func8, Tryz.ntmps8
      go_wp2_with fail
      try rw [hg]
      obtain ⟨w1, hw1⟩ : ∃ w1, w.iter S 0 = w1 := ⟨_, rfl⟩
      have HI0 : Hid (w1.heap[g]? = some (.stringIter S 0) ∧ Fr No w w1) := hid ⟨by rw [← hw1, ← hg]; exact World.iter_heap w S 0, by rw [← hw1]; exact (Fr.refl No w).alloc _⟩
      first | rw [hw1] | skip
      go_loopw [] (fun wr => ∃ (i : Nat), i ≤ n ∧ Hid (okTo s i) ∧ Hid (wr.heap[g]? = some (.stringIter S i)) ∧ Hid (Fr No w wr)) (fun wr => n - wr.iterPos g)
      case atStart => exact ⟨0, Nat.zero_le _, hid (fun j c hj => by omega), hid HI0.out.1, hid HI0.out.2⟩
      case round =>
        obtain ⟨i, hi, HOK, HIT, HFR⟩ := hrel
        clear HI0 hw1 hg
        by_cases hlt : i < n
        · obtain ⟨c, hc⟩ : ∃ c, s[i]? = some c := ⟨_, List.getElem?_eq_getElem (by rw [HNN.out]; exact hlt)⟩
          have hltS : i < S.size := by rw [HZ.out]; exact hlt
          have hSc : S[i]'hltS = c := by
            have h := hc
            rw [← HZL.out, List.getElem?_eq_getElem (by simpa using hltS)] at h
            exact Option.some.inj h
          have hnx : ∀ ty, (Instr.next (.pointer (some ⟨g, 0, none⟩)) true ty).run Tryz.prog wr = _ := fun ty => Lib.run_next_any_at wr g S i ty HIT.out hltS
          have hit2 := Lib.iterAt_heap wr g S i (i + (Utf8.decode S i).2) HIT.out
          have hok : okAt (i == 0) c = okN (i == 0) (Utf8.decode S i).1 ∧ (okN (i == 0) (Utf8.decode S i).1 = true → (Utf8.decode S i).2 = 1) := by
            rw [ok_nat]
            by_cases ha : c.toNat < 128
            · have h := decode_ascii S i hltS (by rw [hSc]; exact ha)
              rw [hSc] at h
              rw [h]
              exact ⟨rfl, fun _ => rfl⟩
            · have h := (decode_high S i hltS (by rw [hSc]; omega)).1
              rw [okN_high _ _ h, okN_high _ _ (by omega)]
              exact ⟨rfl, fun h => by cases h⟩
          obtain ⟨R, hR⟩ : ∃ R, (Utf8.decode S i).1 = R := ⟨_, rfl⟩
          obtain ⟨M, hM⟩ : ∃ M, (Utf8.decode S i).2 = M := ⟨_, rfl⟩
          obtain ⟨W, hW⟩ : ∃ W, wr.iterAt g S (i + M) = W := ⟨_, rfl⟩
          rw [hR, hM] at hnx hok
          rw [hM] at hit2
          rw [hW] at hnx hit2
          have hfW : Fr No w W := by rw [← hW]; exact HFR.out.trans iterAt_fr (fun k e => .inr (by rw [HG.out]; have e : k = g := e; omega))
          have HFW := hid hfW
          have HIT2 := hid hit2
          have HNX : Hid (okN (i == 0) R = true → okTo s (i + 1) ∧ M = 1) := hid (fun h => by
            refine ⟨fun j d hj hd => ?_, hok.2 h⟩
            by_cases hji : j = i
            · subst hji
              rw [hc] at hd
              obtain rfl := Option.some.inj hd
              rw [hok.1, h]
            · exact HOK.out j d (by omega) hd)
          have HNO : Hid (okN (i == 0) R = false → T = false) := hid (fun h => by rw [← HT.out]; exact typ_no hc (by rw [hok.1, h]))
          have HLT := hid hlt
          have hi0 : (0 : Int) ≤ i := by omega
          have HPOS := hid (show wr.iterPos g = i by unfold World.iterPos; rw [HIT.out])
          clear hc hltS hSc hit2 hok hR hM hW hfW HIT HOK hlt hi
          cases hl : letN R with
          | true =>
            obtain ⟨k1, k2⟩ := HNX.out (by unfold okN; rw [hl]; rfl)
            subst k2
            have HL := hid (fun w => isLetter_any R w)
            rw [hl] at HL
            have HK1 := hid k1
            clear hl HNX HNO k1
            go_wp2_with fail
            refine (HL.out _).mono ?_
            rintro e w3 ⟨rfl, rfl⟩
            go_wp2_with fail
            refine ⟨⟨i + 1, HLT.out, HK1, HIT2, HFW⟩, ?_⟩
            have h5 := HIT2.out
            have h6 := HLT.out
            rw [HPOS.out]
            unfold World.iterPos
            rw [h5]
            show n - (i + 1) < n - i
            omega
          | false =>
            have HL := hid (fun w => isLetter_any R w)
            rw [hl] at HL
            by_cases hz0 : i = 0
            · subst hz0
              have hTf := HNO.out (by unfold okN; rw [hl]; rfl)
              subst hTf
              clear hl HNX HNO
              go_wp2_with fail
              refine (HL.out _).mono ?_
              rintro e w3 ⟨rfl, rfl⟩
              go_wp2_with fail
              go_ret
              exact ⟨rfl, HFW.out⟩
            · have hz1 : ¬ (i : Int) = 0 := by omega
              have HD := hid (fun w => isDigit_any R w)
              have hzb : (i == 0) = false := by simpa using hz0
              cases hd : digN R with
              | true =>
                obtain ⟨k1, k2⟩ := HNX.out (by unfold okN; rw [hl, hd, hzb]; rfl)
                subst k2
                rw [hd] at HD
                have HK1 := hid k1
                clear hl hd HNX HNO k1 hzb hz0
                go_wp2_with fail
                refine (HL.out _).mono ?_
                rintro e w3 ⟨rfl, rfl⟩
                go_wp2_with fail
                refine (HD.out _).mono ?_
                rintro e w4 ⟨rfl, rfl⟩
                go_wp2_with fail
                refine ⟨⟨i + 1, HLT.out, HK1, HIT2, HFW⟩, ?_⟩
                have h5 := HIT2.out
                have h6 := HLT.out
                rw [HPOS.out]
                unfold World.iterPos
                rw [h5]
                show n - (i + 1) < n - i
                omega
              | false =>
                rw [hd] at HD
                by_cases h45 : R = 45
                · obtain ⟨k1, k2⟩ := HNX.out (by unfold okN; rw [hl, hd, hzb, h45]; rfl)
                  subst k2
                  have HK1 := hid k1
                  subst h45
                  have HL4 : Hid (∀ w : World, Calls Tryz.prog 18 #[.int .i32 45] w fun e w' => e = .returned (.bool false) ∧ w' = w) := HL
                  have HD4 : Hid (∀ w : World, Calls Tryz.prog 19 #[.int .i32 45] w fun e w' => e = .returned (.bool false) ∧ w' = w) := HD
                  have hnx4 : ∀ ty, (Instr.next (.pointer (some ⟨g, 0, none⟩)) true ty).run Tryz.prog wr = .ok (.tuple #[.bool true, .int .i64 (i : Int), .int .i32 45]) W := hnx
                  clear hl hd HNX HNO k1 hzb hz0 HL HD hnx
                  go_wp2_with fail
                  refine (HL4.out _).mono ?_
                  rintro e w3 ⟨rfl, rfl⟩
                  go_wp2_with fail
                  refine (HD4.out _).mono ?_
                  rintro e w4 ⟨rfl, rfl⟩
                  go_wp2_with fail
                  refine ⟨⟨i + 1, HLT.out, HK1, HIT2, HFW⟩, ?_⟩
                  have h5 := HIT2.out
                  have h6 := HLT.out
                  rw [HPOS.out]
                  unfold World.iterPos
                  rw [h5]
                  show n - (i + 1) < n - i
                  omega
                · have hTf := HNO.out (by unfold okN; rw [hl, hd, hzb]; simpa using h45)
                  subst hTf
                  have hR45 : ((R : Int) != 45) = true := by rw [bne_iff_ne]; omega
                  have hzi : ((i : Int) == 0) = false := by rw [beq_eq_false_iff_ne]; exact hz1
                  clear hl hd HNX HNO hzb hz0 h45
                  go_wp2_with fail
                  refine (HL.out _).mono ?_
                  rintro e w3 ⟨rfl, rfl⟩
                  go_wp2_with fail
                  refine (HD.out _).mono ?_
                  rintro e w4 ⟨rfl, rfl⟩
                  go_wp2_with fail
                  go_ret
                  exact ⟨rfl, HFW.out⟩
        · obtain rfl : i = n := by omega
          have hTt : T = true := by
            rw [← HT.out]
            exact (typ_all (by rw [HNN.out]; exact h1) (by rw [HNN.out]; exact h2)).2 (by rw [HNN.out]; exact HOK.out)
          subst hTt
          have hnx : ∀ ty, (Instr.next (.pointer (some ⟨g, 0, none⟩)) true ty).run Tryz.prog wr = .ok (.tuple #[.bool false]) wr := fun ty => Lib.run_next_end_at wr g S i ty HIT.out (by rw [HZ.out]; omega)
          go_wp2_with fail
          go_ret
          exact ⟨rfl, HFR.out⟩
end Go.Proofs.YthjmkfpdbbfcpaaGreatDoor.DN
