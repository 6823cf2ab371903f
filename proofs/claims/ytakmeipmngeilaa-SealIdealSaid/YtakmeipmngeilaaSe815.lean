/-
  Part 15 of the proof: SeI.
-/
import Derived.Test.YtakmeipmngeilaaSe814
set_option linter.unusedVariables false
set_option linter.unusedSimpArgs false
set_option linter.unusedSectionVars false
namespace Go.Proofs.Ytakmeipmngeilaa.SE
set_option maxRecDepth 100000
open Go.RowKit K
variable [SH.Tab]

set_option maxHeartbeats 16000000 in
theorem sealIdeal_walk (w : World) (N : Int) (v : Value) (l : List Ac) (hN : -9223372036854775808 ≤ N ∧ N ≤ 9223372036854775807) (hl : Acts w v l) (hg : SH.Gl w) :
    Calls Try.prog 6 #[.int .i64 N, v] w fun e w' => e = .returned (.bool true) ∧ Fr No w w' := by
  obtain ⟨i5, hi5, hz5, hs5, hb5⟩ := Go.info_parts infoStr
  have I5 := hid hi5; have Z5 := hid hz5; have S5 := hid hs5; have B5 := hid hb5
  have HG := hid hg
  obtain ⟨al, cl, rfl, hll, hacts⟩ := hl
  obtain ⟨L, hL⟩ : ∃ L, l.length = L := ⟨_, rfl⟩
  rw [hL] at hll ⊢
  have hLi : (L : Int) ≤ 140737488355328 := by omega
  have HL := hid hL; have HA := hid hacts
  clear hg hll hL hacts hi5 hz5 hs5 hb5
  go_enter Try.func6, Try.ntmps6
  go_wp2_with fail
  refine (awake_any _ HG.out).mono ?_
  rintro e w1 ⟨rfl, hf1⟩
  have HF1 := hid hf1
  clear hf1
  go_wp2_with fail
  refine (newIdeal_any N hN _).mono ?_
  rintro e w2 hnew
  rcases hnew with ⟨h16, b, bm, rfl, hidx, hf2⟩ | ⟨h16, rfl, hf2⟩
  · obtain ⟨n, rfl⟩ : ∃ n : Nat, N = (n : Int) := ⟨N.toNat, by omega⟩
    have hn16 : n ≤ 16 := by omega
    have hni : (n : Int) ≤ 16 := h16.2
    have hidx' : IdAt w1 w2 b n 0 bm no := hidx
    have HX := hid hidx'; have HF2 := hid (HF1.out.trans' hf2); have HN := hid hn16
    have HS1 := hid (show w.heap.size ≤ w1.heap.size from HF1.out.size)
    clear hidx hidx' hf2 h16 HF1 hn16 hN
    go_wp2_with (first
      | ((with_reducible show wpList _ _ _ (⟨_, .build 47 _, _, _, _, _⟩ :: _) _ _); refine wpL_build rfl _ [(0, .tmp 51)] rfl (.agg #[.int .i64 (n : Int), .slice none 0 0]) (buildDoc _ _) ?_)
      | ((with_reducible show wpList _ _ _ (⟨_, .box 47 _, _, _, _, _⟩ :: _) _ _); refine wpL_box rfl _ _ rfl (.agg #[.int .i64 (n : Int), .slice none 0 0]) rfl [.int .i64 (n : Int), .slice none 0 0] rfl ?_; intro w3 HB3 HF3 HS3)
      | fail)
    obtain ⟨r, hr⟩ : ∃ r, w2.heap.size = r := ⟨_, rfl⟩
    have HI := hid (show Inv w w1 w2 w3 b r n 0 bm no [] (.slice none 0 0) [] from
      ⟨HX.out.no HF3.out, ⟨.slice none 0 0, by rw [← hr]; exact HB3.out, ⟨rfl, .inl ⟨rfl, rfl⟩⟩, by omega, fun g hg => by cases hg⟩, ⟨rfl, .inl ⟨rfl, rfl⟩⟩, HF2.out.trans' HF3.out, HS1.out, HF2.out.size, HF3.out.size⟩)
    have HD := hid (show Like n no [] ∧ Short no ∧ ([] : List Use).length ≤ 0 ∧ ([] : List S).length ≤ 0 ∧ ∀ x ∈ ([] : List S), x.size ≤ 1000 from ⟨like_nil n, no_short, Nat.le_refl _, Nat.le_refl _, fun x hx => by cases hx⟩)
    rw [hr]
    clear HX HF2 HB3 HF3 HS3 hr HS1
    go_loopw [10, 11] (fun tv i wr => ∃ (m mi : Nat) (fs : Nat → Mp) (us : List Use) (ta : Option Addr) (tc : Nat) (xs : List S), m ≤ L ∧ m ≤ 100 ∧ mi ≤ m ∧ tv = .slice ta xs.length tc ∧ i = .int .i64 m ∧
      Hid (Inv w w1 w2 wr b r n mi bm fs us (.slice ta xs.length tc) xs) ∧ Hid (Like n fs us ∧ Short fs ∧ us.length ≤ m ∧ xs.length ≤ m ∧ ∀ x ∈ xs, x.size ≤ 1000)) (fun _ i _ => 100 - (intOf i).toNat)
    case atStart => exact ⟨0, 0, no, [], none, 0, [], Nat.zero_le _, by omega, by omega, rfl, rfl, HI, HD⟩
    case round =>
      clear HI HD
      obtain ⟨m, mi, fs, us, ta, tc, xs, hmL, hm100, hmi, rfl, rfl, HI, HD⟩ := hrel
      by_cases hlt : m < L ∧ m < 100
      · obtain ⟨hlt1, hlt2⟩ := hlt
        have hi1 : (m : Int) < (L : Int) := by omega
        have hi2 : (m : Int) < 100 := by omega
        obtain ⟨x, hx⟩ : ∃ x, l[m]? = some x := ⟨_, List.getElem?_eq_getElem (by have := HL.out; omega)⟩
        obtain ⟨hok, g, o, rfl, hrow⟩ := HA.out m x hx
        have HOK := hid hok
        have HRow := hid (HI.out.fr.range hrow id)
        have HLT := hid (show m < L ∧ m < 100 from ⟨hlt1, hlt2⟩)
        have HMI := hid hmi
        clear hx hok hrow hlt1 hlt2 hmi hm100 hmL
        obtain ⟨d, t, k, nn, p⟩ := x
        have hmn : (xs.length : Int) ≤ 1000 := by have := HD.out.2.2.2.1; have := HLT.out; omega
        by_cases hd1 : d = 1
        · subst hd1
          go_wp2_with (first
            | ((with_reducible show wpList _ _ _ (⟨_, .load 49 _, _, _, _, _⟩ :: _) _ _); refine wpL_load rfl _ _ rfl g (o + m * 5) rfl (⟨1, t, k, nn, p⟩ : Ac).cells _ HRow.out Try.underlying49 rfl infoAct ?_)
            | ((with_reducible show wpList _ _ _ (⟨_, .alloc 49, _, _, _, _⟩ :: _) _ _); refine wpL_alloc rfl _ rfl _ zeroAct [.int .i64 0, .int .i64 0, .int .i64 0, .int .u64 0, .string ⟨#[]⟩] rfl ?_; intro w4 HB4 HF4 HS4)
            | ((with_reducible show wpList _ _ _ (⟨_, .store 49 _ _, _, _, _, _⟩ :: _) _ _); refine wpL_store rfl _ _ _ rfl wr.heap.size 0 (⟨1, t, k, nn, p⟩ : Ac).cells rfl rfl _ _ HB4.out (Nat.le_refl 5) infoAct (fun v hv => by simp [Ac.cells] at hv; rcases hv with rfl | rfl | rfl | rfl | rfl <;> rfl) ?_; intro w5 HB5 HF5 HS5; have q0 : w5.cell? ⟨wr.heap.size, 0, none⟩ = some (.int .i64 1) := HB5.out.cell 0; have q1 : w5.cell? ⟨wr.heap.size, 1, none⟩ = some (.int .i64 t) := HB5.out.cell 1; have q2 : w5.cell? ⟨wr.heap.size, 2, none⟩ = some (.int .i64 k) := HB5.out.cell 2; have q3 : w5.cell? ⟨wr.heap.size, 3, none⟩ = some (.int .u64 (nn : Int)) := HB5.out.cell 3; have q4 : w5.cell? ⟨wr.heap.size, 4, none⟩ = some (.string p) := HB5.out.cell 4)
            | fail)
          have hB5 := HB5.out
          rw [spl_whole _ _ (by rfl)] at hB5
          have HF05 := hid (show Fr No wr w5 from HF4.out.trans HF5.out fun j e => .inr (Nat.le_of_eq (by have : j = wr.heap.size := e; exact this.symm)))
          obtain ⟨ba, hba⟩ : ∃ b, wr.heap.size = b := ⟨_, rfl⟩
          rw [hba] at hB5 q0 q1 q2 q3 q4 ⊢
          have HA5 := hid hB5
          have HI5 := hid (HI.out.no HF05.out)
          clear HB4 HF4 HS4 HB5 HF5 HS5 hB5 hba HI HF05 HRow
          refine (idSeal_any w1 _ b n mi HN.out (by have := HMI.out; have := HLT.out; omega) bm fs HI5.out.id t HOK.out.2.1 nn HOK.out.2.2.2.1 p).mono ?_
          rintro e w6 ⟨rfl, hid6, hf6⟩
          rw [seal_like HD.out.1 t HOK.out.2.2.2.1 p]
          have HI6 := hid (HI5.out.pseal hf6 hid6)
          have HA6 := hid (Blk.sep HA5.out hf6 (sep_bms HI5.out.maps _))
          have r1 : w6.cell? ⟨ba, 1, none⟩ = some (.int .i64 t) := HA6.out.cell 1
          have r3 : w6.cell? ⟨ba, 3, none⟩ = some (.int .u64 (nn : Int)) := HA6.out.cell 3
          have r4 : w6.cell? ⟨ba, 4, none⟩ = some (.string p) := HA6.out.cell 4
          clear hid6 hf6 HI5 HA5 q0 q1 q2 q3 q4
          obtain ⟨R, hR⟩ : ∃ R, rsealL us n t nn p = R := ⟨_, rfl⟩
          have HRl := hid (show R.1.length ≤ 1000 by rw [← hR]; exact rseal_short us n t nn p)
          rw [hR]
          have HRR := hid hR
          clear hR
          unfold told
          go_wp2_with fail
          refine (rseal_any w2 _ r n us HI6.out.doc HI6.out.le3 HN.out t nn p HOK.out.2.2.2.1 (by have := HD.out.2.2.1; have := HLT.out; omega)).mono ?_
          rintro e w7 ⟨rfl, hd7, hf7⟩
          rw [HRR.out]
          have HI7 := hid (HI6.out.rseal hf7 hd7)
          clear hd7 hf7 HI6 HA6 r1 r3 r4
          have hse : ((sb R.1).toList == (sb R.1).toList) = true := by simp
          have HOw := hid HI7.out.told
          unfold told
          go_wp2_with (first
            | ((with_reducible show wpList _ _ _ (⟨_, .buildSlice 22 _ _, _, _, _, _⟩ :: _) _ _); refine wpL_buildOne rfl 22 9 _ rfl i5 _ Try.underlying22 I5.out Z5.out (by rw [S5.out]; decide) (by rw [S5.out]; decide) (.string (sb R.1)) [.string (sb R.1)] rfl rfl (by rw [S5.out]; rfl) ?_; intro w8 HB8 HF8 HS8; have HO8 := hid (own_fr HOw.out HF8.out (fun _ _ e => e)))
            | ((with_reducible show wpList _ _ _ (⟨_, .call { callee := .builtin .append, args := _, argTypes := _ }, _, _, _, _⟩ :: _) _ _); refine wpL_append rfl _ _ 22 rfl w.heap.size 9 i5 _ 1 16 Try.underlying22 I5.out Z5.out S5.out B5.out rfl (by decide) (.slice ta xs.length tc) xs.length (xs.map Value.string) rfl HO8.out (some ⟨w7.heap.size, 0, none⟩) 1 1 [.string (sb R.1)] rfl rfl (.inr ⟨_, rfl, HB8.out.news⟩) (fun u hu => by obtain rfl := List.mem_singleton.1 hu; rfl) (by have := HD.out.2.2.2.1; have := HLT.out; unfold maxLen; omega) (by have := HD.out.2.2.2.1; have := HLT.out; omega) (by have := HI7.out.fr.size; have := HF8.out.size; omega) ?_; intro a9 c9 w9 HO9 HG9 HX9)
            | fail)
          have hO9 := HO9.out
          rw [show xs.map Value.string ++ [.string (sb R.1)] = (xs ++ [sb R.1]).map Value.string by simp, show xs.length + 1 = (xs ++ [sb R.1]).length by simp] at hO9
          have HI9 := hid ((HI7.out.no HF8.out).tell (frGrown HG9.out) hO9)
          have HD' := hid (show Like n (inext fs n t nn p.data.toList) (rnext us n t nn p) ∧ Short (inext fs n t nn p.data.toList) ∧ (rnext us n t nn p).length ≤ m + 1 ∧ (xs ++ [sb R.1]).length ≤ m + 1 ∧ ∀ x ∈ xs ++ [sb R.1], x.size ≤ 1000 from
            ⟨next_like HD.out.1 t HOK.out.2.2.2.1 p, HD.out.2.1.next n t nn _, by have := rnext_length us n t nn p; have := HD.out.2.2.1; omega, by rw [List.length_append]; have := HD.out.2.2.2.1; exact Nat.succ_le_succ this, fun x hx => by
              rcases List.mem_append.1 hx with hx | hx
              · exact HD.out.2.2.2.2 x hx
              · obtain rfl := List.mem_singleton.1 hx
                rw [sb_size]; exact HRl.out⟩)
          have hln : (xs.length + 1) = (xs ++ [sb R.1]).length := by simp
          rw [hln]
          have HLN := hid hln
          clear HI7 HOw HB8 HF8 HS8 HO8 HO9 HG9 HX9 hO9 HD hln hse
          go_wp2_with fail
          go_roundw
          case rel => exact ⟨m + 1, mi + 1, inext fs n t nn p.data.toList, rnext us n t nn p, a9, c9, xs ++ [sb R.1], by have := HLT.out; omega, by have := HLT.out; omega, by have := HMI.out; omega, rfl, by go_num, HI9, HD'⟩
          case measure => simp [intOf]; have := HLT.out; omega
        · have hb1 : (d == 1) = false := beq_false_of_ne hd1
          clear hd1
          by_cases hd2 : d = 2 ∧ 0 ≤ k ∧ k < (xs.length : Int)
          · obtain ⟨rfl, hk0, hk1⟩ := hd2
            obtain ⟨kn, rfl⟩ : ∃ kn : Nat, k = (kn : Int) := ⟨k.toNat, by omega⟩
            obtain ⟨q, hq⟩ : ∃ q, xs[kn]? = some q := ⟨_, List.getElem?_eq_getElem (by omega)⟩
            obtain ⟨gt, rfl, hct⟩ : ∃ gt, ta = some ⟨gt, 0, none⟩ ∧ wr.cell? ⟨gt, kn, none⟩ = some (.string q) := by
              have h := HI.out.told
              obtain ⟨a', c', e, -, h1⟩ := own_form h
              cases e
              obtain ⟨gt, rfl⟩ := h1 (by omega)
              exact ⟨gt, rfl, (own_at h kn _ (by rw [List.getElem?_map, hq]; rfl)).1⟩
            have HCT := hid hct
            have HQZ := hid (HD.out.2.2.2.2 q (List.mem_of_getElem? hq))
            clear hct hq hb1 hk0
            go_wp2_with (first
              | ((with_reducible show wpList _ _ _ (⟨_, .load 49 _, _, _, _, _⟩ :: _) _ _); refine wpL_load rfl _ _ rfl g (o + m * 5) rfl (⟨2, t, (kn : Int), nn, p⟩ : Ac).cells _ HRow.out Try.underlying49 rfl infoAct ?_)
              | ((with_reducible show wpList _ _ _ (⟨_, .alloc 49, _, _, _, _⟩ :: _) _ _); refine wpL_alloc rfl _ rfl _ zeroAct [.int .i64 0, .int .i64 0, .int .i64 0, .int .u64 0, .string ⟨#[]⟩] rfl ?_; intro w4 HB4 HF4 HS4)
              | ((with_reducible show wpList _ _ _ (⟨_, .store 49 _ _, _, _, _, _⟩ :: _) _ _); refine wpL_store rfl _ _ _ rfl wr.heap.size 0 (⟨2, t, (kn : Int), nn, p⟩ : Ac).cells rfl rfl _ _ HB4.out (Nat.le_refl 5) infoAct (fun v hv => by simp [Ac.cells] at hv; rcases hv with rfl | rfl | rfl | rfl | rfl <;> rfl) ?_; intro w5 HB5 HF5 HS5; have q0 : w5.cell? ⟨wr.heap.size, 0, none⟩ = some (.int .i64 2) := HB5.out.cell 0; have q1 : w5.cell? ⟨wr.heap.size, 1, none⟩ = some (.int .i64 t) := HB5.out.cell 1; have q2 : w5.cell? ⟨wr.heap.size, 2, none⟩ = some (.int .i64 (kn : Int)) := HB5.out.cell 2; have q3 : w5.cell? ⟨wr.heap.size, 3, none⟩ = some (.int .u64 (nn : Int)) := HB5.out.cell 3; have qt : w5.cell? ⟨gt, kn, none⟩ = some (.string q) := (HF4.out.trans HF5.out (fun j e => .inr (Nat.le_of_eq (by have : j = wr.heap.size := e; exact this.symm)))).cell HCT.out id; have q4 : w5.cell? ⟨wr.heap.size, 4, none⟩ = some (.string p) := HB5.out.cell 4)
              | fail)
            have hB5 := HB5.out
            rw [spl_whole _ _ (by rfl)] at hB5
            have HF05 := hid (show Fr No wr w5 from HF4.out.trans HF5.out fun j e => .inr (Nat.le_of_eq (by have : j = wr.heap.size := e; exact this.symm)))
            obtain ⟨ba, hba⟩ : ∃ b, wr.heap.size = b := ⟨_, rfl⟩
            rw [hba] at hB5 q0 q1 q2 q3 q4 ⊢
            have HA5 := hid hB5
            have HI5 := hid (HI.out.no HF05.out)
            clear qt HCT HB4 HF4 HS4 HB5 HF5 HS5 hB5 hba HI HF05 HRow
            refine (idOpen_any w1 _ b n mi HN.out bm fs HD.out.2.1 HI5.out.id t HOK.out.2.1 q (by have := HQZ.out; omega)).mono ?_
            rintro e w6 ⟨rfl, hf6⟩
            rw [open_like HD.out.1]
            have HI6 := hid (HI5.out.no hf6)
            have HA6 := hid (HA5.out.fr hf6 id)
            have r1 : w6.cell? ⟨ba, 1, none⟩ = some (.int .i64 t) := HA6.out.cell 1
            clear hf6 HI5 HA5 q0 q1 q2 q3 q4
            obtain ⟨R, hR⟩ : ∃ R, ropenL us n t (q).data.toList = R := ⟨_, rfl⟩
            rw [hR]
            have HRR := hid hR
            clear hR
            unfold told
            go_wp2_with fail
            refine (ropenL_any w2 _ r n us HI6.out.doc HN.out (by have := HD.out.2.2.1; have := HLT.out; omega) HD.out.1.ok t HOK.out.2.1 q).mono ?_
            rintro e w7 ⟨rfl, hf7⟩
            rw [HRR.out]
            have HI7 := hid (HI6.out.no hf7)
            clear hf7 HI6 HA6 r1
            have hse : ((sb R.1).toList == (sb R.1).toList) = true := by simp
            have HD' := hid (show Like n fs us ∧ Short fs ∧ us.length ≤ m + 1 ∧ xs.length ≤ m + 1 ∧ ∀ x ∈ xs, x.size ≤ 1000 from
              ⟨HD.out.1, HD.out.2.1, by have := HD.out.2.2.1; omega, by have := HD.out.2.2.2.1; omega, HD.out.2.2.2.2⟩)
            clear HD
            unfold told
            go_wp2_with fail
            go_roundw
            case rel => exact ⟨m + 1, mi, fs, us, some ⟨gt, 0, none⟩, tc, xs, by have := HLT.out; omega, by have := HLT.out; omega, by have := HMI.out; omega, rfl, by go_num, HI7, HD'⟩
            case measure => simp [intOf]; have := HLT.out; omega
          · have hk : (d == 2) = false ∨ ((d == 2) = true ∧ k < 0) ∨ ((d == 2) = true ∧ 0 ≤ k ∧ (xs.length : Int) ≤ k) := by
              by_cases h2 : d = 2
              · subst h2
                by_cases h0 : k < 0
                · exact .inr (.inl ⟨rfl, h0⟩)
                · exact .inr (.inr ⟨rfl, by omega, by omega⟩)
              · exact .inl (beq_false_of_ne h2)
            clear hd2
            rcases hk with hk | ⟨hk, hk1⟩ | ⟨hk, hk0, hk1⟩
            · skip
              go_wp2_with (first
                | ((with_reducible show wpList _ _ _ (⟨_, .load 49 _, _, _, _, _⟩ :: _) _ _); refine wpL_load rfl _ _ rfl g (o + m * 5) rfl (⟨d, t, k, nn, p⟩ : Ac).cells _ HRow.out Try.underlying49 rfl infoAct ?_)
                | ((with_reducible show wpList _ _ _ (⟨_, .alloc 49, _, _, _, _⟩ :: _) _ _); refine wpL_alloc rfl _ rfl _ zeroAct [.int .i64 0, .int .i64 0, .int .i64 0, .int .u64 0, .string ⟨#[]⟩] rfl ?_; intro w4 HB4 HF4 HS4)
                | ((with_reducible show wpList _ _ _ (⟨_, .store 49 _ _, _, _, _, _⟩ :: _) _ _); refine wpL_store rfl _ _ _ rfl wr.heap.size 0 (⟨d, t, k, nn, p⟩ : Ac).cells rfl rfl _ _ HB4.out (Nat.le_refl 5) infoAct (fun v hv => by simp [Ac.cells] at hv; rcases hv with rfl | rfl | rfl | rfl | rfl <;> rfl) ?_; intro w5 HB5 HF5 HS5; have q0 : w5.cell? ⟨wr.heap.size, 0, none⟩ = some (.int .i64 d) := HB5.out.cell 0; have q1 : w5.cell? ⟨wr.heap.size, 1, none⟩ = some (.int .i64 t) := HB5.out.cell 1; have q2 : w5.cell? ⟨wr.heap.size, 2, none⟩ = some (.int .i64 k) := HB5.out.cell 2; have q3 : w5.cell? ⟨wr.heap.size, 3, none⟩ = some (.int .u64 (nn : Int)) := HB5.out.cell 3; have q4 : w5.cell? ⟨wr.heap.size, 4, none⟩ = some (.string p) := HB5.out.cell 4)
                | fail)
              have hB5 := HB5.out
              rw [spl_whole _ _ (by rfl)] at hB5
              have HF05 := hid (show Fr No wr w5 from HF4.out.trans HF5.out fun j e => .inr (Nat.le_of_eq (by have : j = wr.heap.size := e; exact this.symm)))
              obtain ⟨ba, hba⟩ : ∃ b, wr.heap.size = b := ⟨_, rfl⟩
              rw [hba] at hB5 q0 q1 q2 q3 q4 ⊢
              have HA5 := hid hB5
              have HI5 := hid (HI.out.no HF05.out)
              clear HB4 HF4 HS4 HB5 HF5 HS5 hB5 hba HI HF05 HRow
              refine (idOpen_any w1 _ b n mi HN.out bm fs HD.out.2.1 HI5.out.id t HOK.out.2.1 p HOK.out.2.2.2.2).mono ?_
              rintro e w6 ⟨rfl, hf6⟩
              rw [open_like HD.out.1]
              have HI6 := hid (HI5.out.no hf6)
              have HA6 := hid (HA5.out.fr hf6 id)
              have r1 : w6.cell? ⟨ba, 1, none⟩ = some (.int .i64 t) := HA6.out.cell 1
              clear hf6 HI5 HA5 q0 q1 q2 q3 q4
              obtain ⟨R, hR⟩ : ∃ R, ropenL us n t (p).data.toList = R := ⟨_, rfl⟩
              rw [hR]
              have HRR := hid hR
              clear hR
              unfold told
              go_wp2_with fail
              refine (ropenL_any w2 _ r n us HI6.out.doc HN.out (by have := HD.out.2.2.1; have := HLT.out; omega) HD.out.1.ok t HOK.out.2.1 p).mono ?_
              rintro e w7 ⟨rfl, hf7⟩
              rw [HRR.out]
              have HI7 := hid (HI6.out.no hf7)
              clear hf7 HI6 HA6 r1
              have hse : ((sb R.1).toList == (sb R.1).toList) = true := by simp
              have HD' := hid (show Like n fs us ∧ Short fs ∧ us.length ≤ m + 1 ∧ xs.length ≤ m + 1 ∧ ∀ x ∈ xs, x.size ≤ 1000 from
                ⟨HD.out.1, HD.out.2.1, by have := HD.out.2.2.1; omega, by have := HD.out.2.2.2.1; omega, HD.out.2.2.2.2⟩)
              clear HD
              unfold told
              go_wp2_with fail
              go_roundw
              case rel => exact ⟨m + 1, mi, fs, us, ta, tc, xs, by have := HLT.out; omega, by have := HLT.out; omega, by have := HMI.out; omega, rfl, by go_num, HI7, HD'⟩
              case measure => simp [intOf]; have := HLT.out; omega
            · skip
              go_wp2_with (first
                | ((with_reducible show wpList _ _ _ (⟨_, .load 49 _, _, _, _, _⟩ :: _) _ _); refine wpL_load rfl _ _ rfl g (o + m * 5) rfl (⟨d, t, k, nn, p⟩ : Ac).cells _ HRow.out Try.underlying49 rfl infoAct ?_)
                | ((with_reducible show wpList _ _ _ (⟨_, .alloc 49, _, _, _, _⟩ :: _) _ _); refine wpL_alloc rfl _ rfl _ zeroAct [.int .i64 0, .int .i64 0, .int .i64 0, .int .u64 0, .string ⟨#[]⟩] rfl ?_; intro w4 HB4 HF4 HS4)
                | ((with_reducible show wpList _ _ _ (⟨_, .store 49 _ _, _, _, _, _⟩ :: _) _ _); refine wpL_store rfl _ _ _ rfl wr.heap.size 0 (⟨d, t, k, nn, p⟩ : Ac).cells rfl rfl _ _ HB4.out (Nat.le_refl 5) infoAct (fun v hv => by simp [Ac.cells] at hv; rcases hv with rfl | rfl | rfl | rfl | rfl <;> rfl) ?_; intro w5 HB5 HF5 HS5; have q0 : w5.cell? ⟨wr.heap.size, 0, none⟩ = some (.int .i64 d) := HB5.out.cell 0; have q1 : w5.cell? ⟨wr.heap.size, 1, none⟩ = some (.int .i64 t) := HB5.out.cell 1; have q2 : w5.cell? ⟨wr.heap.size, 2, none⟩ = some (.int .i64 k) := HB5.out.cell 2; have q3 : w5.cell? ⟨wr.heap.size, 3, none⟩ = some (.int .u64 (nn : Int)) := HB5.out.cell 3; have q4 : w5.cell? ⟨wr.heap.size, 4, none⟩ = some (.string p) := HB5.out.cell 4)
                | fail)
              have hB5 := HB5.out
              rw [spl_whole _ _ (by rfl)] at hB5
              have HF05 := hid (show Fr No wr w5 from HF4.out.trans HF5.out fun j e => .inr (Nat.le_of_eq (by have : j = wr.heap.size := e; exact this.symm)))
              obtain ⟨ba, hba⟩ : ∃ b, wr.heap.size = b := ⟨_, rfl⟩
              rw [hba] at hB5 q0 q1 q2 q3 q4 ⊢
              have HA5 := hid hB5
              have HI5 := hid (HI.out.no HF05.out)
              clear HB4 HF4 HS4 HB5 HF5 HS5 hB5 hba HI HF05 HRow
              refine (idOpen_any w1 _ b n mi HN.out bm fs HD.out.2.1 HI5.out.id t HOK.out.2.1 p HOK.out.2.2.2.2).mono ?_
              rintro e w6 ⟨rfl, hf6⟩
              rw [open_like HD.out.1]
              have HI6 := hid (HI5.out.no hf6)
              have HA6 := hid (HA5.out.fr hf6 id)
              have r1 : w6.cell? ⟨ba, 1, none⟩ = some (.int .i64 t) := HA6.out.cell 1
              clear hf6 HI5 HA5 q0 q1 q2 q3 q4
              obtain ⟨R, hR⟩ : ∃ R, ropenL us n t (p).data.toList = R := ⟨_, rfl⟩
              rw [hR]
              have HRR := hid hR
              clear hR
              unfold told
              go_wp2_with fail
              refine (ropenL_any w2 _ r n us HI6.out.doc HN.out (by have := HD.out.2.2.1; have := HLT.out; omega) HD.out.1.ok t HOK.out.2.1 p).mono ?_
              rintro e w7 ⟨rfl, hf7⟩
              rw [HRR.out]
              have HI7 := hid (HI6.out.no hf7)
              clear hf7 HI6 HA6 r1
              have hse : ((sb R.1).toList == (sb R.1).toList) = true := by simp
              have HD' := hid (show Like n fs us ∧ Short fs ∧ us.length ≤ m + 1 ∧ xs.length ≤ m + 1 ∧ ∀ x ∈ xs, x.size ≤ 1000 from
                ⟨HD.out.1, HD.out.2.1, by have := HD.out.2.2.1; omega, by have := HD.out.2.2.2.1; omega, HD.out.2.2.2.2⟩)
              clear HD
              unfold told
              go_wp2_with fail
              go_roundw
              case rel => exact ⟨m + 1, mi, fs, us, ta, tc, xs, by have := HLT.out; omega, by have := HLT.out; omega, by have := HMI.out; omega, rfl, by go_num, HI7, HD'⟩
              case measure => simp [intOf]; have := HLT.out; omega
            · skip
              go_wp2_with (first
                | ((with_reducible show wpList _ _ _ (⟨_, .load 49 _, _, _, _, _⟩ :: _) _ _); refine wpL_load rfl _ _ rfl g (o + m * 5) rfl (⟨d, t, k, nn, p⟩ : Ac).cells _ HRow.out Try.underlying49 rfl infoAct ?_)
                | ((with_reducible show wpList _ _ _ (⟨_, .alloc 49, _, _, _, _⟩ :: _) _ _); refine wpL_alloc rfl _ rfl _ zeroAct [.int .i64 0, .int .i64 0, .int .i64 0, .int .u64 0, .string ⟨#[]⟩] rfl ?_; intro w4 HB4 HF4 HS4)
                | ((with_reducible show wpList _ _ _ (⟨_, .store 49 _ _, _, _, _, _⟩ :: _) _ _); refine wpL_store rfl _ _ _ rfl wr.heap.size 0 (⟨d, t, k, nn, p⟩ : Ac).cells rfl rfl _ _ HB4.out (Nat.le_refl 5) infoAct (fun v hv => by simp [Ac.cells] at hv; rcases hv with rfl | rfl | rfl | rfl | rfl <;> rfl) ?_; intro w5 HB5 HF5 HS5; have q0 : w5.cell? ⟨wr.heap.size, 0, none⟩ = some (.int .i64 d) := HB5.out.cell 0; have q1 : w5.cell? ⟨wr.heap.size, 1, none⟩ = some (.int .i64 t) := HB5.out.cell 1; have q2 : w5.cell? ⟨wr.heap.size, 2, none⟩ = some (.int .i64 k) := HB5.out.cell 2; have q3 : w5.cell? ⟨wr.heap.size, 3, none⟩ = some (.int .u64 (nn : Int)) := HB5.out.cell 3; have q4 : w5.cell? ⟨wr.heap.size, 4, none⟩ = some (.string p) := HB5.out.cell 4)
                | fail)
              have hB5 := HB5.out
              rw [spl_whole _ _ (by rfl)] at hB5
              have HF05 := hid (show Fr No wr w5 from HF4.out.trans HF5.out fun j e => .inr (Nat.le_of_eq (by have : j = wr.heap.size := e; exact this.symm)))
              obtain ⟨ba, hba⟩ : ∃ b, wr.heap.size = b := ⟨_, rfl⟩
              rw [hba] at hB5 q0 q1 q2 q3 q4 ⊢
              have HA5 := hid hB5
              have HI5 := hid (HI.out.no HF05.out)
              clear HB4 HF4 HS4 HB5 HF5 HS5 hB5 hba HI HF05 HRow
              refine (idOpen_any w1 _ b n mi HN.out bm fs HD.out.2.1 HI5.out.id t HOK.out.2.1 p HOK.out.2.2.2.2).mono ?_
              rintro e w6 ⟨rfl, hf6⟩
              rw [open_like HD.out.1]
              have HI6 := hid (HI5.out.no hf6)
              have HA6 := hid (HA5.out.fr hf6 id)
              have r1 : w6.cell? ⟨ba, 1, none⟩ = some (.int .i64 t) := HA6.out.cell 1
              clear hf6 HI5 HA5 q0 q1 q2 q3 q4
              obtain ⟨R, hR⟩ : ∃ R, ropenL us n t (p).data.toList = R := ⟨_, rfl⟩
              rw [hR]
              have HRR := hid hR
              clear hR
              unfold told
              go_wp2_with fail
              refine (ropenL_any w2 _ r n us HI6.out.doc HN.out (by have := HD.out.2.2.1; have := HLT.out; omega) HD.out.1.ok t HOK.out.2.1 p).mono ?_
              rintro e w7 ⟨rfl, hf7⟩
              rw [HRR.out]
              have HI7 := hid (HI6.out.no hf7)
              clear hf7 HI6 HA6 r1
              have hse : ((sb R.1).toList == (sb R.1).toList) = true := by simp
              have HD' := hid (show Like n fs us ∧ Short fs ∧ us.length ≤ m + 1 ∧ xs.length ≤ m + 1 ∧ ∀ x ∈ xs, x.size ≤ 1000 from
                ⟨HD.out.1, HD.out.2.1, by have := HD.out.2.2.1; omega, by have := HD.out.2.2.2.1; omega, HD.out.2.2.2.2⟩)
              clear HD
              unfold told
              go_wp2_with fail
              go_roundw
              case rel => exact ⟨m + 1, mi, fs, us, ta, tc, xs, by have := HLT.out; omega, by have := HLT.out; omega, by have := HMI.out; omega, rfl, by go_num, HI7, HD'⟩
              case measure => simp [intOf]; have := HLT.out; omega
      · have hlt' : L ≤ m ∨ 100 ≤ m := by omega
        have hF := HI.out.fr
        have HF := hid hF
        clear hlt hF
        by_cases hL' : L ≤ m
        · have hLe : (L : Int) ≤ (m : Int) := by omega
          clear hlt'
          go_wp2_with fail
          go_ret
          exact ⟨rfl, HF.out⟩
        · have hLe : (m : Int) < (L : Int) := by omega
          have h100 : (100 : Int) ≤ (m : Int) := by omega
          clear hlt' hL'
          go_wp2_with fail
          go_ret
          exact ⟨rfl, HF.out⟩
  · have HF2 := hid (HF1.out.trans' hf2)
    have h16' : N < 0 ∨ 16 < N := by omega
    clear hf2 h16
    rcases h16' with h | h
    · go_wp2_with fail
      go_ret
      exact ⟨rfl, HF2.out⟩
    · have h0 : 0 ≤ N := by omega
      go_wp2_with fail
      go_ret
      exact ⟨rfl, HF2.out⟩
end Go.Proofs.Ytakmeipmngeilaa.SE
