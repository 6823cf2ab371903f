/-
  Part 21 of the proof: FtPt, FtE.
-/
import Derived.Test.YtdkkpfeiaaffhaaGreatDoorFe17
import Derived.Test.YtdkkpfeiaaffhaaGreatDoorFe18
import Derived.Test.YtdkkpfeiaaffhaaGreatDoorFe20
set_option linter.unusedSimpArgs false
set_option linter.unusedVariables false
namespace Go.Proofs.YtdkkpfeiaaffhaaGreatDoor.FT
set_option maxRecDepth 100000
open Go.RowKit K Go.Proofs.YtdkkpfeiaaffhaaGreatDoor.BE Go.Proofs.YtdkkpfeiaaffhaaGreatDoor.DN Go.Proofs.YtdkkpfeiaaffhaaGreatDoor.SC

/-- Was the last one a blank? -/
def lst (b : Bool) (l : B) : Bool := (l.getLast?.map (· == 32)).getD b
theorem lst_cons (b : Bool) (x : UInt8) (r : B) : lst b (x :: r) = lst (x == 32) r := by
  unfold lst
  rw [List.getLast?_cons]
  cases r.getLast? <;> rfl
theorem sqF_snoc (c : UInt8) : ∀ (l : B) (b : Bool), sqF b (l ++ [c]) = sqF b l ++ (if c = 32 then (if lst b l then [] else [32]) else [c])
  | [], b => by
    show sqF b [c] = _
    unfold sqF lst
    by_cases hc : c = 32
    · rw [if_pos hc, if_pos hc]; cases b <;> rfl
    · rw [if_neg hc, if_neg hc]; rfl
  | x :: r, b => by
    rw [lst_cons]
    show sqF b (x :: (r ++ [c])) = _
    by_cases hx : x = 32
    · subst hx
      have h := sqF_snoc c r true
      cases b <;> simp [sqF, h]
    · have h := sqF_snoc c r false
      have e : (x == 32) = false := by simpa using hx
      simp [sqF, hx, h, e]
theorem lst_out : ∀ (l : B) (b : Bool), lst b (sqF b l) = lst b l
  | [], _ => rfl
  | x :: r, b => by
    rw [lst_cons]
    unfold sqF
    by_cases hx : x = 32
    · subst hx
      rw [if_pos rfl, show ((32 : UInt8) == 32) = true from rfl]
      cases b with
      | true => rw [if_pos rfl]; exact lst_out r true
      | false => rw [if_neg (by decide), lst_cons]; exact lst_out r true
    · have e : (x == 32) = false := by simpa using hx
      rw [if_neg hx, lst_cons, e]
      exact lst_out r false
theorem sq_take (l : B) (i : Nat) (c : UInt8) (hc : l[i]? = some c) : sqF false (l.take (i + 1)) = sqF false (l.take i) ++ (if c = 32 then (if lst false (sqF false (l.take i)) then [] else [32]) else [c]) := by
  rw [List.take_add_one, hc, Option.toList_some, sqF_snoc, lst_out]
set_option maxHeartbeats 16000000 in
theorem rsqueeze_any (p : B) (hp : Sm p) (w : World) : Calls Tryz.prog 28 #[.string (sb p)] w fun e w' => e = .returned (.string (sb (squeeze p))) ∧ Fr No w w' := by
  have HSM := hid (smallZ_any p (by unfold Sm at hp; unfold Sz; omega) w)
  obtain ⟨l, hl⟩ : ∃ l, low p = l := ⟨_, rfl⟩
  have hq : squeeze p = sqF false l := by unfold squeeze; rw [hl]
  have hll : l.length ≤ 4294967000 := by rw [← hl, low_length]; exact hp
  rw [hq]
  rw [hl] at HSM
  obtain ⟨S, hS⟩ : ∃ S, sb l = S := ⟨_, rfl⟩
  obtain ⟨n, hn⟩ : ∃ n, l.length = n := ⟨_, rfl⟩
  have hsz : (S.size : Int) = n := by rw [← hS, sb_size, hn]
  have hni : (n : Int) ≤ 4294967000 := by omega
  have HS := hid hS; have HN := hid hn
  rw [hS] at HSM
  clear hS hn hp hq hl hll
  go_enter Tryz.func28, Tryz.ntmps28
  go_wp2_with fail
  refine HSM.out.mono ?_
  rintro e w1 ⟨rfl, f1⟩
  have HF1 := hid f1
  clear f1 HSM
  go_wp2_with fail
  go_loopw [4, 5] (fun dv iv wr => ∃ (i al : Nat), iv = .int .i64 i ∧ i ≤ n ∧ al ≤ n ∧ Hid (OwR 5 1 w wr dv al (u8s (sqF false (l.take i)))) ∧ Hid ((sqF false (l.take i)).length = al)) (fun _ iv _ => n - (intOf iv).toNat)
  case atStart => exact ⟨0, 0, rfl, Nat.zero_le _, Nat.zero_le _, hid (owR_nil HF1.out), hid rfl⟩
  case round =>
    obtain ⟨i, al, rfl, hi, hal, HO, HAL⟩ := hrel
    obtain ⟨va, vc, rfl⟩ := HO.out.1
    have hali : (al : Int) ≤ 4294967000 := by omega
    by_cases hlt : i < n
    · obtain ⟨c, hc⟩ : ∃ c, l[i]? = some c := ⟨_, List.getElem?_eq_getElem (by rw [HN.out]; exact hlt)⟩
      have hlti : (i : Int) < n := by omega
      have hi0 : (0 : Int) ≤ i := by omega
      have HLT := hid hlt
      have HNX := hid (sq_take l i c hc)
      have HC := hid hc
      have HLN : Hid ((sqF false (l.take (i + 1))).length ≤ n) := hid (by have := sq_len false (l.take (i + 1)); rw [List.length_take] at this; have := HN.out; omega)
      clear hc hlt hal
      by_cases h32 : c = 32
      · subst h32
        have h32c : (((32 : UInt8).toNat : Int) == 32) = true := rfl
        obtain ⟨m, hm⟩ : ∃ m, al = m := ⟨_, rfl⟩
        cases hm2 : m with
        | zero =>
          obtain rfl : al = 0 := by omega
          have HE : Hid (sqF false (l.take (i + 1)) = sqF false (l.take i) ++ [32]) := hid (by
            have h := HNX.out
            have h0 : sqF false (l.take i) = [] := List.eq_nil_of_length_eq_zero HAL.out
            rw [h0] at h
            rw [h, h0]; rfl)
          clear hm hm2
          go_wp2_with (first
            | ((with_reducible refine K.atO (.index 9 _ _) ?_); refine wpL_valZ (by rfl) (.int .u8 32) (exec_idxB _ _ rfl l HS.out i 32 HC.out _ rfl rfl rfl _) ?_)
            | ((with_reducible refine K.atO (.buildSlice 119 _ _) ?_); refine wpL_app1 rfl rfl _ _ _ 119 5 rfl rfl Tryz.underlying119 infoU rfl (by decide) (by decide) HO.out (.int .u8 32) [.int .u8 32] rfl rfl rfl (by simp [Value.oneCell']) (fun _ => rfl) (fun _ => rfl) (by omega) (by omega) ?_; intro q a4 c4 w4 HO4 HF4)
            | fail)
          have HL4 : Hid ((sqF false (l.take (i + 1))).length = 1) := hid (by rw [HE.out, List.length_append, HAL.out]; rfl)
          refine ⟨⟨i + 1, 1, by go_num, HLT.out, by rw [← HL4.out]; exact HLN.out, hid ?_, HL4⟩, by have := HLT.out; simp [intOf]; omega⟩
          have h := HO4.out
          rw [HE.out]
          rwa [show u8s (sqF false (l.take i)) ++ [Value.int .u8 32] = u8s (sqF false (l.take i) ++ [32]) by simp [u8s]] at h
        | succ m =>
          obtain rfl : al = m + 1 := by omega
          obtain ⟨x, hx⟩ : ∃ x, (sqF false (l.take i))[m]? = some x := ⟨_, List.getElem?_eq_getElem (by rw [HAL.out]; omega)⟩
          have hlx : lst false (sqF false (l.take i)) = (x == 32) := by
            unfold lst
            rw [List.getLast?_eq_getElem?, HAL.out, Nat.add_sub_cancel, hx]; rfl
          have HLX := hid hlx
          obtain ⟨a2, cap2, e2, -, hor⟩ := HO.out.reads
          rcases hor with h0 | ⟨g, rfl, -, -, hr⟩
          · omega
          simp only [Value.slice.injEq, true_and] at e2
          obtain ⟨rfl, rfl⟩ := e2
          have cx : wr.cell? ⟨g, m, none⟩ = some (.int .u8 (x.toNat : Int)) := by
            have := hr m (.int .u8 (x.toNat : Int)) (by simp [u8s, hx])
            simpa using this
          clear hx hlx hr hm hm2
          by_cases hx32 : x = 32
          · subst hx32
            have HE : Hid (sqF false (l.take (i + 1)) = sqF false (l.take i)) := hid (by
              have h := HNX.out
              rw [HLX.out] at h
              rw [h]; simp)
            go_wp2_with (first
              | ((with_reducible refine K.atO (.index 9 _ _) ?_); refine wpL_valZ (by rfl) (.int .u8 32) (exec_idxB _ _ rfl l HS.out i 32 HC.out _ rfl rfl rfl _) ?_)
              | fail)
            refine ⟨⟨i + 1, m + 1, by go_num, HLT.out, by rw [← HAL.out, ← HE.out]; exact HLN.out, hid (by rw [HE.out]; exact HO.out), hid (by rw [HE.out]; exact HAL.out)⟩, by have := HLT.out; simp [intOf]; omega⟩
          · have hx33 : ((x.toNat : Int) == 32) = false := beqN (fun e => hx32 (UInt8.toNat_inj.1 (by have : (32 : UInt8).toNat = 32 := rfl; omega)))
            have HE : Hid (sqF false (l.take (i + 1)) = sqF false (l.take i) ++ [32]) := hid (by
              have h := HNX.out
              have e : (x == 32) = false := by simpa using hx32
              rw [HLX.out, e] at h
              rw [h]; rfl)
            clear hx32
            go_wp2_with (first
              | ((with_reducible refine K.atO (.index 9 _ _) ?_); refine wpL_valZ (by rfl) (.int .u8 32) (exec_idxB _ _ rfl l HS.out i 32 HC.out _ rfl rfl rfl _) ?_)
              | ((with_reducible refine K.atO (.buildSlice 119 _ _) ?_); refine wpL_app1 rfl rfl _ _ _ 119 5 rfl rfl Tryz.underlying119 infoU rfl (by decide) (by decide) HO.out (.int .u8 32) [.int .u8 32] rfl rfl rfl (by simp [Value.oneCell']) (fun _ => rfl) (fun _ => rfl) (by omega) (by omega) ?_; intro q a4 c4 w4 HO4 HF4)
              | fail)
            have HL4 : Hid ((sqF false (l.take (i + 1))).length = m + 1 + 1) := hid (by rw [HE.out, List.length_append, HAL.out]; rfl)
            refine ⟨⟨i + 1, m + 1 + 1, by go_num, HLT.out, by rw [← HL4.out]; exact HLN.out, hid ?_, HL4⟩, by have := HLT.out; simp [intOf]; omega⟩
            have h := HO4.out
            rw [HE.out]
            rwa [show u8s (sqF false (l.take i)) ++ [Value.int .u8 32] = u8s (sqF false (l.take i) ++ [32]) by simp [u8s]] at h
      · have hc33 : ((c.toNat : Int) == 32) = false := beqN (fun e => h32 (UInt8.toNat_inj.1 (by have : (32 : UInt8).toNat = 32 := rfl; omega)))
        have HE : Hid (sqF false (l.take (i + 1)) = sqF false (l.take i) ++ [c]) := hid (by rw [HNX.out, if_neg h32])
        clear h32
        go_wp2_with (first
          | ((with_reducible refine K.atO (.index 9 _ _) ?_); refine wpL_valZ (by rfl) (.int .u8 (c.toNat : Int)) (exec_idxB _ _ rfl l HS.out i c HC.out _ rfl rfl rfl _) ?_)
          | ((with_reducible refine K.atO (.buildSlice 119 _ _) ?_); refine wpL_app1 rfl rfl _ _ _ 119 5 rfl rfl Tryz.underlying119 infoU rfl (by decide) (by decide) HO.out (.int .u8 (c.toNat : Int)) [.int .u8 (c.toNat : Int)] rfl rfl rfl (by simp [Value.oneCell']) (fun _ => rfl) (fun _ => rfl) (by omega) (by omega) ?_; intro q a4 c4 w4 HO4 HF4)
          | fail)
        have HL4 : Hid ((sqF false (l.take (i + 1))).length = al + 1) := hid (by rw [HE.out, List.length_append, HAL.out]; rfl)
        refine ⟨⟨i + 1, al + 1, by go_num, HLT.out, by rw [← HL4.out]; exact HLN.out, hid ?_, HL4⟩, by have := HLT.out; simp [intOf]; omega⟩
        have h := HO4.out
        rw [HE.out]
        rwa [show u8s (sqF false (l.take i)) ++ [Value.int .u8 (c.toNat : Int)] = u8s (sqF false (l.take i) ++ [c]) by simp [u8s]] at h
    · obtain rfl : i = n := by omega
      have hall : l.take i = l := List.take_of_length_le (by rw [HN.out]; exact Nat.le_refl _)
      have HO2 : Hid (OwR 5 1 w wr (.slice va al vc) (sqF false l).length (u8s (sqF false l))) := hid (by have h := HO.out; have h2 := HAL.out; rw [hall] at h h2; rw [h2]; exact h)
      have HDEN := hid (owR_bytes HO2.out)
      clear hall hlt
      go_wp2_with (first
        | ((with_reducible refine K.atO (.convert _ 9 _) ?_); refine wpL_stringOf rfl _ _ _ _ rfl _ _ (sqF false l) rfl HDEN.out Tryz.underlying119 Tryz.underlying5 Tryz.underlying9 ?_)
        | fail)
      go_ret
      exact ⟨rfl, HO.out.fr⟩
set_option maxHeartbeats 32000000 in
theorem rtext_any (s : B) (hs : s.length ≤ 1099511627776) (w : World) : Calls Tryz.prog 60 #[.string (sb s)] w fun e w' => e = .returned (.string (sb (escF s))) ∧ Fr No w w' := by
  obtain ⟨S, hS⟩ : ∃ S, sb s = S := ⟨_, rfl⟩
  obtain ⟨n, hn⟩ : ∃ n, s.length = n := ⟨_, rfl⟩
  have hsz : (S.size : Int) = n := by rw [← hS, sb_size, hn]
  have hni : (n : Int) ≤ 1099511627776 := by omega
  have HS := hid hS; have HN := hid hn
  rw [hS]
  clear hS hn hs
  go_enter Tryz.func60, Tryz.ntmps60
  go_wp2_with fail
  go_loopw [4, 5] (fun dv iv wr => ∃ (i al : Nat), iv = .int .i64 i ∧ i ≤ n ∧ al ≤ 3 * n ∧ Hid (OwR 5 1 w wr dv al (u8s (escF (s.take i)))) ∧ Hid ((escF (s.take i)).length = al)) (fun _ iv _ => n - (intOf iv).toNat)
  case atStart => exact ⟨0, 0, rfl, Nat.zero_le _, Nat.zero_le _, hid (owR_nil (Fr.refl _ _)), hid rfl⟩
  case round =>
    obtain ⟨i, al, rfl, hi, hal, HO, HAL⟩ := hrel
    obtain ⟨va, vc, rfl⟩ := HO.out.1
    have hali : (al : Int) ≤ 3298534883328 := by omega
    have hal0 : (0 : Int) ≤ al := by omega
    by_cases hlt : i < n
    · obtain ⟨c, hc⟩ : ∃ c, s[i]? = some c := ⟨_, List.getElem?_eq_getElem (by rw [HN.out]; exact hlt)⟩
      have hlti : (i : Int) < n := by omega
      have hi0 : (0 : Int) ≤ i := by omega
      have HLT := hid hlt
      have HNX : Hid (escF (s.take (i + 1)) = escF (s.take i) ++ escB c) := hid (by rw [List.take_add_one, hc, Option.toList_some, escF_snoc])
      have HLN : Hid ((escF (s.take (i + 1))).length ≤ 3 * n) := hid (by rw [← HN.out]; exact escF_take s _)
      clear hal hlt
      cases he : isEsc c with
      | false =>
        have HE : Hid (escB c = [c]) := hid (by unfold escB; rw [he]; rfl)
        obtain ⟨e0, e1, e2, e3, e4⟩ := esc_no c he
        have HC := hid hc
        clear hc he
        go_wp2_with (first
          | ((with_reducible refine K.atO (.index 9 _ _) ?_); refine wpL_valZ rfl (.int .u8 (c.toNat : Int)) (exec_idxB _ _ rfl s HS.out i c HC.out _ rfl rfl rfl _) ?_)
          | ((with_reducible refine K.atO (.buildSlice 119 _ _) ?_); refine wpL_app1 rfl rfl _ _ _ 119 5 rfl rfl Tryz.underlying119 infoU rfl (by decide) (by decide) HO.out (.int .u8 (c.toNat : Int)) [.int .u8 (c.toNat : Int)] rfl rfl rfl (by simp [Value.oneCell']) (fun _ => rfl) (fun _ => rfl) (by omega) (by omega) ?_; intro q a4 c4 w4 HO4 HF4)
          | fail)
        have HL4 : Hid ((escF (s.take (i + 1))).length = al + 1) := hid (by rw [HNX.out, HE.out, List.length_append, HAL.out]; rfl)
        refine ⟨⟨i + 1, al + 1, by go_num, HLT.out, by rw [← HL4.out]; exact HLN.out, hid ?_, HL4⟩, by have := HLT.out; simp [intOf]; omega⟩
        have h := HO4.out
        rw [HNX.out, HE.out]
        rwa [show u8s (escF (s.take i)) ++ [Value.int .u8 (c.toNat : Int)] = u8s (escF (s.take i) ++ [c]) by simp [u8s]] at h
      | true =>
        have HC := hid hc
        have hcs := esc_yes c he
        clear hc he
        rcases hcs with rfl | rfl | rfl | rfl | rfl
        · have HE : Hid (escB 40 = [92, 50, 56]) := hid (by decide)
          go_wp2_with (first
            | ((with_reducible refine K.atO (.index 9 _ _) ?_); (fail_if_success (have := HO4)); refine wpL_valZ rfl (.int .u8 40) (exec_idxB _ _ rfl s HS.out i 40 HC.out _ rfl rfl rfl _) ?_)
            | ((with_reducible refine K.atO (.buildSlice 119 _ _) ?_); (fail_if_success (have := HO4)); refine wpL_app1 rfl rfl _ _ _ 119 5 rfl rfl Tryz.underlying119 infoU rfl (by decide) (by decide) HO.out (.int .u8 92) [.int .u8 92] rfl rfl rfl (by simp [Value.oneCell']) (fun _ => rfl) (fun _ => rfl) (by omega) (by omega) ?_; intro q4 a4 c4 w4 HO4 HF4)
            | ((with_reducible refine K.atO (.buildSlice 119 _ _) ?_); (fail_if_success (have := HO5)); refine wpL_app1 rfl rfl _ _ _ 119 5 rfl rfl Tryz.underlying119 infoU rfl (by decide) (by decide) HO4.out (.int .u8 50) [.int .u8 50] rfl rfl rfl (by simp [Value.oneCell']) (fun _ => rfl) (fun _ => rfl) (by omega) (by omega) ?_; intro q5 a5 c5 w5 HO5 HF5)
            | ((with_reducible refine K.atO (.buildSlice 119 _ _) ?_); refine wpL_app1 rfl rfl _ _ _ 119 5 rfl rfl Tryz.underlying119 infoU rfl (by decide) (by decide) HO5.out (.int .u8 56) [.int .u8 56] rfl rfl rfl (by simp [Value.oneCell']) (fun _ => rfl) (fun _ => rfl) (by omega) (by omega) ?_; intro q6 a6 c6 w6 HO6 HF6)
            | fail)
          have HL4 : Hid ((escF (s.take (i + 1))).length = al + 3) := hid (by rw [HNX.out, HE.out, List.length_append, HAL.out]; rfl)
          refine ⟨⟨i + 1, al + 3, by go_num, HLT.out, by rw [← HL4.out]; exact HLN.out, hid ?_, HL4⟩, by have := HLT.out; simp [intOf]; omega⟩
          have h := HO6.out
          rw [HNX.out, HE.out]
          have e : u8s (escF (s.take i)) ++ [Value.int .u8 92] ++ [Value.int .u8 50] ++ [Value.int .u8 56] = u8s (escF (s.take i) ++ [92, 50, 56]) := by simp [u8s]
          rw [e] at h
          exact h
        · have HE : Hid (escB 41 = [92, 50, 57]) := hid (by decide)
          go_wp2_with (first
            | ((with_reducible refine K.atO (.index 9 _ _) ?_); (fail_if_success (have := HO4)); refine wpL_valZ rfl (.int .u8 41) (exec_idxB _ _ rfl s HS.out i 41 HC.out _ rfl rfl rfl _) ?_)
            | ((with_reducible refine K.atO (.buildSlice 119 _ _) ?_); (fail_if_success (have := HO4)); refine wpL_app1 rfl rfl _ _ _ 119 5 rfl rfl Tryz.underlying119 infoU rfl (by decide) (by decide) HO.out (.int .u8 92) [.int .u8 92] rfl rfl rfl (by simp [Value.oneCell']) (fun _ => rfl) (fun _ => rfl) (by omega) (by omega) ?_; intro q4 a4 c4 w4 HO4 HF4)
            | ((with_reducible refine K.atO (.buildSlice 119 _ _) ?_); (fail_if_success (have := HO5)); refine wpL_app1 rfl rfl _ _ _ 119 5 rfl rfl Tryz.underlying119 infoU rfl (by decide) (by decide) HO4.out (.int .u8 50) [.int .u8 50] rfl rfl rfl (by simp [Value.oneCell']) (fun _ => rfl) (fun _ => rfl) (by omega) (by omega) ?_; intro q5 a5 c5 w5 HO5 HF5)
            | ((with_reducible refine K.atO (.buildSlice 119 _ _) ?_); refine wpL_app1 rfl rfl _ _ _ 119 5 rfl rfl Tryz.underlying119 infoU rfl (by decide) (by decide) HO5.out (.int .u8 57) [.int .u8 57] rfl rfl rfl (by simp [Value.oneCell']) (fun _ => rfl) (fun _ => rfl) (by omega) (by omega) ?_; intro q6 a6 c6 w6 HO6 HF6)
            | fail)
          have HL4 : Hid ((escF (s.take (i + 1))).length = al + 3) := hid (by rw [HNX.out, HE.out, List.length_append, HAL.out]; rfl)
          refine ⟨⟨i + 1, al + 3, by go_num, HLT.out, by rw [← HL4.out]; exact HLN.out, hid ?_, HL4⟩, by have := HLT.out; simp [intOf]; omega⟩
          have h := HO6.out
          rw [HNX.out, HE.out]
          have e : u8s (escF (s.take i)) ++ [Value.int .u8 92] ++ [Value.int .u8 50] ++ [Value.int .u8 57] = u8s (escF (s.take i) ++ [92, 50, 57]) := by simp [u8s]
          rw [e] at h
          exact h
        · have HE : Hid (escB 42 = [92, 50, 97]) := hid (by decide)
          go_wp2_with (first
            | ((with_reducible refine K.atO (.index 9 _ _) ?_); (fail_if_success (have := HO4)); refine wpL_valZ rfl (.int .u8 42) (exec_idxB _ _ rfl s HS.out i 42 HC.out _ rfl rfl rfl _) ?_)
            | ((with_reducible refine K.atO (.buildSlice 119 _ _) ?_); (fail_if_success (have := HO4)); refine wpL_app1 rfl rfl _ _ _ 119 5 rfl rfl Tryz.underlying119 infoU rfl (by decide) (by decide) HO.out (.int .u8 92) [.int .u8 92] rfl rfl rfl (by simp [Value.oneCell']) (fun _ => rfl) (fun _ => rfl) (by omega) (by omega) ?_; intro q4 a4 c4 w4 HO4 HF4)
            | ((with_reducible refine K.atO (.buildSlice 119 _ _) ?_); (fail_if_success (have := HO5)); refine wpL_app1 rfl rfl _ _ _ 119 5 rfl rfl Tryz.underlying119 infoU rfl (by decide) (by decide) HO4.out (.int .u8 50) [.int .u8 50] rfl rfl rfl (by simp [Value.oneCell']) (fun _ => rfl) (fun _ => rfl) (by omega) (by omega) ?_; intro q5 a5 c5 w5 HO5 HF5)
            | ((with_reducible refine K.atO (.buildSlice 119 _ _) ?_); refine wpL_app1 rfl rfl _ _ _ 119 5 rfl rfl Tryz.underlying119 infoU rfl (by decide) (by decide) HO5.out (.int .u8 97) [.int .u8 97] rfl rfl rfl (by simp [Value.oneCell']) (fun _ => rfl) (fun _ => rfl) (by omega) (by omega) ?_; intro q6 a6 c6 w6 HO6 HF6)
            | fail)
          have HL4 : Hid ((escF (s.take (i + 1))).length = al + 3) := hid (by rw [HNX.out, HE.out, List.length_append, HAL.out]; rfl)
          refine ⟨⟨i + 1, al + 3, by go_num, HLT.out, by rw [← HL4.out]; exact HLN.out, hid ?_, HL4⟩, by have := HLT.out; simp [intOf]; omega⟩
          have h := HO6.out
          rw [HNX.out, HE.out]
          have e : u8s (escF (s.take i)) ++ [Value.int .u8 92] ++ [Value.int .u8 50] ++ [Value.int .u8 97] = u8s (escF (s.take i) ++ [92, 50, 97]) := by simp [u8s]
          rw [e] at h
          exact h
        · have HE : Hid (escB 92 = [92, 53, 99]) := hid (by decide)
          go_wp2_with (first
            | ((with_reducible refine K.atO (.index 9 _ _) ?_); (fail_if_success (have := HO4)); refine wpL_valZ rfl (.int .u8 92) (exec_idxB _ _ rfl s HS.out i 92 HC.out _ rfl rfl rfl _) ?_)
            | ((with_reducible refine K.atO (.buildSlice 119 _ _) ?_); (fail_if_success (have := HO4)); refine wpL_app1 rfl rfl _ _ _ 119 5 rfl rfl Tryz.underlying119 infoU rfl (by decide) (by decide) HO.out (.int .u8 92) [.int .u8 92] rfl rfl rfl (by simp [Value.oneCell']) (fun _ => rfl) (fun _ => rfl) (by omega) (by omega) ?_; intro q4 a4 c4 w4 HO4 HF4)
            | ((with_reducible refine K.atO (.buildSlice 119 _ _) ?_); (fail_if_success (have := HO5)); refine wpL_app1 rfl rfl _ _ _ 119 5 rfl rfl Tryz.underlying119 infoU rfl (by decide) (by decide) HO4.out (.int .u8 53) [.int .u8 53] rfl rfl rfl (by simp [Value.oneCell']) (fun _ => rfl) (fun _ => rfl) (by omega) (by omega) ?_; intro q5 a5 c5 w5 HO5 HF5)
            | ((with_reducible refine K.atO (.buildSlice 119 _ _) ?_); refine wpL_app1 rfl rfl _ _ _ 119 5 rfl rfl Tryz.underlying119 infoU rfl (by decide) (by decide) HO5.out (.int .u8 99) [.int .u8 99] rfl rfl rfl (by simp [Value.oneCell']) (fun _ => rfl) (fun _ => rfl) (by omega) (by omega) ?_; intro q6 a6 c6 w6 HO6 HF6)
            | fail)
          have HL4 : Hid ((escF (s.take (i + 1))).length = al + 3) := hid (by rw [HNX.out, HE.out, List.length_append, HAL.out]; rfl)
          refine ⟨⟨i + 1, al + 3, by go_num, HLT.out, by rw [← HL4.out]; exact HLN.out, hid ?_, HL4⟩, by have := HLT.out; simp [intOf]; omega⟩
          have h := HO6.out
          rw [HNX.out, HE.out]
          have e : u8s (escF (s.take i)) ++ [Value.int .u8 92] ++ [Value.int .u8 53] ++ [Value.int .u8 99] = u8s (escF (s.take i) ++ [92, 53, 99]) := by simp [u8s]
          rw [e] at h
          exact h
        · have HE : Hid (escB 0 = [92, 48, 48]) := hid (by decide)
          go_wp2_with (first
            | ((with_reducible refine K.atO (.index 9 _ _) ?_); (fail_if_success (have := HO4)); refine wpL_valZ rfl (.int .u8 0) (exec_idxB _ _ rfl s HS.out i 0 HC.out _ rfl rfl rfl _) ?_)
            | ((with_reducible refine K.atO (.buildSlice 119 _ _) ?_); (fail_if_success (have := HO4)); refine wpL_app1 rfl rfl _ _ _ 119 5 rfl rfl Tryz.underlying119 infoU rfl (by decide) (by decide) HO.out (.int .u8 92) [.int .u8 92] rfl rfl rfl (by simp [Value.oneCell']) (fun _ => rfl) (fun _ => rfl) (by omega) (by omega) ?_; intro q4 a4 c4 w4 HO4 HF4)
            | ((with_reducible refine K.atO (.buildSlice 119 _ _) ?_); (fail_if_success (have := HO5)); refine wpL_app1 rfl rfl _ _ _ 119 5 rfl rfl Tryz.underlying119 infoU rfl (by decide) (by decide) HO4.out (.int .u8 48) [.int .u8 48] rfl rfl rfl (by simp [Value.oneCell']) (fun _ => rfl) (fun _ => rfl) (by omega) (by omega) ?_; intro q5 a5 c5 w5 HO5 HF5)
            | ((with_reducible refine K.atO (.buildSlice 119 _ _) ?_); refine wpL_app1 rfl rfl _ _ _ 119 5 rfl rfl Tryz.underlying119 infoU rfl (by decide) (by decide) HO5.out (.int .u8 48) [.int .u8 48] rfl rfl rfl (by simp [Value.oneCell']) (fun _ => rfl) (fun _ => rfl) (by omega) (by omega) ?_; intro q6 a6 c6 w6 HO6 HF6)
            | fail)
          have HL4 : Hid ((escF (s.take (i + 1))).length = al + 3) := hid (by rw [HNX.out, HE.out, List.length_append, HAL.out]; rfl)
          refine ⟨⟨i + 1, al + 3, by go_num, HLT.out, by rw [← HL4.out]; exact HLN.out, hid ?_, HL4⟩, by have := HLT.out; simp [intOf]; omega⟩
          have h := HO6.out
          rw [HNX.out, HE.out]
          have e : u8s (escF (s.take i)) ++ [Value.int .u8 92] ++ [Value.int .u8 48] ++ [Value.int .u8 48] = u8s (escF (s.take i) ++ [92, 48, 48]) := by simp [u8s]
          rw [e] at h
          exact h
    · obtain rfl : i = n := by omega
      have hall : s.take i = s := List.take_of_length_le (by rw [HN.out]; exact Nat.le_refl _)
      have HO2 : Hid (OwR 5 1 w wr (.slice va al vc) (escF s).length (u8s (escF s))) := hid (by have h := HO.out; have h2 := HAL.out; rw [hall] at h h2; rw [h2]; exact h)
      have HDEN := hid (owR_bytes HO2.out)
      clear hall hlt
      go_wp2_with (first
        | ((with_reducible refine K.atO (.convert _ 9 _) ?_); refine wpL_stringOf rfl _ _ _ _ rfl _ _ (escF s) rfl HDEN.out Tryz.underlying119 Tryz.underlying5 Tryz.underlying9 ?_)
        | fail)
      go_ret
      exact ⟨rfl, HO.out.fr⟩
end Go.Proofs.YtdkkpfeiaaffhaaGreatDoor.FT

namespace Go.Proofs.YtdkkpfeiaaffhaaGreatDoor.FT
set_option maxRecDepth 100000
open Go.RowKit K Go.Proofs.YtdkkpfeiaaffhaaGreatDoor.BE Go.Proofs.YtdkkpfeiaaffhaaGreatDoor.DN Go.Proofs.YtdkkpfeiaaffhaaGreatDoor.SC

theorem FlC.form {M : Nat} {S : Nat → Prop} {w : World} {f : Fl} {cs : List Value} (h : FlC M S w f cs) : ∃ ka kc aa ac, cs = flV f (.slice ka f.kids.length kc) (.slice aa f.any.length ac) ∧ I64 f.kind ∧ Sz f.type ∧ Sz f.value := by
  cases M with
  | zero => exact h.elim
  | succ M =>
    obtain ⟨vk, va, rfl, h1, h2, h3, -, -, h6, h7⟩ := h
    obtain ⟨ka, kc, rfl, -, -⟩ := h7.form
    obtain ⟨aa, ac, rfl, -, -⟩ := h6.1.form
    exact ⟨ka, kc, aa, ac, rfl, h1, h2, h3⟩
theorem FlC.seven {M : Nat} {S : Nat → Prop} {w : World} {f : Fl} {cs : List Value} (h : FlC M S w f cs) : Seven cs := by
  obtain ⟨ka, kc, aa, ac, rfl, -⟩ := h.form
  exact ⟨rfl, one7 f ⟨_, _, _, rfl⟩ ⟨_, _, _, rfl⟩⟩
theorem infoI1 : (Tryz.prog.info? 3).map (·.size) = some 1 := by kernel_rfl
theorem hasSyn_ty {s : Sch} {n : B} {L : List Int} (h : hasSyn s n L = true) : ∃ t, tyN s n = some t := by
  unfold hasSyn at h
  cases ht : tyN s n with
  | none => rw [ht] at h; cases h
  | some t => exact ⟨t, rfl⟩
set_option maxHeartbeats 16000000 in
theorem ev3 {S T : Nat → Prop} {M : Nat} (X : Nat → Prop) (b : Nat) (s : Sch) (ve : Value) (en : Ent) (d : Nat) (f : Fl) (cs : List Value) (w : World) (h : Tn X b s w) (he : EnIn S w ve en) (hS : ∀ i, S i → i ≠ b) (hf : FlC M T w f cs) (hT : ∀ i, T i → i ≠ b) (hd : d ≤ 50) (hk : f.kind = 3) :
    Calls Tryz.prog 55 #[.agg (sjV b ve ((d + 1 : Nat) : Int)).toArray, .agg cs.toArray] w fun e w' => e = .returned (.int .i64 (evF s en (d + 1) f)) ∧ Sx w' X b s ∧ Fr (fun k => k = b) w w' := by
  have HX := hid h; have HS := hid hS; have HTB := hid hT
  have HE : Hid (EnIn S w ve en) := hid he
  have HFL := hid hf
  obtain ⟨ka, kc, aa, ac, rfl, -, hzt, hzv⟩ := hf.form
  have HZT := hid hzt; have HZV := hid hzv
  obtain ⟨R, hR⟩ : ∃ R, evF s en (d + 1) f = R := ⟨_, rfl⟩
  have HR := hid hR
  rw [hR]
  have HBW := hid h.lt
  obtain ⟨ea, ec, rfl, -, -⟩ := he.form
  have hl : evF s en (d + 1) f = evOrd s en f.kind f.type f.value := by unfold evF leaf; simp [hk]
  have HRT : Hid (evOrd s en f.kind f.type f.value = R) := hid (by rw [← hR, hl])
  have HKK := hid hk
  have hd0 : (((d + 1 : Nat) : Int) == 0) = false := beqN (by omega)
  have hd1 : ((d + 1 : Nat) : Int) - 1 = (d : Int) := by omega
  have hd2 : ((d + 1 : Nat) : Int) ≤ 100 := by omega
  obtain ⟨dd, hdd⟩ : ∃ dd : Int, ((d + 1 : Nat) : Int) = dd := ⟨_, rfl⟩
  rw [hdd] at hd0 hd1 hd2 ⊢
  have hd3 : (0 : Int) ≤ dd := by omega
  have HDD := hid hd1
  clear h he hS hf hR hzt hzv hT hdd hd1 hl hk
  go_enter Tryz.func55, Tryz.ntmps55
  go_wp2_with (first
    | ((with_reducible refine K.atO (.box 113 _) ?_); refine wpL_box rfl _ _ rfl _ rfl (sjV b (.slice ea en.length ec) dd) rfl ?_; intro w1 HB1 HF1 HS1)
    | ((with_reducible refine K.atO (.box 46 _) ?_); refine wpL_box rfl _ _ rfl _ rfl (flV f (.slice ka f.kids.length kc) (.slice aa f.any.length ac)) rfl ?_; intro w2 HB2 HF2 HS2; refine Hid.out ?_)
    | fail)
  obtain ⟨p, hp⟩ : ∃ p, w.heap.size = p := ⟨_, rfl⟩
  rw [hp] at HB1 ⊢
  obtain ⟨q, hq⟩ : ∃ q, w1.heap.size = q := ⟨_, rfl⟩
  rw [hq] at HB2 ⊢
  have HPQ := hid (show ¬ p = b ∧ ¬ q = b ∧ w.heap.size = p ∧ q = p + 1 from ⟨by have := HBW.out; omega, by have := HBW.out; have := HS1.out; omega, hp, by have := HS1.out; omega⟩)
  have HF2' : Hid (Fr No w w2) := hid (HF1.out.trans' HF2.out)
  have HBp := hid (HB1.out.fr HF2.out id)
  have cl : w2.cell? ⟨p, 2, none⟩ = some (.int .i64 dd) := HBp.out.cell 2
  clear hp hq HS1 HS2 HB1 HF1 HF2
  refine hid ?_
  go_wp2_with (first
    | ((with_reducible refine K.atO (.store 3 _ _) ?_); refine wpL_setV rfl _ _ _ rfl p 2 (.int .i64 (dd - 1)) rfl rfl rfl rfl 113 _ HBp.out (by simp [sjV]) infoI1 ?_; intro w3 HB3 HF3 HS3; refine Hid.out ?_)
    | fail)
  rw [HDD.out] at HB3 ⊢
  have HB3' : Hid (Blk w3 p 113 (sjV b (.slice ea en.length ec) d)) := hid HB3.out
  have HF3' : Hid (Fr No w w3) := hid (HF2'.out.trans HF3.out (fun k e => .inr (by have e : k = p := e; have := HPQ.out; omega)))
  have HBq := hid (HB2.out.fr HF3.out (by show ¬ q = p; have := HPQ.out; omega))
  have HX3 := hid (HX.out.no HF3'.out)
  have HE3 := hid (HE.out.no HF3'.out)
  have HFL3 := hid (HFL.out.no HF3'.out)
  have HBW3 : Hid (b < w3.heap.size) := hid (HX3.out.lt)
  have HCP := hid (HB3'.out.range 0 (sjV b (.slice ea en.length ec) d) rfl)
  have HCQ := hid (HBq.out.range 0 (flV f (.slice ka f.kids.length kc) (.slice aa f.any.length ac)) rfl)
  have ck : w3.cell? ⟨q, 0, none⟩ = some (.int .i64 3) := by have := HBq.out.cell 0; rw [this]; simp [flV, HKK.out]
  clear HB2 HB3 HF3 HS3 HBp HX HE HFL HF2' cl
  refine hid ?_
  go_wp2_with (first
    | ((with_reducible refine K.atO (.load 113 _) ?_); refine wpL_load rfl _ _ rfl p 0 rfl (sjV b (.slice ea en.length ec) d) _ (HCP.out) rfl rfl infoSj ?_)
    | ((with_reducible refine K.atO (.load 46 _) ?_); refine wpL_load rfl _ _ rfl q 0 rfl (flV f (.slice ka f.kids.length kc) (.slice aa f.any.length ac)) _ (HCQ.out) rfl rfl infoFl ?_)
    | fail)
  refine (evalOrder_any X b s _ en d f _ _ w3 HX3.out HE3.out HS.out HFL3.out).mono ?_
  rintro e w9 ⟨rfl, hs9, f9⟩
  rw [HRT.out]
  have HS9 := hid hs9; have HF9 := hid (HF3'.out.no.trans' f9)
  clear hs9 f9
  go_wp2_with fail
  go_ret
  exact ⟨rfl, HS9.out, HF9.out⟩
set_option maxHeartbeats 16000000 in
theorem ev7 {S T : Nat → Prop} {M : Nat} (X : Nat → Prop) (b : Nat) (s : Sch) (ve : Value) (en : Ent) (d : Nat) (f : Fl) (cs : List Value) (w : World) (h : Tn X b s w) (he : EnIn S w ve en) (hS : ∀ i, S i → i ≠ b) (hf : FlC M T w f cs) (hT : ∀ i, T i → i ≠ b) (hd : d ≤ 50) (hk : f.kind = 7) :
    Calls Tryz.prog 55 #[.agg (sjV b ve ((d + 1 : Nat) : Int)).toArray, .agg cs.toArray] w fun e w' => e = .returned (.int .i64 (evF s en (d + 1) f)) ∧ Sx w' X b s ∧ Fr (fun k => k = b) w w' := by
  have HX := hid h; have HS := hid hS; have HTB := hid hT
  have HE : Hid (EnIn S w ve en) := hid he
  have HFL := hid hf
  obtain ⟨ka, kc, aa, ac, rfl, -, hzt, hzv⟩ := hf.form
  have HZT := hid hzt; have HZV := hid hzv
  obtain ⟨R, hR⟩ : ∃ R, evF s en (d + 1) f = R := ⟨_, rfl⟩
  have HR := hid hR
  rw [hR]
  have HBW := hid h.lt
  obtain ⟨ea, ec, rfl, -, -⟩ := he.form
  have hl : evF s en (d + 1) f = evPres s en f.type := by unfold evF leaf; simp [hk]
  have HRT : Hid (evPres s en f.type = R) := hid (by rw [← hR, hl])
  have HKK := hid hk
  have hd0 : (((d + 1 : Nat) : Int) == 0) = false := beqN (by omega)
  have hd1 : ((d + 1 : Nat) : Int) - 1 = (d : Int) := by omega
  have hd2 : ((d + 1 : Nat) : Int) ≤ 100 := by omega
  obtain ⟨dd, hdd⟩ : ∃ dd : Int, ((d + 1 : Nat) : Int) = dd := ⟨_, rfl⟩
  rw [hdd] at hd0 hd1 hd2 ⊢
  have hd3 : (0 : Int) ≤ dd := by omega
  have HDD := hid hd1
  clear h he hS hf hR hzt hzv hT hdd hd1 hl hk
  go_enter Tryz.func55, Tryz.ntmps55
  go_wp2_with (first
    | ((with_reducible refine K.atO (.box 113 _) ?_); refine wpL_box rfl _ _ rfl _ rfl (sjV b (.slice ea en.length ec) dd) rfl ?_; intro w1 HB1 HF1 HS1)
    | ((with_reducible refine K.atO (.box 46 _) ?_); refine wpL_box rfl _ _ rfl _ rfl (flV f (.slice ka f.kids.length kc) (.slice aa f.any.length ac)) rfl ?_; intro w2 HB2 HF2 HS2; refine Hid.out ?_)
    | fail)
  obtain ⟨p, hp⟩ : ∃ p, w.heap.size = p := ⟨_, rfl⟩
  rw [hp] at HB1 ⊢
  obtain ⟨q, hq⟩ : ∃ q, w1.heap.size = q := ⟨_, rfl⟩
  rw [hq] at HB2 ⊢
  have HPQ := hid (show ¬ p = b ∧ ¬ q = b ∧ w.heap.size = p ∧ q = p + 1 from ⟨by have := HBW.out; omega, by have := HBW.out; have := HS1.out; omega, hp, by have := HS1.out; omega⟩)
  have HF2' : Hid (Fr No w w2) := hid (HF1.out.trans' HF2.out)
  have HBp := hid (HB1.out.fr HF2.out id)
  have cl : w2.cell? ⟨p, 2, none⟩ = some (.int .i64 dd) := HBp.out.cell 2
  clear hp hq HS1 HS2 HB1 HF1 HF2
  refine hid ?_
  go_wp2_with (first
    | ((with_reducible refine K.atO (.store 3 _ _) ?_); refine wpL_setV rfl _ _ _ rfl p 2 (.int .i64 (dd - 1)) rfl rfl rfl rfl 113 _ HBp.out (by simp [sjV]) infoI1 ?_; intro w3 HB3 HF3 HS3; refine Hid.out ?_)
    | fail)
  rw [HDD.out] at HB3 ⊢
  have HB3' : Hid (Blk w3 p 113 (sjV b (.slice ea en.length ec) d)) := hid HB3.out
  have HF3' : Hid (Fr No w w3) := hid (HF2'.out.trans HF3.out (fun k e => .inr (by have e : k = p := e; have := HPQ.out; omega)))
  have HBq := hid (HB2.out.fr HF3.out (by show ¬ q = p; have := HPQ.out; omega))
  have HX3 := hid (HX.out.no HF3'.out)
  have HE3 := hid (HE.out.no HF3'.out)
  have HFL3 := hid (HFL.out.no HF3'.out)
  have HBW3 : Hid (b < w3.heap.size) := hid (HX3.out.lt)
  have HCP := hid (HB3'.out.range 0 (sjV b (.slice ea en.length ec) d) rfl)
  have HCQ := hid (HBq.out.range 0 (flV f (.slice ka f.kids.length kc) (.slice aa f.any.length ac)) rfl)
  have ck : w3.cell? ⟨q, 0, none⟩ = some (.int .i64 7) := by have := HBq.out.cell 0; rw [this]; simp [flV, HKK.out]
  have ct : w3.cell? ⟨q, 2, none⟩ = some (.string (sb f.type)) := HBq.out.cell 2
  clear HB2 HB3 HF3 HS3 HBp HX HE HFL HF2' cl
  refine hid ?_
  go_wp2_with (first
    | ((with_reducible refine K.atO (.load 113 _) ?_); refine wpL_load rfl _ _ rfl p 0 rfl (sjV b (.slice ea en.length ec) d) _ (HCP.out) rfl rfl infoSj ?_)
    | fail)
  refine (evalPresent_any X b s _ en d f.type w3 HX3.out HE3.out HS.out HZT.out).mono ?_
  rintro e w9 ⟨rfl, hs9, f9⟩
  rw [HRT.out]
  have HS9 := hid hs9; have HF9 := hid (HF3'.out.no.trans' f9)
  clear hs9 f9
  go_wp2_with fail
  go_ret
  exact ⟨rfl, HS9.out, HF9.out⟩
set_option maxHeartbeats 16000000 in
theorem evN {S T : Nat → Prop} {M : Nat} (X : Nat → Prop) (b : Nat) (s : Sch) (ve : Value) (en : Ent) (d : Nat) (f : Fl) (cs : List Value) (w : World) (h : Tn X b s w) (he : EnIn S w ve en) (hS : ∀ i, S i → i ≠ b) (hf : FlC M T w f cs) (hT : ∀ i, T i → i ≠ b) (hd : d ≤ 50) (hk : ∀ k, 0 ≤ k → k ≤ 7 → f.kind ≠ k) :
    Calls Tryz.prog 55 #[.agg (sjV b ve ((d + 1 : Nat) : Int)).toArray, .agg cs.toArray] w fun e w' => e = .returned (.int .i64 (evF s en (d + 1) f)) ∧ Sx w' X b s ∧ Fr (fun k => k = b) w w' := by
  have HX := hid h; have HS := hid hS; have HTB := hid hT
  have HE : Hid (EnIn S w ve en) := hid he
  have HFL := hid hf
  obtain ⟨ka, kc, aa, ac, rfl, -, hzt, hzv⟩ := hf.form
  have HZT := hid hzt; have HZV := hid hzv
  obtain ⟨R, hR⟩ : ∃ R, evF s en (d + 1) f = R := ⟨_, rfl⟩
  have HR := hid hR
  rw [hR]
  have HBW := hid h.lt
  obtain ⟨ea, ec, rfl, -, -⟩ := he.form
  have hl : evF s en (d + 1) f = 2 := by unfold evF leaf; simp [hk 0 (by decide) (by decide), hk 1 (by decide) (by decide), hk 2 (by decide) (by decide), hk 3 (by decide) (by decide), hk 4 (by decide) (by decide), hk 5 (by decide) (by decide), hk 6 (by decide) (by decide), hk 7 (by decide) (by decide)]
  have HRT : Hid (2 = R) := hid (by rw [← hR, hl])
  have e0 := beqN (hk 0 (by decide) (by decide))
  have e1 := beqN (hk 1 (by decide) (by decide))
  have e2 := beqN (hk 2 (by decide) (by decide))
  have e3 := beqN (hk 3 (by decide) (by decide))
  have e4 := beqN (hk 4 (by decide) (by decide))
  have e5 := beqN (hk 5 (by decide) (by decide))
  have e6 := beqN (hk 6 (by decide) (by decide))
  have e7 := beqN (hk 7 (by decide) (by decide))
  obtain ⟨kk, hkk⟩ : ∃ kk, f.kind = kk := ⟨_, rfl⟩
  rw [hkk] at e0 e1 e2 e3 e4 e5 e6 e7
  have HKK := hid hkk
  have hd0 : (((d + 1 : Nat) : Int) == 0) = false := beqN (by omega)
  have hd1 : ((d + 1 : Nat) : Int) - 1 = (d : Int) := by omega
  have hd2 : ((d + 1 : Nat) : Int) ≤ 100 := by omega
  obtain ⟨dd, hdd⟩ : ∃ dd : Int, ((d + 1 : Nat) : Int) = dd := ⟨_, rfl⟩
  rw [hdd] at hd0 hd1 hd2 ⊢
  have hd3 : (0 : Int) ≤ dd := by omega
  have HDD := hid hd1
  clear h he hS hf hR hzt hzv hT hdd hd1 hl hk hkk
  go_enter Tryz.func55, Tryz.ntmps55
  go_wp2_with (first
    | ((with_reducible refine K.atO (.box 113 _) ?_); refine wpL_box rfl _ _ rfl _ rfl (sjV b (.slice ea en.length ec) dd) rfl ?_; intro w1 HB1 HF1 HS1)
    | ((with_reducible refine K.atO (.box 46 _) ?_); refine wpL_box rfl _ _ rfl _ rfl (flV f (.slice ka f.kids.length kc) (.slice aa f.any.length ac)) rfl ?_; intro w2 HB2 HF2 HS2; refine Hid.out ?_)
    | fail)
  obtain ⟨p, hp⟩ : ∃ p, w.heap.size = p := ⟨_, rfl⟩
  rw [hp] at HB1 ⊢
  obtain ⟨q, hq⟩ : ∃ q, w1.heap.size = q := ⟨_, rfl⟩
  rw [hq] at HB2 ⊢
  have HPQ := hid (show ¬ p = b ∧ ¬ q = b ∧ w.heap.size = p ∧ q = p + 1 from ⟨by have := HBW.out; omega, by have := HBW.out; have := HS1.out; omega, hp, by have := HS1.out; omega⟩)
  have HF2' : Hid (Fr No w w2) := hid (HF1.out.trans' HF2.out)
  have HBp := hid (HB1.out.fr HF2.out id)
  have cl : w2.cell? ⟨p, 2, none⟩ = some (.int .i64 dd) := HBp.out.cell 2
  clear hp hq HS1 HS2 HB1 HF1 HF2
  refine hid ?_
  go_wp2_with (first
    | ((with_reducible refine K.atO (.store 3 _ _) ?_); refine wpL_setV rfl _ _ _ rfl p 2 (.int .i64 (dd - 1)) rfl rfl rfl rfl 113 _ HBp.out (by simp [sjV]) infoI1 ?_; intro w3 HB3 HF3 HS3; refine Hid.out ?_)
    | fail)
  rw [HDD.out] at HB3 ⊢
  have HB3' : Hid (Blk w3 p 113 (sjV b (.slice ea en.length ec) d)) := hid HB3.out
  have HF3' : Hid (Fr No w w3) := hid (HF2'.out.trans HF3.out (fun k e => .inr (by have e : k = p := e; have := HPQ.out; omega)))
  have HBq := hid (HB2.out.fr HF3.out (by show ¬ q = p; have := HPQ.out; omega))
  have HX3 := hid (HX.out.no HF3'.out)
  have HE3 := hid (HE.out.no HF3'.out)
  have HFL3 := hid (HFL.out.no HF3'.out)
  have HBW3 : Hid (b < w3.heap.size) := hid (HX3.out.lt)
  have HCP := hid (HB3'.out.range 0 (sjV b (.slice ea en.length ec) d) rfl)
  have HCQ := hid (HBq.out.range 0 (flV f (.slice ka f.kids.length kc) (.slice aa f.any.length ac)) rfl)
  have ck : w3.cell? ⟨q, 0, none⟩ = some (.int .i64 kk) := by have := HBq.out.cell 0; rw [this]; simp [flV, HKK.out]
  clear HB2 HB3 HF3 HS3 HBp HX HE HFL HF2' cl
  refine hid ?_
  go_wp2_with fail
  go_ret
  exact ⟨by rw [← HRT.out]; rfl, HX3.out.1, HF3'.out.no⟩
set_option maxHeartbeats 16000000 in
theorem ev5 {S T : Nat → Prop} {M : Nat} (X : Nat → Prop) (b : Nat) (s : Sch) (ve : Value) (en : Ent) (d : Nat) (f : Fl) (cs : List Value) (w : World) (h : Tn X b s w) (he : EnIn S w ve en) (hS : ∀ i, S i → i ≠ b) (hf : FlC M T w f cs) (hT : ∀ i, T i → i ≠ b) (hd : d ≤ 50) (hk : f.kind = 5) :
    Calls Tryz.prog 55 #[.agg (sjV b ve ((d + 1 : Nat) : Int)).toArray, .agg cs.toArray] w fun e w' => e = .returned (.int .i64 (evF s en (d + 1) f)) ∧ Sx w' X b s ∧ Fr (fun k => k = b) w w' := by
  have HX := hid h; have HS := hid hS; have HTB := hid hT
  have HE : Hid (EnIn S w ve en) := hid he
  have HFL := hid hf
  obtain ⟨ka, kc, aa, ac, rfl, -, hzt, hzv⟩ := hf.form
  have HZT := hid hzt; have HZV := hid hzv
  obtain ⟨R, hR⟩ : ∃ R, evF s en (d + 1) f = R := ⟨_, rfl⟩
  have HR := hid hR
  rw [hR]
  have HBW := hid h.lt
  obtain ⟨ea, ec, rfl, -, -⟩ := he.form
  have hl : evF s en (d + 1) f = if hasSyn s f.type [1, 2, 3] then evOrd s en f.kind f.type f.value else 2 := by unfold evF leaf; simp [hk]
  have HRT0 : Hid ((if hasSyn s f.type [1, 2, 3] then evOrd s en f.kind f.type f.value else 2) = R) := hid (by rw [← hR, hl])
  have HKK := hid hk
  have hd0 : (((d + 1 : Nat) : Int) == 0) = false := beqN (by omega)
  have hd1 : ((d + 1 : Nat) : Int) - 1 = (d : Int) := by omega
  have hd2 : ((d + 1 : Nat) : Int) ≤ 100 := by omega
  obtain ⟨dd, hdd⟩ : ∃ dd : Int, ((d + 1 : Nat) : Int) = dd := ⟨_, rfl⟩
  rw [hdd] at hd0 hd1 hd2 ⊢
  have hd3 : (0 : Int) ≤ dd := by omega
  have HDD := hid hd1
  clear h he hS hf hR hzt hzv hT hdd hd1 hl hk
  go_enter Tryz.func55, Tryz.ntmps55
  go_wp2_with (first
    | ((with_reducible refine K.atO (.box 113 _) ?_); refine wpL_box rfl _ _ rfl _ rfl (sjV b (.slice ea en.length ec) dd) rfl ?_; intro w1 HB1 HF1 HS1)
    | ((with_reducible refine K.atO (.box 46 _) ?_); refine wpL_box rfl _ _ rfl _ rfl (flV f (.slice ka f.kids.length kc) (.slice aa f.any.length ac)) rfl ?_; intro w2 HB2 HF2 HS2; refine Hid.out ?_)
    | fail)
  obtain ⟨p, hp⟩ : ∃ p, w.heap.size = p := ⟨_, rfl⟩
  rw [hp] at HB1 ⊢
  obtain ⟨q, hq⟩ : ∃ q, w1.heap.size = q := ⟨_, rfl⟩
  rw [hq] at HB2 ⊢
  have HPQ := hid (show ¬ p = b ∧ ¬ q = b ∧ w.heap.size = p ∧ q = p + 1 from ⟨by have := HBW.out; omega, by have := HBW.out; have := HS1.out; omega, hp, by have := HS1.out; omega⟩)
  have HF2' : Hid (Fr No w w2) := hid (HF1.out.trans' HF2.out)
  have HBp := hid (HB1.out.fr HF2.out id)
  have cl : w2.cell? ⟨p, 2, none⟩ = some (.int .i64 dd) := HBp.out.cell 2
  clear hp hq HS1 HS2 HB1 HF1 HF2
  refine hid ?_
  go_wp2_with (first
    | ((with_reducible refine K.atO (.store 3 _ _) ?_); refine wpL_setV rfl _ _ _ rfl p 2 (.int .i64 (dd - 1)) rfl rfl rfl rfl 113 _ HBp.out (by simp [sjV]) infoI1 ?_; intro w3 HB3 HF3 HS3; refine Hid.out ?_)
    | fail)
  rw [HDD.out] at HB3 ⊢
  have HB3' : Hid (Blk w3 p 113 (sjV b (.slice ea en.length ec) d)) := hid HB3.out
  have HF3' : Hid (Fr No w w3) := hid (HF2'.out.trans HF3.out (fun k e => .inr (by have e : k = p := e; have := HPQ.out; omega)))
  have HBq := hid (HB2.out.fr HF3.out (by show ¬ q = p; have := HPQ.out; omega))
  have HX3 := hid (HX.out.no HF3'.out)
  have HE3 := hid (HE.out.no HF3'.out)
  have HFL3 := hid (HFL.out.no HF3'.out)
  have HBW3 : Hid (b < w3.heap.size) := hid (HX3.out.lt)
  have HCP := hid (HB3'.out.range 0 (sjV b (.slice ea en.length ec) d) rfl)
  have HCQ := hid (HBq.out.range 0 (flV f (.slice ka f.kids.length kc) (.slice aa f.any.length ac)) rfl)
  have ck : w3.cell? ⟨q, 0, none⟩ = some (.int .i64 5) := by have := HBq.out.cell 0; rw [this]; simp [flV, HKK.out]
  have ct : w3.cell? ⟨q, 2, none⟩ = some (.string (sb f.type)) := HBq.out.cell 2
  clear HB2 HB3 HF3 HS3 HBp HX HE HFL HF2' cl
  refine hid ?_
  go_wp2_with (first
    | ((with_reducible refine K.atO (.load 113 _) ?_); refine wpL_load rfl _ _ rfl p 0 rfl (sjV b (.slice ea en.length ec) d) _ (HCP.out) rfl rfl infoSj ?_)
    | ((with_reducible refine K.atO (.buildSlice 141 _ _) ?_); refine wpL_buildSlice rfl _ 3 _ _ rfl [.int .i64 1, .int .i64 2, .int .i64 3] (by kernel_rfl) ?_; intro w4 HB4 HF4 HS4; refine Hid.out ?_)
    | fail)
  obtain ⟨g, hg⟩ : ∃ g, w3.heap.size = g := ⟨_, rfl⟩
  rw [hg] at HB4 ⊢
  have HGB : Hid (g ≠ b) := hid (by have := HBW3.out; omega)
  have HX4 := hid (HX3.out.no HF4.out)
  have HE4 := hid (HE3.out.no HF4.out)
  have HFL4 := hid (HFL3.out.no HF4.out)
  clear hg HS4 ct
  refine hid ?_
  have ct : w4.cell? ⟨q, 2, none⟩ = some (.string (sb f.type)) := (HBq.out.fr HF4.out id).cell 2
  go_wp2_with fail
  refine (hasSyn_any X b s f.type (.slice ea en.length ec) d [1, 2, 3] g w4 HX4.out HZT.out (HB4.out.range 0 _ rfl) HGB.out (by decide)).mono ?_
  rintro e w5 ⟨rfl, hs5, f5⟩
  have HX5 := hid (HX4.out.step hs5 f5)
  have HE5 := hid (HE4.out.fr f5 (fun i hi _ e => HS.out i hi e))
  have HFL5 := hid (HFL4.out.fr f5 (fun i hi _ e => HTB.out i hi e))
  have HF5 : Hid (Fr (fun k => k = b) w w5) := hid ((HF3'.out.trans' HF4.out).no.trans' f5)
  have HCP5 := hid (f5.range (HF4.out.range HCP.out id) HPQ.out.1)
  have HCQ5 := hid (f5.range (HF4.out.range HCQ.out id) HPQ.out.2.1)
  clear hs5 f5 ct HB4 HF4 HX4 HE4 HFL4
  cases hsy : hasSyn s f.type [1, 2, 3] with
  | false =>
    have HRT : Hid (2 = R) := hid (by rw [← HRT0.out, hsy]; rfl)
    clear hsy
    go_wp2_with fail
    go_ret
    exact ⟨by rw [← HRT.out]; rfl, HX5.out.1, HF5.out⟩
  | true =>
    have HRT : Hid (evOrd s en f.kind f.type f.value = R) := hid (by rw [← HRT0.out, hsy]; rfl)
    clear hsy
    go_wp2_with (first
      | ((with_reducible refine K.atO (.load 113 _) ?_); refine wpL_load rfl _ _ rfl p 0 rfl (sjV b (.slice ea en.length ec) d) _ (HCP5.out) rfl rfl infoSj ?_)
      | ((with_reducible refine K.atO (.load 46 _) ?_); refine wpL_load rfl _ _ rfl q 0 rfl (flV f (.slice ka f.kids.length kc) (.slice aa f.any.length ac)) _ (HCQ5.out) rfl rfl infoFl ?_)
      | fail)
    refine (evalOrder_any X b s _ en d f _ _ w5 HX5.out HE5.out HS.out HFL5.out).mono ?_
    rintro e w9 ⟨rfl, hs9, f9⟩
    rw [HRT.out]
    have HS9 := hid hs9; have HF9 := hid (HF5.out.trans' f9)
    clear hs9 f9
    go_wp2_with fail
    go_ret
    exact ⟨rfl, HS9.out, HF9.out⟩
set_option maxHeartbeats 16000000 in
theorem ev6 {S T : Nat → Prop} {M : Nat} (X : Nat → Prop) (b : Nat) (s : Sch) (ve : Value) (en : Ent) (d : Nat) (f : Fl) (cs : List Value) (w : World) (h : Tn X b s w) (he : EnIn S w ve en) (hS : ∀ i, S i → i ≠ b) (hf : FlC M T w f cs) (hT : ∀ i, T i → i ≠ b) (hd : d ≤ 50) (hk : f.kind = 6) :
    Calls Tryz.prog 55 #[.agg (sjV b ve ((d + 1 : Nat) : Int)).toArray, .agg cs.toArray] w fun e w' => e = .returned (.int .i64 (evF s en (d + 1) f)) ∧ Sx w' X b s ∧ Fr (fun k => k = b) w w' := by
  have HX := hid h; have HS := hid hS; have HTB := hid hT
  have HE : Hid (EnIn S w ve en) := hid he
  have HFL := hid hf
  obtain ⟨ka, kc, aa, ac, rfl, -, hzt, hzv⟩ := hf.form
  have HZT := hid hzt; have HZV := hid hzv
  obtain ⟨R, hR⟩ : ∃ R, evF s en (d + 1) f = R := ⟨_, rfl⟩
  have HR := hid hR
  rw [hR]
  have HBW := hid h.lt
  obtain ⟨ea, ec, rfl, -, -⟩ := he.form
  have hl : evF s en (d + 1) f = if hasSyn s f.type [1, 2, 3] then evOrd s en f.kind f.type f.value else 2 := by unfold evF leaf; simp [hk]
  have HRT0 : Hid ((if hasSyn s f.type [1, 2, 3] then evOrd s en f.kind f.type f.value else 2) = R) := hid (by rw [← hR, hl])
  have HKK := hid hk
  have hd0 : (((d + 1 : Nat) : Int) == 0) = false := beqN (by omega)
  have hd1 : ((d + 1 : Nat) : Int) - 1 = (d : Int) := by omega
  have hd2 : ((d + 1 : Nat) : Int) ≤ 100 := by omega
  obtain ⟨dd, hdd⟩ : ∃ dd : Int, ((d + 1 : Nat) : Int) = dd := ⟨_, rfl⟩
  rw [hdd] at hd0 hd1 hd2 ⊢
  have hd3 : (0 : Int) ≤ dd := by omega
  have HDD := hid hd1
  clear h he hS hf hR hzt hzv hT hdd hd1 hl hk
  go_enter Tryz.func55, Tryz.ntmps55
  go_wp2_with (first
    | ((with_reducible refine K.atO (.box 113 _) ?_); refine wpL_box rfl _ _ rfl _ rfl (sjV b (.slice ea en.length ec) dd) rfl ?_; intro w1 HB1 HF1 HS1)
    | ((with_reducible refine K.atO (.box 46 _) ?_); refine wpL_box rfl _ _ rfl _ rfl (flV f (.slice ka f.kids.length kc) (.slice aa f.any.length ac)) rfl ?_; intro w2 HB2 HF2 HS2; refine Hid.out ?_)
    | fail)
  obtain ⟨p, hp⟩ : ∃ p, w.heap.size = p := ⟨_, rfl⟩
  rw [hp] at HB1 ⊢
  obtain ⟨q, hq⟩ : ∃ q, w1.heap.size = q := ⟨_, rfl⟩
  rw [hq] at HB2 ⊢
  have HPQ := hid (show ¬ p = b ∧ ¬ q = b ∧ w.heap.size = p ∧ q = p + 1 from ⟨by have := HBW.out; omega, by have := HBW.out; have := HS1.out; omega, hp, by have := HS1.out; omega⟩)
  have HF2' : Hid (Fr No w w2) := hid (HF1.out.trans' HF2.out)
  have HBp := hid (HB1.out.fr HF2.out id)
  have cl : w2.cell? ⟨p, 2, none⟩ = some (.int .i64 dd) := HBp.out.cell 2
  clear hp hq HS1 HS2 HB1 HF1 HF2
  refine hid ?_
  go_wp2_with (first
    | ((with_reducible refine K.atO (.store 3 _ _) ?_); refine wpL_setV rfl _ _ _ rfl p 2 (.int .i64 (dd - 1)) rfl rfl rfl rfl 113 _ HBp.out (by simp [sjV]) infoI1 ?_; intro w3 HB3 HF3 HS3; refine Hid.out ?_)
    | fail)
  rw [HDD.out] at HB3 ⊢
  have HB3' : Hid (Blk w3 p 113 (sjV b (.slice ea en.length ec) d)) := hid HB3.out
  have HF3' : Hid (Fr No w w3) := hid (HF2'.out.trans HF3.out (fun k e => .inr (by have e : k = p := e; have := HPQ.out; omega)))
  have HBq := hid (HB2.out.fr HF3.out (by show ¬ q = p; have := HPQ.out; omega))
  have HX3 := hid (HX.out.no HF3'.out)
  have HE3 := hid (HE.out.no HF3'.out)
  have HFL3 := hid (HFL.out.no HF3'.out)
  have HBW3 : Hid (b < w3.heap.size) := hid (HX3.out.lt)
  have HCP := hid (HB3'.out.range 0 (sjV b (.slice ea en.length ec) d) rfl)
  have HCQ := hid (HBq.out.range 0 (flV f (.slice ka f.kids.length kc) (.slice aa f.any.length ac)) rfl)
  have ck : w3.cell? ⟨q, 0, none⟩ = some (.int .i64 6) := by have := HBq.out.cell 0; rw [this]; simp [flV, HKK.out]
  have ct : w3.cell? ⟨q, 2, none⟩ = some (.string (sb f.type)) := HBq.out.cell 2
  clear HB2 HB3 HF3 HS3 HBp HX HE HFL HF2' cl
  refine hid ?_
  go_wp2_with (first
    | ((with_reducible refine K.atO (.load 113 _) ?_); refine wpL_load rfl _ _ rfl p 0 rfl (sjV b (.slice ea en.length ec) d) _ (HCP.out) rfl rfl infoSj ?_)
    | ((with_reducible refine K.atO (.buildSlice 141 _ _) ?_); refine wpL_buildSlice rfl _ 3 _ _ rfl [.int .i64 1, .int .i64 2, .int .i64 3] (by kernel_rfl) ?_; intro w4 HB4 HF4 HS4; refine Hid.out ?_)
    | fail)
  obtain ⟨g, hg⟩ : ∃ g, w3.heap.size = g := ⟨_, rfl⟩
  rw [hg] at HB4 ⊢
  have HGB : Hid (g ≠ b) := hid (by have := HBW3.out; omega)
  have HX4 := hid (HX3.out.no HF4.out)
  have HE4 := hid (HE3.out.no HF4.out)
  have HFL4 := hid (HFL3.out.no HF4.out)
  clear hg HS4 ct
  refine hid ?_
  have ct : w4.cell? ⟨q, 2, none⟩ = some (.string (sb f.type)) := (HBq.out.fr HF4.out id).cell 2
  go_wp2_with fail
  refine (hasSyn_any X b s f.type (.slice ea en.length ec) d [1, 2, 3] g w4 HX4.out HZT.out (HB4.out.range 0 _ rfl) HGB.out (by decide)).mono ?_
  rintro e w5 ⟨rfl, hs5, f5⟩
  have HX5 := hid (HX4.out.step hs5 f5)
  have HE5 := hid (HE4.out.fr f5 (fun i hi _ e => HS.out i hi e))
  have HFL5 := hid (HFL4.out.fr f5 (fun i hi _ e => HTB.out i hi e))
  have HF5 : Hid (Fr (fun k => k = b) w w5) := hid ((HF3'.out.trans' HF4.out).no.trans' f5)
  have HCP5 := hid (f5.range (HF4.out.range HCP.out id) HPQ.out.1)
  have HCQ5 := hid (f5.range (HF4.out.range HCQ.out id) HPQ.out.2.1)
  clear hs5 f5 ct HB4 HF4 HX4 HE4 HFL4
  cases hsy : hasSyn s f.type [1, 2, 3] with
  | false =>
    have HRT : Hid (2 = R) := hid (by rw [← HRT0.out, hsy]; rfl)
    clear hsy
    go_wp2_with fail
    go_ret
    exact ⟨by rw [← HRT.out]; rfl, HX5.out.1, HF5.out⟩
  | true =>
    have HRT : Hid (evOrd s en f.kind f.type f.value = R) := hid (by rw [← HRT0.out, hsy]; rfl)
    clear hsy
    go_wp2_with (first
      | ((with_reducible refine K.atO (.load 113 _) ?_); refine wpL_load rfl _ _ rfl p 0 rfl (sjV b (.slice ea en.length ec) d) _ (HCP5.out) rfl rfl infoSj ?_)
      | ((with_reducible refine K.atO (.load 46 _) ?_); refine wpL_load rfl _ _ rfl q 0 rfl (flV f (.slice ka f.kids.length kc) (.slice aa f.any.length ac)) _ (HCQ5.out) rfl rfl infoFl ?_)
      | fail)
    refine (evalOrder_any X b s _ en d f _ _ w5 HX5.out HE5.out HS.out HFL5.out).mono ?_
    rintro e w9 ⟨rfl, hs9, f9⟩
    rw [HRT.out]
    have HS9 := hid hs9; have HF9 := hid (HF5.out.trans' f9)
    clear hs9 f9
    go_wp2_with fail
    go_ret
    exact ⟨rfl, HS9.out, HF9.out⟩
set_option maxHeartbeats 16000000 in
theorem ev4 {S T : Nat → Prop} {M : Nat} (X : Nat → Prop) (b : Nat) (s : Sch) (ve : Value) (en : Ent) (d : Nat) (f : Fl) (cs : List Value) (w : World) (h : Tn X b s w) (he : EnIn S w ve en) (hS : ∀ i, S i → i ≠ b) (hf : FlC M T w f cs) (hT : ∀ i, T i → i ≠ b) (hd : d ≤ 50) (hk : f.kind = 4) (hE : EnS en) :
    Calls Tryz.prog 55 #[.agg (sjV b ve ((d + 1 : Nat) : Int)).toArray, .agg cs.toArray] w fun e w' => e = .returned (.int .i64 (evF s en (d + 1) f)) ∧ Sx w' X b s ∧ Fr (fun k => k = b) w w' := by
  have HES := hid hE
  clear hE
  have HX := hid h; have HS := hid hS; have HTB := hid hT
  have HE : Hid (EnIn S w ve en) := hid he
  have HFL := hid hf
  obtain ⟨ka, kc, aa, ac, rfl, -, hzt, hzv⟩ := hf.form
  have HZT := hid hzt; have HZV := hid hzv
  obtain ⟨R, hR⟩ : ∃ R, evF s en (d + 1) f = R := ⟨_, rfl⟩
  have HR := hid hR
  rw [hR]
  have HBW := hid h.lt
  obtain ⟨ea, ec, rfl, -, -⟩ := he.form
  have hl : evF s en (d + 1) f = if hasSyn s f.type [1, 2] then evParts s en f.type f.first f.any f.last else 2 := by unfold evF leaf; simp [hk]
  have HRT0 : Hid ((if hasSyn s f.type [1, 2] then evParts s en f.type f.first f.any f.last else 2) = R) := hid (by rw [← hR, hl])
  have HKK := hid hk
  have hd0 : (((d + 1 : Nat) : Int) == 0) = false := beqN (by omega)
  have hd1 : ((d + 1 : Nat) : Int) - 1 = (d : Int) := by omega
  have hd2 : ((d + 1 : Nat) : Int) ≤ 100 := by omega
  obtain ⟨dd, hdd⟩ : ∃ dd : Int, ((d + 1 : Nat) : Int) = dd := ⟨_, rfl⟩
  rw [hdd] at hd0 hd1 hd2 ⊢
  have hd3 : (0 : Int) ≤ dd := by omega
  have HDD := hid hd1
  clear h he hS hf hR hzt hzv hT hdd hd1 hl hk
  go_enter Tryz.func55, Tryz.ntmps55
  go_wp2_with (first
    | ((with_reducible refine K.atO (.box 113 _) ?_); refine wpL_box rfl _ _ rfl _ rfl (sjV b (.slice ea en.length ec) dd) rfl ?_; intro w1 HB1 HF1 HS1)
    | ((with_reducible refine K.atO (.box 46 _) ?_); refine wpL_box rfl _ _ rfl _ rfl (flV f (.slice ka f.kids.length kc) (.slice aa f.any.length ac)) rfl ?_; intro w2 HB2 HF2 HS2; refine Hid.out ?_)
    | fail)
  obtain ⟨p, hp⟩ : ∃ p, w.heap.size = p := ⟨_, rfl⟩
  rw [hp] at HB1 ⊢
  obtain ⟨q, hq⟩ : ∃ q, w1.heap.size = q := ⟨_, rfl⟩
  rw [hq] at HB2 ⊢
  have HPQ := hid (show ¬ p = b ∧ ¬ q = b ∧ w.heap.size = p ∧ q = p + 1 from ⟨by have := HBW.out; omega, by have := HBW.out; have := HS1.out; omega, hp, by have := HS1.out; omega⟩)
  have HF2' : Hid (Fr No w w2) := hid (HF1.out.trans' HF2.out)
  have HBp := hid (HB1.out.fr HF2.out id)
  have cl : w2.cell? ⟨p, 2, none⟩ = some (.int .i64 dd) := HBp.out.cell 2
  clear hp hq HS1 HS2 HB1 HF1 HF2
  refine hid ?_
  go_wp2_with (first
    | ((with_reducible refine K.atO (.store 3 _ _) ?_); refine wpL_setV rfl _ _ _ rfl p 2 (.int .i64 (dd - 1)) rfl rfl rfl rfl 113 _ HBp.out (by simp [sjV]) infoI1 ?_; intro w3 HB3 HF3 HS3; refine Hid.out ?_)
    | fail)
  rw [HDD.out] at HB3 ⊢
  have HB3' : Hid (Blk w3 p 113 (sjV b (.slice ea en.length ec) d)) := hid HB3.out
  have HF3' : Hid (Fr No w w3) := hid (HF2'.out.trans HF3.out (fun k e => .inr (by have e : k = p := e; have := HPQ.out; omega)))
  have HBq := hid (HB2.out.fr HF3.out (by show ¬ q = p; have := HPQ.out; omega))
  have HX3 := hid (HX.out.no HF3'.out)
  have HE3 := hid (HE.out.no HF3'.out)
  have HFL3 := hid (HFL.out.no HF3'.out)
  have HBW3 : Hid (b < w3.heap.size) := hid (HX3.out.lt)
  have HCP := hid (HB3'.out.range 0 (sjV b (.slice ea en.length ec) d) rfl)
  have HCQ := hid (HBq.out.range 0 (flV f (.slice ka f.kids.length kc) (.slice aa f.any.length ac)) rfl)
  have ck : w3.cell? ⟨q, 0, none⟩ = some (.int .i64 4) := by have := HBq.out.cell 0; rw [this]; simp [flV, HKK.out]
  have ct : w3.cell? ⟨q, 2, none⟩ = some (.string (sb f.type)) := HBq.out.cell 2
  clear HB2 HB3 HF3 HS3 HBp HX HE HFL HF2' cl
  refine hid ?_
  go_wp2_with (first
    | ((with_reducible refine K.atO (.load 113 _) ?_); refine wpL_load rfl _ _ rfl p 0 rfl (sjV b (.slice ea en.length ec) d) _ (HCP.out) rfl rfl infoSj ?_)
    | ((with_reducible refine K.atO (.buildSlice 141 _ _) ?_); refine wpL_buildSlice rfl _ 3 _ _ rfl [.int .i64 1, .int .i64 2] (by kernel_rfl) ?_; intro w4 HB4 HF4 HS4; refine Hid.out ?_)
    | fail)
  obtain ⟨g, hg⟩ : ∃ g, w3.heap.size = g := ⟨_, rfl⟩
  rw [hg] at HB4 ⊢
  have HGB : Hid (g ≠ b) := hid (by have := HBW3.out; omega)
  have HX4 := hid (HX3.out.no HF4.out)
  have HE4 := hid (HE3.out.no HF4.out)
  have HFL4 := hid (HFL3.out.no HF4.out)
  clear hg HS4 ct
  refine hid ?_
  have ct : w4.cell? ⟨q, 2, none⟩ = some (.string (sb f.type)) := (HBq.out.fr HF4.out id).cell 2
  go_wp2_with fail
  refine (hasSyn_any X b s f.type (.slice ea en.length ec) d [1, 2] g w4 HX4.out HZT.out (HB4.out.range 0 _ rfl) HGB.out (by decide)).mono ?_
  rintro e w5 ⟨rfl, hs5, f5⟩
  have HX5 := hid (HX4.out.step hs5 f5)
  have HE5 := hid (HE4.out.fr f5 (fun i hi _ e => HS.out i hi e))
  have HFL5 := hid (HFL4.out.fr f5 (fun i hi _ e => HTB.out i hi e))
  have HF5 : Hid (Fr (fun k => k = b) w w5) := hid ((HF3'.out.trans' HF4.out).no.trans' f5)
  have HCP5 := hid (f5.range (HF4.out.range HCP.out id) HPQ.out.1)
  have HCQ5 := hid (f5.range (HF4.out.range HCQ.out id) HPQ.out.2.1)
  clear hs5 f5 ct HB4 HF4 HX4 HE4 HFL4
  cases hsy : hasSyn s f.type [1, 2] with
  | false =>
    have HRT : Hid (2 = R) := hid (by rw [← HRT0.out, hsy]; rfl)
    clear hsy
    go_wp2_with fail
    go_ret
    exact ⟨by rw [← HRT.out]; rfl, HX5.out.1, HF5.out⟩
  | true =>
    have HRT : Hid (evParts s en f.type f.first f.any f.last = R) := hid (by rw [← HRT0.out, hsy]; rfl)
    obtain ⟨ty, hty⟩ := hasSyn_ty hsy
    have HTY := hid hty
    clear hty
    clear hsy
    go_wp2_with (first
      | ((with_reducible refine K.atO (.load 113 _) ?_); refine wpL_load rfl _ _ rfl p 0 rfl (sjV b (.slice ea en.length ec) d) _ (HCP5.out) rfl rfl infoSj ?_)
      | ((with_reducible refine K.atO (.load 46 _) ?_); refine wpL_load rfl _ _ rfl q 0 rfl (flV f (.slice ka f.kids.length kc) (.slice aa f.any.length ac)) _ (HCQ5.out) rfl rfl infoFl ?_)
      | fail)
    refine (evalParts_any X b s _ en d f ty _ _ w5 HX5.out HE5.out HS.out HFL5.out HTB.out HES.out HTY.out).mono ?_
    rintro e w9 ⟨rfl, hs9, f9⟩
    rw [HRT.out]
    have HS9 := hid hs9; have HF9 := hid (HF5.out.trans' f9)
    clear hs9 f9
    go_wp2_with fail
    go_ret
    exact ⟨rfl, HS9.out, HF9.out⟩
end Go.Proofs.YtdkkpfeiaaffhaaGreatDoor.FT
