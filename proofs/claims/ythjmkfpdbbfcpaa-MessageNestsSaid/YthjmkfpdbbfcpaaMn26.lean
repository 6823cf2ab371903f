/-
  Part 26 of the proof: MqN.
-/
import Derived.Test.YthjmkfpdbbfcpaaMn24
import Derived.Test.YthjmkfpdbbfcpaaMn25
import Derived.Test.YthjmkfpdbbfcpaaMn16
set_option linter.unusedSimpArgs false
set_option linter.unusedVariables false
namespace Go.Proofs.Ythjmkfpdbbfcpaa.ME
set_option maxRecDepth 100000
open Go.RowKit K Go.Proofs.Ythjmkfpdbbfcpaa.BE Go.Proofs.Ythjmkfpdbbfcpaa.FR

theorem enc_shortN (m : Msg) : (encM m).1.length ≤ 4004 := by
  unfold encM
  split
  · unfold encS
    split
    · rename_i h
      exact enc8_len (errN_zero h).2.2
    · exact Nat.zero_le _
  · exact Nat.zero_le _
theorem enc_goodN {m : Msg} (h : (encM m).2 = 0) : decP (encM m).1 = (m, 0) := by
  unfold encM at h ⊢
  split
  · rename_i hr
    rw [if_pos hr] at h
    unfold decP
    rw [decR_back hr h]
  · rename_i hr
    rw [if_neg hr] at h
    cases h
theorem nest_flb (s : B) (hs : s.length ≤ 100) : ∀ (k d : Nat), FlB 1048576 d (nest s k)
  | _, 0 => trivial
  | 0, d + 1 => ⟨by show s.length ≤ _; omega, Nat.zero_le _, Nat.zero_le _, Nat.zero_le _, Nat.zero_le _, (fun a ha => by cases ha), Nat.zero_le _, (fun x hx => by cases hx)⟩
  | k + 1, d + 1 => ⟨Nat.zero_le _, Nat.zero_le _, Nat.zero_le _, Nat.zero_le _, Nat.zero_le _, (fun a ha => by cases ha), by show 1 ≤ 1048576; omega, (fun x hx => by
    obtain rfl : x = nest s k := by simpa [nest, Fl.kids] using hx
    exact nest_flb s hs k d)⟩
theorem nest_wb (s : B) (hs : s.length ≤ 100) (k : Nat) : WB (nestM s k) := ⟨nest_flb s hs k 6, Nat.zero_le _, ⟨Nat.zero_le _, (fun x hx => by cases hx)⟩, ⟨Nat.zero_le _, (fun x hx => by cases hx)⟩⟩
theorem nest_fl {s : B} {i : Nat} {S : Nat → Prop} {w : World} {g : Nat} {C : List Value} (hB : Blk w g 25 C) (hg : S g) (h : FlC (i + 1) S w (nest s i) C) :
    FlC (i + 2) S w (nest s (i + 1)) [.int .i64 2, .slice (some ⟨g, 0, none⟩) 1 1, .string ⟨#[]⟩, .string ⟨#[]⟩, .string ⟨#[]⟩, .slice none 0 0, .string ⟨#[]⟩] :=
  ⟨_, _, rfl, ⟨by show (-9223372036854775808 : Int) ≤ 2; omega, by show (2 : Int) ≤ _; omega⟩, (by show (0 : Nat) ≤ _; omega), (by show (0 : Nat) ≤ _; omega), (by show (0 : Nat) ≤ _; omega), (by show (0 : Nat) ≤ _; omega), tx_none _ _, some ⟨g, 0, none⟩, 1, rfl, Nat.le_refl _, by show (1 : Nat) ≤ _; omega, .inr ⟨g, 0, [C], rfl, hg, hB.lt, hB.range 0 _ (by simp), rfl, fun c hc => by
    obtain rfl : c = C := by simpa using hc
    exact h.len, fun j x c hx hc => by
    match j, hx, hc with
    | 0, hx, hc => cases hx; cases hc; exact h
    | j + 1, hx, hc => simp at hc⟩⟩
theorem nest_mc {s : B} {i bf : Nat} {w : World} {vk va : Value} (h : FlC (i + 1) (fun b => bf < b) w (nest s i) [.int .i64 (nest s i).kind, vk, .string (sb (nest s i).type), .string (sb (nest s i).value), .string (sb (nest s i).first), va, .string (sb (nest s i).last)]) :
    MsgC (i + 1) (fun b => bf < b) w (nestM s i) vk va (.slice none 0 0) (.slice none 0 0) (.slice none 0 0) :=
  ⟨⟨(show I64 1 from ⟨by decide, by decide⟩), (show I64 99 from ⟨by decide, by decide⟩), (show I64 0 from ⟨by decide, by decide⟩), (show I64 0 from ⟨by decide, by decide⟩), (show I64 0 from ⟨by decide, by decide⟩), (show I64 0 from ⟨by decide, by decide⟩), (show I64 0 from ⟨by decide, by decide⟩), (show I64 0 from ⟨by decide, by decide⟩), (show I64 0 from ⟨by decide, by decide⟩)⟩, ⟨(by show (0 : Nat) ≤ _; omega), (by show (0 : Nat) ≤ _; omega), (by show (0 : Nat) ≤ _; omega), (by show (0 : Nat) ≤ _; omega), (by show (0 : Nat) ≤ _; omega), (by show (0 : Nat) ≤ _; omega), (by show (0 : Nat) ≤ _; omega), (by show (0 : Nat) ≤ _; omega)⟩, h, tx_none _ _, ⟨none, 0, rfl, Nat.le_refl _, by show (0 : Nat) ≤ _; omega, .inl rfl⟩, ⟨none, 0, rfl, Nat.le_refl _, by show (0 : Nat) ≤ _; omega, .inl rfl⟩⟩
theorem nestM_enc {s : B} {k : Nat} (hs : s.length ≤ 100) (h : k < 6) : (encM (nestM s k)).2 = 0 := by
  unfold encM
  rw [if_pos (by rw [nestM_right]; simpa using h)]
  exact nestM_err s hs k h
theorem nestM_enc' {s : B} {k : Nat} (h : ¬ k < 6) : encM (nestM s k) = ([], 110) := by
  unfold encM
  rw [if_neg (by rw [nestM_right]; simpa using h)]
set_option maxHeartbeats 16000000 in
theorem messageNests_walk (n : Int) (s : B) (w : World) (hn : -9223372036854775808 ≤ n ∧ n ≤ 9223372036854775807) (hs : s.length ≤ 140737488351232) : Calls Try.prog 6 #[.int .i64 n, .string (sb s)] w fun e w' => e = .returned (.bool true) ∧ Fr No w w' := by
  have hsz : (((sb s).size : Nat) : Int) = (s.length : Int) := by rw [sb_size]
  by_cases h1 : n < 0
  · clear hn
    go_enter Try.func6, Try.ntmps6
    go_wp2_with fail
    refine (awake_any w).mono ?_
    rintro e w1 ⟨rfl, f1⟩
    have F1 := hid f1
    clear f1
    go_wp2_with fail
    go_ret
    exact ⟨rfl, F1.out⟩
  by_cases h2 : 60 < n
  · have h1' : 0 ≤ n := by omega
    clear hn
    go_enter Try.func6, Try.ntmps6
    go_wp2_with fail
    refine (awake_any w).mono ?_
    rintro e w1 ⟨rfl, f1⟩
    have F1 := hid f1
    clear f1
    go_wp2_with fail
    go_ret
    exact ⟨rfl, F1.out⟩
  by_cases h3 : 100 < s.length
  · have h3' : (100 : Int) < (s.length : Int) := by omega
    have h1' : 0 ≤ n := by omega
    have h2' : n ≤ 60 := by omega
    clear hn
    go_enter Try.func6, Try.ntmps6
    go_wp2_with fail
    refine (awake_any w).mono ?_
    rintro e w1 ⟨rfl, f1⟩
    have F1 := hid f1
    clear f1
    go_wp2_with fail
    go_ret
    exact ⟨rfl, F1.out⟩
  obtain ⟨k, hk⟩ : ∃ k : Nat, n = (k : Int) := ⟨n.toNat, by omega⟩
  subst hk
  have HS := hid (show s.length ≤ 100 by omega); have HK := hid (show k ≤ 60 by omega)
  have h1' : (0 : Int) ≤ k := by omega
  have h2' : (k : Int) ≤ 60 := by omega
  have h3' : (s.length : Int) ≤ 100 := by omega
  obtain ⟨i7, hi7, hz7, hs7, hb7⟩ := Go.info_parts infozF
  have IC := hid hi7; have ZC := hid hz7; have SC := hid hs7
  obtain ⟨S, hS⟩ : ∃ S, sb s = S := ⟨_, rfl⟩
  obtain ⟨sl, hsl⟩ : ∃ l, s.length = l := ⟨_, rfl⟩
  rw [hS] at hsz ⊢
  rw [hsl] at hsz h3'
  have HSS := hid hS
  clear hn h1 h2 h3 hs hi7 hz7 hs7 hb7 hS hsl
  go_enter Try.func6, Try.ntmps6
  go_wp2_with fail
  refine (awake_any w).mono ?_
  rintro e w1 ⟨rfl, f1⟩
  have F1 := hid f1
  clear f1
  go_wp2_with (first
    | ((with_reducible refine K.atO (.alloc 25) ?_); refine wpL_alloc rfl _ rfl _ ME.zeroF [.int .i64 0, .slice none 0 0, .string ⟨#[]⟩, .string ⟨#[]⟩, .string ⟨#[]⟩, .slice none 0 0, .string ⟨#[]⟩] rfl ?_; intro w2 HB2 F2 HS2)
    | ((with_reducible refine K.atO (.store 25 _ _) ?_); refine wpL_storeV rfl _ _ _ rfl w1.heap.size 0 (.agg #[.int .i64 7, .slice none 0 0, .string S, .string ⟨#[]⟩, .string ⟨#[]⟩, .slice none 0 0, .string ⟨#[]⟩]) [.int .i64 7, .slice none 0 0, .string S, .string ⟨#[]⟩, .string ⟨#[]⟩, .slice none 0 0, .string ⟨#[]⟩] rfl rfl rfl _ _ HB2.out (by simp) infoFl (by intro u hu; simp at hu; rcases hu with rfl | rfl | rfl | rfl | rfl | rfl | rfl <;> rfl) ?_; intro w3 HB3 F3 HS3; refine Hid.out ?_)
    | fail)
  obtain ⟨bf, hbf⟩ : ∃ b, w1.heap.size = b := ⟨_, rfl⟩
  have HBF := hid hbf
  have HI0 : Hid (∃ vk va, Blk w3 bf 25 [.int .i64 (nest s 0).kind, vk, .string (sb (nest s 0).type), .string (sb (nest s 0).value), .string (sb (nest s 0).first), va, .string (sb (nest s 0).last)] ∧ FlC 1 (fun b => bf < b) w3 (nest s 0) [.int .i64 (nest s 0).kind, vk, .string (sb (nest s 0).type), .string (sb (nest s 0).value), .string (sb (nest s 0).first), va, .string (sb (nest s 0).last)] ∧ Fr No w1 w3 ∧ bf < w3.heap.size) := hid (by
    refine ⟨.slice none 0 0, .slice none 0 0, ?_, ?_, F2.out.trans F3.out fun k e => .inr (by have e : k = w1.heap.size := e; omega), ?_⟩
    · rw [← hbf]
      show Blk w3 w1.heap.size 25 [.int .i64 7, .slice none 0 0, .string (sb s), .string ⟨#[]⟩, .string ⟨#[]⟩, .slice none 0 0, .string ⟨#[]⟩]
      rw [HSS.out]
      exact HB3.out
    · exact ⟨_, _, rfl, ⟨by show (-9223372036854775808 : Int) ≤ 7; omega, by show (7 : Int) ≤ _; omega⟩, by show s.length ≤ _; have := HS.out; omega, (by show (0 : Nat) ≤ _; omega), (by show (0 : Nat) ≤ _; omega), (by show (0 : Nat) ≤ _; omega), tx_none _ _, none, 0, rfl, Nat.le_refl _, by show (0 : Nat) ≤ _; omega, .inl rfl⟩
    · rw [← hbf]; exact HB3.out.lt)
  rw [hbf]
  clear HB2 F2 HS2 HB3 F3 HS3 hbf
  refine hid ?_
  go_wp2_with fail
  go_loopw [7] (fun iv wr => ∃ i : Nat, iv = .int .i64 i ∧ i ≤ k ∧ Hid (∃ vk va, Blk wr bf 25 [.int .i64 (nest s i).kind, vk, .string (sb (nest s i).type), .string (sb (nest s i).value), .string (sb (nest s i).first), va, .string (sb (nest s i).last)] ∧ FlC (i + 1) (fun b => bf < b) wr (nest s i) [.int .i64 (nest s i).kind, vk, .string (sb (nest s i).type), .string (sb (nest s i).value), .string (sb (nest s i).first), va, .string (sb (nest s i).last)] ∧ Fr No w1 wr ∧ bf < wr.heap.size)) (fun iv _ => k - (intOf iv).toNat)
  case atStart => exact ⟨0, rfl, Nat.zero_le _, HI0⟩
  case round =>
    clear HI0
    obtain ⟨i, rfl, hi, HI⟩ := hrel
    obtain ⟨vk, va, hB, hF, hf, hl⟩ := HI.out
    have hone := hF.one
    have HB := hid hB; have HF := hid hF; have HFR := hid hf; have HL := hid hl; have HONE := hid hone
    obtain ⟨C, hC⟩ : ∃ C, [.int .i64 (nest s i).kind, vk, .string (sb (nest s i).type), .string (sb (nest s i).value), .string (sb (nest s i).first), va, .string (sb (nest s i).last)] = C := ⟨_, rfl⟩
    clear HI hB hF hf hl hone
    by_cases hlt : i < k
    · obtain ⟨c0, c1, c2, c3, c4, c5, c6, hcc⟩ : ∃ c0 c1 c2 c3 c4 c5 c6 : Value, C = [c0, c1, c2, c3, c4, c5, c6] := ⟨_, _, _, _, _, _, _, hC.symm⟩
      rw [hC, hcc] at HB HF HONE
      have HLT := hid hlt
      have hlti : (i : Int) < k := by omega
      clear hC hcc hlt
      go_wp2_with (first
        | ((with_reducible refine K.atO (.load 25 _) ?_); refine wpL_load rfl _ _ rfl bf 0 rfl [c0, c1, c2, c3, c4, c5, c6] _ (HB.out.range 0 _ rfl) rfl rfl infoFl ?_)
        | ((with_reducible refine K.atO (.buildSlice 22 _ _) ?_); refine wpL_buildOne rfl _ 25 _ rfl i7 _ Try.underlying22 IC.out ZC.out (by rw [SC.out]; decide) (by rw [SC.out]; decide) (.agg #[c0, c1, c2, c3, c4, c5, c6]) [c0, c1, c2, c3, c4, c5, c6] rfl rfl (by rw [SC.out]; rfl) ?_; intro q2 HBq FBq HSBq; have HB2 := hid (HB.out.fr FBq.out id))
        | ((with_reducible refine K.atO (.store 25 _ _) ?_); refine wpL_storeV rfl _ _ _ rfl bf 0 (.agg #[.int .i64 2, .slice (some ⟨wr.heap.size, 0, none⟩) 1 1, .string ⟨#[]⟩, .string ⟨#[]⟩, .string ⟨#[]⟩, .slice none 0 0, .string ⟨#[]⟩]) [.int .i64 2, .slice (some ⟨wr.heap.size, 0, none⟩) 1 1, .string ⟨#[]⟩, .string ⟨#[]⟩, .string ⟨#[]⟩, .slice none 0 0, .string ⟨#[]⟩] rfl rfl rfl _ _ HB2.out (by simp) infoFl (by intro u hu; simp at hu; rcases hu with rfl | rfl | rfl | rfl | rfl | rfl | rfl <;> rfl) ?_; intro q3 HB3 F3 HS3; refine Hid.out ?_)
        | fail)
      have hD : Hid (∃ vk va, Blk q3 bf 25 [.int .i64 (nest s (i + 1)).kind, vk, .string (sb (nest s (i + 1)).type), .string (sb (nest s (i + 1)).value), .string (sb (nest s (i + 1)).first), va, .string (sb (nest s (i + 1)).last)] ∧ FlC (i + 1 + 1) (fun b => bf < b) q3 (nest s (i + 1)) [.int .i64 (nest s (i + 1)).kind, vk, .string (sb (nest s (i + 1)).type), .string (sb (nest s (i + 1)).value), .string (sb (nest s (i + 1)).first), va, .string (sb (nest s (i + 1)).last)] ∧ Fr No w1 q3 ∧ bf < q3.heap.size) := hid (by
        have hX := nest_fl (s := s) (i := i) (S := fun b => bf < b) HBq.out HL.out (HF.out.no FBq.out)
        refine ⟨_, _, HB3.out, FlC.fr F3.out (fun b hb _ e => by have h : bf < b := hb; have e : b = bf := e; omega) hX, (HFR.out.trans' FBq.out).trans F3.out fun b e => .inr (by have e : b = bf := e; have := HBF.out; omega), ?_⟩
        have := HB3.out.lt
        omega)
      clear HBq FBq HSBq HB3 F3 HS3 HB2 HB HF HFR HL HONE
      refine hid ?_
      go_wp2_with fail
      go_roundw
      case rel => exact ⟨i + 1, by go_num, HLT.out, hD⟩
      case measure => have := HLT.out; simp [intOf]; omega
    · obtain rfl : i = k := by omega
      have hnl : ¬ ((i : Int) < i) := by omega
      clear hlt hC
      have HM := hid (nest_mc HF.out)
      have HEQ := hid (show mcs (nestM s i) vk va (.slice none 0 0) (.slice none 0 0) (.slice none 0 0) = [.int .i64 1, .int .i64 99, .int .i64 0, .string ⟨#[]⟩, .string ⟨#[]⟩, .int .i64 0, .int .i64 0, .int .i64 0, .int .i64 0, .bool false, .int .i64 (nest s i).kind, vk, .string (sb (nest s i).type), .string (sb (nest s i).value), .string (sb (nest s i).first), va, .string (sb (nest s i).last), .slice none 0 0, .slice none 0 0, .slice none 0 0, .string ⟨#[]⟩, .bool false, .bool false, .string ⟨#[]⟩, .string ⟨#[]⟩, .string ⟨#[]⟩, .int .i64 0, .int .i64 0, .string ⟨#[]⟩, .string ⟨#[]⟩] from rfl)
      obtain ⟨fk, hfk⟩ : ∃ x, (nest s i).kind = x := ⟨_, rfl⟩
      obtain ⟨FT, hFT⟩ : ∃ x, sb (nest s i).type = x := ⟨_, rfl⟩
      obtain ⟨FV, hFV⟩ : ∃ x, sb (nest s i).value = x := ⟨_, rfl⟩
      obtain ⟨FF, hFF⟩ : ∃ x, sb (nest s i).first = x := ⟨_, rfl⟩
      obtain ⟨FL, hFL⟩ : ∃ x, sb (nest s i).last = x := ⟨_, rfl⟩
      rw [hfk, hFT, hFV, hFF, hFL] at HB HONE HEQ
      have HR : Hid (∀ w', Fr No wr w' → Calls Try.prog 11 #[.agg ([.int .i64 1, .int .i64 99, .int .i64 0, .string ⟨#[]⟩, .string ⟨#[]⟩, .int .i64 0, .int .i64 0, .int .i64 0, .int .i64 0, .bool false, .int .i64 fk, vk, .string FT, .string FV, .string FF, va, .string FL, .slice none 0 0, .slice none 0 0, .slice none 0 0, .string ⟨#[]⟩, .bool false, .bool false, .string ⟨#[]⟩, .string ⟨#[]⟩, .string ⟨#[]⟩, .int .i64 0, .int .i64 0, .string ⟨#[]⟩, .string ⟨#[]⟩] : List Value).toArray] w' fun e w'' => e = .returned (.bool (rightM (nestM s i))) ∧ Fr No w' w'') := hid (fun w' hf => by
        have h := pRight_any _ _ _ _ _ _ _ _ w' (HM.out.no hf)
        rwa [HEQ.out] at h)
      have HE : Hid (∀ w', Fr No wr w' → Calls Try.prog 8 #[.agg ([.int .i64 1, .int .i64 99, .int .i64 0, .string ⟨#[]⟩, .string ⟨#[]⟩, .int .i64 0, .int .i64 0, .int .i64 0, .int .i64 0, .bool false, .int .i64 fk, vk, .string FT, .string FV, .string FF, va, .string FL, .slice none 0 0, .slice none 0 0, .slice none 0 0, .string ⟨#[]⟩, .bool false, .bool false, .string ⟨#[]⟩, .string ⟨#[]⟩, .string ⟨#[]⟩, .int .i64 0, .int .i64 0, .string ⟨#[]⟩, .string ⟨#[]⟩] : List Value).toArray] w' fun e w'' => e = .returned (.tuple #[.string (sb (encM (nestM s i)).1), .int .i64 ((encM (nestM s i)).2 : Int)]) ∧ Fr No w' w'') := hid (fun w' hf => by
        have h := pencode_any _ _ _ _ _ _ _ _ w' (HM.out.no hf) (nest_wb s HS.out i)
        rwa [HEQ.out] at h)
      have HSA : Hid (∀ w' uk ua uw ul um M2 E2, Fr No wr w' → MsgC M2 E2 w' (nestM s i) uk ua uw ul um → Calls Try.prog 10 #[.agg ([.int .i64 1, .int .i64 99, .int .i64 0, .string ⟨#[]⟩, .string ⟨#[]⟩, .int .i64 0, .int .i64 0, .int .i64 0, .int .i64 0, .bool false, .int .i64 fk, vk, .string FT, .string FV, .string FF, va, .string FL, .slice none 0 0, .slice none 0 0, .slice none 0 0, .string ⟨#[]⟩, .bool false, .bool false, .string ⟨#[]⟩, .string ⟨#[]⟩, .string ⟨#[]⟩, .int .i64 0, .int .i64 0, .string ⟨#[]⟩, .string ⟨#[]⟩] : List Value).toArray, .agg (mcs (nestM s i) uk ua uw ul um).toArray] w' (Sames w')) := hid (fun w' uk ua uw ul um M2 E2 hf h2 => by
        have h := rSame_any _ E2 _ M2 (nestM s i) vk va _ _ _ uk ua uw ul um w' (HM.out.no hf) h2
        rwa [HEQ.out] at h)
      have HN1 := hid (mcs_one HM.out)
      rw [HEQ.out] at HN1
      have HRV := nestM_right s i
      rw [HRV] at HR
      have HMI := hid (show (Try.prog.info? 29).map (·.size) = some ([.int .i64 1, .int .i64 99, .int .i64 0, .string ⟨#[]⟩, .string ⟨#[]⟩, .int .i64 0, .int .i64 0, .int .i64 0, .int .i64 0, .bool false, .int .i64 fk, vk, .string FT, .string FV, .string FF, va, .string FL, .slice none 0 0, .slice none 0 0, .slice none 0 0, .string ⟨#[]⟩, .bool false, .bool false, .string ⟨#[]⟩, .string ⟨#[]⟩, .string ⟨#[]⟩, .int .i64 0, .int .i64 0, .string ⟨#[]⟩, .string ⟨#[]⟩] : List Value).length from infoMsg)
      clear HM hfk hFT hFV hFF hFL HRV HF
      by_cases h6 : i < 6
      · have hd : decide (i < 6) = true := by simpa using h6
        have h5 : ¬ ((5 : Int) < i) := by omega
        have hke := nestM_enc HS.out h6
        have HG := hid (enc_goodN hke)
        have HGd1 : Hid ((decP (encM (nestM s i)).1).1 = nestM s i) := hid (by rw [HG.out])
        have HGd2 : Hid (((decP (encM (nestM s i)).1).2 : Int) = 0) := hid (by rw [HG.out]; rfl)
        have HSL : Hid ((encM (nestM s i)).1.length ≤ 4004) := hid (enc_shortN _)
        rw [hke] at HE
        rw [hd] at HR
        obtain ⟨t, ht⟩ : ∃ t, (encM (nestM s i)).1 = t := ⟨_, rfl⟩
        rw [ht] at HE HGd1 HGd2 HSL
        obtain ⟨Mm, hMm⟩ : ∃ m, nestM s i = m := ⟨_, rfl⟩
        rw [hMm] at HGd1 HSA
        clear hd hke HG ht hMm h6
        go_wp2_with (first
          | ((with_reducible refine K.atO (.load 25 _) ?_); refine wpL_load rfl _ _ rfl bf 0 rfl [.int .i64 fk, vk, .string FT, .string FV, .string FF, va, .string FL] _ (HB.out.range 0 _ rfl) rfl rfl infoFl ?_)
          | ((with_reducible refine K.atO (.alloc 29) ?_); refine wpL_alloc rfl _ rfl _ zeroMsg [.int .i64 0, .int .i64 0, .int .i64 0, .string ⟨#[]⟩, .string ⟨#[]⟩, .int .i64 0, .int .i64 0, .int .i64 0, .int .i64 0, .bool false, .int .i64 0, .slice none 0 0, .string ⟨#[]⟩, .string ⟨#[]⟩, .string ⟨#[]⟩, .slice none 0 0, .string ⟨#[]⟩, .slice none 0 0, .slice none 0 0, .slice none 0 0, .string ⟨#[]⟩, .bool false, .bool false, .string ⟨#[]⟩, .string ⟨#[]⟩, .string ⟨#[]⟩, .int .i64 0, .int .i64 0, .string ⟨#[]⟩, .string ⟨#[]⟩] rfl ?_; intro w5 HB5 F5 HS5)
          | ((with_reducible refine K.atO (.store 29 _ _) ?_); refine wpL_storeV rfl _ _ _ rfl wr.heap.size 0 (.agg ([.int .i64 1, .int .i64 99, .int .i64 0, .string ⟨#[]⟩, .string ⟨#[]⟩, .int .i64 0, .int .i64 0, .int .i64 0, .int .i64 0, .bool false, .int .i64 fk, vk, .string FT, .string FV, .string FF, va, .string FL, .slice none 0 0, .slice none 0 0, .slice none 0 0, .string ⟨#[]⟩, .bool false, .bool false, .string ⟨#[]⟩, .string ⟨#[]⟩, .string ⟨#[]⟩, .int .i64 0, .int .i64 0, .string ⟨#[]⟩, .string ⟨#[]⟩] : List Value).toArray) [.int .i64 1, .int .i64 99, .int .i64 0, .string ⟨#[]⟩, .string ⟨#[]⟩, .int .i64 0, .int .i64 0, .int .i64 0, .int .i64 0, .bool false, .int .i64 fk, vk, .string FT, .string FV, .string FF, va, .string FL, .slice none 0 0, .slice none 0 0, .slice none 0 0, .string ⟨#[]⟩, .bool false, .bool false, .string ⟨#[]⟩, .string ⟨#[]⟩, .string ⟨#[]⟩, .int .i64 0, .int .i64 0, .string ⟨#[]⟩, .string ⟨#[]⟩] rfl rfl rfl _ _ HB5.out (by simp) HMI.out HN1.out ?_; intro w6 HB6 F6 HS6; have f6 : Hid (Fr No wr w6) := hid (F5.out.trans F6.out fun k e => .inr (by have e : k = wr.heap.size := e; omega)))
          | ((with_reducible refine K.atO (.load 29 _) ?_); refine wpL_load rfl _ _ rfl wr.heap.size 0 rfl [.int .i64 1, .int .i64 99, .int .i64 0, .string ⟨#[]⟩, .string ⟨#[]⟩, .int .i64 0, .int .i64 0, .int .i64 0, .int .i64 0, .bool false, .int .i64 fk, vk, .string FT, .string FV, .string FF, va, .string FL, .slice none 0 0, .slice none 0 0, .slice none 0 0, .string ⟨#[]⟩, .bool false, .bool false, .string ⟨#[]⟩, .string ⟨#[]⟩, .string ⟨#[]⟩, .int .i64 0, .int .i64 0, .string ⟨#[]⟩, .string ⟨#[]⟩] _ (HB6.out.range 0 _ rfl) rfl rfl HMI.out ?_)
          | fail)
        refine (HR.out w6 f6.out).mono ?_
        rintro e w7 ⟨rfl, f7⟩
        have HB7 := hid (HB6.out.fr f7 id); have G7 := hid (f6.out.trans' f7)
        clear f7 HB5 F5 HS5 HB6 F6 HS6
        go_wp2_with (first
          | ((with_reducible refine K.atO (.load 29 _) ?_); refine wpL_load rfl _ _ rfl wr.heap.size 0 rfl [.int .i64 1, .int .i64 99, .int .i64 0, .string ⟨#[]⟩, .string ⟨#[]⟩, .int .i64 0, .int .i64 0, .int .i64 0, .int .i64 0, .bool false, .int .i64 fk, vk, .string FT, .string FV, .string FF, va, .string FL, .slice none 0 0, .slice none 0 0, .slice none 0 0, .string ⟨#[]⟩, .bool false, .bool false, .string ⟨#[]⟩, .string ⟨#[]⟩, .string ⟨#[]⟩, .int .i64 0, .int .i64 0, .string ⟨#[]⟩, .string ⟨#[]⟩] _ (HB7.out.range 0 _ rfl) rfl rfl HMI.out ?_)
          | fail)
        refine (HE.out w7 G7.out).mono ?_
        rintro e w8 ⟨rfl, f8⟩
        have HB8 := hid (HB7.out.fr f8 id); have G8 := hid (G7.out.trans' f8)
        clear f8
        go_wp2_with fail
        refine (pdecode_any t w8 (by have := HSL.out; omega)).mono ?_
        rintro e w9 ⟨uk, ua, uw, ul, um, rfl, hu, f9⟩
        rw [HGd1.out] at hu ⊢
        rw [HGd2.out]
        have HU := hid hu; have HUO := hid (mcs_one hu); have HB9 := hid (HB8.out.fr f9 id); have G9 := hid (G8.out.trans' f9)
        have HUL := hid (show (Try.prog.info? 29).map (·.size) = some (mcs Mm uk ua uw ul um).length from infoMsg)
        have HSB : Hid (∀ w', Fr No wr w' → Fr No w9 w' → Calls Try.prog 10 #[.agg ([.int .i64 1, .int .i64 99, .int .i64 0, .string ⟨#[]⟩, .string ⟨#[]⟩, .int .i64 0, .int .i64 0, .int .i64 0, .int .i64 0, .bool false, .int .i64 fk, vk, .string FT, .string FV, .string FF, va, .string FL, .slice none 0 0, .slice none 0 0, .slice none 0 0, .string ⟨#[]⟩, .bool false, .bool false, .string ⟨#[]⟩, .string ⟨#[]⟩, .string ⟨#[]⟩, .int .i64 0, .int .i64 0, .string ⟨#[]⟩, .string ⟨#[]⟩] : List Value).toArray, .agg (mcs Mm uk ua uw ul um).toArray] w' (Sames w')) := hid (fun w' hf hf4 => HSA.out w' uk ua uw ul um 6 _ hf (HU.out.no hf4))
        obtain ⟨D, hD⟩ : ∃ D, mcs Mm uk ua uw ul um = D := ⟨_, rfl⟩
        have HDL : Hid (D.length = 30) := hid (by rw [← hD]; rfl)
        rw [hD] at HUO HUL HSB ⊢
        clear hu f9 hD HSA HU
        go_wp2_with (first
          | ((with_reducible refine K.atO (.alloc 29) ?_); refine wpL_alloc rfl _ rfl _ zeroMsg [.int .i64 0, .int .i64 0, .int .i64 0, .string ⟨#[]⟩, .string ⟨#[]⟩, .int .i64 0, .int .i64 0, .int .i64 0, .int .i64 0, .bool false, .int .i64 0, .slice none 0 0, .string ⟨#[]⟩, .string ⟨#[]⟩, .string ⟨#[]⟩, .slice none 0 0, .string ⟨#[]⟩, .slice none 0 0, .slice none 0 0, .slice none 0 0, .string ⟨#[]⟩, .bool false, .bool false, .string ⟨#[]⟩, .string ⟨#[]⟩, .string ⟨#[]⟩, .int .i64 0, .int .i64 0, .string ⟨#[]⟩, .string ⟨#[]⟩] rfl ?_; intro u5 HB5 F5 HS5)
          | ((with_reducible refine K.atO (.store 29 _ _) ?_); refine wpL_storeV rfl _ _ _ rfl w9.heap.size 0 (.agg D.toArray) D rfl rfl rfl _ _ HB5.out (by rw [HDL.out]; simp) HUL.out HUO.out ?_; intro u6 HB6 F6 HS6; have HBD : Hid (Blk u6 w9.heap.size 29 D) := hid (by have h := HB6.out; rwa [spl_all (by rw [HDL.out]; simp)] at h); have f46 : Hid (Fr No w9 u6) := hid (F5.out.trans F6.out fun k e => .inr (by have e : k = w9.heap.size := e; omega)); have HB6' := hid (HB9.out.fr f46.out id))
          | ((with_reducible refine K.atO (.load 29 _) ?_); (fail_if_success (have := HL1)); refine wpL_load rfl _ _ rfl wr.heap.size 0 rfl [.int .i64 1, .int .i64 99, .int .i64 0, .string ⟨#[]⟩, .string ⟨#[]⟩, .int .i64 0, .int .i64 0, .int .i64 0, .int .i64 0, .bool false, .int .i64 fk, vk, .string FT, .string FV, .string FF, va, .string FL, .slice none 0 0, .slice none 0 0, .slice none 0 0, .string ⟨#[]⟩, .bool false, .bool false, .string ⟨#[]⟩, .string ⟨#[]⟩, .string ⟨#[]⟩, .int .i64 0, .int .i64 0, .string ⟨#[]⟩, .string ⟨#[]⟩] _ (HB6'.out.range 0 _ rfl) rfl rfl HMI.out ?_; have HL1 : Hid True := hid trivial)
          | ((with_reducible refine K.atO (.load 29 _) ?_); refine wpL_load rfl _ _ rfl w9.heap.size 0 rfl D _ (HBD.out.range 0 _ (by rw [List.drop_zero, List.take_length])) rfl rfl HUL.out ?_)
          | fail)
        refine (HSB.out u6 (G9.out.trans' f46.out) f46.out).mono ?_
        rintro e u7 ⟨rfl, f7⟩
        have HF7 := hid ((F1.out.trans' HFR.out).trans' ((G9.out.trans' f46.out).trans' f7))
        clear f7
        go_wp2_with fail
        go_ret
        exact ⟨rfl, HF7.out⟩
      · have hd : decide (i < 6) = false := by simpa using h6
        have h5 : ((5 : Int) < i) := by omega
        rw [nestM_enc' h6] at HE
        rw [hd] at HR
        clear hd h6 HSA
        go_wp2_with (first
          | ((with_reducible refine K.atO (.load 25 _) ?_); refine wpL_load rfl _ _ rfl bf 0 rfl [.int .i64 fk, vk, .string FT, .string FV, .string FF, va, .string FL] _ (HB.out.range 0 _ rfl) rfl rfl infoFl ?_)
          | ((with_reducible refine K.atO (.alloc 29) ?_); refine wpL_alloc rfl _ rfl _ zeroMsg [.int .i64 0, .int .i64 0, .int .i64 0, .string ⟨#[]⟩, .string ⟨#[]⟩, .int .i64 0, .int .i64 0, .int .i64 0, .int .i64 0, .bool false, .int .i64 0, .slice none 0 0, .string ⟨#[]⟩, .string ⟨#[]⟩, .string ⟨#[]⟩, .slice none 0 0, .string ⟨#[]⟩, .slice none 0 0, .slice none 0 0, .slice none 0 0, .string ⟨#[]⟩, .bool false, .bool false, .string ⟨#[]⟩, .string ⟨#[]⟩, .string ⟨#[]⟩, .int .i64 0, .int .i64 0, .string ⟨#[]⟩, .string ⟨#[]⟩] rfl ?_; intro w5 HB5 F5 HS5)
          | ((with_reducible refine K.atO (.store 29 _ _) ?_); refine wpL_storeV rfl _ _ _ rfl wr.heap.size 0 (.agg ([.int .i64 1, .int .i64 99, .int .i64 0, .string ⟨#[]⟩, .string ⟨#[]⟩, .int .i64 0, .int .i64 0, .int .i64 0, .int .i64 0, .bool false, .int .i64 fk, vk, .string FT, .string FV, .string FF, va, .string FL, .slice none 0 0, .slice none 0 0, .slice none 0 0, .string ⟨#[]⟩, .bool false, .bool false, .string ⟨#[]⟩, .string ⟨#[]⟩, .string ⟨#[]⟩, .int .i64 0, .int .i64 0, .string ⟨#[]⟩, .string ⟨#[]⟩] : List Value).toArray) [.int .i64 1, .int .i64 99, .int .i64 0, .string ⟨#[]⟩, .string ⟨#[]⟩, .int .i64 0, .int .i64 0, .int .i64 0, .int .i64 0, .bool false, .int .i64 fk, vk, .string FT, .string FV, .string FF, va, .string FL, .slice none 0 0, .slice none 0 0, .slice none 0 0, .string ⟨#[]⟩, .bool false, .bool false, .string ⟨#[]⟩, .string ⟨#[]⟩, .string ⟨#[]⟩, .int .i64 0, .int .i64 0, .string ⟨#[]⟩, .string ⟨#[]⟩] rfl rfl rfl _ _ HB5.out (by simp) HMI.out HN1.out ?_; intro w6 HB6 F6 HS6; have f6 : Hid (Fr No wr w6) := hid (F5.out.trans F6.out fun k e => .inr (by have e : k = wr.heap.size := e; omega)))
          | ((with_reducible refine K.atO (.load 29 _) ?_); refine wpL_load rfl _ _ rfl wr.heap.size 0 rfl [.int .i64 1, .int .i64 99, .int .i64 0, .string ⟨#[]⟩, .string ⟨#[]⟩, .int .i64 0, .int .i64 0, .int .i64 0, .int .i64 0, .bool false, .int .i64 fk, vk, .string FT, .string FV, .string FF, va, .string FL, .slice none 0 0, .slice none 0 0, .slice none 0 0, .string ⟨#[]⟩, .bool false, .bool false, .string ⟨#[]⟩, .string ⟨#[]⟩, .string ⟨#[]⟩, .int .i64 0, .int .i64 0, .string ⟨#[]⟩, .string ⟨#[]⟩] _ (HB6.out.range 0 _ rfl) rfl rfl HMI.out ?_)
          | fail)
        refine (HR.out w6 f6.out).mono ?_
        rintro e w7 ⟨rfl, f7⟩
        have HB7 := hid (HB6.out.fr f7 id); have G7 := hid (f6.out.trans' f7)
        clear f7 HB5 F5 HS5 HB6 F6 HS6
        go_wp2_with (first
          | ((with_reducible refine K.atO (.load 29 _) ?_); refine wpL_load rfl _ _ rfl wr.heap.size 0 rfl [.int .i64 1, .int .i64 99, .int .i64 0, .string ⟨#[]⟩, .string ⟨#[]⟩, .int .i64 0, .int .i64 0, .int .i64 0, .int .i64 0, .bool false, .int .i64 fk, vk, .string FT, .string FV, .string FF, va, .string FL, .slice none 0 0, .slice none 0 0, .slice none 0 0, .string ⟨#[]⟩, .bool false, .bool false, .string ⟨#[]⟩, .string ⟨#[]⟩, .string ⟨#[]⟩, .int .i64 0, .int .i64 0, .string ⟨#[]⟩, .string ⟨#[]⟩] _ (HB7.out.range 0 _ rfl) rfl rfl HMI.out ?_)
          | fail)
        refine (HE.out w7 G7.out).mono ?_
        rintro e w8 ⟨rfl, f8⟩
        have HB8 := hid (HB7.out.fr f8 id); have G8 := hid (G7.out.trans' f8)
        clear f8
        go_wp2_with fail
        have HF8 := hid ((F1.out.trans' HFR.out).trans' G8.out)
        go_ret
        exact ⟨rfl, HF8.out⟩
end Go.Proofs.Ythjmkfpdbbfcpaa.ME
