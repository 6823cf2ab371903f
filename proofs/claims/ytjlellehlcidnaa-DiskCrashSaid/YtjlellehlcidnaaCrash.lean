/-
  The law DiskCrash: its program returns true and writes nothing that was there.
-/
import Derived.Test.YtjlellehlcidnaaStates
import Derived.Test.YtjlellehlcidnaaWrites
namespace Go.Proofs.Ytjlellehlcidnaa.D
open Go.RowKit K

theorem info32z : (Try.prog.info? 32).map (fun i => (i.zero, i.size, i.bytes)) = some (some (.slice none 0 0), 1, 24) := by kernel_rfl
theorem crash_lasting (s : St) (k : List Bool) {m : Nat} (hm : m < s.L.length) : ∃ l, (s.crash k).2.L[m]? = some l ∧ (s.crash k).2.lasting m = (l, 0) := by
  have h : m < (s.crash k).2.L.length := by simpa [St.crash, St.some, applied_length] using hm
  exact ⟨(s.crash k).2.L[m], List.getElem?_eq_getElem h, by simp [St.lasting, List.getElem?_eq_getElem h]⟩

set_option maxRecDepth 100000 in
set_option maxHeartbeats 1000000 in
theorem crash_walk (w : World) (v0 : Value) (x0 : List Actd) (n : Int) (v2 : Value) (x2 : List (List Int)) (v3 : Value) (x3 : List Bool) (hx0 : ActsIn w w.heap.size v0 x0) (_ : n ≤ 9223372036854775807) (hx2 : ListsIn w v2 x2)
    (hx3 : BoolsIn w (fun k => k < w.heap.size) v3 x3) (hl3 : x3.length ≤ 9223372036854775807) :
    Calls Try.prog 5 #[v0, .int .i64 n, v2, v3] w fun e w' => e = .returned (.bool true) ∧ Below w.heap.size w w' := by
  obtain ⟨i32, hi, hz, hs, hb⟩ := info_parts info32z
  have Hi := hid hi; have Hz := hid hz; have Hs := hid hs; have Hb := hid hb
  clear hi hz hs hb
  obtain ⟨a2, l2, c2, rfl, hl2, hlm, -⟩ := id hx2
  have hlm' : (l2 : Int) ≤ 140737488351232 := by omega
  have HX := hid hx0; have H2 := hid hx2; have HL2 := hid hl2; have H3 := hid hx3; have HL3 := hid hl3
  clear hx0 hx2 hl2 hx3 hl3 hlm
  go_enter Try.func5, Try.ntmps5
  go_wp2_with fail
  refine (awake_any _).mono ?_
  rintro e w1 ⟨rfl, hf1⟩
  have HF1 := hid hf1
  clear hf1
  have hb1 : Below w.heap.size w w1 := HF1.out.below (fun _ e => e.elim) (Nat.le_refl _)
  have HB1 := hid hb1; clear hb1
  go_wp2_with fail
  refine (played_any w.heap.size w1 v0 x0 HF1.out.size (HX.out.later HB1.out)).mono ?_
  intro e w2 hpl
  unfold Played at hpl
  obtain ⟨bd, br, s, rfl, ht, hP, hL, hb2⟩ := hpl
  have how := two_ow ht (HB1.out.trans hb2)
  have HO2 := hid how; have HL := hid hL
  clear ht hP hL hb2 how
  have HSp : n < 0 ∨ (¬ n < 0 ∧ 3 < n) ∨ ∃ m : Nat, n = m ∧ m < 4 := by
    by_cases h1 : n < 0
    · exact .inl h1
    · by_cases h2 : 3 < n
      · exact .inr (.inl ⟨h1, h2⟩)
      · exact .inr (.inr ⟨n.toNat, by omega, by omega⟩)
  rcases HSp with h1 | ⟨h1, h1'⟩ | ⟨m, rfl, hm⟩
  · go_wp2
    go_ret
    exact ⟨rfl, HO2.out.below⟩
  · go_wp2
    go_ret
    exact ⟨rfl, HO2.out.below⟩
  have hm0 : (0 : Int) ≤ m := by omega
  have hm1 : (m : Int) ≤ 3 := by omega
  go_wp2_with fail
  refine (ow_crash (.slice none 0 0) [] (fun k => k < w.heap.size) HO2.out ⟨none, 0, 0, rfl, rfl, .inl rfl⟩ (fun k hk => .inl hk) (by decide)).mono ?_
  rintro e w3 ⟨rfl, ho3, -⟩
  have HO3 := hid ho3
  clear ho3
  obtain ⟨l0, hl0, hla⟩ := crash_lasting s [] (m := m) (by rw [HL.out]; exact hm)
  have HUp : (s.crash []).2.up = true := rfl
  have HLeft : (s.crash []).2.left = -1 := rfl
  have HPn : (s.crash []).2.P = [] := rfl
  generalize (s.crash []).2 = s1 at HO3 hl0 hla HUp HLeft HPn
  have hml : m < s1.L.length := (List.getElem?_eq_some_iff.1 hl0).1
  have HLa := hid hla
  have H64 : Hid (l0.length = 64) := hid (HO3.out.ok.sec l0 (List.mem_of_getElem? hl0))
  have HWn : Hid (∀ (Q : List (List Int)) (b : List Int), 64 < b.length → (s1.wit m Q).write m b = (2, s1.wit m Q)) := hid (fun Q b hb => wit_write_no HUp hml hb)
  have HWy : Hid (∀ (Q : List (List Int)) (b : List Int), ¬ 64 < b.length → (s1.wit m Q).write m b = (0, s1.wit m (Q ++ [pad b]))) := hid (fun Q b hb => wit_write_yes HUp HLeft hml hb)
  have HRd : Hid (∀ (Q : List (List Int)) (q : List Int), (s1.wit m (Q ++ [q])).read m = (q, 0)) := hid (fun Q q => wit_read HUp hml)
  have HN : Hid (s1.wit m [] = s1) := hid (wit_nil HPn m)
  have HCr : Hid (∀ Q, ∃ y, ((s1.wit m Q).crash x3).2.read m = (y, 0) ∧ ((s1.wit m Q).crash x3).2.lasting m = (y, 0) ∧ y ∈ l0 :: Q) := hid (fun Q => wit_crash hl0 x3)
  clear hl0 hla HUp HLeft HPn hml
  go_wp2_with fail
  refine (ow_lasting m HO3.out).mono ?_
  rintro e w4 ⟨v4, rfl, hv4, ho4, -⟩
  rw [HLa.out] at hv4 ⊢
  have HV4 := hid hv4; have HO4 := hid ho4
  obtain ⟨a4, l4, c4, rfl, -⟩ := hv4
  clear ho4
  go_wp2_with ((with_reducible show wpList _ _ _ ({ dst := _, op := .buildSlice 45 _ _, type := _, pos := _, after := _, guard := _ } :: _) _ _); refine wpL_buildOne rfl _ 32 _ rfl i32 _ rfl Hi.out Hz.out (by rw [Hs.out]; decide) (by rw [Hs.out]; decide) _ [.slice a4 l4 c4] rfl rfl (by rw [Hs.out]; rfl) ?_; intro w5 HB5 HF5 HS5)
  have hst := sts_new HO4.out HV4.out HB5.out HF5.out
  rw [← HN.out] at hst
  have HSt := hid hst
  clear hst HB5 HF5 HS5
  go_loopw [14, 15] (fun sv i wr => ∃ k : Nat, k ≤ l2 ∧ k ≤ 20 ∧ i = .int .i64 k ∧ ∃ Q, Hid (Sts w wr bd (s1.wit m Q) sv (l0 :: Q)) ∧ Hid (Q.length ≤ k) ∧ Hid (∀ q ∈ l0 :: Q, q.length = 64)) (fun _ i _ => 20 - (intOf i).toNat)
  case atStart => exact ⟨0, Nat.zero_le _, by omega, rfl, [], HSt, hid (by simp), hid (by simpa using H64.out)⟩
  case round =>
    obtain ⟨k, hk, hk2, rfl, Q, HS, HQ, HQ64⟩ := hrel
    obtain ⟨sa, sc, rfl⟩ := HS.out.form
    clear HSt
    have HSp : (k < l2 ∧ k < 20) ∨ ((k : Int) < l2 ∧ ¬ (k : Int) < 20) ∨ ¬ (k : Int) < l2 := by omega
    by_cases hin : k < l2 ∧ k < 20
    · obtain ⟨hl1, hl2⟩ := hin
      obtain ⟨b, hb⟩ : ∃ b, x2[k]? = some b := ⟨x2[k]'(by rw [HL2.out]; exact hl1), List.getElem?_eq_getElem _⟩
      obtain ⟨a2', l2', c2', e1, _, _, hel⟩ := H2.out
      simp only [Value.slice.injEq] at e1
      obtain ⟨rfl, rfl, rfl⟩ := e1
      obtain ⟨g, o, u, rfl, hg, hc0, hu⟩ := hel k b hb
      obtain ⟨Kp, how⟩ := HS.out.ow
      have hc : wr.cell? ⟨g, o + k, none⟩ = some u := how.fr.cell hc0 id
      have HU := hid hu
      have hk0 : (0 : Int) ≤ k := by omega
      have hk1 : (k : Int) < l2 := by omega
      have hk3 : (k : Int) < 20 := by omega
      obtain ⟨au, lu, cu, rfl, -⟩ := hu
      clear hel hb hc0 how hg HSp
      go_wp2_with fail
      refine (sts_write m _ b HS.out HU.out (by have := HQ.out; simp [St.wit]; omega)).mono ?_
      rintro e w6 ⟨rfl, hs6⟩
      by_cases h64 : 64 < b.length
      · rw [HWn.out Q b h64] at hs6 ⊢
        have HS6 := hid hs6
        clear hs6 hc
        go_wp2
        exact ⟨⟨k + 1, by omega, by omega, by go_num, Q, HS6, hid (by have := HQ.out; omega), HQ64⟩, by simp [intOf]; omega⟩
      · rw [HWy.out Q b h64] at hs6 ⊢
        have HS6 := hid hs6
        clear hs6 hc
        go_wp2_with fail
        refine (sts_read m HS6.out).mono ?_
        rintro e w7 ⟨v7, rfl, hv7⟩
        rw [HRd.out Q (pad b)] at hv7 ⊢
        obtain ⟨a7, l7, c7, rfl, -⟩ := hv7.bytes
        obtain ⟨Kp, cs7, hx7, hb7⟩ := hv7
        have HX7 := hid hx7; have HB7 := hid hb7
        clear hx7 hb7
        go_wp2_with (first
          | ((with_reducible show wpList _ _ _ ({ dst := _, op := .buildSlice 45 _ _, type := _, pos := _, after := _, guard := _ } :: _) _ _); refine wpL_buildOne rfl _ 32 _ rfl i32 _ rfl Hi.out Hz.out (by rw [Hs.out]; decide) (by rw [Hs.out]; decide) _ [.slice a7 l7 c7] rfl rfl (by rw [Hs.out]; rfl) ?_; intro w8 HB8 HF8 HS8)
          | ((with_reducible show wpList _ _ _ ({ dst := _, op := .call { callee := .builtin .append, args := _, argTypes := _ }, type := _, pos := _, after := _, guard := _ } :: _) _ _); refine wpL_append rfl _ _ 45 rfl w.heap.size 32 i32 _ 1 24 rfl Hi.out Hz.out Hs.out Hb.out rfl (by decide) (.slice sa (l0 :: Q).length sc) (l0 :: Q).length cs7 (by rfl) (own_fr HX7.out.own HF8.out (fun _ _ e => e)) _ 1 1 [.slice a7 l7 c7] (by rfl) rfl (.inr ⟨_, rfl, HB8.out.news⟩) (by simp [Value.oneCell']) (by have := HQ.out; simp; unfold maxLen; omega) (by have := HQ.out; simp; omega) (Nat.le_trans HX7.out.ow.fr.size HF8.out.size) ?_; intro a9 c9 w9 HO9 HG9 HA9))
        have HS9 := hid (sts_append HX7.out HB7.out HF8.out HO9.out HG9.out HA9.out)
        clear HO9 HG9 HA9 HB8 HF8 HS8
        exact ⟨⟨k + 1, by omega, by omega, by go_num, Q ++ [pad b], HS9, hid (by have := HQ.out; simp; omega), hid (by
          intro q hq
          rw [← List.cons_append, List.mem_append] at hq
          rcases hq with hq | hq
          · exact HQ64.out q hq
          · rw [List.mem_singleton.1 hq]; exact pad_length (by omega))⟩, by simp [intOf]; omega⟩
    · have HSp' : ((k : Int) < l2 ∧ ¬ (k : Int) < 20) ∨ ¬ (k : Int) < l2 := by omega
      clear HSp hin
      obtain ⟨y, hy1, hy2, hy3⟩ := HCr.out Q
      have HY1 := hid hy1; have HY2 := hid hy2; have HY3 := hid hy3
      clear hy1 hy2 hy3
      have HTl : Hid ((l0 :: Q).length ≤ 21) := hid (by have := HQ.out; simp; omega)
      generalize l0 :: Q = T at HS HY3 HTl HQ64 ⊢
      rcases HSp' with ⟨hk1, hk3⟩ | hk1
      all_goals
        go_wp2_with fail
        refine (sts_crash v3 x3 HS.out H3.out HL3.out).mono ?_
        rintro e w6 ⟨rfl, hs6⟩
        have HS6 := hid hs6
        clear hs6
        have HPd : Hid ((((s1.wit m Q).crash x3).2.P.length : Int) = 0) := hid rfl
        generalize ((s1.wit m Q).crash x3).2 = s2 at HY1 HY2 HS6 HPd
        go_wp2_with fail
        refine (sts_read m HS6.out).mono ?_
        rintro e w7 ⟨v7, rfl, hv7⟩
        rw [HY1.out] at hv7 ⊢
        have HV7 := hid hv7
        obtain ⟨a7, l7, c7, rfl, -⟩ := hv7.bytes
        have HLn : Hid (y.length ≤ 9223372036854775807) := hid (by
          obtain ⟨Kp, how⟩ := hv7.sts.ow
          have := len_read s2 m how.ok
          rwa [HY1.out] at this)
        clear hv7
        go_wp2_with fail
        refine (stsV_lasting m HV7.out).mono ?_
        rintro e w8 ⟨v8, rfl, hv8, hb8⟩
        rw [HY2.out] at hb8 ⊢
        have HV8 := hid hv8; have HB8 := hid hb8
        obtain ⟨a8, l8, c8, rfl, -⟩ := hb8
        clear hv8
        go_wp2_with fail
        refine (same_any _ _ _ _ _ _ _ HV8.out.bytes HB8.out HLn.out).mono ?_
        rintro e w9 ⟨rfl, hf9⟩
        have HV9 := hid (HV8.out.no hf9)
        clear hf9
        simp only [decide_true]
        go_wp2_with fail
        go_loopw [24, 25] (fun f i wr => ∃ k : Nat, k ≤ T.length ∧ i = .int .i64 k ∧ f = .bool (decide (y ∈ T.take k)) ∧ Hid (StsV w wr bd s2 (.slice sa T.length sc) T (.slice a7 l7 c7) y)) (fun _ i _ => T.length - (intOf i).toNat)
        case atStart => exact ⟨0, Nat.zero_le _, rfl, by simp, HV9⟩
        case round =>
          obtain ⟨j, hj, rfl, rfl, HV⟩ := hrel
          clear HS HS6 HV7 HV8 HV9
          by_cases hlt : j < T.length
          · obtain ⟨q, hq⟩ : ∃ q, T[j]? = some q := ⟨T[j], List.getElem?_eq_getElem _⟩
            obtain ⟨g, u, rfl, hc, hu⟩ := HV.out.sts.load hq
            have HU := hid hu
            obtain ⟨au, lu, cu, rfl, -⟩ := hu
            have HLq : Hid (q.length ≤ 9223372036854775807) := hid (by rw [HQ64.out q (List.mem_of_getElem? hq)]; decide)
            have HTk : Hid (decide (y ∈ T.take (j + 1)) = (decide (y ∈ T.take j) || decide (q = y))) := hid (by
              obtain ⟨h1, rfl⟩ := List.getElem?_eq_some_iff.1 hq
              have e : (y ∈ T.take j ++ [T[j]]) ↔ (y ∈ T.take j ∨ T[j] = y) := by rw [List.mem_append, List.mem_singleton, eq_comm (a := y)]
              rw [List.take_succ_eq_append_getElem h1, decide_eq_decide.2 e, Bool.decide_or])
            have hk0 : (0 : Int) ≤ j := by omega
            have hk5 : (j : Int) < T.length := by omega
            have hk6 : (j : Int) ≤ 21 := by have := HTl.out; omega
            clear hq
            generalize decide (y ∈ T.take j) = f at HTk ⊢
            go_wp2_with fail
            refine (same_any _ _ _ _ _ _ _ HU.out HV.out.bytes HLq.out).mono ?_
            rintro e w10 ⟨rfl, hf10⟩
            have HV10 := hid (HV.out.no hf10)
            clear hf10 hc
            generalize decide (q = y) = b2 at HTk ⊢
            cases f <;> cases b2
            all_goals
              go_wp2
              exact ⟨⟨j + 1, by omega, by go_num, by rw [HTk.out]; rfl, HV10⟩, by simp [intOf]; omega⟩
          · obtain rfl : j = T.length := by omega
            have hk5 : ¬ ((T.length : Int) < T.length) := by omega
            rw [List.take_length, decide_eq_true HY3.out]
            obtain ⟨Kp, how⟩ := HV.out.sts.ow
            have HOw := hid how
            clear how
            go_wp2_with fail
            refine (ow_pending HOw.out).mono ?_
            rintro e w' ⟨rfl, rfl⟩
            rw [HPd.out]
            go_wp2
            go_ret
            exact ⟨rfl, HOw.out.below⟩
end Go.Proofs.Ytjlellehlcidnaa.D
