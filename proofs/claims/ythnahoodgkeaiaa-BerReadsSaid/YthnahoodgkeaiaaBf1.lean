/-
  The document's words on elements: Tag, Deep, shaped.
-/
import Derived.Test.YthnahoodgkeaiaaBeT
set_option linter.unusedVariables false
set_option linter.unusedSimpArgs false
namespace Go.Proofs.Ythnahoodgkeaiaa.BE
set_option maxRecDepth 100000
open Go.RowKit K

theorem rem31 : ∀ m : Fin 256, (decide (((m.val : Nat) : Int) % 32 = 31)) = !tagB ((m.val : Nat) : Int) := by decide +kernel
theorem tag_any (t : Int) (w : World) : Calls Try.prog 35 #[.int .i64 t] w fun e w' => e = .returned (.bool (tagB t)) ∧ w' = w := by
  by_cases h0 : 0 ≤ t
  · by_cases h1 : t ≤ 255
    · obtain ⟨m, rfl⟩ : ∃ m : Nat, t = m := ⟨t.toNat, by omega⟩
      have ha := rem31 ⟨m, by omega⟩
      simp only at ha
      cases hb : tagB (m : Int) with
      | true =>
        rw [hb] at ha
        have h2 : ((m : Int) % 32 != 31) = true := by simpa using ha
        clear ha hb
        go_enter Try.func35, Try.ntmps35
        go_wp2
        go_ret
        exact ⟨rfl, rfl⟩
      | false =>
        rw [hb] at ha
        have h2 : ((m : Int) % 32 != 31) = false := by simpa using ha
        clear ha hb
        go_enter Try.func35, Try.ntmps35
        go_wp2
        go_ret
        exact ⟨rfl, rfl⟩
    · have : tagB t = false := by simp [tagB, h1]
      rw [this]
      go_enter Try.func35, Try.ntmps35
      go_wp2
      go_ret
      exact ⟨rfl, rfl⟩
  · have : tagB t = false := by simp [tagB, h0]
    rw [this]
    go_enter Try.func35, Try.ntmps35
    go_wp2
    go_ret
    exact ⟨rfl, rfl⟩
/-- It answers b. -/
def Says (b : Bool) (w : World) (e : Ending) (w' : World) : Prop := e = .returned (.bool b) ∧ Fr No w w'
set_option maxHeartbeats 4000000 in
theorem deep_any : ∀ (m M N : Nat) (n : Nd) (cs : List Value) (w : World), m ≤ 8 → NdAt M (Lo N) w n cs → N ≤ w.heap.size → Calls Try.prog 24 #[.agg cs.toArray, .int .i64 (m : Int)] w (Says (deep m n) w) := by
  intro m
  induction m with
  | zero =>
    intro M N n cs w _ hn hN
    obtain ⟨x, y, z, hcs⟩ := box_kid cs hn.len
    subst hcs
    go_enter Try.func24, Try.ntmps24
    go_wp2_with ((with_reducible show wpList _ _ _ (⟨_, .box 24 _, _, _, _, _⟩ :: _) _ _); refine wpL_box rfl _ _ rfl _ rfl [x, y, z] rfl ?_; intro w1 HB1 F1 HS1)
    go_ret
    exact ⟨rfl, F1.out⟩
  | succ m ih =>
    intro M N n cs w hm hn hN
    obtain ⟨a, sc, hcs, htg, hbl, hkl⟩ := hn.head
    obtain ⟨M, rfl⟩ := hn.succ
    have HN := hid hn; have HIH := hid ih; have HNN := hid hN; have HM := hid hm
    obtain ⟨tg, htge⟩ : ∃ tg, n.tag = tg := ⟨_, rfl⟩
    obtain ⟨bs, hbse⟩ : ∃ bs, sb n.body = bs := ⟨_, rfl⟩
    obtain ⟨kl, hkle⟩ : ∃ kl, n.kids.length = kl := ⟨_, rfl⟩
    have HK := hid hkle
    rw [htge, hbse, hkle] at hcs
    rw [hkle] at hkl
    subst hcs
    obtain ⟨D, hD⟩ : ∃ D, deep (m + 1) n = D := ⟨_, rfl⟩
    rw [hD]
    have HD : Hid (n.kids.all (deep m) = D) := hid hD
    obtain ⟨q, hq⟩ : ∃ q : Int, ((m + 1 : Nat) : Int) = q := ⟨_, rfl⟩
    rw [hq]
    have hq1 : ¬ q < 1 := by omega
    have hq8 : q ≤ 8 := by omega
    have HQ := hid (show q - 1 = (m : Int) by omega)
    clear hn ih hN hm htg hbl htge hbse hkle hD hq
    go_enter Try.func24, Try.ntmps24
    go_wp2_with ((with_reducible show wpList _ _ _ (⟨_, .box 24 _, _, _, _, _⟩ :: _) _ _); refine wpL_box rfl _ _ rfl _ rfl [.int .i64 tg, .string bs, .slice a kl sc] rfl ?_; intro w1 HB1 F1 HS1)
    go_loopw [5] (fun iv wr => ∃ k : Nat, iv = .int .i64 k ∧ k ≤ kl ∧ Hid ((n.kids.take k).all (deep m) = true) ∧ Hid (Fr No w1 wr)) (fun iv _ => kl - (intOf iv).toNat)
    case atStart => exact ⟨0, rfl, Nat.zero_le _, hid rfl, hid (Fr.refl _ _)⟩
    case round =>
      obtain ⟨k, rfl, hk, HA, HF⟩ := hrel
      have HBr := hid (HB1.out.fr HF.out id)
      have c2 : wr.cell? ⟨w.heap.size, 2, none⟩ = some (.slice a kl sc) := HBr.out.cell 2
      have hkli : (kl : Int) ≤ 140737488351232 := by omega
      by_cases hlt : k < kl
      · have hlti : (k : Int) < kl := by omega
        obtain ⟨x, hx⟩ : ∃ x, n.kids[k]? = some x := ⟨_, List.getElem?_eq_getElem (by rw [HK.out]; exact hlt)⟩
        obtain ⟨g, o, cp, c, he, hr, hcl, hxa⟩ := (HN.out.no (F1.out.trans' HF.out)).kid hx
        simp only [List.cons.injEq, Value.slice.injEq, and_true, true_and] at he
        obtain ⟨ha, -⟩ := he.2.2
        subst ha
        have HX := hid hx; have HRR := hid hr; have HCL := hid hcl; have HXA := hid hxa
        clear hx hr hcl hxa he
        go_wp2_with (first
          | ((with_reducible show wpList _ _ _ (⟨_, .load 24 _, _, _, _, _⟩ :: _) _ _); refine wpL_load rfl _ _ rfl g (o + k * 3) rfl c _ HRR.out rfl rfl (by rw [HCL.out]; exact infoN) ?_))
        rw [HQ.out]
        refine (HIH.out M N x c wr (by have := HM.out; omega) HXA.out (Nat.le_trans HNN.out (F1.out.trans' HF.out).size)).mono ?_
        rintro e w2 ⟨rfl, f2⟩
        have HF2 := hid (HF.out.trans' f2)
        cases hdx : deep m x with
        | true =>
          have HA2 := hid (all_take HX.out HA.out hdx)
          clear f2 hdx
          go_wp2_with fail
          go_roundw
          case rel => exact ⟨k + 1, by go_num, by omega, HA2, HF2⟩
          case measure => simp [intOf]; omega
        | false =>
          have HA2 := hid (all_not HX.out hdx)
          clear f2 hdx
          go_wp2_with fail
          go_ret
          exact ⟨by rw [← HD.out, HA2.out]; rfl, F1.out.trans' HF2.out⟩
      · obtain rfl : k = kl := by omega
        go_wp2_with fail
        go_ret
        have ha := HA.out
        rw [← HK.out, List.take_length] at ha
        exact ⟨by rw [← HD.out, ha]; rfl, F1.out.trans' HF.out⟩
end Go.Proofs.Ythnahoodgkeaiaa.BE
