/-
  The law's count of pieces and bytes: few.
-/
import Derived.Test.YthnahoodgkeaiaaBf2
set_option linter.unusedVariables false
set_option linter.unusedSimpArgs false
namespace Go.Proofs.Ythnahoodgkeaiaa.BE
set_option maxRecDepth 100000
open Go.RowKit K

/-- Not too many children, anywhere. -/
def small : Nat → Nd → Prop
  | 0, _ => True
  | m + 1, n => n.kids.length ≤ 20000 ∧ n.body.length ≤ 20000 ∧ ∀ x ∈ n.kids, small m x
def Fews (n : Nd) (most : Int) (w : World) (e : Ending) (w' : World) : Prop := Fr No w w' ∧ ∃ k : Int, e = .returned (.int .i64 k) ∧ 1 ≤ k ∧ k ≤ most + 140737488351233 ∧ (k ≤ most → ∀ m, small m n)
set_option maxHeartbeats 8000000 in
theorem few_any : ∀ (M N : Nat) (n : Nd) (cs : List Value) (most : Int) (w : World), 0 ≤ most → most ≤ 20000 → NdAt M (Lo N) w n cs → N ≤ w.heap.size → Calls Try.prog 11 #[.agg cs.toArray, .int .i64 most] w (Fews n most w) := by
  intro M
  induction M with
  | zero => intro N n cs most w _ _ h; exact h.elim
  | succ M ih =>
    intro N n cs most w hm0 hm1 hn hN
    obtain ⟨a, sc, hcs, htg, hbl, hkl⟩ := hn.head
    have HN := hid hn; have HIH := hid ih; have HNN := hid hN
    obtain ⟨tg, htge⟩ : ∃ tg, n.tag = tg := ⟨_, rfl⟩
    obtain ⟨kl, hkle⟩ : ∃ kl, n.kids.length = kl := ⟨_, rfl⟩
    obtain ⟨bl, hble⟩ : ∃ bl, n.body.length = bl := ⟨_, rfl⟩
    obtain ⟨bs, hbse⟩ : ∃ bs, sb n.body = bs := ⟨_, rfl⟩
    have hbsz : (bs.size : Int) = bl := by rw [← hbse, sb_size, hble]
    have HK := hid hkle; have HBLE := hid hble
    rw [htge, hbse, hkle] at hcs
    rw [hkle] at hkl
    rw [hble] at hbl
    subst hcs
    clear hn ih hN htg htge hbse hkle hble
    have hbli : (bl : Int) ≤ 140737488351232 := by omega
    have hkli : (kl : Int) ≤ 140737488351232 := by omega
    go_enter Try.func11, Try.ntmps11
    go_wp2_with ((with_reducible show wpList _ _ _ (⟨_, .box 24 _, _, _, _, _⟩ :: _) _ _); refine wpL_box rfl _ _ rfl _ rfl [.int .i64 tg, .string bs, .slice a kl sc] rfl ?_; intro w1 HB1 F1 HS1; have c1 : w1.cell? ⟨w.heap.size, 1, none⟩ = some (.string bs) := HB1.out.cell 1)
    go_loopw [5, 6] (fun kv iv wr => ∃ (k : Int) (i : Nat), kv = .int .i64 k ∧ iv = .int .i64 i ∧ i ≤ kl ∧ 1 + (i : Int) ≤ k ∧ (bl : Int) ≤ k ∧ k ≤ most + 140737488351233 ∧ Hid (k ≤ most → ∀ x ∈ n.kids.take i, ∀ m, small m x) ∧ Hid (Fr No w1 wr)) (fun _ iv _ => kl - (intOf iv).toNat)
    case atStart => exact ⟨1 + bl, 0, rfl, rfl, Nat.zero_le _, by omega, by omega, by omega, hid (fun _ x hx => by cases hx), hid (Fr.refl _ _)⟩
    case round =>
      obtain ⟨k, i, rfl, rfl, hi, hk1, hk2, hk3, HSM, HF⟩ := hrel
      have HBr := hid (HB1.out.fr HF.out id)
      have c2 : wr.cell? ⟨w.heap.size, 2, none⟩ = some (.slice a kl sc) := HBr.out.cell 2
      by_cases hlt : i < kl
      · have hlti : (i : Int) < kl := by omega
        by_cases hkm : k ≤ most
        · obtain ⟨x, hx⟩ : ∃ x, n.kids[i]? = some x := ⟨_, List.getElem?_eq_getElem (by rw [HK.out]; exact hlt)⟩
          obtain ⟨g, o, cp, c, he, hr, hcl, hxa⟩ := (HN.out.no (F1.out.trans' HF.out)).kid hx
          simp only [List.cons.injEq, Value.slice.injEq, and_true, true_and] at he
          obtain ⟨ha, -⟩ := he.2.2
          subst ha
          have HX := hid hx; have HRR := hid hr; have HCL := hid hcl; have HXA := hid hxa
          clear hx hr hcl hxa he
          go_wp2_with (first
            | ((with_reducible show wpList _ _ _ (⟨_, .load 24 _, _, _, _, _⟩ :: _) _ _); refine wpL_load rfl _ _ rfl g (o + i * 3) rfl c _ HRR.out rfl rfl (by rw [HCL.out]; exact infoN) ?_))
          refine (HIH.out N x c (most - k) wr (by omega) (by omega) HXA.out (Nat.le_trans HNN.out (F1.out.trans' HF.out).size)).mono ?_
          rintro e w2 ⟨f2, k', rfl, h1, h2, h3⟩
          have HF2 := hid (HF.out.trans' f2)
          have HS2 : Hid (k + k' ≤ most → ∀ y ∈ n.kids.take (i + 1), ∀ m, small m y) := hid (fun hkk y hy => by
            rw [List.take_add_one, HX.out] at hy
            rcases List.mem_append.1 hy with hy | hy
            · exact HSM.out (by omega) y hy
            · have : y = x := by simpa using hy
              subst this
              exact h3 (by omega))
          have hb1 : -9223372036854775808 ≤ k + k' := by omega
          have hb2 : k + k' ≤ 9223372036854775807 := by omega
          clear f2 h3
          go_wp2_with fail
          go_roundw
          case rel => exact ⟨k + k', i + 1, rfl, by go_num, by omega, by omega, by omega, by omega, HS2, HF2⟩
          case measure => simp [intOf]; omega
        · go_wp2_with fail
          go_ret
          exact ⟨F1.out.trans' HF.out, k, rfl, by omega, hk3, fun h => (by omega : False).elim⟩
      · obtain rfl : i = kl := by omega
        go_wp2_with fail
        all_goals
          go_ret
          refine ⟨F1.out.trans' HF.out, k, rfl, by omega, hk3, fun h m => ?_⟩
          have hsm := HSM.out h
          rw [← HK.out, List.take_length] at hsm
          cases m with
          | zero => trivial
          | succ m => exact ⟨by rw [HK.out]; omega, by rw [HBLE.out]; omega, fun x hx => hsm x hx m⟩
end Go.Proofs.Ythnahoodgkeaiaa.BE
