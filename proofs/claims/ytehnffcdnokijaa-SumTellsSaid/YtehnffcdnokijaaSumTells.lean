/-
  SumTells: the walk.
-/
import Derived.Test.YtehnffcdnokijaaSumJoins
import Derived.Test.YtehnffcdnokijaaDraw
import Derived.IntWalk
namespace Go.Proofs.Ytehnffcdnokijaa.S
open Go.RowKit K

/-- c is b with the pattern's first k bits turned, from bit 'at_' on. -/
structure Turned (b c : List UInt8) (at_ p k : Nat) : Prop where
  len : c.length = b.length
  num : num c = num b ^^^ ((p % 2 ^ k) <<< at_)
theorem Turned.zero (b : List UInt8) (at_ p : Nat) : Turned b b at_ p 0 := ⟨rfl, by rw [Nat.pow_zero, Nat.mod_one, Nat.zero_shiftLeft, Nat.xor_zero]⟩
theorem mod_bit (p k : Nat) : p % 2 ^ (k + 1) = p % 2 ^ k ^^^ ((p.testBit k).toNat <<< k) := by
  refine Nat.eq_of_testBit_eq fun i => ?_
  rw [Nat.testBit_xor, Nat.testBit_mod_two_pow, Nat.testBit_mod_two_pow, Nat.testBit_shiftLeft]
  rcases Nat.lt_trichotomy i k with h | h | h
  · have h1 : ¬ k ≤ i := by omega
    simp [h, Nat.lt_succ_of_lt h, h1]
  · subst h
    have h1 : ¬ i < i := by omega
    cases hb : p.testBit i <;> simp [h1]
  · have h1 : ¬ i < k := by omega
    have h2 : ¬ i < k + 1 := by omega
    have h3 : Nat.testBit 1 (i - k) = false := by
      obtain ⟨j, hj⟩ : ∃ j, i - k = j + 1 := ⟨i - k - 1, by omega⟩
      rw [hj, Nat.testBit_succ]
      simp
    cases hb : p.testBit k <;> simp [h1, h2, h3]
theorem Turned.no {b c : List UInt8} {at_ p k : Nat} (h : Turned b c at_ p k) (hb : p.testBit k = false) : Turned b c at_ p (k + 1) := ⟨h.len, by rw [h.num, mod_bit, hb]; simp⟩
theorem Turned.yes {b c : List UInt8} {at_ p k j : Nat} (h : Turned b c at_ p k) (hb : p.testBit k = true) (hj : j < c.length) (v : UInt8) (hjk : j = (at_ + k) / 8) (hv : v.toNat = 2 ^ ((at_ + k) % 8)) : Turned b (c.set j (c[j] ^^^ v)) at_ p (k + 1) := by
  refine ⟨by simp [h.len], ?_⟩
  rw [num_set c j hj v, h.num, mod_bit, hb, Nat.shiftLeft_xor_distrib, ← Nat.shiftLeft_add, hv, Nat.xor_assoc]
  congr 2
  rw [Nat.shiftLeft_eq, Nat.shiftLeft_eq, ← Nat.pow_add, Bool.toNat_true, Nat.one_mul, hjk]
  congr 1
  omega

theorem bit_walk {p k : Nat} (hp : p < 4294967296) : (bits .and .u32 ((p : Int) / 2 ^ k) 1 == 1) = p.testBit k := by
  have e1 : (p : Int) / 2 ^ k = ((p / 2 ^ k : Nat) : Int) := by rw [Int.natCast_ediv, Int.natCast_pow]; rfl
  have e2 := u32_and_nat (p / 2 ^ k) 1 (Nat.lt_of_le_of_lt (Nat.div_le_self _ _) hp) (by decide)
  rw [nat_mask1] at e2
  have e3 : bits .and .u32 ((p : Int) / 2 ^ k) 1 = ((p / 2 ^ k % 2 : Nat) : Int) := by rw [e1]; exact e2
  rw [e3, Nat.testBit_eq_decide_div_mod_eq, Bool.eq_iff_iff]
  simp
  omega
theorem turned_no {p k : Nat} (hb : p.testBit k = false) : decide (p % 2 ^ (k + 1) ≠ 0) = decide (p % 2 ^ k ≠ 0) := by rw [mod_bit, hb]; simp
theorem turned_yes {p k : Nat} (hb : p.testBit k = true) : decide (p % 2 ^ (k + 1) ≠ 0) = true := by
  refine decide_eq_true fun h => ?_
  have h1 : (p % 2 ^ (k + 1)).testBit k = true := by rw [Nat.testBit_mod_two_pow, hb]; simp
  rw [h] at h1
  simp at h1

theorem shl_walk {m : Nat} (hm : m < 8) : IntKind.u8.wrap ((2 : Int) ^ m) = (((UInt8.ofNat (2 ^ m)).toNat : Nat) : Int) ∧ (UInt8.ofNat (2 ^ m)).toNat = 2 ^ m := by
  obtain rfl | rfl | rfl | rfl | rfl | rfl | rfl | rfl : m = 0 ∨ m = 1 ∨ m = 2 ∨ m = 3 ∨ m = 4 ∨ m = 5 ∨ m = 6 ∨ m = 7 := by omega
  all_goals decide
theorem xor8' (a b : UInt8) : bits .xor .u8 (a.toNat : Int) (b.toNat : Int) = (((a ^^^ b).toNat : Nat) : Int) := by
  rw [u8_xor_nat _ _ a.toNat_lt b.toNat_lt, UInt8.toNat_xor]

set_option maxRecDepth 100000 in
set_option maxHeartbeats 4000000 in
theorem tells_walk (w : World) (x : List UInt8) (v : Value) (at_ : Int) (p : Nat) {E : Nat → Prop} (hx : BytesIn w E v x) (hl : x.length ≤ 140737488351232) (ha : -9223372036854775808 ≤ at_ ∧ at_ ≤ 9223372036854775807) (hp : p < 4294967296) :
    Calls Try.prog 5 #[v, .int .i64 at_, .int .u32 (p : Int)] w fun e w' => e = .returned (.bool true) ∧ Fr No w w' := by
  obtain ⟨a1, c1, rfl⟩ := form_of hx
  have HX := hid hx
  have HP := hid hp
  have HA := hid ha
  clear hx hp ha
  obtain ⟨i5, hi5, hz5, hs5, hb5⟩ := info_parts info5z
  have Hi := hid hi5; have Hz := hid hz5; have Hs := hid hs5; have Hb := hid hb5
  clear hi5 hz5 hs5 hb5
  by_cases hyes : 0 ≤ at_ ∧ at_ < 8 * (x.length : Int) ∧ p ≠ 0 ∧ x.length ≤ 1000000
  · obtain ⟨h0, h1, h2, h3⟩ := hyes
    obtain ⟨A, rfl⟩ : ∃ A : Nat, at_ = (A : Int) := ⟨at_.toNat, by omega⟩
    have g0 : decide ((A : Int) < 0) = false := decide_eq_false (by omega)
    have g1 : decide (8 * (x.length : Int) ≤ (A : Int)) = false := decide_eq_false (by omega)
    have g2 : ((p : Int) == 0) = false := by simpa using h2
    have g3 : decide ((1000000 : Int) < (x.length : Int)) = false := decide_eq_false (by omega)
    go_enter Try.func5, Try.ntmps5
    go_wp2_with fail
    refine (awake_any w).mono ?_
    rintro e w1 ⟨rfl, hf⟩
    have HF1 := hid hf; clear hf
    have hsz1 : w.heap.size ≤ w1.heap.size := HF1.out.size
    go_wp2_with (first
      | ((with_reducible show wpList _ _ _ ({ dst := _, op := .buildSlice 23 _ _, type := _, pos := _, after := _, guard := _ } :: _) _ _); refine wpL_buildNone rfl _ 5 rfl none8 ?_; intro w2 HB2 HF2 HS2)
      | ((with_reducible show wpList _ _ _ ({ dst := _, op := .call { callee := .builtin .append, args := _, argTypes := _ }, type := _, pos := _, after := _, guard := _ } :: _) _ _); refine wpL_appendNew rfl _ _ _ rfl w.heap.size 5 i5 _ 1 1 rfl Hi.out Hz.out Hs.out Hb.out rfl (by decide) (.slice (some ⟨w1.heap.size, 0, none⟩) 0 0) rfl (HB2.out.own hsz1 rfl (Nat.le_refl _) (by decide) rfl rfl) a1 x.length c1 (u8s x) rfl (by simp [u8s_length]) (src_of ((HX.out.no HF1.out).no HF2.out)) (u8s_one x) (by unfold maxLen; omega) (by omega) (by have := HS2.out; omega) ?_; intro a3 c3 w3 HO3 HG3 HW3
         have HF3 : Hid (Fr No w w3) := hid ((HF1.out.trans' HF2.out).grown HG3.out (fun j hj => .inr (by cases hj; exact hsz1)))))
    obtain ⟨a3', c3', e3, _, hg⟩ := own_form HO3.out
    obtain ⟨g, rfl⟩ := hg (by omega)
    simp only [Value.slice.injEq] at e3
    obtain ⟨rfl, _, rfl⟩ := e3
    clear g0 g1 g2 g3
    go_loopw [10, 11] (fun t i wr => ∃ k : Nat, k ≤ 32 ∧ A + k ≤ 8 * x.length ∧ i = .int .i64 k ∧ t = .bool (decide (p % 2 ^ k ≠ 0)) ∧ ∃ c : List UInt8, Hid (Turned x c A p k) ∧ Hid (wr.ownsRow w.heap.size 5 1 (.slice (some ⟨g, 0, none⟩) x.length c3) x.length (u8s c)) ∧ Hid (Fr No w wr)) (fun _ i _ => 32 - (intOf i).toNat)
    case atStart => exact ⟨0, Nat.zero_le _, by omega, rfl, by simp [Nat.mod_one], x, hid (Turned.zero x A p), HO3, HF3⟩
    case round =>
      obtain ⟨k, hk, hk2, rfl, rfl, c, HT, HO, HF⟩ := hrel
      by_cases hin : k < 32 ∧ A + k < 8 * x.length
      · obtain ⟨hi1, hi2⟩ := hin
        have i1 : decide ((k : Int) < 32) = true := decide_eq_true (by omega)
        have i2 : decide ((A : Int) + (k : Int) < 8 * (x.length : Int)) = true := decide_eq_true (by omega)
        have HK := hid (bit_walk (p := p) (k := k) HP.out)
        cases hb : p.testBit k with
        | false =>
          rw [hb] at HK
          have hw := HK.out
          go_wp2_with fail
          refine ⟨⟨k + 1, by omega, by omega, by go_num, by rw [turned_no hb], c, hid (HT.out.no hb), HO, HF⟩, by simp [intOf]; omega⟩
        | true =>
          rw [hb] at HK
          have hw := HK.out
          have hb' := hid hb
          clear hb
          go_wp2_with fail
          clear hw
          have hj : (A + k) / 8 < c.length := by rw [HT.out.len]; omega
          obtain ⟨d0, f0⟩ := own_at HO.out ((A + k) / 8) _ (u8s_get c _ hj)
          have hold : Facts.hold [(11, fun w' => w'.cell? ⟨g, (A + k) / 8, none⟩ = some (.int .u8 (c[(A + k) / 8].toNat : Int)))] wr.drew := Facts.cons_hold d0 (Facts.nil_hold _)
          have WS : Hid (IntKind.i64.wrap ((A : Int) + (k : Int)) = (A : Int) + (k : Int)) := hid (IntWalk.i64_in _ (by omega))
          have WQ : Hid (IntKind.i64.wrap (((A : Int) + (k : Int)).tdiv 8) = ((A : Int) + (k : Int)) / 8) := hid (by rw [Int.tdiv_eq_ediv_of_nonneg (by omega)]; exact IntWalk.i64_in _ (by omega))
          have WR : Hid (((A : Int) + (k : Int)).tmod 8 = ((A : Int) + (k : Int)) % 8) := hid (Int.tmod_eq_emod_of_nonneg (by omega))
          have WI : Hid ((((A : Int) + (k : Int)) / 8).toNat = (A + k) / 8) := hid (by omega)
          have WM : Hid ((((A : Int) + (k : Int)) % 8).toNat = (A + k) % 8) := hid (by omega)
          have WL : Hid ((0 : Int) ≤ ((A : Int) + (k : Int)) / 8 ∧ ((A : Int) + (k : Int)) / 8 < (x.length : Int)) := hid (by omega)
          obtain ⟨bv, WB, WV⟩ : ∃ bv : UInt8, Hid (IntKind.u8.wrap ((2 : Int) ^ ((A + k) % 8)) = ((bv.toNat : Nat) : Int)) ∧ bv.toNat = 2 ^ ((A + k) % 8) := ⟨_, hid (shl_walk (m := (A + k) % 8) (by omega)).1, (shl_walk (m := (A + k) % 8) (by omega)).2⟩
          have HJ := hid hj
          have HC : Hid (c[(A + k) / 8]? = some (c[(A + k) / 8]'hj)) := hid (List.getElem?_eq_getElem hj)
          have HY := hid (HT.out.yes hb'.out hj bv rfl WV)
          obtain ⟨q, hq⟩ : ∃ q, q = c[(A + k) / 8]'hj := ⟨_, rfl⟩
          rw [← hq] at d0 hold HC HY
          clear hq WV
          obtain ⟨r, HR⟩ : ∃ r : UInt8, Hid (q ^^^ bv = r) := ⟨_, hid rfl⟩
          have HQ := hid (xor8' q bv)
          rw [HR.out] at HY HQ
          have HD := hid d0; have HFz := hid f0
          clear d0 f0 hj
          refine wpD_region hold (by kernel_rfl) 20 rfl ?_
          (refine wpD_plain 0 (v := ?_) rfl (by kernel_rfl) (by kernel_rfl) (by kernel_rfl) (fun _ _ _ h => h) (by rfl) ?_ (by assumption) ?_; rotate_left; (intro _w; go_simp; try with_reducible rfl); simp only [Act.put, List.setIfInBounds_toArray, List.set_cons_zero, List.set_cons_succ])
          (refine wpD_plain 1 (v := ?_) rfl (by kernel_rfl) (by kernel_rfl) (by kernel_rfl) (fun _ _ _ h => h) (by rfl) ?_ (by assumption) ?_; rotate_left; (intro _w; go_simp; try with_reducible rfl); simp only [Act.put, List.setIfInBounds_toArray, List.set_cons_zero, List.set_cons_succ])
          (refine wpD_plain 2 (v := ?_) rfl (by kernel_rfl) (by kernel_rfl) (by kernel_rfl) (fun _ _ _ h => h) (by rfl) ?_ (by assumption) ?_; rotate_left; (intro _w; go_simp; try with_reducible rfl); simp only [Act.put, List.setIfInBounds_toArray, List.set_cons_zero, List.set_cons_succ])
          (refine wpD_plain 3 (v := .int .i64 ((A + k : Nat) : Int)) rfl (by kernel_rfl) (by kernel_rfl) (by kernel_rfl) (fun _ _ _ h => h) (by rfl) ?_ (by assumption) ?_; (intro _w; go_simp; exact WS.out); simp only [Act.put, List.setIfInBounds_toArray, List.set_cons_zero, List.set_cons_succ])
          (refine wpD_plain 4 (v := .int .i64 (((A + k) / 8 : Nat) : Int)) rfl (by kernel_rfl) (by kernel_rfl) (by kernel_rfl) (fun _ _ _ h => h) (by rfl) ?_ (by assumption) ?_; (intro _w; go_simp; exact WQ.out); simp only [Act.put, List.setIfInBounds_toArray, List.set_cons_zero, List.set_cons_succ])
          (refine wpD_plain 5 (v := ?_) rfl (by kernel_rfl) (by kernel_rfl) (by kernel_rfl) (fun _ _ _ h => h) (by rfl) ?_ (by assumption) ?_; rotate_left; (intro _w; go_simp; try with_reducible rfl); simp only [Act.put, List.setIfInBounds_toArray, List.set_cons_zero, List.set_cons_succ])
          (refine wpD_plain 6 (v := ?_) rfl (by kernel_rfl) (by kernel_rfl) (by kernel_rfl) (fun _ _ _ h => h) (by rfl) ?_ (by assumption) ?_; rotate_left; (intro _w; go_simp; try with_reducible rfl); simp only [Act.put, List.setIfInBounds_toArray, List.set_cons_zero, List.set_cons_succ])
          (refine wpD_plain 7 (v := ?_) rfl (by kernel_rfl) (by kernel_rfl) (by kernel_rfl) (fun _ _ _ h => h) (by rfl) ?_ (by assumption) ?_; rotate_left; (intro _w; go_simp; try with_reducible rfl); simp only [Act.put, List.setIfInBounds_toArray, List.set_cons_zero, List.set_cons_succ])
          (refine wpD_plain 8 (v := .int .i64 ((A + k : Nat) : Int)) rfl (by kernel_rfl) (by kernel_rfl) (by kernel_rfl) (fun _ _ _ h => h) (by rfl) ?_ (by assumption) ?_; (intro _w; go_simp; exact WS.out); simp only [Act.put, List.setIfInBounds_toArray, List.set_cons_zero, List.set_cons_succ])
          (refine wpD_plain 9 (v := .int .i64 (((A + k) / 8 : Nat) : Int)) rfl (by kernel_rfl) (by kernel_rfl) (by kernel_rfl) (fun _ _ _ h => h) (by rfl) ?_ (by assumption) ?_; (intro _w; go_simp; exact WQ.out); simp only [Act.put, List.setIfInBounds_toArray, List.set_cons_zero, List.set_cons_succ])
          (refine wpD_plain 10 (v := .pointer (some ⟨g, (A + k) / 8, none⟩)) rfl (by kernel_rfl) (by kernel_rfl) (by kernel_rfl) (fun _ _ _ h => h) (by rfl) ?_ (by assumption) ?_; (intro _w; go_simp; rw [if_pos WL.out, WI.out]); simp only [Act.put, List.setIfInBounds_toArray, List.set_cons_zero, List.set_cons_succ])
          (refine wpD_take 11 _ rfl (by kernel_rfl) (by kernel_rfl) (by kernel_rfl) (fun _ _ _ h => h) List.mem_cons_self (by rfl) (v := ?_) ?_ (by assumption) ?_; rotate_left; (intro _w _hw; go_simp; try with_reducible rfl); simp only [Act.put, List.setIfInBounds_toArray, List.set_cons_zero, List.set_cons_succ])
          (refine wpD_plain 12 (v := ?_) rfl (by kernel_rfl) (by kernel_rfl) (by kernel_rfl) (fun _ _ _ h => h) (by rfl) ?_ (by assumption) ?_; rotate_left; (intro _w; go_simp; try with_reducible rfl); simp only [Act.put, List.setIfInBounds_toArray, List.set_cons_zero, List.set_cons_succ])
          (refine wpD_plain 13 (v := ?_) rfl (by kernel_rfl) (by kernel_rfl) (by kernel_rfl) (fun _ _ _ h => h) (by rfl) ?_ (by assumption) ?_; rotate_left; (intro _w; go_simp; try with_reducible rfl); simp only [Act.put, List.setIfInBounds_toArray, List.set_cons_zero, List.set_cons_succ])
          (refine wpD_plain 14 (v := .int .i64 ((A + k : Nat) : Int)) rfl (by kernel_rfl) (by kernel_rfl) (by kernel_rfl) (fun _ _ _ h => h) (by rfl) ?_ (by assumption) ?_; (intro _w; go_simp; exact WS.out); simp only [Act.put, List.setIfInBounds_toArray, List.set_cons_zero, List.set_cons_succ])
          (refine wpD_plain 15 (v := .int .i64 (((A + k) % 8 : Nat) : Int)) rfl (by kernel_rfl) (by kernel_rfl) (by kernel_rfl) (fun _ _ _ h => h) (by rfl) ?_ (by assumption) ?_; (intro _w; go_simp; exact WR.out); simp only [Act.put, List.setIfInBounds_toArray, List.set_cons_zero, List.set_cons_succ])
          (refine wpD_plain 16 (v := .int .u8 (bv.toNat : Int)) rfl (by kernel_rfl) (by kernel_rfl) (by kernel_rfl) (fun _ _ _ h => h) (by rfl) ?_ (by assumption) ?_; (intro _w; go_simp; (rw [WM.out]; exact WB.out)); simp only [Act.put, List.setIfInBounds_toArray, List.set_cons_zero, List.set_cons_succ])
          (refine wpD_plain 17 (v := .int .u8 (r.toNat : Int)) rfl (by kernel_rfl) (by kernel_rfl) (by kernel_rfl) (fun _ _ _ h => h) (by rfl) ?_ (by assumption) ?_; (intro _w; go_simp; exact HQ.out); simp only [Act.put, List.setIfInBounds_toArray, List.set_cons_zero, List.set_cons_succ])
          (refine wpD_plain 18 (v := .pointer (some ⟨g, (A + k) / 8, none⟩)) rfl (by kernel_rfl) (by kernel_rfl) (by kernel_rfl) (fun _ _ _ h => h) (by rfl) ?_ (by assumption) ?_; (intro _w; go_simp; rw [if_pos WL.out, WI.out]); simp only [Act.put, List.setIfInBounds_toArray, List.set_cons_zero, List.set_cons_succ])
          refine wpD_only 19 [] rfl (by kernel_rfl) (by kernel_rfl) (by rfl) (fun K19 hK19 => ?_)
          have d1 : wr.drew.cell? ⟨g, (A + k) / 8, none⟩ = some (.int .u8 (q.toNat : Int)) := HD.out
          have f1 : wr.drew.frozen? ⟨g, (A + k) / 8, none⟩ = false := HFz.out
          go_simp
          refine hK19 _ _ (Facts.nil_hold _) ?_
          refine wpD_done (by kernel_rfl) ?_ _
          clear hK19 K19 d1 f1 hold
          go_wp2
          refine ⟨⟨k + 1, by omega, by omega, by go_num, by rw [turned_yes hb'.out], _, HY, hid ?_, hid ?_⟩, by simp [intOf]; omega⟩
          · rw [← u8s_set]
            exact own_put (w := wr.drew) HO.out ((A + k) / 8) _
          · exact HF.out.drew.setCell _ _ (.inr (own_low HO.out g rfl))
      · have i3 : (k : Int) < 32 → decide ((A : Int) + (k : Int) < 8 * (x.length : Int)) = false := fun h => decide_eq_false (by omega)
        have HTl := hid (tells 0 x c A (p % 2 ^ k) HT.out.len (by omega) (Nat.lt_of_le_of_lt (Nat.mod_le _ _) HP.out) HT.out.num)
        obtain ⟨tb, HB⟩ : ∃ tb, Hid (decide (p % 2 ^ k ≠ 0) = tb) := ⟨_, hid rfl⟩
        rw [HB.out]
        have HX1 := hid (HX.out.no HF.out)
        have HC := hid (own_bytes HO.out)
        have HCl : Hid (c.length ≤ 9223372036854775807) := hid (by rw [HT.out.len]; omega)
        have HE : Hid (∀ X Y : Nat, (X = Y ↔ p % 2 ^ k = 0) → (((X : Int) != (Y : Int)) == tb) = true) := hid (fun X Y h => by
          rw [← HB.out]
          by_cases h0 : p % 2 ^ k = 0
          · have := h.2 h0
            simp [this, h0]
          · have : ¬ X = Y := fun e => h0 (h.1 e)
            simp [h0]
            omega)
        clear HT HO
        go_wp2_with fail
        all_goals
          refine (sum_any x (.slice a1 x.length c1) wr HX1.out (by omega)).mono ?_
          rintro e w' ⟨rfl, rfl⟩
          generalize add 0 x = X at HTl ⊢
          go_wp2_with fail
          refine (sum_any c (.slice (some ⟨g, 0, none⟩) x.length c3) wr HC.out HCl.out).mono ?_
          rintro e w' ⟨rfl, rfl⟩
          generalize add 0 c = Y at HTl ⊢
          have HZ := hid (HE.out X Y HTl.out)
          go_wp2
          go_ret
          refine ⟨?_, HF.out⟩
          show Ending.returned (.bool _) = _
          rw [HZ.out]
  · go_enter Try.func5, Try.ntmps5
    go_wp2_with fail
    refine (awake_any w).mono ?_
    rintro e w1 ⟨rfl, hf⟩
    have HF1 := hid hf; clear hf
    go_wp2_with fail
    all_goals go_ret
    all_goals exact ⟨rfl, HF1.out⟩
end Go.Proofs.Ytehnffcdnokijaa.S
