/-
  The law DiskPlays: its program returns true and writes nothing that was there.
-/
import Derived.Test.YtjlellehlcidnaaAwake
namespace Go.Proofs.Ytjlellehlcidnaa.D
open Go.RowKit K

set_option maxRecDepth 100000 in
set_option maxHeartbeats 1000000 in
theorem plays_walk (w : World) (n : Int) (lv : Value) (xs : List Actd) (_ : n ≤ 9223372036854775807) (hx : ActsIn w w.heap.size lv xs) :
    Calls Try.prog 3 #[.int .i64 n, lv] w fun e w' => e = .returned (.bool true) ∧ Below w.heap.size w w' := by
  obtain ⟨a, len, cap, rfl, hl, hlm, -⟩ := id hx
  have hlen : (len : Int) ≤ 140737488351232 := by omega
  have HX := hid hx; have HL := hid hl
  clear hx hl hlm
  go_enter Try.func3, Try.ntmps3
  go_wp2_with fail
  refine (awake_any _).mono ?_
  rintro e w1 ⟨rfl, hf1⟩
  have HF1 := hid hf1
  clear hf1
  have hb1 : Below w.heap.size w w1 := HF1.out.below (fun _ e => e.elim) (Nat.le_refl _)
  have HB1 := hid hb1; clear hb1
  by_cases hno : n < 1 ∨ 4096 < n
  · have HNo := hid hno
    clear hno
    go_wp2_with fail
    refine (new_no n _ HNo.out).mono ?_
    rintro e w' ⟨rfl, rfl⟩
    go_wp2_with fail
    refine (rnew_no n _ HNo.out).mono ?_
    rintro e w' ⟨rfl, rfl⟩
    go_wp2
    go_ret
    exact ⟨rfl, HB1.out⟩
  · obtain ⟨m, rfl⟩ : ∃ m : Nat, n = m := ⟨n.toNat, by omega⟩
    have hm1 : 1 ≤ m := by omega
    have hm2 : m ≤ 4096 := by omega
    clear hno
    go_wp2_with fail
    refine (new_yes m _ hm1 hm2).mono ?_
    rintro e w2 ⟨bd, D, rfl, ha2, hd2, hf2⟩
    have HA2 := hid ha2; have HD2 := hid hd2; have HF2 := hid hf2
    clear ha2 hd2 hf2
    go_wp2_with fail
    refine (rnew_yes m _ hm1 hm2).mono ?_
    rintro e w3 ⟨br, R, rfl, ha3, hd3, hf3⟩
    have HA3 := hid ha3; have HD3 := hid hd3; have HF3 := hid hf3
    clear ha3 hd3 hf3
    have hs1 : w.heap.size ≤ w1.heap.size := HF1.out.size
    have hs2 : w1.heap.size ≤ w2.heap.size := HF2.out.size
    have hs3 : w2.heap.size ≤ w3.heap.size := HF3.out.size
    have htwo : Two w.heap.size w3 bd br (St.new m) (St.new m) := by
      refine ⟨by omega, D, R, HA2.out.no HF3.out, HA3.out, fun k hk hr => ?_, fun k hk => ?_, fun k hk => ?_⟩
      · have := HA2.out.lt k hk; have := HD3.out k hr; omega
      · have := HD2.out k hk; omega
      · have := HD3.out k hk; omega
    have hbel : Below w.heap.size w w3 := (HB1.out.trans (HF2.out.below (fun _ e => e.elim) hs1)).trans (HF3.out.below (fun _ e => e.elim) (Nat.le_trans hs1 hs2))
    have HT := hid htwo; have HBe := hid hbel
    clear htwo hbel hs1 hs2 hs3
    go_wp2_with fail
    go_loopw [10] (fun i wr => ∃ k : Nat, k ≤ len ∧ k ≤ 200 ∧ i = .int .i64 k ∧ (∃ s, Hid (Two w.heap.size wr bd br s s) ∧ Hid (s.P.length ≤ k)) ∧ Hid (Below w.heap.size w wr)) (fun i _ => 200 - (intOf i).toNat)
    case atStart => exact ⟨0, Nat.zero_le _, by omega, rfl, ⟨_, HT, hid (by simp [St.new])⟩, HBe⟩
    case round =>
      obtain ⟨k, hk, hk2, rfl, ⟨s, HT, HP⟩, HBe⟩ := hrel
      have HSp : (k < len ∧ k < 200) ∨ ((k : Int) < len ∧ ¬ (k : Int) < 200) ∨ ¬ (k : Int) < len := by omega
      rcases HSp with ⟨hl1, hl2⟩ | ⟨hl1, hl2⟩ | hl1
      · obtain ⟨x, hx⟩ : ∃ x, xs[k]? = some x := ⟨xs[k]'(by rw [HL.out]; exact hl1), List.getElem?_eq_getElem _⟩
        obtain ⟨a', len', cap', e1, _, _, hel⟩ := HX.out.later HBe.out
        simp only [Value.slice.injEq] at e1
        obtain ⟨rfl, rfl, rfl⟩ := e1
        obtain ⟨g, o, bv, kv, rfl, hg, hr, hin⟩ := hel k x hx
        have HR := hid hr; have HI := hid hin
        have hk0 : (0 : Int) ≤ k := by omega
        have hk1 : (k : Int) < len := by omega
        have hk3 : (k : Int) < 200 := by omega
        clear hel hr hin hx
        go_wp2_with (first
          | ((with_reducible show wpList _ _ _ ({ dst := _, op := .load 35 _, type := _, pos := _, after := _, guard := _ } :: _) _ _); refine wpL_load rfl _ _ rfl g (o + k * 4) rfl (ActIn.cells bv kv x) _ HR.out rfl rfl (by rw [info35]; rfl) ?_)
          | (go_at_call 12; refine (does_any w.heap.size _ bd br s bv kv x HT.out HI.out (by have := HP.out; omega)).mono ?_; rintro e w4 ⟨rfl, ht4, hb4⟩; have HT4 := hid ht4; have HB4 := hid hb4; clear ht4 hb4)
          | (go_at_call 13; refine (alike_any w.heap.size _ bd br (s.act x) HT4.out).mono ?_; rintro e w5 ⟨rfl, hf5⟩; have HF5 := hid hf5; clear hf5))
        have HB5 : Below w.heap.size w w5 := (HBe.out.trans HB4.out).trans (HF5.out.below (fun _ e => e.elim) HT4.out.1)
        exact ⟨⟨k + 1, by omega, by omega, by go_num, ⟨_, hid (HT4.out.fr HF5.out), hid (by have := act_P s x; have := HP.out; omega)⟩, hid HB5⟩, by simp [intOf]; omega⟩
      · go_wp2
        go_ret
        exact ⟨rfl, HBe.out⟩
      · go_wp2
        go_ret
        exact ⟨rfl, HBe.out⟩
end Go.Proofs.Ytjlellehlcidnaa.D
