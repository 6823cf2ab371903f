/-
  The law's own functions: do both disks stand alike; disks behind acts.
-/
import Derived.Test.YtjlellehlcidnaaDoes
namespace Go.Proofs.Ytjlellehlcidnaa.D
open Go.RowKit K

theorem does_any (B : Nat) (w : World) (bd br : Nat) (s : St) (bv kv : Value) (x : Actd) (h : Two B w bd br s s) (hx : ActIn w B bv kv x) (hp : s.P.length < 1000000) :
    Calls Try.prog 12 #[.pointer (some ⟨bd, 0, none⟩), .pointer (some ⟨br, 0, none⟩), .agg (ActIn.cells bv kv x).toArray] w fun e w' =>
      e = .returned (.bool true) ∧ Two B w' bd br (s.act x) (s.act x) ∧ Below B w w' := by
  by_cases h1 : x.how = 1
  · exact does_1 B w bd br s bv kv x h hx h1
  by_cases h2 : x.how = 2
  · exact does_2 B w bd br s bv kv x h hx h2
  by_cases h3 : x.how = 3
  · exact does_3 B w bd br s bv kv x h hx hp h3
  by_cases h4 : x.how = 4
  · exact does_4 B w bd br s bv kv x h hx h4
  by_cases h5 : x.how = 5
  · exact does_5 B w bd br s bv kv x h hx h5
  by_cases h6 : x.how = 6
  · exact does_6 B w bd br s bv kv x h hx h6
  exact does_0 B w bd br s bv kv x h ⟨h1, h2, h3, h4, h5, h6⟩

theorem act_P (s : St) (x : Actd) : (s.act x).P.length ≤ s.P.length + 1 := by
  unfold St.act St.write St.flush St.arm St.crash
  (repeat' split) <;> simp
theorem act_L (s : St) (x : Actd) : (s.act x).L.length = s.L.length := by
  unfold St.act St.write St.flush St.arm St.crash
  (repeat' split) <;> simp [St.some, applied_length]

/-- Both stand alike. -/
theorem alike_any (B : Nat) (w : World) (bd br : Nat) (s : St) (h : Two B w bd br s s) :
    Calls Try.prog 13 #[.pointer (some ⟨bd, 0, none⟩), .pointer (some ⟨br, 0, none⟩)] w fun e w' => e = .returned (.bool true) ∧ Fr No w w' := by
  obtain ⟨hB, D, R, hA, hR, hdr, hd, hr⟩ := h
  obtain ⟨bl1, pv1, hX⟩ := hR.x
  obtain ⟨a1, cap1, rfl, hn1, ha1⟩ := own_form hX.2.2.2.1
  have c0 : w.cell? ⟨br, 0, none⟩ = some (.slice (some ⟨bl1, 0, none⟩) s.L.length s.L.length) := hX.2.1.cell 0
  have c1 : w.cell? ⟨br, 1, none⟩ = some (.slice a1 s.P.length cap1) := hX.2.1.cell 1
  have c2 : w.cell? ⟨br, 2, none⟩ = some (.bool (!s.up)) := hX.2.1.cell 2
  have tb : (s.up == !s.up) = false := by cases s.up <;> rfl
  have HP := hid (pending_any hA); have HSe := hid (sectors_any hA); have HU := hid (up_any hA)
  have HAt := hid hA; have HRf := hid hR
  have hLn : s.L.length ≤ 4096 := hA.ok.n1
  clear hA hR hX ha1 hB hdr hd hr
  go_enter Try.func13, Try.ntmps13
  go_wp2_with (first
    | (go_at_call 20; refine HP.out.mono ?_; rintro e w' ⟨rfl, rfl⟩)
    | (go_at_call 31; refine HSe.out.mono ?_; rintro e w' ⟨rfl, rfl⟩)
    | (go_at_call 23; refine HU.out.mono ?_; rintro e w' ⟨rfl, rfl⟩))
  clear c0 c1 c2
  go_loopw [8] (fun i wr => ∃ k : Nat, k ≤ s.L.length ∧ k ≤ 8 ∧ i = .int .i64 k ∧ Hid (Fr No w wr)) (fun i _ => 8 - (intOf i).toNat)
  case atStart => exact ⟨0, Nat.zero_le _, by omega, rfl, hid (Fr.refl _ _)⟩
  case round =>
    obtain ⟨k, hk, hk8, rfl, HFr⟩ := hrel
    by_cases hlt : k < s.L.length ∧ k < 8
    · obtain ⟨hl1, hl2⟩ := hlt
      have tok1 : True := trivial
      have tok2 : True := trivial
      have hk0 : (0 : Int) ≤ k := by omega
      go_wp2_with (first
        | (go_at_call 15; refine (read_any k (HAt.out.no HFr.out)).mono ?_; rintro e w2 ⟨v2, rfl, hb2, hf2⟩; have HV2 := hid hb2; have HF2 := hid hf2; clear hb2 hf2)
        | (go_at_call 25; refine (rread_any k ((HRf.out.no HFr.out).no HF2.out)).mono ?_; rintro e w3 ⟨v3, rfl, hb3, hf3⟩; have HV3 := hid hb3; have HF3 := hid hf3; clear hb3 hf3)
        | (go_at_call 17; have _t := tok1; refine (same_any _ _ _ _ _ _ _ (HV2.out.fr HF3.out (fun _ _ _ e => e)) HV3.out (len_read _ _ HAt.out.ok)).mono ?_; rintro e w4 ⟨rfl, hf4⟩; have HF4 := hid hf4; clear hf4 _t tok1)
        | (go_at_call 19; refine (lasting_any k ((((HAt.out.no HFr.out).no HF2.out).no HF3.out).no HF4.out)).mono ?_; rintro e w5 ⟨v5, rfl, hb5, hf5⟩; have HV5 := hid hb5; have HF5 := hid hf5; clear hb5 hf5)
        | (go_at_call 26; refine (rlasting_any k (((((HRf.out.no HFr.out).no HF2.out).no HF3.out).no HF4.out).no HF5.out)).mono ?_; rintro e w6 ⟨v6, rfl, hb6, hf6⟩; have HV6 := hid hb6; have HF6 := hid hf6; clear hb6 hf6)
        | (go_at_call 17; have _t := tok2; refine (same_any _ _ _ _ _ _ _ (HV5.out.fr HF6.out (fun _ _ _ e => e)) HV6.out (len_lasting _ _ HAt.out.ok)).mono ?_; rintro e w7 ⟨rfl, hf7⟩; have HF7 := hid hf7; clear hf7 _t tok2))
      exact ⟨⟨k + 1, by omega, by omega, by go_num, hid ((((((HFr.out.trans' HF2.out).trans' HF3.out).trans' HF4.out).trans' HF5.out).trans' HF6.out).trans' HF7.out)⟩, by simp [intOf]; omega⟩
    · by_cases hl1 : k < s.L.length
      · have hl2 : ¬ (k < 8) := by omega
        have hl3 : ¬ ((k : Int) < 8) := by omega
        clear hlt
        go_wp2
        go_ret
        exact ⟨rfl, HFr.out⟩
      · have hl3 : ¬ ((k : Int) < s.L.length) := by omega
        clear hlt
        go_wp2
        go_ret
        exact ⟨rfl, HFr.out⟩

/-- A slice of acts, as data: it lies below B. -/
def ActsIn (w : World) (B : Nat) (v : Value) (xs : List Actd) : Prop :=
  ∃ a len cap, v = .slice a len cap ∧ xs.length = len ∧ len ≤ 140737488351232 ∧ ∀ (i : Nat) (x : Actd), xs[i]? = some x → ∃ g o bv kv, a = some ⟨g, o, none⟩ ∧ g < B ∧ w.rangeAt g (o + i * 4) (ActIn.cells bv kv x) ∧ ActIn w B bv kv x
theorem ActsIn.later {w w' : World} {B : Nat} {v : Value} {xs : List Actd} (h : ActsIn w B v xs) (hf : Below B w w') : ActsIn w' B v xs := by
  obtain ⟨a, len, cap, h1, h2, h3, h4⟩ := h
  refine ⟨a, len, cap, h1, h2, h3, fun i x hi => ?_⟩
  obtain ⟨g, o, bv, kv, r1, r2, r3, r4⟩ := h4 i x hi
  exact ⟨g, o, bv, kv, r1, r2, fun j v hj => (hf.cell (p := ⟨g, o + i * 4 + j, none⟩) r2).trans (r3 j v hj), r4.later hf⟩
theorem info35 : (Try.prog.info? 35).map (·.size) = some 4 := by kernel_rfl

/-- Two disks of four sectors that stand alike. -/
def Played (B : Nat) (w : World) (e : Ending) (w' : World) : Prop :=
  ∃ bd br s, e = .returned (.tuple #[.pointer (some ⟨bd, 0, none⟩), .pointer (some ⟨br, 0, none⟩)]) ∧ Two B w' bd br s s ∧ s.P.length ≤ 200 ∧ s.L.length = 4 ∧ Below B w w'
theorem played_any (B : Nat) (w : World) (lv : Value) (xs : List Actd) (hB : B ≤ w.heap.size) (hx : ActsIn w B lv xs) :
    Calls Try.prog 14 #[.int .i64 4, lv] w (Played B w) := by
  obtain ⟨a, len, cap, rfl, hl, hlm, hel⟩ := id hx
  have HX := hid hx; have HB := hid hB; have HL := hid hl
  clear hx hB hl hel
  have hlen : (len : Int) ≤ 140737488351232 := by omega
  go_enter Try.func14, Try.ntmps14
  go_wp2_with (first
    | (go_at_call 10; refine (new_yes 4 _ (by decide) (by decide)).mono ?_; rintro e w2 ⟨bd, D, rfl, ha2, hd2, hf2⟩; have HA2 := hid ha2; have HD2 := hid hd2; have HF2 := hid hf2; clear ha2 hd2 hf2)
    | (go_at_call 11; refine (rnew_yes 4 _ (by decide) (by decide)).mono ?_; rintro e w3 ⟨br, R, rfl, ha3, hd3, hf3⟩; have HA3 := hid ha3; have HD3 := hid hd3; have HF3 := hid hf3; clear ha3 hd3 hf3))
  have htwo : Two B w3 bd br (St.new 4) (St.new 4) := by
    have h1 := HB.out
    have h2 := HF2.out.size
    have h3 := HF3.out.size
    refine ⟨by omega, D, R, HA2.out.no HF3.out, HA3.out, fun k hk hr => ?_, fun k hk => ?_, fun k hk => ?_⟩
    · have := HA2.out.lt k hk; have := HD3.out k hr; omega
    · have := HD2.out k hk; omega
    · have := HD3.out k hk; omega
  have hbel : Below B w w3 := (HF2.out.below (fun _ e => e.elim) HB.out).trans (HF3.out.below (fun _ e => e.elim) (Nat.le_trans HB.out HF2.out.size))
  have HT := hid htwo; have HBe := hid hbel
  clear htwo hbel
  go_loopw [10] (fun i wr => ∃ k : Nat, k ≤ len ∧ k ≤ 200 ∧ i = .int .i64 k ∧ (∃ s, Hid (Two B wr bd br s s) ∧ Hid (s.P.length ≤ k) ∧ Hid (s.L.length = 4)) ∧ Hid (Below B w wr)) (fun i _ => 200 - (intOf i).toNat)
  case atStart => exact ⟨0, Nat.zero_le _, by omega, rfl, ⟨_, HT, hid (by simp [St.new]), hid (by simp [St.new])⟩, HBe⟩
  case round =>
    obtain ⟨k, hk, hk2, rfl, ⟨s, HT, HP, HL4⟩, HBe⟩ := hrel
    by_cases hlt : k < len ∧ k < 200
    · obtain ⟨hl1, hl2⟩ := hlt
      obtain ⟨x, hx⟩ : ∃ x, xs[k]? = some x := ⟨xs[k]'(by rw [HL.out]; exact hl1), List.getElem?_eq_getElem _⟩
      obtain ⟨a', len', cap', e1, _, _, hel⟩ := HX.out.later HBe.out
      simp only [Value.slice.injEq] at e1
      obtain ⟨rfl, rfl, rfl⟩ := e1
      obtain ⟨g, o, bv, kv, rfl, hg, hr, hin⟩ := hel k x hx
      have HR := hid hr; have HI := hid hin
      have hk0 : (0 : Int) ≤ k := by omega
      have hk1 : (k : Int) < len := by omega
      have hk3 : (k : Int) < 200 := by omega
      clear hel hr hin hx
      go_wp2_with (first
        | ((with_reducible show wpList _ _ _ ({ dst := _, op := .load 35 _, type := _, pos := _, after := _, guard := _ } :: _) _ _); refine wpL_load rfl _ _ rfl g (o + k * 4) rfl (ActIn.cells bv kv x) _ HR.out rfl rfl (by rw [info35]; rfl) ?_)
        | (go_at_call 12; refine (does_any B _ bd br s bv kv x HT.out HI.out (by have := HP.out; omega)).mono ?_; rintro e w4 ⟨rfl, ht4, hb4⟩; have HT4 := hid ht4; have HB4 := hid hb4; clear ht4 hb4))
      exact ⟨⟨k + 1, by omega, by omega, by go_num, ⟨_, HT4, hid (by have := act_P s x; have := HP.out; omega), hid (by rw [act_L]; exact HL4.out)⟩, hid (HBe.out.trans HB4.out)⟩, by simp [intOf]; omega⟩
    · by_cases hl1 : k < len
      · have hl3 : ¬ ((k : Int) < 200) := by omega
        have hl4 : (k : Int) < len := by omega
        clear hlt
        go_wp2
        go_ret2
        unfold Played
        exact ⟨bd, br, s, rfl, HT.out, by have := HP.out; omega, HL4.out, HBe.out⟩
      · have hl3 : ¬ ((k : Int) < len) := by omega
        clear hlt
        go_wp2
        go_ret2
        unfold Played
        exact ⟨bd, br, s, rfl, HT.out, by have := HP.out; omega, HL4.out, HBe.out⟩
end Go.Proofs.Ytjlellehlcidnaa.D
