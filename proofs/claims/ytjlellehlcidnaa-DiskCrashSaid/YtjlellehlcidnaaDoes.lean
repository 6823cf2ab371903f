/-
  The law's own functions: an act by both disks.
-/
import Derived.Test.YtjlellehlcidnaaSame
namespace Go.Proofs.Ytjlellehlcidnaa.D
open Go.RowKit K

theorem write_any {w : World} {bd : Nat} {D : Nat → Prop} {s : St} (n : Int) (v : Value) (bs : List Int) (E : Nat → Prop) (hv : BytesIn w E v bs) (hE : ∀ k, E k → ¬ D k) (h : At w bd D s) (hp : s.P.length < 1000000) :
    Calls Try.prog 16 #[.pointer (some ⟨bd, 0, none⟩), .int .i64 n, v] w fun e w' => e = .returned (.int .i64 (s.write n bs).1) ∧ ∃ D', At w' bd D' (s.write n bs).2 ∧ Fr D w w' ∧ Grows w D D' := by
  by_cases hno : s.up = false ∨ ¬ (0 ≤ n ∧ n < s.L.length) ∨ 64 < bs.length
  · refine (write_no n v bs E hv h hno).mono ?_
    rintro e w' ⟨rfl, h2, rfl⟩
    exact ⟨rfl, D, by rw [h2]; exact h, Fr.refl _ _, Grows.refl _ _⟩
  · have hu : s.up = true := by cases hu : s.up with | true => rfl | false => exact absurd (.inl hu) hno
    have hn : 0 ≤ n ∧ n < s.L.length := Decidable.byContradiction fun hc => hno (.inr (.inl hc))
    have h64 : bs.length ≤ 64 := Nat.le_of_not_lt fun hc => hno (.inr (.inr hc))
    cases hs : s.spend.1 with
    | false =>
      refine (write_out n v bs E hv h hu hn h64 hs).mono ?_
      rintro e w' ⟨rfl, h2, h3⟩
      exact ⟨rfl, D, h2, h3, Grows.refl _ _⟩
    | true =>
      obtain ⟨i, rfl⟩ := Int.eq_ofNat_of_zero_le hn.1
      exact write_yes i v bs E hv hE h hu (by omega) h64 hs hp
theorem rwrite_any {w : World} {bd : Nat} {D : Nat → Prop} {s : St} (n : Int) (v : Value) (bs : List Int) (E : Nat → Prop) (hv : BytesIn w E v bs) (hE : ∀ k, E k → ¬ D k) (h : Rf w bd D s) (hp : s.P.length < 1000000) :
    Calls Try.prog 27 #[.pointer (some ⟨bd, 0, none⟩), .int .i64 n, v] w fun e w' => e = .returned (.int .i64 (s.write n bs).1) ∧ ∃ D', Rf w' bd D' (s.write n bs).2 ∧ Fr D w w' ∧ Grows w D D' := by
  by_cases hno : s.up = false ∨ ¬ (0 ≤ n ∧ n < s.L.length) ∨ 64 < bs.length
  · refine (rwrite_no n v bs E hv h hno).mono ?_
    rintro e w' ⟨rfl, h2, rfl⟩
    exact ⟨rfl, D, by rw [h2]; exact h, Fr.refl _ _, Grows.refl _ _⟩
  · have hu : s.up = true := by cases hu : s.up with | true => rfl | false => exact absurd (.inl hu) hno
    have hn : 0 ≤ n ∧ n < s.L.length := Decidable.byContradiction fun hc => hno (.inr (.inl hc))
    have h64 : bs.length ≤ 64 := Nat.le_of_not_lt fun hc => hno (.inr (.inr hc))
    cases hs : s.spend.1 with
    | false =>
      refine (rwrite_out n v bs E hv h hu hn h64 hs).mono ?_
      rintro e w' ⟨rfl, h2, h3⟩
      exact ⟨rfl, D, h2, h3, Grows.refl _ _⟩
    | true =>
      obtain ⟨i, rfl⟩ := Int.eq_ofNat_of_zero_le hn.1
      exact rwrite_yes i v bs E hv hE h hu (by omega) h64 hs hp

theorem buildE (w : World) : (Instr.buildSlice 32 0 #[]).run Try.prog w = .ok (.slice (some ⟨w.heap.size, 0, none⟩) 0 0) (w.alloc (.cells #[] 5)) := by kernel_rfl
theorem frown {w w' : World} {row : Option Nat} (h : w.grownBy w' row) : Fr (fun k => row = some k) w w' := ⟨h.os, h.tape, h.output, h.size, fun k hk hn => h.block k hk (fun e => hn e.symm)⟩
theorem range_no {w w' : World} {b o : Nat} {cs : List Value} (h : w.rangeAt b o cs) (hf : Fr No w w') : w'.rangeAt b o cs := hf.range h id
theorem len_read (s : St) (n : Int) (h : s.Ok) : (s.read n).1.length ≤ 9223372036854775807 := by
  unfold St.read
  split
  · simp
  · split
    · split
      · rename_i l hl
        have := now_64 s.P n.toNat l (h.sec l (List.mem_of_getElem? hl)) (fun p hp => (h.pnd p hp).2)
        simp only [this]; decide
      · simp
    · simp
theorem len_lasting (s : St) (n : Int) (h : s.Ok) : (s.lasting n).1.length ≤ 9223372036854775807 := by
  unfold St.lasting
  split
  · split
    · rename_i l hl
      have := h.sec l (List.mem_of_getElem? hl)
      simp only [this]; decide
    · simp
  · simp
/-- An act, as data: what it does, where, the bytes, the picks. -/
structure Actd where
  how : Int
  at_ : Int
  bs : List Int
  keep : List Bool
def St.act (s : St) (x : Actd) : St :=
  if x.how = 3 then (s.write x.at_ x.bs).2 else if x.how = 4 then s.flush.2 else if x.how = 5 then (s.arm x.at_).2 else if x.how = 6 then (s.crash x.keep).2 else s
/-- An act's value reads so: its slices lie below B. -/
structure ActIn (w : World) (B : Nat) (bv kv : Value) (x : Actd) : Prop where
  b : BytesIn w (fun k => k < B) bv x.bs
  k : BoolsIn w (fun k => k < B) kv x.keep
  at1 : x.at_ ≤ 9223372036854775807
  bl : x.bs.length ≤ 140737488351232
  kl : x.keep.length ≤ 140737488351232
def ActIn.cells (bv kv : Value) (x : Actd) : List Value := [.int .i64 x.how, .int .i64 x.at_, bv, kv]
/-- Both disks; all that is theirs lies from B on. -/
def Two (B : Nat) (w : World) (bd br : Nat) (s r : St) : Prop :=
  B ≤ w.heap.size ∧ ∃ D R, At w bd D s ∧ Rf w br R r ∧ (∀ k, D k → ¬ R k) ∧ (∀ k, D k → B ≤ k) ∧ (∀ k, R k → B ≤ k)
theorem Two.fr {B : Nat} {w w' : World} {bd br : Nat} {s r : St} (h : Two B w bd br s r) (hf : Fr No w w') : Two B w' bd br s r := by
  obtain ⟨hB, D, R, h1, h2, h3⟩ := h
  exact ⟨Nat.le_trans hB hf.size, D, R, h1.no hf, h2.no hf, h3⟩
/-- One disk, from B on. -/
def One (B : Nat) (w : World) (bd : Nat) (s : St) : Prop := B ≤ w.heap.size ∧ ∃ D, At w bd D s ∧ (∀ k, D k → B ≤ k)
theorem Two.one {B : Nat} {w : World} {bd br : Nat} {s r : St} (h : Two B w bd br s r) : One B w bd s := by
  obtain ⟨hB, D, R, h1, h2, h3, h4, h5⟩ := h
  exact ⟨hB, D, h1, h4⟩
theorem ActIn.later {w w' : World} {B : Nat} {bv kv : Value} {x : Actd} (h : ActIn w B bv kv x) (hf : Below B w w') : ActIn w' B bv kv x := by
  have hfr : Fr (fun k => B ≤ k) w w' := ⟨hf.os, hf.tape, hf.output, hf.size, fun k _ hn => hf.block k (by omega)⟩
  exact ⟨h.b.fr hfr (fun k h1 _ h2 => by omega), h.k.fr hfr (fun k h1 _ h2 => by omega), h.at1, h.bl, h.kl⟩

set_option maxRecDepth 100000 in
set_option maxHeartbeats 400000 in
theorem does_1 (B : Nat) (w : World) (bd br : Nat) (s : St) (bv kv : Value) (x : Actd) (h : Two B w bd br s s) (hx : ActIn w B bv kv x) (hhow : x.how = 1) :
    Calls Try.prog 12 #[.pointer (some ⟨bd, 0, none⟩), .pointer (some ⟨br, 0, none⟩), .agg (ActIn.cells bv kv x).toArray] w fun e w' =>
      e = .returned (.bool true) ∧ Two B w' bd br (s.act x) (s.act x) ∧ Below B w w' := by
  obtain ⟨hB, D, R, hA, hR, hdr, hd, hr⟩ := h
  obtain ⟨how, at_, bs, keep⟩ := x
  simp only at hhow
  subst hhow
  have hact : s.act ⟨1, at_, bs, keep⟩ = s := by simp [St.act]
  rw [hact]
  have HAt := hid hA; have HRf := hid hR; have HX := hid hx; have HDR := hid hdr; have HD := hid hd; have HRR := hid hr; have HB := hid hB
  have hltD := hA.lt; have hltR := hR.lt
  have HLD := hid hltD; have HLR := hid hltR
  clear hA hR hx hdr hd hr hB hact hltD hltR
  go_enter Try.func12, Try.ntmps12
  go_wp2_with (first
    | ((with_reducible show wpList _ _ _ ({ dst := _, op := .box 35 _, type := _, pos := _, after := _, guard := _ } :: _) _ _); refine wpL_box rfl _ _ rfl _ rfl (ActIn.cells bv kv ⟨1, at_, bs, keep⟩) rfl ?_; intro w1 HB1 HF1 HS1; have x0 : w1.cell? ⟨w.heap.size, 0, none⟩ = some (.int .i64 (1)) := HB1.out.cell 0; have x1 : w1.cell? ⟨w.heap.size, 1, none⟩ = some (.int .i64 at_) := HB1.out.cell 1; have x2 : w1.cell? ⟨w.heap.size, 2, none⟩ = some bv := HB1.out.cell 2; have x3 : w1.cell? ⟨w.heap.size, 3, none⟩ = some kv := HB1.out.cell 3)
    | (go_at_call 15; refine (read_any at_ (HAt.out.no HF1.out)).mono ?_; rintro e w2 ⟨v2, rfl, hb2, hf2⟩; have HV2 := hid hb2; have HF2 := hid hf2; clear hb2 hf2; replace x0 := HF2.out.cell x0 id; replace x1 := HF2.out.cell x1 id)
    | (go_at_call 25; refine (rread_any at_ ((HRf.out.no HF1.out).no HF2.out)).mono ?_; rintro e w3 ⟨v3, rfl, hb3, hf3⟩; have HV3 := hid hb3; have HF3 := hid hf3; clear hb3 hf3; replace x0 := HF3.out.cell x0 id; replace x1 := HF3.out.cell x1 id)
    | (go_at_call 17; refine (same_any _ _ _ _ _ _ _ (HV2.out.fr HF3.out (fun _ _ _ e => e)) HV3.out (len_read _ _ HAt.out.ok)).mono ?_; rintro e w4 ⟨rfl, hf4⟩; have HF4 := hid hf4; clear hf4))
  go_ret
  have hF : Fr No w w4 := ((HF1.out.trans' HF2.out).trans' HF3.out).trans' HF4.out
  exact ⟨by simp, Two.fr ⟨HB.out, D, R, HAt.out, HRf.out, HDR.out, HD.out, HRR.out⟩ hF, hF.below (fun _ e => e.elim) HB.out⟩

set_option maxRecDepth 100000 in
set_option maxHeartbeats 400000 in
theorem does_2 (B : Nat) (w : World) (bd br : Nat) (s : St) (bv kv : Value) (x : Actd) (h : Two B w bd br s s) (hx : ActIn w B bv kv x) (hhow : x.how = 2) :
    Calls Try.prog 12 #[.pointer (some ⟨bd, 0, none⟩), .pointer (some ⟨br, 0, none⟩), .agg (ActIn.cells bv kv x).toArray] w fun e w' =>
      e = .returned (.bool true) ∧ Two B w' bd br (s.act x) (s.act x) ∧ Below B w w' := by
  obtain ⟨hB, D, R, hA, hR, hdr, hd, hr⟩ := h
  obtain ⟨how, at_, bs, keep⟩ := x
  simp only at hhow
  subst hhow
  have hact : s.act ⟨2, at_, bs, keep⟩ = s := by simp [St.act]
  rw [hact]
  have HAt := hid hA; have HRf := hid hR; have HX := hid hx; have HDR := hid hdr; have HD := hid hd; have HRR := hid hr; have HB := hid hB
  have hltD := hA.lt; have hltR := hR.lt
  have HLD := hid hltD; have HLR := hid hltR
  clear hA hR hx hdr hd hr hB hact hltD hltR
  go_enter Try.func12, Try.ntmps12
  go_wp2_with (first
    | ((with_reducible show wpList _ _ _ ({ dst := _, op := .box 35 _, type := _, pos := _, after := _, guard := _ } :: _) _ _); refine wpL_box rfl _ _ rfl _ rfl (ActIn.cells bv kv ⟨2, at_, bs, keep⟩) rfl ?_; intro w1 HB1 HF1 HS1; have x0 : w1.cell? ⟨w.heap.size, 0, none⟩ = some (.int .i64 (2)) := HB1.out.cell 0; have x1 : w1.cell? ⟨w.heap.size, 1, none⟩ = some (.int .i64 at_) := HB1.out.cell 1; have x2 : w1.cell? ⟨w.heap.size, 2, none⟩ = some bv := HB1.out.cell 2; have x3 : w1.cell? ⟨w.heap.size, 3, none⟩ = some kv := HB1.out.cell 3)
    | (go_at_call 19; refine (lasting_any at_ (HAt.out.no HF1.out)).mono ?_; rintro e w2 ⟨v2, rfl, hb2, hf2⟩; have HV2 := hid hb2; have HF2 := hid hf2; clear hb2 hf2; replace x0 := HF2.out.cell x0 id; replace x1 := HF2.out.cell x1 id)
    | (go_at_call 26; refine (rlasting_any at_ ((HRf.out.no HF1.out).no HF2.out)).mono ?_; rintro e w3 ⟨v3, rfl, hb3, hf3⟩; have HV3 := hid hb3; have HF3 := hid hf3; clear hb3 hf3; replace x0 := HF3.out.cell x0 id; replace x1 := HF3.out.cell x1 id)
    | (go_at_call 17; refine (same_any _ _ _ _ _ _ _ (HV2.out.fr HF3.out (fun _ _ _ e => e)) HV3.out (len_lasting _ _ HAt.out.ok)).mono ?_; rintro e w4 ⟨rfl, hf4⟩; have HF4 := hid hf4; clear hf4))
  go_ret
  have hF : Fr No w w4 := ((HF1.out.trans' HF2.out).trans' HF3.out).trans' HF4.out
  exact ⟨by simp, Two.fr ⟨HB.out, D, R, HAt.out, HRf.out, HDR.out, HD.out, HRR.out⟩ hF, hF.below (fun _ e => e.elim) HB.out⟩

set_option maxRecDepth 100000 in
set_option maxHeartbeats 400000 in
theorem does_4 (B : Nat) (w : World) (bd br : Nat) (s : St) (bv kv : Value) (x : Actd) (h : Two B w bd br s s) (hx : ActIn w B bv kv x) (hhow : x.how = 4) :
    Calls Try.prog 12 #[.pointer (some ⟨bd, 0, none⟩), .pointer (some ⟨br, 0, none⟩), .agg (ActIn.cells bv kv x).toArray] w fun e w' =>
      e = .returned (.bool true) ∧ Two B w' bd br (s.act x) (s.act x) ∧ Below B w w' := by
  obtain ⟨hB, D, R, hA, hR, hdr, hd, hr⟩ := h
  obtain ⟨how, at_, bs, keep⟩ := x
  simp only at hhow
  subst hhow
  have hact : s.act ⟨4, at_, bs, keep⟩ = s.flush.2 := by simp [St.act]
  rw [hact]
  have HAt := hid hA; have HRf := hid hR; have HX := hid hx; have HDR := hid hdr; have HD := hid hd; have HRR := hid hr; have HB := hid hB
  have hltD := hA.lt; have hltR := hR.lt
  have HLD := hid hltD; have HLR := hid hltR
  clear hA hR hx hdr hd hr hB hact hltD hltR
  go_enter Try.func12, Try.ntmps12
  go_wp2_with (first
    | ((with_reducible show wpList _ _ _ ({ dst := _, op := .box 35 _, type := _, pos := _, after := _, guard := _ } :: _) _ _); refine wpL_box rfl _ _ rfl _ rfl (ActIn.cells bv kv ⟨4, at_, bs, keep⟩) rfl ?_; intro w1 HB1 HF1 HS1; have x0 : w1.cell? ⟨w.heap.size, 0, none⟩ = some (.int .i64 (4)) := HB1.out.cell 0; have x1 : w1.cell? ⟨w.heap.size, 1, none⟩ = some (.int .i64 at_) := HB1.out.cell 1; have x2 : w1.cell? ⟨w.heap.size, 2, none⟩ = some bv := HB1.out.cell 2; have x3 : w1.cell? ⟨w.heap.size, 3, none⟩ = some kv := HB1.out.cell 3)
    | (go_at_call 21; refine (flush_any (HAt.out.no HF1.out)).mono ?_; rintro e w2 ⟨rfl, ha2, hf2⟩; have HA2 := hid ha2; have HF2 := hid hf2; clear ha2 hf2; replace x0 := HF2.out.cell x0 (fun e => by have := HLD.out _ e; simp at this); replace x1 := HF2.out.cell x1 (fun e => by have := HLD.out _ e; simp at this); replace x3 := HF2.out.cell x3 (fun e => by have := HLD.out _ e; simp at this))
    | (go_at_call 28; refine (rflush_any ((HRf.out.no HF1.out).fr HF2.out (fun k hk hd => HDR.out k hd hk))).mono ?_; rintro e w3 ⟨rfl, ha3, hf3⟩; have HA3 := hid ha3; have HF3 := hid hf3; clear ha3 hf3; replace x0 := HF3.out.cell x0 (fun e => by have := HLR.out _ e; simp at this); replace x1 := HF3.out.cell x1 (fun e => by have := HLR.out _ e; simp at this)))
  go_ret
  have b1 : Below B w w1 := HF1.out.below (fun _ e => e.elim) HB.out
  have b2 : Below B w1 w2 := HF2.out.below HD.out (Nat.le_trans HB.out HF1.out.size)
  have b3 : Below B w2 w3 := HF3.out.below HRR.out (Nat.le_trans (Nat.le_trans HB.out HF1.out.size) HF2.out.size)
  refine ⟨by simp, ⟨?_, D, R, HA2.out.fr HF3.out (fun k hk hr => HDR.out k hk hr), HA3.out, HDR.out, HD.out, HRR.out⟩, (b1.trans b2).trans b3⟩
  exact Nat.le_trans (Nat.le_trans (Nat.le_trans HB.out HF1.out.size) HF2.out.size) HF3.out.size

set_option maxRecDepth 100000 in
set_option maxHeartbeats 400000 in
theorem does_5 (B : Nat) (w : World) (bd br : Nat) (s : St) (bv kv : Value) (x : Actd) (h : Two B w bd br s s) (hx : ActIn w B bv kv x) (hhow : x.how = 5) :
    Calls Try.prog 12 #[.pointer (some ⟨bd, 0, none⟩), .pointer (some ⟨br, 0, none⟩), .agg (ActIn.cells bv kv x).toArray] w fun e w' =>
      e = .returned (.bool true) ∧ Two B w' bd br (s.act x) (s.act x) ∧ Below B w w' := by
  obtain ⟨hB, D, R, hA, hR, hdr, hd, hr⟩ := h
  obtain ⟨how, at_, bs, keep⟩ := x
  simp only at hhow
  subst hhow
  have hact : s.act ⟨5, at_, bs, keep⟩ = (s.arm at_).2 := by simp [St.act]
  rw [hact]
  have HAt := hid hA; have HRf := hid hR; have HX := hid hx; have HDR := hid hdr; have HD := hid hd; have HRR := hid hr; have HB := hid hB
  have hltD := hA.lt; have hltR := hR.lt
  have HLD := hid hltD; have HLR := hid hltR
  clear hA hR hx hdr hd hr hB hact hltD hltR
  go_enter Try.func12, Try.ntmps12
  go_wp2_with (first
    | ((with_reducible show wpList _ _ _ ({ dst := _, op := .box 35 _, type := _, pos := _, after := _, guard := _ } :: _) _ _); refine wpL_box rfl _ _ rfl _ rfl (ActIn.cells bv kv ⟨5, at_, bs, keep⟩) rfl ?_; intro w1 HB1 HF1 HS1; have x0 : w1.cell? ⟨w.heap.size, 0, none⟩ = some (.int .i64 (5)) := HB1.out.cell 0; have x1 : w1.cell? ⟨w.heap.size, 1, none⟩ = some (.int .i64 at_) := HB1.out.cell 1; have x2 : w1.cell? ⟨w.heap.size, 2, none⟩ = some bv := HB1.out.cell 2; have x3 : w1.cell? ⟨w.heap.size, 3, none⟩ = some kv := HB1.out.cell 3)
    | (go_at_call 22; refine (arm_any at_ HX.out.at1 (HAt.out.no HF1.out)).mono ?_; rintro e w2 ⟨rfl, ha2, hf2⟩; have HA2 := hid ha2; have HF2 := hid hf2; clear ha2 hf2; replace x0 := HF2.out.cell x0 (fun e => by have := HLD.out _ e; simp at this); replace x1 := HF2.out.cell x1 (fun e => by have := HLD.out _ e; simp at this); replace x3 := HF2.out.cell x3 (fun e => by have := HLD.out _ e; simp at this))
    | (go_at_call 29; refine (rarm_any at_ HX.out.at1 ((HRf.out.no HF1.out).fr HF2.out (fun k hk hd => HDR.out k hd hk))).mono ?_; rintro e w3 ⟨rfl, ha3, hf3⟩; have HA3 := hid ha3; have HF3 := hid hf3; clear ha3 hf3; replace x0 := HF3.out.cell x0 (fun e => by have := HLR.out _ e; simp at this); replace x1 := HF3.out.cell x1 (fun e => by have := HLR.out _ e; simp at this)))
  go_ret
  have b1 : Below B w w1 := HF1.out.below (fun _ e => e.elim) HB.out
  have b2 : Below B w1 w2 := HF2.out.below HD.out (Nat.le_trans HB.out HF1.out.size)
  have b3 : Below B w2 w3 := HF3.out.below HRR.out (Nat.le_trans (Nat.le_trans HB.out HF1.out.size) HF2.out.size)
  refine ⟨by simp, ⟨?_, D, R, HA2.out.fr HF3.out (fun k hk hr => HDR.out k hk hr), HA3.out, HDR.out, HD.out, HRR.out⟩, (b1.trans b2).trans b3⟩
  exact Nat.le_trans (Nat.le_trans (Nat.le_trans HB.out HF1.out.size) HF2.out.size) HF3.out.size

set_option maxRecDepth 100000 in
set_option maxHeartbeats 400000 in
theorem does_6 (B : Nat) (w : World) (bd br : Nat) (s : St) (bv kv : Value) (x : Actd) (h : Two B w bd br s s) (hx : ActIn w B bv kv x) (hhow : x.how = 6) :
    Calls Try.prog 12 #[.pointer (some ⟨bd, 0, none⟩), .pointer (some ⟨br, 0, none⟩), .agg (ActIn.cells bv kv x).toArray] w fun e w' =>
      e = .returned (.bool true) ∧ Two B w' bd br (s.act x) (s.act x) ∧ Below B w w' := by
  obtain ⟨hB, D, R, hA, hR, hdr, hd, hr⟩ := h
  obtain ⟨how, at_, bs, keep⟩ := x
  simp only at hhow
  subst hhow
  have hact : s.act ⟨6, at_, bs, keep⟩ = (s.crash keep).2 := by simp [St.act]
  rw [hact]
  have HAt := hid hA; have HRf := hid hR; have HX := hid hx; have HDR := hid hdr; have HD := hid hd; have HRR := hid hr; have HB := hid hB
  have hltD := hA.lt; have hltR := hR.lt
  have HLD := hid hltD; have HLR := hid hltR
  clear hA hR hx hdr hd hr hB hact hltD hltR
  go_enter Try.func12, Try.ntmps12
  go_wp2_with (first
    | ((with_reducible show wpList _ _ _ ({ dst := _, op := .box 35 _, type := _, pos := _, after := _, guard := _ } :: _) _ _); refine wpL_box rfl _ _ rfl _ rfl (ActIn.cells bv kv ⟨6, at_, bs, keep⟩) rfl ?_; intro w1 HB1 HF1 HS1; have x0 : w1.cell? ⟨w.heap.size, 0, none⟩ = some (.int .i64 (6)) := HB1.out.cell 0; have x1 : w1.cell? ⟨w.heap.size, 1, none⟩ = some (.int .i64 at_) := HB1.out.cell 1; have x2 : w1.cell? ⟨w.heap.size, 2, none⟩ = some bv := HB1.out.cell 2; have x3 : w1.cell? ⟨w.heap.size, 3, none⟩ = some kv := HB1.out.cell 3)
    | (go_at_call 18; refine (crash_any kv keep _ (HX.out.k.fr HF1.out (fun _ _ _ e => e)) (fun k hk hd => by have := HD.out k hd; omega) (by have := HX.out.kl; simp at this; omega) (HAt.out.no HF1.out)).mono ?_; rintro e w2 ⟨rfl, ha2, hf2⟩; have HA2 := hid ha2; have HF2 := hid hf2; clear ha2 hf2; replace x0 := HF2.out.cell x0 (fun e => by have := HLD.out _ e; simp at this); replace x1 := HF2.out.cell x1 (fun e => by have := HLD.out _ e; simp at this); replace x3 := HF2.out.cell x3 (fun e => by have := HLD.out _ e; simp at this))
    | (go_at_call 30; refine (rcrash_any kv keep _ ((HX.out.k.fr HF1.out (fun _ _ _ e => e)).fr HF2.out (fun k hk _ hd => by have := HD.out k hd; omega)) (fun k hk hd => by have := HRR.out k hd; omega) (by have := HX.out.kl; simp at this; omega) ((HRf.out.no HF1.out).fr HF2.out (fun k hk hd => HDR.out k hd hk))).mono ?_; rintro e w3 ⟨rfl, ha3, hf3⟩; have HA3 := hid ha3; have HF3 := hid hf3; clear ha3 hf3; replace x0 := HF3.out.cell x0 (fun e => by have := HLR.out _ e; simp at this); replace x1 := HF3.out.cell x1 (fun e => by have := HLR.out _ e; simp at this)))
  go_ret
  have b1 : Below B w w1 := HF1.out.below (fun _ e => e.elim) HB.out
  have b2 : Below B w1 w2 := HF2.out.below HD.out (Nat.le_trans HB.out HF1.out.size)
  have b3 : Below B w2 w3 := HF3.out.below HRR.out (Nat.le_trans (Nat.le_trans HB.out HF1.out.size) HF2.out.size)
  refine ⟨by simp, ⟨?_, D, R, HA2.out.fr HF3.out (fun k hk hr => HDR.out k hk hr), HA3.out, HDR.out, HD.out, HRR.out⟩, (b1.trans b2).trans b3⟩
  exact Nat.le_trans (Nat.le_trans (Nat.le_trans HB.out HF1.out.size) HF2.out.size) HF3.out.size

set_option maxRecDepth 100000 in
theorem does_0 (B : Nat) (w : World) (bd br : Nat) (s : St) (bv kv : Value) (x : Actd) (h : Two B w bd br s s) (hhow : x.how ≠ 1 ∧ x.how ≠ 2 ∧ x.how ≠ 3 ∧ x.how ≠ 4 ∧ x.how ≠ 5 ∧ x.how ≠ 6) :
    Calls Try.prog 12 #[.pointer (some ⟨bd, 0, none⟩), .pointer (some ⟨br, 0, none⟩), .agg (ActIn.cells bv kv x).toArray] w fun e w' =>
      e = .returned (.bool true) ∧ Two B w' bd br (s.act x) (s.act x) ∧ Below B w w' := by
  obtain ⟨how, at_, bs, keep⟩ := x
  simp only at hhow
  obtain ⟨n1, n2, n3, n4, n5, n6⟩ := hhow
  have hact : s.act ⟨how, at_, bs, keep⟩ = s := by simp [St.act, n3, n4, n5, n6]
  rw [hact]
  have t1 : (how == 1) = false := by simp [n1]
  have t2 : (how == 2) = false := by simp [n2]
  have t3 : (how == 3) = false := by simp [n3]
  have t4 : (how == 4) = false := by simp [n4]
  have t5 : (how == 5) = false := by simp [n5]
  have t6 : (how == 6) = false := by simp [n6]
  have HH := hid h
  clear h hact n1 n2 n3 n4 n5 n6
  go_enter Try.func12, Try.ntmps12
  go_wp2_with ((with_reducible show wpList _ _ _ ({ dst := _, op := .box 35 _, type := _, pos := _, after := _, guard := _ } :: _) _ _); refine wpL_box rfl _ _ rfl _ rfl (ActIn.cells bv kv ⟨how, at_, bs, keep⟩) rfl ?_; intro w1 HB1 HF1 HS1; have x0 : w1.cell? ⟨w.heap.size, 0, none⟩ = some (.int .i64 (how)) := HB1.out.cell 0; have x1 : w1.cell? ⟨w.heap.size, 1, none⟩ = some (.int .i64 at_) := HB1.out.cell 1; have x2 : w1.cell? ⟨w.heap.size, 2, none⟩ = some bv := HB1.out.cell 2; have x3 : w1.cell? ⟨w.heap.size, 3, none⟩ = some kv := HB1.out.cell 3)
  go_ret
  exact ⟨rfl, HH.out.fr HF1.out, HF1.out.below (fun _ e => e.elim) HH.out.1⟩

set_option maxRecDepth 100000 in
set_option maxHeartbeats 400000 in
theorem does_3 (B : Nat) (w : World) (bd br : Nat) (s : St) (bv kv : Value) (x : Actd) (h : Two B w bd br s s) (hx : ActIn w B bv kv x) (hp : s.P.length < 1000000) (hhow : x.how = 3) :
    Calls Try.prog 12 #[.pointer (some ⟨bd, 0, none⟩), .pointer (some ⟨br, 0, none⟩), .agg (ActIn.cells bv kv x).toArray] w fun e w' =>
      e = .returned (.bool true) ∧ Two B w' bd br (s.act x) (s.act x) ∧ Below B w w' := by
  obtain ⟨i5, hi5, hz5, hs5, hb5⟩ := info_parts info5z
  have Hi := hid hi5; have Hz := hid hz5; have Hs := hid hs5; have Hb := hid hb5
  clear hi5 hz5 hs5 hb5
  obtain ⟨hB, D, R, hA, hR, hdr, hd, hr⟩ := h
  obtain ⟨how, at_, bs, keep⟩ := x
  simp only at hhow
  subst hhow
  obtain ⟨ab, lb, cb, rfl, hlb, hsb⟩ := id hx.b
  have hbl := hx.bl
  have hact : s.act ⟨3, at_, bs, keep⟩ = (s.write at_ bs).2 := by simp [St.act]
  rw [hact]
  have HAt := hid hA; have HRf := hid hR; have HX := hid hx; have HDR := hid hdr; have HD := hid hd; have HRR := hid hr; have HB := hid hB
  have hltD := hA.lt; have hltR := hR.lt
  have HLD := hid hltD; have HLR := hid hltR
  clear hA hR hx hdr hd hr hB hact hltD hltR
  go_enter Try.func12, Try.ntmps12
  have HLB := hid hlb; have HSB := hid hsb
  clear hlb hsb
  have hlbm : lb ≤ 140737488351232 := by have := HLB.out; simp at this; simp at hbl; omega
  go_wp2_with (first
    | ((with_reducible show wpList _ _ _ ({ dst := _, op := .box 35 _, type := _, pos := _, after := _, guard := _ } :: _) _ _); refine wpL_box rfl _ _ rfl _ rfl (ActIn.cells (.slice ab lb cb) kv ⟨3, at_, bs, keep⟩) rfl ?_; intro w1 HB1 HF1 HS1; have x0 : w1.cell? ⟨w.heap.size, 0, none⟩ = some (.int .i64 (3)) := HB1.out.cell 0; have x1 : w1.cell? ⟨w.heap.size, 1, none⟩ = some (.int .i64 at_) := HB1.out.cell 1; have x2 : w1.cell? ⟨w.heap.size, 2, none⟩ = some (.slice ab lb cb) := HB1.out.cell 2; have x3 : w1.cell? ⟨w.heap.size, 3, none⟩ = some kv := HB1.out.cell 3)
    | ((with_reducible show wpList _ _ _ ({ dst := _, op := .buildSlice 32 _ _, type := _, pos := _, after := _, guard := _ } :: _) _ _); refine wpL_buildNone rfl _ 5 rfl buildE ?_; intro w2 HB2 HF2 HS2; replace x0 := HF2.out.cell x0 id; replace x1 := HF2.out.cell x1 id; replace x2 := HF2.out.cell x2 id)
    | ((with_reducible show wpList _ _ _ ({ dst := _, op := .call { callee := .builtin .append, args := _, argTypes := _ }, type := _, pos := _, after := _, guard := _ } :: _) _ _); refine wpL_appendNew rfl _ _ 32 rfl w1.heap.size 5 i5 _ 1 1 rfl Hi.out Hz.out Hs.out Hb.out rfl (by decide) (.slice (some ⟨w1.heap.size, 0, none⟩) 0 0) (by rfl) (HB2.out.own (Nat.le_refl _) rfl (Nat.le_refl 0) (by decide) rfl rfl) ab lb cb (u8s bs) (by rfl) (by rw [u8s_length]; have := HLB.out; simp at this; omega)
        (HSB.out.imp id (fun ⟨g, o, e, _, _, r⟩ => ⟨_, e, range_loads (range_no (range_no r HF1.out) HF2.out)⟩)) (u8s_one _) (by unfold maxLen; omega) (by omega) (by have := HS2.out; omega) ?_; intro ac cc w3 HO3 HG3 HA3; replace x0 := HG3.out.cell x0 (by simp [Value.ownBlock]; have := HS1.out; omega); replace x1 := HG3.out.cell x1 (by simp [Value.ownBlock]; have := HS1.out; omega); replace x2 := HG3.out.cell x2 (by simp [Value.ownBlock]; have := HS1.out; omega))
    | (go_at_call 16; refine (write_any at_ _ bs (fun k => w1.heap.size ≤ k) (own_bytes HO3.out) (fun k hk hd => by have := HLD.out k hd; have := HS1.out; omega) (((HAt.out.no HF1.out).no HF2.out).fr (frown HG3.out) (fun k hk hd => by have := HLD.out k hk; have := HS1.out; simp [Value.ownBlock] at hd; omega)) hp).mono ?_; rintro e w4 ⟨rfl, D', ha4, hf4, hg4⟩; have HA4 := hid ha4; have HF4 := hid hf4; have HG4 := hid hg4; clear ha4 hf4 hg4; replace x1 := HF4.out.cell x1 (fun e => by have := HLD.out _ e; simp at this); replace x2 := HF4.out.cell x2 (fun e => by have := HLD.out _ e; simp at this))
    | (go_at_call 27; refine (rwrite_any at_ _ bs (fun k => k < B) ((((HX.out.b.fr HF1.out (fun _ _ _ e => e)).fr HF2.out (fun _ _ _ e => e)).fr (frown HG3.out) (fun k hk _ hd => by have := HB.out; have := HS1.out; simp [Value.ownBlock] at hd; omega)).fr HF4.out (fun k hk _ hd => by have := HD.out k hd; omega)) (fun k hk hd => by have := HRR.out k hd; omega) ((((HRf.out.no HF1.out).no HF2.out).fr (frown HG3.out) (fun k hk hd => by have := HLR.out k hk; have := HS1.out; simp [Value.ownBlock] at hd; omega)).fr HF4.out (fun k hk hd => HDR.out k hd hk)) hp).mono ?_; rintro e w5 ⟨rfl, R', ha5, hf5, hg5⟩; have HA5 := hid ha5; have HF5 := hid hf5; have HG5 := hid hg5; clear ha5 hf5 hg5; clear x0 x1 x2))
  have hs1 := HS1.out
  have hs2 := HS2.out
  have hs3 : w2.heap.size ≤ w3.heap.size := HG3.out.size
  have hs4 : w3.heap.size ≤ w4.heap.size := HF4.out.size
  have hs5 : w4.heap.size ≤ w5.heap.size := HF5.out.size
  have hc : ∀ k, (Value.slice ac lb cc).ownBlock = some k → w1.heap.size ≤ k ∧ k < w3.heap.size := fun k hk => HO3.out.lt k hk
  have HO5 := own_fr (own_fr HO3.out HF4.out (fun k hk hd => by have := (hc k hk).1; have := HLD.out k hd; omega)) HF5.out (fun k hk hd => by have := (hc k hk).1; have := HLR.out k hd; omega)
  have HHO := hid HO5; have HC := hid hc
  have HSS := hid (And.intro hs1 (And.intro hs2 (And.intro hs3 (And.intro hs4 hs5))))
  clear HO5 hc hs1 hs2 hs3 hs4 hs5
  go_loopw [20] (fun i wr => ∃ k : Nat, k ≤ lb ∧ i = .int .i64 k ∧ (∃ cs, Hid (wr.ownsRow w1.heap.size 5 1 (.slice ac lb cc) lb (u8s cs))) ∧ Hid (Fr (fun k => (Value.slice ac lb cc).ownBlock = some k) w5 wr)) (fun i _ => lb - (intOf i).toNat)
  case atStart => exact ⟨0, Nat.zero_le _, rfl, ⟨bs, HHO⟩, hid (Fr.refl _ _)⟩
  case round =>
    obtain ⟨k, hk, rfl, ⟨cs, HO⟩, HFr⟩ := hrel
    by_cases hlt : k < lb
    · obtain ⟨a', c', e, _, hg⟩ := own_form HO.out
      obtain ⟨rfl, rfl⟩ : ac = a' ∧ cc = c' := by simpa using e
      obtain ⟨g, rfl⟩ := hg (by omega)
      have hcl : cs.length = lb := by have := HO.out.1; simpa using this
      obtain ⟨x, hx⟩ : ∃ x, cs[k]? = some x := ⟨cs[k]'(by omega), List.getElem?_eq_getElem _⟩
      obtain ⟨ck, fk⟩ := own_at HO.out k (.int .u8 x) (by simp [u8s, hx])
      have hk0 : (0 : Int) ≤ k := by omega
      have hk1 : (k : Int) < lb := by omega
      clear e hg hcl hx
      go_wp2
      refine ⟨⟨k + 1, by omega, by go_num, ⟨cs.set k ((x + 1) % 256), hid ?_⟩, hid ?_⟩, by simp [intOf]; omega⟩
      · rw [show u8s (cs.set k ((x + 1) % 256)) = (u8s cs).set k (.int .u8 ((x + 1) % 256)) from List.map_set]
        exact own_put HO.out k _
      · exact HFr.out.setCell _ _ (.inl rfl)
    · have hge : ¬ ((k : Int) < lb) := by omega
      go_wp2
      go_ret
      obtain ⟨hs1, hs2, hs3, hs4, hs5⟩ := HSS.out
      have hb := HB.out
      have d' : ∀ k, D' k → D k ∨ w3.heap.size ≤ k := HG4.out
      have r' : ∀ k, R' k → R k ∨ w4.heap.size ≤ k := HG5.out
      have dl : ∀ k, D k → k < w.heap.size := HLD.out
      have rl : ∀ k, R k → k < w.heap.size := HLR.out
      have b1 : Below B w w1 := HF1.out.below (fun _ e => e.elim) hb
      have b2 : Below B w1 w2 := HF2.out.below (fun _ e => e.elim) (by omega)
      have b3 : Below B w2 w3 := (frown HG3.out).below (fun k hk => by simp [Value.ownBlock] at hk; omega) (by omega)
      have b4 : Below B w3 w4 := HF4.out.below HD.out (by omega)
      have b5 : Below B w4 w5 := HF5.out.below HRR.out (by omega)
      have b6 : Below B w5 wr := HFr.out.below (fun k hk => by have := (HC.out k hk).1; omega) (by omega)
      refine ⟨by simp, ⟨Nat.le_trans (by omega) HFr.out.size, D', R', ?_, ?_, ?_, ?_, ?_⟩, ((((b1.trans b2).trans b3).trans b4).trans b5).trans b6⟩
      · refine (HA4.out.fr HF5.out (fun k hk hr => ?_)).fr HFr.out (fun k hk hr => ?_)
        · rcases d' k hk with h | h
          · exact HDR.out k h hr
          · have := rl k hr; omega
        · have hcc := HC.out k hr
          rcases d' k hk with h | h
          · have := dl k h; omega
          · omega
      · refine HA5.out.fr HFr.out (fun k hk hr => ?_)
        have hcc := HC.out k hr
        rcases r' k hk with h | h
        · have := rl k h; omega
        · omega
      · intro k hk hr
        have hl : k < w4.heap.size := HA4.out.lt k hk
        rcases r' k hr with h | h
        · rcases d' k hk with h2 | h2
          · exact HDR.out k h2 h
          · have := rl k h; omega
        · omega
      · intro k hk
        rcases d' k hk with h | h
        · exact HD.out k h
        · omega
      · intro k hk
        rcases r' k hk with h | h
        · exact HRR.out k h
        · omega
end Go.Proofs.Ytjlellehlcidnaa.D
