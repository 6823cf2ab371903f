/-
  One disk in a law: what it stands in, and what may turn.
-/
import Derived.Test.YtjlellehlcidnaaPlay
namespace Go.Proofs.Ytjlellehlcidnaa.D
open Go.RowKit K

/-- A disk that the law made (w0: the world at its start), apart from the blocks in K, which hold what the law keeps. -/
def Ow (w0 : World) (Kp : Nat → Prop) (w : World) (bd : Nat) (s : St) : Prop :=
  ∃ D, At w bd D s ∧ (∀ k, D k → w0.heap.size ≤ k ∧ ¬ Kp k) ∧ (∀ k, Kp k → k < w.heap.size) ∧ Fr No w0 w
/-- What may turn. -/
def Ap (w0 : World) (Kp : Nat → Prop) : Nat → Prop := fun k => w0.heap.size ≤ k ∧ ¬ Kp k
/-- K, and what came between two worlds. -/
def Mo (Kp : Nat → Prop) (w w' : World) : Nat → Prop := fun k => Kp k ∨ (w.heap.size ≤ k ∧ k < w'.heap.size)

section
variable {w0 w w' : World} {Kp : Nat → Prop} {bd : Nat} {s : St}
theorem Ow.fr (h : Ow w0 Kp w bd s) : Fr No w0 w := by obtain ⟨_, _, _, _, h⟩ := h; exact h
theorem Ow.ok (h : Ow w0 Kp w bd s) : s.Ok := by obtain ⟨_, h, _⟩ := h; exact h.ok
theorem Ow.below (h : Ow w0 Kp w bd s) : Below w0.heap.size w0 w := h.fr.below (fun _ e => e.elim) (Nat.le_refl _)
theorem Ow.later (h : Ow w0 Kp w bd s) (hf : Fr No w w') : Ow w0 Kp w' bd s := by
  obtain ⟨D, h1, h2, h3, h4⟩ := h
  exact ⟨D, h1.no hf, h2, fun k hk => Nat.lt_of_lt_of_le (h3 k hk) hf.size, h4.trans' hf⟩
theorem Ow.more (h : Ow w0 Kp w bd s) (hf : Fr No w w') : Ow w0 (Mo Kp w w') w' bd s := by
  obtain ⟨D, h1, h2, h3, h4⟩ := h
  refine ⟨D, h1.no hf, fun k hk => ⟨(h2 k hk).1, fun e => ?_⟩, fun k hk => ?_, h4.trans' hf⟩
  · rcases e with e | e
    · exact (h2 k hk).2 e
    · have := h1.lt k hk; omega
  · rcases hk with e | e
    · exact Nat.lt_of_lt_of_le (h3 k e) hf.size
    · exact e.2
theorem Ow.step {D D' : Nat → Prop} {s' : St} (h1 : ∀ k, D k → w0.heap.size ≤ k ∧ ¬ Kp k) (h2 : ∀ k, Kp k → k < w.heap.size) (h3 : Fr No w0 w) (a : At w' bd D' s') (hf : Fr D w w') (hg : Grows w D D') : Ow w0 Kp w' bd s' ∧ Fr (Ap w0 Kp) w w' := by
  have hs := h3.size
  refine ⟨⟨D', a, fun k hk => ?_, fun k hk => Nat.lt_of_lt_of_le (h2 k hk) hf.size, h3.trans hf (fun k hk => .inr (h1 k hk).1)⟩, hf.mono h1⟩
  rcases hg k hk with e | e
  · exact h1 k e
  · exact ⟨by omega, fun e' => by have := h2 k e'; omega⟩
theorem BytesIn.ap {v : Value} {bs : List Int} {E : Nat → Prop} (h : BytesIn w E v bs) (hf : Fr (Ap w0 Kp) w w') (he : ∀ k, E k → k < w0.heap.size ∨ Kp k) : BytesIn w' E v bs :=
  h.fr hf fun k hk _ hd => (he k hk).elim (fun e => by have := hd.1; omega) (fun e => hd.2 e)
theorem Fr.ap (h : Ow w0 Kp w bd s) (hf : Fr (Ap w0 Kp) w w') : Fr No w0 w' := h.fr.trans hf fun _ hk => .inr hk.1

def Ans' (w0 : World) (Kp : Nat → Prop) (w : World) (bd : Nat) (s : St) (r : List Int × Int) (e : Ending) (w' : World) : Prop :=
  ∃ v, e = .returned (.tuple #[v, .int .i64 r.2]) ∧ BytesIn w' (Mo Kp w w') v r.1 ∧ Ow w0 (Mo Kp w w') w' bd s ∧ Fr No w w'
theorem Ans.ow {r : List Int × Int} {e : Ending} (h : Ow w0 Kp w bd s) (ha : Ans w r e w') : Ans' w0 Kp w bd s r e w' := by
  obtain ⟨v, rfl, hb, hf⟩ := ha
  refine ⟨v, rfl, ?_, h.more hf, hf⟩
  obtain ⟨a, len, cap, r1, r2, r3⟩ := hb
  exact ⟨a, len, cap, r1, r2, r3.imp id fun ⟨g, o, q1, q2, q3, q4⟩ => ⟨g, o, q1, .inr ⟨q2, q3⟩, q3, q4⟩⟩
theorem ow_read (n : Int) (h : Ow w0 Kp w bd s) : Calls Try.prog 15 #[.pointer (some ⟨bd, 0, none⟩), .int .i64 n] w (Ans' w0 Kp w bd s (s.read n)) := by
  obtain ⟨D, h1, _⟩ := id h
  exact (read_any n h1).mono fun e w' ha => ha.ow h
theorem ow_lasting (n : Int) (h : Ow w0 Kp w bd s) : Calls Try.prog 19 #[.pointer (some ⟨bd, 0, none⟩), .int .i64 n] w (Ans' w0 Kp w bd s (s.lasting n)) := by
  obtain ⟨D, h1, _⟩ := id h
  exact (lasting_any n h1).mono fun e w' ha => ha.ow h
theorem ow_write (n : Int) (v : Value) (bs : List Int) (E : Nat → Prop) (h : Ow w0 Kp w bd s) (hv : BytesIn w E v bs) (hE : ∀ k, E k → k < w0.heap.size ∨ Kp k) (hp : s.P.length < 1000000) :
    Calls Try.prog 16 #[.pointer (some ⟨bd, 0, none⟩), .int .i64 n, v] w fun e w' => e = .returned (.int .i64 (s.write n bs).1) ∧ Ow w0 Kp w' bd (s.write n bs).2 ∧ Fr (Ap w0 Kp) w w' := by
  obtain ⟨D, h1, h2, h3, h4⟩ := h
  refine (write_any n v bs E hv (fun k hk hd => (hE k hk).elim (fun e => by have := (h2 k hd).1; omega) (h2 k hd).2) h1 hp).mono ?_
  rintro e w' ⟨rfl, D', r1, r2, r3⟩
  exact ⟨rfl, Ow.step h2 h3 h4 r1 r2 r3⟩
theorem ow_flush (h : Ow w0 Kp w bd s) : Calls Try.prog 21 #[.pointer (some ⟨bd, 0, none⟩)] w fun e w' => e = .returned (.int .i64 s.flush.1) ∧ Ow w0 Kp w' bd s.flush.2 ∧ Fr (Ap w0 Kp) w w' := by
  obtain ⟨D, h1, h2, h3, h4⟩ := h
  refine (flush_any h1).mono ?_
  rintro e w' ⟨rfl, r1, r2⟩
  exact ⟨rfl, Ow.step h2 h3 h4 r1 r2 (Grows.refl _ _)⟩
theorem ow_arm (n : Int) (hn : n ≤ 9223372036854775807) (h : Ow w0 Kp w bd s) : Calls Try.prog 22 #[.pointer (some ⟨bd, 0, none⟩), .int .i64 n] w fun e w' => e = .returned (.int .i64 (s.arm n).1) ∧ Ow w0 Kp w' bd (s.arm n).2 ∧ Fr (Ap w0 Kp) w w' := by
  obtain ⟨D, h1, h2, h3, h4⟩ := h
  refine (arm_any n hn h1).mono ?_
  rintro e w' ⟨rfl, r1, r2⟩
  exact ⟨rfl, Ow.step h2 h3 h4 r1 r2 (Grows.refl _ _)⟩
theorem ow_crash (v : Value) (keep : List Bool) (E : Nat → Prop) (h : Ow w0 Kp w bd s) (hv : BoolsIn w E v keep) (hE : ∀ k, E k → k < w0.heap.size ∨ Kp k) (hl : keep.length ≤ 9223372036854775807) :
    Calls Try.prog 18 #[.pointer (some ⟨bd, 0, none⟩), v] w fun e w' => e = .returned (.int .i64 (s.crash keep).1) ∧ Ow w0 Kp w' bd (s.crash keep).2 ∧ Fr (Ap w0 Kp) w w' := by
  obtain ⟨D, h1, h2, h3, h4⟩ := h
  refine (crash_any v keep E hv (fun k hk hd => (hE k hk).elim (fun e => by have := (h2 k hd).1; omega) (h2 k hd).2) hl h1).mono ?_
  rintro e w' ⟨rfl, r1, r2⟩
  exact ⟨rfl, Ow.step h2 h3 h4 r1 r2 (Grows.refl _ _)⟩
theorem ow_pending (h : Ow w0 Kp w bd s) : Calls Try.prog 20 #[.pointer (some ⟨bd, 0, none⟩)] w fun e w' => e = .returned (.int .i64 s.P.length) ∧ w = w' := by
  obtain ⟨D, h1, _⟩ := h
  exact pending_any h1
theorem ow_up (h : Ow w0 Kp w bd s) : Calls Try.prog 23 #[.pointer (some ⟨bd, 0, none⟩)] w fun e w' => e = .returned (.bool s.up) ∧ w = w' := by
  obtain ⟨D, h1, _⟩ := h
  exact up_any h1
theorem ow_new (n : Nat) (h1 : 1 ≤ n) (h2 : n ≤ 4096) (hf : Fr No w0 w) : Calls Try.prog 10 #[.int .i64 n] w fun e w' =>
    ∃ bd, e = .returned (.tuple #[.pointer (some ⟨bd, 0, none⟩), .int .i64 0]) ∧ Ow w0 No w' bd (St.new n) ∧ Fr No w w' := by
  refine (new_yes n w h1 h2).mono ?_
  rintro e w' ⟨bd, D, rfl, r1, r2, r3⟩
  have := hf.size
  exact ⟨bd, rfl, ⟨D, r1, fun k hk => ⟨by have := r2 k hk; omega, id⟩, fun k hk => hk.elim, hf.trans' r3⟩, r3⟩
theorem two_ow {br : Nat} {r : St} (h : Two w0.heap.size w bd br s r) (hb : Below w0.heap.size w0 w) : Ow w0 No w bd s := by
  obtain ⟨_, D, R, h1, _, _, h4, _⟩ := h
  exact ⟨D, h1, fun k hk => ⟨h4 k hk, id⟩, fun k hk => hk.elim, ⟨hb.os, hb.tape, hb.output, hb.size, fun k hk _ => hb.block k hk⟩⟩
/-- The one new block of a slice literal, as bytes. -/
theorem bytes_new {t : TypeId} {x : Int} (hB : Blk w' w.heap.size t [.int .u8 x]) : BytesIn w' (Mo Kp w w') (.slice (some ⟨w.heap.size, 0, none⟩) 1 1) [x] :=
  ⟨_, 1, 1, rfl, rfl, .inr ⟨_, 0, rfl, .inr ⟨Nat.le_refl _, hB.lt⟩, hB.lt, hB.range 0 _ rfl⟩⟩
end

/-! ### awake: the chapter's examples -/
def a1 : St := St.new 2
def a2 : St := (a1.write 0 [1]).2
def a3 : St := (a2.write 0 [2]).2
def a4 : St := (a3.write 1 [3]).2
def a5 : St := (a4.crash [true, false, true]).2
def a6 : St := (a5.arm 1).2
def a7 : St := (a6.write 1 [5]).2
def a8 : St := a7.flush.2
theorem ea2 : (a1.write 0 [1]).1 = 0 := by decide +kernel
theorem ea3 : (a2.write 0 [2]).1 = 0 := by decide +kernel
theorem ea4 : (a3.write 1 [3]).1 = 0 := by decide +kernel
theorem ep4 : a4.P.length = 3 := by decide +kernel
theorem ea5 : (a4.crash [true, false, true]).1 = 2 := by decide +kernel
theorem er0 : a5.read 0 = (pad [1], 0) := by decide +kernel
theorem er1 : a5.read 1 = (pad [3], 0) := by decide +kernel
theorem ea6 : (a5.arm 1).1 = 0 := by decide +kernel
theorem ea7 : (a6.write 1 [5]).1 = 0 := by decide +kernel
theorem ea8 : a7.flush.1 = 10 := by decide +kernel
theorem eu8 : a8.up = false := by decide +kernel
theorem er8 : (a8.read 1).2 = 10 := by decide +kernel
theorem el : a1.P.length < 1000000 ∧ a2.P.length < 1000000 ∧ a3.P.length < 1000000 ∧ a6.P.length < 1000000 := by decide +kernel
end Go.Proofs.Ytjlellehlcidnaa.D
