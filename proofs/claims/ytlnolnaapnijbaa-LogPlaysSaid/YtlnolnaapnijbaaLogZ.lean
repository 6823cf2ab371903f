/-
  One disk and its log in a law: what it stands in, and what may turn.
-/
import Derived.Test.YtlnolnaapnijbaaLogA
namespace Go.Proofs.Ytlnolnaapnijbaa.L
set_option maxRecDepth 100000
open Go.RowKit K

/-- A disk that the law made (w0: the world at its start), apart from the blocks in Kp, which hold what the law keeps. -/
def Lo (w0 : World) (Kp : Nat → Prop) (w : World) (bd : Nat) (u : U) : Prop :=
  ∃ Z, Dk w bd Z u ∧ (∀ k, Z k → w0.heap.size ≤ k ∧ ¬ Kp k) ∧ (∀ k, Kp k → w0.heap.size ≤ k ∧ k < w.heap.size) ∧ Fr No w0 w
/-- A disk and a log. -/
def Ll (w0 : World) (Kp : Nat → Prop) (w : World) (bg bd : Nat) (g : Lg) (u : U) : Prop :=
  ∃ Z, At w bg bd Z g u ∧ (∀ k, Z k → w0.heap.size ≤ k ∧ ¬ Kp k) ∧ (∀ k, Kp k → w0.heap.size ≤ k ∧ k < w.heap.size) ∧ Fr No w0 w ∧ w0.heap.size ≤ bg ∧ ¬ Kp bg
/-- What may turn. -/
def Ap (w0 : World) (Kp : Nat → Prop) : Nat → Prop := fun k => w0.heap.size ≤ k ∧ ¬ Kp k
/-- Kp, and what came between two worlds. -/
def Mo (Kp : Nat → Prop) (w w' : World) : Nat → Prop := fun k => Kp k ∨ (w.heap.size ≤ k ∧ k < w'.heap.size)
section
variable {w0 w w' : World} {Kp : Nat → Prop} {bg bd : Nat} {u : U} {g : Lg}
theorem Ll.lo (h : Ll w0 Kp w bg bd g u) : Lo w0 Kp w bd u := by
  obtain ⟨Z, h1, h2, h3, h4, _⟩ := h
  exact ⟨Z, h1.1, h2, h3, h4⟩
theorem Lo.fr (h : Lo w0 Kp w bd u) : Fr No w0 w := by obtain ⟨_, _, _, _, h⟩ := h; exact h
theorem Ll.fr (h : Ll w0 Kp w bg bd g u) : Fr No w0 w := h.lo.fr
theorem Lo.len (h : Lo w0 Kp w bd u) : u.L.length ≤ 4096 := by
  obtain ⟨Z, h1, _⟩ := h
  have := h1.ok.n1
  simpa [U.st] using this
theorem Ll.gok (h : Ll w0 Kp w bg bd g u) : g.Ok u.L.length := by obtain ⟨Z, h1, _⟩ := h; exact h1.2.2.2
theorem Lo.later (h : Lo w0 Kp w bd u) (hf : Fr No w w') : Lo w0 Kp w' bd u := by
  obtain ⟨Z, h1, h2, h3, h4⟩ := h
  exact ⟨Z, D.Rep.no h1 hf, h2, fun k hk => ⟨(h3 k hk).1, Nat.lt_of_lt_of_le (h3 k hk).2 hf.size⟩, h4.trans' hf⟩
theorem Ll.later (h : Ll w0 Kp w bg bd g u) (hf : Fr No w w') : Ll w0 Kp w' bg bd g u := by
  obtain ⟨Z, h1, h2, h3, h4, h5⟩ := h
  exact ⟨Z, h1.no hf, h2, fun k hk => ⟨(h3 k hk).1, Nat.lt_of_lt_of_le (h3 k hk).2 hf.size⟩, h4.trans' hf, h5⟩
/-- What the law keeps is written, or grows. -/
theorem Lo.more (h : Lo w0 Kp w bd u) (hf : Fr Kp w w') : Lo w0 (Mo Kp w w') w' bd u := by
  obtain ⟨Z, h1, h2, h3, h4⟩ := h
  refine ⟨Z, D.Rep.fr h1 hf (fun k hk e => (h2 k hk).2 e), fun k hk => ⟨(h2 k hk).1, fun e => ?_⟩, fun k hk => ?_, h4.trans hf (fun k hk => .inr (h3 k hk).1)⟩
  · rcases e with e | e
    · exact (h2 k hk).2 e
    · have := h1.lt k hk; omega
  · have := h4.size
    rcases hk with e | e
    · exact ⟨(h3 k e).1, Nat.lt_of_lt_of_le (h3 k e).2 hf.size⟩
    · exact ⟨by omega, e.2⟩
theorem Ll.more (h : Ll w0 Kp w bg bd g u) (hf : Fr Kp w w') : Ll w0 (Mo Kp w w') w' bg bd g u := by
  obtain ⟨Z, h1, h2, h3, h4, h5, h6⟩ := h
  refine ⟨Z, h1.fr hf (fun k hk e => (h2 k hk).2 e) h6, fun k hk => ⟨(h2 k hk).1, fun e => ?_⟩, fun k hk => ?_, h4.trans hf (fun k hk => .inr (h3 k hk).1), h5, fun e => ?_⟩
  · rcases e with e | e
    · exact (h2 k hk).2 e
    · have := h1.1.lt k hk; omega
  · have := h4.size
    rcases hk with e | e
    · exact ⟨(h3 k e).1, Nat.lt_of_lt_of_le (h3 k e).2 hf.size⟩
    · exact ⟨by omega, e.2⟩
  · rcases e with e | e
    · exact h6 e
    · have := h1.2.1.lt; omega
theorem Lo.step {Z Z' : Nat → Prop} {u' : U} (h1 : ∀ k, Z k → w0.heap.size ≤ k ∧ ¬ Kp k) (h2 : ∀ k, Kp k → w0.heap.size ≤ k ∧ k < w.heap.size) (h3 : Fr No w0 w) (a : Dk w' bd Z' u') (hf : Fr Z w w') (hg : Grows w Z Z') : Lo w0 Kp w' bd u' ∧ Fr (Ap w0 Kp) w w' := by
  have hs := h3.size
  refine ⟨⟨Z', a, fun k hk => ?_, fun k hk => ⟨(h2 k hk).1, Nat.lt_of_lt_of_le (h2 k hk).2 hf.size⟩, h3.trans hf (fun k hk => .inr (h1 k hk).1)⟩, hf.mono h1⟩
  rcases hg k hk with e | e
  · exact h1 k e
  · exact ⟨by omega, fun e' => by have := h2 k e'; omega⟩
theorem TextsIn.ap {v : Value} {L : List (List UInt8)} {E : Nat → Prop} (h : TextsIn w E v L) (hf : Fr (Ap w0 Kp) w w') (he : ∀ k, E k → k < w0.heap.size ∨ Kp k) : TextsIn w' E v L :=
  h.fr hf fun k hk _ hd => (he k hk).elim (fun e => by have := hd.1; omega) (fun e => hd.2 e)
theorem own_ap {v : Value} {base : Nat} {t : TypeId} {size n : Nat} {xs : List Value} (h : w.ownsRow base t size v n xs) (hf : Fr (Ap w0 Kp) w w') (hk : ∀ k, v.ownBlock = some k → Kp k) : w'.ownsRow base t size v n xs :=
  own_fr h hf (fun k e hd => hd.2 (hk k e))

theorem lo_new (n : Nat) (h1 : 1 ≤ n) (h2 : n ≤ 4096) (hf : Fr No w0 w) : Calls Try.prog 7 #[.int .i64 n] w fun e w' =>
    ∃ bd, e = .returned (.tuple #[.pointer (some ⟨bd, 0, none⟩), .int .i64 0]) ∧ Lo w0 No w' bd (U.new n) ∧ Fr No w w' := by
  refine (dnew_any n w h1 h2).mono ?_
  rintro e w' ⟨bd, Z, rfl, r1, r2, r3⟩
  have := hf.size
  exact ⟨bd, rfl, ⟨Z, r1, fun k hk => ⟨by have := r2 k hk; omega, id⟩, fun k hk => hk.elim, hf.trans' r3⟩, r3⟩
theorem lo_crash (v : Value) (keep : List Bool) (E : Nat → Prop) (h : Lo w0 Kp w bd u) (hv : D.BoolsIn w E v keep) (hE : ∀ k, E k → k < w0.heap.size ∨ Kp k) (hl : keep.length ≤ 9223372036854775807) :
    Calls Try.prog 26 #[.pointer (some ⟨bd, 0, none⟩), v] w fun e w' => e = .returned (.int .i64 (u.crash keep).1) ∧ Lo w0 Kp w' bd (u.crash keep).2 ∧ Fr (Ap w0 Kp) w w' := by
  obtain ⟨Z, h1, h2, h3, h4⟩ := h
  refine (dcrash_any v keep E hv (fun k hk hd => (hE k hk).elim (fun e => by have := (h2 k hd).1; omega) (h2 k hd).2) hl h1).mono ?_
  rintro e w' ⟨rfl, r1, r2⟩
  exact ⟨rfl, Lo.step h2 h3 h4 r1 r2 (Grows.refl _ _)⟩
theorem lo_arm (n : Int) (hn : n ≤ 9223372036854775807) (h : Lo w0 Kp w bd u) : Calls Try.prog 34 #[.pointer (some ⟨bd, 0, none⟩), .int .i64 n] w fun e w' => e = .returned (.int .i64 (u.arm n).1) ∧ Lo w0 Kp w' bd (u.arm n).2 ∧ Fr (Ap w0 Kp) w w' := by
  obtain ⟨Z, h1, h2, h3, h4⟩ := h
  refine (darm_any n hn h1).mono ?_
  rintro e w' ⟨rfl, r1, r2⟩
  exact ⟨rfl, Lo.step h2 h3 h4 r1 r2 (Grows.refl _ _)⟩
@[simp] theorem arm_L (u : U) (n : Int) : (u.arm n).2.L = u.L := by unfold U.arm; (repeat' split) <;> rfl
theorem ll_arm (n : Int) (hn : n ≤ 9223372036854775807) (h : Ll w0 Kp w bg bd g u) : Calls Try.prog 34 #[.pointer (some ⟨bd, 0, none⟩), .int .i64 n] w fun e w' => e = .returned (.int .i64 (u.arm n).1) ∧ Ll w0 Kp w' bg bd g (u.arm n).2 ∧ Fr (Ap w0 Kp) w w' := by
  obtain ⟨Z, h1, h2, h3, h4, h5, h6⟩ := h
  refine (darm_any n hn h1.1).mono ?_
  rintro e w' ⟨rfl, r1, r2⟩
  exact ⟨rfl, ⟨Z, ⟨r1, h1.2.1.fr r2 h1.2.2.1, h1.2.2.1, by rw [arm_L]; exact h1.2.2.2⟩, h2, fun k hk => ⟨(h3 k hk).1, Nat.lt_of_lt_of_le (h3 k hk).2 r2.size⟩, h4.trans r2 (fun k hk => .inr (h2 k hk).1), h5, h6⟩, r2.mono h2⟩
theorem ll_append (x : ByteArray) (h : Ll w0 Kp w bg bd g u) (hx : x.size ≤ 9223372036854775807) (hp : u.P.length < 900000) :
    Calls Try.prog 23 #[.pointer (some ⟨bg, 0, none⟩), .string x] w fun e w' =>
      e = .returned (.int .i64 (u.append g x.data.toList).1) ∧ Ll w0 Kp w' bg bd (u.append g x.data.toList).2.2 (u.append g x.data.toList).2.1 ∧ Fr (Ap w0 Kp) w w' := by
  obtain ⟨Z, h1, h2, h3, h4, h5, h6⟩ := h
  refine (append_any w bg bd Z g u x h1 hx hp).mono ?_
  rintro e w' ⟨rfl, Z', r1, r2, r3⟩
  have hs := h4.size
  have hap : ∀ k, Z k ∨ k = bg → w0.heap.size ≤ k ∧ ¬ Kp k := fun k hk => hk.elim (h2 k) (fun e => by subst e; exact ⟨h5, h6⟩)
  refine ⟨rfl, ⟨Z', r1, fun k hk => ?_, fun k hk => ⟨(h3 k hk).1, Nat.lt_of_lt_of_le (h3 k hk).2 r2.size⟩, h4.trans r2 (fun k hk => .inr (hap k hk).1), h5, h6⟩, r2.mono hap⟩
  rcases r3 k hk with e | e
  · exact h2 k e
  · exact ⟨by omega, fun e' => by have := h3 k e'; omega⟩
theorem ll_sync (h : Ll w0 Kp w bg bd g u) : Calls Try.prog 25 #[.pointer (some ⟨bg, 0, none⟩)] w fun e w' => e = .returned (.int .i64 u.flush.1) ∧ Ll w0 Kp w' bg bd g u.flush.2 ∧ Fr (Ap w0 Kp) w w' := by
  obtain ⟨Z, h1, h2, h3, h4, h5, h6⟩ := h
  refine (sync_any h1).mono ?_
  rintro e w' ⟨rfl, r1, r2⟩
  exact ⟨rfl, ⟨Z, r1, h2, fun k hk => ⟨(h3 k hk).1, Nat.lt_of_lt_of_le (h3 k hk).2 r2.size⟩, h4.trans r2 (fun k hk => .inr (h2 k hk).1), h5, h6⟩, r2.mono h2⟩
theorem ll_next (h : Ll w0 Kp w bg bd g u) : Calls Try.prog 24 #[.pointer (some ⟨bg, 0, none⟩)] w fun e w' => e = .returned (.int .i64 g.next) ∧ w = w' := by
  obtain ⟨Z, h1, _⟩ := h
  exact next_any h1
theorem ll_life (h : Ll w0 Kp w bg bd g u) : Calls Try.prog 27 #[.pointer (some ⟨bg, 0, none⟩)] w fun e w' => e = .returned (.int .u32 g.life) ∧ w = w' := by
  obtain ⟨Z, h1, _⟩ := h
  exact life_any h1
theorem ll_room (h : Ll w0 Kp w bg bd g u) : Calls Try.prog 41 #[.pointer (some ⟨bg, 0, none⟩)] w fun e w' => e = .returned (.int .i64 ((g.count : Int) - g.next)) ∧ Fr No w w' := by
  obtain ⟨Z, h1, _⟩ := h
  exact room_any h1
/-- What Open leaves. -/
def LoOpened (w0 : World) (Kp : Nat → Prop) (w : World) (bd : Nat) (r : Int × U × Option (Lg × List (List UInt8))) (e : Ending) (w' : World) : Prop :=
  Fr (Ap w0 Kp) w w' ∧
  match r.2.2 with
  | none => e = .returned (.tuple #[.pointer none, .slice none 0 0, .int .i64 r.1]) ∧ Lo w0 Kp w' bd r.2.1
  | some (g, recs) => ∃ (bg : Nat) (a : Option Addr) (cap : Nat) (Kp' : Nat → Prop), e = .returned (.tuple #[.pointer (some ⟨bg, 0, none⟩), .slice a recs.length cap, .int .i64 0]) ∧ Ll w0 Kp' w' bg bd g r.2.1 ∧ TextsIn w' Kp' (.slice a recs.length cap) recs ∧ (∀ k, Kp k → Kp' k)
theorem lo_open (first count ep : Nat) (h : Lo w0 Kp w bd u) (hc : 2 ≤ count) (hf : first + count ≤ u.L.length) (he : ep < 4294967296) (hp : u.P.length < 1000000) :
    Calls Try.prog 22 #[.pointer (some ⟨bd, 0, none⟩), .int .i64 first, .int .i64 count, .int .u32 ep] w (LoOpened w0 Kp w bd (u.opens first count ep)) := by
  obtain ⟨Z, h1, h2, h3, h4⟩ := h
  refine (open_any first count ep h1 hc hf he hp).mono ?_
  rintro e w' ⟨Z', r1, r2, r3⟩
  have hs := h4.size
  have hz : ∀ k, Z' k → w0.heap.size ≤ k ∧ ¬ Kp k := fun k hk => by
    rcases r2 k hk with e | e
    · exact h2 k e
    · exact ⟨by omega, fun e' => by have := h3 k e'; omega⟩
  refine ⟨r1.mono h2, ?_⟩
  generalize u.opens first count ep = r at r3 ⊢
  obtain ⟨r, u', o⟩ := r
  cases o with
  | none =>
    obtain ⟨rfl, r4⟩ := r3
    exact ⟨rfl, Z', r4, hz, fun k hk => ⟨(h3 k hk).1, Nat.lt_of_lt_of_le (h3 k hk).2 r1.size⟩, h4.trans r1 (fun k hk => .inr (h2 k hk).1)⟩
  | some p =>
    obtain ⟨g, recs⟩ := p
    obtain ⟨bg, v, rfl, r4, r5, r6⟩ := r3
    obtain ⟨a, len, cap, rfl, rfl, r7, r8⟩ := r6
    have hbg := r5.2.1.lt
    refine ⟨bg, a, cap, fun k => Kp k ∨ (w.heap.size ≤ k ∧ k < w'.heap.size ∧ ¬ Z' k ∧ k ≠ bg), rfl, ⟨Z', r5, fun k hk => ⟨(hz k hk).1, fun e => e.elim (hz k hk).2 (fun e => e.2.2.1 hk)⟩, fun k hk => ?_, h4.trans r1 (fun k hk => .inr (h2 k hk).1), by omega, fun e => e.elim (fun e => by have := h3 bg e; omega) (fun e => e.2.2.2 rfl)⟩,
      ⟨a, _, cap, rfl, rfl, r7, r8.imp id fun ⟨b, o, q1, q2, q3, q4⟩ => ⟨b, o, q1, .inr ⟨q2.1, q3, q2.2.1, q2.2.2⟩, q3, q4⟩⟩, fun k hk => .inl hk⟩
    rcases hk with e | e
    · exact ⟨(h3 k e).1, Nat.lt_of_lt_of_le (h3 k e).2 r1.size⟩
    · exact ⟨by omega, e.2.1⟩
end
end Go.Proofs.Ytlnolnaapnijbaa.L
