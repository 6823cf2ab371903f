/-
  A disk in a law, and beside it a growing row of states that the law keeps; writes of one sector and a crash.
-/
import Derived.Test.YtjlellehlcidnaaAwake
namespace Go.Proofs.Ytjlellehlcidnaa.D
open Go.RowKit K

theorem BytesIn.imp {w : World} {E E' : Nat → Prop} {v : Value} {bs : List Int} (h : BytesIn w E v bs) (he : ∀ k, E k → k < w.heap.size → E' k) : BytesIn w E' v bs := by
  obtain ⟨a, len, cap, h1, h2, h3⟩ := h
  exact ⟨a, len, cap, h1, h2, h3.imp id fun ⟨g, o, r1, r2, r3, r4⟩ => ⟨g, o, r1, he g r2 r3, r3, r4⟩⟩
/-- The row's own parts, with what is kept and with the row's values named. -/
structure StsX (w0 w : World) (bd : Nat) (s : St) (sv : Value) (xs : List (List Int)) (Kp : Nat → Prop) (cs : List Value) : Prop where
  ow : Ow w0 Kp w bd s
  own : w.ownsRow w0.heap.size 32 1 sv xs.length cs
  kp : ∀ k, sv.ownBlock = some k → Kp k
  el : ∀ (j : Nat) (x : List Int), xs[j]? = some x → ∃ v, cs[j]? = some v ∧ BytesIn w (fun k => Kp k ∧ sv.ownBlock ≠ some k) v x
def Sts (w0 w : World) (bd : Nat) (s : St) (sv : Value) (xs : List (List Int)) : Prop := ∃ Kp cs, StsX w0 w bd s sv xs Kp cs
def StsV (w0 w : World) (bd : Nat) (s : St) (sv : Value) (xs : List (List Int)) (v : Value) (x : List Int) : Prop :=
  ∃ Kp cs, StsX w0 w bd s sv xs Kp cs ∧ BytesIn w (fun k => Kp k ∧ sv.ownBlock ≠ some k) v x

section
variable {w0 w w' w1 w2 : World} {bd : Nat} {s s' : St} {sv sv' v : Value} {xs : List (List Int)} {x : List Int} {Kp : Nat → Prop} {cs : List Value}
theorem StsX.no (h : StsX w0 w bd s sv xs Kp cs) (hf : Fr No w w') : StsX w0 w' bd s sv xs Kp cs :=
  ⟨h.ow.later hf, own_fr h.own hf (fun _ _ e => e), h.kp, fun j x hj => by
    obtain ⟨v, r1, r2⟩ := h.el j x hj
    exact ⟨v, r1, r2.fr hf fun _ _ _ e => e⟩⟩
theorem StsX.more (h : StsX w0 w bd s sv xs Kp cs) (hf : Fr No w w') : StsX w0 w' bd s sv xs (Mo Kp w w') cs :=
  ⟨h.ow.more hf, own_fr h.own hf (fun _ _ e => e), fun k hk => .inl (h.kp k hk), fun j x hj => by
    obtain ⟨v, r1, r2⟩ := h.el j x hj
    exact ⟨v, r1, (r2.fr hf fun _ _ _ e => e).mono fun k hk => ⟨.inl hk.1, hk.2⟩⟩⟩
theorem StsX.ap (h : StsX w0 w bd s sv xs Kp cs) (ho : Ow w0 Kp w' bd s') (hf : Fr (Ap w0 Kp) w w') : StsX w0 w' bd s' sv xs Kp cs :=
  ⟨ho, own_fr h.own hf (fun k hk e => e.2 (h.kp k hk)), h.kp, fun j x hj => by
    obtain ⟨v, r1, r2⟩ := h.el j x hj
    exact ⟨v, r1, r2.fr hf fun k hk _ e => e.2 hk.1⟩⟩
theorem StsV.sts (h : StsV w0 w bd s sv xs v x) : Sts w0 w bd s sv xs := by
  obtain ⟨Kp, cs, h1, _⟩ := h
  exact ⟨Kp, cs, h1⟩
theorem StsV.bytes (h : StsV w0 w bd s sv xs v x) : BytesIn w (fun _ => True) v x := by
  obtain ⟨Kp, cs, _, h2⟩ := h
  exact h2.mono fun _ _ => trivial
theorem Sts.ow (h : Sts w0 w bd s sv xs) : ∃ Kp, Ow w0 Kp w bd s := by
  obtain ⟨Kp, cs, h1⟩ := h
  exact ⟨Kp, h1.ow⟩
theorem StsV.no (h : StsV w0 w bd s sv xs v x) (hf : Fr No w w') : StsV w0 w' bd s sv xs v x := by
  obtain ⟨Kp, cs, h1, h2⟩ := h
  exact ⟨Kp, cs, h1.no hf, h2.fr hf fun _ _ _ e => e⟩
theorem Sts.form (h : Sts w0 w bd s sv xs) : ∃ a cap, sv = .slice a xs.length cap := by
  obtain ⟨Kp, cs, h1⟩ := h
  obtain ⟨a, cap, e, _⟩ := own_form h1.own
  exact ⟨a, cap, e⟩
theorem Sts.load {a : Option Addr} {cap : Nat} (h : Sts w0 w bd s (.slice a xs.length cap) xs) {j : Nat} {y : List Int} (hj : xs[j]? = some y) :
    ∃ g u, a = some ⟨g, 0, none⟩ ∧ w.cell? ⟨g, j, none⟩ = some u ∧ BytesIn w (fun _ => True) u y := by
  obtain ⟨Kp, cs, h1⟩ := h
  obtain ⟨a', cap', e, _, hg⟩ := own_form h1.own
  simp only [Value.slice.injEq, true_and] at e
  obtain ⟨rfl, rfl⟩ := e
  obtain ⟨g, rfl⟩ := hg (by have := (List.getElem?_eq_some_iff.1 hj).1; omega)
  obtain ⟨u, r1, r2⟩ := h1.el j y hj
  exact ⟨g, u, rfl, (own_at h1.own j u r1).1, r2.mono fun _ _ => trivial⟩
theorem sts_new (h : Ow w0 Kp w bd s) (hv : BytesIn w Kp v x) (hB : Blk w' w.heap.size 32 [v]) (hf : Fr No w w') : Sts w0 w' bd s (.slice (some ⟨w.heap.size, 0, none⟩) 1 1) [x] := by
  refine ⟨Mo Kp w w', [v], h.more hf, hB.own h.fr.size rfl (Nat.le_refl _) (by decide) rfl rfl, fun k hk => ?_, fun j y hj => ?_⟩
  · simp [Value.ownBlock] at hk
    exact .inr ⟨by omega, by have := hB.lt; omega⟩
  · cases j with
    | zero =>
      obtain rfl : x = y := by simpa using hj
      exact ⟨v, rfl, (hv.imp (fun k hk hl => (⟨hk, hl⟩ : Kp k ∧ k < w.heap.size)) |>.fr hf fun _ _ _ e => e).mono fun k hk => ⟨.inl hk.1, fun e => by simp [Value.ownBlock] at e; have := hk.2; omega⟩⟩
    | succ j => simp at hj
theorem sts_write (n : Int) (v : Value) (bs : List Int) (h : Sts w0 w bd s sv xs) (hv : BytesIn w0 (fun k => k < w0.heap.size) v bs) (hp : s.P.length < 1000000) :
    Calls Try.prog 16 #[.pointer (some ⟨bd, 0, none⟩), .int .i64 n, v] w fun e w' => e = .returned (.int .i64 (s.write n bs).1) ∧ Sts w0 w' bd (s.write n bs).2 sv xs := by
  obtain ⟨Kp, cs, h1⟩ := h
  refine (ow_write n v bs _ h1.ow (hv.fr h1.ow.fr (fun _ _ _ e => e)) (fun k hk => .inl hk) hp).mono ?_
  rintro e w' ⟨rfl, ho, hf⟩
  exact ⟨rfl, Kp, cs, h1.ap ho hf⟩
theorem sts_crash (v : Value) (keep : List Bool) (h : Sts w0 w bd s sv xs) (hv : BoolsIn w0 (fun k => k < w0.heap.size) v keep) (hl : keep.length ≤ 9223372036854775807) :
    Calls Try.prog 18 #[.pointer (some ⟨bd, 0, none⟩), v] w fun e w' => e = .returned (.int .i64 (s.crash keep).1) ∧ Sts w0 w' bd (s.crash keep).2 sv xs := by
  obtain ⟨Kp, cs, h1⟩ := h
  refine (ow_crash v keep _ h1.ow (hv.fr h1.ow.fr (fun _ _ _ e => e)) (fun k hk => .inl hk) hl).mono ?_
  rintro e w' ⟨rfl, ho, hf⟩
  exact ⟨rfl, Kp, cs, h1.ap ho hf⟩
theorem own_old (h : StsX w0 w bd s sv xs Kp cs) {k : Nat} (hk : sv.ownBlock = some k) : w0.heap.size ≤ k ∧ k < w.heap.size := h.own.lt k hk
theorem sts_read (m : Int) (h : Sts w0 w bd s sv xs) : Calls Try.prog 15 #[.pointer (some ⟨bd, 0, none⟩), .int .i64 m] w fun e w' =>
    ∃ v, e = .returned (.tuple #[v, .int .i64 (s.read m).2]) ∧ StsV w0 w' bd s sv xs v (s.read m).1 := by
  obtain ⟨Kp, cs, h1⟩ := h
  obtain ⟨D, hA, _⟩ := h1.ow
  refine (read_any m hA).mono ?_
  rintro e w' ⟨v, rfl, hb, hf⟩
  exact ⟨v, rfl, Mo Kp w w', cs, h1.more hf, hb.imp fun k hk hl => ⟨.inr ⟨hk, hl⟩, fun e => by have := (own_old h1 e).2; unfold New at hk; omega⟩⟩
theorem stsV_lasting (m : Int) (h : StsV w0 w bd s sv xs v x) : Calls Try.prog 19 #[.pointer (some ⟨bd, 0, none⟩), .int .i64 m] w fun e w' =>
    ∃ u, e = .returned (.tuple #[u, .int .i64 (s.lasting m).2]) ∧ StsV w0 w' bd s sv xs v x ∧ BytesIn w' (fun _ => True) u (s.lasting m).1 := by
  obtain ⟨Kp, cs, h1, h2⟩ := id h
  obtain ⟨D, hA, _⟩ := h1.ow
  refine (lasting_any m hA).mono ?_
  rintro e w' ⟨u, rfl, hb, hf⟩
  exact ⟨u, rfl, h.no hf, hb.mono fun _ _ => trivial⟩
theorem sts_append (h : StsX w0 w bd s sv xs Kp cs) (h5 : BytesIn w (fun k => Kp k ∧ sv.ownBlock ≠ some k) v x) (hf : Fr No w w1)
    (ho : w2.ownsRow w0.heap.size 32 1 sv' (xs.length + 1) (cs ++ [v])) (hg : w1.grownBy w2 sv.ownBlock) (hb : sv'.ownBlock = sv.ownBlock ∨ sv'.ownBlock = some w1.heap.size) : Sts w0 w2 bd s sv' (xs ++ [x]) := by
  have hfr : Fr (fun k => sv.ownBlock = some k) w w2 := hf.no.trans' (frown hg)
  have hs1 : w.heap.size ≤ w1.heap.size := hf.size
  have hcl : cs.length = xs.length := by have := h.own.1; omega
  have keep : ∀ {u : Value} {y : List Int}, BytesIn w (fun k => Kp k ∧ sv.ownBlock ≠ some k) u y → BytesIn w2 (fun k => Mo Kp w w2 k ∧ sv'.ownBlock ≠ some k) u y := fun hu =>
    ((hu.imp (fun k hk hl => (⟨hk, hl⟩ : (Kp k ∧ sv.ownBlock ≠ some k) ∧ k < w.heap.size))).fr hfr fun k hk _ e => hk.1.2 e).mono fun k hk => ⟨.inl hk.1.1, fun e => by
      rcases hb with e' | e'
      · exact hk.1.2 (e' ▸ e)
      · rw [e'] at e; have := hk.2; simp at e; omega⟩
  obtain ⟨D, a1, a2, a3, a4⟩ := h.ow
  refine ⟨Mo Kp w w2, cs ++ [v], ⟨D, a1.fr hfr (fun k hk e => (a2 k hk).2 (h.kp k e)), fun k hk => ⟨(a2 k hk).1, fun e => ?_⟩, fun k hk => ?_, a4.trans hfr (fun k e => .inr (own_old h e).1)⟩, by simpa using ho, fun k hk => ?_, fun j y hj => ?_⟩
  · rcases e with e | e
    · exact (a2 k hk).2 e
    · have := a1.lt k hk; omega
  · rcases hk with e | e
    · exact Nat.lt_of_lt_of_le (a3 k e) hfr.size
    · exact e.2
  · have hlt := (ho.lt k hk).2
    rcases hb with e | e
    · exact .inl (h.kp k (e ▸ hk))
    · rw [e] at hk
      simp at hk
      exact .inr ⟨by omega, hlt⟩
  · by_cases hj' : j < xs.length
    · rw [List.getElem?_append_left hj'] at hj
      obtain ⟨u, r1, r2⟩ := h.el j y hj
      exact ⟨u, by rw [List.getElem?_append_left (by omega)]; exact r1, keep r2⟩
    · have hj0 : j = xs.length := by have := (List.getElem?_eq_some_iff.1 hj).1; simp at this; omega
      subst hj0
      obtain rfl : x = y := by simpa using hj
      exact ⟨v, by simp [← hcl], keep h5⟩
end

/-! ### Writes of one sector -/
def St.wit (s : St) (m : Nat) (Q : List (List Int)) : St := { s with P := Q.map fun q => (m, q) }
theorem wit_nil {s : St} (h : s.P = []) (m : Nat) : s.wit m [] = s := by cases s; simp_all [St.wit]
theorem wit_write_no {s : St} {m : Nat} {Q : List (List Int)} {b : List Int} (hu : s.up = true) (hm : m < s.L.length) (hb : 64 < b.length) : (s.wit m Q).write m b = (2, s.wit m Q) := by
  have h2 : 0 ≤ (m : Int) ∧ (m : Int) < s.L.length := by omega
  simp [St.write, St.wit, hu, hb, hm]
theorem wit_write_yes {s : St} {m : Nat} {Q : List (List Int)} {b : List Int} (hu : s.up = true) (hl : s.left = -1) (hm : m < s.L.length) (hb : ¬ 64 < b.length) : (s.wit m Q).write m b = (0, s.wit m (Q ++ [pad b])) := by
  simp [St.write, St.wit, St.spend, hu, hl, hb, hm]
theorem wit_read {s : St} {m : Nat} {Q : List (List Int)} {q : List Int} (hu : s.up = true) (hm : m < s.L.length) : (s.wit m (Q ++ [q])).read m = (q, 0) := by
  simp [St.read, St.wit, hu, List.getElem?_eq_getElem hm, now, List.foldl_append]
theorem picked_wit (m : Nat) : ∀ (Q : List (List Int)) (keep : List Bool), ∃ Q' : List (List Int), picked (Q.map fun q => (m, q)) keep = Q'.map (fun q => (m, q)) ∧ ∀ q ∈ Q', q ∈ Q
  | [], keep => ⟨[], by cases keep <;> rfl, fun q hq => hq⟩
  | a :: r, [] => ⟨[], rfl, fun q hq => by simp at hq⟩
  | a :: r, true :: t => by
    obtain ⟨Q', h1, h2⟩ := picked_wit m r t
    refine ⟨a :: Q', by simp [picked, h1], fun q hq => ?_⟩
    rcases List.mem_cons.1 hq with rfl | hq
    · simp
    · exact List.mem_cons_of_mem _ (h2 q hq)
  | a :: r, false :: t => by
    obtain ⟨Q', h1, h2⟩ := picked_wit m r t
    exact ⟨Q', by simp [picked, h1], fun q hq => List.mem_cons_of_mem _ (h2 q hq)⟩
theorem applied_wit (m : Nat) : ∀ (Q : List (List Int)) (L : List (List Int)) (l : List Int), L[m]? = some l → ∃ y, (applied L (Q.map fun q => (m, q)))[m]? = some y ∧ y ∈ l :: Q
  | [], L, l, h => ⟨l, by simpa [applied] using h, by simp⟩
  | a :: r, L, l, h => by
    have hm := (List.getElem?_eq_some_iff.1 h).1
    obtain ⟨y, h1, h2⟩ := applied_wit m r (L.set m a) a (by simp [hm])
    exact ⟨y, by simpa [applied] using h1, List.mem_cons_of_mem _ h2⟩
theorem wit_crash {s : St} {m : Nat} {Q : List (List Int)} {l : List Int} (hL : s.L[m]? = some l) (keep : List Bool) :
    ∃ y, ((s.wit m Q).crash keep).2.read m = (y, 0) ∧ ((s.wit m Q).crash keep).2.lasting m = (y, 0) ∧ y ∈ l :: Q := by
  obtain ⟨Q', h1, h2⟩ := picked_wit m Q keep
  obtain ⟨y, h3, h4⟩ := applied_wit m Q' s.L l hL
  refine ⟨y, ?_, ?_, ?_⟩
  · simp [St.crash, St.read, St.wit, St.some, h1, h3, now]
  · simp [St.crash, St.lasting, St.wit, St.some, h1, h3]
  · rcases List.mem_cons.1 h4 with rfl | h4
    · simp
    · exact List.mem_cons_of_mem _ (h2 y h4)
end Go.Proofs.Ytjlellehlcidnaa.D
