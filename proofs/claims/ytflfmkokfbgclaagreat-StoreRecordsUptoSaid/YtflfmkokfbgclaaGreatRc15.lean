/-
  Part 15 of the proof: Disk, DiskR, DiskN, DiskW.
-/
import Derived.Test.YtflfmkokfbgclaaGreatRows
import Derived.Test.YtflfmkokfbgclaaGreatRc00
set_option linter.unusedSimpArgs false
set_option linter.unusedVariables false
namespace Go.Proofs.YtflfmkokfbgclaaGreat.D
set_option maxRecDepth 100000
open Go.RowKit K

structure St where
  L : List (List Int)
  P : List (Nat × List Int)
  up : Bool
  left : Int

structure St.Ok (s : St) : Prop where
  n0 : 1 ≤ s.L.length
  n1 : s.L.length ≤ 4096
  sec : ∀ l ∈ s.L, l.length = 64
  pnd : ∀ p ∈ s.P, p.1 < s.L.length ∧ p.2.length = 64
  left0 : -1 ≤ s.left
  left1 : s.left ≤ 9223372036854775807

def u8s (l : List Int) : List Value := l.map (Value.int .u8)
def rowsL (L : List (List Int)) : List Value := (L.map u8s).flatten
def rowsP (P : List (Nat × List Int)) : List Value := (P.map fun p => Value.int .i64 (p.1 : Int) :: u8s p.2).flatten
@[simp] theorem u8s_length (l : List Int) : (u8s l).length = l.length := by simp [u8s]
theorem rowsL_length {L : List (List Int)} (h : ∀ l ∈ L, l.length = 64) : (rowsL L).length = L.length * 64 := by
  unfold rowsL; rw [flat_length (m := 64) _ (by simpa using h)]; simp
theorem own_set {w : World} {base : Nat} {e : TypeId} {size : Nat} {v : Value} {n : Nat} {xs : List Value} (h : w.ownsRow base e size v n xs) {p : Addr} (hp : ∀ k, v.ownBlock = some k → k ≠ p.block) {u : Value} : (w.setCell p u).ownsRow base e size v n xs :=
  h.kept (row := some p.block) ⟨rfl, rfl, rfl, by simp, fun k _ hn => Below.heap_setCell _ _ _ _ (fun e => hn (by rw [e]))⟩ (by
    cases hv : v.ownBlock with
    | none => exact .inl rfl
    | some k => exact .inr (fun e => hp k hv (by simpa using e)))

/-- A disk (td, tl, tp: the types of the struct, a sector, a write; f: how the flag is kept) in block bd; all its blocks lie in D. -/
def Rep (td tl tp : TypeId) (f : Bool → Bool) (w : World) (bd : Nat) (D : Nat → Prop) (s : St) : Prop :=
  s.Ok ∧ ∃ bl pv, Blk w bd td [.slice (some ⟨bl, 0, none⟩) s.L.length s.L.length, pv, .bool (f s.up), .int .i64 s.left] ∧ Blk w bl tl (rowsL s.L) ∧
    w.ownsRow 0 tp 65 pv s.P.length (rowsP s.P) ∧ bd ≠ bl ∧ (∀ k, pv.ownBlock = some k → k ≠ bd ∧ k ≠ bl ∧ D k) ∧ D bd ∧ D bl ∧ (∀ k, D k → k < w.heap.size)
abbrev At := Rep 87 102 104 id

theorem Rep.fr {td tl tp : TypeId} {f : Bool → Bool} {w w' : World} {bd : Nat} {D E : Nat → Prop} {s : St} (h : Rep td tl tp f w bd D s) (hf : Fr E w w') (hd : ∀ k, D k → ¬ E k) : Rep td tl tp f w' bd D s := by
  obtain ⟨ok, bl, pv, h1, h2, h3, h4, h5, h6, h7, h8⟩ := h
  refine ⟨ok, bl, pv, h1.fr hf (hd _ h6), h2.fr hf (hd _ h7), ⟨h3.1, ?_⟩, h4, h5, h6, h7, fun k hk => Nat.lt_of_lt_of_le (h8 k hk) hf.size⟩
  rcases h3.2 with hn | ⟨g, cap, cur, hv, hb, hg, r⟩
  · exact .inl hn
  · refine .inr ⟨g, cap, cur, hv, hb, ?_, r⟩
    obtain ⟨_, _, hgd⟩ := h5 g (by rw [hv]; rfl)
    rw [hf.block g (h8 g hgd) (hd g hgd)]; exact hg
theorem Rep.no {td tl tp : TypeId} {f : Bool → Bool} {w w' : World} {bd : Nat} {D : Nat → Prop} {s : St} (h : Rep td tl tp f w bd D s) (hf : Fr No w w') : Rep td tl tp f w' bd D s := h.fr hf fun _ _ e => e
theorem Rep.setUp {td tl tp : TypeId} {f : Bool → Bool} {w : World} {bd : Nat} {D : Nat → Prop} {s : St} (h : Rep td tl tp f w bd D s) (u : Bool) :
    Rep td tl tp f (w.setCell ⟨bd, 2, none⟩ (.bool (f u))) bd D { s with up := u } := by
  obtain ⟨ok, bl, pv, h1, h2, h3, h4, h5, h6, h7, h8⟩ := h
  exact ⟨⟨ok.1, ok.2, ok.3, ok.4, ok.5, ok.6⟩, bl, pv, h1.set 2 _, h2.set_other _ _ (Ne.symm h4), own_set h3 (fun k hk => (h5 k hk).1), h4, h5, h6, h7, by simpa using h8⟩
theorem Rep.setLeft {td tl tp : TypeId} {f : Bool → Bool} {w : World} {bd : Nat} {D : Nat → Prop} {s : St} (h : Rep td tl tp f w bd D s) (n : Int) (n0 : -1 ≤ n) (n1 : n ≤ 9223372036854775807) :
    Rep td tl tp f (w.setCell ⟨bd, 3, none⟩ (.int .i64 n)) bd D { s with left := n } := by
  obtain ⟨ok, bl, pv, h1, h2, h3, h4, h5, h6, h7, h8⟩ := h
  exact ⟨⟨ok.1, ok.2, ok.3, ok.4, n0, n1⟩, bl, pv, h1.set 3 _, h2.set_other _ _ (Ne.symm h4), own_set h3 (fun k hk => (h5 k hk).1), h4, h5, h6, h7, by simpa using h8⟩
theorem Rep.setNil {td tl tp : TypeId} {f : Bool → Bool} {w : World} {bd : Nat} {D : Nat → Prop} {s : St} (h : Rep td tl tp f w bd D s) :
    Rep td tl tp f (w.setCell ⟨bd, 1, none⟩ (.slice none 0 0)) bd D { s with P := [] } := by
  obtain ⟨ok, bl, pv, h1, h2, h3, h4, h5, h6, h7, h8⟩ := h
  exact ⟨⟨ok.1, ok.2, ok.3, by simp, ok.5, ok.6⟩, bl, .slice none 0 0, h1.set 1 _, h2.set_other _ _ (Ne.symm h4), World.ownsRow_nil _ _ _ _, h4, fun k hk => by simp [Value.ownBlock] at hk, h6, h7, by simpa using h8⟩
theorem Rep.dst {td tl tp : TypeId} {f : Bool → Bool} {w : World} {bd : Nat} {D : Nat → Prop} {s : St} (h : Rep td tl tp f w bd D s) : D bd ∧ ∀ j, w.frozen? ⟨bd, j, none⟩ = false := by
  obtain ⟨_, _, _, h1, _, _, _, _, h6, _⟩ := h
  exact ⟨h6, h1.frozen⟩
theorem Rep.cells {td tl tp : TypeId} {f : Bool → Bool} {w : World} {bd : Nat} {D : Nat → Prop} {s : St} (h : Rep td tl tp f w bd D s) :
    ∃ bl pv, w.cell? ⟨bd, 0, none⟩ = some (.slice (some ⟨bl, 0, none⟩) s.L.length s.L.length) ∧ w.cell? ⟨bd, 1, none⟩ = some pv ∧ w.cell? ⟨bd, 2, none⟩ = some (.bool (f s.up)) ∧ w.cell? ⟨bd, 3, none⟩ = some (.int .i64 s.left) := by
  obtain ⟨_, bl, pv, h1, _⟩ := h
  exact ⟨bl, pv, h1.cell 0, h1.cell 1, h1.cell 2, h1.cell 3⟩
theorem Rep.ok {td tl tp : TypeId} {f : Bool → Bool} {w : World} {bd : Nat} {D : Nat → Prop} {s : St} (h : Rep td tl tp f w bd D s) : s.Ok := h.1
theorem Rep.lt {td tl tp : TypeId} {f : Bool → Bool} {w : World} {bd : Nat} {D : Nat → Prop} {s : St} (h : Rep td tl tp f w bd D s) : ∀ k, D k → k < w.heap.size := by
  obtain ⟨_, _, _, _, _, _, _, _, _, _, h8⟩ := h; exact h8

/-! ### The functions of the small bodies -/
theorem ld {b o : Nat} {n : Int} {w : World} (h : w.cell? ⟨b, o, none⟩ = some (.int .i64 n)) :
    (callFunc 125 #[.pointer (some ⟨b, o, none⟩)]).run Tryz.prog w = .ok (.value (.int .i64 n)) w :=
  run_call_load (P := Tryz.prog) Tryz.func125 (by kernel_rfl) (by kernel_rfl) (by kernel_rfl) .i64 (by kernel_rfl) h
theorem st {b o : Nat} {y : Int} {u : Value} {w : World} (h : w.cell? ⟨b, o, none⟩ = some u) (hz : w.frozen? ⟨b, o, none⟩ = false) :
    (callFunc 48 #[.pointer (some ⟨b, o, none⟩), .int .i64 y]).run Tryz.prog w = .ok (.value (.tuple #[])) (w.setCell ⟨b, o, none⟩ (.int .i64 y)) :=
  run_call_store (P := Tryz.prog) Tryz.func48 (by kernel_rfl) (by kernel_rfl) (by kernel_rfl) (by kernel_rfl) h hz
theorem load_any (b o : Nat) (n : Int) (w : World) (h : w.cell? ⟨b, o, none⟩ = some (.int .i64 n)) :
    Calls Tryz.prog 111 #[.pointer (some ⟨b, o, none⟩)] w fun e w' => e = .returned (.int .i64 n) ∧ w = w' := by
  have hl := ld h
  go_enter Tryz.func111, Tryz.ntmps111
  go_wp2
  go_ret
  exact ⟨rfl, rfl⟩
theorem store_any (b o : Nat) (y : Int) (u : Value) (w : World) (h : w.cell? ⟨b, o, none⟩ = some u) (hz : w.frozen? ⟨b, o, none⟩ = false) :
    Calls Tryz.prog 31 #[.pointer (some ⟨b, o, none⟩), .int .i64 y] w fun e w' => e = .returned (.tuple #[]) ∧ w.setCell ⟨b, o, none⟩ (.int .i64 y) = w' := by
  have hl := st (y := y) h hz
  go_enter Tryz.func31, Tryz.ntmps31
  go_wp2
  go_end0
  exact ⟨rfl, rfl⟩

section
variable {w : World} {bd : Nat} {D : Nat → Prop} {s : St}

theorem sectors_any (h : At w bd D s) : Calls Tryz.prog 32 #[.pointer (some ⟨bd, 0, none⟩)] w fun e w' => e = .returned (.int .i64 s.L.length) ∧ w = w' := by
  obtain ⟨ok, bl, pv, h1, h2, h3, h4, h5, h6, h7, h8⟩ := h
  have c0 : w.cell? ⟨bd, 0, none⟩ = some (.slice (some ⟨bl, 0, none⟩) s.L.length s.L.length) := h1.cell 0
  clear h1 h2 h3 h5
  go_enter Tryz.func32, Tryz.ntmps32
  go_wp2
  go_ret
  exact ⟨rfl, rfl⟩

theorem has_any (n : Int) (h : At w bd D s) : Calls Tryz.prog 88 #[.pointer (some ⟨bd, 0, none⟩), .int .i64 n] w fun e w' => e = .returned (.bool (decide (0 ≤ n ∧ n < s.L.length))) ∧ w = w' := by
  obtain ⟨ok, bl, pv, h1, h2, h3, h4, h5, h6, h7, h8⟩ := h
  have c0 : w.cell? ⟨bd, 0, none⟩ = some (.slice (some ⟨bl, 0, none⟩) s.L.length s.L.length) := h1.cell 0
  clear h1 h2 h3 h5
  by_cases hn : 0 ≤ n
  · go_enter Tryz.func88, Tryz.ntmps88
    go_wp2
    go_ret
    exact ⟨by simp [hn], rfl⟩
  · have hd : decide (0 ≤ n) = false := by simpa using hn
    go_enter Tryz.func88, Tryz.ntmps88
    go_wp2
    go_ret
    exact ⟨rfl, rfl⟩

def St.spend (s : St) : Bool × St :=
  if s.left = 0 then (false, { s with up := false }) else if s.left = -1 then (true, s) else (true, { s with left := s.left - 1 })

theorem spend_any (h : At w bd D s) : Calls Tryz.prog 97 #[.pointer (some ⟨bd, 0, none⟩)] w fun e w' =>
    e = .returned (.bool s.spend.1) ∧ At w' bd D s.spend.2 ∧ Fr D w w' := by
  obtain ⟨bl, pv, c0, c1, c2, c3⟩ := h.cells
  obtain ⟨hD, fz⟩ := h.dst
  have l0 := h.ok.left0
  have l1 := h.ok.left1
  by_cases e0 : s.left = 0
  · have hs : s.spend = (false, { s with up := false }) := by simp [St.spend, e0]
    rw [hs]
    rw [e0] at c3
    have f2 := fz 2
    have HS := hid h; clear h
    have H0 := hid e0; clear e0 hs
    go_enter Tryz.func97, Tryz.ntmps97
    go_wp2_with (go_at_call 111; refine (load_any _ _ _ _ c3).mono ?_; rintro e w' ⟨rfl, rfl⟩)
    go_ret
    exact ⟨rfl, HS.out.setUp false, (Fr.refl _ _).setCell _ _ (.inl hD)⟩
  · by_cases e1 : s.left = -1
    · have hs : s.spend = (true, s) := by simp [St.spend, e1]
      rw [hs]
      rw [e1] at c3
      have HS := hid h; clear h
      have H0 := hid e1; clear e0 hs e1
      go_enter Tryz.func97, Tryz.ntmps97
      go_wp2_with (go_at_call 111; refine (load_any _ _ _ _ c3).mono ?_; rintro e w' ⟨rfl, rfl⟩)
      go_ret
      exact ⟨rfl, HS.out, Fr.refl _ _⟩
    · have hs : s.spend = (true, { s with left := s.left - 1 }) := by simp [St.spend, e0, e1]
      rw [hs]
      have f3 := fz 3
      have t0 : (s.left == 0) = false := by simp [e0]
      have t1 : (s.left != -1) = true := by simp [e1]
      have t2 : (s.left == -1) = false := by simp [e1]
      have p0 : 0 < s.left := by omega
      have HS := hid h; clear h
      clear e0 hs e1
      go_enter Tryz.func97, Tryz.ntmps97
      go_wp2_with (first | (go_at_call 111; refine (load_any _ _ _ _ c3).mono ?_; rintro e w' ⟨rfl, rfl⟩) | (go_at_call 31; refine (store_any _ _ _ _ _ c3 f3).mono ?_; rintro e w' ⟨rfl, rfl⟩))
      go_ret
      exact ⟨rfl, HS.out.setLeft _ (by omega) (by omega), (Fr.refl _ _).setCell _ _ (.inl hD)⟩

end
end Go.Proofs.YtflfmkokfbgclaaGreat.D

namespace Go.Proofs.YtflfmkokfbgclaaGreat.D
set_option maxRecDepth 100000
open Go.RowKit K

/-- The value is a slice of these bytes; they lie in a block of E. -/
def BytesIn (w : World) (E : Nat → Prop) (v : Value) (bs : List Int) : Prop :=
  ∃ a len cap, v = .slice a len cap ∧ bs.length = len ∧ len ≤ cap ∧ (len = 0 ∨ ∃ g o, a = some ⟨g, o, none⟩ ∧ E g ∧ g < w.heap.size ∧ w.rangeAt g o (u8s bs))
theorem BytesIn.mono {w : World} {E E' : Nat → Prop} {v : Value} {bs : List Int} (h : BytesIn w E v bs) (he : ∀ k, E k → E' k) : BytesIn w E' v bs := by
  obtain ⟨a, len, cap, h1, h2, h0, h3⟩ := h
  exact ⟨a, len, cap, h1, h2, h0, h3.imp id fun ⟨g, o, r1, r2, r3⟩ => ⟨g, o, r1, he g r2, r3⟩⟩
theorem BytesIn.fr {w w' : World} {E D : Nat → Prop} {v : Value} {bs : List Int} (h : BytesIn w E v bs) (hf : Fr D w w') (hd : ∀ k, E k → k < w.heap.size → ¬ D k) : BytesIn w' E v bs := by
  obtain ⟨a, len, cap, h1, h2, h0, h3⟩ := h
  exact ⟨a, len, cap, h1, h2, h0, h3.imp id fun ⟨g, o, r1, r2, r3, r4⟩ => ⟨g, o, r1, r2, Nat.lt_of_lt_of_le r3 hf.size, hf.range r4 (hd g r2 r3)⟩⟩
/-- What is new in w. -/
def New (w : World) : Nat → Prop := fun k => w.heap.size ≤ k

theorem u8s_one (l : List Int) : ∀ v ∈ u8s l, v.oneCell' = true := by
  intro v hv; obtain ⟨n, _, rfl⟩ := List.mem_map.1 hv; rfl
theorem info8 : (Tryz.prog.info? 5).map (·.size) = some 1 := by kernel_rfl
theorem info74 : (Tryz.prog.info? 102).map (·.size) = some 64 := by kernel_rfl
def zero64 : List Value := List.replicate 64 (.int .u8 0)
set_option maxRecDepth 100000 in
theorem make64 (w : World) : (Instr.makeSlice 40 (.int .i64 64) (.int .i64 64)).run Tryz.prog w = .ok (.slice (some ⟨w.heap.size, 0, none⟩) 64 64) (w.alloc (.cells zero64.toArray 5)) := by kernel_rfl

theorem bytesOf_any (bs : List Int) (w : World) (hl : bs.length = 64) : Calls Tryz.prog 89 #[.agg (u8s bs).toArray] w fun e w' =>
    ∃ v, e = .returned v ∧ BytesIn w' (New w) v bs ∧ Fr No w w' := by
  have mk := make64
  have Hl := hid hl; clear hl
  have B0 : Blk (w.alloc (.cells (u8s bs).toArray 102)) w.heap.size 102 (u8s bs) := Blk.new _ _ _
  have B1 := B0.alloc (.cells zero64.toArray 5)
  have B2 : Blk ((w.alloc (.cells (u8s bs).toArray 102)).alloc (.cells zero64.toArray 5)) (w.heap.size + 1) 5 zero64 := by
    have := Blk.new (w.alloc (.cells (u8s bs).toArray 102)) 5 zero64
    simpa using this
  have HB1 := hid B1
  have HB2 := hid B2
  clear B0 B1 B2
  go_enter Tryz.func89, Tryz.ntmps89
  go_wp2_with ((with_reducible show wpList _ _ _ (⟨_, .call { callee := .builtin .copy, args := _, argTypes := _ }, _, _, _, _⟩ :: _) _ _); refine wpL_copy rfl _ _ _ _ rfl 5 rfl info8 _ _ _ _ _ _ _ rfl rfl (u8s bs) ?_ ?_ ?_ (u8s_one bs) ?_)
  · simp [Hl.out]
  · exact .inr ⟨_, rfl, range_loads (HB1.out.range 0 _ (by rw [List.drop_zero, List.take_length]))⟩
  · exact HB2.out.there 0 _ (by simp [Hl.out, zero64])
  · go_ret
    refine ⟨_, rfl, ⟨_, 64, 64, rfl, Hl.out, Nat.le_refl _, .inr ⟨_, 0, rfl, ?_, by simp, ?_⟩⟩, ?_⟩
    · simp [New]
    · refine (HB2.out.sets (u8s bs) 0 (by simp [Hl.out, zero64])).range 0 _ ?_
      have h64 : (u8s bs).length = 64 := by simp [Hl.out]
      have : spl zero64 0 (u8s bs) = u8s bs := by simp [spl, h64, zero64]
      rw [this, List.drop_zero, List.take_length]
    · exact (((Fr.refl No w).alloc _).alloc _).setCells _ _ _ (.inr (by omega))

theorem getU8 {L : List (List Int)} (h : ∀ l ∈ L, l.length = 64) {i : Nat} {l : List Int} (hi : L[i]? = some l) : ((rowsL L).drop (i * 64)).take (u8s l).length = u8s l := by
  have hl : l ∈ L := List.mem_of_getElem? hi
  rw [u8s_length, h l hl]
  exact flat_get (m := 64) _ i _ (by simpa using h) (by simp [hi])

/-- A sector as it was last written. -/
def now (P : List (Nat × List Int)) (n : Nat) (l : List Int) : List Int := P.foldl (fun b p => if p.1 = n then p.2 else b) l
theorem now_none (P : List (Nat × List Int)) (n : Nat) (l : List Int) (h : ∀ (j : Nat) (p : Nat × List Int), P[j]? = some p → p.1 ≠ n) : now P n l = l := by
  induction P generalizing l with
  | nil => rfl
  | cons a r ih =>
    have ha : a.1 ≠ n := h 0 a (by simp)
    simp only [now, List.foldl_cons, if_neg ha]
    exact ih l (fun j p hj => h (j + 1) p (by simpa using hj))
theorem now_last (P : List (Nat × List Int)) (n k : Nat) (l : List Int) (p : Nat × List Int) (hk : P[k]? = some p) (hp : p.1 = n) (h : ∀ (j : Nat) (q : Nat × List Int), k < j → P[j]? = some q → q.1 ≠ n) : now P n l = p.2 := by
  have hlt := (List.getElem?_eq_some_iff.1 hk).1
  have e : P = P.take k ++ p :: P.drop (k + 1) := by
    obtain ⟨_, rfl⟩ := List.getElem?_eq_some_iff.1 hk
    rw [List.getElem_cons_drop, List.take_append_drop]
  have := now_none (P.drop (k + 1)) n p.2 (fun j q hj => h (k + 1 + j) q (by omega) (by rw [List.getElem?_drop] at hj; exact hj))
  rw [e]
  simp only [now, List.foldl_append, List.foldl_cons, if_pos hp]
  exact this
theorem now_64 (P : List (Nat × List Int)) (n : Nat) (l : List Int) (hl : l.length = 64) (h : ∀ p ∈ P, p.2.length = 64) : (now P n l).length = 64 := by
  induction P generalizing l with
  | nil => exact hl
  | cons a r ih =>
    simp only [now, List.foldl_cons]
    refine ih _ ?_ (fun p hp => h p (by simp [hp]))
    split
    · exact h a (by simp)
    · exact hl
section
variable {w : World} {bd : Nat} {D : Nat → Prop} {s : St}
/-- What Read answers. -/
def St.read (s : St) (n : Int) : List Int × Int :=
  if s.up = false then ([], 10) else if 0 ≤ n then (match s.L[n.toNat]? with | some l => (now s.P n.toNat l, 0) | none => ([], 11)) else ([], 11)
/-- An answer of bytes and an error, in new memory. -/
def Ans (w : World) (r : List Int × Int) (e : Ending) (w' : World) : Prop := ∃ v, e = .returned (.tuple #[v, .int .i64 r.2]) ∧ BytesIn w' (New w) v r.1 ∧ Fr No w w'
theorem bytes_nil (w : World) (E : Nat → Prop) : BytesIn w E (.slice none 0 0) [] := ⟨none, 0, 0, rfl, rfl, Nat.le_refl _, .inl rfl⟩
theorem St.read_no {s : St} {n : Int} (hu : s.up = true) (hn : ¬ (0 ≤ n ∧ n < s.L.length)) : s.read n = ([], 11) := by
  unfold St.read
  rw [if_neg (by simp [hu])]
  split
  · rw [List.getElem?_eq_none (by omega)]
  · rfl
theorem own_range {w : World} {t : TypeId} {g cap : Nat} {P : List (Nat × List Int)} {base : Nat} (h : w.ownsRow base t 65 (.slice (some ⟨g, 0, none⟩) P.length cap) P.length (rowsP P)) (hp : ∀ p ∈ P, p.2.length = 64) {k : Nat} {p : Nat × List Int} (hk : P[k]? = some p) :
    w.cell? ⟨g, k * 65, none⟩ = some (.int .i64 p.1) ∧ w.rangeAt g (k * 65 + 1) (u8s p.2) := by
  have hc := h.cells (g := g) rfl
  have hg := flat_get (m := 65) (P.map fun p => Value.int .i64 (p.1 : Int) :: u8s p.2) k (.int .i64 p.1 :: u8s p.2) (by intro l hl; obtain ⟨p, hp', rfl⟩ := List.mem_map.1 hl; simp [hp p hp']) (by simp [hk])
  have hp64 := hp p (List.mem_of_getElem? hk)
  have key : ∀ j v, (Value.int .i64 (p.1 : Int) :: u8s p.2)[j]? = some v → w.cell? ⟨g, k * 65 + j, none⟩ = some v := by
    intro j v hj
    have hlt : j < 65 := by have := (List.getElem?_eq_some_iff.1 hj).1; simpa [hp64] using this
    rw [← hg, List.getElem?_take, if_pos hlt, List.getElem?_drop] at hj
    have := hc _ v hj
    rwa [Addr.add_mid, Nat.zero_add] at this
  exact ⟨key 0 _ rfl, fun j v hj => by have := key (j + 1) v (by simpa using hj); rwa [show k * 65 + (j + 1) = k * 65 + 1 + j by omega] at this⟩

theorem zero74 (w : World) : (zeroValue 102).run Tryz.prog w = .ok (.agg zero64.toArray) w := by kernel_rfl

set_option maxRecDepth 100000 in
theorem written_any (i : Nat) (l : List Int) (h : At w bd D s) (hi : s.L[i]? = some l) : Calls Tryz.prog 90 #[.pointer (some ⟨bd, 0, none⟩), .int .i64 i] w fun e w' =>
    e = .returned (.agg (u8s (now s.P i l)).toArray) ∧ Fr No w w' := by
  have hm := h.ok.n1
  have hlt : i < s.L.length := (List.getElem?_eq_some_iff.1 hi).1
  have h' := h
  obtain ⟨ok, bl, pv, h1, h2, h3, h4, h5, h6, h7, h8⟩ := h'
  have c0 : w.cell? ⟨bd, 0, none⟩ = some _ := h1.cell 0
  have c1 : w.cell? ⟨bd, 1, none⟩ = some pv := h1.cell 1
  have hb := h1.lt
  have hr := h2.range _ _ (getU8 ok.sec hi)
  have h64 := ok.sec l (List.mem_of_getElem? hi)
  have p64 : ∀ p ∈ s.P, p.2.length = 64 := fun p hp => (ok.pnd p hp).2
  have HL := hid hi
  clear hi
  rcases h3.2 with ⟨rfl, hn⟩ | ⟨g, cap, cur, rfl, hx1, hx2, hl1, hl2, hx3⟩
  · have hp0 : s.P = [] := List.length_eq_zero_iff.1 hn
    rw [hp0]
    have HR := hid hr
    have H64 := hid h64
    clear h h1 h2 h3 h5 hr h64 ok h4 h6 h7 h8 p64 hn hp0
    go_enter Tryz.func90, Tryz.ntmps90
    go_wp2_with ((with_reducible show wpList _ _ _ (⟨_, .alloc 102, _, _, _, _⟩ :: _) _ _); refine wpL_alloc rfl _ rfl _ zero74 zero64 rfl ?_; intro w1 HB HF HS; replace c0 := HF.out.cell c0 id; replace c1 := HF.out.cell c1 id)
    go_loop [5] (fun v => v = .int .i64 (-1)) (fun _ => 0)
    case atStart => rfl
    case round =>
      obtain rfl := hrel
      go_wp2_with (first
        | ((with_reducible show wpList _ _ _ (⟨_, .load 102 _, _, _, _, _⟩ :: _) _ _); refine wpL_load rfl _ _ rfl bl (i * 64) rfl (u8s l) _ (HF.out.range HR.out id) rfl rfl (by rw [u8s_length, H64.out]; exact info74) ?_)
        | ((with_reducible show wpList _ _ _ (⟨_, .store 102 _ _, _, _, _, _⟩ :: _) _ _); refine wpL_store rfl _ _ _ rfl w.heap.size 0 (u8s l) rfl rfl _ _ HB.out (by simp [H64.out, zero64]) (by rw [u8s_length, H64.out]; exact info74) (u8s_one l) ?_; intro w2 HB2 HF2 HS2))
      have e : spl zero64 0 (u8s l) = u8s l := by
        have : (u8s l).length = 64 := by simp [H64.out]
        simp [spl, this, zero64]
      have HB3 := HB2.out
      rw [e] at HB3
      refine ret_cell rfl _ rfl HB3 rfl rfl (by rw [u8s_length, H64.out]; exact info74) rfl ?_
      exact ⟨rfl, HF.out.trans HF2.out (fun k hk => .inr (by rw [hk]; exact Nat.le_refl _))⟩
  · have hpl : s.P.length ≤ maxLen := Nat.le_trans hl1 hl2
    unfold maxLen at hpl
    have HR := hid hr
    have H3 := hid h3
    have H64 := hid h64
    have P64 := hid p64
    clear h h1 h2 h3 h5 hr hl2 h64 hx1 hx2 hx3 ok h4 h6 h7 h8 p64
    go_enter Tryz.func90, Tryz.ntmps90
    go_wp2_with ((with_reducible show wpList _ _ _ (⟨_, .alloc 102, _, _, _, _⟩ :: _) _ _); refine wpL_alloc rfl _ rfl _ zero74 zero64 rfl ?_; intro w1 HB HF HS; replace c0 := HF.out.cell c0 id; replace c1 := HF.out.cell c1 id)
    go_loop [5] (fun v => ∃ k : Nat, k ≤ s.P.length ∧ v = .int .i64 ((k : Int) - 1) ∧ ∀ (j : Nat) (q : Nat × List Int), k ≤ j → s.P[j]? = some q → q.1 ≠ i) (fun v => (intOf v + 1).toNat)
    case atStart => exact ⟨s.P.length, Nat.le_refl _, by go_num, fun j q hj hq => by have := (List.getElem?_eq_some_iff.1 hq).1; omega⟩
    case round =>
      obtain ⟨k, hk, rfl, hno⟩ := hrel
      have HN := hid hno; clear hno
      by_cases hk0 : k = 0
      · subst hk0
        go_wp2_with (first
          | ((with_reducible show wpList _ _ _ (⟨_, .load 102 _, _, _, _, _⟩ :: _) _ _); refine wpL_load rfl _ _ rfl bl (i * 64) rfl (u8s l) _ (HF.out.range HR.out id) rfl rfl (by rw [u8s_length, H64.out]; exact info74) ?_)
          | ((with_reducible show wpList _ _ _ (⟨_, .store 102 _ _, _, _, _, _⟩ :: _) _ _); refine wpL_store rfl _ _ _ rfl w.heap.size 0 (u8s l) rfl rfl _ _ HB.out (by simp [H64.out, zero64]) (by rw [u8s_length, H64.out]; exact info74) (u8s_one l) ?_; intro w2 HB2 HF2 HS2))
        have e : spl zero64 0 (u8s l) = u8s l := by
          have : (u8s l).length = 64 := by simp [H64.out]
          simp [spl, this, zero64]
        have HB3 := HB2.out
        rw [e] at HB3
        refine ret_cell rfl _ rfl HB3 rfl rfl (by rw [u8s_length, H64.out]; exact info74) rfl ?_
        rw [now_none _ _ _ (fun j q => HN.out j q (by omega))]
        exact ⟨rfl, HF.out.trans HF2.out (fun k hk => .inr (by rw [hk]; exact Nat.le_refl _))⟩
      · obtain ⟨m, rfl⟩ := Nat.exists_eq_succ_of_ne_zero hk0
        obtain ⟨p, hp⟩ : ∃ p, s.P[m]? = some p := ⟨s.P[m], List.getElem?_eq_getElem (by omega)⟩
        obtain ⟨cp, rp⟩ := own_range H3.out P64.out hp
        have hp64 := P64.out p (List.mem_of_getElem? hp)
        replace cp := HF.out.cell cp id
        have RP := hid (HF.out.range rp id)
        have HP := hid hp
        have HP64 := hid hp64
        clear rp hp hp64
        have hml : m < s.P.length := by omega
        have hm0 : (0 : Int) ≤ m := by omega
        rw [show ((m.succ : Nat) : Int) - 1 = m by omega]
        clear hk0
        by_cases hpi : p.1 = i
        · have t1 : ((p.1 : Int) == (i : Int)) = true := by simp [hpi]
          have HI := hid hpi; clear hpi
          go_wp2_with (first
            | ((with_reducible show wpList _ _ _ (⟨_, .load 102 _, _, _, _, _⟩ :: _) _ _); refine wpL_load rfl _ _ rfl g (m * 65 + 1) rfl (u8s p.2) _ RP.out rfl rfl (by rw [u8s_length, HP64.out]; exact info74) ?_)
            | ((with_reducible show wpList _ _ _ (⟨_, .store 102 _ _, _, _, _, _⟩ :: _) _ _); refine wpL_store rfl _ _ _ rfl w.heap.size 0 (u8s p.2) rfl rfl _ _ HB.out (by simp [HP64.out, zero64]) (by rw [u8s_length, HP64.out]; exact info74) (u8s_one p.2) ?_; intro w2 HB2 HF2 HS2))
          have e : spl zero64 0 (u8s p.2) = u8s p.2 := by
            have : (u8s p.2).length = 64 := by simp [HP64.out]
            simp [spl, this, zero64]
          have HB3 := HB2.out
          rw [e] at HB3
          refine ret_cell rfl _ rfl HB3 rfl rfl (by rw [u8s_length, HP64.out]; exact info74) rfl ?_
          rw [now_last s.P i m l p HP.out HI.out (fun j q hj => HN.out j q (by omega))]
          exact ⟨rfl, HF.out.trans HF2.out (fun k hk => .inr (by rw [hk]; exact Nat.le_refl _))⟩
        · have t1 : ((p.1 : Int) == (i : Int)) = false := by simp; omega
          have HI := hid hpi; clear hpi
          go_wp2
          go_round
          case rel =>
            refine ⟨m, by omega, by go_num, fun j q hj hq => ?_⟩
            by_cases e : j = m
            · subst e; rw [HP.out] at hq; cases hq; exact HI.out
            · exact HN.out j q (by omega) hq
          case measure => simp [intOf]

theorem read_any (n : Int) (h : At w bd D s) : Calls Tryz.prog 67 #[.pointer (some ⟨bd, 0, none⟩), .int .i64 n] w (Ans w (s.read n)) := by
  obtain ⟨bl, pv, c0, c1, c2, c3⟩ := h.cells
  simp only [id] at c2
  cases hu : s.up with
  | false =>
    have e1 : s.read n = ([], 10) := by simp [St.read, hu]
    rw [e1]
    rw [hu] at c2
    clear h hu e1
    go_enter Tryz.func67, Tryz.ntmps67
    go_wp2
    go_ret2
    exact ⟨_, rfl, bytes_nil _ _, Fr.refl _ _⟩
  | true =>
    rw [hu] at c2
    have hh := has_any n h
    by_cases hn : 0 ≤ n ∧ n < s.L.length
    · rw [decide_eq_true hn] at hh
      obtain ⟨i, rfl⟩ := Int.eq_ofNat_of_zero_le hn.1
      obtain ⟨l, hl⟩ : ∃ l, s.L[i]? = some l := ⟨s.L[i]'(by omega), List.getElem?_eq_getElem (by omega)⟩
      have e1 : s.read i = (now s.P i l, 0) := by simp [St.read, hl, hu]
      rw [e1]
      have hw := written_any i l h hl
      have h64 : (now s.P i l).length = 64 := now_64 _ _ _ (h.ok.sec l (List.mem_of_getElem? hl)) (fun p hp => (h.ok.pnd p hp).2)
      have HH := hid hh
      have HW := hid hw
      have H64 := hid h64
      clear h hu hh hn hl e1 hw h64
      go_enter Tryz.func67, Tryz.ntmps67
      go_wp2_with (first
        | (go_at_call 88; refine HH.out.mono ?_; rintro e w' ⟨rfl, rfl⟩)
        | (go_at_call 90; refine HW.out.mono ?_; rintro e w1 ⟨rfl, hf1⟩; have HF1 := hid hf1; clear hf1)
        | (go_at_call 89; refine (bytesOf_any _ _ H64.out).mono ?_; rintro e w2 ⟨v, rfl, hv, hf⟩; have HF2 := hid hf; have HV := hid hv; clear hf hv))
      go_ret2
      refine ⟨v, rfl, ?_, HF1.out.trans' HF2.out⟩
      exact HV.out.mono fun k hk => Nat.le_trans HF1.out.size hk
    · rw [decide_eq_false hn] at hh
      rw [St.read_no hu hn]
      have HH := hid hh
      clear h hu hh hn
      go_enter Tryz.func67, Tryz.ntmps67
      go_wp2_with (go_at_call 88; refine HH.out.mono ?_; rintro e w' ⟨rfl, rfl⟩)
      go_ret2
      exact ⟨_, rfl, bytes_nil _ _, Fr.refl _ _⟩
end
end Go.Proofs.YtflfmkokfbgclaaGreat.D

namespace Go.Proofs.YtflfmkokfbgclaaGreat.D
set_option maxRecDepth 100000
open Go.RowKit K

def zeros : List Int := List.replicate 64 0
def St.new (n : Nat) : St := { L := List.replicate n zeros, P := [], up := true, left := -1 }
theorem new_ok {n : Nat} (h1 : 1 ≤ n) (h2 : n ≤ 4096) : (St.new n).Ok :=
  ⟨by simpa [St.new] using h1, by simpa [St.new] using h2, by intro l hl; obtain ⟨_, rfl⟩ := List.mem_replicate.1 (by simpa [St.new] using hl); rfl, by simp [St.new], by simp [St.new], by simp [St.new]⟩
theorem rows_new (n : Nat) : rowsL (St.new n).L = List.replicate (n * 64) (.int .u8 0) := by
  simp only [rowsL, St.new, u8s, zeros, List.map_replicate, List.flatten_replicate_replicate]
theorem info74z : (Tryz.prog.info? 102).map (fun i => (i.zero, i.size, i.bytes)) = some (some (.agg zero64.toArray), 64, 64) := by kernel_rfl

theorem new_yes (n : Nat) (w : World) (h1 : 1 ≤ n) (h2 : n ≤ 4096) : Calls Tryz.prog 13 #[.int .i64 n] w fun e w' =>
    ∃ bd D, e = .returned (.tuple #[.pointer (some ⟨bd, 0, none⟩), .int .i64 0]) ∧ At w' bd D (St.new n) ∧ (∀ k, D k → w.heap.size ≤ k) ∧ Fr No w w' := by
  obtain ⟨i, hi, hz0, hz1, hz2⟩ := info_parts info74z
  have HI := hid hi; have HZ0 := hid hz0; have HZ1 := hid hz1; have HZ2 := hid hz2
  clear hi hz0 hz1 hz2
  go_enter Tryz.func13, Tryz.ntmps13
  go_wp2_with (first
    | ((with_reducible show wpList _ _ _ (⟨_, .makeSlice 79 _ _, _, _, _, _⟩ :: _) _ _); refine wpL_make rfl _ _ _ rfl _ i _ (.int .u8 0) 64 rfl HI.out HZ0.out rfl (by decide) HZ1.out _ _ n rfl rfl (by rw [HZ2.out]; omega) (by unfold maxLen; omega) ?_; intro w1 HB HF HS)
    | (go_at_call 31; refine (store_any _ _ _ (.int .i64 0) _ (by simp) (by simp)).mono ?_; rintro e w' ⟨rfl, rfl⟩))
  go_ret2
  have B1 := Blk.new w1 87 [.slice (some ⟨w.heap.size, 0, none⟩) n n, .slice none 0 0, .bool true, .int .i64 (-1)]
  have B2 := HB.out.alloc (.cells #[.slice (some ⟨w.heap.size, 0, none⟩) n n, .slice none 0 0, .bool true, .int .i64 (-1)] 87)
  have hS := HS.out
  refine ⟨w1.heap.size, fun k => k = w1.heap.size ∨ k = w.heap.size, rfl, ⟨new_ok h1 h2, w.heap.size, .slice none 0 0, ?_, ?_, World.ownsRow_nil _ _ _ _, by omega, by simp [Value.ownBlock], .inl rfl, .inr rfl, ?_⟩, ?_, HF.out.alloc _⟩
  · simpa [St.new] using B1
  · rw [rows_new]; exact B2
  · intro k hk; simp; omega
  · intro k hk; omega
end Go.Proofs.YtflfmkokfbgclaaGreat.D

namespace Go.Proofs.YtflfmkokfbgclaaGreat.D
set_option maxRecDepth 100000
open Go.RowKit K

/-- 64 bytes: these, and noughts behind them. -/
def pad (bs : List Int) : List Int := bs ++ List.replicate (64 - bs.length) 0
theorem pad_length {bs : List Int} (h : bs.length ≤ 64) : (pad bs).length = 64 := by simp [pad]; omega
@[simp] theorem St.spend_P (s : St) : s.spend.2.P = s.P := by unfold St.spend; (repeat' split) <;> rfl
@[simp] theorem St.spend_L (s : St) : s.spend.2.L = s.L := by unfold St.spend; (repeat' split) <;> rfl
theorem rowsP_snoc (P : List (Nat × List Int)) (i : Nat) (l : List Int) : rowsP (P ++ [(i, l)]) = rowsP P ++ (.int .i64 i :: u8s l) := by simp [rowsP]
/-- What Write answers, and the disk behind it. -/
def St.write (s : St) (n : Int) (bs : List Int) : Int × St :=
  if s.up = false then (10, s) else if ¬ (0 ≤ n ∧ n < s.L.length) then (11, s) else if 64 < bs.length then (2, s)
  else if s.spend.1 = false then (10, s.spend.2) else (0, { s.spend.2 with P := s.P ++ [(n.toNat, pad bs)] })

section
variable {w : World} {bd : Nat} {D : Nat → Prop} {s : St}
/-- Write is refused ahead of the power. -/
theorem write_no (n : Int) (v : Value) (bs : List Int) (E : Nat → Prop) (hv : BytesIn w E v bs) (h : At w bd D s) (hno : s.up = false ∨ ¬ (0 ≤ n ∧ n < s.L.length) ∨ 64 < bs.length) :
    Calls Tryz.prog 85 #[.pointer (some ⟨bd, 0, none⟩), .int .i64 n, v] w fun e w' => e = .returned (.int .i64 (s.write n bs).1) ∧ (s.write n bs).2 = s ∧ w = w' := by
  obtain ⟨bl, pv, c0, c1, c2, c3⟩ := h.cells
  simp only [id] at c2
  obtain ⟨a, len, cap, rfl, hl, _⟩ := hv
  cases hu : s.up with
  | false =>
    have e1 : s.write n bs = (10, s) := by simp [St.write, hu]
    rw [e1]
    rw [hu] at c2
    clear h hu e1 hno hl
    go_enter Tryz.func85, Tryz.ntmps85
    go_wp2
    go_ret
    exact ⟨rfl, trivial, rfl⟩
  | true =>
    rw [hu] at c2
    have hh := has_any n h
    by_cases hn : 0 ≤ n ∧ n < s.L.length
    · rw [decide_eq_true hn] at hh
      have h64 : 64 < bs.length := by rcases hno with h | h | h; · simp [hu] at h
                                      · exact absurd hn h
                                      · exact h
      have e1 : s.write n bs = (2, s) := by simp [St.write, hu, hn, h64]
      rw [e1]
      have hlen : (64 : Int) < len := by omega
      have HH := hid hh
      clear h hu hh hn e1 hno hl h64
      go_enter Tryz.func85, Tryz.ntmps85
      go_wp2_with (go_at_call 88; refine HH.out.mono ?_; rintro e w' ⟨rfl, rfl⟩)
      go_ret
      exact ⟨rfl, trivial, rfl⟩
    · rw [decide_eq_false hn] at hh
      have e1 : s.write n bs = (11, s) := by simp [St.write, hu, hn]
      rw [e1]
      have HH := hid hh
      clear h hu hh hn e1 hno hl
      go_enter Tryz.func85, Tryz.ntmps85
      go_wp2_with (go_at_call 88; refine HH.out.mono ?_; rintro e w' ⟨rfl, rfl⟩)
      go_ret
      exact ⟨rfl, trivial, rfl⟩

/-- Write finds no power left. -/
theorem write_out (n : Int) (v : Value) (bs : List Int) (E : Nat → Prop) (hv : BytesIn w E v bs) (h : At w bd D s) (hu : s.up = true) (hn : 0 ≤ n ∧ n < s.L.length) (h64 : bs.length ≤ 64) (hs : s.spend.1 = false) :
    Calls Tryz.prog 85 #[.pointer (some ⟨bd, 0, none⟩), .int .i64 n, v] w fun e w' => e = .returned (.int .i64 (s.write n bs).1) ∧ At w' bd D (s.write n bs).2 ∧ Fr D w w' := by
  obtain ⟨bl, pv, c0, c1, c2, c3⟩ := h.cells
  simp only [id] at c2
  obtain ⟨a, len, cap, rfl, hl, _⟩ := hv
  rw [hu] at c2
  have hh := has_any n h
  rw [decide_eq_true hn] at hh
  have e1 : s.write n bs = (10, s.spend.2) := by simp [St.write, hu, hn, Nat.not_lt.2 h64, hs]
  rw [e1]
  have hsp := spend_any h
  rw [hs] at hsp
  have hlen : ¬ (64 : Int) < len := by omega
  have HH := hid hh; have HS := hid hsp
  clear h hu hh hn e1 hsp hl h64 hs
  go_enter Tryz.func85, Tryz.ntmps85
  go_wp2_with (first
    | (go_at_call 88; refine HH.out.mono ?_; rintro e w' ⟨rfl, rfl⟩)
    | (go_at_call 97; refine HS.out.mono ?_; rintro e w1 ⟨rfl, hA, hF⟩; have HA := hid hA; have HF := hid hF; clear hA hF))
  go_ret
  exact ⟨rfl, HA.out, HF.out⟩

theorem zero77 (w : World) : (zeroValue 104).run Tryz.prog w = .ok (.agg (.int .i64 0 :: zero64).toArray) w := by kernel_rfl
theorem build77 (n : Int) (w : World) : (Instr.build 104 #[(0, .int .i64 n)]).run Tryz.prog w = .ok (.agg (.int .i64 n :: zero64).toArray) w := by kernel_rfl
theorem info77 : (Tryz.prog.info? 104).map (·.size) = some 65 := by kernel_rfl
theorem info77z : (Tryz.prog.info? 104).map (fun i => (i.zero, i.size, i.bytes)) = some (some (.agg (.int .i64 0 :: zero64).toArray), 65, 72) := by kernel_rfl

theorem write_yes (i : Nat) (v : Value) (bs : List Int) (E : Nat → Prop) (hv : BytesIn w E v bs) (hE : ∀ k, E k → ¬ D k) (h : At w bd D s) (hu : s.up = true) (hn : i < s.L.length) (h64 : bs.length ≤ 64) (hs : s.spend.1 = true) (hp : s.P.length < 1000000) :
    Calls Tryz.prog 85 #[.pointer (some ⟨bd, 0, none⟩), .int .i64 i, v] w fun e w' => e = .returned (.int .i64 (s.write i bs).1) ∧ ∃ D', At w' bd D' (s.write i bs).2 ∧ Fr D w w' ∧ Grows w D D' := by
  obtain ⟨bl, pv, c0, c1, c2, c3⟩ := h.cells
  simp only [id] at c2
  rw [hu] at c2
  have hh := has_any i h
  rw [decide_eq_true (show 0 ≤ (i : Int) ∧ (i : Int) < s.L.length by omega)] at hh
  have e1 : s.write i bs = (0, { s.spend.2 with P := s.P ++ [(i, pad bs)] }) := by simp [St.write, hu, hn, Nat.not_lt.2 h64, hs]
  rw [e1]
  have hsp := spend_any h
  rw [hs] at hsp
  obtain ⟨a, len, cap, rfl, hl, -, hsrc⟩ := id hv
  have hlen : ¬ (64 : Int) < len := by omega
  have HH := hid hh; have HS := hid hsp; have HV := hid hv; have HL := hid hl; have H64 := hid h64; have HE := hid hE; have HN := hid hn
  clear hv h hu hh hn e1 hsp hl h64 hs c0 c1 c3 hsrc hE
  go_enter Tryz.func85, Tryz.ntmps85
  go_wp2_with (first
    | (go_at_call 88; refine HH.out.mono ?_; rintro e w' ⟨rfl, rfl⟩)
    | (go_at_call 97; refine HS.out.mono ?_; rintro e w1 ⟨rfl, hA, hF⟩; have HA := hid hA; have HF := hid hF; clear hA hF)
    | ((with_reducible show wpList _ _ _ (⟨_, .build 104 _, _, _, _, _⟩ :: _) _ _); refine wpL_build rfl _ _ rfl _ (build77 _ _) ?_)
    | ((with_reducible show wpList _ _ _ (⟨_, .alloc 104, _, _, _, _⟩ :: _) _ _); refine wpL_alloc rfl _ rfl _ zero77 (.int .i64 0 :: zero64) rfl ?_; intro w2 HB2 HF2 HS2)
    | ((with_reducible show wpList _ _ _ (⟨_, .store 104 _ _, _, _, _, _⟩ :: _) _ _); refine wpL_store rfl _ _ _ rfl w1.heap.size 0 (.int .i64 i :: zero64) rfl rfl _ _ HB2.out (by simp [zero64]) (by rw [info77]; rfl) (by simp [zero64, Value.oneCell']) ?_; intro w3 HB3 HF3 HS3)
    | ((with_reducible show wpList _ _ _ (⟨_, .call { callee := .builtin .copy, args := _, argTypes := _ }, _, _, _, _⟩ :: _) _ _); refine wpL_copyB rfl _ _ _ _ rfl 5 rfl info8 _ _ _ _ _ _ _ rfl rfl 104 (spl (.int .i64 0 :: zero64) 0 (.int .i64 i :: zero64)) HB3.out (u8s bs) ?_ ?_ ?_ (u8s_one bs) ?_; rotate_right; intro w4 HB4 HF4 HS4))
  · have hA4 : At w4 bd D s.spend.2 := ((HA.out.no HF2.out).fr HF3.out (fun k hk e => by have := HA.out.lt k hk; omega)).fr HF4.out (fun k hk e => by have := HA.out.lt k hk; omega)
    have hB4 : Blk w4 w1.heap.size 104 (.int .i64 i :: u8s (pad bs)) := by
      have e1 : spl (.int .i64 0 :: zero64) 0 (.int .i64 i :: zero64) = .int .i64 i :: zero64 := rfl
      have e2 : spl (.int .i64 i :: zero64) 1 (u8s bs) = .int .i64 i :: u8s (pad bs) := by
        have := H64.out
        simp only [spl, zero64, pad, u8s, List.map_append, List.map_replicate, List.take_succ_cons, List.take_zero, List.cons_append, List.nil_append, List.length_map, Nat.add_comm 1, List.drop_succ_cons, List.drop_replicate]
      have := HB4.out
      rwa [e1, e2] at this
    have hbw : w1.heap.size < w4.heap.size := hB4.lt
    obtain ⟨ok, bl4, pv4, h1, h2, h3, h4, h5, h6, h7, h8⟩ := hA4
    have c1 : w4.cell? ⟨bd, 1, none⟩ = some pv4 := h1.cell 1
    have r1 : w4.rangeAt w1.heap.size 0 (.int .i64 i :: u8s (pad bs)) := hB4.range 0 _ (by rw [List.drop_zero, List.take_length])
    have hold : Facts.hold [(4, fun w' => w'.cell? ⟨bd, 1, none⟩ = some pv4), (5, fun w' => w'.rangeAt w1.heap.size 0 (.int .i64 i :: u8s (pad bs)))] w4.drew := Facts.cons_hold c1 (Facts.cons_hold r1 (Facts.nil_hold _))
    refine wpD_region hold (by kernel_rfl) 11 rfl ?_
    (refine wpD_plain 0 (v := ?_) rfl (by kernel_rfl) (by kernel_rfl) (by kernel_rfl) (fun _ _ _ h => h) (by rfl) ?_ (by assumption) ?_; rotate_left; (intro _w; go_simp; try with_reducible rfl); simp only [Act.put, List.setIfInBounds_toArray, List.set_cons_zero, List.set_cons_succ])
    (refine wpD_plain 1 (v := ?_) rfl (by kernel_rfl) (by kernel_rfl) (by kernel_rfl) (fun _ _ _ h => h) (by rfl) ?_ (by assumption) ?_; rotate_left; (intro _w; go_simp; try with_reducible rfl); simp only [Act.put, List.setIfInBounds_toArray, List.set_cons_zero, List.set_cons_succ])
    (refine wpD_plain 2 (v := ?_) rfl (by kernel_rfl) (by kernel_rfl) (by kernel_rfl) (fun _ _ _ h => h) (by rfl) ?_ (by assumption) ?_; rotate_left; (intro _w; go_simp; try with_reducible rfl); simp only [Act.put, List.setIfInBounds_toArray, List.set_cons_zero, List.set_cons_succ])
    (refine wpD_plain 3 (v := ?_) rfl (by kernel_rfl) (by kernel_rfl) (by kernel_rfl) (fun _ _ _ h => h) (by rfl) ?_ (by assumption) ?_; rotate_left; (intro _w; go_simp; try with_reducible rfl); simp only [Act.put, List.setIfInBounds_toArray, List.set_cons_zero, List.set_cons_succ])
    refine wpD_take 4 _ rfl (by kernel_rfl) (by kernel_rfl) (by kernel_rfl) (fun _ _ _ h => h) List.mem_cons_self (by rfl) (v := ?_) ?_ hold ?_
    rotate_left
    · intro w hw
      go_simp
      with_reducible rfl
    simp only [Act.put, List.setIfInBounds_toArray, List.set_cons_zero, List.set_cons_succ]
    refine wpD_take 5 _ rfl (by kernel_rfl) (by kernel_rfl) (by kernel_rfl) (fun _ _ _ h => h) (List.mem_cons_of_mem _ List.mem_cons_self) (by rfl) (exec_load _ _ rfl w1.heap.size 0 rfl _ _ rfl rfl (by simp [pad_length H64.out, info77])) hold ?_
    simp only [Act.put, List.setIfInBounds_toArray, List.set_cons_zero, List.set_cons_succ]
    obtain ⟨i77, hi77, hz77, hs77, hb77⟩ := info_parts info77z
    refine wpD_only 6 [(4, fun w' => w'.cell? ⟨bd, 1, none⟩ = some pv4)] rfl (by kernel_rfl) (by kernel_rfl) (by rfl) (fun K6 hK6 => ?_)
    refine wp_buildOne _ 104 _ rfl i77 _ rfl hi77 hz77 (by rw [hs77]; decide) (by rw [hs77]; decide) _ (.int .i64 i :: u8s (pad bs)) rfl rfl (by rw [hs77]; simp [pad_length H64.out]) ?_
    intro w5 HB5 HF5 HS5
    have c5 : w5.cell? ⟨bd, 1, none⟩ = some pv4 := HF5.out.cell (w := w4.drew) c1 id
    refine hK6 _ _ (Facts.cons_hold c5 (Facts.nil_hold _)) ?_
    clear hK6 K6
    simp only [Act.put, List.setIfInBounds_toArray, List.set_cons_zero, List.set_cons_succ]
    have hlt5 : ∀ k, D k → k < w4.heap.size := h8
    have own5 : w5.ownsRow 0 104 65 pv4 s.spend.2.P.length (rowsP s.spend.2.P) := own_fr (w := w4.drew) h3 HF5.out (fun k _ e => e)
    have hsz5 := HS5.out
    have B5 : Blk w5 bd _ _ := h1.fr (w := w4.drew) HF5.out id
    have Bl5 : Blk w5 bl4 _ _ := h2.fr (w := w4.drew) HF5.out id
    have hpl : s.spend.2.P.length = s.P.length := by rw [St.spend_P]
    refine wpD_only 7 [] rfl (by kernel_rfl) (by kernel_rfl) (by rfl) (fun K7 hK7 => ?_)
    refine wp_append_lies w5 _ _ _ rfl 0 104 i77 _ 65 72 rfl hi77 hz77 hs77 hb77 rfl (by decide) pv4 s.spend.2.P.length (rowsP s.spend.2.P) rfl own5 ⟨w4.drew.heap.size, 0, none⟩ 1 1 (.int .i64 i :: u8s (pad bs)) rfl (by simp [pad_length H64.out]) HB5.out.news
      (by intro u hu; rcases List.mem_cons.1 hu with rfl | hu; · rfl
          · exact u8s_one _ u hu) (by decide) (by unfold maxLen; omega) (by omega) (Nat.zero_le _) _ rfl ?_
    intro g cap6 w6 own6 gr6 hat6 hlt6
    have hbd6 : some bd ≠ pv4.ownBlock := fun e => (h5 bd e.symm).1 rfl
    have hbl6 : some bl4 ≠ pv4.ownBlock := fun e => (h5 bl4 e.symm).2.1 rfl
    have B6 := B5.grown gr6 hbd6
    have Bl6 := Bl5.grown gr6 hbl6
    have hold6 : Facts.hold [] w6 := Facts.nil_hold w6
    refine hK7 _ _ hold6 ?_
    clear hK7 K7
    simp only [Act.put, List.setIfInBounds_toArray, List.set_cons_zero, List.set_cons_succ]
    (refine wpD_plain 8 (v := ?_) rfl (by kernel_rfl) (by kernel_rfl) (by kernel_rfl) (fun _ _ _ h => h) (by rfl) ?_ (by assumption) ?_; rotate_left; (intro _w; go_simp; try with_reducible rfl); simp only [Act.put, List.setIfInBounds_toArray, List.set_cons_zero, List.set_cons_succ])
    (refine wpD_plain 9 (v := ?_) rfl (by kernel_rfl) (by kernel_rfl) (by kernel_rfl) (fun _ _ _ h => h) (by rfl) ?_ (by assumption) ?_; rotate_left; (intro _w; go_simp; try with_reducible rfl); simp only [Act.put, List.setIfInBounds_toArray, List.set_cons_zero, List.set_cons_succ])
    have c6 : w6.cell? ⟨bd, 1, none⟩ = some pv4 := B6.cell 1
    have f6 : w6.frozen? ⟨bd, 1, none⟩ = false := B6.frozen 1
    have HO6 := hid own6; have HA6 := hid hat6; have HX := hid h5; have HB6 := hid B6; have HBl6 := hid Bl6; have HG6 := hid gr6
    clear own6 hat6 h5 B6 Bl6 B5 Bl5 own5 h1 h2 h3 hbd6 hbl6 hsz5 hpl gr6 c1 c5 hB4 r1 hold
    refine wpD_only 10 [] rfl (by kernel_rfl) (by kernel_rfl) (by rfl) (fun K8 hK8 => ?_)
    go_simp
    refine hK8 _ _ (Facts.nil_hold _) ?_
    refine wpD_done (by kernel_rfl) ?_ _
    clear hK8 K8
    go_wp2
    go_ret
    have hD5 : ∀ k, D k → k < w5.heap.size := fun k hk => Nat.lt_of_lt_of_le (hlt5 k hk) HF5.out.size
    have hg : (g ≠ bd ∧ g ≠ bl4) ∧ (D g ∨ w.heap.size ≤ g) := by
      rcases HA6.out with h | h
      · obtain ⟨x, y, z⟩ := HX.out g h
        exact ⟨⟨x, y⟩, .inl z⟩
      · have := hD5 bd h6
        have := hD5 bl4 h7
        have s1 := HF.out.size
        have s2 := HF2.out.size
        have s3 := HF3.out.size
        have s4 := HF4.out.size
        have s5 : w4.heap.size ≤ w5.heap.size := HF5.out.size
        exact ⟨⟨by omega, by omega⟩, .inr (by omega)⟩
    have hn1 : ∀ k, k = w1.heap.size → D k ∨ w.heap.size ≤ k := fun k hk => .inr (by have := HF.out.size; omega)
    have own7 := HO6.out
    rw [St.spend_P, ← rowsP_snoc] at own7
    refine ⟨rfl, fun k => D k ∨ k = g, ⟨⟨ok.1, ok.2, ok.3, ?_, ok.5, ok.6⟩, bl4, _, HB6.out.set 1 _, HBl6.out.set_other _ _ (Ne.symm h4), own_set (by simpa using own7) ?_, h4, ?_, .inl h6, .inl h7, ?_⟩, ?_, ?_⟩
    · intro p hp
      rcases List.mem_append.1 hp with hp | hp
      · exact ok.4 p (by rw [St.spend_P]; exact hp)
      · obtain rfl := List.mem_singleton.1 hp
        exact ⟨by simpa using HN.out, pad_length H64.out⟩
    · intro k hk; simp [Value.ownBlock] at hk; subst hk; exact hg.1.1
    · intro k hk; simp [Value.ownBlock] at hk; subst hk; exact ⟨hg.1.1, hg.1.2, .inr rfl⟩
    · intro k hk
      simp only [World.size_setCell]
      rcases hk with hk | hk
      · have := hD5 k hk; have := HG6.out.size; omega
      · omega
    · exact ((((((HF.out.trans' HF2.out.no).trans HF3.out hn1).trans HF4.out hn1).drew.trans' HF5.out.no).grown HG6.out (fun k hk => .inl (HX.out k hk.symm.symm).2.2)).setCell _ _ (.inl h6))
    · intro k hk
      rcases hk with hk | hk
      · exact .inl hk
      · subst hk; exact hg.2
  · rw [u8s_length, HL.out]; exact (Nat.min_eq_left (by have := HL.out; have := H64.out; omega)).symm
  · have hw1 : ∀ k, E k → k < w.heap.size → k < w1.heap.size := fun k _ hk => Nat.lt_of_lt_of_le hk HF.out.size
    obtain ⟨a', len', cap', e1, e2, -, e3⟩ := HV.out
    simp only [Value.slice.injEq] at e1
    obtain ⟨rfl, rfl, rfl⟩ := e1
    rcases e3 with e3 | ⟨g, o, rfl, hg, hgl, hr⟩
    · exact .inl (by rw [u8s_length, e2, e3])
    · refine .inr ⟨_, rfl, range_loads (HF3.out.range (HF2.out.range (HF.out.range hr (HE.out g hg)) id) (fun e => ?_))⟩
      have := hw1 g hg hgl
      have e' : g = w1.heap.size := e
      omega
  · have := H64.out; simp [spl_length, zero64]; omega
end
end Go.Proofs.YtflfmkokfbgclaaGreat.D
