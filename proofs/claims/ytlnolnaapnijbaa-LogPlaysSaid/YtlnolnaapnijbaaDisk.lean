/-
  The disk as both programs have it (St), how it lies in memory (Rep), and the contracts of the small functions of package disk.
-/
import Derived.Test.YtlnolnaapnijbaaRows
import Derived.Test.YtlnolnaapnijbaaKit
namespace Go.Proofs.Ytlnolnaapnijbaa.D
set_option maxRecDepth 100000
open Go.RowKit K

structure St where
  L : List (List Int)
  P : List (Nat × List Int)
  up : Bool
  left : Int

structure St.Ok (s : St) : Prop where
  n0 : 1 ≤ s.L.length
  n1 : s.L.length ≤ 4096
  sec : ∀ l ∈ s.L, l.length = 64
  pnd : ∀ p ∈ s.P, p.1 < s.L.length ∧ p.2.length = 64
  left0 : -1 ≤ s.left
  left1 : s.left ≤ 9223372036854775807

def u8s (l : List Int) : List Value := l.map (Value.int .u8)
def rowsL (L : List (List Int)) : List Value := (L.map u8s).flatten
def rowsP (P : List (Nat × List Int)) : List Value := (P.map fun p => Value.int .i64 (p.1 : Int) :: u8s p.2).flatten
@[simp] theorem u8s_length (l : List Int) : (u8s l).length = l.length := by simp [u8s]
theorem rowsL_length {L : List (List Int)} (h : ∀ l ∈ L, l.length = 64) : (rowsL L).length = L.length * 64 := by
  unfold rowsL; rw [flat_length (m := 64) _ (by simpa using h)]; simp
theorem rowsP_length {P : List (Nat × List Int)} (h : ∀ p ∈ P, p.2.length = 64) : (rowsP P).length = P.length * 65 := by
  unfold rowsP
  rw [flat_length (m := 65) _ (by intro l hl; obtain ⟨p, hp, rfl⟩ := List.mem_map.1 hl; simp [h p hp])]
  simp

theorem own_set {w : World} {base : Nat} {e : TypeId} {size : Nat} {v : Value} {n : Nat} {xs : List Value} (h : w.ownsRow base e size v n xs) {p : Addr} (hp : ∀ k, v.ownBlock = some k → k ≠ p.block) {u : Value} : (w.setCell p u).ownsRow base e size v n xs :=
  h.kept (row := some p.block) ⟨rfl, rfl, rfl, by simp, fun k _ hn => Below.heap_setCell _ _ _ _ (fun e => hn (by rw [e]))⟩ (by
    cases hv : v.ownBlock with
    | none => exact .inl rfl
    | some k => exact .inr (fun e => hp k hv (by simpa using e)))

/-- A disk (td, tl, tp: the types of the struct, a sector, a write; f: how the flag is kept) in block bd; all its blocks lie in D. -/
def Rep (td tl tp : TypeId) (f : Bool → Bool) (w : World) (bd : Nat) (D : Nat → Prop) (s : St) : Prop :=
  s.Ok ∧ ∃ bl pv, Blk w bd td [.slice (some ⟨bl, 0, none⟩) s.L.length s.L.length, pv, .bool (f s.up), .int .i64 s.left] ∧ Blk w bl tl (rowsL s.L) ∧
    w.ownsRow 0 tp 65 pv s.P.length (rowsP s.P) ∧ bd ≠ bl ∧ (∀ k, pv.ownBlock = some k → k ≠ bd ∧ k ≠ bl ∧ D k) ∧ D bd ∧ D bl ∧ (∀ k, D k → k < w.heap.size)
abbrev At := Rep 78 117 119 id

theorem Rep.fr {td tl tp : TypeId} {f : Bool → Bool} {w w' : World} {bd : Nat} {D E : Nat → Prop} {s : St} (h : Rep td tl tp f w bd D s) (hf : Fr E w w') (hd : ∀ k, D k → ¬ E k) : Rep td tl tp f w' bd D s := by
  obtain ⟨ok, bl, pv, h1, h2, h3, h4, h5, h6, h7, h8⟩ := h
  refine ⟨ok, bl, pv, h1.fr hf (hd _ h6), h2.fr hf (hd _ h7), ⟨h3.1, ?_⟩, h4, h5, h6, h7, fun k hk => Nat.lt_of_lt_of_le (h8 k hk) hf.size⟩
  rcases h3.2 with hn | ⟨g, cap, cur, hv, hb, hg, r⟩
  · exact .inl hn
  · refine .inr ⟨g, cap, cur, hv, hb, ?_, r⟩
    obtain ⟨_, _, hgd⟩ := h5 g (by rw [hv]; rfl)
    rw [hf.block g (h8 g hgd) (hd g hgd)]; exact hg
theorem Rep.no {td tl tp : TypeId} {f : Bool → Bool} {w w' : World} {bd : Nat} {D : Nat → Prop} {s : St} (h : Rep td tl tp f w bd D s) (hf : Fr No w w') : Rep td tl tp f w' bd D s := h.fr hf fun _ _ e => e
theorem Rep.setUp {td tl tp : TypeId} {f : Bool → Bool} {w : World} {bd : Nat} {D : Nat → Prop} {s : St} (h : Rep td tl tp f w bd D s) (u : Bool) :
    Rep td tl tp f (w.setCell ⟨bd, 2, none⟩ (.bool (f u))) bd D { s with up := u } := by
  obtain ⟨ok, bl, pv, h1, h2, h3, h4, h5, h6, h7, h8⟩ := h
  exact ⟨⟨ok.1, ok.2, ok.3, ok.4, ok.5, ok.6⟩, bl, pv, h1.set 2 _, h2.set_other _ _ (Ne.symm h4), own_set h3 (fun k hk => (h5 k hk).1), h4, h5, h6, h7, by simpa using h8⟩
theorem Rep.setLeft {td tl tp : TypeId} {f : Bool → Bool} {w : World} {bd : Nat} {D : Nat → Prop} {s : St} (h : Rep td tl tp f w bd D s) (n : Int) (n0 : -1 ≤ n) (n1 : n ≤ 9223372036854775807) :
    Rep td tl tp f (w.setCell ⟨bd, 3, none⟩ (.int .i64 n)) bd D { s with left := n } := by
  obtain ⟨ok, bl, pv, h1, h2, h3, h4, h5, h6, h7, h8⟩ := h
  exact ⟨⟨ok.1, ok.2, ok.3, ok.4, n0, n1⟩, bl, pv, h1.set 3 _, h2.set_other _ _ (Ne.symm h4), own_set h3 (fun k hk => (h5 k hk).1), h4, h5, h6, h7, by simpa using h8⟩
theorem Rep.setNil {td tl tp : TypeId} {f : Bool → Bool} {w : World} {bd : Nat} {D : Nat → Prop} {s : St} (h : Rep td tl tp f w bd D s) :
    Rep td tl tp f (w.setCell ⟨bd, 1, none⟩ (.slice none 0 0)) bd D { s with P := [] } := by
  obtain ⟨ok, bl, pv, h1, h2, h3, h4, h5, h6, h7, h8⟩ := h
  exact ⟨⟨ok.1, ok.2, ok.3, by simp, ok.5, ok.6⟩, bl, .slice none 0 0, h1.set 1 _, h2.set_other _ _ (Ne.symm h4), World.ownsRow_nil _ _ _ _, h4, fun k hk => by simp [Value.ownBlock] at hk, h6, h7, by simpa using h8⟩
theorem Rep.dst {td tl tp : TypeId} {f : Bool → Bool} {w : World} {bd : Nat} {D : Nat → Prop} {s : St} (h : Rep td tl tp f w bd D s) : D bd ∧ ∀ j, w.frozen? ⟨bd, j, none⟩ = false := by
  obtain ⟨_, _, _, h1, _, _, _, _, h6, _⟩ := h
  exact ⟨h6, h1.frozen⟩
theorem Rep.cells {td tl tp : TypeId} {f : Bool → Bool} {w : World} {bd : Nat} {D : Nat → Prop} {s : St} (h : Rep td tl tp f w bd D s) :
    ∃ bl pv, w.cell? ⟨bd, 0, none⟩ = some (.slice (some ⟨bl, 0, none⟩) s.L.length s.L.length) ∧ w.cell? ⟨bd, 1, none⟩ = some pv ∧ w.cell? ⟨bd, 2, none⟩ = some (.bool (f s.up)) ∧ w.cell? ⟨bd, 3, none⟩ = some (.int .i64 s.left) := by
  obtain ⟨_, bl, pv, h1, _⟩ := h
  exact ⟨bl, pv, h1.cell 0, h1.cell 1, h1.cell 2, h1.cell 3⟩
theorem Rep.ok {td tl tp : TypeId} {f : Bool → Bool} {w : World} {bd : Nat} {D : Nat → Prop} {s : St} (h : Rep td tl tp f w bd D s) : s.Ok := h.1
theorem Rep.lt {td tl tp : TypeId} {f : Bool → Bool} {w : World} {bd : Nat} {D : Nat → Prop} {s : St} (h : Rep td tl tp f w bd D s) : ∀ k, D k → k < w.heap.size := by
  obtain ⟨_, _, _, _, _, _, _, _, _, _, h8⟩ := h; exact h8

/-! ### The functions of the small bodies -/
theorem ld {b o : Nat} {n : Int} {w : World} (h : w.cell? ⟨b, o, none⟩ = some (.int .i64 n)) :
    (callFunc 112 #[.pointer (some ⟨b, o, none⟩)]).run Try.prog w = .ok (.value (.int .i64 n)) w :=
  run_call_load (P := Try.prog) Try.func112 (by kernel_rfl) (by kernel_rfl) (by kernel_rfl) .i64 (by kernel_rfl) h
theorem st {b o : Nat} {y : Int} {u : Value} {w : World} (h : w.cell? ⟨b, o, none⟩ = some u) (hz : w.frozen? ⟨b, o, none⟩ = false) :
    (callFunc 61 #[.pointer (some ⟨b, o, none⟩), .int .i64 y]).run Try.prog w = .ok (.value (.tuple #[])) (w.setCell ⟨b, o, none⟩ (.int .i64 y)) :=
  run_call_store (P := Try.prog) Try.func61 (by kernel_rfl) (by kernel_rfl) (by kernel_rfl) (by kernel_rfl) h hz
theorem load_any (b o : Nat) (n : Int) (w : World) (h : w.cell? ⟨b, o, none⟩ = some (.int .i64 n)) :
    Calls Try.prog 93 #[.pointer (some ⟨b, o, none⟩)] w fun e w' => e = .returned (.int .i64 n) ∧ w = w' := by
  have hl := ld h
  go_enter Try.func93, Try.ntmps93
  go_wp2
  go_ret
  exact ⟨rfl, rfl⟩
theorem store_any (b o : Nat) (y : Int) (u : Value) (w : World) (h : w.cell? ⟨b, o, none⟩ = some u) (hz : w.frozen? ⟨b, o, none⟩ = false) :
    Calls Try.prog 28 #[.pointer (some ⟨b, o, none⟩), .int .i64 y] w fun e w' => e = .returned (.tuple #[]) ∧ w.setCell ⟨b, o, none⟩ (.int .i64 y) = w' := by
  have hl := st (y := y) h hz
  go_enter Try.func28, Try.ntmps28
  go_wp2
  go_end0
  exact ⟨rfl, rfl⟩

section
variable {w : World} {bd : Nat} {D : Nat → Prop} {s : St}

theorem pending_any (h : At w bd D s) : Calls Try.prog 39 #[.pointer (some ⟨bd, 0, none⟩)] w fun e w' => e = .returned (.int .i64 s.P.length) ∧ w = w' := by
  obtain ⟨ok, bl, pv, h1, h2, h3, h4, h5, h6, h7, h8⟩ := h
  have c1 : w.cell? ⟨bd, 1, none⟩ = some pv := h1.cell 1
  rcases h3.2 with ⟨rfl, hn⟩ | ⟨g, cap, cur, rfl, _⟩
  · rw [hn]
    clear h1 h2 h3 h5
    go_enter Try.func39, Try.ntmps39
    go_wp2
    go_ret
    exact ⟨rfl, rfl⟩
  · clear h1 h2 h3 h5
    go_enter Try.func39, Try.ntmps39
    go_wp2
    go_ret
    exact ⟨rfl, rfl⟩

theorem sectors_any (h : At w bd D s) : Calls Try.prog 55 #[.pointer (some ⟨bd, 0, none⟩)] w fun e w' => e = .returned (.int .i64 s.L.length) ∧ w = w' := by
  obtain ⟨ok, bl, pv, h1, h2, h3, h4, h5, h6, h7, h8⟩ := h
  have c0 : w.cell? ⟨bd, 0, none⟩ = some (.slice (some ⟨bl, 0, none⟩) s.L.length s.L.length) := h1.cell 0
  clear h1 h2 h3 h5
  go_enter Try.func55, Try.ntmps55
  go_wp2
  go_ret
  exact ⟨rfl, rfl⟩

theorem up_any (h : At w bd D s) : Calls Try.prog 40 #[.pointer (some ⟨bd, 0, none⟩)] w fun e w' => e = .returned (.bool s.up) ∧ w = w' := by
  obtain ⟨ok, bl, pv, h1, h2, h3, h4, h5, h6, h7, h8⟩ := h
  have c0 : w.cell? ⟨bd, 2, none⟩ = some (.bool s.up) := h1.cell 2
  clear h1 h2 h3 h5
  go_enter Try.func40, Try.ntmps40
  go_wp2
  go_ret
  exact ⟨rfl, rfl⟩

theorem has_any (n : Int) (h : At w bd D s) : Calls Try.prog 67 #[.pointer (some ⟨bd, 0, none⟩), .int .i64 n] w fun e w' => e = .returned (.bool (decide (0 ≤ n ∧ n < s.L.length))) ∧ w = w' := by
  obtain ⟨ok, bl, pv, h1, h2, h3, h4, h5, h6, h7, h8⟩ := h
  have c0 : w.cell? ⟨bd, 0, none⟩ = some (.slice (some ⟨bl, 0, none⟩) s.L.length s.L.length) := h1.cell 0
  clear h1 h2 h3 h5
  by_cases hn : 0 ≤ n
  · go_enter Try.func67, Try.ntmps67
    go_wp2
    go_ret
    exact ⟨by simp [hn], rfl⟩
  · have hd : decide (0 ≤ n) = false := by simpa using hn
    go_enter Try.func67, Try.ntmps67
    go_wp2
    go_ret
    exact ⟨rfl, rfl⟩

def St.spend (s : St) : Bool × St :=
  if s.left = 0 then (false, { s with up := false }) else if s.left = -1 then (true, s) else (true, { s with left := s.left - 1 })

theorem spend_any (h : At w bd D s) : Calls Try.prog 68 #[.pointer (some ⟨bd, 0, none⟩)] w fun e w' =>
    e = .returned (.bool s.spend.1) ∧ At w' bd D s.spend.2 ∧ Fr D w w' := by
  obtain ⟨bl, pv, c0, c1, c2, c3⟩ := h.cells
  obtain ⟨hD, fz⟩ := h.dst
  have l0 := h.ok.left0
  have l1 := h.ok.left1
  by_cases e0 : s.left = 0
  · have hs : s.spend = (false, { s with up := false }) := by simp [St.spend, e0]
    rw [hs]
    rw [e0] at c3
    have f2 := fz 2
    have HS := hid h; clear h
    have H0 := hid e0; clear e0 hs
    go_enter Try.func68, Try.ntmps68
    go_wp2_with (go_at_call 93; refine (load_any _ _ _ _ c3).mono ?_; rintro e w' ⟨rfl, rfl⟩)
    go_ret
    exact ⟨rfl, HS.out.setUp false, (Fr.refl _ _).setCell _ _ (.inl hD)⟩
  · by_cases e1 : s.left = -1
    · have hs : s.spend = (true, s) := by simp [St.spend, e1]
      rw [hs]
      rw [e1] at c3
      have HS := hid h; clear h
      have H0 := hid e1; clear e0 hs e1
      go_enter Try.func68, Try.ntmps68
      go_wp2_with (go_at_call 93; refine (load_any _ _ _ _ c3).mono ?_; rintro e w' ⟨rfl, rfl⟩)
      go_ret
      exact ⟨rfl, HS.out, Fr.refl _ _⟩
    · have hs : s.spend = (true, { s with left := s.left - 1 }) := by simp [St.spend, e0, e1]
      rw [hs]
      have f3 := fz 3
      have t0 : (s.left == 0) = false := by simp [e0]
      have t1 : (s.left != -1) = true := by simp [e1]
      have t2 : (s.left == -1) = false := by simp [e1]
      have p0 : 0 < s.left := by omega
      have HS := hid h; clear h
      clear e0 hs e1
      go_enter Try.func68, Try.ntmps68
      go_wp2_with (first | (go_at_call 93; refine (load_any _ _ _ _ c3).mono ?_; rintro e w' ⟨rfl, rfl⟩) | (go_at_call 28; refine (store_any _ _ _ _ _ c3 f3).mono ?_; rintro e w' ⟨rfl, rfl⟩))
      go_ret
      exact ⟨rfl, HS.out.setLeft _ (by omega) (by omega), (Fr.refl _ _).setCell _ _ (.inl hD)⟩

def St.arm (s : St) (n : Int) : Int × St := if n < 0 then (1, s) else if s.up = false then (10, s) else (0, { s with left := n })

theorem arm_any (n : Int) (hn : n ≤ 9223372036854775807) (h : At w bd D s) : Calls Try.prog 34 #[.pointer (some ⟨bd, 0, none⟩), .int .i64 n] w fun e w' =>
    e = .returned (.int .i64 (s.arm n).1) ∧ At w' bd D (s.arm n).2 ∧ Fr D w w' := by
  obtain ⟨bl, pv, c0, c1, c2, c3⟩ := h.cells
  obtain ⟨hD, fz⟩ := h.dst
  have f3 := fz 3
  simp only [id] at c2
  by_cases e0 : n < 0
  · have hs : s.arm n = (1, s) := by simp [St.arm, e0]
    rw [hs]
    have HS := hid h; clear h hs
    go_enter Try.func34, Try.ntmps34
    go_wp2
    go_ret
    exact ⟨rfl, HS.out, Fr.refl _ _⟩
  · cases e1 : s.up with
    | false =>
      have hs : s.arm n = (10, s) := by simp [St.arm, e0, e1]
      rw [hs]
      rw [e1] at c2
      have HS := hid h; clear h hs e1
      go_enter Try.func34, Try.ntmps34
      go_wp2
      go_ret
      exact ⟨rfl, HS.out, Fr.refl _ _⟩
    | true =>
      have hs : s.arm n = (0, { s with left := n }) := by simp [St.arm, e0, e1]
      rw [hs]
      rw [e1] at c2
      have HS := hid h; clear h hs e1
      go_enter Try.func34, Try.ntmps34
      go_wp2_with (go_at_call 28; refine (store_any _ _ _ _ _ c3 f3).mono ?_; rintro e w' ⟨rfl, rfl⟩)
      go_ret
      exact ⟨rfl, HS.out.setLeft _ (by omega) (by omega), (Fr.refl _ _).setCell _ _ (.inl hD)⟩
end
end Go.Proofs.Ytlnolnaapnijbaa.D
