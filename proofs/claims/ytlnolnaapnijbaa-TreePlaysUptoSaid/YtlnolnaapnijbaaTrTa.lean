/-
  The tree: what a variable of it holds; New, Len, Depth, Get, capacity.
-/
import Derived.Test.YtlnolnaapnijbaaTrRl
import Derived.Test.YtlnolnaapnijbaaTrKk
import Derived.Test.YtlnolnaapnijbaaTrEf
namespace Go.Proofs.Ytlnolnaapnijbaa.TR
set_option maxRecDepth 100000
open Go.RowKit K

/-- A tree as data. -/
structure TD where
  d : Nat
  t : PT d
  b : Nat
def TD.fp (T : TD) (g : Nat) : Prop := g = T.b ∨ TR.fp T.d T.t g
def TD.v (T : TD) : Value := .pointer (some ⟨T.b, 0, none⟩)
/-- A tree that holds what is told. -/
structure TrAt (w : World) (T : TD) (l : L) : Prop where
  blk : Blk w T.b 105 (ptr T.d T.t ++ [.int .i64 l.length])
  rep : Rep w T.d T.t
  ok : Ok T.d ⟨#[]⟩ none T.t
  good : Good T.d T.t
  fl : flat T.d T.t = l
  cap : l.length ≤ 8 ^ (T.d + 1)
  low : T.d = 0 ∨ 8 ^ T.d < l.length
  off : ¬ TR.fp T.d T.t T.b
theorem TrAt.fr {w w' : World} {T : TD} {l : L} {D : Nat → Prop} (h : TrAt w T l) (hf : Fr D w w') (hd : Dj T.fp D) : TrAt w' T l :=
  ⟨h.blk.fr hf (fun e => hd _ (.inl rfl) e), h.rep.fr hf (fun g hg e => hd g (.inr hg) e), h.ok, h.good, h.fl, h.cap, h.low, h.off⟩
theorem TrAt.no {w w' : World} {T : TD} {l : L} (h : TrAt w T l) (hf : Fr No w w') : TrAt w' T l := h.fr hf (fun _ _ e => e)
theorem TrAt.lt {w : World} {T : TD} {l : L} (h : TrAt w T l) : ∀ g, T.fp g → g < w.heap.size := fun g hg => hg.elim (fun e => by rw [e]; exact h.blk.lt) (fun e => h.rep.lt g e)
theorem TrAt.sorted {w : World} {T : TD} {l : L} (h : TrAt w T l) : Sorted l := by rw [← h.fl]; exact ok_sorted h.ok
theorem pow_le {a b : Nat} (h : a ≤ b) : 8 ^ a ≤ 8 ^ b := Nat.pow_le_pow_right (by omega) h
theorem TrAt.d_le {w : World} {T : TD} {l : L} (h : TrAt w T l) (hn : l.length ≤ 4398046511104) : T.d ≤ 13 := by
  rcases h.low with e | e
  · omega
  · rcases Nat.lt_or_ge 13 T.d with h1 | h1
    · have := pow_le (show 14 ≤ T.d by omega)
      have h8 : (8 : Nat) ^ 14 = 4398046511104 := by decide
      omega
    · exact h1
theorem pow_split (d : Nat) : (8 : Nat) ^ d = 2 ^ d * 4 ^ d := by rw [← Nat.mul_pow]
theorem TrAt.size {w : World} {T : TD} {l : L} (h : TrAt w T l) (hn : l.length ≤ 4398046511104) : (T.d = 0 ∨ 2 ≤ T.t.l.length) ∧ T.t.l.length ≤ 65536 := by
  have hc := flat_count h.good
  rw [h.fl] at hc
  have hd := h.d_le hn
  have hp : 0 < 4 ^ T.d := Nat.pos_of_ne_zero (by simp)
  constructor
  · rcases h.low with e | e
    · exact .inl e
    · refine .inr ?_
      rcases Nat.lt_or_ge T.t.l.length 2 with h1 | h1
      · have : T.t.l.length * 8 ^ T.d ≤ 1 * 8 ^ T.d := Nat.mul_le_mul_right _ (by omega)
        omega
      · exact h1
  · have h1 : T.t.l.length * 4 ^ T.d ≤ (8 * 2 ^ T.d) * 4 ^ T.d := by
      have := pow_split T.d
      have h2 := h.cap
      rw [Nat.pow_succ] at h2
      have h3 : 8 * 2 ^ T.d * 4 ^ T.d = 8 * 8 ^ T.d := by rw [Nat.mul_assoc, ← this]
      omega
    have h2 : T.t.l.length ≤ 8 * 2 ^ T.d := Nat.le_of_mul_le_mul_right h1 hp
    have h3 : (2 : Nat) ^ T.d ≤ 2 ^ 13 := Nat.pow_le_pow_right (by omega) hd
    have h4 : (2 : Nat) ^ 13 = 8192 := by decide
    omega
theorem TrAt.fine {w : World} {T : TD} {l : L} (h : TrAt w T l) (hn : l.length ≤ 4398046511104) : Fine T.d T.t :=
  ⟨⟨_, _, h.ok⟩, h.good, (h.size hn).1.imp id (fun e => by omega), by have := (h.size hn).2; omega⟩
theorem TrAt.rg {w : World} {T : TD} {l : L} (h : TrAt w T l) : w.rangeAt T.b 0 (ptr T.d T.t) := h.blk.range 0 _ (by simp [ptr_length])
theorem TrAt.ln {w : World} {T : TD} {l : L} (h : TrAt w T l) : w.cell? ⟨T.b, 2, none⟩ = some (.int .i64 l.length) := by
  have := h.blk.cell 2
  rw [this, List.getElem?_append_right (by rw [ptr_length]; exact Nat.le_refl _), ptr_length]; rfl
set_option maxHeartbeats 4000000 in
theorem capacity_any (w : World) (d q : Nat) (hd : d ≤ 15) (hq : 8 ^ d = q) : Calls Try.prog 49 #[.int .i64 (d : Int)] w fun e w' => e = .returned (.int .i64 (q : Int)) ∧ Fr No w w' := by
  have HD := hid hd; have HQ := hid hq
  have hd1 : (d : Int) ≤ 15 := by omega
  clear hd hq
  go_enter Try.func49, Try.ntmps49
  go_wp2
  go_loopw [3, 5] (fun n i wr => ∃ k p : Nat, k ≤ d ∧ n = .int .i64 (p : Int) ∧ i = .int .i64 (k : Int) ∧ Hid (8 ^ k = p) ∧ Hid (Fr No w wr)) (fun _ i _ => d - (intOf i).toNat)
  case atStart => exact ⟨0, 1, by omega, rfl, rfl, hid rfl, hid (Fr.refl _ _)⟩
  case round =>
    obtain ⟨k, p, hk, rfl, rfl, HP, HF⟩ := hrel
    by_cases hlt : k < d
    · have hlt' : (k : Int) < (d : Int) := by omega
      have hp : p ≤ 4398046511104 := by
        have h14 : k ≤ 14 := by have := HD.out; omega
        have := pow_le h14
        have h8 : (8 : Nat) ^ 14 = 4398046511104 := by decide
        rw [← HP.out]; omega
      have hp' : (p : Int) ≤ 4398046511104 := by omega
      clear hp
      go_wp2
      exact ⟨⟨k + 1, p * 8, by omega, by go_num, by go_num, hid (by rw [Nat.pow_succ, HP.out]), HF⟩, by simp [intOf]; omega⟩
    · have hge : ¬ ((k : Int) < (d : Int)) := by omega
      have hkd : k = d := by omega
      have hpq : p = q := by rw [← HP.out, hkd]; exact HQ.out
      subst hpq
      clear hkd
      go_wp2
      go_ret
      exact ⟨rfl, HF.out⟩
set_option maxHeartbeats 4000000 in
theorem tlen_any (w : World) (T : TD) (l : L) (h : TrAt w T l) : Calls Try.prog 18 #[T.v] w fun e w' => e = .returned (.int .i64 (l.length : Int)) ∧ w' = w := by
  have c2 := h.ln
  clear h
  show Calls Try.prog _ #[.pointer (some ⟨T.b, 0, none⟩)] w _
  go_enter Try.func18, Try.ntmps18
  go_wp2
  go_ret
  exact ⟨rfl, rfl⟩
set_option maxHeartbeats 4000000 in
theorem tdepth_in (w : World) (b d : Nat) (t : PT d) (hr : w.rangeAt b 0 (ptr d t)) (h : Rep w d t) (hf : Fine d t) (hd : d ≤ 1000) : Calls Try.prog 50 #[.pointer (some ⟨b, 0, none⟩)] w fun e w' => e = .returned (.int .i64 ((d + 1 : Nat) : Int)) ∧ Fr No w w' := by
  have H := hid h; have HF := hid hf; have HR := hid hr
  clear h hf hr
  go_enter Try.func50, Try.ntmps50
  go_wp2_with ((with_reducible show wpList _ _ _ ({ dst := _, op := .load 103 _, type := _, pos := _, after := _, guard := _ } :: _) _ _); refine wpL_load rfl _ _ rfl b 0 rfl (ptr d t) _ HR.out rfl rfl (by rw [ptr_length]; exact info_p) ?_)
  refine (pdepth_any d w t H.out HF.out hd).mono ?_
  rintro e w' ⟨rfl, f⟩
  go_wp2
  go_ret
  exact ⟨rfl, f⟩
theorem tdepth_any (w : World) (T : TD) (l : L) (h : TrAt w T l) (hn : l.length ≤ 4398046511104) : Calls Try.prog 50 #[T.v] w fun e w' => e = .returned (.int .i64 ((T.d + 1 : Nat) : Int)) ∧ Fr No w w' :=
  tdepth_in w T.b T.d T.t h.rg h.rep (h.fine hn) (by have := h.d_le hn; omega)
set_option maxHeartbeats 4000000 in
theorem tget_any (w : World) (T : TD) (l : L) (key : S) (h : TrAt w T l) (hn : l.length ≤ 4398046511104) : Calls Try.prog 45 #[T.v, .string key] w fun e w' => e = .returned (getV (get key l)) ∧ Fr No w w' := by
  have H := hid h; have HN := hid hn
  clear h hn
  show Calls Try.prog _ #[.pointer (some ⟨T.b, 0, none⟩), .string key] w _
  go_enter Try.func45, Try.ntmps45
  go_wp2_with ((with_reducible show wpList _ _ _ ({ dst := _, op := .load 103 _, type := _, pos := _, after := _, guard := _ } :: _) _ _); refine wpL_load rfl _ _ rfl T.b 0 rfl (ptr T.d T.t) _ H.out.rg rfl rfl (by rw [ptr_length]; exact info_p) ?_)
  refine (pget_any T.d w T.t key H.out.rep (H.out.fine HN.out)).mono ?_
  rintro e w' ⟨rfl, f⟩
  unfold getV
  go_wp2
  go_ret2
  refine ⟨?_, f⟩
  rw [H.out.fl]
  rfl
theorem zero_nds (w : World) : (Instr.build 135 #[]).run Try.prog w = .ok (.agg #[.slice none 0 0, .slice none 0 0]) w := by kernel_rfl
theorem build_tr (x : Option Addr) (w : World) : (Instr.build 105 #[(0, .agg #[.pointer x, .pointer none])]).run Try.prog w = .ok (.agg #[.pointer x, .pointer none, .int .i64 0]) w := by kernel_rfl
set_option maxHeartbeats 4000000 in
theorem tnew_any (w : World) : Calls Try.prog 42 #[] w fun e w' => ∃ T : TD, e = .returned T.v ∧ TrAt w' T [] ∧ Fr No w w' ∧ ∀ g, T.fp g → w.heap.size ≤ g := by
  have b1 := zero_nds; have b2 := build_leaf; have b3 := build_tr
  go_enter Try.func42, Try.ntmps42
  go_wp2_with (first
    | ((with_reducible show wpList _ _ _ ({ dst := _, op := .box 135 _, type := _, pos := _, after := _, guard := _ } :: _) _ _); refine wpL_box rfl _ _ rfl _ rfl [.slice none 0 0, .slice none 0 0] rfl ?_; intro w1 HB1 F1 HS1)
    | ((with_reducible show wpList _ _ _ ({ dst := _, op := .box 105 _, type := _, pos := _, after := _, guard := _ } :: _) _ _); refine wpL_box rfl _ _ rfl _ rfl [.pointer (some ⟨w.heap.size, 0, none⟩), .pointer none, .int .i64 0] rfl ?_; intro w2 HB2 F2 HS2))
  go_ret
  have hr : Rep w1 0 (⟨w.heap.size, .slice none 0 0, .slice none 0 0, []⟩ : PT 0) := ⟨⟨HB1.out, ⟨rfl, .inl ⟨rfl, rfl⟩⟩, ⟨rfl, .inl ⟨rfl, rfl⟩⟩, (by intro u hu; cases hu), (by intro h; cases h), (by intro h; cases h), (by intro g hg; cases hg)⟩, leaf_kids _ _ _⟩
  have hfp : ∀ g, fp 0 (⟨w.heap.size, .slice none 0 0, .slice none 0 0, []⟩ : PT 0) g → g = w.heap.size := fun g hg => by
    rcases hg with hg | ⟨x, hx, _⟩
    · rcases hg with hg | hg | hg
      · exact hg
      · cases hg
      · cases hg
    · cases hx
  have h1 : w.heap.size < w1.heap.size := HB1.out.lt
  refine ⟨⟨0, ⟨w.heap.size, .slice none 0 0, .slice none 0 0, []⟩, w1.heap.size⟩, rfl, ⟨HB2.out, hr.no F2.out, ⟨trivial, (by intro x hx; cases hx)⟩, (by intro x hx; cases hx), rfl, by simp, .inl rfl, fun e => ?_⟩, F1.out.trans' F2.out, fun g hg => ?_⟩
  · have e1 := hfp _ e
    have e2 : w1.heap.size = w.heap.size := e1
    omega
  · rcases hg with e | e
    · rw [e]; show w.heap.size ≤ w1.heap.size; omega
    · rw [hfp g e]; exact Nat.le_refl _
end Go.Proofs.Ytlnolnaapnijbaa.TR
