/-
  Parts: clone.
-/
import Derived.Test.YtlnolnaapnijbaaTrH
namespace Go.Proofs.Ytlnolnaapnijbaa.TR
set_option maxRecDepth 100000
open Go.RowKit K

/-- The shape alone. -/
def Sk : Nat → Type
  | 0 => S
  | d + 1 => List (S × Sk d)
def sk : (d : Nat) → Kid d → Sk d
  | 0, v => (v : S)
  | d + 1, t => (Nd.l (α := Kid d) t).map fun x => (x.1, sk d x.2)
def sks (d : Nat) (l : List (S × Kid d)) : List (S × Sk d) := l.map fun x => (x.1, sk d x.2)
theorem sk_same : ∀ (d : Nat) (c c' : Kid d), sk d c = sk d c' → (∀ k, flatK d k c = flatK d k c') ∧ (∀ lo hi, okK d lo hi c → okK d lo hi c') ∧ (szK d c → szK d c') ∧ (goodK d c → goodK d c')
  | 0, c, c', h => by
    have : c = c' := h
    subst this
    exact ⟨fun _ => rfl, fun _ _ h => h, id, id⟩
  | d + 1, t, t', h => by
    have key : ∀ l l' : List (S × Kid d), sks d l = sks d l' → flats d l = flats d l' ∧ (∀ hi, Chain (okK d) hi l → Chain (okK d) hi l') ∧ (∀ hi, nx hi l = nx hi l') ∧ l.length = l'.length ∧ ((∀ x ∈ l, szK d x.2 ∧ goodK d x.2) → ∀ x ∈ l', szK d x.2 ∧ goodK d x.2) ∧ (∀ lo, First d lo l → First d lo l') := by
      intro l
      induction l with
      | nil =>
        intro l' h
        have : l' = [] := List.map_eq_nil_iff.1 h.symm
        subst this
        exact ⟨rfl, fun _ h => h, fun _ => rfl, rfl, fun h => h, fun _ h => h⟩
      | cons x r ih =>
        intro l' h
        cases l' with
        | nil => simp [sks] at h
        | cons y s =>
          have h1 : x.1 = y.1 ∧ sk d x.2 = sk d y.2 ∧ sks d r = sks d s := by
            simp only [sks, List.map_cons, List.cons.injEq, Prod.mk.injEq] at h
            exact ⟨h.1.1, h.1.2, h.2⟩
          obtain ⟨e1, e2, e3⟩ := h1
          obtain ⟨a1, a2, a3, a4⟩ := sk_same d x.2 y.2 e2
          obtain ⟨b1, b2, b3, b4, b5, b6⟩ := ih s e3
          refine ⟨by rw [flats_cons, flats_cons, b1, e1, a1], fun hi hc => ?_, fun hi => by simp [nx, e1], by simp [b4], fun hg z hz => ?_, fun lo hf => ?_⟩
          · refine ⟨?_, ?_, b2 hi hc.2.2⟩
            · rw [← e1, ← b3 hi]; exact a2 _ _ hc.1
            · rw [← e1, ← b3 hi]; exact hc.2.1
          · rcases List.mem_cons.1 hz with rfl | hz
            · exact ⟨a3 (hg x (by simp)).1, a4 (hg x (by simp)).2⟩
            · exact b5 (fun q hq => hg q (by simp [hq])) z hz
          · cases d with
            | zero =>
              intro z hz
              rcases List.mem_cons.1 hz with rfl | hz
              · rw [← e1]; exact hf x (List.mem_cons_self)
              · exact b6 lo (fun q hq => hf q (List.mem_cons_of_mem _ hq)) z hz
            | succ d =>
              obtain ⟨c, q, e⟩ := hf
              refine ⟨y.2, s, ?_⟩
              have : x.1 = lo := by injection e with e _; rw [e]
              rw [← this, e1]
    obtain ⟨a1, a2, a3, a4, a5, a6⟩ := key (Nd.l (α := Kid d) t) (Nd.l (α := Kid d) t') h
    refine ⟨fun k => a1, fun lo hi hk => ⟨a2 hi hk.1, a6 lo hk.2⟩, fun hs => ?_, a5⟩
    have hs' : 4 ≤ (Nd.l (α := Kid d) t).length ∧ (Nd.l (α := Kid d) t).length ≤ 8 := hs
    exact ⟨by rw [← a4]; exact hs'.1, by rw [← a4]; exact hs'.2⟩
theorem sks_length {d : Nat} {l l' : List (S × Kid d)} (h : sks d l = sks d l') : l.length = l'.length := by
  have := congrArg List.length h
  simpa [sks] using this
theorem sks_keys {d : Nat} {l l' : List (S × Kid d)} (h : sks d l = sks d l') : keys l = keys l' := by
  have := congrArg (List.map Prod.fst) h
  simpa [sks, keys, Function.comp_def] using this
/-- What clone leaves. -/
def Clones (d : Nat) (w : World) (t : PT d) (e : Ending) (w' : World) : Prop :=
  ∃ u : PT d, e = .returned (val d u) ∧ Rep w' d u ∧ sks d u.l = sks d t.l ∧ Fr No w w' ∧ ∀ g, fp d u g → w.heap.size ≤ g
theorem val_eq {d : Nat} {t : PT d} {x y : Value} (h : ptr d t = [x, y]) : val d t = .agg #[x, y] := by unfold val; rw [h]
set_option maxHeartbeats 4000000 in
theorem clone_leaf (w : World) (t : PT 0) (hr : Rep w 0 t) (hf : Fine 0 t) : Calls Try.prog 47 #[val 0 t] w (Clones 0 w t) := by
  have HR := hid hr; have HF := hid hf.len
  clear hr hf
  have bl := build_leaf
  show Calls Try.prog _ #[.agg #[.pointer (some ⟨t.b, 0, none⟩), .pointer none]] w _
  go_enter Try.func47, Try.ntmps47
  go_wp2_with (first
    | ((with_reducible show wpList _ _ _ ({ dst := _, op := .box 103 _, type := _, pos := _, after := _, guard := _ } :: _) _ _); refine wpL_box rfl _ _ rfl _ rfl [.pointer (some ⟨t.b, 0, none⟩), .pointer none] rfl ?_; intro w1 HB1 F1 HS1)
    | ((with_reducible show wpList _ _ _ ({ dst := _, op := .alloc 103, type := _, pos := _, after := _, guard := _ } :: _) _ _); refine wpL_alloc rfl _ rfl _ zero_pt [.pointer none, .pointer none] rfl ?_; intro w2 HB2 F2 HS2; have c0 : w2.cell? ⟨w.heap.size, 0, none⟩ = some (.pointer (some ⟨t.b, 0, none⟩)) := (HB1.out.fr F2.out id).cell 0))
  have HF2 : Hid (Fr No w w2) := hid (F1.out.trans' F2.out)
  refine (clone_nd_s w2 t.b _ _ (keys t.l) (cells t.l) (HR.out.no HF2.out).nd (by rw [keys_length]; have := HF.out; omega)).mono ?_
  rintro e w3 ⟨b', kv', cv', rfl, n', f3, g'⟩
  have N' := hid n'; have F3 := hid f3; have G' := hid g'
  clear n' f3 g'
  have HB3 : Hid (Blk w3 w1.heap.size 103 [.pointer none, .pointer none]) := hid (HB2.out.fr F3.out id)
  go_wp2_with ((with_reducible show wpList _ _ _ ({ dst := _, op := .store 103 _ _, type := _, pos := _, after := _, guard := _ } :: _) _ _); refine wpL_storeV rfl _ _ _ rfl w1.heap.size 0 (.agg #[.pointer (some ⟨b', 0, none⟩), .pointer none]) [.pointer (some ⟨b', 0, none⟩), .pointer none] rfl rfl rfl _ _ HB3.out (by simp) info_p (by intro u hu; simp at hu; rcases hu with rfl | rfl <;> rfl) ?_; intro w4 HB4 F4 HS4)
  refine ret_cell rfl _ (by rfl) (cs := [.pointer (some ⟨b', 0, none⟩), .pointer none]) (by have := HB4.out; simpa [spl] using this) rfl rfl info_p rfl ?_
  have hne : ∀ g, Own b' kv' cv' g → g ≠ w1.heap.size := fun g hg e => by have := G'.out g hg; have : w2.heap.size = w1.heap.size + 1 := HS2.out; omega
  refine ⟨⟨b', kv', cv', t.l⟩, rfl, ⟨N'.out.fr F4.out (fun g hg e => hne g hg e), leaf_kids _ _ _⟩, rfl, ?_, fun g hg => ?_⟩
  · exact (HF2.out.trans' F3.out).trans (D' := fun k => k = w1.heap.size) F4.out (fun k e => .inr (by rw [e]; exact F1.out.size))
  · rcases hg with hg | ⟨x, hx, hg⟩
    · exact Nat.le_trans HF2.out.size (G'.out g hg)
    · exact hg.elim
end Go.Proofs.Ytlnolnaapnijbaa.TR
