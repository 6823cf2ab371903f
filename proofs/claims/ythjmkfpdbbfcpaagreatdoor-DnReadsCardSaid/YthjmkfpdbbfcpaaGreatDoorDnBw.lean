/-
  The library's Backward: an iterator over a boxed slice, from its end.
-/
import Derived.Test.YthjmkfpdbbfcpaaGreatDoorDnG
import Derived.Test.YthjmkfpdbbfcpaaGreatDoorDnRg
set_option linter.unusedVariables false
set_option linter.unusedSimpArgs false
namespace Go.Proofs.YthjmkfpdbbfcpaaGreatDoor.DN
set_option maxRecDepth 100000
open Go.RowKit K Go.Proofs.YthjmkfpdbbfcpaaGreatDoor.BE

theorem backward_any (v : Value) (hv : v.oneCell' = true) (w : World) : Calls Tryz.prog 28 #[v] w fun e w' =>
    e = .returned (.func (.func 43) #[] #[.pointer (some ⟨w.heap.size, 0, none⟩)]) ∧ Blk w' w.heap.size 24 [v] ∧ Fr No w w' ∧ w'.heap.size = w.heap.size + 1 := by
  have hmf : ∀ (fn : Fn) (first cap : Array Value) (w : World), (Instr.makeFunc fn first cap).run Tryz.prog w = .ok (.func fn first cap) w := fun _ _ _ _ => rfl
  go_enter Tryz.func28, Tryz.ntmps28
  go_wp2_with (first
    | ((with_reducible refine K.atO (.box 24 _) ?_); refine wpL_box rfl _ _ rfl v rfl [v] (by cases v <;> first | rfl | cases hv) ?_; intro w1 HB1 HF1 HS1)
    | fail)
  go_ret
  exact ⟨rfl, HB1.out, HF1.out, HS1.out⟩
/-- What the rounds are handed. -/
def yb (n : Nat) (vs : List Value) : List (Array Value) := (List.range n).map fun k => #[.int .i64 ((n - 1 - k : Nat) : Int), vs.getD (n - 1 - k) undef]
theorem yb_length (n : Nat) (vs : List Value) : (yb n vs).length = n := by simp [yb]
theorem yb_get {n : Nat} {vs : List Value} {k : Nat} (hk : k < n) : (yb n vs)[k]? = some #[.int .i64 ((n - 1 - k : Nat) : Int), vs.getD (n - 1 - k) undef] := by simp [yb, hk]
theorem yb_at {n : Nat} {vs : List Value} {k : Nat} {x : Array Value} (h : (yb n vs)[k]? = some x) : k < n ∧ x = #[.int .i64 ((n - 1 - k : Nat) : Int), vs.getD (n - 1 - k) undef] := by
  have hk : k < n := by have := (List.getElem?_eq_some_iff.1 h).1; rwa [yb_length] at this
  rw [yb_get hk] at h
  exact ⟨hk, (Option.some.inj h).symm⟩
theorem range_same {w w' : World} {g o : Nat} {cs : List Value} (h : w.rangeAt g o cs) (e : w'.heap[g]? = w.heap[g]?) : w'.rangeAt g o cs := fun j v hj => by
  have := h j v hj
  unfold World.cell? at this ⊢
  simpa [e] using this
theorem blk_same {w w' : World} {b : Nat} {t : TypeId} {cs : List Value} (h : Blk w b t cs) (e : w'.heap[b]? = w.heap[b]?) : Blk w' b t cs := e.trans h
set_option maxHeartbeats 4000000 in
theorem backward_seq (bx g o n cap : Nat) (a : Option Addr) (vs : List Value) (hn : n ≤ 1048576) (hc : n ≤ cap) (hvn : vs.length = n) (w : World) (hb : Blk w bx 24 [.slice a n cap]) (h : n = 0 ∨ (a = some ⟨g, o, none⟩ ∧ w.rangeAt g o vs)) :
    SeqP Tryz.prog 43 #[.pointer (some ⟨bx, 0, none⟩)] (yb n vs) (fun i => i = bx ∨ i = g) w := by
  intro l J Jx W hW hWb hJ hJx hY h0
  have HB := hid (blk_same hb (hWb bx (.inl rfl)))
  have HA : Hid (n = 0 ∨ (a = some ⟨g, o, none⟩ ∧ W.rangeAt g o vs)) := hid (h.imp id fun h => ⟨h.1, range_same h.2 (hWb g (.inr rfl))⟩)
  have hni : (n : Int) ≤ 1048576 := by omega
  have c1 : W.cell? ⟨bx, 0, none⟩ = some (.slice a n cap) := HB.out.cell 0
  have HVN := hid hvn
  clear hb hWb hW h hvn
  refine callsIn_of_wp Tryz.func43 rfl trivial ?_ rfl
  simp only [Tryz.ntmps43, List.size_toArray, List.length_cons, List.length_nil, Nat.reduceAdd, Nat.reduceSub, Array.replicate_succ, Array.replicate_zero, List.push_toArray, List.append_toArray, List.nil_append, List.cons_append]
  gi_wp2_with fail
  gi_loopw [3] (fun iv wr => ∃ (k : Nat), iv = .int .i64 ((n : Int) - 1 - k) ∧ k ≤ n ∧ J k wr ∧ Hid (wr.heap[bx]? = W.heap[bx]? ∧ wr.heap[g]? = W.heap[g]?)) (fun iv _ => (intOf iv + 1).toNat)
  case atStart => exact ⟨0, by simp, Nat.zero_le _, h0, hid ⟨rfl, rfl⟩⟩
  case round =>
    obtain ⟨k, rfl, hk, hJs, HE⟩ := hrel
    by_cases hlt : k < n
    · obtain ⟨i, hi⟩ : ∃ i : Nat, (n : Int) - 1 - k = i := ⟨n - 1 - k, by omega⟩
      have hin : n - 1 - k = i := by omega
      obtain ⟨rfl, hr⟩ := HA.out.resolve_left (by omega)
      have hx := yb_get (vs := vs) hlt
      rw [hin] at hx
      obtain ⟨v, hv⟩ : ∃ v, vs[i]? = some v := ⟨_, List.getElem?_eq_getElem (by rw [HVN.out]; omega)⟩
      have hvd : vs.getD i undef = v := by rw [List.getD_eq_getElem?_getD, hv]; rfl
      rw [hvd] at hx
      have d1 : wr.cell? ⟨bx, 0, none⟩ = some (.slice (some ⟨g, o, none⟩) n cap) := (blk_same HB.out HE.out.1).cell 0
      have d2 : wr.cell? ⟨g, o + i, none⟩ = some v := range_same hr HE.out.2 i v hv
      obtain ⟨fn, tmps, assign, body, hy, hR⟩ := hY k _ wr hJs hx
      have hi0 : (0 : Int) ≤ i := by omega
      have hil : (i : Int) < n := by omega
      have HI := hid (show (n : Int) - 1 - k = i ∧ k < n from ⟨hi, hlt⟩)
      rw [hi]
      clear hr hx hv hvd hlt hin hi hk c1
      gi_wp2_with fail
      refine hR.mono ?_
      rintro e3 W3 (⟨rfl, hJ3, -, hk3⟩ | ⟨rfl, hJx3⟩)
      · have HE3 : Hid (W3.heap[bx]? = W.heap[bx]? ∧ W3.heap[g]? = W.heap[g]?) := hid ⟨(hk3 bx (.inl rfl)).trans HE.out.1, (hk3 g (.inr rfl)).trans HE.out.2⟩
        clear hk3 d1 d2
        gi_wp2_with fail
        go_roundw
        case rel => exact ⟨k + 1, by have := HI.out.1; congr 1; push_cast; omega, HI.out.2, hJ3, HE3⟩
        case measure =>
          have := HI.out
          first | (simp [intOf]; omega) | simp [intOf]
      · gi_wp2_with fail
        refine bodyPost_ret (results_none rfl _ _ _) rfl ?_
        exact ⟨⟨_, rfl⟩, .inr ⟨_, hJx3⟩⟩
    · obtain rfl : k = n := by omega
      have hneg : ¬ (0 : Int) ≤ (k : Int) - 1 - k := by omega
      have hneg2 : (k : Int) - 1 - k = -1 := by omega
      rw [hneg2]
      clear hneg hneg2
      gi_wp2_with fail
      refine bodyPost_end (results_none rfl _ _ _) rfl ?_
      exact ⟨⟨_, rfl⟩, .inl (by rw [yb_length]; exact hJs)⟩
end Go.Proofs.YthjmkfpdbbfcpaaGreatDoor.DN
