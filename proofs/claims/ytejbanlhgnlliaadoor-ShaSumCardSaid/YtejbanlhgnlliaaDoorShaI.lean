/-
  The program's sha: whole blocks, one behind the other (a function that is ranged over).
-/
import Derived.Test.YtejbanlhgnlliaaDoorShaG
namespace Go.Proofs.YtejbanlhgnlliaaDoor.SH
set_option maxRecDepth 100000
open Go.RowKit K AR

/-- The first k numbers below N. -/
def fins (N : Nat) : (k : Nat) → k ≤ N → List (Fin N)
  | 0, _ => []
  | k + 1, h => fins N k (Nat.le_of_succ_le h) ++ [⟨k, h⟩]
theorem fins_length (N : Nat) : ∀ (k : Nat) (h : k ≤ N), (fins N k h).length = k
  | 0, _ => rfl
  | k + 1, h => by simp [fins, fins_length N k]
/-- Where block k lies. -/
def blkAt (g o c : Nat) (k : Nat) : Array Value := #[.slice (some ⟨g, o + 64 * k, none⟩) 64 (c - 64 * k)]
set_option maxHeartbeats 2000000 in
theorem blocks1_in (F : Fence) (n : Nat) (hf : F.fn 27) (hro : F.round = none) (hn : 1 ≤ n) (l bx g o len c N : Nat) (hN : len = 64 * N + len % 64) (hlen : len ≤ 140737488355328) (hc : len ≤ c) (J Jx : List (Fin N) → World → Prop)
    (hY : ∀ (pre : List (Fin N)) (x : Fin N) (W : World), J pre W → pre.length < N → YieldAt F (n - 1) Tryd.prog l (blkAt g o c x) W fun e W' =>
      (e = .returned (.bool true) ∧ J (pre ++ [x]) W' ∧ Kx bx W W') ∨ (e = .returned (.bool false) ∧ Jx (pre ++ [x]) W'))
    (W : World) (hbx : W.cell? ⟨bx, 0, none⟩ = some (.slice (some ⟨g, o, none⟩) len c)) (h0 : J [] W) :
    CallsIn F n Tryd.prog 27 #[.func (.yield l) #[] #[], .pointer (some ⟨bx, 0, none⟩)] W fun e W' => (∃ v, e = .returned v) ∧
      ((∃ xs, xs = fins N N (Nat.le_refl N) ∧ J xs W') ∨ (∃ pre, True ∧ Jx pre W')) := by
  refine callsIn_of_wp Tryd.func27 rfl hf ?_ hro
  simp only [Tryd.ntmps27, List.size_toArray, List.length_cons, List.length_nil, Nat.reduceAdd, Nat.reduceSub, Array.replicate_succ, Array.replicate_zero, List.push_toArray, List.append_toArray, List.nil_append, List.cons_append]
  have HN := hid hN
  clear hN
  have hli : (len : Int) ≤ 140737488355328 := by omega
  have hci : (len : Int) ≤ (c : Int) := by omega
  gi_wp2
  gi_loopw [3] (fun i wr => ∃ (k : Nat) (hk : k ≤ N), i = .int .i64 ((64 * k + 64 : Nat) : Int) ∧ J (fins N k hk) wr ∧ wr.cell? ⟨bx, 0, none⟩ = some (.slice (some ⟨g, o, none⟩) len c))
    (fun i _ => len + 64 - (intOf i).toNat)
  case atStart => exact ⟨0, Nat.zero_le _, rfl, h0, hbx⟩
  case round =>
    obtain ⟨k, hk, rfl, hJs, hcx⟩ := hrel
    by_cases hlt : k < N
    · obtain ⟨fn, tmps, assign, body, hy, hR⟩ := hY _ ⟨k, hlt⟩ wr hJs (by rw [fins_length]; exact hlt)
      simp only [blkAt] at hy
      obtain ⟨A, hA⟩ : ∃ A, 64 * k = A := ⟨_, rfl⟩
      obtain ⟨E, hE⟩ : ∃ E, A + 64 = E := ⟨_, rfl⟩
      rw [hA] at hy ⊢
      rw [hE]
      have HA := hid hA; have HE := hid hE
      have hEA : (E : Int) - 64 = (A : Int) := by omega
      have hEl : (E : Int) ≤ (len : Int) := by have := HN.out; omega
      have hAE : (A : Int) ≤ (E : Int) := by omega
      have H64 := hid (show E - A = 64 by omega)
      clear hA hE
      rw [← H64.out] at hy
      gi_wp2
      refine hR.mono ?_
      rintro e W3 (⟨rfl, hJ3, hk3⟩ | ⟨rfl, hJx3⟩)
      · have hcx3 : W3.cell? ⟨bx, 0, none⟩ = some (.slice (some ⟨g, o, none⟩) len c) := (World.cell?_of_block (a := ⟨bx, 0, none⟩) (show W3.heap[bx]? = wr.heap[bx]? from hk3)).trans hcx
        gi_wp2
        go_roundw
        case rel => exact ⟨k + 1, hlt, by have := HA.out; have := HE.out; first | (go_num; done) | (go_num; omega), hJ3, hcx3⟩
        case measure => simp [intOf]; omega
      · gi_wp2
        refine bodyPost_ret (results_none rfl _ _ _) rfl ?_
        exact ⟨⟨_, rfl⟩, .inr ⟨_, trivial, hJx3⟩⟩
    · obtain rfl : k = N := by omega
      have hge : ¬ ((64 * k + 64 : Nat) : Int) ≤ (len : Int) := by have := HN.out; omega
      obtain ⟨E, hE⟩ : ∃ E, 64 * k + 64 = E := ⟨_, rfl⟩
      rw [hE] at hge ⊢
      clear hE hlt
      gi_wp2
      go_end0
      exact ⟨⟨_, rfl⟩, .inl hJs⟩
/-- The slice lies in a box of its own; the function knows where. -/
theorem blocks_any (a : Option Addr) (len c : Nat) (w : World) : Calls Tryd.prog 23 #[.slice a len c] w fun e w' =>
    e = .returned (.func (.func 27) #[] #[.pointer (some ⟨w.heap.size, 0, none⟩)]) ∧ w'.cell? ⟨w.heap.size, 0, none⟩ = some (.slice a len c) ∧ Fr No w w' ∧ w'.heap.size = w.heap.size + 1 := by
  go_enter Tryd.func23, Tryd.ntmps23
  go_wp2_with (first
    | ((with_reducible show wpList _ _ _ ({ dst := _, op := .box 22 _, type := _, pos := _, after := _, guard := _ } :: _) _ _); refine wpL_box rfl _ _ rfl (.slice a len c) rfl [.slice a len c] rfl ?_; intro w1 HB1 HF1 HS1)
    | fail)
  go_ret
  exact ⟨rfl, HB1.out.cell 0, HF1.out, HS1.out⟩
/-- The blocks come one behind the other; each round leaves the box alone. -/
theorem blocks_stops (bx g o len c N : Nat) (hN : len = 64 * N + len % 64) (hlen : len ≤ 140737488355328) (hc : len ≤ c) (w : World) (hb : bx < w.heap.size) (hbx : w.cell? ⟨bx, 0, none⟩ = some (.slice (some ⟨g, o, none⟩) len c)) :
    SeqStopsK Fence.wide 2 Tryd.prog 27 #[.pointer (some ⟨bx, 0, none⟩)] (fun x : Fin N => blkAt g o c x) (Kx bx) (fun xs => xs = fins N N (Nat.le_refl N)) (fun _ => True) N w := fun l J Jx W hW _ _ hY h0 =>
  blocks1_in Fence.wide 2 trivial rfl (by decide) l bx g o len c N hN hlen hc J Jx hY W ((hW.cell (p := ⟨bx, 0, none⟩) hb).trans hbx) h0
end Go.Proofs.YtejbanlhgnlliaaDoor.SH
