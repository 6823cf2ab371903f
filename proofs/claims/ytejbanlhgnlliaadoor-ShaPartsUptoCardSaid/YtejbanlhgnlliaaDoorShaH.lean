/-
  The program's hash: what lies in memory; New, the bytes that wait, and these with what makes whole blocks of them.
-/
import Derived.Test.YtejbanlhgnlliaaDoorShaE
import Derived.Test.YtejbanlhgnlliaaDoorShaI
import Derived.Test.YtejbanlhgnlliaaDoorShaF
import Derived.Test.YtejbanlhgnlliaaDoorShaQ
namespace Go.Proofs.YtejbanlhgnlliaaDoor.SH
set_option maxRecDepth 100000
open Go.RowKit K AR

/-! ### Data -/
theorem wS_cg {m m' : Nat → Nat} (h : ∀ i, i < 16 → m i = m' i) : ∀ (n j : Nat), j < n + 16 → wS m n j = wS m' n j
  | 0, j, hj => h j hj
  | n + 1, j, hj => by
    by_cases e : j = n + 16
    · subst e
      rw [wS_new, wS_new, wS_cg h n n (by omega), wS_cg h n (n + 9) (by omega), wS_cg h n (n + 1) (by omega), wS_cg h n (n + 14) (by omega)]
    · rw [wS_low m n (by omega), wS_low m' n (by omega)]
      exact wS_cg h n j (by omega)
theorem rds_cg {w w' : Nat → Nat} (s : Nat → Nat) (h : ∀ i, i < 64 → w i = w' i) : ∀ n, n ≤ 64 → rds w s n = rds w' s n
  | 0, _ => rfl
  | n + 1, hn => by
    show rd (kc n) (w n) (rds w s n) = rd (kc n) (w' n) (rds w' s n)
    rw [h n (by omega), rds_cg s h n (by omega)]
theorem comp_cg (s : Nat → Nat) {m m' : Nat → Nat} (h : ∀ i, i < 16 → m i = m' i) : comp s m = comp s m' := by
  funext i
  rw [comp_def, comp_def, rds_cg s (fun i hi => wS_cg h 48 i (by omega)) 64 (Nat.le_refl _)]
theorem word_congr {l l' : List UInt8} {p q : Nat} (h : ∀ i, i < 4 → l.getD (p + i) 0 = l'.getD (q + i) 0) : word l p = word l' q := by
  unfold word
  have h0 := h 0 (by decide); have h1 := h 1 (by decide); have h2 := h 2 (by decide); have h3 := h 3 (by decide)
  rw [Nat.add_zero, Nat.add_zero] at h0
  rw [h0, h1, h2, h3]
/-- The state hangs on the bytes of the blocks alone. -/
theorem hs_congr {l l' : List UInt8} : ∀ n, (∀ i, i < 64 * n → l.getD i 0 = l'.getD i 0) → hs l n = hs l' n
  | 0, _ => rfl
  | n + 1, h => by
    show comp (hs l n) _ = comp (hs l' n) _
    rw [hs_congr n fun i hi => h i (by omega)]
    refine comp_cg _ fun i hi => word_congr (p := 64 * n + 4 * i) (q := 64 * n + 4 * i) fun j hj => h _ (by omega)
theorem getD_append (l b : List UInt8) {i : Nat} (h : i < l.length) : (l ++ b).getD i 0 = l.getD i 0 := by
  rw [List.getD_eq_getElem?_getD, List.getD_eq_getElem?_getD, List.getElem?_append_left h]
theorem getD_drop (l : List UInt8) (m i : Nat) : (l.drop m).getD i 0 = l.getD (m + i) 0 := by
  rw [List.getD_eq_getElem?_getD, List.getD_eq_getElem?_getD, List.getElem?_drop]
/-- How many whole blocks; and what waits behind them. -/
def q64 (l : List UInt8) : Nat := 64 * (l.length / 64)
def tail (l : List UInt8) : List UInt8 := l.drop (q64 l)
theorem q64_le (l : List UInt8) : q64 l ≤ l.length := by unfold q64; omega
theorem tail_length (l : List UInt8) : (tail l).length = l.length % 64 := by unfold tail q64; rw [List.length_drop]; omega
theorem tail_append (l b : List UInt8) : tail l ++ b = (l ++ b).drop (q64 l) := by
  unfold tail
  rw [List.drop_append_of_le_length (q64_le l)]
theorem hs_append (l b : List UInt8) : hs (l ++ b) (l.length / 64) = hs l (l.length / 64) :=
  hs_congr _ fun i hi => getD_append l b (by omega)
def byt (l : List UInt8) (k : Nat) : Nat → Nat := fun i => (l.getD (64 * k + i) 0).toNat
theorem byt_lt (l : List UInt8) (k : Nat) : B8 (byt l k) := fun _ => UInt8.toNat_lt _
theorem mB_byt (l : List UInt8) (k : Nat) : mB (byt l k) = fun i => word l (64 * k + 4 * i) := by
  funext i
  rfl
/-- The state behind k blocks more. -/
theorem hs_more (L t : List UInt8) (q : Nat) (ht : L.drop (64 * q) = t) (k : Nat) : hs L (q + k + 1) = comp (hs L (q + k)) (mB (byt t k)) := by
  rw [mB_byt]
  show comp _ _ = _
  refine comp_cg _ fun i hi => word_congr fun j hj => ?_
  rw [← ht, getD_drop]
  congr 1
  omega

/-! ### Memory -/
def hcells (l : List UInt8) (f : Nat → Nat) : List Value := bw .u32 (hs l (l.length / 64)) 8 ++ (bw .u8 f 64 ++ [.int .u64 (l.length : Int)])
theorem hcells_length (l : List UInt8) (f : Nat → Nat) : (hcells l f).length = 73 := by simp [hcells]
/-- To the hash in block b the bytes l were written. -/
def HashAt (w : World) (b : Nat) (l : List UInt8) : Prop :=
  ∃ f, Blk w b 51 (hcells l f) ∧ B8 f ∧ ∀ i, i < l.length % 64 → f i = ((tail l).getD i 0).toNat
theorem HashAt.fr {D : Nat → Prop} {w w' : World} {b : Nat} {l : List UInt8} (h : HashAt w b l) (hf : Fr D w w') (hn : ¬ D b) : HashAt w' b l := by
  obtain ⟨f, h1, h2, h3⟩ := h
  exact ⟨f, h1.fr hf hn, h2, h3⟩
theorem HashAt.lt {w : World} {b : Nat} {l : List UInt8} (h : HashAt w b l) : b < w.heap.size := by
  obtain ⟨f, h1, _⟩ := h
  exact h1.lt
theorem hc_state (l : List UInt8) (f : Nat → Nat) : ((hcells l f).drop 0).take 8 = bw .u32 (hs l (l.length / 64)) 8 := by
  unfold hcells
  rw [List.drop_zero]
  exact List.take_left' (by simp)
theorem hc_last (l : List UInt8) (f : Nat → Nat) : ((hcells l f).drop 8).take 64 = bw .u8 f 64 := by
  unfold hcells
  rw [List.drop_left' (by simp)]
  exact List.take_left' (by simp)
theorem hc_len (l : List UInt8) (f : Nat → Nat) : (hcells l f)[72]? = some (.int .u64 (l.length : Int)) := by
  unfold hcells
  rw [List.getElem?_append_right (by simp), List.getElem?_append_right (by simp)]
  simp
theorem hc_byte (l : List UInt8) (f : Nat → Nat) {i : Nat} (h : i < 64) : (hcells l f)[8 + i]? = some (.int .u8 (f i : Int)) := by
  unfold hcells
  rw [List.getElem?_append_right (by simp), List.getElem?_append_left (by simp; omega)]
  simp [bw, h]
/-- The bytes that wait lie in the hash. -/
theorem hash_tail {w : World} {b : Nat} {l : List UInt8} {f : Nat → Nat} (h : Blk w b 51 (hcells l f)) (hf : ∀ i, i < l.length % 64 → f i = ((tail l).getD i 0).toNat) : w.rangeAt b 8 (u8s (tail l)) := by
  intro j v hj
  have hl : j < (tail l).length := by
    have := (List.getElem?_eq_some_iff.1 hj).1
    rwa [u8s_length] at this
  rw [u8s_get _ j hl] at hj
  rw [h.cell, ← hj]
  rw [tail_length] at hl
  rw [hc_byte l f (by omega), hf j hl]
  simp [List.getD, tail_length, hl]
theorem infoHash : (Tryd.prog.info? 51).map (·.size) = some 73 := by kernel_rfl
theorem buildHash (w : World) : (Instr.build 51 #[(0, ba .u32 h0 8)]).run Tryd.prog w = .ok (.agg (hcells [] fun _ => 0).toArray) w := by kernel_rfl
/-- New. -/
theorem new_any (w : World) (hg : Gl w) : Calls Tryd.prog 12 #[] w fun e w' => e = .returned (.pointer (some ⟨w.heap.size, 0, none⟩)) ∧ HashAt w' w.heap.size [] ∧ Fr No w w' := by
  have HG := hid hg; clear hg
  go_enter Tryd.func12, Tryd.ntmps12
  go_wp2_with (first
    | ((with_reducible show wpList _ _ _ ({ dst := _, op := .load 41 _, type := _, pos := _, after := _, guard := _ } :: _) _ _); refine wpL_load rfl _ _ rfl 0 0 rfl (bw .u32 h0 8) _ HG.out.1 Tryd.underlying41 rfl (by simpa using info8w) ?_)
    | ((with_reducible show wpList _ _ _ ({ dst := _, op := .build 51 _, type := _, pos := _, after := _, guard := _ } :: _) _ _); refine wpL_build rfl _ [(0, .tmp 1)] rfl (.agg (hcells [] fun _ => 0).toArray) (buildHash _) ?_)
    | ((with_reducible show wpList _ _ _ ({ dst := _, op := .box 51 _, type := _, pos := _, after := _, guard := _ } :: _) _ _); refine wpL_box rfl _ _ rfl (.agg (hcells [] fun _ => 0).toArray) rfl (hcells [] fun _ => 0) rfl ?_; intro w1 HB1 HF1 HS1)
    | fail)
  go_ret
  exact ⟨rfl, ⟨_, HB1.out, fun _ => Nat.zero_lt_succ _, fun i hi => absurd hi (by simp)⟩, HF1.out⟩
/-- The bytes that wait. -/
theorem waits_any (b : Nat) (l : List UInt8) (w : World) (h : HashAt w b l) (hl : l.length ≤ 281474976710656) : Calls Tryd.prog 22 #[.pointer (some ⟨b, 0, none⟩)] w fun e w' =>
    e = .returned (.slice (some ⟨b, 8, none⟩) (l.length % 64) (l.length % 64)) ∧ w' = w := by
  obtain ⟨f, hB, -, -⟩ := h
  have c72 : w.cell? ⟨b, 72, none⟩ = some (.int .u64 (l.length : Int)) := by rw [hB.cell]; exact hc_len l f
  obtain ⟨L, hL⟩ : ∃ L, l.length = L := ⟨_, rfl⟩
  rw [hL] at c72 hl ⊢
  have hli : (L : Int) ≤ 281474976710656 := by omega
  obtain ⟨r, hr⟩ : ∃ r, L % 64 = r := ⟨_, rfl⟩
  have hri : (L : Int) % 64 = (r : Int) := by omega
  have hr64 : (r : Int) ≤ 64 := by omega
  have hr64n : r ≤ 64 := by omega
  rw [hr]
  clear hr hB hL
  go_enter Tryd.func22, Tryd.ntmps22
  go_wp2_with fail
  go_ret
  exact ⟨rfl, rfl⟩
end Go.Proofs.YtejbanlhgnlliaaDoor.SH
