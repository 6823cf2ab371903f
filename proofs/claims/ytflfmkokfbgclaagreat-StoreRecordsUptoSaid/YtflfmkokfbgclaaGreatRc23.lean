/-
  Part 23 of the proof: StV, StO, StU, StX, StI, StL.
-/
import Derived.Test.YtflfmkokfbgclaaGreatRc21
import Derived.Test.YtflfmkokfbgclaaGreatRc22
import Derived.Test.YtflfmkokfbgclaaGreatRc17
import Derived.Test.YtflfmkokfbgclaaGreatRc18
import Derived.DeepKeys
import Derived.Laws.StructEq
import Derived.Test.YtflfmkokfbgclaaGreatRc02
set_option linter.unusedSimpArgs false
set_option linter.unusedVariables false
namespace Go.Proofs.YtflfmkokfbgclaaGreat.ST
set_option maxRecDepth 100000
open Go.RowKit K L

abbrev vol (bd : Nat) : Value := .agg #[pt bd]
def areaN (n : Nat) : Nat := (n - 1) / 4
theorem infoVol : (Tryz.prog.info? 59).map (·.size) = some 1 := by kernel_rfl
section
variable {w : World} {bd : Nat} {Z : Nat → Prop} {u : U}
theorem dk_len (h : Dk w bd Z u) : 1 ≤ u.L.length ∧ u.L.length ≤ 4096 := by
  have h1 := h.ok.n0
  have h2 := h.ok.n1
  simp [U.st] at h1 h2
  omega
set_option maxHeartbeats 4000000 in
theorem area_any (h : Dk w bd Z u) : Calls Tryz.prog 56 #[vol bd] w fun e w' => e = .returned (.int .i64 (areaN u.L.length : Int)) ∧ Fr No w w' := by
  have H := hid h
  have hl := dk_len h
  obtain ⟨n, hn⟩ : ∃ n, u.L.length = n := ⟨_, rfl⟩
  have HNE := hid hn
  rw [hn] at hl ⊢
  have h1 : (1 : Int) ≤ n := by omega
  have h2 : (n : Int) ≤ 4096 := by omega
  have HL := hid hl
  clear h hl hn
  go_enter Tryz.func56, Tryz.ntmps56
  go_wp2_with ((with_reducible show wpList _ _ _ (⟨_, .box 59 _, _, _, _, _⟩ :: _) _ _); refine wpL_box rfl _ _ rfl _ rfl [pt bd] rfl ?_; intro w1 HB1 F1 HS1; have x0 : w1.cell? ⟨w.heap.size, 0, none⟩ = some (pt bd) := HB1.out.cell 0)
  refine (dsectors_any (D.Rep.no H.out F1.out)).mono ?_
  rintro e w2 ⟨rfl, rfl⟩
  rw [HNE.out]
  go_wp2_with fail
  go_ret
  refine ⟨?_, F1.out⟩
  have : ((areaN n : Nat) : Int) = ((n : Int) - 1) / 4 := by have := HL.out; unfold areaN; omega
  rw [this]
  first | rfl | (simp; done)
set_option maxHeartbeats 4000000 in
theorem capacity_any (h : Dk w bd Z u) : Calls Tryz.prog 36 #[vol bd] w fun e w' => e = .returned (.int .i64 ((areaN u.L.length * 64 : Nat) : Int)) ∧ Fr No w w' := by
  have H := hid h
  have hl := dk_len h
  obtain ⟨n, hn⟩ : ∃ n, areaN u.L.length = n := ⟨_, rfl⟩
  have hn2 : n ≤ 1024 := by rw [← hn]; unfold areaN; omega
  have h2 : (n : Int) ≤ 1024 := by omega
  have HNE := hid hn
  rw [hn]
  clear h hl hn hn2
  go_enter Tryz.func36, Tryz.ntmps36
  go_wp2_with (first
    | ((with_reducible show wpList _ _ _ (⟨_, .box 59 _, _, _, _, _⟩ :: _) _ _); refine wpL_box rfl _ _ rfl _ rfl [pt bd] rfl ?_; intro w1 HB1 F1 HS1)
    | ((with_reducible show wpList _ _ _ (⟨_, .load 59 _, _, _, _, _⟩ :: _) _ _); refine wpL_load rfl _ _ rfl w.heap.size 0 rfl [pt bd] _ (HB1.out.range 0 _ rfl) rfl rfl infoVol ?_))
  refine (area_any (D.Rep.no H.out F1.out)).mono ?_
  rintro e w2 ⟨rfl, f2⟩
  have HF2 := hid f2
  rw [HNE.out]
  clear f2
  go_wp2_with fail
  go_ret
  exact ⟨by first | rfl | (push_cast; rfl) | (simp; done), F1.out.trans' HF2.out⟩
set_option maxHeartbeats 4000000 in
theorem start_any (h : Dk w bd Z u) (a : Nat) (ha : a ≤ 2) : Calls Tryz.prog 70 #[vol bd, .int .i64 (a : Int)] w fun e w' => e = .returned (.int .i64 ((1 + a * areaN u.L.length : Nat) : Int)) ∧ Fr No w w' := by
  have H := hid h
  have hl := dk_len h
  obtain ⟨n, hn⟩ : ∃ n, areaN u.L.length = n := ⟨_, rfl⟩
  have hn2 : n ≤ 1024 := by rw [← hn]; unfold areaN; omega
  have h2 : (n : Int) ≤ 1024 := by omega
  have HNE := hid hn
  rw [hn]
  clear h hl hn hn2
  have hall : a = 0 ∨ a = 1 ∨ a = 2 := by omega
  rcases hall with rfl | rfl | rfl
  all_goals
    clear ha
    go_enter Tryz.func70, Tryz.ntmps70
    go_wp2_with (first
      | ((with_reducible show wpList _ _ _ (⟨_, .box 59 _, _, _, _, _⟩ :: _) _ _); refine wpL_box rfl _ _ rfl _ rfl [pt bd] rfl ?_; intro w1 HB1 F1 HS1)
      | ((with_reducible show wpList _ _ _ (⟨_, .load 59 _, _, _, _, _⟩ :: _) _ _); refine wpL_load rfl _ _ rfl w.heap.size 0 rfl [pt bd] _ (HB1.out.range 0 _ rfl) rfl rfl infoVol ?_))
    refine (area_any (D.Rep.no H.out F1.out)).mono ?_
    rintro e w2 ⟨rfl, f2⟩
    have HF2 := hid f2
    rw [HNE.out]
    clear f2
    go_wp2_with fail
    go_ret
    exact ⟨by first | rfl | (congr 2; push_cast; omega) | (simp; done), F1.out.trans' HF2.out⟩
end
end Go.Proofs.YtflfmkokfbgclaaGreat.ST

namespace Go.Proofs.YtflfmkokfbgclaaGreat.ST
set_option maxRecDepth 100000
open Go.RowKit K L

/-- A root as data. -/
structure Rt where
  area : Nat
  epoch : Nat
  len : Nat
  sum : Nat
deriving DecidableEq
def Rt.cells (r : Rt) : List Value := [.int .i64 (r.area : Int), .int .u32 (r.epoch : Int), .int .i64 (r.len : Int), .int .u32 (r.sum : Int)]
def rtOf (l : List UInt8) : Rt := ⟨(l.getD 6 0).toNat, nm ((l.drop 8).take 4), nm ((l.drop 12).take 4), nm ((l.drop 16).take 4)⟩
def Rt.body (r : Rt) : List UInt8 := [80, 76, UInt8.ofNat r.area, 0] ++ le 4 r.epoch ++ le 4 r.len ++ le 4 r.sum ++ List.replicate 44 0
def Rt.sec (r : Rt) : List UInt8 := le 4 (S.add 0 r.body) ++ r.body
theorem Rt.body_len (r : Rt) : r.body.length = 60 := by simp [Rt.body]
theorem Rt.sec_len (r : Rt) : r.sec.length = 64 := by simp [Rt.sec, Rt.body_len]
theorem nm_snoc : ∀ (l : List UInt8) (c : UInt8), nm (l ++ [c]) = nm l + 256 ^ l.length * c.toNat
  | [], c => by simp [nm]
  | a :: l, c => by
    simp only [List.cons_append, nm, nm_snoc l c, List.length_cons, Nat.pow_succ]
    rw [Nat.mul_add, Nat.mul_comm (256 ^ l.length) 256, Nat.mul_assoc]
    omega
theorem nm_more {l : List UInt8} {i j : Nat} (h : i + j < l.length) : nm ((l.drop i).take (j + 1)) = nm ((l.drop i).take j) + 256 ^ j * l[i + j].toNat := by
  have e : (l.drop i).take (j + 1) = (l.drop i).take j ++ [l[i + j]] := by
    rw [List.take_add_one, List.getElem?_drop, List.getElem?_eq_getElem h]; rfl
  rw [e, nm_snoc, List.length_take, List.length_drop, Nat.min_eq_left (by omega)]
theorem or_more {m c k : Nat} (h : m < 2 ^ k) (hc : c < 256) (hk : 2 ^ k * 256 ≤ 4294967296) : bits .or .u32 (m : Int) ((2 ^ k * c : Nat) : Int) = ((m + 2 ^ k * c : Nat) : Int) := by
  have hb : 2 ^ k * c < 2 ^ k * 256 := (Nat.mul_lt_mul_left (Nat.two_pow_pos k)).2 hc
  have hb1 : 2 ^ k ≤ 2 ^ k * 256 := Nat.le_mul_of_pos_right _ (by decide)
  rw [u32_or_nat m (2 ^ k * c) (by omega) (by omega)]
  have := Nat.shiftLeft_add_eq_or_of_lt (i := k) h c
  rw [Nat.shiftLeft_eq, Nat.mul_comm c] at this
  rw [Nat.or_comm, ← this, Nat.add_comm]

set_option maxHeartbeats 4000000 in
theorem rnum_any (bb i : Nat) (l : List UInt8) (w : World) (hB : Blk w bb 101 (u8s l)) (hl : l.length = 64) (h : i + 4 ≤ 64) :
    Calls Tryz.prog 91 #[.int .i64 (i : Int), .pointer (some ⟨bb, 0, none⟩)] w fun e w' => e = .returned (.int .u32 (nm ((l.drop i).take 4) : Nat)) ∧ w = w' := by
  have HB := hid hB; have HL := hid hl
  have hi : (i : Int) ≤ 60 := by omega
  clear hB hl
  go_enter Tryz.func91, Tryz.ntmps91
  go_wp2_with fail
  go_loop [4, 6] (fun m j => ∃ k : Nat, k ≤ 4 ∧ j = .int .i64 (k : Int) ∧ m = .int .u32 ((nm ((l.drop i).take k) : Nat) : Int)) (fun _ j => 4 - (intOf j).toNat)
  case atStart => exact ⟨0, by omega, by go_num, by simp [nm]⟩
  case round =>
    obtain ⟨k, hk, rfl, rfl⟩ := hrel
    by_cases hlt : k < 4
    · have hik : i + k < l.length := by have := HL.out; omega
      have c1 : w.cell? ⟨bb, i + k, none⟩ = _ := HB.out.cell (i + k)
      rw [u8s_get _ _ hik] at c1
      have HS := hid (nm_more (j := k) hik)
      have hlt2 := nm_lt ((l.drop i).take k)
      have hcl := l[i + k].toNat_lt
      rw [show ((l.drop i).take k).length = k by simp; omega] at hlt2
      generalize nm ((l.drop i).take k) = m at hlt2 HS ⊢
      generalize l[i + k].toNat = c at hcl c1 HS ⊢
      have hall : k = 0 ∨ k = 1 ∨ k = 2 ∨ k = 3 := by omega
      have hcl2 : c < 256 := hcl
      rcases hall with rfl | rfl | rfl | rfl
      all_goals
        clear hlt hk hik
        simp only [Nat.reducePow, Nat.add_zero] at hlt2 c1
        go_wp2_with fail
        refine ⟨⟨_, ?_, rfl, ?_⟩, ?_⟩
      all_goals first | (simp [intOf]; done) | skip
      all_goals (have hs := HS.out; simp only [Nat.reduceAdd, Nat.reducePow, Nat.one_mul] at hs; rw [hs])
      · have e := or_more (m := m) (c := c) (k := 0) hlt2 hcl2 (by decide)
        simp only [Nat.reducePow, Nat.one_mul] at e
        rw [e]
      · have e := or_more (m := m) (c := c) (k := 8) hlt2 hcl2 (by decide)
        simp only [Nat.reducePow, Nat.one_mul] at e
        rw [show ((256 * c : Nat) : Int) = (c : Int) * 256 by omega] at e
        rw [e]
      · have e := or_more (m := m) (c := c) (k := 16) hlt2 hcl2 (by decide)
        simp only [Nat.reducePow, Nat.one_mul] at e
        rw [show ((65536 * c : Nat) : Int) = (c : Int) * 65536 by omega] at e
        rw [e]
      · have e := or_more (m := m) (c := c) (k := 24) hlt2 hcl2 (by decide)
        simp only [Nat.reducePow, Nat.one_mul] at e
        rw [show ((16777216 * c : Nat) : Int) = (c : Int) * 16777216 by omega] at e
        rw [e]
    · have hjk : k = 4 := by omega
      subst hjk
      go_wp2
      go_ret
      exact ⟨rfl, rfl⟩
theorem zeroRt (w : World) : (zeroValue 66).run Tryz.prog w = .ok (.agg #[.int .i64 0, .int .u32 0, .int .i64 0, .int .u32 0]) w := by kernel_rfl
theorem infoRt : (Tryz.prog.info? 66).map (·.size) = some 4 := by kernel_rfl
theorem hentRnum (vs : Array Value) (w : World) : (callFunc 91 vs).run Tryz.prog w = .ok (.enter 91 vs) w := by kernel_rfl
set_option maxHeartbeats 8000000 in
theorem rootOf_any (l : List UInt8) (hl : l.length = 64) (w : World) :
    Calls Tryz.prog 68 #[.agg (u8s l).toArray] w fun e w' => e = .returned (.agg (rtOf l).cells.toArray) ∧ Fr No w w' := by
  have HL := hid hl
  have hmf : ∀ (fn : Fn) (first cap : Array Value) (w : World), (Instr.makeFunc fn first cap).run Tryz.prog w = .ok (.func fn first cap) w := fun _ _ _ _ => rfl
  have L12 : nm ((l.drop 12).take 4) < 4294967296 := Nat.lt_of_lt_of_le (nm_lt _) (Nat.pow_le_pow_right (by decide) (by simp; omega) : 256 ^ ((l.drop 12).take 4).length ≤ 256 ^ 4)
  have l6 : (l.getD 6 0).toNat < 256 := (l.getD 6 0).toNat_lt
  have hlt6 : 6 < l.length := by omega
  have h60 : (l[6].toNat : Int) = ((l.getD 6 0).toNat : Int) := by rw [List.getD_eq_getElem?_getD, List.getElem?_eq_getElem hlt6]; rfl
  unfold rtOf
  obtain ⟨n6, h6⟩ : ∃ n, (l.getD 6 0).toNat = n := ⟨_, rfl⟩
  obtain ⟨n8, h8⟩ : ∃ n, nm ((l.drop 8).take 4) = n := ⟨_, rfl⟩
  obtain ⟨n12, h12⟩ : ∃ n, nm ((l.drop 12).take 4) = n := ⟨_, rfl⟩
  obtain ⟨n16, h16⟩ : ∃ n, nm ((l.drop 16).take 4) = n := ⟨_, rfl⟩
  rw [h6] at l6 h60
  rw [h12] at L12
  rw [h6, h8, h12, h16]
  have H8 := hid h8; have H12 := hid h12; have H16 := hid h16; have H60 := hid h60; have HLT := hid hlt6
  clear h6 h8 h12 h16 h60 hl
  go_enter Tryz.func68, Tryz.ntmps68
  go_wp2_with (first
    | ((with_reducible show wpList _ _ _ (⟨_, .box 101 _, _, _, _, _⟩ :: _) _ _); refine wpL_box rfl _ _ rfl _ rfl (u8s l) rfl ?_; intro w1 HB1 HF1 HS1)
    | ((with_reducible show wpList _ _ _ (⟨_, .alloc 66, _, _, _, _⟩ :: _) _ _); refine wpL_alloc rfl _ rfl _ zeroRt [.int .i64 0, .int .u32 0, .int .i64 0, .int .u32 0] rfl ?_; intro w2 HB2 HF2 HS2)
    | fail)
  have HB3 := hid ((HB1.out.fr HF2.out id).drew)
  have HB4 := hid (HB2.out.drew)
  have HF4 := hid (Fr.trans' HF1.out (HF2.out).drew)
  have c6 : w2.cell? ⟨w.heap.size, 6, none⟩ = some (.int .u8 (n6 : Int)) := by
    have := HB3.out.cell 6
    rw [u8s_get _ _ HLT.out, H60.out] at this
    exact this
  have N8 := hid (rnum_any w.heap.size 8 l w2.drew HB3.out HL.out (by decide))
  have N12 := hid (rnum_any w.heap.size 12 l w2.drew HB3.out HL.out (by decide))
  have N16 := hid (rnum_any w.heap.size 16 l w2.drew HB3.out HL.out (by decide))
  rw [H8.out] at N8
  rw [H12.out] at N12
  rw [H16.out] at N16
  have W6 : Hid (IntKind.i64.wrap (n6 : Int) = (n6 : Int)) := hid (L.wrap_small (by omega) (by omega))
  have W12 : Hid (IntKind.i64.wrap (n12 : Int) = (n12 : Int)) := hid (L.wrap_small (by omega) (by omega))
  have hS1 := HS1.out
  have hold : Facts.hold [(1, fun w' => w'.cell? ⟨w.heap.size, 6, none⟩ = some (.int .u8 (n6 : Int)))] w2.drew := Facts.cons_hold c6 (Facts.nil_hold _)
  refine wpD_region hold (by kernel_rfl) 12 rfl ?_
  (refine wpD_plain 0 (v := ?_) rfl (by kernel_rfl) (by kernel_rfl) (by kernel_rfl) (fun _ _ _ h => h) (by rfl) ?_ (by assumption) ?_; rotate_left; (intro _w; go_simp; try with_reducible rfl); simp only [Act.put, List.setIfInBounds_toArray, List.set_cons_zero, List.set_cons_succ])
  (refine wpD_take 1 _ rfl (by kernel_rfl) (by kernel_rfl) (by kernel_rfl) (fun _ _ _ h => h) List.mem_cons_self (by rfl) (v := ?_) ?_ (by assumption) ?_; rotate_left; (intro _w _hw; go_simp; try with_reducible rfl); simp only [Act.put, List.setIfInBounds_toArray, List.set_cons_zero, List.set_cons_succ])
  (refine wpD_plain 2 (v := (.int .i64 (n6 : Int))) rfl (by kernel_rfl) (by kernel_rfl) (by kernel_rfl) (fun _ _ _ h => h) (by rfl) ?_ (by assumption) ?_; (intro _w; go_simp; exact W6.out); simp only [Act.put, List.setIfInBounds_toArray, List.set_cons_zero, List.set_cons_succ])
  (refine wpD_plain 3 (v := ?_) rfl (by kernel_rfl) (by kernel_rfl) (by kernel_rfl) (fun _ _ _ h => h) (by rfl) ?_ (by assumption) ?_; rotate_left; (intro _w; go_simp; try with_reducible rfl); simp only [Act.put, List.setIfInBounds_toArray, List.set_cons_zero, List.set_cons_succ])
  (refine wpD_plain 5 (v := ?_) rfl (by kernel_rfl) (by kernel_rfl) (by kernel_rfl) (fun _ _ _ h => h) (by rfl) ?_ (by assumption) ?_; rotate_left; (intro _w; go_simp; try with_reducible rfl); simp only [Act.put, List.setIfInBounds_toArray, List.set_cons_zero, List.set_cons_succ])
  (refine wpD_plain 8 (v := ?_) rfl (by kernel_rfl) (by kernel_rfl) (by kernel_rfl) (fun _ _ _ h => h) (by rfl) ?_ (by assumption) ?_; rotate_left; (intro _w; go_simp; try with_reducible rfl); simp only [Act.put, List.setIfInBounds_toArray, List.set_cons_zero, List.set_cons_succ])
  clear hold
  refine wpD_only 4 [(1, fun w' => w'.cell? ⟨w.heap.size, 6, none⟩ = some (.int .u8 (n6 : Int)))] rfl (by kernel_rfl) (by kernel_rfl) (by rfl) (fun K4 hK4 => ?_)
  refine wp_call (.tmp 8) _ _ rfl 91 [.pointer (some ⟨w.heap.size, 0, none⟩)] rfl hentRnum [.int .i64 8, .pointer (some ⟨w.heap.size, 0, none⟩)] (by rfl) ?_
  refine N8.out.mono ?_
  rintro e wq ⟨rfl, rfl⟩
  refine ⟨_, rfl, hK4 _ _ (Facts.cons_hold c6 (Facts.nil_hold _)) ?_⟩
  clear hK4 K4
  simp only [Act.put, List.setIfInBounds_toArray, List.set_cons_zero, List.set_cons_succ]
  refine wpD_only 6 [(1, fun w' => w'.cell? ⟨w.heap.size, 6, none⟩ = some (.int .u8 (n6 : Int)))] rfl (by kernel_rfl) (by kernel_rfl) (by rfl) (fun K6 hK6 => ?_)
  refine wp_call (.tmp 10) _ _ rfl 91 [.pointer (some ⟨w.heap.size, 0, none⟩)] rfl hentRnum [.int .i64 12, .pointer (some ⟨w.heap.size, 0, none⟩)] (by rfl) ?_
  refine N12.out.mono ?_
  rintro e wq ⟨rfl, rfl⟩
  have hold : Facts.hold [(1, fun w' => w'.cell? ⟨w.heap.size, 6, none⟩ = some (.int .u8 (n6 : Int)))] w2.drew := Facts.cons_hold c6 (Facts.nil_hold _)
  refine ⟨_, rfl, hK6 _ _ (Facts.cons_hold c6 (Facts.nil_hold _)) ?_⟩
  clear hK6 K6
  simp only [Act.put, List.setIfInBounds_toArray, List.set_cons_zero, List.set_cons_succ]
  (refine wpD_plain 7 (v := (.int .i64 (n12 : Int))) rfl (by kernel_rfl) (by kernel_rfl) (by kernel_rfl) (fun _ _ _ h => h) (by rfl) ?_ (by assumption) ?_; (intro _w; go_simp; exact W12.out); simp only [Act.put, List.setIfInBounds_toArray, List.set_cons_zero, List.set_cons_succ])
  refine wpD_only 9 [(1, fun w' => w'.cell? ⟨w.heap.size, 6, none⟩ = some (.int .u8 (n6 : Int)))] rfl (by kernel_rfl) (by kernel_rfl) (by rfl) (fun K9 hK9 => ?_)
  refine wp_call (.tmp 13) _ _ rfl 91 [.pointer (some ⟨w.heap.size, 0, none⟩)] rfl hentRnum [.int .i64 16, .pointer (some ⟨w.heap.size, 0, none⟩)] (by rfl) ?_
  refine N16.out.mono ?_
  rintro e wq ⟨rfl, rfl⟩
  refine ⟨_, rfl, hK9 _ _ (Facts.cons_hold c6 (Facts.nil_hold _)) ?_⟩
  clear hK9 K9
  simp only [Act.put, List.setIfInBounds_toArray, List.set_cons_zero, List.set_cons_succ]
  (refine wpD_plain 10 (v := (.agg (Rt.cells ⟨n6, n8, n12, n16⟩).toArray)) rfl (by kernel_rfl) (by kernel_rfl) (by kernel_rfl) (fun _ _ _ h => h) (by rfl) ?_ (by assumption) ?_; (intro _w; go_simp; rfl); simp only [Act.put, List.setIfInBounds_toArray, List.set_cons_zero, List.set_cons_succ])
  refine wpD_only 11 [] rfl (by kernel_rfl) (by kernel_rfl) (by rfl) (fun K11 hK11 => ?_)
  refine wp_storeB 66 _ _ rfl w1.heap.size 0 (Rt.cells ⟨n6, n8, n12, n16⟩) rfl rfl _ _ HB4.out (by simp [Rt.cells]) (by rw [infoRt]; rfl) (by intro v hv; simp [Rt.cells] at hv; rcases hv with rfl | rfl | rfl | rfl <;> rfl) ?_
  intro w5 HB5 HF5 HS5
  refine hK11 _ _ (Facts.nil_hold _) ?_
  clear hK11 K11 hold
  simp only [Act.put, List.setIfInBounds_toArray, List.set_cons_zero, List.set_cons_succ]
  refine wpD_done (by kernel_rfl) ?_ _
  go_wp2_with fail
  refine ret_cell rfl _ rfl HB5.out rfl rfl (by simp [spl, infoRt, Rt.cells]) rfl ?_
  exact ⟨by simp [spl, Rt.cells], HF4.out.trans HF5.out (fun k hk => .inr (by have e' : k = w1.heap.size := hk; omega))⟩
end Go.Proofs.YtflfmkokfbgclaaGreat.ST

namespace Go.Proofs.YtflfmkokfbgclaaGreat.ST
set_option maxRecDepth 100000
open Go.RowKit K L

theorem rput_step {wr : World} {bb i k n : Nat} {l : List UInt8} {ty : TypeId} (hB : Blk wr bb ty (u8s (putl l i (le k n)))) (hl : l.length = 64) (h : i + 4 ≤ 64) (hk : k < 4) {v : Int} (hv : v = ((n / 256 ^ k : Nat) : Int) % 256) :
    Blk (wr.setCell ⟨bb, i + k, none⟩ (.int .u8 v)) bb ty (u8s (putl l i (le (k + 1) n))) := by
  have h2 := hB.set (i + k) (.int .u8 v)
  rw [hv, u8_of_u32] at h2
  rw [u8s_set] at h2
  have h3 := putl_snoc (l := l) (o := i) (xs := le k n) (c := UInt8.ofNat (n / 256 ^ k)) (by rw [le_length]; omega)
  rw [le_length, ← le_snoc] at h3
  rw [hv, u8_of_u32]
  rwa [h3] at h2
set_option maxHeartbeats 4000000 in
theorem rput_any (bb i n : Nat) (l : List UInt8) (w : World) (hB : Blk w bb 101 (u8s l)) (hl : l.length = 64) (h : i + 4 ≤ 64) (hn : n < 4294967296) :
    Calls Tryz.prog 92 #[.int .i64 (i : Int), .int .u32 (n : Int), .pointer (some ⟨bb, 0, none⟩)] w fun e w' => e = .returned (.tuple #[]) ∧ Blk w' bb 101 (u8s (putl l i (le 4 n))) ∧ Fr (fun b => b = bb) w w' ∧ w'.heap.size = w.heap.size := by
  have HB := hid hB; have HL := hid hl; have HN := hid hn
  have hi : (i : Int) ≤ 60 := by omega
  have hn0 : (n : Int) < 4294967296 := by omega
  clear hB hl hn
  go_enter Tryz.func92, Tryz.ntmps92
  go_wp2_with fail
  go_loopw [6] (fun j wr => ∃ k : Nat, k ≤ 4 ∧ j = .int .i64 (k : Int) ∧ Hid (Blk wr bb 101 (u8s (putl l i (le k n)))) ∧ Hid (Fr (fun b => b = bb) w wr) ∧ Hid (wr.heap.size = w.heap.size)) (fun j _ => 4 - (intOf j).toNat)
  case atStart => exact ⟨0, by omega, rfl, hid (by rw [le, putl_nil]; exact HB.out), hid (Fr.refl _ _), hid rfl⟩
  case round =>
    obtain ⟨k, hk, rfl, HR, HF, HZ⟩ := hrel
    by_cases hlt : k < 4
    · have c1 : wr.cell? ⟨bb, i + k, none⟩ = _ := HR.out.cell (i + k)
      have f1 := HR.out.frozen (i + k)
      have hlen : i + k < (putl l i (le k n)).length := by rw [putl_length (by simp [HL.out]; omega), HL.out]; omega
      rw [u8s_get _ _ hlen] at c1
      generalize ((putl l i (le k n))[i + k].toNat : Int) = old at c1
      have HX := hid hlen; clear hlen
      have HS : Hid (le (k + 1) n = le k n ++ [UInt8.ofNat (n / 256 ^ k)]) := hid (le_snoc k n)
      have hall : k = 0 ∨ k = 1 ∨ k = 2 ∨ k = 3 := by omega
      rcases hall with rfl | rfl | rfl | rfl
      all_goals
        clear hlt hk
        try simp only [Nat.add_zero] at c1 f1
        go_wp2_with fail
        refine ⟨⟨_, ?_, rfl, hid ?_, hid (HF.out.setCell _ _ (.inl rfl)), hid (by rw [World.size_setCell]; exact HZ.out)⟩, ?_⟩
      all_goals first | (simp [intOf]; done) | skip
      · exact rput_step (k := 0) HR.out HL.out h (by decide) (by simp)
      · exact rput_step (k := 1) HR.out HL.out h (by decide) (by simp only [Nat.reducePow]; omega)
      · exact rput_step (k := 2) HR.out HL.out h (by decide) (by simp only [Nat.reducePow]; omega)
      · exact rput_step (k := 3) HR.out HL.out h (by decide) (by simp only [Nat.reducePow]; omega)
    · have hjk : k = 4 := by omega
      subst hjk
      go_wp2
      go_end0
      exact ⟨rfl, HR.out, HF.out, HZ.out⟩
/-- The bytes of a root ahead of its checksum. -/
def Rt.raw (r : Rt) : List UInt8 := [0, 0, 0, 0] ++ r.body
def Rt.hd (r : Rt) : List UInt8 := ((zeros64.set 4 80).set 5 76).set 6 (UInt8.ofNat r.area)
theorem raw_put (r : Rt) : putl (putl (putl r.hd 8 (le 4 r.epoch)) 12 (le 4 r.len)) 16 (le 4 r.sum) = r.raw := rfl
theorem sec_put (r : Rt) : putl r.raw 0 (le 4 (S.add 0 r.body)) = r.sec := by simp [putl, Rt.raw, Rt.sec]
structure Rt.Ok (r : Rt) : Prop where
  a : r.area < 256
  e : r.epoch < 4294967296
  l : r.len < 4294967296
  s : r.sum < 4294967296
theorem info101 : (Tryz.prog.info? 101).map (·.size) = some 64 := by kernel_rfl
set_option maxHeartbeats 8000000 in
theorem sector_any (r : Rt) (hr : r.Ok) (w : World) :
    Calls Tryz.prog 69 #[.agg r.cells.toArray] w fun e w' => e = .returned (.agg (u8s r.sec).toArray) ∧ Fr No w w' := by
  obtain ⟨a, e, n, s⟩ := r
  obtain ⟨ha, he, hn, hs⟩ := hr
  simp only at ha he hn hs
  have hmf : ∀ (fn : Fn) (first cap : Array Value) (w : World), (Instr.makeFunc fn first cap).run Tryz.prog w = .ok (.func fn first cap) w := fun _ _ _ _ => rfl
  have HSEC := hid (sec_put ⟨a, e, n, s⟩)
  obtain ⟨sec, hsec⟩ : ∃ x, Rt.sec ⟨a, e, n, s⟩ = x := ⟨_, rfl⟩
  rw [hsec] at HSEC ⊢
  clear hsec
  go_enter Tryz.func69, Tryz.ntmps69
  go_wp2_with (first
    | ((with_reducible show wpList _ _ _ (⟨_, .box 66 _, _, _, _, _⟩ :: _) _ _); refine wpL_box rfl _ _ rfl _ rfl (Rt.cells ⟨a, e, n, s⟩) rfl ?_; intro w1 HB1 HF1 HS1)
    | ((with_reducible show wpList _ _ _ (⟨_, .alloc 101, _, _, _, _⟩ :: _) _ _); refine wpL_alloc rfl _ rfl _ zero89 (u8s zeros64) rfl ?_; intro w2 HB2 HF2 HS2)
    | fail)
  rename_i wr HBr HFr HSr K0 a0
  have hS1 := HS1.out; have hSr := HSr.out; have hS2 := HS2.out
  obtain ⟨bb, hbb⟩ : ∃ b, wr.heap.size = b := ⟨_, rfl⟩
  obtain ⟨br, hbr⟩ : ∃ b, w1.heap.size = b := ⟨_, rfl⟩
  obtain ⟨b0, hb0⟩ : ∃ b, w.heap.size = b := ⟨_, rfl⟩
  have HF3 : Hid (Fr No w w2.drew) := hid (Fr.trans' (HF1.out.trans' HFr.out) (HF2.out).drew)
  have HBX := hid ((HB1.out.fr HFr.out id).fr HF2.out id).drew
  have HBR := hid (HBr.out.fr HF2.out id).drew
  have HBB := hid HB2.out.drew
  clear HB1 HF1 HFr HF2 HBr HB2 HS1 HSr HS2
  rw [hb0] at HBX hS1 ⊢
  rw [hbr] at HBR hS1 hSr ⊢
  rw [hbb] at HBB hSr hS2 ⊢
  have HNE : Hid (¬ b0 = bb) := hid (by omega)
  have HNR : Hid (¬ br = bb) := hid (by omega)
  have HLE : Hid (w.heap.size ≤ br ∧ w.heap.size ≤ bb) := hid (by omega)
  clear hS1 hSr hS2 hbb hbr hb0
  have W0 : Hid (IntKind.u8.wrap (a : Int) = (a : Int)) := hid (by simp only [IntKind.wrap_u8]; omega)
  have c0 : w2.cell? ⟨b0, 0, none⟩ = some (.int .i64 (a : Int)) := HBX.out.cell 0
  have hold : Facts.hold [(1, fun w' => w'.cell? ⟨b0, 0, none⟩ = some (.int .i64 (a : Int)))] w2.drew := Facts.cons_hold c0 (Facts.nil_hold _)
  refine wpD_region hold (by kernel_rfl) 9 rfl ?_
  (refine wpD_plain 0 (v := ?_) rfl (by kernel_rfl) (by kernel_rfl) (by kernel_rfl) (fun _ _ _ h => h) (by rfl) ?_ (by assumption) ?_; rotate_left; (intro _w; go_simp; try with_reducible rfl); simp only [Act.put, List.setIfInBounds_toArray, List.set_cons_zero, List.set_cons_succ])
  (refine wpD_take 1 _ rfl (by kernel_rfl) (by kernel_rfl) (by kernel_rfl) (fun _ _ _ h => h) List.mem_cons_self (by rfl) (v := ?_) ?_ (by assumption) ?_; rotate_left; (intro _w _hw; go_simp; try with_reducible rfl); simp only [Act.put, List.setIfInBounds_toArray, List.set_cons_zero, List.set_cons_succ])
  (refine wpD_plain 2 (v := (.int .u8 (a : Int))) rfl (by kernel_rfl) (by kernel_rfl) (by kernel_rfl) (fun _ _ _ h => h) (by rfl) ?_ (by assumption) ?_; (intro _w; go_simp; exact W0.out); simp only [Act.put, List.setIfInBounds_toArray, List.set_cons_zero, List.set_cons_succ])
  (refine wpD_plain 3 (v := ?_) rfl (by kernel_rfl) (by kernel_rfl) (by kernel_rfl) (fun _ _ _ h => h) (by rfl) ?_ (by assumption) ?_; rotate_left; (intro _w; go_simp; try with_reducible rfl); simp only [Act.put, List.setIfInBounds_toArray, List.set_cons_zero, List.set_cons_succ])
  refine wpD_only 4 [(1, fun w' => w'.cell? ⟨b0, 0, none⟩ = some (.int .i64 (a : Int)))] rfl (by kernel_rfl) (by kernel_rfl) (by rfl) (fun K4 hK4 => ?_)
  refine wp_set bb 4 (.int .u8 80) 101 _ HBB.out (by decide) ?_ ?_
  · intro w hc hf
    obtain ⟨old, ho⟩ := Option.isSome_iff_exists.1 hc
    clear hc c0
    go_simp
  intro w3 HB3 HF3' HS3
  have d0 : w3.cell? ⟨b0, 0, none⟩ = some (.int .i64 (a : Int)) := HF3'.out.cell (w := w2.drew) c0 HNE.out
  have hold : Facts.hold [(1, fun w' => w'.cell? ⟨b0, 0, none⟩ = some (.int .i64 (a : Int)))] w3 := Facts.cons_hold d0 (Facts.nil_hold _)
  refine hK4 _ _ hold ?_
  clear hK4 K4
  simp only [Act.put, List.setIfInBounds_toArray, List.set_cons_zero, List.set_cons_succ]
  rw [show ((80 : Int)) = ((80 : UInt8).toNat : Int) from rfl, u8s_set] at HB3
  (refine wpD_plain 5 (v := ?_) rfl (by kernel_rfl) (by kernel_rfl) (by kernel_rfl) (fun _ _ _ h => h) (by rfl) ?_ (by assumption) ?_; rotate_left; (intro _w; go_simp; try with_reducible rfl); simp only [Act.put, List.setIfInBounds_toArray, List.set_cons_zero, List.set_cons_succ])
  refine wpD_only 6 [(1, fun w' => w'.cell? ⟨b0, 0, none⟩ = some (.int .i64 (a : Int)))] rfl (by kernel_rfl) (by kernel_rfl) (by rfl) (fun K6 hK6 => ?_)
  refine wp_set bb 5 (.int .u8 76) 101 _ HB3.out (by decide) ?_ ?_
  · intro w hc hf
    obtain ⟨old, ho⟩ := Option.isSome_iff_exists.1 hc
    clear hc c0 d0
    go_simp
  intro w4 HB4 HF4 HS4
  have e0 : w4.cell? ⟨b0, 0, none⟩ = some (.int .i64 (a : Int)) := HF4.out.cell (w := w3) d0 HNE.out
  have hold : Facts.hold [(1, fun w' => w'.cell? ⟨b0, 0, none⟩ = some (.int .i64 (a : Int)))] w4 := Facts.cons_hold e0 (Facts.nil_hold _)
  refine hK6 _ _ hold ?_
  clear hK6 K6
  simp only [Act.put, List.setIfInBounds_toArray, List.set_cons_zero, List.set_cons_succ]
  rw [show ((76 : Int)) = ((76 : UInt8).toNat : Int) from rfl, u8s_set] at HB4
  (refine wpD_plain 7 (v := ?_) rfl (by kernel_rfl) (by kernel_rfl) (by kernel_rfl) (fun _ _ _ h => h) (by rfl) ?_ (by assumption) ?_; rotate_left; (intro _w; go_simp; try with_reducible rfl); simp only [Act.put, List.setIfInBounds_toArray, List.set_cons_zero, List.set_cons_succ])
  refine wpD_only 8 [] rfl (by kernel_rfl) (by kernel_rfl) (by rfl) (fun K8 hK8 => ?_)
  refine wp_set bb 6 (.int .u8 (a : Int)) 101 _ HB4.out (by decide) ?_ ?_
  · intro w hc hf
    obtain ⟨old, ho⟩ := Option.isSome_iff_exists.1 hc
    clear hc c0 d0 e0
    go_simp
  intro w5 HB5 HF5 HS5
  refine hK8 _ _ (Facts.nil_hold _) ?_
  clear hK8 K8
  simp only [Act.put, List.setIfInBounds_toArray, List.set_cons_zero, List.set_cons_succ]
  refine wpD_done (by kernel_rfl) ?_ _
  rw [show (a : Int) = ((UInt8.ofNat a).toNat : Int) by rw [ofNat_toNat]; omega, u8s_set] at HB5
  have HH : Hid (Blk w5 bb 101 (u8s (Rt.hd ⟨a, e, n, s⟩))) := HB5
  have HF6 : Hid (Fr (fun k => k = bb) w2.drew w5) := hid ((HF3'.out.trans' HF4.out).trans' HF5.out)
  have HX6 := hid (HBX.out.fr HF6.out HNE.out)
  have HR6 := hid (HBR.out.fr HF6.out HNR.out)
  have HZ6 : Hid (Fr No w w5) := hid (HF3.out.trans HF6.out (fun k hk => .inr (by have e' : k = bb := hk; have := HLE.out; omega)))
  clear HB3 HB4 HB5 HF3' HF4 HF5 HS3 HS4 HS5 c0 d0 e0 HBX HBR HBB HF6 HF3
  obtain ⟨x0, hx0⟩ : ∃ x, Rt.hd ⟨a, e, n, s⟩ = x := ⟨_, rfl⟩
  have l0 : x0.length = 64 := by rw [← hx0]; rfl
  have HRAW : Hid (putl (putl (putl x0 8 (le 4 e)) 12 (le 4 n)) 16 (le 4 s) = Rt.raw ⟨a, e, n, s⟩) := hid (by rw [← hx0]; exact raw_put ⟨a, e, n, s⟩)
  rw [hx0] at HH
  have l1 : (putl x0 8 (le 4 e)).length = 64 := putl64 l0 (by decide)
  have l2 : (putl (putl x0 8 (le 4 e)) 12 (le 4 n)).length = 64 := putl64 l1 (by decide)
  have Q0 := hid l0; have Q1 := hid l1; have Q2 := hid l2
  clear hx0 l0 l1 l2
  have x1 : w5.cell? ⟨b0, 1, none⟩ = some (.int .u32 (e : Int)) := HX6.out.cell 1
  go_wp2_with fail
  refine (rput_any bb 8 e x0 w5 HH.out Q0.out (by decide) he).mono ?_
  rintro e' w6 ⟨rfl, h1, h2, h3⟩
  have HP6 := hid h1; have HF6 := hid h2; clear h1 h2 h3 x1
  have x2 : w6.cell? ⟨b0, 2, none⟩ = some (.int .i64 (n : Int)) := HF6.out.cell (HX6.out.cell 2) HNE.out
  go_wp2_with fail
  refine (rput_any bb 12 n _ w6 HP6.out Q1.out (by decide) hn).mono ?_
  rintro e' w7 ⟨rfl, h1, h2, h3⟩
  have HP7 := hid h1; have HF7 := hid (HF6.out.trans' h2); clear h1 h2 h3 x2
  have x3 : w7.cell? ⟨b0, 3, none⟩ = some (.int .u32 (s : Int)) := HF7.out.cell (HX6.out.cell 3) HNE.out
  go_wp2_with fail
  refine (rput_any bb 16 s _ w7 HP7.out Q2.out (by decide) hs).mono ?_
  rintro e' w8 ⟨rfl, h1, h2, h3⟩
  rw [HRAW.out] at h1
  have HP8 := hid h1; have HF8 := hid (HF7.out.trans' h2); clear h1 h2 h3 x3
  have HXl : Hid ((Rt.body ⟨a, e, n, s⟩).length = 60) := hid (Rt.body_len _)
  have HSum := hid (S.sum_at (Rt.body ⟨a, e, n, s⟩) (some ⟨bb, 4, none⟩) 60 w8 (fun i hi => ⟨_, _, rfl, by
    have := HP8.out.cell (4 + i)
    rw [this, u8s_get _ _ (by simp [Rt.raw]; omega)]
    simp only [Rt.raw]
    rw [List.getElem_append_right (by simp)]
    simp⟩) (by rw [HXl.out]; decide))
  rw [HXl.out] at HSum
  have HSl : Hid (S.add 0 (Rt.body ⟨a, e, n, s⟩) < 4294967296) := hid (S.add_lt (by decide) _)
  have HRL : Hid ((Rt.raw ⟨a, e, n, s⟩).length = 64) := hid (by simp [Rt.raw, Rt.body_len])
  obtain ⟨raw, hraw⟩ : ∃ x, Rt.raw ⟨a, e, n, s⟩ = x := ⟨_, rfl⟩
  obtain ⟨sm, hsm⟩ : ∃ x, S.add 0 (Rt.body ⟨a, e, n, s⟩) = x := ⟨_, rfl⟩
  rw [hraw] at HSEC HP8 HRL
  rw [hsm] at HSEC HSum HSl
  clear hraw hsm HRAW HXl
  go_wp2_with fail
  refine HSum.out.mono ?_
  rintro e' w' ⟨rfl, rfl⟩
  go_wp2_with fail
  refine (rput_any bb 0 sm raw w8 HP8.out HRL.out (by decide) HSl.out).mono ?_
  rintro e' w9 ⟨rfl, h1, h2, h3⟩
  rw [HSEC.out] at h1
  have HP9 := hid h1; have HF9 := hid (HF8.out.trans' h2); clear h1 h2 h3
  have HR9 := hid (HR6.out.fr HF9.out HNR.out)
  have SL : Hid (sec.length = 64) := hid (by have := putl_length (l := raw) (o := 0) (xs := le 4 sm) (by rw [HRL.out]; simp); rw [HSEC.out] at this; rw [this, HRL.out])
  have hrg := HP9.out.range 0 (u8s sec) (by simp)
  go_wp2_with (first
    | ((with_reducible show wpList _ _ _ (⟨_, .load 101 _, _, _, _, _⟩ :: _) _ _); refine wpL_load rfl _ _ rfl bb 0 rfl (u8s sec) _ hrg rfl rfl (by simp [info101, u8s_length, SL.out]) ?_)
    | ((with_reducible show wpList _ _ _ (⟨_, .store 101 _ _, _, _, _, _⟩ :: _) _ _); refine TR.wpL_storeV rfl _ _ _ rfl br 0 (.agg (u8s sec).toArray) (u8s sec) rfl rfl rfl _ _ HR9.out (by simp [u8s_length, SL.out, zeros64]) (by simp [info101, u8s_length, SL.out]) (u8s_one _) ?_; intro w10 HB10 HF10 HS10)
    | fail)
  refine ret_cell rfl _ rfl HB10.out rfl rfl (by simp [info101, spl, u8s_length, SL.out, zeros64]) rfl ?_
  have hle := HLE.out
  refine ⟨?_, (HZ6.out.trans HF9.out (fun k hk => .inr (by have e' : k = bb := hk; omega))).trans HF10.out (fun k hk => .inr (by have e' : k = br := hk; omega))⟩
  rw [spl_u8s]
  have hz : putl zeros64 0 sec = sec := by
    unfold putl
    rw [SL.out]
    simp [zeros64]
  rw [hz]
end Go.Proofs.YtflfmkokfbgclaaGreat.ST

namespace Go.Proofs.YtflfmkokfbgclaaGreat.ST
set_option maxRecDepth 100000
open Go.RowKit K L
section
variable {P : Program} {ops : Array Oper} {rest : List Oper} {op : Oper} {a : Act} {w : World} {Q : Exit → Act → World → Prop}
theorem wpL_valZ (hw : Region.wanted op (yielded ops a.tmps) = true) (v : Value) (hy : (execOp a.eval op).run P w = .ok (.value v) w) (h : wpList P ops Q rest (a.put op.dst v) w) : wpList P ops Q (op :: rest) a w := by
  unfold wpList
  rw [if_pos hw]
  left
  unfold Oper.wp
  rw [hy]
  exact h
theorem wpL_toArr (hgd : op.guard = none) (t : TypeId) (x : Operand) (ho : op.op = .sliceToArrayPointer t x) (n : Nat) (e : TypeId) (hu : P.underlying t = some (.array n e)) (a0 : Option Addr) (len cap : Nat) (hx : a.eval x = .slice a0 len cap) (hn : n ≤ len)
    (h : wpList P ops Q rest (a.put op.dst (.pointer a0)) w) : wpList P ops Q (op :: rest) a w := by
  refine wpList_plain hgd fun K hK => ?_
  unfold Oper.wp
  have h1 := hK _ _ h
  have hn' : ¬ len < n := by omega
  simp [execOp, ho, Instr.arrayAt, hx, run_underlying hu, hn', Result.andThen]
  exact h1
theorem run_itemsL {e : TypeId} {k : IntKind} (hu : P.underlying e = some (.int k)) (d : Nat) (l m : List UInt8) (n : Nat) (hl : l.length = n) (hm : m.length = n) : ∀ is : List Nat, (∀ i ∈ is, i < n) →
    (Op.eqItems (d + 1) e 1 (u8s l).toArray (u8s m).toArray is).run P w = .ok (is.all fun i => decide (l[i]? = m[i]?)) w
  | [], _ => by simp [Op.eqItems]
  | i :: is, h => by
    have hi := h i (by simp)
    have hp : ∀ q : List UInt8, (hq : q.length = n) → (part e (u8s q).toArray (i * 1)).run P w = .ok (.int .u8 ((q[i]'(by omega)).toNat : Int)) w := fun q hq => by
      have : (u8s q).toArray[i]? = some (.int .u8 ((q[i]'(by omega)).toNat : Int)) := by simpa using u8s_get q i (by omega)
      simp [part, isAgg, run_underlying hu, this]
    have he := run_equalIn_int w d e .u8 k ((l[i]'(by omega)).toNat : Int) ((m[i]'(by omega)).toNat : Int) hu
    have ih := run_itemsL hu d l m n hl hm is (fun j hj => h j (by simp [hj]))
    simp only [Op.eqItems, Sem.run_bind, hp l hl, hp m hm, he, Result.andThen_ok, List.all_cons]
    have hb : (((l[i]'(by omega)).toNat : Int) == ((m[i]'(by omega)).toNat : Int)) = decide (l[i]? = m[i]?) := by
      rw [List.getElem?_eq_getElem (by omega), List.getElem?_eq_getElem (by omega)]
      rw [Bool.eq_iff_iff]
      simp [← UInt8.toNat_inj]
      omega
    rw [hb]
    cases hfg : decide (l[i]? = m[i]?)
    · rfl
    · exact ih
theorem all_eq {l m : List UInt8} {n : Nat} (hl : l.length = n) (hm : m.length = n) : ((List.range n).all fun i => decide (l[i]? = m[i]?)) = decide (l = m) := by
  rw [Bool.eq_iff_iff]
  simp only [List.all_eq_true, List.mem_range, decide_eq_true_eq]
  constructor
  · intro h
    refine List.ext_getElem? fun i => ?_
    by_cases hi : i < n
    · exact h i hi
    · rw [List.getElem?_eq_none (by omega), List.getElem?_eq_none (by omega)]
  · rintro rfl i _; rfl
theorem run_eq_u8s {t e : TypeId} {k : IntKind} {n : Nat} {i : TypeInfo} (hu : P.underlying t = some (.array n e)) (he : P.underlying e = some (.int k)) (hi : P.info? e = some i) (hc : P.cellsOf e = 1) (d : Nat) (l m : List UInt8) (hl : l.length = n) (hm : m.length = n) :
    (Op.equalIn (d + 2) t (.agg (u8s l).toArray) (.agg (u8s m).toArray)).run P w = .ok (decide (l = m)) w := by
  rw [show d + 2 = (d + 1) + 1 from rfl, run_equalIn_array w (d + 1) _ _ hu hi, hc, run_itemsL he d l m n hl hm (List.range n) (fun i hi => List.mem_range.1 hi), all_eq hl hm]
end
theorem i1 : ∃ i, Tryz.prog.info? 5 = some i := by
  cases h : Tryz.prog.info? 5 with
  | none => have := info8; rw [h] at this; cases this
  | some i => exact ⟨i, rfl⟩
theorem c1 : Tryz.prog.cellsOf 5 = 1 := by kernel_rfl
theorem run_neq64 (l m : List UInt8) (hl : l.length = 64) (hm : m.length = 64) (w : World) : (binOp .neq 101 (.agg (u8s l).toArray) (.agg (u8s m).toArray)).run Tryz.prog w = .ok (.bool (!decide (l = m))) w := by
  obtain ⟨i, hi⟩ := i1
  have h := run_eq_u8s (P := Tryz.prog) (w := w) (t := 101) (e := 5) Tryz.underlying101 Tryz.underlying5 hi c1 9998 l m hl hm
  rw [run_neq_struct, h]
  rfl
theorem exec_neq64 {op : Oper} {a : Act} (x y : Operand) (t2 : TypeId) (ho : op.op = .binOp .neq 101 x y t2) (l m : List UInt8) (hl : l.length = 64) (hm : m.length = 64) (r : Bool) (hr : (!decide (l = m)) = r)
    (hx : a.eval x = .agg (u8s l).toArray) (hy : a.eval y = .agg (u8s m).toArray) (w : World) : (execOp a.eval op).run Tryz.prog w = .ok (.value (.bool r)) w := by
  have h := run_neq64 l m hl hm w
  have hg : (eqGuard .neq 101 x y (.agg (u8s l).toArray) (.agg (u8s m).toArray)).run Tryz.prog w = .ok () w := by kernel_rfl
  unfold execOp
  simp only [ho, hx, hy, Sem.run_bind, hg, h, Result.andThen_ok, hr, Sem.run_pure]
end Go.Proofs.YtflfmkokfbgclaaGreat.ST

namespace Go.Proofs.YtflfmkokfbgclaaGreat.ST
set_option maxRecDepth 100000
open Go.RowKit K

set_option maxHeartbeats 4000000 in
theorem index_any (v : Value) (l : List Ch) (E : Nat → Prop) (f : FuncId) (cap : List Value) (p : Ch → Bool) (w : World) (h : ChIn w E v l) (hn : l.length ≤ 1000000000) (hent : ∀ (vs : Array Value) (w : World), (callFunc f vs).run Tryz.prog w = .ok (.enter f vs) w)
    (hf : ∀ (x : Ch) (W : World), x ∈ l → Fr No w W → Calls Tryz.prog f (x.agg :: cap).toArray W fun e W' => e = .returned (.bool (p x)) ∧ Fr No W W') :
    Calls Tryz.prog 73 #[v, .func (.func f) #[] cap.toArray] w fun e w' => ∃ i : Int, e = .returned (.int .i64 i) ∧ decide (0 ≤ i) = l.any p ∧ Fr No w w' := by
  obtain ⟨a, c, rfl, h⟩ := h
  have H := hid h; have He := hid hent; have Hf := hid hf
  have hli : (l.length : Int) ≤ 1000000000 := by omega
  clear h hent hf hn
  go_enter Tryz.func73, Tryz.ntmps73
  go_wp2_with fail
  go_loopw [8] (fun iv wr => ∃ j : Nat, j ≤ l.length ∧ iv = .int .i64 (j : Int) ∧ Hid ((l.take j).any p = false) ∧ Hid (Fr No w wr)) (fun iv _ => l.length - (intOf iv).toNat)
  case atStart => exact ⟨0, by omega, rfl, hid rfl, hid (Fr.refl _ _)⟩
  case round =>
    obtain ⟨j, hj, rfl, HA, HF⟩ := hrel
    by_cases hlt : j < l.length
    · have hlt' : (j : Int) < (l.length : Int) := by omega
      obtain ⟨x, hx⟩ : ∃ x, l[j]? = some x := ⟨_, List.getElem?_eq_getElem hlt⟩
      have HXM : Hid (x ∈ l) := hid (List.mem_of_getElem? hx)
      have HTA : Hid ((l.take (j + 1)).any p = p x) := hid (by rw [List.take_add_one, hx, List.any_append, HA.out]; simp)
      obtain ⟨g, o, rfl, HG⟩ : ∃ g o, a = some ⟨g, o, none⟩ ∧ Hid (wr.rangeAt g (o + j * 3) [.string x.key, .string x.value, .bool x.gone]) := by
        rcases H.out with e | ⟨g, o, e, _, _, hr⟩
        · rw [e] at hlt; simp at hlt
        · exact ⟨g, o, e, hid (range_ch (HF.out.range hr id) hx)⟩
      clear hx
      go_wp2_with ((with_reducible show wpList _ _ _ (⟨_, .load 55 _, _, _, _, _⟩ :: _) _ _); refine wpL_load rfl _ _ rfl g (o + j * 3) rfl [.string x.key, .string x.value, .bool x.gone] _ HG.out rfl rfl infoCh ?_)
      rw [He.out]
      refine (Hf.out x wr HXM.out HF.out).mono ?_
      rintro e w1 ⟨rfl, f1⟩
      have HF1 : Hid (Fr No w w1) := hid (HF.out.trans' f1)
      clear f1
      cases hp : p x with
      | true =>
        have hany : l.any p = true := List.any_eq_true.2 ⟨x, HXM.out, hp⟩
        have HANY := hid hany
        clear hany hp
        go_wp2_with fail
        go_ret
        exact ⟨j, rfl, by rw [HANY.out]; simp, HF1.out⟩
      | false =>
        rw [hp] at HTA
        clear hp
        go_wp2_with fail
        exact ⟨⟨j + 1, by omega, by go_num, HTA, HF1⟩, by simp [intOf]; omega⟩
    · have hge : ¬ ((j : Int) < (l.length : Int)) := by omega
      have hany : l.any p = false := by have h := HA.out; rwa [List.take_of_length_le (by omega)] at h
      have HANY := hid hany
      clear hany
      go_wp2_with fail
      go_ret
      exact ⟨-1, rfl, by rw [HANY.out]; rfl, HF.out⟩
set_option maxHeartbeats 4000000 in
theorem contains_any (v : Value) (l : List Ch) (E : Nat → Prop) (f : FuncId) (cap : List Value) (p : Ch → Bool) (w : World) (h : ChIn w E v l) (hn : l.length ≤ 1000000000) (hent : ∀ (vs : Array Value) (w : World), (callFunc f vs).run Tryz.prog w = .ok (.enter f vs) w)
    (hf : ∀ (x : Ch) (W : World), x ∈ l → Fr No w W → Calls Tryz.prog f (x.agg :: cap).toArray W fun e W' => e = .returned (.bool (p x)) ∧ Fr No W W') :
    Calls Tryz.prog 54 #[v, .func (.func f) #[] cap.toArray] w fun e w' => e = .returned (.bool (l.any p)) ∧ Fr No w w' := by
  have HI := hid (index_any v l E f cap p w h hn hent hf)
  obtain ⟨a, c, rfl, -⟩ := h
  clear hent hf hn
  go_enter Tryz.func54, Tryz.ntmps54
  go_wp2_with fail
  refine HI.out.mono ?_
  rintro e w1 ⟨i, rfl, hi, f1⟩
  have HI2 := hid hi; have F1 := hid f1
  clear hi f1 HI
  go_wp2_with fail
  go_ret
  exact ⟨by rw [← HI2.out]; first | rfl | (simp; done), F1.out⟩
set_option maxHeartbeats 4000000 in
theorem again_any (bc : Nat) (c x : Ch) (w : World) (h : w.rangeAt bc 0 [.string c.key, .string c.value, .bool c.gone]) : Calls Tryz.prog 53 #[x.agg, pt bc] w fun e w' => e = .returned (.bool (decide (x.key = c.key))) ∧ Fr No w w' := by
  have c0 : w.cell? ⟨bc, 0, none⟩ = some (.string c.key) := h 0 _ rfl
  obtain ⟨key, value, gone⟩ := x
  show Calls _ _ #[.agg #[.string key, .string value, .bool gone], _] _ _
  clear h
  go_enter Tryz.func53, Tryz.ntmps53
  go_wp2_with ((with_reducible show wpList _ _ _ (⟨_, .box 55 _, _, _, _, _⟩ :: _) _ _); refine wpL_box rfl _ _ rfl _ rfl [.string key, .string value, .bool gone] rfl ?_; intro w1 HB1 F1 HS1; have x0 : w1.cell? ⟨w.heap.size, 0, none⟩ = some (.string key) := HB1.out.cell 0; have d0 : w1.cell? ⟨bc, 0, none⟩ = some (.string c.key) := F1.out.cell c0 id)
  go_ret
  exact ⟨by first | rfl | (rw [← TR.eq_beq]; rfl), F1.out⟩
end Go.Proofs.YtflfmkokfbgclaaGreat.ST

namespace Go.Proofs.YtflfmkokfbgclaaGreat.ST
set_option maxRecDepth 100000
open Go.RowKit K

def lenS (l : TR.L) : Int → List Ch → Int
  | n, [] => n
  | n, x :: r => lenS l (if r.any (fun y => decide (y.key = x.key)) then n else n + growS l x) r
theorem hentAgain (vs : Array Value) (w : World) : (callFunc 53 vs).run Tryz.prog w = .ok (.enter 53 vs) w := by kernel_rfl
theorem grow_bound {l : TR.L} {x : Ch} (hm : Mays l) (hk : x.key.size ≤ 64) (hv : x.value.size ≤ 400) : -468 ≤ growS l x ∧ growS l x ≤ 468 := by
  unfold growS
  have h1 : ∀ u, TR.get x.key l = some u → u.size ≤ 400 := fun u hu => get_size l x.key u hu (fun p hp => (hm p hp).2)
  cases hg : TR.get x.key l with
  | none => cases x.gone <;> simp <;> omega
  | some u =>
    have := h1 u hg
    cases x.gone <;> simp <;> omega
theorem range_drop_ch {w : World} {g o : Nat} {l : List Ch} (h : w.rangeAt g o (chs l)) {i : Nat} (hi : i ≤ l.length) : w.rangeAt g (o + i * 3) (chs (l.drop i)) := fun j u hu => by
  have e : chs l = chs (l.take i) ++ chs (l.drop i) := by
    unfold chs
    rw [← List.flatten_append, ← List.map_append, List.take_append_drop]
  have hl : (chs (l.take i)).length = i * 3 := by rw [chs_length, List.length_take, Nat.min_eq_left hi]
  have := h (i * 3 + j) u (by
    rw [e, List.getElem?_append_right (by omega), hl, show i * 3 + j - i * 3 = j by omega]
    exact hu)
  rwa [show o + (i * 3 + j) = o + i * 3 + j by omega] at this
set_option maxHeartbeats 16000000 in
theorem lengthAfter_any (W w : World) (b o : Nat) (tb : TypeId) (cs : List Value) (bt : Nat) (T : TR.TD) (l : TR.L) (a : Option Addr) (c : Nat) (xs : List Ch) (E : Nat → Prop) (h : Ct W w b o tb cs bt T l) (hx : ChIn w E (.slice a xs.length c) xs) (hc : xs.length ≤ c) (hm : ∀ x ∈ xs, x.key.size ≤ 64 ∧ x.value.size ≤ 400) (hn : l.length + xs.length ≤ 1000000000) :
    Calls Tryz.prog 35 #[.pointer (some ⟨b, o, none⟩), .slice a xs.length c] w fun e w' => e = .returned (.int .i64 (lenS l (imgN l) xs)) ∧ Fr No w w' := by
  obtain ⟨a', c', e0, hx⟩ := hx
  simp only [Value.slice.injEq] at e0
  obtain ⟨rfl, -, rfl⟩ := e0
  have H := hid h; have HX := hid hx; have HM := hid hm; have HN := hid hn; have HCP := hid hc
  have hli : (xs.length : Int) ≤ 1000000000 := by omega
  have hci : (xs.length : Int) ≤ (c : Int) := by omega
  have him := imgN_le l h.m
  obtain ⟨n0, hn0⟩ : ∃ n : Nat, imgN l = n := ⟨_, rfl⟩
  have c3 : w.cell? ⟨b, o + 1, none⟩ = some (.int .i64 (n0 : Int)) := by rw [← hn0]; exact h.len
  obtain ⟨R, hR⟩ : ∃ R, lenS l (imgN l) xs = R := ⟨_, rfl⟩
  rw [hR]
  rw [hn0] at hR
  have HR := hid hR
  have HB0 : Hid (n0 ≤ 468000000000) := hid (by rw [← hn0]; omega)
  clear h hx hm hn hc him hn0 hR
  go_enter Tryz.func35, Tryz.ntmps35
  go_wp2_with fail
  go_loopw [5, 15] (fun nv iv wr => ∃ (j : Nat) (n : Int), j ≤ xs.length ∧ nv = .int .i64 n ∧ iv = .int .i64 (j : Int) ∧ Hid (lenS l n (xs.drop j) = R) ∧ Hid (-468 * (j : Int) ≤ n ∧ n ≤ n0 + 468 * (j : Int)) ∧ Hid (Fr No w wr)) (fun _ iv _ => xs.length - (intOf iv).toNat)
  case atStart => exact ⟨0, n0, by omega, rfl, rfl, HR, hid (by omega), hid (Fr.refl _ _)⟩
  case round =>
    obtain ⟨j, n, hj, rfl, rfl, HL, HBn, HF⟩ := hrel
    by_cases hlt : j < xs.length
    · have hlt' : (j : Int) < (xs.length : Int) := by omega
      obtain ⟨x, hx⟩ : ∃ x, xs[j]? = some x := ⟨_, List.getElem?_eq_getElem hlt⟩
      have hdr : xs.drop j = x :: xs.drop (j + 1) := by
        obtain ⟨h1, h2⟩ := List.getElem?_eq_some_iff.1 hx
        rw [List.drop_eq_getElem_cons h1, h2]
      obtain ⟨g, q, rfl, HGR, HRG⟩ : ∃ g q, a = some ⟨g, q, none⟩ ∧ Hid (wr.rangeAt g (q + j * 3) [.string x.key, .string x.value, .bool x.gone]) ∧ Hid (wr.rangeAt g (q + (j + 1) * 3) (chs (xs.drop (j + 1))) ∧ g < wr.heap.size) := by
        rcases HX.out with e | ⟨g, q, e, he, hg, hr⟩
        · rw [e] at hlt; simp at hlt
        · exact ⟨g, q, e, hid (range_ch (HF.out.range hr id) hx), hid ⟨range_drop_ch (HF.out.range hr id) (by omega), Nat.lt_of_lt_of_le hg HF.out.size⟩⟩
      have HXM : Hid (x.key.size ≤ 64 ∧ x.value.size ≤ 400) := hid (HM.out x (List.mem_of_getElem? hx))
      have HONE : Hid (∀ u ∈ [Value.string x.key, .string x.value, .bool x.gone], u.oneCell' = true) := hid (by intro u hu; simp at hu; rcases hu with rfl | rfl | rfl <;> rfl)
      have HL2 : Hid (lenS l (if (xs.drop (j + 1)).any (fun y => decide (y.key = x.key)) then n else n + growS l x) (xs.drop (j + 1)) = R) := hid (by have h := HL.out; rw [hdr] at h; exact h)
      have HGB := hid (grow_bound H.out.m HXM.out.1 HXM.out.2)
      clear hx hdr
      rcases Nat.lt_or_ge (j + 1) c with hcl | hcl
      · have hc0 : ¬ (c - (j + 1) = 0) := by omega
        have hc1 : ((c - (j + 1) : Nat) : Int) ≠ 0 := by omega
        go_wp2_with (first
          | ((with_reducible show wpList _ _ _ (⟨_, .load 55 _, _, _, _, _⟩ :: _) _ _); refine wpL_load rfl _ _ rfl g (q + j * 3) rfl [.string x.key, .string x.value, .bool x.gone] _ HGR.out rfl rfl infoCh ?_)
          | ((with_reducible show wpList _ _ _ (⟨_, .alloc 55, _, _, _, _⟩ :: _) _ _); refine wpL_alloc rfl _ rfl _ zeroCh [.string ⟨#[]⟩, .string ⟨#[]⟩, .bool false] rfl ?_; intro w4 HB4 F4 HS4)
          | ((with_reducible show wpList _ _ _ (⟨_, .store 55 _ _, _, _, _, _⟩ :: _) _ _); refine TR.wpL_storeV rfl _ _ _ rfl wr.heap.size 0 (.agg #[.string x.key, .string x.value, .bool x.gone]) [.string x.key, .string x.value, .bool x.gone] rfl rfl rfl _ _ HB4.out (by simp) infoCh HONE.out ?_; intro w5 HB5 F5 HS5))
        have HBx : Hid (Blk w5 wr.heap.size 55 [.string x.key, .string x.value, .bool x.gone]) := hid (by have h := HB5.out; simpa [spl] using h)
        have HF5 : Hid (Fr No wr w5) := hid (F4.out.trans F5.out (fun k hk => .inr (Nat.le_of_eq (Eq.symm hk))))
        refine (contains_any (.slice (some ⟨g, q + (j + 1) * 3, none⟩) (xs.length - (j + 1)) (c - (j + 1))) (xs.drop (j + 1)) (fun _ => True) 53 [pt wr.heap.size] (fun y => decide (y.key = x.key)) w5 (⟨_, _, by rw [List.length_drop], .inr ⟨g, _, rfl, trivial, Nat.lt_of_lt_of_le HRG.out.2 HF5.out.size, HF5.out.range HRG.out.1 id⟩⟩) (by rw [List.length_drop]; have := HN.out; omega) hentAgain (fun y Wy _ hf => again_any wr.heap.size x y Wy (hf.range (HBx.out.range 0 _ rfl) id))).mono ?_
        rintro e w6 ⟨rfl, f6⟩
        have HF6 : Hid (Fr No wr w6) := hid (HF5.out.trans' f6)
        have HB6 := hid (HBx.out.fr f6 id)
        clear f6 HBx HB4 F4 HS4 HB5 F5 HS5
        cases hany : (xs.drop (j + 1)).any (fun y => decide (y.key = x.key)) with
        | true =>
          rw [hany] at HL2
          clear hany
          go_wp2_with fail
          exact ⟨⟨j + 1, n, by omega, rfl, by go_num, hid (by have h := HL2.out; simpa using h), hid (by have := HBn.out; omega), hid (HF.out.trans' HF6.out)⟩, by simp [intOf]; omega⟩
        | false =>
          rw [hany] at HL2
          clear hany
          go_wp2_with ((with_reducible show wpList _ _ _ (⟨_, .load 55 _, _, _, _, _⟩ :: _) _ _); refine wpL_load rfl _ _ rfl wr.heap.size 0 rfl [.string x.key, .string x.value, .bool x.gone] _ (HB6.out.range 0 _ rfl) rfl rfl infoCh ?_)
          refine (growth_any W w6 b o bt T l x (H.out.no (HF.out.trans' HF6.out)).ptr (H.out.no (HF.out.trans' HF6.out)).t (by have := HN.out; omega) (fun p hp => (H.out.m p hp).2) HXM.out.1 HXM.out.2).mono ?_
          rintro e w7 ⟨rfl, f7⟩
          have HF7 := hid f7
          clear f7
          obtain ⟨gr, hgr⟩ : ∃ r, growS l x = r := ⟨_, rfl⟩
          rw [hgr] at HL2 HGB ⊢
          have hb1 : -600000000000 ≤ n + gr := by have := HBn.out; have := HGB.out; omega
          have hb2 : n + gr ≤ 1000000000000 := by have := HBn.out; have := HGB.out; have := HB0.out; omega
          clear hgr
          go_wp2_with fail
          exact ⟨⟨j + 1, n + gr, by omega, rfl, by go_num, hid (by have h := HL2.out; simpa using h), hid (by have := HBn.out; have := HGB.out; omega), hid ((HF.out.trans' HF6.out).trans' HF7.out)⟩, by simp [intOf]; omega⟩
      · have hc0 : c - (j + 1) = 0 := by omega
        have hl0 : xs.length - (j + 1) = 0 := by omega
        have HL0 := hid hl0
        have hnn : ¬ ((j : Int) + 1 < (c : Int)) := by omega
        have hd0 : xs.drop (j + 1) = [] := List.drop_of_length_le (by omega)
        have HD0 := hid hd0
        clear hd0
        go_wp2_with (first
          | ((with_reducible show wpList _ _ _ (⟨_, .load 55 _, _, _, _, _⟩ :: _) _ _); refine wpL_load rfl _ _ rfl g (q + j * 3) rfl [.string x.key, .string x.value, .bool x.gone] _ HGR.out rfl rfl infoCh ?_)
          | ((with_reducible show wpList _ _ _ (⟨_, .alloc 55, _, _, _, _⟩ :: _) _ _); refine wpL_alloc rfl _ rfl _ zeroCh [.string ⟨#[]⟩, .string ⟨#[]⟩, .bool false] rfl ?_; intro w4 HB4 F4 HS4)
          | ((with_reducible show wpList _ _ _ (⟨_, .store 55 _ _, _, _, _, _⟩ :: _) _ _); refine TR.wpL_storeV rfl _ _ _ rfl wr.heap.size 0 (.agg #[.string x.key, .string x.value, .bool x.gone]) [.string x.key, .string x.value, .bool x.gone] rfl rfl rfl _ _ HB4.out (by simp) infoCh HONE.out ?_; intro w5 HB5 F5 HS5))
        have HBx : Hid (Blk w5 wr.heap.size 55 [.string x.key, .string x.value, .bool x.gone]) := hid (by have h := HB5.out; simpa [spl] using h)
        have HF5 : Hid (Fr No wr w5) := hid (F4.out.trans F5.out (fun k hk => .inr (Nat.le_of_eq (Eq.symm hk))))
        refine (contains_any (.slice (some ⟨g, q, none⟩) 0 0) (xs.drop (j + 1)) (fun _ => True) 53 [pt wr.heap.size] (fun y => decide (y.key = x.key)) w5 (⟨_, 0, by rw [HD0.out]; rfl, .inl HD0.out⟩) (by rw [List.length_drop]; have := HN.out; omega) hentAgain (fun y Wy _ hf => again_any wr.heap.size x y Wy (hf.range (HBx.out.range 0 _ rfl) id))).mono ?_
        rintro e w6 ⟨rfl, f6⟩
        have HF6 : Hid (Fr No wr w6) := hid (HF5.out.trans' f6)
        have HB6 := hid (HBx.out.fr f6 id)
        clear f6 HBx HB4 F4 HS4 HB5 F5 HS5
        cases hany : (xs.drop (j + 1)).any (fun y => decide (y.key = x.key)) with
        | true =>
          rw [hany] at HL2
          clear hany
          go_wp2_with fail
          exact ⟨⟨j + 1, n, by omega, rfl, by go_num, hid (by have h := HL2.out; simpa using h), hid (by have := HBn.out; omega), hid (HF.out.trans' HF6.out)⟩, by simp [intOf]; omega⟩
        | false =>
          rw [hany] at HL2
          clear hany
          go_wp2_with ((with_reducible show wpList _ _ _ (⟨_, .load 55 _, _, _, _, _⟩ :: _) _ _); refine wpL_load rfl _ _ rfl wr.heap.size 0 rfl [.string x.key, .string x.value, .bool x.gone] _ (HB6.out.range 0 _ rfl) rfl rfl infoCh ?_)
          refine (growth_any W w6 b o bt T l x (H.out.no (HF.out.trans' HF6.out)).ptr (H.out.no (HF.out.trans' HF6.out)).t (by have := HN.out; omega) (fun p hp => (H.out.m p hp).2) HXM.out.1 HXM.out.2).mono ?_
          rintro e w7 ⟨rfl, f7⟩
          have HF7 := hid f7
          clear f7
          obtain ⟨gr, hgr⟩ : ∃ r, growS l x = r := ⟨_, rfl⟩
          rw [hgr] at HL2 HGB ⊢
          have hb1 : -600000000000 ≤ n + gr := by have := HBn.out; have := HGB.out; omega
          have hb2 : n + gr ≤ 1000000000000 := by have := HBn.out; have := HGB.out; have := HB0.out; omega
          clear hgr
          go_wp2_with fail
          exact ⟨⟨j + 1, n + gr, by omega, rfl, by go_num, hid (by have h := HL2.out; simpa using h), hid (by have := HBn.out; have := HGB.out; omega), hid ((HF.out.trans' HF6.out).trans' HF7.out)⟩, by simp [intOf]; omega⟩
    · have hje : j = xs.length := by omega
      have hge : ¬ ((j : Int) < (xs.length : Int)) := by omega
      have hnr : n = R := by have h := HL.out; rw [hje, List.drop_length] at h; exact h
      have HNR := hid hnr
      clear hje hnr hlt
      go_wp2_with fail
      go_ret
      exact ⟨by rw [← HNR.out]; rfl, HF.out⟩
end Go.Proofs.YtflfmkokfbgclaaGreat.ST
