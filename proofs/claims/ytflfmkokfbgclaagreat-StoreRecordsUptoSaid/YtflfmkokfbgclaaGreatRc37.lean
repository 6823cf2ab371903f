/-
  Part 37 of the proof: StRm, StRb, StK.
-/
import Derived.Test.YtflfmkokfbgclaaGreatRc35
import Derived.Test.YtflfmkokfbgclaaGreatRc01
import Derived.Test.YtflfmkokfbgclaaGreatRc33
set_option linter.unusedSimpArgs false
set_option linter.unusedVariables false
namespace Go.Proofs.YtflfmkokfbgclaaGreat.ST
set_option maxRecDepth 100000
open Go.RowKit K L

set_option maxHeartbeats 16000000 in
theorem rmay_any (c : Ch) (w : World) (hk : c.key.size ≤ 9223372036854775807) (hv : c.value.size ≤ 9223372036854775807) : Calls Tryz.prog 27 #[c.agg] w fun e w' => e = .returned (.bool c.may) ∧ Fr No w w' := by
  obtain ⟨key, value, gone⟩ := c
  have e1 := empty_size key
  have e2 := empty_size value
  have hki : (key.size : Int) ≤ 9223372036854775807 := by simp only at hk; omega
  have hvi : (value.size : Int) ≤ 9223372036854775807 := by simp only at hv; omega
  clear hk hv
  show Calls _ _ #[.agg #[.string key, .string value, .bool gone]] _ _
  cases gone with
  | false =>
    by_cases k1 : 1 ≤ key.size
    · by_cases k2 : key.size ≤ 64
      · by_cases v3 : value.size ≤ 400
        · have HM : Hid ((⟨key, value, false⟩ : Ch).may = true) := hid (by have d1 : decide (key.size = 0) = false := decide_eq_false (by omega); have d2 : decide (key.size ≤ 64) = true := decide_eq_true (by omega); have d3 : decide (value.size ≤ 400) = true := decide_eq_true (by omega); unfold Ch.may; simp only [d1, d2, d3, Bool.and_false, Bool.false_and, Bool.not_true, Bool.not_false, Bool.and_true, Bool.true_and, Bool.true_or, Bool.false_or, Bool.or_true, Bool.or_false])
          have k1i : (1 : Int) ≤ key.size := by omega
          have k2i : (key.size : Int) ≤ 64 := by omega
          have v3i : (value.size : Int) ≤ 400 := by omega
          clear e1 e2
          go_enter Tryz.func27, Tryz.ntmps27
          go_wp2_with ((with_reducible show wpList _ _ _ (⟨_, .box 55 _, _, _, _, _⟩ :: _) _ _); refine wpL_box rfl _ _ rfl _ rfl [.string key, .string value, .bool false] rfl ?_; intro w1 HB1 F1 HS1; have x0 : w1.cell? ⟨w.heap.size, 0, none⟩ = some (.string key) := HB1.out.cell 0; have x1 : w1.cell? ⟨w.heap.size, 1, none⟩ = some (.string value) := HB1.out.cell 1; have x2 : w1.cell? ⟨w.heap.size, 2, none⟩ = some (.bool false) := HB1.out.cell 2)
          go_ret
          exact ⟨by rw [HM.out]; first | rfl | done, F1.out⟩
        · have HM : Hid ((⟨key, value, false⟩ : Ch).may = false) := hid (by have d1 : decide (key.size = 0) = false := decide_eq_false (by omega); have d2 : decide (key.size ≤ 64) = true := decide_eq_true (by omega); have d3 : decide (value.size ≤ 400) = false := decide_eq_false (by omega); unfold Ch.may; simp only [d1, d2, d3, Bool.and_false, Bool.false_and, Bool.not_true, Bool.not_false, Bool.and_true, Bool.true_and, Bool.true_or, Bool.false_or, Bool.or_true, Bool.or_false])
          have k1i : (1 : Int) ≤ key.size := by omega
          have k2i : (key.size : Int) ≤ 64 := by omega
          have v3i : ¬ (value.size : Int) ≤ 400 := by omega
          clear e1 e2
          go_enter Tryz.func27, Tryz.ntmps27
          go_wp2_with ((with_reducible show wpList _ _ _ (⟨_, .box 55 _, _, _, _, _⟩ :: _) _ _); refine wpL_box rfl _ _ rfl _ rfl [.string key, .string value, .bool false] rfl ?_; intro w1 HB1 F1 HS1; have x0 : w1.cell? ⟨w.heap.size, 0, none⟩ = some (.string key) := HB1.out.cell 0; have x1 : w1.cell? ⟨w.heap.size, 1, none⟩ = some (.string value) := HB1.out.cell 1; have x2 : w1.cell? ⟨w.heap.size, 2, none⟩ = some (.bool false) := HB1.out.cell 2)
          go_ret
          exact ⟨by rw [HM.out]; first | rfl | done, F1.out⟩
      · have HM : Hid ((⟨key, value, false⟩ : Ch).may = false) := hid (by have d1 : decide (key.size = 0) = false := decide_eq_false (by omega); have d2 : decide (key.size ≤ 64) = false := decide_eq_false (by omega); unfold Ch.may; simp only [d1, d2, Bool.and_false, Bool.false_and, Bool.not_true, Bool.not_false, Bool.and_true, Bool.true_and, Bool.true_or, Bool.false_or, Bool.or_true, Bool.or_false])
        have k1i : (1 : Int) ≤ key.size := by omega
        have k2i : ¬ (key.size : Int) ≤ 64 := by omega
        clear e1 e2
        go_enter Tryz.func27, Tryz.ntmps27
        go_wp2_with ((with_reducible show wpList _ _ _ (⟨_, .box 55 _, _, _, _, _⟩ :: _) _ _); refine wpL_box rfl _ _ rfl _ rfl [.string key, .string value, .bool false] rfl ?_; intro w1 HB1 F1 HS1; have x0 : w1.cell? ⟨w.heap.size, 0, none⟩ = some (.string key) := HB1.out.cell 0; have x1 : w1.cell? ⟨w.heap.size, 1, none⟩ = some (.string value) := HB1.out.cell 1; have x2 : w1.cell? ⟨w.heap.size, 2, none⟩ = some (.bool false) := HB1.out.cell 2)
        go_ret
        exact ⟨by rw [HM.out]; first | rfl | done, F1.out⟩
    · have HM : Hid ((⟨key, value, false⟩ : Ch).may = false) := hid (by have d1 : decide (key.size = 0) = true := decide_eq_true (by omega); unfold Ch.may; simp only [d1, Bool.and_false, Bool.false_and, Bool.not_true, Bool.not_false, Bool.and_true, Bool.true_and, Bool.true_or, Bool.false_or, Bool.or_true, Bool.or_false])
      have k1i : ¬ (1 : Int) ≤ key.size := by omega
      clear e1 e2
      go_enter Tryz.func27, Tryz.ntmps27
      go_wp2_with ((with_reducible show wpList _ _ _ (⟨_, .box 55 _, _, _, _, _⟩ :: _) _ _); refine wpL_box rfl _ _ rfl _ rfl [.string key, .string value, .bool false] rfl ?_; intro w1 HB1 F1 HS1; have x0 : w1.cell? ⟨w.heap.size, 0, none⟩ = some (.string key) := HB1.out.cell 0; have x1 : w1.cell? ⟨w.heap.size, 1, none⟩ = some (.string value) := HB1.out.cell 1; have x2 : w1.cell? ⟨w.heap.size, 2, none⟩ = some (.bool false) := HB1.out.cell 2)
      go_ret
      exact ⟨by rw [HM.out]; first | rfl | done, F1.out⟩
  | true =>
    by_cases v0 : value.size = 0
    · have e3 : value.toList.isEmpty = true := by rw [e2]; simp [v0]
      by_cases k1 : 1 ≤ key.size
      · by_cases k2 : key.size ≤ 64
        · have HM : Hid ((⟨key, value, true⟩ : Ch).may = true) := hid (by have d1 : decide (key.size = 0) = false := decide_eq_false (by omega); have d2 : decide (key.size ≤ 64) = true := decide_eq_true (by omega); have d3 : decide (value.size ≤ 400) = true := decide_eq_true (by omega); have d4 : decide (value.size = 0) = true := decide_eq_true (by omega); unfold Ch.may; simp only [d1, d2, d3, d4, Bool.and_false, Bool.false_and, Bool.not_true, Bool.not_false, Bool.and_true, Bool.true_and, Bool.true_or, Bool.false_or, Bool.or_true, Bool.or_false])
          have k1i : (1 : Int) ≤ key.size := by omega
          have k2i : (key.size : Int) ≤ 64 := by omega
          have v3i : (value.size : Int) ≤ 400 := by omega
          clear e1 e2
          go_enter Tryz.func27, Tryz.ntmps27
          go_wp2_with ((with_reducible show wpList _ _ _ (⟨_, .box 55 _, _, _, _, _⟩ :: _) _ _); refine wpL_box rfl _ _ rfl _ rfl [.string key, .string value, .bool true] rfl ?_; intro w1 HB1 F1 HS1; have x0 : w1.cell? ⟨w.heap.size, 0, none⟩ = some (.string key) := HB1.out.cell 0; have x1 : w1.cell? ⟨w.heap.size, 1, none⟩ = some (.string value) := HB1.out.cell 1; have x2 : w1.cell? ⟨w.heap.size, 2, none⟩ = some (.bool true) := HB1.out.cell 2)
          go_ret
          exact ⟨by rw [HM.out]; first | rfl | done, F1.out⟩
        · have HM : Hid ((⟨key, value, true⟩ : Ch).may = false) := hid (by have d1 : decide (key.size = 0) = false := decide_eq_false (by omega); have d2 : decide (key.size ≤ 64) = false := decide_eq_false (by omega); have d4 : decide (value.size = 0) = true := decide_eq_true (by omega); unfold Ch.may; simp only [d1, d2, d4, Bool.and_false, Bool.false_and, Bool.not_true, Bool.not_false, Bool.and_true, Bool.true_and, Bool.true_or, Bool.false_or, Bool.or_true, Bool.or_false])
          have k1i : (1 : Int) ≤ key.size := by omega
          have k2i : ¬ (key.size : Int) ≤ 64 := by omega
          clear e1 e2
          go_enter Tryz.func27, Tryz.ntmps27
          go_wp2_with ((with_reducible show wpList _ _ _ (⟨_, .box 55 _, _, _, _, _⟩ :: _) _ _); refine wpL_box rfl _ _ rfl _ rfl [.string key, .string value, .bool true] rfl ?_; intro w1 HB1 F1 HS1; have x0 : w1.cell? ⟨w.heap.size, 0, none⟩ = some (.string key) := HB1.out.cell 0; have x1 : w1.cell? ⟨w.heap.size, 1, none⟩ = some (.string value) := HB1.out.cell 1; have x2 : w1.cell? ⟨w.heap.size, 2, none⟩ = some (.bool true) := HB1.out.cell 2)
          go_ret
          exact ⟨by rw [HM.out]; first | rfl | done, F1.out⟩
      · have HM : Hid ((⟨key, value, true⟩ : Ch).may = false) := hid (by have d1 : decide (key.size = 0) = true := decide_eq_true (by omega); have d4 : decide (value.size = 0) = true := decide_eq_true (by omega); unfold Ch.may; simp only [d1, d4, Bool.and_false, Bool.false_and, Bool.not_true, Bool.not_false, Bool.and_true, Bool.true_and, Bool.true_or, Bool.false_or, Bool.or_true, Bool.or_false])
        have k1i : ¬ (1 : Int) ≤ key.size := by omega
        clear e1 e2
        go_enter Tryz.func27, Tryz.ntmps27
        go_wp2_with ((with_reducible show wpList _ _ _ (⟨_, .box 55 _, _, _, _, _⟩ :: _) _ _); refine wpL_box rfl _ _ rfl _ rfl [.string key, .string value, .bool true] rfl ?_; intro w1 HB1 F1 HS1; have x0 : w1.cell? ⟨w.heap.size, 0, none⟩ = some (.string key) := HB1.out.cell 0; have x1 : w1.cell? ⟨w.heap.size, 1, none⟩ = some (.string value) := HB1.out.cell 1; have x2 : w1.cell? ⟨w.heap.size, 2, none⟩ = some (.bool true) := HB1.out.cell 2)
        go_ret
        exact ⟨by rw [HM.out]; first | rfl | done, F1.out⟩
    · have e3 : value.toList.isEmpty = false := by rw [e2]; simp [v0]
      have HM : Hid ((⟨key, value, true⟩ : Ch).may = false) := hid (by have d4 : decide (value.size = 0) = false := decide_eq_false (by omega); unfold Ch.may; simp only [d4, Bool.and_false, Bool.false_and, Bool.not_true, Bool.not_false, Bool.and_true, Bool.true_and, Bool.true_or, Bool.false_or, Bool.or_true, Bool.or_false])
      clear e1 e2
      go_enter Tryz.func27, Tryz.ntmps27
      go_wp2_with ((with_reducible show wpList _ _ _ (⟨_, .box 55 _, _, _, _, _⟩ :: _) _ _); refine wpL_box rfl _ _ rfl _ rfl [.string key, .string value, .bool true] rfl ?_; intro w1 HB1 F1 HS1; have x0 : w1.cell? ⟨w.heap.size, 0, none⟩ = some (.string key) := HB1.out.cell 0; have x1 : w1.cell? ⟨w.heap.size, 1, none⟩ = some (.string value) := HB1.out.cell 1; have x2 : w1.cell? ⟨w.heap.size, 2, none⟩ = some (.bool true) := HB1.out.cell 2)
      go_ret
      exact ⟨by rw [HM.out]; first | rfl | done, F1.out⟩
end Go.Proofs.YtflfmkokfbgclaaGreat.ST

namespace Go.Proofs.YtflfmkokfbgclaaGreat.ST
set_option maxRecDepth 100000
open Go.RowKit K L

set_option maxHeartbeats 16000000 in
theorem rbytes_any (c : Ch) (w : World) (hm : c.may = true) : Calls Tryz.prog 28 #[c.agg] w fun e w' => e = .returned (L.str c.bytes) ∧ Fr No w w' := by
  obtain ⟨i5, hi5, hz5, hs5, hb5⟩ := Go.info_parts info5z
  have I5 := hid hi5; have Z5 := hid hz5; have S5 := hid hs5
  obtain ⟨hk, hv, -⟩ := may_sizes hm
  obtain ⟨key, value, gone⟩ := c
  simp only at hk hv
  have hki : (key.size : Int) ≤ 64 := by omega
  have hvi : (value.size : Int) ≤ 400 := by omega
  have HK := hid hk; have HV := hid hv
  clear hi5 hz5 hs5 hb5 hm hk hv
  show Calls _ _ #[.agg #[.string key, .string value, .bool gone]] _ _
  have e1 : ((UInt8.ofNat key.size).toNat : Int) = key.size := by
    have := HK.out
    simp [UInt8.toNat_ofNat']; omega
  have e2 : ((UInt8.ofNat value.size).toNat : Int) = (value.size : Int) % 256 := by simp [UInt8.toNat_ofNat']
  have e3 : ((UInt8.ofNat (value.size / 256)).toNat : Int) = (value.size : Int) / 256 := by
    have := HV.out
    simp [UInt8.toNat_ofNat']; omega
  have E1 := hid e1; have E2 := hid e2; have E3 := hid e3
  have HX : Hid (L.str (Ch.bytes ⟨key, value, gone⟩) = .string (⟨(Ch.head ⟨key, value, gone⟩).toArray⟩ ++ key ++ value)) := hid (by
    have h : (⟨(Ch.bytes ⟨key, value, gone⟩).toArray⟩ : ByteArray) = ⟨(Ch.head ⟨key, value, gone⟩).toArray⟩ ++ key ++ value := by
      apply ByteArray.ext
      apply Array.toList_inj.1
      simp [Ch.bytes]
    exact congrArg Value.string h)
  rw [HX.out]
  clear e1 e2 e3
  cases gone with
  | false =>
    have HHd : Hid (u8s (⟨key, value, false⟩ : Ch).head = [.int .u8 0, .int .u8 (key.size : Int), .int .u8 ((value.size : Int) % 256), .int .u8 ((value.size : Int) / 256)]) := hid (by
      unfold Ch.head u8s
      simp only [List.map_cons, List.map_nil, E1.out, E2.out, E3.out]
      rfl)
    obtain ⟨hd, hhd⟩ : ∃ x, (⟨key, value, false⟩ : Ch).head = x := ⟨_, rfl⟩
    rw [hhd] at HHd ⊢
    have HHl : Hid (hd.length = 4) := hid (by rw [← hhd]; rfl)
    have hl4 : hd.length = 4 := HHl.out
    have hds : ByteArray.size ⟨hd.toArray⟩ = 4 := by show hd.toArray.size = 4; simp [hl4]
    have hdk : ByteArray.size (⟨hd.toArray⟩ ++ key) = 4 + key.size := by rw [ByteArray.size_append, hds]
    clear hhd
    go_enter Tryz.func28, Tryz.ntmps28
    go_wp2_with (first
      | ((with_reducible show wpList _ _ _ (⟨_, .box 55 _, _, _, _, _⟩ :: _) _ _); refine wpL_box rfl _ _ rfl _ rfl [.string key, .string value, .bool false] rfl ?_; intro w1 HB1 F1 HS1; have x0 : w1.cell? ⟨w.heap.size, 0, none⟩ = some (.string key) := HB1.out.cell 0; have x1 : w1.cell? ⟨w.heap.size, 1, none⟩ = some (.string value) := HB1.out.cell 1; have x2 : w1.cell? ⟨w.heap.size, 2, none⟩ = some (.bool false) := HB1.out.cell 2)
      | ((with_reducible show wpList _ _ _ (⟨_, .buildSlice 40 _ _, _, _, _, _⟩ :: _) _ _); refine wpL_buildSlice rfl _ 5 4 [(0, .tmp 7), (1, .tmp 11), (2, .tmp 16), (3, .tmp 21)] rfl _ (build4 _ _ _ _ _) ?_; intro w2 HB2 F2 HS2;
          have HB2' : Hid (Blk w2 w1.heap.size 5 (u8s hd)) := hid (by rw [HHd.out]; have h := HB2.out; first | exact h | simpa using h);
          have HF2 : Hid (Fr No w w2) := hid (F1.out.trans' F2.out); have y0 : w2.cell? ⟨w.heap.size, 0, none⟩ = some (.string key) := F2.out.cell x0 id; have y1 : w2.cell? ⟨w.heap.size, 1, none⟩ = some (.string value) := F2.out.cell x1 id;
          have HBI : Hid (BytesIn w2 Any (.slice (some ⟨w1.heap.size, 0, none⟩) 4 4) hd) := hid (by have h := HB2'.out.bytes (E := Any) (c := 4) trivial (by rw [HHl.out]; decide); rwa [HHl.out] at h))
      | ((with_reducible show wpList _ _ _ (⟨_, .convert _ 9 _, _, _, _, _⟩ :: _) _ _); refine wpL_stringOf rfl _ _ _ _ rfl _ _ hd rfl HBI.out Tryz.underlying40 Tryz.underlying5 Tryz.underlying9 ?_)
      | fail)
    go_ret
    exact ⟨rfl, HF2.out⟩
  | true =>
    have HHd : Hid (u8s (⟨key, value, true⟩ : Ch).head = [.int .u8 1, .int .u8 (key.size : Int), .int .u8 ((value.size : Int) % 256), .int .u8 ((value.size : Int) / 256)]) := hid (by
      unfold Ch.head u8s
      simp only [List.map_cons, List.map_nil, E1.out, E2.out, E3.out]
      rfl)
    obtain ⟨hd, hhd⟩ : ∃ x, (⟨key, value, true⟩ : Ch).head = x := ⟨_, rfl⟩
    rw [hhd] at HHd ⊢
    have HHl : Hid (hd.length = 4) := hid (by rw [← hhd]; rfl)
    have hl4 : hd.length = 4 := HHl.out
    have hds : ByteArray.size ⟨hd.toArray⟩ = 4 := by show hd.toArray.size = 4; simp [hl4]
    have hdk : ByteArray.size (⟨hd.toArray⟩ ++ key) = 4 + key.size := by rw [ByteArray.size_append, hds]
    clear hhd
    go_enter Tryz.func28, Tryz.ntmps28
    go_wp2_with (first
      | ((with_reducible show wpList _ _ _ (⟨_, .box 55 _, _, _, _, _⟩ :: _) _ _); refine wpL_box rfl _ _ rfl _ rfl [.string key, .string value, .bool true] rfl ?_; intro w1 HB1 F1 HS1; have x0 : w1.cell? ⟨w.heap.size, 0, none⟩ = some (.string key) := HB1.out.cell 0; have x1 : w1.cell? ⟨w.heap.size, 1, none⟩ = some (.string value) := HB1.out.cell 1; have x2 : w1.cell? ⟨w.heap.size, 2, none⟩ = some (.bool true) := HB1.out.cell 2)
      | ((with_reducible show wpList _ _ _ (⟨_, .buildSlice 40 _ _, _, _, _, _⟩ :: _) _ _); refine wpL_buildSlice rfl _ 5 4 [(0, .tmp 7), (1, .tmp 11), (2, .tmp 16), (3, .tmp 21)] rfl _ (build4 _ _ _ _ _) ?_; intro w2 HB2 F2 HS2;
          have HB2' : Hid (Blk w2 w1.heap.size 5 (u8s hd)) := hid (by rw [HHd.out]; have h := HB2.out; first | exact h | simpa using h);
          have HF2 : Hid (Fr No w w2) := hid (F1.out.trans' F2.out); have y0 : w2.cell? ⟨w.heap.size, 0, none⟩ = some (.string key) := F2.out.cell x0 id; have y1 : w2.cell? ⟨w.heap.size, 1, none⟩ = some (.string value) := F2.out.cell x1 id;
          have HBI : Hid (BytesIn w2 Any (.slice (some ⟨w1.heap.size, 0, none⟩) 4 4) hd) := hid (by have h := HB2'.out.bytes (E := Any) (c := 4) trivial (by rw [HHl.out]; decide); rwa [HHl.out] at h))
      | ((with_reducible show wpList _ _ _ (⟨_, .convert _ 9 _, _, _, _, _⟩ :: _) _ _); refine wpL_stringOf rfl _ _ _ _ rfl _ _ hd rfl HBI.out Tryz.underlying40 Tryz.underlying5 Tryz.underlying9 ?_)
      | fail)
    go_ret
    exact ⟨rfl, HF2.out⟩
end Go.Proofs.YtflfmkokfbgclaaGreat.ST

namespace Go.Proofs.YtflfmkokfbgclaaGreat.ST
set_option maxRecDepth 100000
open Go.RowKit K L

def sd (k : Int × U × Option Sd) : Sd := match k.2.2 with
  | some s => s
  | none => ⟨[], ⟨0, 0, 0, 0⟩, ⟨0, 0, 0, 0, 0⟩, true, k.2.1⟩
def isS (k : Int × U × Option Sd) : Bool := decide (k.1 = 0) && k.2.2.isSome
def chA : Ch := ⟨⟨#[97]⟩, ⟨#[49]⟩, false⟩
def chB : Ch := ⟨⟨#[98]⟩, ⟨#[50]⟩, false⟩
def chG : Ch := ⟨⟨#[97]⟩, ⟨#[]⟩, true⟩
def chC : Ch := ⟨⟨#[99]⟩, ⟨#[51]⟩, false⟩
def chE : Ch := ⟨⟨#[]⟩, ⟨#[49]⟩, false⟩
def q0 : Int × U × Option Sd := openS (U.new 40)
theorem e0 : isS q0 = true := by decide +kernel
def q1 : Int × Sd := comS (sd q0) [chA, chB]
theorem e1 : q1.1 = 0 := by decide +kernel
def q2 : Int × Sd := comS q1.2 [chG, chC]
theorem e2 : q2.1 = 0 := by decide +kernel
def u3 : U := (q2.2.u.crash []).2
def q3 : Int × U × Option Sd := openS u3
theorem e3 : isS q3 = true := by decide +kernel
def q4 : Int × Sd := ckS (sd q3)
theorem e4 : q4.1 = 0 := by decide +kernel
def u5 : U := (q4.2.u.crash []).2
def q5 : Int × U × Option Sd := openS u5
theorem e5 : isS q5 = true := by decide +kernel
def q6 : Int × Sd := comS (sd q5) [chE]
theorem e6 : q6.1 = 40 := by decide +kernel
def bcL : TR.L := [(⟨#[98]⟩, ⟨#[50]⟩), (⟨#[99]⟩, ⟨#[51]⟩)]
theorem e3l : (sd q3).l = bcL := by decide +kernel
theorem e5l : (sd q5).l = bcL := by decide +kernel
theorem e4r : q4.2.r.epoch = 1 := by decide +kernel
theorem e0m : ((sd q0).g.count : Int) - (sd q0).g.next = 20 := by decide +kernel
theorem e4m : (q4.2.g.count : Int) - q4.2.g.next = 20 := by decide +kernel
theorem e0p : (sd q0).u.P.length = 0 ∧ imgN (sd q0).l = 0 ∧ (sd q0).l.length = 0 := by decide +kernel
theorem e1p : q1.2.u.P.length = 0 ∧ imgN q1.2.l = 12 ∧ q1.2.l.length = 2 := by decide +kernel
theorem e3p : (sd q3).u.P.length = 0 ∧ imgN (sd q3).l = 12 ∧ (sd q3).l.length = 2 := by decide +kernel
theorem e5p : (sd q5).u.P.length = 0 ∧ imgN (sd q5).l = 12 ∧ (sd q5).l.length = 2 := by decide +kernel
theorem e3u : u3.P.length = 0 := by decide +kernel
theorem e5u : u5.P.length = 0 := by decide +kernel
theorem eA : encS [chA] = (0, [0, 1, 1, 0, 97, 49]) := by decide +kernel
theorem is_sd {k : Int × U × Option Sd} (h : isS k = true) : k = (0, k.2.1, some (sd k)) := by
  obtain ⟨c, u, o⟩ := k
  cases o with
  | none => simp [isS] at h
  | some s => simp only [isS, Bool.and_eq_true, decide_eq_true_eq] at h; rw [h.1]; rfl
end Go.Proofs.YtflfmkokfbgclaaGreat.ST
