/-
  The program's hash: what waits, with what makes whole blocks of it.
-/
import Derived.Test.YtejbanlhgnlliaaDoorShaH
namespace Go.Proofs.YtejbanlhgnlliaaDoor.SH
set_option maxRecDepth 100000
open Go.RowKit K AR

def padt (t : List UInt8) (L m : Nat) : List UInt8 := padn t (padz t.length) ++ (List.range m).map (be8 (L * 8))
theorem padt_length (t : List UInt8) (L m : Nat) : (padt t L m).length = t.length + 1 + padz t.length + m := by simp [padt, padn_length]
theorem padt_next (t : List UInt8) (L m : Nat) : padt t L m ++ [be8 (L * 8) m] = padt t L (m + 1) := by
  unfold padt
  rw [List.append_assoc, List.range_succ, List.map_append]
  rfl
theorem padz_tail (l : List UInt8) : padz (tail l).length = padz l.length := by
  rw [tail_length]
  unfold padz
  omega
theorem pad_tail (l : List UInt8) : (pad l).drop (q64 l) = padt (tail l) l.length 8 := by
  unfold padt pad padn
  rw [padz_tail, List.append_assoc, List.append_assoc, List.append_assoc, List.append_assoc, List.drop_append_of_le_length (q64_le l)]
  rfl
set_option maxHeartbeats 2000000 in
theorem ppad_any (b : Nat) (l : List UInt8) (w : World) (h : HashAt w b l) (hl : l.length ≤ 281474976710656) : Calls Tryd.prog 25 #[.pointer (some ⟨b, 0, none⟩)] w fun e w' =>
    ∃ v', e = .returned v' ∧ OwB w w' v' ((pad l).drop (q64 l)) := by
  have HL := hid hl
  have HH := hid h
  rw [pad_tail]
  obtain ⟨t, ht⟩ : ∃ t, tail l = t := ⟨_, rfl⟩
  obtain ⟨len, hlen⟩ : ∃ len, l.length % 64 = len := ⟨_, rfl⟩
  have htl : t.length = len := by rw [← ht, tail_length, hlen]
  have HLen := hid htl
  obtain ⟨f, hB, -, hf⟩ := h
  have hsrc := hash_tail hB hf
  rw [ht] at hsrc
  have HS := hid (range_loads hsrc)
  have c72 : w.cell? ⟨b, 72, none⟩ = some (.int .u64 (l.length : Int)) := by rw [hB.cell]; exact hc_len l f
  obtain ⟨L, hLe⟩ : ∃ L, l.length = L := ⟨_, rfl⟩
  rw [hLe] at c72
  have HLe := hid hLe
  rw [ht, hLe]
  have hli : (len : Int) ≤ 63 := by omega
  have hbw : b < w.heap.size := hB.lt
  have hLi : (L : Int) ≤ 281474976710656 := by omega
  have HW := hid (show l.length % 64 = len from hlen)
  clear hB hf hsrc hlen htl ht hl hLe
  go_enter Tryd.func25, Tryd.ntmps25
  go_wp2_with fail
  refine (waits_any b l _ HH.out HL.out).mono ?_
  rintro e w1 ⟨rfl, rfl⟩
  rw [HW.out]
  go_wp2_with (first
    | ((with_reducible show wpList _ _ _ ({ dst := _, op := .buildSlice 22 _ _, type := _, pos := _, after := _, guard := _ } :: _) _ _); refine wpL_buildSlice rfl _ 5 1 [(0, .const (.int .u8 128))] rfl [.int .u8 128] (build1 _ _) ?_; intro w4 HB4 HF4 HS4)
    | ((with_reducible show wpList _ _ _ ({ dst := _, op := .call { callee := .builtin .append, args := _, argTypes := _ }, type := _, pos := _, after := _, guard := _ } :: _) _ _); refine wpL_appNew rfl _ _ rfl (w0 := w1) HF4.out ⟨b, 8, none⟩ len len rfl t HLen.out (fun j u hj => HF4.out.cell (HS.out j u hj) id) _ 1 1 [128] rfl rfl (one_src HB4.out) (by omega) (Nat.le_refl _) (len + 1) rfl (padn t 0) (by simp [padn]) (by omega) ?_; intro c5 w5 HO5 HF5)
    | fail)
  have HC5 := hid (HF5.out.cell (HF4.out.cell c72 id) id)
  obtain ⟨a5, ha5⟩ : ∃ a, (some ⟨w4.heap.size, 0, none⟩ : Option Addr) = a := ⟨_, rfl⟩
  rw [ha5] at HO5 ⊢
  have HG := hid (show OwB w1 w5 (.slice a5 (len + 1 + 0) c5) (padn t 0) ∧ (0 : Nat) ≤ padz t.length ∧ w5.cell? ⟨b, 72, none⟩ = some (.int .u64 (L : Int)) from ⟨HO5.out, Nat.zero_le _, HC5.out⟩)
  clear HB4 HF4 HS4 HO5 HF5 HS HC5 ha5 c72
  go_loopw [3] (fun x wr => ∃ (n : Nat) (a' : Option Addr) (c' : Nat), n ≤ 63 ∧ x = .slice a' (len + 1 + n) c' ∧ Hid (OwB w1 wr (.slice a' (len + 1 + n) c') (padn t n) ∧ n ≤ padz t.length ∧ wr.cell? ⟨b, 72, none⟩ = some (.int .u64 (L : Int)))) (fun x _ => match x with | .slice _ k _ => len + 65 - k | _ => 0)
  case atStart => exact ⟨0, a5, c5, by omega, rfl, HG⟩
  case round =>
    clear HG
    obtain ⟨n, a6, c6, hn, rfl, HG⟩ := hrel
    have hz : padz t.length = (119 - len % 64) % 64 := by rw [HLen.out]; rfl
    by_cases hlt : n < padz t.length
    · have hc : (((len : Int) + 1 + (n : Int)) % 64 != 56) = true := by
        rw [bne_iff_ne]; omega
      have hn63 : n < 63 := by have := padz_lt t.length; omega
      have HZ := hid hz; have HLT := hid hlt
      clear hz hlt
      go_wp2_with (first
        | ((with_reducible show wpList _ _ _ ({ dst := _, op := .buildSlice 22 _ _, type := _, pos := _, after := _, guard := _ } :: _) _ _); refine wpL_buildSlice rfl _ 5 1 [(0, .const (.int .u8 0))] rfl [.int .u8 0] (build1 _ _) ?_; intro w7 HB7 HF7 HS7; have HO7 := hid (HG.out.1.no HF7.out))
        | ((with_reducible show wpList _ _ _ ({ dst := _, op := .call { callee := .builtin .append, args := _, argTypes := _ }, type := _, pos := _, after := _, guard := _ } :: _) _ _); refine wpL_appB rfl _ _ rfl HO7.out rfl _ 1 1 [0] rfl rfl (one_src HB7.out) (len + 1 + (n + 1)) (by rw [padn_length, HLen.out]; omega) (padn t (n + 1)) (padn_next t n) (by omega) ?_; intro a8 c8 w8 HO8 HG8 HA8)
        | fail)
      have hc8 := HG8.out.cell (HF7.out.cell HG.out.2.2 id) (fun e => by have := HG.out.1.ge b e; omega)
      have HC8 := hid hc8
      clear hc8
      go_wp2_with fail
      go_roundw
      case rel => exact ⟨n + 1, a8, c8, by omega, rfl, hid ⟨HO8.out, by have := HLT.out; omega, HC8.out⟩⟩
      case measure => simp; omega
    · obtain rfl : n = padz t.length := by have := HG.out.2.1; omega
      have hc : (((len : Int) + 1 + (padz t.length : Int)) % 64 != 56) = false := by
        rw [bne_eq_false_iff_eq]; omega
      have hzl := padz_lt t.length
      have HZ := hid hz
      have c72 := HG.out.2.2
      clear hz hlt hn
      go_wp2_with fail
      have HG1 := hid (show OwB w1 wr (.slice a6 (len + 1 + padz t.length + 0) c6) (padt t L 0) by
        have := HG.out.1
        rwa [show padn t (padz t.length) = padt t L 0 by simp [padt]] at this)
      clear HG hc c72
      obtain ⟨z, hzz⟩ : ∃ z, padz t.length = z := ⟨_, rfl⟩
      rw [hzz] at HG1 hzl ⊢
      have HZZ := hid hzz
      clear hzz
      go_loopw [3, 22] (fun x i wr => ∃ (m : Nat) (a' : Option Addr) (c' : Nat), m ≤ 8 ∧ x = .slice a' (len + 1 + z + m) c' ∧ i = .int .i64 (m : Int) ∧ Hid (OwB w1 wr (.slice a' (len + 1 + z + m) c') (padt t L m))) (fun _ i _ => 8 - (intOf i).toNat)
      case atStart => exact ⟨0, a6, c6, by omega, rfl, rfl, HG1⟩
      case round =>
        clear HG1
        obtain ⟨m, a7, c7, hm, rfl, rfl, HG⟩ := hrel
        by_cases hlt : m < 8
        · obtain ⟨k, hk⟩ : ∃ k : Nat, 56 - 8 * m = k := ⟨_, rfl⟩
          have hk2 : (56 : Int) - 8 * (m : Int) = (k : Int) := by omega
          have hk56 : (k : Int) ≤ 56 := by omega
          have hv : ((L : Int) * 8 / 2 ^ k % 256) = (((be8 (L * 8) m).toNat : Nat) : Int) := by
            unfold be8
            rw [show 8 * (7 - m) = k by omega, UInt8.toNat_ofNat', Nat.mod_mod]
            simp
          have hv2 : (8 * (L : Int) / 2 ^ k % 256) = (((be8 (L * 8) m).toNat : Nat) : Int) := by rw [← hv, Int.mul_comm]
          have HV := hid hv; have HV2 := hid hv2
          clear hv hv2 hk
          go_wp2_with (first
            | ((with_reducible show wpList _ _ _ ({ dst := _, op := .buildSlice 22 _ _, type := _, pos := _, after := _, guard := _ } :: _) _ _); refine wpL_buildSlice rfl _ 5 1 [(0, .tmp 31)] rfl _ (build1 _ _) ?_; intro w7 HB7 HF7 HS7; first | rw [HV.out] at HB7 | rw [HV2.out] at HB7; have HO7 := hid (HG.out.no HF7.out))
            | ((with_reducible show wpList _ _ _ ({ dst := _, op := .call { callee := .builtin .append, args := _, argTypes := _ }, type := _, pos := _, after := _, guard := _ } :: _) _ _); refine wpL_appB rfl _ _ rfl HO7.out rfl _ 1 1 [be8 (L * 8) m] rfl rfl (one_src HB7.out) (len + 1 + z + (m + 1)) (by have h1 := padt_length t L m; have h2 := HLen.out; have h3 := HZZ.out; omega) (padt t L (m + 1)) (padt_next t L m) (by omega) ?_; intro a8 c8 w8 HO8 HG8 HA8)
            | fail)
          go_roundw
          case rel => exact ⟨m + 1, a8, c8, by omega, rfl, by go_num, HO8⟩
          case measure => first | (simp [intOf]; done) | (simp [intOf]; omega)
        · obtain rfl : m = 8 := by omega
          go_wp2_with fail
          go_ret
          exact ⟨_, rfl, HG.out⟩
end Go.Proofs.YtejbanlhgnlliaaDoor.SH
