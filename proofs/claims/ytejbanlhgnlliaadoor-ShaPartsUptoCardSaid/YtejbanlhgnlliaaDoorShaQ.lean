/-
  The document's sha: Padded.
-/
import Derived.Test.YtejbanlhgnlliaaDoorShaP
namespace Go.Proofs.YtejbanlhgnlliaaDoor.SH
set_option maxRecDepth 100000
open Go.RowKit K AR

theorem buildE (w : World) : (Instr.buildSlice 22 0 #[]).run Tryd.prog w = .ok (.slice (some ⟨w.heap.size, 0, none⟩) 0 0) (w.alloc (.cells #[] 5)) := by kernel_rfl
theorem build1 (x : Int) (w : World) : (Instr.buildSlice 22 1 #[(0, .int .u8 x)]).run Tryd.prog w = .ok (.slice (some ⟨w.heap.size, 0, none⟩) 1 1) (w.alloc (.cells #[.int .u8 x] 5)) := by kernel_rfl
/-- The bytes with n noughts behind the mark. -/
def padn (l : List UInt8) (n : Nat) : List UInt8 := l ++ [128] ++ List.replicate n 0
theorem padn_length (l : List UInt8) (n : Nat) : (padn l n).length = l.length + 1 + n := by simp [padn]; omega
theorem padn_next (l : List UInt8) (n : Nat) : padn l n ++ [0] = padn l (n + 1) := by
  unfold padn
  rw [List.append_assoc, List.replicate_succ', List.append_assoc]
/-- And m bytes of the length. -/
def padm (l : List UInt8) (m : Nat) : List UInt8 := padn l (padz l.length) ++ (List.range m).map (be8 (l.length * 8))
theorem padm_length (l : List UInt8) (m : Nat) : (padm l m).length = l.length + 1 + padz l.length + m := by simp [padm, padn_length]
theorem padm_next (l : List UInt8) (m : Nat) : padm l m ++ [be8 (l.length * 8) m] = padm l (m + 1) := by
  unfold padm
  rw [List.append_assoc, List.range_succ, List.map_append]
  rfl
theorem padm_eight (l : List UInt8) : padm l 8 = pad l := rfl

set_option maxHeartbeats 1000000 in
theorem padded_any (l : List UInt8) (v : Value) (w : World) {E : Nat → Prop} (hb : BytesIn w E v l) (hl : l.length ≤ 140737488355200) : Calls Tryd.prog 17 #[v] w fun e w' =>
    ∃ v', e = .returned v' ∧ OwB w w' v' (pad l) := by
  obtain ⟨a, len, cap, rfl, hlen, h0, h3⟩ := hb
  have HS := hid (src_of (⟨a, len, cap, rfl, hlen, h0, h3⟩ : BytesIn w E (.slice a len cap) l))
  have HB := hid (⟨a, len, cap, rfl, hlen, h0, h3⟩ : BytesIn w E (.slice a len cap) l)
  have HL := hid hl
  have HLen := hid hlen
  have hli : (len : Int) ≤ 140737488355200 := by omega
  clear h3 h0 hlen hl
  go_enter Tryd.func17, Tryd.ntmps17
  go_wp2_with (first
    | ((with_reducible show wpList _ _ _ ({ dst := _, op := .buildSlice 22 _ _, type := _, pos := _, after := _, guard := _ } :: _) _ _); have := HO3; refine wpL_buildSlice rfl _ 5 1 [(0, .const (.int .u8 128))] rfl [.int .u8 128] (build1 _ _) ?_; intro w4 HB4 HF4 HS4; have HO4 := hid (HO3.out.no HF4.out))
    | ((with_reducible show wpList _ _ _ ({ dst := _, op := .buildSlice 22 _ _, type := _, pos := _, after := _, guard := _ } :: _) _ _); refine wpL_buildNone rfl _ 5 rfl buildE ?_; intro w2 HB2 HF2 HS2; have HO2 := hid (owB_new HB2.out (Nat.le_refl _) HF2.out))
    | ((with_reducible show wpList _ _ _ ({ dst := _, op := .call { callee := .builtin .append, args := _, argTypes := _ }, type := _, pos := _, after := _, guard := _ } :: _) _ _); have := HO4; refine wpL_appB rfl _ _ rfl HO4.out rfl _ 1 1 [128] rfl rfl (one_src HB4.out) (len + 1) (by rw [HLen.out]) (padn l 0) (by simp [padn]) (by have := HL.out; have := HLen.out; omega) ?_; intro a5 c5 w5 HO5 HG5 HA5)
    | ((with_reducible show wpList _ _ _ ({ dst := _, op := .call { callee := .builtin .append, args := _, argTypes := _ }, type := _, pos := _, after := _, guard := _ } :: _) _ _); refine wpL_appB rfl _ _ rfl HO2.out rfl a len cap l rfl HLen.out (HS.out.2.imp id fun ⟨ad, e1, e2⟩ => ⟨ad, e1, fun j u hj => HF2.out.cell (e2 j u hj) id⟩) len (by simp) l rfl (by have := HL.out; have := HLen.out; omega) ?_; intro a3 c3 w3 HO3 HG3 HA3))
  have HG := hid (show OwB w w5 (.slice a5 (len + 1 + 0) c5) (padn l 0) ∧ (0 : Nat) ≤ padz l.length from ⟨HO5.out, Nat.zero_le _⟩)
  clear HB4 HF4 HS4 HO4 HB2 HF2 HS2 HO2 HO3 HG3 HA3 HO5 HG5 HA5 HS this
  go_loopw [3] (fun x wr => ∃ (n : Nat) (a' : Option Addr) (c' : Nat), n ≤ 63 ∧ x = .slice a' (len + 1 + n) c' ∧ Hid (OwB w wr (.slice a' (len + 1 + n) c') (padn l n) ∧ n ≤ padz l.length)) (fun x _ => match x with | .slice _ k _ => len + 65 - k | _ => 0)
  case atStart => exact ⟨0, a5, c5, by omega, rfl, HG⟩
  case round =>
    clear HG
    obtain ⟨n, a6, c6, hn, rfl, HG⟩ := hrel
    have hz : padz l.length = (119 - len % 64) % 64 := by rw [HLen.out]; rfl
    by_cases hlt : n < padz l.length
    · have hc : (((len : Int) + 1 + (n : Int)) % 64 != 56) = true := by
        rw [bne_iff_ne]; omega
      have hn63 : n < 63 := by have := padz_lt l.length; omega
      have HZ := hid hz; have HLT := hid hlt
      clear hz hlt
      go_wp2_with (first
        | ((with_reducible show wpList _ _ _ ({ dst := _, op := .buildSlice 22 _ _, type := _, pos := _, after := _, guard := _ } :: _) _ _); refine wpL_buildSlice rfl _ 5 1 [(0, .const (.int .u8 0))] rfl [.int .u8 0] (build1 _ _) ?_; intro w7 HB7 HF7 HS7; have HO7 := hid (HG.out.1.no HF7.out))
        | ((with_reducible show wpList _ _ _ ({ dst := _, op := .call { callee := .builtin .append, args := _, argTypes := _ }, type := _, pos := _, after := _, guard := _ } :: _) _ _); refine wpL_appB rfl _ _ rfl HO7.out rfl _ 1 1 [0] rfl rfl (one_src HB7.out) (len + 1 + (n + 1)) (by rw [padn_length, HLen.out]; omega) (padn l (n + 1)) (padn_next l n) (by have := HL.out; have := HLen.out; omega) ?_; intro a8 c8 w8 HO8 HG8 HA8))
      go_roundw
      case rel => exact ⟨n + 1, a8, c8, by omega, rfl, hid ⟨HO8.out, by have := HLT.out; omega⟩⟩
      case measure => simp; omega
    · obtain rfl : n = padz l.length := by have := HG.out.2; omega
      have hc : (((len : Int) + 1 + (padz l.length : Int)) % 64 != 56) = false := by
        rw [bne_eq_false_iff_eq]; omega
      have hzl := padz_lt l.length
      have HZ := hid hz
      clear hz hlt hn
      go_wp2_with fail
      have HG1 := hid (show OwB w wr (.slice a6 (len + 1 + padz l.length + 0) c6) (padm l 0) by
        have := HG.out.1
        rwa [show padn l (padz l.length) = padm l 0 by simp [padm]] at this)
      clear HG hc
      obtain ⟨z, hzz⟩ : ∃ z, padz l.length = z := ⟨_, rfl⟩
      rw [hzz] at HG1 hzl ⊢
      have HZZ := hid hzz
      clear hzz
      go_loopw [3, 5] (fun x i wr => ∃ (m : Nat) (a' : Option Addr) (c' : Nat), m ≤ 8 ∧ x = .slice a' (len + 1 + z + m) c' ∧ i = .int .i64 (7 - (m : Int)) ∧ Hid (OwB w wr (.slice a' (len + 1 + z + m) c') (padm l m))) (fun _ i _ => (intOf i + 1).toNat)
      case atStart => exact ⟨0, a6, c6, by omega, rfl, rfl, HG1⟩
      case round =>
        clear HG1
        obtain ⟨m, a7, c7, hm, rfl, rfl, HG⟩ := hrel
        by_cases hlt : m < 8
        · obtain ⟨k, hk⟩ : ∃ k : Nat, (7 - (m : Int)) = (k : Int) := ⟨7 - m, by omega⟩
          have hk7 : k ≤ 7 := by omega
          have HK := hid hk
          rw [hk]
          clear hk
          have hv : ((len : Int) * 8 / 2 ^ (8 * k) % 256) = (((be8 (l.length * 8) m).toNat : Nat) : Int) := by
            have hk' : 7 - m = k := by have := HK.out; omega
            unfold be8
            rw [hk', HLen.out, UInt8.toNat_ofNat', Nat.mod_mod]
            simp
          have HV := hid hv
          clear hv
          go_wp2_with (first
            | ((with_reducible show wpList _ _ _ ({ dst := _, op := .buildSlice 22 _ _, type := _, pos := _, after := _, guard := _ } :: _) _ _); refine wpL_buildSlice rfl _ 5 1 [(0, .tmp 32)] rfl _ (build1 _ _) ?_; intro w7 HB7 HF7 HS7; rw [HV.out] at HB7; have HO7 := hid (HG.out.no HF7.out))
            | ((with_reducible show wpList _ _ _ ({ dst := _, op := .call { callee := .builtin .append, args := _, argTypes := _ }, type := _, pos := _, after := _, guard := _ } :: _) _ _); refine wpL_appB rfl _ _ rfl HO7.out rfl _ 1 1 [be8 (l.length * 8) m] rfl rfl (one_src HB7.out) (len + 1 + z + (m + 1)) (by have h1 := padm_length l m; have h2 := HLen.out; have h3 := HZZ.out; omega) (padm l (m + 1)) (padm_next l m) (by have := HL.out; have := HLen.out; omega) ?_; intro a8 c8 w8 HO8 HG8 HA8)
            | fail)
          have hk2 : (7 : Int) - ((m : Int) + 1) = 7 - ((m + 1 : Nat) : Int) := by omega
          have hk3 : ((k : Int) - 1) = 7 - ((m + 1 : Nat) : Int) := by have := HK.out; omega
          go_wp2_with fail
          go_roundw
          case rel => exact ⟨m + 1, a8, c8, by omega, rfl, by first | rw [hk2] | rw [hk3], HO8⟩
          case measure => first | (simp [intOf]; done) | (simp [intOf]; omega)
        · obtain rfl : m = 8 := by omega
          go_wp2_with fail
          go_ret
          exact ⟨_, rfl, HG.out⟩
end Go.Proofs.YtejbanlhgnlliaaDoor.SH
