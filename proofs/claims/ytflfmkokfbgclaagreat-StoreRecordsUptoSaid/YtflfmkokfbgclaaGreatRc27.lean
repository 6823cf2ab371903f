/-
  Part 27 of the proof: StRI.
-/
import Derived.Test.YtflfmkokfbgclaaGreatRc25
import Derived.Test.YtflfmkokfbgclaaGreatRc26
set_option linter.unusedSimpArgs false
set_option linter.unusedVariables false
namespace Go.Proofs.YtflfmkokfbgclaaGreat.ST
set_option maxRecDepth 100000
open Go.RowKit K L

/-- The bytes of k sectors from s on. -/
def secs (u : U) (s : Nat) : Nat → List UInt8
  | 0 => []
  | k + 1 => secs u s k ++ u.sec (s + k)
/-- The bytes of an image that a root tells of. -/
def imgB (u : U) (r : Rt) : List UInt8 := (secs u (1 + r.area * areaN u.L.length) ((r.len + 63) / 64)).take r.len
theorem bytes_take {w : World} {E : Nat → Prop} {a : Option Addr} {m c n : Nat} {l : List UInt8} (h : BytesIn w E (.slice a m c) l) (hn : n ≤ m) : BytesIn w E (.slice a n c) (l.take n) := by
  obtain ⟨a', len', cap', e1, e2, hlc, e3⟩ := h
  simp only [Value.slice.injEq] at e1
  obtain ⟨rfl, rfl, rfl⟩ := e1
  refine ⟨a, n, c, rfl, by rw [List.length_take]; omega, by omega, ?_⟩
  rcases e3 with h0 | ⟨g, o, h1, h2, h3, h4⟩
  · exact .inl (by omega)
  · refine .inr ⟨g, o, h1, h2, h3, fun j v hj => h4 j v ?_⟩
    rw [← hj]
    have hjn : j < (u8s (l.take n)).length := (List.getElem?_eq_some_iff.1 hj).1
    rw [u8s_length, List.length_take] at hjn
    unfold u8s
    rw [List.map_take, List.getElem?_take, if_pos (by omega)]
section
variable {w : World} {bd : Nat} {Z : Nat → Prop} {u : U}
theorem secs_len (h : Dk w bd Z u) (s : Nat) : ∀ k, s + k ≤ u.L.length → (secs u s k).length = 64 * k
  | 0, _ => rfl
  | k + 1, hk => by
    rw [secs, List.length_append, secs_len h s k (by omega), sec64 h (by omega)]
    omega
set_option maxHeartbeats 16000000 in
theorem readImage_any (r : Rt) (ha : r.area ≤ 1) (hn : r.len ≤ areaN u.L.length * 64) (hup : u.up = true) (h : Dk w bd Z u) : Calls Tryz.prog 50 #[vol bd, .agg r.cells.toArray] w fun e w' =>
    e = .returned (.tuple #[L.str (imgB u r), .int .i64 0]) ∧ Fr No w w' := by
  have H := hid h
  have hl := dk_len h
  obtain ⟨A, hA⟩ : ∃ A, areaN u.L.length = A := ⟨_, rfl⟩
  have hAn : 4 * A + 1 ≤ u.L.length := by rw [← hA]; unfold areaN; omega
  obtain ⟨n, hnn⟩ : ∃ n, r.len = n := ⟨_, rfl⟩
  have hn1 : n ≤ 65536 := by rw [hA] at hn; omega
  have HS := hid (And.intro hAn hl.2)
  have hstart := fun w (h : Dk w bd Z u) => start_any h r.area (by omega)
  obtain ⟨s, hs⟩ : ∃ s, 1 + r.area * A = s := ⟨_, rfl⟩
  have hsa : s ≤ 1 + A := by
    rw [← hs]
    have : r.area * A ≤ 1 * A := Nat.mul_le_mul_right _ ha
    omega
  have HK : Hid (∀ k, 64 * k < n → s + k < u.L.length) := hid fun k hk => by rw [hA, hnn] at hn; omega
  have HST := hid (And.intro hsa (show A ≤ 1023 by omega))
  have HSTART := hid hstart
  have HUP := hid hup
  have hni : (n : Int) ≤ 65536 := by omega
  have hsi : (s : Int) ≤ 1024 := by omega
  have HIMG : Hid (imgB u r = (secs u s ((n + 63) / 64)).take n) := hid (by unfold imgB; rw [hA, hs, hnn])
  obtain ⟨img, himg⟩ : ∃ x, imgB u r = x := ⟨_, rfl⟩
  rw [himg] at HIMG ⊢
  have HSE : Hid ((1 + r.area * areaN u.L.length : Nat) = s) := hid (by rw [hA, hs])
  have HNN := hid hnn
  have HH := fun (k : Nat) (hk : s + k ≤ u.L.length) => secs_len h s k hk
  have HSL := hid HH
  clear h hl hn hstart hup ha hnn hs hAn hA himg HH hsa
  go_enter Tryz.func50, Tryz.ntmps50
  go_wp2_with (first
    | ((with_reducible show wpList _ _ _ (⟨_, .box 59 _, _, _, _, _⟩ :: _) _ _); refine wpL_box rfl _ _ rfl _ rfl [pt bd] rfl ?_; intro w1 HB1 F1 HS1)
    | ((with_reducible show wpList _ _ _ (⟨_, .box 66 _, _, _, _, _⟩ :: _) _ _); refine wpL_box rfl _ _ rfl _ rfl r.cells rfl ?_; intro w2 HB2 F2 HS2; have x0 : w2.cell? ⟨w1.heap.size, 0, none⟩ = some (.int .i64 (r.area : Int)) := HB2.out.cell 0; have HV2 := hid (HB1.out.fr F2.out id); have hrv := HV2.out.range 0 [pt bd] rfl)
    | ((with_reducible show wpList _ _ _ (⟨_, .load 59 _, _, _, _, _⟩ :: _) _ _); refine wpL_load rfl _ _ rfl w.heap.size 0 rfl [pt bd] _ hrv rfl rfl infoVol ?_)
    | fail)
  have HF2 := hid (F1.out.trans' F2.out)
  refine (HSTART.out w2 (D.Rep.no H.out HF2.out)).mono ?_
  rintro e w3 ⟨rfl, f3⟩
  rw [HSE.out]
  have HF3 := hid (HF2.out.trans' f3)
  have HV3 := hid (HV2.out.fr f3 id)
  have HR3 := hid (HB2.out.fr f3 id)
  obtain ⟨bv, hbv⟩ : ∃ b, w.heap.size = b := ⟨_, rfl⟩
  obtain ⟨bq, hbq⟩ : ∃ b, w1.heap.size = b := ⟨_, rfl⟩
  rw [hbv] at HV3 ⊢
  rw [hbq] at HR3 ⊢
  clear f3 x0 hrv HV2 HB1 F1 HS1 HB2 F2 HS2 HF2 hbv hbq
  go_wp2_with fail
  go_loopw [6, 7] (fun iv nv wr => ∃ (k : Nat) (a : Option Addr) (c : Nat), iv = .slice a (64 * k) c ∧ nv = .int .i64 ((s + k : Nat) : Int) ∧ Hid (OwB w3 wr (.slice a (64 * k) c) (secs u s k)) ∧ Hid (64 * k < n + 64) ∧ Hid (s + k ≤ u.L.length)) (fun _ nv _ => u.L.length - (intOf nv).toNat)
  case atStart => exact ⟨0, none, 0, rfl, rfl, hid (owB_nil (Fr.refl _ _)), hid (by omega), hid (by have := HST.out; have := HS.out; omega)⟩
  case round =>
    obtain ⟨k, ad, c, rfl, rfl, HO, HK1, HK2⟩ := hrel
    have hki : ((s + k : Nat) : Int) ≤ 4096 := by have := HK2.out; have := HS.out; omega
    have q2 : wr.cell? ⟨bq, 2, none⟩ = some (.int .i64 (n : Int)) := by
      have := (HR3.out.fr HO.out.fr id).cell 2
      rw [← HNN.out]
      exact this
    have q0 : wr.cell? ⟨bv, 0, none⟩ = some (pt bd) := (HV3.out.fr HO.out.fr id).cell 0
    have hk64 : ((64 * k : Nat) : Int) ≤ 65600 := by have := HK1.out; omega
    by_cases hlt : 64 * k < n
    · have hlt' : ((64 * k : Nat) : Int) < n := by omega
      have HLT := hid (HK.out k hlt)
      have HD := hid (D.Rep.no H.out (HF3.out.trans' HO.out.fr))
      have HDK : Hid (Dk wr bd Z u) := HD
      clear HD
      obtain ⟨m, hm⟩ : ∃ m, 64 * k = m := ⟨_, rfl⟩
      obtain ⟨p, hp⟩ : ∃ m, s + k = m := ⟨_, rfl⟩
      have HM := hid hm; have HPP := hid hp
      rw [hm] at hlt' hk64 HO ⊢
      rw [hp] at hki ⊢
      clear hlt hm hp
      go_wp2_with fail
      refine (dread_any p HDK.out (by rw [← HPP.out]; exact HLT.out) HUP.out).mono ?_
      rintro e w4 ⟨a4, cap4, rfl, h64, hat, ⟨k4, o4, rfl, hk4, hk5⟩, f4⟩
      have HL64 := hid (sec64 HDK.out (show p < u.L.length by rw [← HPP.out]; exact HLT.out))
      have HO4 := hid (HO.out.no f4)
      have hrg := hid (at_range hat)
      clear f4 hat q0 q2 hk4 hk5
      go_wp2_with (first
        | ((with_reducible show wpList _ _ _ (⟨_, .call { callee := .builtin .append, args := _, argTypes := _ }, _, _, _, _⟩ :: _) _ _); refine wpL_appB rfl _ _ rfl HO4.out rfl (some ⟨k4, o4, none⟩) 64 cap4 (u.sec p) rfl HL64.out (.inr ⟨_, rfl, range_loads hrg.out⟩) (m + 64) (by rw [HSL.out k (by have := HK2.out; omega), HM.out]) (secs u s (k + 1)) (by rw [secs, HPP.out]) (by have := HM.out; have := HK1.out; omega) ?_; intro a5 cap5 w5 HO5 F5 HW5)
        | fail)
      refine ⟨⟨k + 1, a5, cap5, by have := HM.out; congr 1; omega, by have := HPP.out; congr 1; omega, ?_, hid (by have := HM.out; omega), hid HLT.out⟩, ?_⟩
      · rw [show 64 * (k + 1) = m + 64 by have := HM.out; omega]
        exact HO5
      · have := HPP.out; have := HLT.out
        simp only [intOf]
        omega
    · have hge : ¬ ((64 * k : Nat) : Int) < n := by omega
      have hkk : (n + 63) / 64 = k := by have := HK1.out; omega
      have HLN := hid (HSL.out k HK2.out)
      have HIM : Hid (img = (secs u s k).take n) := hid (by rw [HIMG.out, hkk])
      have HBI := hid (HO.out.bytes)
      obtain ⟨a', len', cap', e1, e2, hlc, e3⟩ := HO.out.bytes
      simp only [Value.slice.injEq] at e1
      obtain ⟨rfl, rfl, rfl⟩ := e1
      have hnc : (n : Int) ≤ c := by omega
      obtain ⟨m, hm⟩ : ∃ m, 64 * k = m := ⟨_, rfl⟩
      have HM := hid hm
      have HLE := hid (show n ≤ m by omega)
      have HHC := hid hlc
      rw [hm] at hge hk64 ⊢
      clear hlt hkk hlc e3 hm e2
      have HBT : Hid (BytesIn wr (fun k => w3.heap.size ≤ k) (.slice ad n c) img) := hid (by
        rw [HIM.out]
        exact bytes_take HBI.out (by have := HLE.out; have := HM.out; omega))
      go_wp2_with ((with_reducible show wpList _ _ _ (⟨_, .convert _ 9 _, _, _, _, _⟩ :: _) _ _); refine wpL_stringOf rfl _ _ _ _ rfl _ _ img rfl HBT.out Tryz.underlying40 Tryz.underlying5 Tryz.underlying9 ?_)
      go_ret2
      exact ⟨rfl, HF3.out.trans' HO.out.fr⟩
end
end Go.Proofs.YtflfmkokfbgclaaGreat.ST
