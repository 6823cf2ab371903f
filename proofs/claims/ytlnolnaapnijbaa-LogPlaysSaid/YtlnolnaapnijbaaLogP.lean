/-
  The closures of package log: a number is put into bytes, and read out of them.
-/
import Derived.Test.YtlnolnaapnijbaaLogD
import Derived.Test.YtlnolnaapnijbaaSumA
import Derived.Test.YtlnolnaapnijbaaDraw
namespace Go.Proofs.Ytlnolnaapnijbaa.L
set_option maxRecDepth 100000
open Go.RowKit K

/-- l, but from place o on xs. -/
def putl (l : List UInt8) (o : Nat) (xs : List UInt8) : List UInt8 := l.take o ++ xs ++ l.drop (o + xs.length)
theorem putl_nil (l : List UInt8) (o : Nat) : putl l o [] = l := by simp [putl]
theorem putl_length {l : List UInt8} {o : Nat} {xs : List UInt8} (h : o + xs.length ≤ l.length) : (putl l o xs).length = l.length := by simp [putl]; omega
theorem putl_snoc {l : List UInt8} {o : Nat} {xs : List UInt8} {c : UInt8} (h : o + xs.length < l.length) : (putl l o xs).set (o + xs.length) c = putl l o (xs ++ [c]) := by
  unfold putl
  have h1 : (l.take o ++ xs).length = o + xs.length := by simp; omega
  rw [List.set_append_right _ _ (by omega), h1, Nat.sub_self]
  rw [List.drop_eq_getElem_cons h, List.set_cons_zero]
  simp [Nat.add_assoc]
theorem u8_of_u32 (n : Nat) : ((n : Int) % 256) = ((UInt8.ofNat n).toNat : Int) := by rw [ofNat_toNat]; omega

theorem put_any (bb fr k n : Nat) (l : List UInt8) (w : World) (hB : Blk w bb 116 (u8s l)) (hl : l.length = 64) (h : fr + k ≤ 64) (hn : n < 4294967296) :
    Calls Try.prog 88 #[.int .i64 fr, .int .i64 ((fr + k : Nat) : Int), .int .u32 n, .pointer (some ⟨bb, 0, none⟩)] w fun e w' =>
      e = .returned (.tuple #[]) ∧ Blk w' bb 116 (u8s (putl l fr (le k n))) ∧ Fr (fun b => b = bb) w w' ∧ w'.heap.size = w.heap.size := by
  have HB := hid hB; have HL := hid hl; have HN := hid hn
  clear hB hl hn
  go_enter Try.func88, Try.ntmps88
  go_wp2_with fail
  go_loopw [2, 7] (fun m i wr => ∃ j : Nat, j ≤ k ∧ i = .int .i64 ((fr + j : Nat) : Int) ∧ m = .int .u32 ((n / 256 ^ j : Nat) : Int) ∧ Hid (Blk wr bb 116 (u8s (putl l fr (le j n)))) ∧ Hid (Fr (fun b => b = bb) w wr) ∧ Hid (wr.heap.size = w.heap.size)) (fun _ i _ => fr + k - (intOf i).toNat)
  case atStart => exact ⟨0, by omega, rfl, by simp, hid (by rw [le, putl_nil]; exact HB.out), hid (Fr.refl _ _), hid rfl⟩
  case round =>
    obtain ⟨j, hj, rfl, rfl, HR, HF, HZ⟩ := hrel
    by_cases hlt : j < k
    · have c1 : wr.cell? ⟨bb, fr + j, none⟩ = _ := HR.out.cell (fr + j)
      have f1 := HR.out.frozen (fr + j)
      have hlen : fr + j < (putl l fr (le j n)).length := by rw [putl_length (by simp [HL.out]; omega), HL.out]; omega
      rw [u8s_get _ _ hlen] at c1
      generalize ((putl l fr (le j n))[fr + j].toNat : Int) = old at c1
      have HX := hid hlen; clear hlen
      have hd : n / 256 ^ j ≤ 4294967295 := Nat.le_trans (Nat.div_le_self _ _) (by have := HN.out; omega)
      have HD : Hid (n / 256 ^ (j + 1) = n / 256 ^ j / 256) := hid (by rw [Nat.pow_succ, Nat.div_div_eq_div_mul])
      have HS : Hid (le (j + 1) n = le j n ++ [UInt8.ofNat (n / 256 ^ j)]) := hid (le_snoc j n)
      generalize n / 256 ^ j = m at hd HD HS ⊢
      go_wp2_with fail
      refine ⟨⟨j + 1, by omega, by go_num, by rw [HD.out]; go_num, hid ?_, hid (HF.out.setCell _ _ (.inl rfl)), hid (by rw [World.size_setCell]; exact HZ.out)⟩, by simp [intOf]; omega⟩
      have h2 := HR.out.set (fr + j) (.int .u8 ((m : Int) % 256))
      rw [u8_of_u32] at h2 ⊢
      rw [u8s_set] at h2
      have h3 := putl_snoc (l := l) (o := fr) (xs := le j n) (c := UInt8.ofNat m) (by have := HL.out; simp; omega)
      rw [le_length, ← HS.out] at h3
      rwa [h3] at h2
    · have hjk : j = k := by omega
      have HJ := hid hjk; clear hjk
      go_wp2
      go_end0
      have := HR.out
      rw [HJ.out] at this
      exact ⟨rfl, this, HF.out, HZ.out⟩

theorem nm_step {l : List UInt8} {i j : Nat} (h : i < l.length) : nm ((l.drop i).take (j + 1)) = l[i].toNat + 256 * nm ((l.drop (i + 1)).take j) := by
  rw [List.drop_eq_getElem_cons h, List.take_succ_cons, nm]
theorem number_any (pb fr k : Nat) (l : List UInt8) (a : Option Addr) (cap : Nat) (w : World) (hc : w.cell? ⟨pb, 0, none⟩ = some (.slice a l.length cap)) (hr : S.At w a l) (h : fr + k ≤ l.length) (hl : l.length = 64) (hk : k ≤ 4) :
    Calls Try.prog 110 #[.int .i64 fr, .int .i64 ((fr + k : Nat) : Int), .pointer (some ⟨pb, 0, none⟩)] w fun e w' => e = .returned (.int .u32 (nm ((l.drop fr).take k) : Nat)) ∧ w = w' := by
  have HR := hid hr; have HL := hid hl
  have hfk : (fr : Int) + k ≤ 64 := by omega
  have hf0 : 0 ≤ (fr : Int) + k := by omega
  clear hr hl
  go_enter Try.func110, Try.ntmps110
  go_wp2_with fail
  go_loop [6, 7] (fun m i => ∃ j : Nat, j ≤ k ∧ i = .int .i64 ((fr : Int) + k - 1 - j) ∧ m = .int .u32 ((nm ((l.drop (fr + (k - j))).take j) : Nat) : Int)) (fun _ i => (intOf i + 1).toNat)
  case atStart => exact ⟨0, by omega, by go_num, by simp [nm]⟩
  case round =>
    obtain ⟨j, hj, rfl, rfl⟩ := hrel
    by_cases hlt : j < k
    · have hi : fr + (k - (j + 1)) < l.length := by have := HL.out; omega
      obtain ⟨g, o, rfl, hcell⟩ := HR.out _ hi
      have HS := hid (nm_step (j := j) hi)
      rw [show fr + (k - (j + 1)) + 1 = fr + (k - j) by omega] at HS
      have hlt2 := nm_lt ((l.drop (fr + (k - j))).take j)
      have hlen : ((l.drop (fr + (k - j))).take j).length ≤ 3 := by simp; omega
      have hm : nm ((l.drop (fr + (k - j))).take j) < 16777216 := Nat.lt_of_lt_of_le hlt2 (Nat.le_trans (Nat.pow_le_pow_right (by decide) hlen) (by decide))
      have hcl := l[fr + (k - (j + 1))].toNat_lt
      generalize nm ((l.drop (fr + (k - j))).take j) = m at hm HS ⊢
      generalize l[fr + (k - (j + 1))].toNat = c at hcl hcell HS ⊢
      rw [show (fr : Int) + k - 1 - j = ((fr + (k - (j + 1)) : Nat) : Int) by omega]
      generalize hidx : fr + (k - (j + 1)) = idx at hcell HS hi ⊢
      have hidx' : (fr : Int) ≤ idx := by omega
      have hL : (idx : Int) < l.length := by omega
      have hL2 : (idx : Int) ≤ 64 := by omega
      clear hlt2 hlen HR
      go_wp2_with fail
      have hor : bits .or .u32 ((m : Int) * 256) (c : Int) = ((c + 256 * m : Nat) : Int) := by
        have e := u32_or_nat (m * 256) c (by omega) (by omega)
        rw [show ((m * 256 : Nat) : Int) = (m : Int) * 256 by omega] at e
        have e2 : m * 256 ||| c = c + 256 * m := by
          have := Nat.shiftLeft_add_eq_or_of_lt (i := 8) hcl m
          rw [Nat.shiftLeft_eq, show (2 : Nat) ^ 8 = 256 from rfl] at this
          omega
        rw [e, e2]
      refine ⟨⟨j + 1, by omega, by go_num, ?_⟩, by simp [intOf]⟩
      rw [hor, show fr + (k - (j + 1)) = idx from hidx, HS.out]
    · have hjk : j = k := by omega
      subst hjk
      go_wp2
      go_ret
      exact ⟨by simp, rfl⟩
end Go.Proofs.Ytlnolnaapnijbaa.L
