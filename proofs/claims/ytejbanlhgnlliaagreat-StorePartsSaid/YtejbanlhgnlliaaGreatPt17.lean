/-
  Part 17 of the proof: SumA, LogP, LogS, LogV.
-/
import Derived.Test.YtejbanlhgnlliaaGreatPt16
import Derived.Test.YtejbanlhgnlliaaGreatPt00
import Derived.Test.YtejbanlhgnlliaaGreatPt01
import Derived.Test.YtejbanlhgnlliaaGreatChecked
namespace Go.Proofs.YtejbanlhgnlliaaGreat.S
set_option maxRecDepth 100000
open Go.RowKit K

theorem through_take (r : Nat) (l : List UInt8) (k : Nat) (h : k < l.length) : through r (l.take (k + 1)) = steps 8 (through r (l.take k) ^^^ l[k].toNat) := by
  rw [List.take_succ_eq_append_getElem h, through_append]
  rfl
theorem inv_walk {x : Nat} (h : x < 4294967296) : bits .xor .u32 IntKind.u32.max (x : Int) = ((inv x : Nat) : Int) := by
  rw [show IntKind.u32.max = ((4294967295 : Nat) : Int) by decide, inv_eq]
  exact xor32 (a := 4294967295) (by decide) h

theorem u8_mod (c : UInt8) : (c.toNat : Int) % 4294967296 = (c.toNat : Int) := by have := c.toNat_lt; omega
/-- The bytes of a slice, as the walk asks for them. -/
def At (w : World) (a : Option Addr) (l : List UInt8) : Prop := ∀ k (h : k < l.length), ∃ g o, a = some ⟨g, o, none⟩ ∧ w.cell? ⟨g, o + k, none⟩ = some (.int .u8 (l[k].toNat : Int))
theorem at_of {w : World} {E : Nat → Prop} {v : Value} {l : List UInt8} (h : BytesIn w E v l) : ∃ a cap, v = .slice a l.length cap ∧ l.length ≤ cap ∧ At w a l := by
  obtain ⟨a, len, cap, rfl, rfl, h0, h3⟩ := h
  refine ⟨a, cap, rfl, h0, fun k hk => ?_⟩
  obtain ⟨g, o, h4, _, _, h5⟩ := h3.resolve_left (by omega)
  exact ⟨g, o, h4, h5 k _ (u8s_get l k hk)⟩
theorem At.no {w w' : World} {a : Option Addr} {l : List UInt8} (h : At w a l) (hf : Fr No w w') : At w' a l := fun k hk => by
  obtain ⟨g, o, h1, h2⟩ := h k hk
  exact ⟨g, o, h1, hf.cell h2 (fun e => e)⟩
theorem At.lt {w : World} {a : Option Addr} {l : List UInt8} (h : At w a l) (hl : 0 < l.length) {g o : Nat} (e : a = some ⟨g, o, none⟩) : g < w.heap.size := by
  obtain ⟨g', o', h1, h2⟩ := h 0 hl
  rw [h1] at e
  cases e
  exact World.block_lt_of_cell? w _ h2
theorem At.take {w : World} {a : Option Addr} {l : List UInt8} (h : At w a l) (n : Nat) : At w a (l.take n) := fun k hk => by
  obtain ⟨g, o, h1, h2⟩ := h k (by simp at hk; omega)
  exact ⟨g, o, h1, by rw [List.getElem_take]; exact h2⟩

set_option maxRecDepth 100000 in
theorem add_at (s : Nat) (l : List UInt8) (a : Option Addr) (cap : Nat) (w : World) (hs : s < 4294967296) (hr : At w a l) (hl : l.length ≤ 9223372036854775807) : Calls Tryz.prog 63 #[.int .u32 (s : Int), .slice a l.length cap] w fun e w' =>
    e = .returned (.int .u32 (add s l : Nat)) ∧ w = w' := by
  have HS := hid hs
  have HI := hid (inv_walk hs)
  have HR := hid hr
  clear hs hr
  go_enter Tryz.func63, Tryz.ntmps63
  go_wp2_with fail
  rw [HI.out]
  go_loop [5, 12] (fun x k => ∃ n : Nat, n ≤ l.length ∧ k = .int .i64 n ∧ x = .int .u32 (through (inv s) (l.take n) : Nat)) (fun _ k => l.length - (intOf k).toNat)
  case atStart => exact ⟨0, by omega, rfl, rfl⟩
  case round =>
    obtain ⟨n, hn, rfl, rfl⟩ := hrel
    by_cases hlt : n < l.length
    · obtain ⟨g, o, rfl, hc⟩ := HR.out n hlt
      have HT : Hid (through (inv s) (l.take n) < 4294967296) := hid (through_lt (inv_lt HS.out) _)
      have HX := hid (xor32 HT.out (u8_lt l[n]))
      have HXl := hid (xor_lt HT.out (u8_lt l[n]))
      have HE := hid (through_take (inv s) l n hlt)
      have HM := hid (u8_mod l[n])
      go_wp2_with fail
      rw [HM.out, HX.out]
      refine (divide_any _ w HXl.out).mono ?_
      rintro e w' ⟨rfl, rfl⟩
      go_wp2
      go_round
      case rel => exact ⟨n + 1, by omega, by go_num, by rw [HE.out]⟩
      case measure => simp [intOf]; omega
    · obtain rfl : n = l.length := by omega
      have HT : Hid (inv (through (inv s) l) = add s l) := hid rfl
      have HI2 := hid (inv_walk (through_lt (inv_lt HS.out) l))
      rw [List.take_length]
      go_wp2
      go_ret
      exact ⟨by rw [HI2.out]; rfl, rfl⟩

theorem add_any (s : Nat) (l : List UInt8) (v : Value) (w : World) {E : Nat → Prop} (hs : s < 4294967296) (hb : BytesIn w E v l) (hl : l.length ≤ 9223372036854775807) : Calls Tryz.prog 63 #[.int .u32 (s : Int), v] w fun e w' =>
    e = .returned (.int .u32 (add s l : Nat)) ∧ w = w' := by
  obtain ⟨a, cap, rfl, _, h⟩ := at_of hb
  exact add_at s l a cap w hs h hl
theorem sum_at (l : List UInt8) (a : Option Addr) (cap : Nat) (w : World) (hr : At w a l) (hl : l.length ≤ 9223372036854775807) : Calls Tryz.prog 62 #[.slice a l.length cap] w fun e w' =>
    e = .returned (.int .u32 (add 0 l : Nat)) ∧ w = w' := by
  have HA := hid (add_at 0 l a cap w (by decide) hr hl)
  clear hr
  go_enter Tryz.func62, Tryz.ntmps62
  go_wp2_with (go_at_call 63; refine HA.out.mono ?_; rintro e w' ⟨rfl, rfl⟩)
  go_ret
  exact ⟨rfl, rfl⟩
theorem sum_any (l : List UInt8) (v : Value) (w : World) {E : Nat → Prop} (hb : BytesIn w E v l) (hl : l.length ≤ 9223372036854775807) : Calls Tryz.prog 62 #[v] w fun e w' =>
    e = .returned (.int .u32 (add 0 l : Nat)) ∧ w = w' := by
  obtain ⟨a, cap, rfl, _, h⟩ := at_of hb
  exact sum_at l a cap w h hl
end Go.Proofs.YtejbanlhgnlliaaGreat.S

namespace Go.Proofs.YtejbanlhgnlliaaGreat.L
set_option maxRecDepth 100000
open Go.RowKit K

/-- l, but from place o on xs. -/
def putl (l : List UInt8) (o : Nat) (xs : List UInt8) : List UInt8 := l.take o ++ xs ++ l.drop (o + xs.length)
theorem putl_nil (l : List UInt8) (o : Nat) : putl l o [] = l := by simp [putl]
theorem putl_length {l : List UInt8} {o : Nat} {xs : List UInt8} (h : o + xs.length ≤ l.length) : (putl l o xs).length = l.length := by simp [putl]; omega
theorem putl_snoc {l : List UInt8} {o : Nat} {xs : List UInt8} {c : UInt8} (h : o + xs.length < l.length) : (putl l o xs).set (o + xs.length) c = putl l o (xs ++ [c]) := by
  unfold putl
  have h1 : (l.take o ++ xs).length = o + xs.length := by simp; omega
  rw [List.set_append_right _ _ (by omega), h1, Nat.sub_self]
  rw [List.drop_eq_getElem_cons h, List.set_cons_zero]
  simp [Nat.add_assoc]
theorem u8_of_u32 (n : Nat) : ((n : Int) % 256) = ((UInt8.ofNat n).toNat : Int) := by rw [ofNat_toNat]; omega

theorem put_any (bb fr k n : Nat) (l : List UInt8) (w : World) (hB : Blk w bb 101 (u8s l)) (hl : l.length = 64) (h : fr + k ≤ 64) (hn : n < 4294967296) :
    Calls Tryz.prog 96 #[.int .i64 fr, .int .i64 ((fr + k : Nat) : Int), .int .u32 n, .pointer (some ⟨bb, 0, none⟩)] w fun e w' =>
      e = .returned (.tuple #[]) ∧ Blk w' bb 101 (u8s (putl l fr (le k n))) ∧ Fr (fun b => b = bb) w w' ∧ w'.heap.size = w.heap.size := by
  have HB := hid hB; have HL := hid hl; have HN := hid hn
  clear hB hl hn
  go_enter Tryz.func96, Tryz.ntmps96
  go_wp2_with fail
  go_loopw [2, 7] (fun m i wr => ∃ j : Nat, j ≤ k ∧ i = .int .i64 ((fr + j : Nat) : Int) ∧ m = .int .u32 ((n / 256 ^ j : Nat) : Int) ∧ Hid (Blk wr bb 101 (u8s (putl l fr (le j n)))) ∧ Hid (Fr (fun b => b = bb) w wr) ∧ Hid (wr.heap.size = w.heap.size)) (fun _ i _ => fr + k - (intOf i).toNat)
  case atStart => exact ⟨0, by omega, rfl, by simp, hid (by rw [le, putl_nil]; exact HB.out), hid (Fr.refl _ _), hid rfl⟩
  case round =>
    obtain ⟨j, hj, rfl, rfl, HR, HF, HZ⟩ := hrel
    by_cases hlt : j < k
    · have c1 : wr.cell? ⟨bb, fr + j, none⟩ = _ := HR.out.cell (fr + j)
      have f1 := HR.out.frozen (fr + j)
      have hlen : fr + j < (putl l fr (le j n)).length := by rw [putl_length (by simp [HL.out]; omega), HL.out]; omega
      rw [u8s_get _ _ hlen] at c1
      generalize ((putl l fr (le j n))[fr + j].toNat : Int) = old at c1
      have HX := hid hlen; clear hlen
      have hd : n / 256 ^ j ≤ 4294967295 := Nat.le_trans (Nat.div_le_self _ _) (by have := HN.out; omega)
      have HD : Hid (n / 256 ^ (j + 1) = n / 256 ^ j / 256) := hid (by rw [Nat.pow_succ, Nat.div_div_eq_div_mul])
      have HS : Hid (le (j + 1) n = le j n ++ [UInt8.ofNat (n / 256 ^ j)]) := hid (le_snoc j n)
      generalize n / 256 ^ j = m at hd HD HS ⊢
      go_wp2_with fail
      refine ⟨⟨j + 1, by omega, by go_num, by rw [HD.out]; go_num, hid ?_, hid (HF.out.setCell _ _ (.inl rfl)), hid (by rw [World.size_setCell]; exact HZ.out)⟩, by simp [intOf]; omega⟩
      have h2 := HR.out.set (fr + j) (.int .u8 ((m : Int) % 256))
      rw [u8_of_u32] at h2 ⊢
      rw [u8s_set] at h2
      have h3 := putl_snoc (l := l) (o := fr) (xs := le j n) (c := UInt8.ofNat m) (by have := HL.out; simp; omega)
      rw [le_length, ← HS.out] at h3
      rwa [h3] at h2
    · have hjk : j = k := by omega
      have HJ := hid hjk; clear hjk
      go_wp2
      go_end0
      have := HR.out
      rw [HJ.out] at this
      exact ⟨rfl, this, HF.out, HZ.out⟩

theorem nm_step {l : List UInt8} {i j : Nat} (h : i < l.length) : nm ((l.drop i).take (j + 1)) = l[i].toNat + 256 * nm ((l.drop (i + 1)).take j) := by
  rw [List.drop_eq_getElem_cons h, List.take_succ_cons, nm]
theorem number_any (pb fr k : Nat) (l : List UInt8) (a : Option Addr) (cap : Nat) (w : World) (hc : w.cell? ⟨pb, 0, none⟩ = some (.slice a l.length cap)) (hr : S.At w a l) (h : fr + k ≤ l.length) (hl : l.length = 64) (hk : k ≤ 4) :
    Calls Tryz.prog 124 #[.int .i64 fr, .int .i64 ((fr + k : Nat) : Int), .pointer (some ⟨pb, 0, none⟩)] w fun e w' => e = .returned (.int .u32 (nm ((l.drop fr).take k) : Nat)) ∧ w = w' := by
  have HR := hid hr; have HL := hid hl
  have hfk : (fr : Int) + k ≤ 64 := by omega
  have hf0 : 0 ≤ (fr : Int) + k := by omega
  clear hr hl
  go_enter Tryz.func124, Tryz.ntmps124
  go_wp2_with fail
  go_loop [6, 7] (fun m i => ∃ j : Nat, j ≤ k ∧ i = .int .i64 ((fr : Int) + k - 1 - j) ∧ m = .int .u32 ((nm ((l.drop (fr + (k - j))).take j) : Nat) : Int)) (fun _ i => (intOf i + 1).toNat)
  case atStart => exact ⟨0, by omega, by go_num, by simp [nm]⟩
  case round =>
    obtain ⟨j, hj, rfl, rfl⟩ := hrel
    by_cases hlt : j < k
    · have hi : fr + (k - (j + 1)) < l.length := by have := HL.out; omega
      obtain ⟨g, o, rfl, hcell⟩ := HR.out _ hi
      have HS := hid (nm_step (j := j) hi)
      rw [show fr + (k - (j + 1)) + 1 = fr + (k - j) by omega] at HS
      have hlt2 := nm_lt ((l.drop (fr + (k - j))).take j)
      have hlen : ((l.drop (fr + (k - j))).take j).length ≤ 3 := by simp; omega
      have hm : nm ((l.drop (fr + (k - j))).take j) < 16777216 := Nat.lt_of_lt_of_le hlt2 (Nat.le_trans (Nat.pow_le_pow_right (by decide) hlen) (by decide))
      have hcl := l[fr + (k - (j + 1))].toNat_lt
      generalize nm ((l.drop (fr + (k - j))).take j) = m at hm HS ⊢
      generalize l[fr + (k - (j + 1))].toNat = c at hcl hcell HS ⊢
      rw [show (fr : Int) + k - 1 - j = ((fr + (k - (j + 1)) : Nat) : Int) by omega]
      generalize hidx : fr + (k - (j + 1)) = idx at hcell HS hi ⊢
      have hidx' : (fr : Int) ≤ idx := by omega
      have hL : (idx : Int) < l.length := by omega
      have hL2 : (idx : Int) ≤ 64 := by omega
      clear hlt2 hlen HR
      go_wp2_with fail
      have hor : bits .or .u32 ((m : Int) * 256) (c : Int) = ((c + 256 * m : Nat) : Int) := by
        have e := u32_or_nat (m * 256) c (by omega) (by omega)
        rw [show ((m * 256 : Nat) : Int) = (m : Int) * 256 by omega] at e
        have e2 : m * 256 ||| c = c + 256 * m := by
          have := Nat.shiftLeft_add_eq_or_of_lt (i := 8) hcl m
          rw [Nat.shiftLeft_eq, show (2 : Nat) ^ 8 = 256 from rfl] at this
          omega
        rw [e, e2]
      refine ⟨⟨j + 1, by omega, by go_num, ?_⟩, by simp [intOf]⟩
      rw [hor, show fr + (k - (j + 1)) = idx from hidx, HS.out]
    · have hjk : j = k := by omega
      subst hjk
      go_wp2
      go_ret
      exact ⟨by simp, rfl⟩
end Go.Proofs.YtejbanlhgnlliaaGreat.L

namespace Go.Proofs.YtejbanlhgnlliaaGreat.L
set_option maxRecDepth 100000
open Go.RowKit K

/-- O1. -/
def secs (n : Int) : Int := if n ≤ 48 then 1 else (n - 1) / 48 + 1
theorem secs_le {n : Int} (h : n ≤ 48) : secs n = 1 := if_pos h
theorem secs_gt {n : Int} (h : ¬ n ≤ 48) : secs n = (n - 1) / 48 + 1 := if_neg h

theorem sectors_any (n : Int) (w : World) (h0 : -9223372036854775808 ≤ n) (h1 : n ≤ 9223372036854775807) : Calls Tryz.prog 38 #[.int .i64 n] w fun e w' => e = .returned (.int .i64 (secs n)) ∧ w = w' := by
  by_cases h : n ≤ 48
  · rw [secs_le h]
    go_enter Tryz.func38, Tryz.ntmps38
    go_wp2
    go_ret
    exact ⟨rfl, rfl⟩
  · rw [secs_gt h]
    have h2 : 48 < n := by omega
    go_enter Tryz.func38, Tryz.ntmps38
    go_wp2
    go_ret
    refine ⟨?_, rfl⟩
    first | rfl | (rw [Int.tdiv_eq_ediv_of_nonneg (by omega)])

end Go.Proofs.YtejbanlhgnlliaaGreat.L

namespace Go.Proofs.YtejbanlhgnlliaaGreat.D
set_option maxRecDepth 100000
open Go.RowKit K

theorem write_any {w : World} {bd : Nat} {D : Nat → Prop} {s : St} (n : Int) (v : Value) (bs : List Int) (E : Nat → Prop) (hv : BytesIn w E v bs) (hE : ∀ k, E k → ¬ D k) (h : At w bd D s) (hp : s.P.length < 1000000) :
    Calls Tryz.prog 85 #[.pointer (some ⟨bd, 0, none⟩), .int .i64 n, v] w fun e w' => e = .returned (.int .i64 (s.write n bs).1) ∧ ∃ D', At w' bd D' (s.write n bs).2 ∧ Fr D w w' ∧ Grows w D D' := by
  by_cases hno : s.up = false ∨ ¬ (0 ≤ n ∧ n < s.L.length) ∨ 64 < bs.length
  · refine (write_no n v bs E hv h hno).mono ?_
    rintro e w' ⟨rfl, h2, rfl⟩
    exact ⟨rfl, D, by rw [h2]; exact h, Fr.refl _ _, Grows.refl _ _⟩
  · have hu : s.up = true := by cases hu : s.up with | true => rfl | false => exact absurd (.inl hu) hno
    have hn : 0 ≤ n ∧ n < s.L.length := Decidable.byContradiction fun hc => hno (.inr (.inl hc))
    have h64 : bs.length ≤ 64 := Nat.le_of_not_lt fun hc => hno (.inr (.inr hc))
    cases hs : s.spend.1 with
    | false =>
      refine (write_out n v bs E hv h hu hn h64 hs).mono ?_
      rintro e w' ⟨rfl, h2, h3⟩
      exact ⟨rfl, D, h2, h3, Grows.refl _ _⟩
    | true =>
      obtain ⟨i, rfl⟩ := Int.eq_ofNat_of_zero_le hn.1
      exact write_yes i v bs E hv hE h hu (by omega) h64 hs hp
end Go.Proofs.YtejbanlhgnlliaaGreat.D
namespace Go.Proofs.YtejbanlhgnlliaaGreat.L
open Go.RowKit K

/-- The program's disk, as U. -/
abbrev Dk (w : World) (bd : Nat) (Z : Nat → Prop) (u : U) : Prop := D.At w bd Z u.st
section
variable {w : World} {bd : Nat} {Z : Nat → Prop} {u : U}
theorem dwrite_any (n : Int) (v : Value) (b : List UInt8) (E : Nat → Prop) (hv : K.BytesIn w E v b) (hE : ∀ k, E k → ¬ Z k) (h : Dk w bd Z u) (hp : u.P.length < 1000000) :
    Calls Tryz.prog 85 #[.pointer (some ⟨bd, 0, none⟩), .int .i64 n, v] w fun e w' => e = .returned (.int .i64 (u.write n b).1) ∧ ∃ Z', Dk w' bd Z' (u.write n b).2 ∧ Fr Z w w' ∧ Grows w Z Z' := by
  have := D.write_any n v (ints b) E (bytes_ints hv) hE h (by simpa [U.st] using hp)
  rwa [st_write] at this
theorem dflush_any (h : Dk w bd Z u) : Calls Tryz.prog 77 #[.pointer (some ⟨bd, 0, none⟩)] w fun e w' => e = .returned (.int .i64 u.flush.1) ∧ Dk w' bd Z u.flush.2 ∧ Fr Z w w' := by
  have := D.flush_any h
  rwa [st_flush] at this
theorem dcrash_any (v : Value) (keep : List Bool) (E : Nat → Prop) (hv : D.BoolsIn w E v keep) (hE : ∀ k, E k → ¬ Z k) (hlen : keep.length ≤ 9223372036854775807) (h : Dk w bd Z u) :
    Calls Tryz.prog 20 #[.pointer (some ⟨bd, 0, none⟩), v] w fun e w' => e = .returned (.int .i64 (u.crash keep).1) ∧ Dk w' bd Z (u.crash keep).2 ∧ Fr Z w w' := by
  have := D.crash_any v keep E hv hE hlen h
  rwa [st_crash] at this
theorem darm_any (n : Int) (hn : n ≤ 9223372036854775807) (h : Dk w bd Z u) : Calls Tryz.prog 21 #[.pointer (some ⟨bd, 0, none⟩), .int .i64 n] w fun e w' => e = .returned (.int .i64 (u.arm n).1) ∧ Dk w' bd Z (u.arm n).2 ∧ Fr Z w w' := by
  have := D.arm_any n hn h
  rwa [st_arm] at this
theorem dup_any (h : Dk w bd Z u) : Calls Tryz.prog 17 #[.pointer (some ⟨bd, 0, none⟩)] w fun e w' => e = .returned (.bool u.up) ∧ w = w' := D.up_any h
theorem dsectors_any (h : Dk w bd Z u) : Calls Tryz.prog 32 #[.pointer (some ⟨bd, 0, none⟩)] w fun e w' => e = .returned (.int .i64 u.L.length) ∧ w = w' := by
  have := D.sectors_any h
  simpa [U.st] using this
theorem dnew_any (n : Nat) (w : World) (h1 : 1 ≤ n) (h2 : n ≤ 4096) : Calls Tryz.prog 13 #[.int .i64 n] w fun e w' =>
    ∃ bd Z, e = .returned (.tuple #[.pointer (some ⟨bd, 0, none⟩), .int .i64 0]) ∧ Dk w' bd Z (U.new n) ∧ (∀ k, Z k → w.heap.size ≤ k) ∧ Fr No w w' := by
  have := D.new_yes n w h1 h2
  rwa [← st_new] at this
end
end Go.Proofs.YtejbanlhgnlliaaGreat.L
