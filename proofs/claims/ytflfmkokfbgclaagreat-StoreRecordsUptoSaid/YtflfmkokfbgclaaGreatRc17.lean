/-
  Part 17 of the proof: LogP, LogS, LogV, LogR.
-/
import Derived.Test.YtflfmkokfbgclaaGreatRc16
import Derived.Test.YtflfmkokfbgclaaGreatRc00
import Derived.Test.YtflfmkokfbgclaaGreatChecked
import Derived.Test.YtflfmkokfbgclaaGreatRc01
set_option linter.unusedSimpArgs false
set_option linter.unusedVariables false
namespace Go.Proofs.YtflfmkokfbgclaaGreat.L
set_option maxRecDepth 100000
open Go.RowKit K

/-- l, but from place o on xs. -/
def putl (l : List UInt8) (o : Nat) (xs : List UInt8) : List UInt8 := l.take o ++ xs ++ l.drop (o + xs.length)
theorem putl_nil (l : List UInt8) (o : Nat) : putl l o [] = l := by simp [putl]
theorem putl_length {l : List UInt8} {o : Nat} {xs : List UInt8} (h : o + xs.length ≤ l.length) : (putl l o xs).length = l.length := by simp [putl]; omega
theorem putl_snoc {l : List UInt8} {o : Nat} {xs : List UInt8} {c : UInt8} (h : o + xs.length < l.length) : (putl l o xs).set (o + xs.length) c = putl l o (xs ++ [c]) := by
  unfold putl
  have h1 : (l.take o ++ xs).length = o + xs.length := by simp; omega
  rw [List.set_append_right _ _ (by omega), h1, Nat.sub_self]
  rw [List.drop_eq_getElem_cons h, List.set_cons_zero]
  simp [Nat.add_assoc]
theorem u8_of_u32 (n : Nat) : ((n : Int) % 256) = ((UInt8.ofNat n).toNat : Int) := by rw [ofNat_toNat]; omega

theorem put_any (bb fr k n : Nat) (l : List UInt8) (w : World) (hB : Blk w bb 101 (u8s l)) (hl : l.length = 64) (h : fr + k ≤ 64) (hn : n < 4294967296) :
    Calls Tryz.prog 96 #[.int .i64 fr, .int .i64 ((fr + k : Nat) : Int), .int .u32 n, .pointer (some ⟨bb, 0, none⟩)] w fun e w' =>
      e = .returned (.tuple #[]) ∧ Blk w' bb 101 (u8s (putl l fr (le k n))) ∧ Fr (fun b => b = bb) w w' ∧ w'.heap.size = w.heap.size := by
  have HB := hid hB; have HL := hid hl; have HN := hid hn
  clear hB hl hn
  go_enter Tryz.func96, Tryz.ntmps96
  go_wp2_with fail
  go_loopw [2, 7] (fun m i wr => ∃ j : Nat, j ≤ k ∧ i = .int .i64 ((fr + j : Nat) : Int) ∧ m = .int .u32 ((n / 256 ^ j : Nat) : Int) ∧ Hid (Blk wr bb 101 (u8s (putl l fr (le j n)))) ∧ Hid (Fr (fun b => b = bb) w wr) ∧ Hid (wr.heap.size = w.heap.size)) (fun _ i _ => fr + k - (intOf i).toNat)
  case atStart => exact ⟨0, by omega, rfl, by simp, hid (by rw [le, putl_nil]; exact HB.out), hid (Fr.refl _ _), hid rfl⟩
  case round =>
    obtain ⟨j, hj, rfl, rfl, HR, HF, HZ⟩ := hrel
    by_cases hlt : j < k
    · have c1 : wr.cell? ⟨bb, fr + j, none⟩ = _ := HR.out.cell (fr + j)
      have f1 := HR.out.frozen (fr + j)
      have hlen : fr + j < (putl l fr (le j n)).length := by rw [putl_length (by simp [HL.out]; omega), HL.out]; omega
      rw [u8s_get _ _ hlen] at c1
      generalize ((putl l fr (le j n))[fr + j].toNat : Int) = old at c1
      have HX := hid hlen; clear hlen
      have hd : n / 256 ^ j ≤ 4294967295 := Nat.le_trans (Nat.div_le_self _ _) (by have := HN.out; omega)
      have HD : Hid (n / 256 ^ (j + 1) = n / 256 ^ j / 256) := hid (by rw [Nat.pow_succ, Nat.div_div_eq_div_mul])
      have HS : Hid (le (j + 1) n = le j n ++ [UInt8.ofNat (n / 256 ^ j)]) := hid (le_snoc j n)
      generalize n / 256 ^ j = m at hd HD HS ⊢
      go_wp2_with fail
      refine ⟨⟨j + 1, by omega, by go_num, by rw [HD.out]; go_num, hid ?_, hid (HF.out.setCell _ _ (.inl rfl)), hid (by rw [World.size_setCell]; exact HZ.out)⟩, by simp [intOf]; omega⟩
      have h2 := HR.out.set (fr + j) (.int .u8 ((m : Int) % 256))
      rw [u8_of_u32] at h2 ⊢
      rw [u8s_set] at h2
      have h3 := putl_snoc (l := l) (o := fr) (xs := le j n) (c := UInt8.ofNat m) (by have := HL.out; simp; omega)
      rw [le_length, ← HS.out] at h3
      rwa [h3] at h2
    · have hjk : j = k := by omega
      have HJ := hid hjk; clear hjk
      go_wp2
      go_end0
      have := HR.out
      rw [HJ.out] at this
      exact ⟨rfl, this, HF.out, HZ.out⟩

theorem nm_step {l : List UInt8} {i j : Nat} (h : i < l.length) : nm ((l.drop i).take (j + 1)) = l[i].toNat + 256 * nm ((l.drop (i + 1)).take j) := by
  rw [List.drop_eq_getElem_cons h, List.take_succ_cons, nm]
theorem number_any (pb fr k : Nat) (l : List UInt8) (a : Option Addr) (cap : Nat) (w : World) (hc : w.cell? ⟨pb, 0, none⟩ = some (.slice a l.length cap)) (hr : S.At w a l) (h : fr + k ≤ l.length) (hl : l.length = 64) (hk : k ≤ 4) :
    Calls Tryz.prog 124 #[.int .i64 fr, .int .i64 ((fr + k : Nat) : Int), .pointer (some ⟨pb, 0, none⟩)] w fun e w' => e = .returned (.int .u32 (nm ((l.drop fr).take k) : Nat)) ∧ w = w' := by
  have HR := hid hr; have HL := hid hl
  have hfk : (fr : Int) + k ≤ 64 := by omega
  have hf0 : 0 ≤ (fr : Int) + k := by omega
  clear hr hl
  go_enter Tryz.func124, Tryz.ntmps124
  go_wp2_with fail
  go_loop [6, 7] (fun m i => ∃ j : Nat, j ≤ k ∧ i = .int .i64 ((fr : Int) + k - 1 - j) ∧ m = .int .u32 ((nm ((l.drop (fr + (k - j))).take j) : Nat) : Int)) (fun _ i => (intOf i + 1).toNat)
  case atStart => exact ⟨0, by omega, by go_num, by simp [nm]⟩
  case round =>
    obtain ⟨j, hj, rfl, rfl⟩ := hrel
    by_cases hlt : j < k
    · have hi : fr + (k - (j + 1)) < l.length := by have := HL.out; omega
      obtain ⟨g, o, rfl, hcell⟩ := HR.out _ hi
      have HS := hid (nm_step (j := j) hi)
      rw [show fr + (k - (j + 1)) + 1 = fr + (k - j) by omega] at HS
      have hlt2 := nm_lt ((l.drop (fr + (k - j))).take j)
      have hlen : ((l.drop (fr + (k - j))).take j).length ≤ 3 := by simp; omega
      have hm : nm ((l.drop (fr + (k - j))).take j) < 16777216 := Nat.lt_of_lt_of_le hlt2 (Nat.le_trans (Nat.pow_le_pow_right (by decide) hlen) (by decide))
      have hcl := l[fr + (k - (j + 1))].toNat_lt
      generalize nm ((l.drop (fr + (k - j))).take j) = m at hm HS ⊢
      generalize l[fr + (k - (j + 1))].toNat = c at hcl hcell HS ⊢
      rw [show (fr : Int) + k - 1 - j = ((fr + (k - (j + 1)) : Nat) : Int) by omega]
      generalize hidx : fr + (k - (j + 1)) = idx at hcell HS hi ⊢
      have hidx' : (fr : Int) ≤ idx := by omega
      have hL : (idx : Int) < l.length := by omega
      have hL2 : (idx : Int) ≤ 64 := by omega
      clear hlt2 hlen HR
      go_wp2_with fail
      have hor : bits .or .u32 ((m : Int) * 256) (c : Int) = ((c + 256 * m : Nat) : Int) := by
        have e := u32_or_nat (m * 256) c (by omega) (by omega)
        rw [show ((m * 256 : Nat) : Int) = (m : Int) * 256 by omega] at e
        have e2 : m * 256 ||| c = c + 256 * m := by
          have := Nat.shiftLeft_add_eq_or_of_lt (i := 8) hcl m
          rw [Nat.shiftLeft_eq, show (2 : Nat) ^ 8 = 256 from rfl] at this
          omega
        rw [e, e2]
      refine ⟨⟨j + 1, by omega, by go_num, ?_⟩, by simp [intOf]⟩
      rw [hor, show fr + (k - (j + 1)) = idx from hidx, HS.out]
    · have hjk : j = k := by omega
      subst hjk
      go_wp2
      go_ret
      exact ⟨by simp, rfl⟩
end Go.Proofs.YtflfmkokfbgclaaGreat.L

namespace Go.Proofs.YtflfmkokfbgclaaGreat.L
set_option maxRecDepth 100000
open Go.RowKit K

/-- O1. -/
def secs (n : Int) : Int := if n ≤ 48 then 1 else (n - 1) / 48 + 1
theorem secs_le {n : Int} (h : n ≤ 48) : secs n = 1 := if_pos h
theorem secs_gt {n : Int} (h : ¬ n ≤ 48) : secs n = (n - 1) / 48 + 1 := if_neg h

theorem sectors_any (n : Int) (w : World) (h0 : -9223372036854775808 ≤ n) (h1 : n ≤ 9223372036854775807) : Calls Tryz.prog 38 #[.int .i64 n] w fun e w' => e = .returned (.int .i64 (secs n)) ∧ w = w' := by
  by_cases h : n ≤ 48
  · rw [secs_le h]
    go_enter Tryz.func38, Tryz.ntmps38
    go_wp2
    go_ret
    exact ⟨rfl, rfl⟩
  · rw [secs_gt h]
    have h2 : 48 < n := by omega
    go_enter Tryz.func38, Tryz.ntmps38
    go_wp2
    go_ret
    refine ⟨?_, rfl⟩
    first | rfl | (rw [Int.tdiv_eq_ediv_of_nonneg (by omega)])

end Go.Proofs.YtflfmkokfbgclaaGreat.L

namespace Go.Proofs.YtflfmkokfbgclaaGreat.D
set_option maxRecDepth 100000
open Go.RowKit K

theorem write_any {w : World} {bd : Nat} {D : Nat → Prop} {s : St} (n : Int) (v : Value) (bs : List Int) (E : Nat → Prop) (hv : BytesIn w E v bs) (hE : ∀ k, E k → ¬ D k) (h : At w bd D s) (hp : s.P.length < 1000000) :
    Calls Tryz.prog 85 #[.pointer (some ⟨bd, 0, none⟩), .int .i64 n, v] w fun e w' => e = .returned (.int .i64 (s.write n bs).1) ∧ ∃ D', At w' bd D' (s.write n bs).2 ∧ Fr D w w' ∧ Grows w D D' := by
  by_cases hno : s.up = false ∨ ¬ (0 ≤ n ∧ n < s.L.length) ∨ 64 < bs.length
  · refine (write_no n v bs E hv h hno).mono ?_
    rintro e w' ⟨rfl, h2, rfl⟩
    exact ⟨rfl, D, by rw [h2]; exact h, Fr.refl _ _, Grows.refl _ _⟩
  · have hu : s.up = true := by cases hu : s.up with | true => rfl | false => exact absurd (.inl hu) hno
    have hn : 0 ≤ n ∧ n < s.L.length := Decidable.byContradiction fun hc => hno (.inr (.inl hc))
    have h64 : bs.length ≤ 64 := Nat.le_of_not_lt fun hc => hno (.inr (.inr hc))
    cases hs : s.spend.1 with
    | false =>
      refine (write_out n v bs E hv h hu hn h64 hs).mono ?_
      rintro e w' ⟨rfl, h2, h3⟩
      exact ⟨rfl, D, h2, h3, Grows.refl _ _⟩
    | true =>
      obtain ⟨i, rfl⟩ := Int.eq_ofNat_of_zero_le hn.1
      exact write_yes i v bs E hv hE h hu (by omega) h64 hs hp
end Go.Proofs.YtflfmkokfbgclaaGreat.D
namespace Go.Proofs.YtflfmkokfbgclaaGreat.L
open Go.RowKit K

/-- The program's disk, as U. -/
abbrev Dk (w : World) (bd : Nat) (Z : Nat → Prop) (u : U) : Prop := D.At w bd Z u.st
section
variable {w : World} {bd : Nat} {Z : Nat → Prop} {u : U}
theorem dwrite_any (n : Int) (v : Value) (b : List UInt8) (E : Nat → Prop) (hv : K.BytesIn w E v b) (hE : ∀ k, E k → ¬ Z k) (h : Dk w bd Z u) (hp : u.P.length < 1000000) :
    Calls Tryz.prog 85 #[.pointer (some ⟨bd, 0, none⟩), .int .i64 n, v] w fun e w' => e = .returned (.int .i64 (u.write n b).1) ∧ ∃ Z', Dk w' bd Z' (u.write n b).2 ∧ Fr Z w w' ∧ Grows w Z Z' := by
  have := D.write_any n v (ints b) E (bytes_ints hv) hE h (by simpa [U.st] using hp)
  rwa [st_write] at this
theorem dflush_any (h : Dk w bd Z u) : Calls Tryz.prog 77 #[.pointer (some ⟨bd, 0, none⟩)] w fun e w' => e = .returned (.int .i64 u.flush.1) ∧ Dk w' bd Z u.flush.2 ∧ Fr Z w w' := by
  have := D.flush_any h
  rwa [st_flush] at this
theorem dcrash_any (v : Value) (keep : List Bool) (E : Nat → Prop) (hv : D.BoolsIn w E v keep) (hE : ∀ k, E k → ¬ Z k) (hlen : keep.length ≤ 9223372036854775807) (h : Dk w bd Z u) :
    Calls Tryz.prog 20 #[.pointer (some ⟨bd, 0, none⟩), v] w fun e w' => e = .returned (.int .i64 (u.crash keep).1) ∧ Dk w' bd Z (u.crash keep).2 ∧ Fr Z w w' := by
  have := D.crash_any v keep E hv hE hlen h
  rwa [st_crash] at this
theorem dsectors_any (h : Dk w bd Z u) : Calls Tryz.prog 32 #[.pointer (some ⟨bd, 0, none⟩)] w fun e w' => e = .returned (.int .i64 u.L.length) ∧ w = w' := by
  have := D.sectors_any h
  simpa [U.st] using this
theorem dnew_any (n : Nat) (w : World) (h1 : 1 ≤ n) (h2 : n ≤ 4096) : Calls Tryz.prog 13 #[.int .i64 n] w fun e w' =>
    ∃ bd Z, e = .returned (.tuple #[.pointer (some ⟨bd, 0, none⟩), .int .i64 0]) ∧ Dk w' bd Z (U.new n) ∧ (∀ k, Z k → w.heap.size ≤ k) ∧ Fr No w w' := by
  have := D.new_yes n w h1 h2
  rwa [← st_new] at this
end
end Go.Proofs.YtflfmkokfbgclaaGreat.L

namespace Go.Proofs.YtflfmkokfbgclaaGreat.L
set_option maxRecDepth 100000
open Go.RowKit K

def lgCells (bd : Nat) (g : Lg) : List Value := [.pointer (some ⟨bd, 0, none⟩), .int .i64 g.first, .int .i64 g.count, .int .u32 g.epoch, .int .u32 g.life, .int .i64 g.next]
structure Lg.Ok (g : Lg) (n : Nat) : Prop where
  c2 : 2 ≤ g.count
  fit : g.first + g.count ≤ n
  n1 : 1 ≤ g.next
  nc : g.next ≤ g.count
  ep : g.epoch < 4294967296
  li : g.life < 4294967296
/-- A log and its disk in memory. -/
def At (w : World) (bg bd : Nat) (Z : Nat → Prop) (g : Lg) (u : U) : Prop :=
  Dk w bd Z u ∧ Blk w bg 108 (lgCells bd g) ∧ ¬ Z bg ∧ g.Ok u.L.length
theorem At.fr {w w' : World} {bg bd : Nat} {Z E : Nat → Prop} {g : Lg} {u : U} (h : At w bg bd Z g u) (hf : Fr E w w') (hd : ∀ k, Z k → ¬ E k) (hg : ¬ E bg) : At w' bg bd Z g u :=
  ⟨D.Rep.fr h.1 hf hd, h.2.1.fr hf hg, h.2.2⟩
theorem At.no {w w' : World} {bg bd : Nat} {Z : Nat → Prop} {g : Lg} {u : U} (h : At w bg bd Z g u) (hf : Fr No w w') : At w' bg bd Z g u := h.fr hf (fun _ _ e => e) (fun e => e)
theorem At.lens {w : World} {bg bd : Nat} {Z : Nat → Prop} {g : Lg} {u : U} (h : At w bg bd Z g u) : u.L.length ≤ 4096 := by
  have := h.1.ok.n1
  simpa [U.st] using this

def secCells (s : Sec) : List Value := .int .u32 s.epoch :: .int .u32 s.life :: .int .i64 s.place :: .int .i64 s.kind :: .int .i64 s.size :: u8s s.bytes
def noSec : Sec := ⟨false, 0, 0, 0, 0, 0, zeros48⟩
theorem zero87 (w : World) : (zeroValue 148).run Tryz.prog w = .ok (.agg (secCells noSec).toArray) w := by kernel_rfl
theorem info87 : (Tryz.prog.info? 148).map (·.size) = some 53 := by kernel_rfl
theorem sec64 {w : World} {bd : Nat} {Z : Nat → Prop} {u : U} (h : Dk w bd Z u) {n : Nat} (hn : n < u.L.length) : (u.sec n).length = 64 := by
  have e : (D.now (u.P.map both8) n (ints (u.L.getD n []))).length = 64 := D.now_64 _ _ _ (by
    have := h.ok.sec (ints (u.L.getD n [])) (by
      show _ ∈ u.L.map ints
      rw [List.getD_eq_getElem?_getD, List.getElem?_eq_getElem hn]
      exact List.mem_map.2 ⟨_, List.getElem_mem hn, rfl⟩)
    exact this) (fun p hp => (h.ok.pnd p hp).2)
  rw [now_ints] at e
  simpa [U.sec] using e
/-- Read, of a sector that is there. -/
theorem dread_any {w : World} {bd : Nat} {Z : Nat → Prop} {u : U} (n : Nat) (h : Dk w bd Z u) (hn : n < u.L.length) (hu : u.up = true) : Calls Tryz.prog 67 #[.pointer (some ⟨bd, 0, none⟩), .int .i64 (n : Int)] w fun e w' =>
    ∃ a cap, e = .returned (.tuple #[.slice a 64 cap, .int .i64 0]) ∧ 64 ≤ cap ∧ S.At w' a (u.sec n) ∧ (∃ k o, a = some ⟨k, o, none⟩ ∧ w.heap.size ≤ k ∧ k < w'.heap.size) ∧ Fr No w w' := by
  refine (D.read_any (n : Int) h).mono ?_
  rintro e w' ⟨v, rfl, hb, hf⟩
  rw [st_read, read_in hn, if_neg (by simp [hu])] at hb
  rw [st_read, read_in hn, if_neg (by simp [hu])]
  have h64 : (u.sec n).length = 64 := sec64 h hn
  have hb' := ints_bytes hb
  obtain ⟨a, cap, rfl, h1, h2⟩ := S.at_of hb'
  obtain ⟨a', len', cap', e1, e2, -, e3⟩ := hb'
  simp only [Value.slice.injEq] at e1
  obtain ⟨rfl, rfl, rfl⟩ := e1
  obtain ⟨k, o, r1, r2, r3, _⟩ := e3.resolve_left (by simp only [h64]; decide)
  exact ⟨a, cap, by simp [h64], by rw [← h64]; exact h1, h2, ⟨k, o, r1, r2, r3⟩, hf⟩
theorem at_fr {w w' : World} {E : Nat → Prop} {a : Option Addr} {l : List UInt8} (h : S.At w a l) (hf : Fr E w w') (hn : ∀ k o, a = some ⟨k, o, none⟩ → ¬ E k) : S.At w' a l := fun i hi => by
  obtain ⟨k, o, h1, h2⟩ := h i hi
  exact ⟨k, o, h1, hf.cell h2 (hn k o h1)⟩
theorem number64 (pb fr k : Nat) (l : List UInt8) (a : Option Addr) (cap : Nat) (w : World) (hc : w.cell? ⟨pb, 0, none⟩ = some (.slice a 64 cap)) (hr : S.At w a l) (hl : l.length = 64) (h : fr + k ≤ 64) (hk : k ≤ 4) :
    Calls Tryz.prog 124 #[.int .i64 fr, .int .i64 ((fr + k : Nat) : Int), .pointer (some ⟨pb, 0, none⟩)] w fun e w' => e = .returned (.int .u32 (nm ((l.drop fr).take k) : Nat)) ∧ w = w' :=
  number_any pb fr k l a cap w (by rw [hl]; exact hc) hr (by omega) hl hk
theorem build87 (a b c d e : Int) (w : World) : (Instr.build 148 #[(0, .int .u32 a), (1, .int .u32 b), (2, .int .i64 c), (3, .int .i64 d), (4, .int .i64 e)]).run Tryz.prog w =
    .ok (.agg (Value.int .u32 a :: .int .u32 b :: .int .i64 c :: .int .i64 d :: .int .i64 e :: u8s zeros48).toArray) w := by kernel_rfl
theorem sec_one (s : Sec) : ∀ v ∈ secCells s, v.oneCell' = true := by
  intro v hv
  simp only [secCells, List.mem_cons] at hv
  rcases hv with rfl | rfl | rfl | rfl | rfl | hv
  all_goals first | rfl | exact u8s_one _ v hv
theorem sec_len (s : Sec) : (secCells s).length = 5 + s.bytes.length := by simp [secCells, u8s_length]; omega
theorem spl_all {cs vs : List Value} (h : vs.length = cs.length) : spl cs 0 vs = vs := by simp [spl, h]
theorem at_drop {w : World} {k o : Nat} {l : List UInt8} (h : S.At w (some ⟨k, o, none⟩) l) (n : Nat) : S.At w (some ⟨k, o + n, none⟩) (l.drop n) := fun i hi => by
  obtain ⟨g, o', h1, h2⟩ := h (n + i) (by simp at hi; omega)
  cases h1
  exact ⟨k, o + n, rfl, by rw [Nat.add_assoc, List.getElem_drop]; exact h2⟩
theorem at_range {w : World} {k o : Nat} {l : List UInt8} (h : S.At w (some ⟨k, o, none⟩) l) : w.rangeAt k o (u8s l) := fun j v hj => by
  have hl : j < l.length := by have := (List.getElem?_eq_some_iff.1 hj).1; simpa [u8s_length] using this
  rw [u8s_get l j hl] at hj
  cases hj
  obtain ⟨g, o', h1, h2⟩ := h j hl
  cases h1
  exact h2
theorem hentNum (vs : Array Value) (w : World) : (callFunc 124 vs).run Tryz.prog w = .ok (.enter 124 vs) w := by kernel_rfl
theorem hentSum (vs : Array Value) (w : World) : (callFunc 62 vs).run Tryz.prog w = .ok (.enter 62 vs) w := by kernel_rfl
theorem info8 : (Tryz.prog.info? 5).map (·.size) = some 1 := by kernel_rfl
theorem dread_down {w : World} {bd : Nat} {Z : Nat → Prop} {u : U} (n : Nat) (h : Dk w bd Z u) (hn : n < u.L.length) (hu : u.up = false) : Calls Tryz.prog 67 #[.pointer (some ⟨bd, 0, none⟩), .int .i64 (n : Int)] w fun e w' =>
    ∃ a cap, e = .returned (.tuple #[.slice a 0 cap, .int .i64 10]) ∧ Fr No w w' := by
  refine (D.read_any (n : Int) h).mono ?_
  rintro e w' ⟨v, rfl, hb, hf⟩
  rw [st_read, read_in hn, if_pos hu] at hb
  rw [st_read, read_in hn, if_pos hu]
  obtain ⟨a, cap, rfl, h1, h2⟩ := S.at_of (ints_bytes hb)
  exact ⟨a, cap, rfl, hf⟩
theorem wrap_small {n : Int} (h0 : -9223372036854775808 ≤ n) (h1 : n ≤ 9223372036854775807) : IntKind.i64.wrap n = n := by rw [IntKind.wrap_i64]; omega
theorem zero57 (w : World) : (zeroValue 40).run Tryz.prog w = .ok (.slice none 0 0) w := by kernel_rfl
theorem hentRead (vs : Array Value) (w : World) : (callFunc 67 vs).run Tryz.prog w = .ok (.enter 67 vs) w := by kernel_rfl

set_option maxHeartbeats 4000000 in
theorem read_up (w : World) (bg bd : Nat) (Z : Nat → Prop) (g : Lg) (u : U) (p : Nat) (h : At w bg bd Z g u) (hp : g.first + p < u.L.length) (hu : u.up = true) :
    Calls Tryz.prog 109 #[.pointer (some ⟨bg, 0, none⟩), .int .i64 (p : Int)] w fun e w' =>
      e = .returned (.tuple #[.agg (secCells (look (u.sec (g.first + p)))).toArray, .bool (look (u.sec (g.first + p))).right, .int .i64 0]) ∧ Fr No w w' := by
  have hL := h.lens
  have hfp : (g.first : Int) + p < 4096 := by omega
  have hf0 : (g.first : Int) ≤ 4096 := by omega
  have hp0 : (p : Int) ≤ 4096 := by omega
  have HA := hid h
  have HP := hid hp
  clear h hp
  go_enter Tryz.func109, Tryz.ntmps109
  go_wp2_with ((with_reducible show wpList _ _ _ (⟨_, .alloc 148, _, _, _, _⟩ :: _) _ _); refine wpL_alloc rfl _ rfl _ zero87 (secCells noSec) rfl ?_; intro w1 HB1 HF1 HS1)
  have c0 : w1.cell? ⟨bg, 0, none⟩ = some (.pointer (some ⟨bd, 0, none⟩)) := HF1.out.cell (HA.out.2.1.cell 0) id
  have c1 : w1.cell? ⟨bg, 1, none⟩ = some (.int .i64 g.first) := HF1.out.cell (HA.out.2.1.cell 1) id
  have hold : Facts.hold [(3, fun w' => w'.cell? ⟨bg, 0, none⟩ = some (.pointer (some ⟨bd, 0, none⟩))), (7, fun w' => w'.cell? ⟨bg, 1, none⟩ = some (.int .i64 g.first))] w1.drew := Facts.cons_hold c0 (Facts.cons_hold c1 (Facts.nil_hold _))
  have WS : Hid (IntKind.i64.wrap ((g.first : Int) + p) = ((g.first + p : Nat) : Int)) := hid ((wrap_small (by omega) (by omega)).trans (by omega))
  have HD : Hid (Dk w1.drew bd Z u) := hid (D.Rep.no HA.out.1 HF1.out.drew)
  refine wpD_region hold (by kernel_rfl) 17 rfl ?_
  (refine wpD_plain 0 (v := ?_) rfl (by kernel_rfl) (by kernel_rfl) (by kernel_rfl) (fun _ _ _ h => h) (by rfl) ?_ (by assumption) ?_; rotate_left; (intro _w; go_simp; try with_reducible rfl); simp only [Act.put, List.setIfInBounds_toArray, List.set_cons_zero, List.set_cons_succ])
  (refine wpD_plain 1 (v := ?_) rfl (by kernel_rfl) (by kernel_rfl) (by kernel_rfl) (fun _ _ _ h => h) (by rfl) ?_ (by assumption) ?_; rotate_left; (intro _w; go_simp; try with_reducible rfl); simp only [Act.put, List.setIfInBounds_toArray, List.set_cons_zero, List.set_cons_succ])
  (refine wpD_plain 2 (v := ?_) rfl (by kernel_rfl) (by kernel_rfl) (by kernel_rfl) (fun _ _ _ h => h) (by rfl) ?_ (by assumption) ?_; rotate_left; (intro _w; go_simp; try with_reducible rfl); simp only [Act.put, List.setIfInBounds_toArray, List.set_cons_zero, List.set_cons_succ])
  (refine wpD_take 3 _ rfl (by kernel_rfl) (by kernel_rfl) (by kernel_rfl) (fun _ _ _ h => h) List.mem_cons_self (by rfl) (v := ?_) ?_ (by assumption) ?_; rotate_left; (intro _w _hw; go_simp; try with_reducible rfl); simp only [Act.put, List.setIfInBounds_toArray, List.set_cons_zero, List.set_cons_succ])
  (refine wpD_plain 4 (v := ?_) rfl (by kernel_rfl) (by kernel_rfl) (by kernel_rfl) (fun _ _ _ h => h) (by rfl) ?_ (by assumption) ?_; rotate_left; (intro _w; go_simp; try with_reducible rfl); simp only [Act.put, List.setIfInBounds_toArray, List.set_cons_zero, List.set_cons_succ])
  (refine wpD_plain 5 (v := ?_) rfl (by kernel_rfl) (by kernel_rfl) (by kernel_rfl) (fun _ _ _ h => h) (by rfl) ?_ (by assumption) ?_; rotate_left; (intro _w; go_simp; try with_reducible rfl); simp only [Act.put, List.setIfInBounds_toArray, List.set_cons_zero, List.set_cons_succ])
  (refine wpD_plain 6 (v := ?_) rfl (by kernel_rfl) (by kernel_rfl) (by kernel_rfl) (fun _ _ _ h => h) (by rfl) ?_ (by assumption) ?_; rotate_left; (intro _w; go_simp; try with_reducible rfl); simp only [Act.put, List.setIfInBounds_toArray, List.set_cons_zero, List.set_cons_succ])
  (refine wpD_take 7 _ rfl (by kernel_rfl) (by kernel_rfl) (by kernel_rfl) (fun _ _ _ h => h) (List.mem_cons_of_mem _ List.mem_cons_self) (by rfl) (v := ?_) ?_ (by assumption) ?_; rotate_left; (intro _w _hw; go_simp; try with_reducible rfl); simp only [Act.put, List.setIfInBounds_toArray, List.set_cons_zero, List.set_cons_succ])
  (refine wpD_plain 8 (v := ?_) rfl (by kernel_rfl) (by kernel_rfl) (by kernel_rfl) (fun _ _ _ h => h) (by rfl) ?_ (by assumption) ?_; rotate_left; (intro _w; go_simp; try with_reducible rfl); simp only [Act.put, List.setIfInBounds_toArray, List.set_cons_zero, List.set_cons_succ])
  (refine wpD_plain 9 (v := (.int .i64 ((g.first + p : Nat) : Int))) rfl (by kernel_rfl) (by kernel_rfl) (by kernel_rfl) (fun _ _ _ h => h) (by rfl) ?_ (by assumption) ?_; (intro _w; go_simp; exact WS.out); simp only [Act.put, List.setIfInBounds_toArray, List.set_cons_zero, List.set_cons_succ])
  clear hold
  refine wpD_join (fun a a' w' => ∃ (b : Nat) (ad : Option Addr) (cap : Nat), a' = ((((a.put (some 20) (.tuple #[.slice ad 64 cap, .int .i64 0])).put (some 9) (.tuple #[.slice ad 64 cap, .int .i64 0])).put (some 21) (.slice ad 64 cap)).put (some 22) (.int .i64 0)).put (some 7) (.pointer (some ⟨b, 0, none⟩)) ∧
    Hid (64 ≤ cap) ∧ Hid (S.At w' ad (u.sec (g.first + p))) ∧ Hid (Blk w' b 40 [.slice none 0 0]) ∧ Hid (Fr No w1 w') ∧ Hid (w1.heap.size ≤ b) ∧ Hid (∃ k o, ad = some ⟨k, o, none⟩ ∧ w1.heap.size ≤ k ∧ k ≠ b)) [(7, fun w' => w'.cell? ⟨bg, 1, none⟩ = some (.int .i64 g.first))] 2 #[true, true, true, true, true, true, true, true, true, true, true, true, true, true, true, false, false] ?_ ?_
  · intro tail
    have HT := hid tail; clear tail
    refine wpD_two 10 14 [(7, fun w' => w'.cell? ⟨bg, 1, none⟩ = some (.int .i64 g.first))] [(3, fun w' => w'.cell? ⟨bg, 0, none⟩ = some (.pointer (some ⟨bd, 0, none⟩))), (7, fun w' => w'.cell? ⟨bg, 1, none⟩ = some (.int .i64 g.first))] rfl rfl (by kernel_rfl) (by kernel_rfl) (by kernel_rfl) (by rfl) (by rfl) ?_ ?_
    · intro K hK
      refine wp_call (.func 67) _ _ rfl 67 [] rfl hentRead [.pointer (some ⟨bd, 0, none⟩), .int .i64 ((g.first + p : Nat) : Int)] (by rfl) ?_
      refine (dread_any (g.first + p) HD.out HP.out hu).mono ?_
      rintro e w2 ⟨ad, cap, rfl, h1, h2, h4, h3⟩
      have H4 := hid h4; clear h4
      have hold : Facts.hold [(7, fun w' => w'.cell? ⟨bg, 1, none⟩ = some (.int .i64 g.first))] w2 := Facts.cons_hold (h3.cell (w := w1.drew) c1 id) (Facts.nil_hold _)
      refine ⟨_, rfl, hK _ _ hold ?_⟩
      have H1 := hid h1; have H2 := hid h2; have H3 := hid h3
      clear h1 h2 h3 hK K
      simp only [Act.put, List.setIfInBounds_toArray, List.set_cons_zero, List.set_cons_succ]
      (refine wpD_plain 11 (v := ?_) rfl (by kernel_rfl) (by kernel_rfl) (by kernel_rfl) (fun _ _ _ h => h) (by rfl) ?_ (by assumption) ?_; rotate_left; (intro _w; go_simp; try with_reducible rfl); simp only [Act.put, List.setIfInBounds_toArray, List.set_cons_zero, List.set_cons_succ])
      (refine wpD_plain 12 (v := ?_) rfl (by kernel_rfl) (by kernel_rfl) (by kernel_rfl) (fun _ _ _ h => h) (by rfl) ?_ (by assumption) ?_; rotate_left; (intro _w; go_simp; try with_reducible rfl); simp only [Act.put, List.setIfInBounds_toArray, List.set_cons_zero, List.set_cons_succ])
      (refine wpD_plain 13 (v := ?_) rfl (by kernel_rfl) (by kernel_rfl) (by kernel_rfl) (fun _ _ _ h => h) (by rfl) ?_ (by assumption) ?_; rotate_left; (intro _w; go_simp; try with_reducible rfl); simp only [Act.put, List.setIfInBounds_toArray, List.set_cons_zero, List.set_cons_succ])
      refine wpD_only 14 [(7, fun w' => w'.cell? ⟨bg, 1, none⟩ = some (.int .i64 g.first))] rfl (by kernel_rfl) (by kernel_rfl) (by rfl) (fun K2 hK2 => ?_)
      refine wp_alloc _ rfl _ zero57 [.slice none 0 0] rfl ?_
      intro w3 HB3 HF3 HS3
      have hF3 : Fr No w1 w3 := (Fr.trans' (b := w1.drew) (Fr.refl No w1).drew H3.out).trans' HF3.out
      refine hK2 _ _ (Facts.cons_hold (hF3.cell c1 id) (Facts.nil_hold _)) ?_
      refine wpD_cast (listed' := #[true, true, true, true, true, true, true, true, true, true, true, true, true, true, true, false, false]) (by kernel_rfl) ?_
      have hs2 : w1.heap.size ≤ w2.heap.size := H3.out.size
      exact HT.out _ _ ⟨_, ad, cap, rfl, H1, hid (H2.out.no HF3.out), HB3, hid hF3, hid hs2, hid (by obtain ⟨k, o, r1, r2, r3⟩ := H4.out; exact ⟨k, o, r1, r2, by omega⟩)⟩ (Facts.cons_hold (hF3.cell c1 id) (Facts.nil_hold _))
    · intro K hK
      refine wp_alloc _ rfl _ zero57 [.slice none 0 0] rfl ?_
      intro w2 HB2 HF2 HS2
      have hF2 : Fr No w1 w2 := Fr.trans' (b := w1.drew) (Fr.refl No w1).drew HF2.out
      refine hK _ _ (Facts.cons_hold (hF2.cell c0 id) (Facts.cons_hold (hF2.cell c1 id) (Facts.nil_hold _))) ?_
      clear hK K
      simp only [Act.put, List.setIfInBounds_toArray, List.set_cons_zero, List.set_cons_succ]
      refine wpD_only 10 [(7, fun w' => w'.cell? ⟨bg, 1, none⟩ = some (.int .i64 g.first))] rfl (by kernel_rfl) (by kernel_rfl) (by rfl) (fun K2 hK2 => ?_)
      refine wp_call (.func 67) _ _ rfl 67 [] rfl hentRead [.pointer (some ⟨bd, 0, none⟩), .int .i64 ((g.first + p : Nat) : Int)] (by rfl) ?_
      refine (dread_any (g.first + p) (D.Rep.no HD.out HF2.out) HP.out hu).mono ?_
      rintro e w3 ⟨ad, cap, rfl, h1, h2, h4, h3⟩
      have H4 := hid h4; clear h4
      have hF3 : Fr No w1 w3 := hF2.trans' h3
      have hold : Facts.hold [(7, fun w' => w'.cell? ⟨bg, 1, none⟩ = some (.int .i64 g.first))] w3 := Facts.cons_hold (hF3.cell c1 id) (Facts.nil_hold _)
      refine ⟨_, rfl, hK2 _ _ hold ?_⟩
      have H1 := hid h1; have H2 := hid h2; have H3 := hid h3
      clear h1 h2 h3 hK2 K2
      simp only [Act.put, List.setIfInBounds_toArray, List.set_cons_zero, List.set_cons_succ]
      (refine wpD_plain 11 (v := ?_) rfl (by kernel_rfl) (by kernel_rfl) (by kernel_rfl) (fun _ _ _ h => h) (by rfl) ?_ (by assumption) ?_; rotate_left; (intro _w; go_simp; try with_reducible rfl); simp only [Act.put, List.setIfInBounds_toArray, List.set_cons_zero, List.set_cons_succ])
      (refine wpD_plain 12 (v := ?_) rfl (by kernel_rfl) (by kernel_rfl) (by kernel_rfl) (fun _ _ _ h => h) (by rfl) ?_ (by assumption) ?_; rotate_left; (intro _w; go_simp; try with_reducible rfl); simp only [Act.put, List.setIfInBounds_toArray, List.set_cons_zero, List.set_cons_succ])
      (refine wpD_plain 13 (v := ?_) rfl (by kernel_rfl) (by kernel_rfl) (by kernel_rfl) (fun _ _ _ h => h) (by rfl) ?_ (by assumption) ?_; rotate_left; (intro _w; go_simp; try with_reducible rfl); simp only [Act.put, List.setIfInBounds_toArray, List.set_cons_zero, List.set_cons_succ])
      refine wpD_cast (listed' := #[true, true, true, true, true, true, true, true, true, true, true, true, true, true, true, false, false]) (by kernel_rfl) ?_
      exact HT.out _ _ ⟨_, ad, cap, rfl, H1, H2, hid (HB2.out.fr H3.out id), hid hF3, hid (Nat.le_refl _), hid (by have e3 := HS2.out; have e4 : w1.drew.heap.size = w1.heap.size := rfl; obtain ⟨k, o, r1, r2, r3⟩ := H4.out; exact ⟨k, o, r1, by omega, by omega⟩)⟩ hold
  · rintro a' w2 ⟨b, ad, cap, rfl, HC, HA2, HB2, HF2, HS2, HN2⟩ hold0
    simp only [Act.put, List.setIfInBounds_toArray, List.set_cons_zero, List.set_cons_succ]
    have cb : w2.cell? ⟨b, 0, none⟩ = some (.slice none 0 0) := HB2.out.cell 0
    have fb : w2.frozen? ⟨b, 0, none⟩ = false := HB2.out.frozen 0
    clear hold0
    refine wpD_only 15 [] rfl (by kernel_rfl) (by kernel_rfl) (by rfl) (fun K3 hK3 => ?_)
    go_simp
    refine hK3 _ _ (Facts.nil_hold _) ?_
    clear hK3 K3
    simp only [Act.put, List.setIfInBounds_toArray, List.set_cons_zero, List.set_cons_succ]
    have hold : Facts.hold [] (w2.setCell ⟨b, 0, none⟩ (.slice ad 64 cap)) := Facts.nil_hold _
    (refine wpD_plain 16 (v := ?_) rfl (by kernel_rfl) (by kernel_rfl) (by kernel_rfl) (fun _ _ _ h => h) (by rfl) ?_ (by assumption) ?_; rotate_left; (intro _w; go_simp; try with_reducible rfl); simp only [Act.put, List.setIfInBounds_toArray, List.set_cons_zero, List.set_cons_succ])
    refine wpD_done (by kernel_rfl) ?_ _
    clear hold
    have HB3 : Hid (Blk (w2.setCell ⟨b, 0, none⟩ (.slice ad 64 cap)) b 40 [.slice ad 64 cap]) := hid (HB2.out.set 0 _)
    have HF3 : Hid (Fr (fun k => w1.heap.size ≤ k) w1 (w2.setCell ⟨b, 0, none⟩ (.slice ad 64 cap))) := hid (HF2.out.no.setCell _ _ (.inl HS2.out))
    have HA3 : Hid (S.At (w2.setCell ⟨b, 0, none⟩ (.slice ad 64 cap)) ad (u.sec (g.first + p))) := hid (at_fr HA2.out ((Fr.refl (fun k => k = b) w2).setCell _ _ (.inl rfl)) (fun k o hk e => by
      obtain ⟨k', o', r1, r2, r3⟩ := HN2.out
      rw [r1] at hk
      cases hk
      exact r3 e))
    have HBS : Hid (Blk (w2.setCell ⟨b, 0, none⟩ (.slice ad 64 cap)) w.heap.size 148 (secCells noSec)) := hid (HB1.out.fr HF3.out (fun e => by have := HS1.out; omega))
    have H64 : Hid ((u.sec (g.first + p)).length = 64) := hid (sec64 HD.out HP.out)
    clear cb fb c0 c1 HB2 HA2
    generalize w2.setCell ⟨b, 0, none⟩ (.slice ad 64 cap) = w3 at HB3 HF3 HA3 HBS ⊢
    have hmf : ∀ (fn : Fn) (first cap : Array Value) (w : World), (Instr.makeFunc fn first cap).run Tryz.prog w = .ok (.func fn first cap) w := fun _ _ _ _ => rfl
    generalize hsec : u.sec (g.first + p) = l at HA3 H64 ⊢
    have HK : Hid (look l = ⟨decide (nm (l.take 4) = S.add 0 (l.drop 4)), nm ((l.drop 4).take 4), nm ((l.drop 8).take 4), nm ((l.drop 12).take 2), nm ((l.drop 14).take 1), nm ((l.drop 15).take 1), l.drop 16⟩) := hid rfl
    have L4 : nm ((l.drop 4).take 4) < 4294967296 := Nat.lt_of_lt_of_le (nm_lt _) (Nat.pow_le_pow_right (by decide) (by simp; omega) : 256 ^ ((l.drop 4).take 4).length ≤ 256 ^ 4)
    have L8 : nm ((l.drop 8).take 4) < 4294967296 := Nat.lt_of_lt_of_le (nm_lt _) (Nat.pow_le_pow_right (by decide) (by simp; omega) : 256 ^ ((l.drop 8).take 4).length ≤ 256 ^ 4)
    have L12 : nm ((l.drop 12).take 2) < 65536 := Nat.lt_of_lt_of_le (nm_lt _) (Nat.pow_le_pow_right (by decide) (by simp; omega) : 256 ^ ((l.drop 12).take 2).length ≤ 256 ^ 2)
    have L14 : nm ((l.drop 14).take 1) < 256 := Nat.lt_of_lt_of_le (nm_lt _) (Nat.pow_le_pow_right (by decide) (by simp; omega) : 256 ^ ((l.drop 14).take 1).length ≤ 256 ^ 1)
    have L15 : nm ((l.drop 15).take 1) < 256 := Nat.lt_of_lt_of_le (nm_lt _) (Nat.pow_le_pow_right (by decide) (by simp; omega) : 256 ^ ((l.drop 15).take 1).length ≤ 256 ^ 1)
    have cb : w3.cell? ⟨b, 0, none⟩ = some (.slice ad 64 cap) := HB3.out.cell 0
    have N4 := hid (number64 b 4 4 l ad cap w3 cb HA3.out H64.out (by decide) (by decide))
    have N8 := hid (number64 b 8 4 l ad cap w3 cb HA3.out H64.out (by decide) (by decide))
    have N12 := hid (number64 b 12 2 l ad cap w3 cb HA3.out H64.out (by decide) (by decide))
    have N14 := hid (number64 b 14 1 l ad cap w3 cb HA3.out H64.out (by decide) (by decide))
    have N15 := hid (number64 b 15 1 l ad cap w3 cb HA3.out H64.out (by decide) (by decide))
    generalize nm ((l.drop 4).take 4) = n4 at L4 N4 HK
    generalize nm ((l.drop 8).take 4) = n8 at L8 N8 HK
    generalize nm ((l.drop 12).take 2) = n12 at L12 N12 HK
    generalize nm ((l.drop 14).take 1) = n14 at L14 N14 HK
    generalize nm ((l.drop 15).take 1) = n15 at L15 N15 HK
    go_wp2_with fail
    refine N4.out.mono ?_
    rintro e w' ⟨rfl, rfl⟩
    go_wp2_with fail
    refine N8.out.mono ?_
    rintro e w' ⟨rfl, rfl⟩
    go_wp2_with fail
    refine N12.out.mono ?_
    rintro e w' ⟨rfl, rfl⟩
    go_wp2_with fail
    refine N14.out.mono ?_
    rintro e w' ⟨rfl, rfl⟩
    go_wp2_with fail
    refine N15.out.mono ?_
    rintro e w' ⟨rfl, rfl⟩
    go_wp2_with (first
      | ((with_reducible show wpList _ _ _ (⟨_, .build 148 _, _, _, _, _⟩ :: _) _ _); refine wpL_build rfl _ [(0, .tmp 29), (1, .tmp 31), (2, .tmp 34), (3, .tmp 37), (4, .tmp 40)] rfl _ (build87 _ _ _ _ _ _) ?_)
      | ((with_reducible show wpList _ _ _ (⟨_, .store 148 _ _, _, _, _, _⟩ :: _) _ _); refine wpL_store rfl _ _ _ rfl w.heap.size 0 (secCells ⟨false, n4, n8, n12, n14, n15, zeros48⟩) rfl rfl _ _ HBS.out (by simp only [sec_len]; decide) (by rw [info87, sec_len]; rfl) (sec_one _) ?_; intro w4 HB4 HF4 HS4))
    have HB4' : Hid (Blk w4 w.heap.size 148 (secCells ⟨false, n4, n8, n12, n14, n15, zeros48⟩)) := hid (by
      have := HB4.out
      rwa [spl_all (by simp only [sec_len]; rfl)] at this)
    obtain ⟨k, o, rfl, hk1, hk2⟩ := HN2.out
    have hkw : k ≠ w.heap.size := by have := HS1.out; omega
    have hbw : b ≠ w.heap.size := by have := HS1.out; have := HS2.out; omega
    have cb4 : w4.cell? ⟨b, 0, none⟩ = some (.slice (some ⟨k, o, none⟩) 64 cap) := HF4.out.cell cb hbw
    have HA4 : Hid (S.At w4 (some ⟨k, o, none⟩) l) := hid (at_fr HA3.out HF4.out (fun k' o' e => by cases e; exact hkw))
    have HF4' : Hid (Fr (fun k => w.heap.size ≤ k) w w4) := hid ((HF1.out.no.trans HF3.out (fun k hk => .inr (by have := HS1.out; omega))).trans HF4.out (fun k hk => .inl (by omega)))
    clear HB4 HF4 cb HA3 HBS N4 N8 N12 N14 N15
    have hcap := HC.out
    have hold6 : Facts.hold [(2, fun w' => w'.cell? ⟨b, 0, none⟩ = some (.slice (some ⟨k, o, none⟩) 64 cap))] w4.drew := Facts.cons_hold cb4 (Facts.nil_hold _)
    refine wpD_region hold6 (by kernel_rfl) 5 rfl ?_
    (refine wpD_plain 0 (v := ?_) rfl (by kernel_rfl) (by kernel_rfl) (by kernel_rfl) (fun _ _ _ h => h) (by rfl) ?_ (by assumption) ?_; rotate_left; (intro _w; go_simp; try with_reducible rfl); simp only [Act.put, List.setIfInBounds_toArray, List.set_cons_zero, List.set_cons_succ])
    (refine wpD_plain 1 (v := ?_) rfl (by kernel_rfl) (by kernel_rfl) (by kernel_rfl) (fun _ _ _ h => h) (by rfl) ?_ (by assumption) ?_; rotate_left; (intro _w; go_simp; try with_reducible rfl); simp only [Act.put, List.setIfInBounds_toArray, List.set_cons_zero, List.set_cons_succ])
    (refine wpD_take 2 _ rfl (by kernel_rfl) (by kernel_rfl) (by kernel_rfl) (fun _ _ _ h => h) List.mem_cons_self (by rfl) (v := ?_) ?_ (by assumption) ?_; rotate_left; (intro _w _hw; go_simp; try with_reducible rfl); simp only [Act.put, List.setIfInBounds_toArray, List.set_cons_zero, List.set_cons_succ])
    (refine wpD_plain 3 (v := (.slice (some ⟨k, o + 16, none⟩) 48 (cap - 16))) rfl (by kernel_rfl) (by kernel_rfl) (by kernel_rfl) (fun _ _ _ h => h) (by rfl) ?_ (by assumption) ?_; (intro _w; go_simp; omega); simp only [Act.put, List.setIfInBounds_toArray, List.set_cons_zero, List.set_cons_succ])
    refine wpD_only 4 [(2, fun w' => w'.cell? ⟨b, 0, none⟩ = some (.slice (some ⟨k, o, none⟩) 64 cap))] rfl (by kernel_rfl) (by kernel_rfl) (by rfl) (fun K4 hK4 => ?_)
    refine wp_copyB _ _ _ _ rfl 5 rfl info8 w.heap.size 5 48 48 (some ⟨k, o + 16, none⟩) 48 (cap - 16) (by rfl) (by rfl) 148 _ HB4'.out (u8s (l.drop 16)) ?_ ?_ ?_ (u8s_one _) ?_
    · have := H64.out
      simp [u8s_length, this]
    · exact ⟨_, rfl, range_loads (fun j v hj => at_range (at_drop HA4.out 16) j v hj)⟩
    · have := H64.out
      simp [u8s_length, sec_len, zeros48, this]
    intro w5 HB5 HF5 HS5
    refine hK4 _ _ (Facts.cons_hold (HF5.out.cell (w := w4.drew) cb4 hbw) (Facts.nil_hold _)) ?_
    clear hK4 K4 hold6
    simp only [Act.put, List.setIfInBounds_toArray, List.set_cons_zero, List.set_cons_succ]
    refine wpD_done (by kernel_rfl) ?_ _
    have HB5' : Hid (Blk w5 w.heap.size 148 (secCells ⟨false, n4, n8, n12, n14, n15, l.drop 16⟩)) := hid (by
      have e : spl (secCells ⟨false, n4, n8, n12, n14, n15, zeros48⟩) 5 (u8s (l.drop 16)) = secCells ⟨false, n4, n8, n12, n14, n15, l.drop 16⟩ := by
        have h64 := H64.out
        have h48 : (u8s (l.drop 16)).length = 48 := by simp [u8s_length, h64]
        have hz : (u8s zeros48).length = 48 := by rw [u8s_length]; rfl
        unfold spl
        rw [h48]
        simp only [secCells, List.take_succ_cons, List.take_zero, List.drop_succ_cons]
        simp [List.drop_eq_nil_of_le (Nat.le_of_eq hz)]
      have := HB5.out
      rwa [e] at this)
    have cb5 : w5.cell? ⟨b, 0, none⟩ = some (.slice (some ⟨k, o, none⟩) 64 cap) := HF5.out.cell (w := w4.drew) cb4 hbw
    have HA5 : Hid (S.At w5 (some ⟨k, o, none⟩) l) := hid (at_fr (w := w4.drew) HA4.out HF5.out (fun k' o' e => by cases e; exact hkw))
    have HF5' : Hid (Fr (fun k => w.heap.size ≤ k) w w5) := hid (HF4'.out.drew.trans HF5.out (fun k hk => .inl (by omega)))
    clear HB5 HF5 cb4 HA4 HB4' HF4'
    go_wp2_with fail
    have r5 : w5.rangeAt w.heap.size 0 (secCells ⟨false, n4, n8, n12, n14, n15, l.drop 16⟩) := HB5'.out.range 0 _ (by rw [List.drop_zero, List.take_length])
    have N0 := hid (number64 b 0 4 l (some ⟨k, o, none⟩) cap w5.drew cb5 HA5.out H64.out (by decide) (by decide))
    have L0 : nm ((l.drop 0).take 4) < 4294967296 := Nat.lt_of_lt_of_le (nm_lt _) (Nat.pow_le_pow_right (by decide) (by simp; omega) : 256 ^ ((l.drop 0).take 4).length ≤ 256 ^ 4)
    have N1 := hid (S.sum_at (l.drop 4) (some ⟨k, o + 4, none⟩) (cap - 4) w5.drew (at_drop HA5.out 4) (by have := H64.out; simp; omega))
    have L1 := S.add_lt (s := 0) (by decide) (l.drop 4)
    rw [List.drop_zero] at N0 L0
    rw [show (l.drop 4).length = 60 by have := H64.out; simp [this]] at N1
    generalize nm (l.take 4) = n0 at N0 L0 HK
    generalize S.add 0 (l.drop 4) = n1 at N1 L1 HK
    have hold : Facts.hold [(0, fun w' => w'.rangeAt w.heap.size 0 (secCells ⟨false, n4, n8, n12, n14, n15, l.drop 16⟩)), (3, fun w' => w'.cell? ⟨b, 0, none⟩ = some (.slice (some ⟨k, o, none⟩) 64 cap))] w5.drew := Facts.cons_hold r5 (Facts.cons_hold cb5 (Facts.nil_hold _))
    refine wpD_region hold (by kernel_rfl) 10 rfl ?_
    (refine wpD_take 0 _ rfl (by kernel_rfl) (by kernel_rfl) (by kernel_rfl) (fun _ _ _ h => h) List.mem_cons_self (by rfl) (exec_load _ _ rfl w.heap.size 0 rfl _ _ rfl rfl (by rw [sec_len, info87]; have := H64.out; simp [this])) (by assumption) ?_; simp only [Act.put, List.setIfInBounds_toArray, List.set_cons_zero, List.set_cons_succ])
    (refine wpD_plain 1 (v := ?_) rfl (by kernel_rfl) (by kernel_rfl) (by kernel_rfl) (fun _ _ _ h => h) (by rfl) ?_ (by assumption) ?_; rotate_left; (intro _w; go_simp; try with_reducible rfl); simp only [Act.put, List.setIfInBounds_toArray, List.set_cons_zero, List.set_cons_succ])
    (refine wpD_take 3 _ rfl (by kernel_rfl) (by kernel_rfl) (by kernel_rfl) (fun _ _ _ h => h) (List.mem_cons_of_mem _ List.mem_cons_self) (by rfl) (v := ?_) ?_ (by assumption) ?_; rotate_left; (intro _w _hw; go_simp; try with_reducible rfl); simp only [Act.put, List.setIfInBounds_toArray, List.set_cons_zero, List.set_cons_succ])
    (refine wpD_plain 4 (v := (.slice (some ⟨k, o + 4, none⟩) 60 (cap - 4))) rfl (by kernel_rfl) (by kernel_rfl) (by kernel_rfl) (fun _ _ _ h => h) (by rfl) ?_ (by assumption) ?_; (intro _w; go_simp; omega); simp only [Act.put, List.setIfInBounds_toArray, List.set_cons_zero, List.set_cons_succ])
    refine wpD_only 2 [(0, fun w' => w'.rangeAt w.heap.size 0 (secCells ⟨false, n4, n8, n12, n14, n15, l.drop 16⟩)), (3, fun w' => w'.cell? ⟨b, 0, none⟩ = some (.slice (some ⟨k, o, none⟩) 64 cap))] rfl (by kernel_rfl) (by kernel_rfl) (by rfl) (fun K2 hK2 => ?_)
    refine wp_call (.tmp 48) _ _ rfl 124 [.pointer (some ⟨b, 0, none⟩)] (by rfl) hentNum [.int .i64 ((0 : Nat) : Int), .int .i64 ((0 + 4 : Nat) : Int), .pointer (some ⟨b, 0, none⟩)] (by rfl) ?_
    refine N0.out.mono ?_
    rintro e w' ⟨rfl, rfl⟩
    refine ⟨_, rfl, hK2 _ _ hold ?_⟩
    clear hK2 K2
    simp only [Act.put, List.setIfInBounds_toArray, List.set_cons_zero, List.set_cons_succ]
    refine wpD_only 5 [(0, fun w' => w'.rangeAt w.heap.size 0 (secCells ⟨false, n4, n8, n12, n14, n15, l.drop 16⟩)), (3, fun w' => w'.cell? ⟨b, 0, none⟩ = some (.slice (some ⟨k, o, none⟩) 64 cap))] rfl (by kernel_rfl) (by kernel_rfl) (by rfl) (fun K2 hK2 => ?_)
    refine wp_call (.func 62) _ _ rfl 62 [] rfl hentSum [.slice (some ⟨k, o + 4, none⟩) 60 (cap - 4)] (by rfl) ?_
    refine N1.out.mono ?_
    rintro e w' ⟨rfl, rfl⟩
    refine ⟨_, rfl, hK2 _ _ hold ?_⟩
    clear hK2 K2
    simp only [Act.put, List.setIfInBounds_toArray, List.set_cons_zero, List.set_cons_succ]
    (refine wpD_plain 6 (v := ?_) rfl (by kernel_rfl) (by kernel_rfl) (by kernel_rfl) (fun _ _ _ h => h) (by rfl) ?_ (by assumption) ?_; rotate_left; (intro _w; go_simp; try with_reducible rfl); simp only [Act.put, List.setIfInBounds_toArray, List.set_cons_zero, List.set_cons_succ])
    refine wpD_only 7 [(3, fun w' => w'.cell? ⟨b, 0, none⟩ = some (.slice (some ⟨k, o, none⟩) 64 cap))] rfl (by kernel_rfl) (by kernel_rfl) (by rfl) (fun K7 hK7 => ?_)
    refine wp_storeB _ _ _ rfl w.heap.size 0 (secCells ⟨false, n4, n8, n12, n14, n15, l.drop 16⟩) (by rfl) (by rfl) 148 _ (Blk.drew HB5'.out) (by omega) (by rw [sec_len, info87]; have := H64.out; simp [this]) (sec_one _) ?_
    intro w6 HB6 HF6 HS6
    refine hK7 _ _ (Facts.cons_hold (HF6.out.cell (w := w5.drew) cb5 hbw) (Facts.nil_hold _)) ?_
    clear hK7 K7
    simp only [Act.put, List.setIfInBounds_toArray, List.set_cons_zero, List.set_cons_succ]
    have hold : Facts.hold [(3, fun w' => w'.cell? ⟨b, 0, none⟩ = some (.slice (some ⟨k, o, none⟩) 64 cap))] w6 := Facts.cons_hold (HF6.out.cell (w := w5.drew) cb5 hbw) (Facts.nil_hold _)
    (refine wpD_plain 8 (v := ?_) rfl (by kernel_rfl) (by kernel_rfl) (by kernel_rfl) (fun _ _ _ h => h) (by rfl) ?_ (by assumption) ?_; rotate_left; (intro _w; go_simp; try with_reducible rfl); simp only [Act.put, List.setIfInBounds_toArray, List.set_cons_zero, List.set_cons_succ])
    (refine wpD_plain 9 (v := ?_) rfl (by kernel_rfl) (by kernel_rfl) (by kernel_rfl) (fun _ _ _ h => h) (by rfl) ?_ (by assumption) ?_; rotate_left; (intro _w; go_simp; try with_reducible rfl); simp only [Act.put, List.setIfInBounds_toArray, List.set_cons_zero, List.set_cons_succ])
    refine wpD_done (by kernel_rfl) ?_ _
    clear hold
    have HB6' : Hid (Blk w6 w.heap.size 148 (secCells ⟨false, n4, n8, n12, n14, n15, l.drop 16⟩)) := hid (by
      have := HB6.out
      rwa [spl_all rfl] at this)
    have HF6' : Hid (Fr (fun k => w.heap.size ≤ k) w w6) := hid (HF5'.out.drew.trans HF6.out (fun k hk => .inl (by omega)))
    clear HB6 HF6
    go_wp2_with fail
    refine ret_cell3 rfl _ rfl HB6'.out rfl rfl (by rw [sec_len, info87]; have := H64.out; simp [this]) rfl ?_
    rw [hsec, HK.out]
    refine ⟨?_, ⟨HF6'.out.os, HF6'.out.tape, HF6'.out.output, HF6'.out.size, fun k hk _ => HF6'.out.block k hk (by omega)⟩⟩
    have e : ((n0 : Int) == (n1 : Int)) = decide (n0 = n1) := by
      rw [Bool.eq_iff_iff, beq_iff_eq, decide_eq_true_iff]; omega
    rw [← e]
    rfl

theorem build0 (w : World) : (Instr.build 148 #[]).run Tryz.prog w = .ok (.agg (secCells noSec).toArray) w := by kernel_rfl
set_option maxHeartbeats 1000000 in
theorem read_down (w : World) (bg bd : Nat) (Z : Nat → Prop) (g : Lg) (u : U) (p : Nat) (h : At w bg bd Z g u) (hp : g.first + p < u.L.length) (hu : u.up = false) :
    Calls Tryz.prog 109 #[.pointer (some ⟨bg, 0, none⟩), .int .i64 (p : Int)] w fun e w' =>
      e = .returned (.tuple #[.agg (secCells noSec).toArray, .bool false, .int .i64 10]) ∧ Fr No w w' := by
  have hL := h.lens
  have hfp : (g.first : Int) + p < 4096 := by omega
  have hf0 : (g.first : Int) ≤ 4096 := by omega
  have hp0 : (p : Int) ≤ 4096 := by omega
  have HA := hid h
  have HP := hid hp
  clear h hp
  go_enter Tryz.func109, Tryz.ntmps109
  go_wp2_with ((with_reducible show wpList _ _ _ (⟨_, .alloc 148, _, _, _, _⟩ :: _) _ _); refine wpL_alloc rfl _ rfl _ zero87 (secCells noSec) rfl ?_; intro w1 HB1 HF1 HS1)
  have c0 : w1.cell? ⟨bg, 0, none⟩ = some (.pointer (some ⟨bd, 0, none⟩)) := HF1.out.cell (HA.out.2.1.cell 0) id
  have c1 : w1.cell? ⟨bg, 1, none⟩ = some (.int .i64 g.first) := HF1.out.cell (HA.out.2.1.cell 1) id
  have hold : Facts.hold [(3, fun w' => w'.cell? ⟨bg, 0, none⟩ = some (.pointer (some ⟨bd, 0, none⟩))), (7, fun w' => w'.cell? ⟨bg, 1, none⟩ = some (.int .i64 g.first))] w1.drew := Facts.cons_hold c0 (Facts.cons_hold c1 (Facts.nil_hold _))
  have WS : Hid (IntKind.i64.wrap ((g.first : Int) + p) = ((g.first + p : Nat) : Int)) := hid ((wrap_small (by omega) (by omega)).trans (by omega))
  have HD : Hid (Dk w1.drew bd Z u) := hid (D.Rep.no HA.out.1 HF1.out.drew)
  refine wpD_region hold (by kernel_rfl) 17 rfl ?_
  (refine wpD_plain 0 (v := ?_) rfl (by kernel_rfl) (by kernel_rfl) (by kernel_rfl) (fun _ _ _ h => h) (by rfl) ?_ (by assumption) ?_; rotate_left; (intro _w; go_simp; try with_reducible rfl); simp only [Act.put, List.setIfInBounds_toArray, List.set_cons_zero, List.set_cons_succ])
  (refine wpD_plain 1 (v := ?_) rfl (by kernel_rfl) (by kernel_rfl) (by kernel_rfl) (fun _ _ _ h => h) (by rfl) ?_ (by assumption) ?_; rotate_left; (intro _w; go_simp; try with_reducible rfl); simp only [Act.put, List.setIfInBounds_toArray, List.set_cons_zero, List.set_cons_succ])
  (refine wpD_plain 2 (v := ?_) rfl (by kernel_rfl) (by kernel_rfl) (by kernel_rfl) (fun _ _ _ h => h) (by rfl) ?_ (by assumption) ?_; rotate_left; (intro _w; go_simp; try with_reducible rfl); simp only [Act.put, List.setIfInBounds_toArray, List.set_cons_zero, List.set_cons_succ])
  (refine wpD_take 3 _ rfl (by kernel_rfl) (by kernel_rfl) (by kernel_rfl) (fun _ _ _ h => h) List.mem_cons_self (by rfl) (v := ?_) ?_ (by assumption) ?_; rotate_left; (intro _w _hw; go_simp; try with_reducible rfl); simp only [Act.put, List.setIfInBounds_toArray, List.set_cons_zero, List.set_cons_succ])
  (refine wpD_plain 4 (v := ?_) rfl (by kernel_rfl) (by kernel_rfl) (by kernel_rfl) (fun _ _ _ h => h) (by rfl) ?_ (by assumption) ?_; rotate_left; (intro _w; go_simp; try with_reducible rfl); simp only [Act.put, List.setIfInBounds_toArray, List.set_cons_zero, List.set_cons_succ])
  (refine wpD_plain 5 (v := ?_) rfl (by kernel_rfl) (by kernel_rfl) (by kernel_rfl) (fun _ _ _ h => h) (by rfl) ?_ (by assumption) ?_; rotate_left; (intro _w; go_simp; try with_reducible rfl); simp only [Act.put, List.setIfInBounds_toArray, List.set_cons_zero, List.set_cons_succ])
  (refine wpD_plain 6 (v := ?_) rfl (by kernel_rfl) (by kernel_rfl) (by kernel_rfl) (fun _ _ _ h => h) (by rfl) ?_ (by assumption) ?_; rotate_left; (intro _w; go_simp; try with_reducible rfl); simp only [Act.put, List.setIfInBounds_toArray, List.set_cons_zero, List.set_cons_succ])
  (refine wpD_take 7 _ rfl (by kernel_rfl) (by kernel_rfl) (by kernel_rfl) (fun _ _ _ h => h) (List.mem_cons_of_mem _ List.mem_cons_self) (by rfl) (v := ?_) ?_ (by assumption) ?_; rotate_left; (intro _w _hw; go_simp; try with_reducible rfl); simp only [Act.put, List.setIfInBounds_toArray, List.set_cons_zero, List.set_cons_succ])
  (refine wpD_plain 8 (v := ?_) rfl (by kernel_rfl) (by kernel_rfl) (by kernel_rfl) (fun _ _ _ h => h) (by rfl) ?_ (by assumption) ?_; rotate_left; (intro _w; go_simp; try with_reducible rfl); simp only [Act.put, List.setIfInBounds_toArray, List.set_cons_zero, List.set_cons_succ])
  (refine wpD_plain 9 (v := (.int .i64 ((g.first + p : Nat) : Int))) rfl (by kernel_rfl) (by kernel_rfl) (by kernel_rfl) (fun _ _ _ h => h) (by rfl) ?_ (by assumption) ?_; (intro _w; go_simp; exact WS.out); simp only [Act.put, List.setIfInBounds_toArray, List.set_cons_zero, List.set_cons_succ])
  clear hold
  refine wpD_join (fun a a' w' => ∃ (b : Nat) (ad : Option Addr) (cap : Nat), a' = ((((a.put (some 20) (.tuple #[.slice ad 0 cap, .int .i64 10])).put (some 9) (.tuple #[.slice ad 0 cap, .int .i64 10])).put (some 21) (.slice ad 0 cap)).put (some 22) (.int .i64 10)).put (some 7) (.pointer (some ⟨b, 0, none⟩)) ∧
    Hid (Blk w' b 40 [.slice none 0 0]) ∧ Hid (Fr No w1 w') ∧ Hid (w1.heap.size ≤ b)) [(7, fun w' => w'.cell? ⟨bg, 1, none⟩ = some (.int .i64 g.first))] 2 #[true, true, true, true, true, true, true, true, true, true, true, true, true, true, true, false, false] ?_ ?_
  · intro tail
    have HT := hid tail; clear tail
    refine wpD_two 10 14 [(7, fun w' => w'.cell? ⟨bg, 1, none⟩ = some (.int .i64 g.first))] [(3, fun w' => w'.cell? ⟨bg, 0, none⟩ = some (.pointer (some ⟨bd, 0, none⟩))), (7, fun w' => w'.cell? ⟨bg, 1, none⟩ = some (.int .i64 g.first))] rfl rfl (by kernel_rfl) (by kernel_rfl) (by kernel_rfl) (by rfl) (by rfl) ?_ ?_
    · intro K hK
      refine wp_call (.func 67) _ _ rfl 67 [] rfl hentRead [.pointer (some ⟨bd, 0, none⟩), .int .i64 ((g.first + p : Nat) : Int)] (by rfl) ?_
      refine (dread_down (g.first + p) HD.out HP.out hu).mono ?_
      rintro e w2 ⟨ad, cap, rfl, h3⟩
      have hold : Facts.hold [(7, fun w' => w'.cell? ⟨bg, 1, none⟩ = some (.int .i64 g.first))] w2 := Facts.cons_hold (h3.cell (w := w1.drew) c1 id) (Facts.nil_hold _)
      refine ⟨_, rfl, hK _ _ hold ?_⟩
      have H3 := hid h3
      clear h3 hK K
      simp only [Act.put, List.setIfInBounds_toArray, List.set_cons_zero, List.set_cons_succ]
      (refine wpD_plain 11 (v := ?_) rfl (by kernel_rfl) (by kernel_rfl) (by kernel_rfl) (fun _ _ _ h => h) (by rfl) ?_ (by assumption) ?_; rotate_left; (intro _w; go_simp; try with_reducible rfl); simp only [Act.put, List.setIfInBounds_toArray, List.set_cons_zero, List.set_cons_succ])
      (refine wpD_plain 12 (v := ?_) rfl (by kernel_rfl) (by kernel_rfl) (by kernel_rfl) (fun _ _ _ h => h) (by rfl) ?_ (by assumption) ?_; rotate_left; (intro _w; go_simp; try with_reducible rfl); simp only [Act.put, List.setIfInBounds_toArray, List.set_cons_zero, List.set_cons_succ])
      (refine wpD_plain 13 (v := ?_) rfl (by kernel_rfl) (by kernel_rfl) (by kernel_rfl) (fun _ _ _ h => h) (by rfl) ?_ (by assumption) ?_; rotate_left; (intro _w; go_simp; try with_reducible rfl); simp only [Act.put, List.setIfInBounds_toArray, List.set_cons_zero, List.set_cons_succ])
      refine wpD_only 14 [(7, fun w' => w'.cell? ⟨bg, 1, none⟩ = some (.int .i64 g.first))] rfl (by kernel_rfl) (by kernel_rfl) (by rfl) (fun K2 hK2 => ?_)
      refine wp_alloc _ rfl _ zero57 [.slice none 0 0] rfl ?_
      intro w3 HB3 HF3 HS3
      have hF3 : Fr No w1 w3 := (Fr.trans' (b := w1.drew) (Fr.refl No w1).drew H3.out).trans' HF3.out
      refine hK2 _ _ (Facts.cons_hold (hF3.cell c1 id) (Facts.nil_hold _)) ?_
      refine wpD_cast (listed' := #[true, true, true, true, true, true, true, true, true, true, true, true, true, true, true, false, false]) (by kernel_rfl) ?_
      have hs2 : w1.heap.size ≤ w2.heap.size := H3.out.size
      exact HT.out _ _ ⟨_, ad, cap, rfl, HB3, hid hF3, hid hs2⟩ (Facts.cons_hold (hF3.cell c1 id) (Facts.nil_hold _))
    · intro K hK
      refine wp_alloc _ rfl _ zero57 [.slice none 0 0] rfl ?_
      intro w2 HB2 HF2 HS2
      have hF2 : Fr No w1 w2 := Fr.trans' (b := w1.drew) (Fr.refl No w1).drew HF2.out
      refine hK _ _ (Facts.cons_hold (hF2.cell c0 id) (Facts.cons_hold (hF2.cell c1 id) (Facts.nil_hold _))) ?_
      clear hK K
      simp only [Act.put, List.setIfInBounds_toArray, List.set_cons_zero, List.set_cons_succ]
      refine wpD_only 10 [(7, fun w' => w'.cell? ⟨bg, 1, none⟩ = some (.int .i64 g.first))] rfl (by kernel_rfl) (by kernel_rfl) (by rfl) (fun K2 hK2 => ?_)
      refine wp_call (.func 67) _ _ rfl 67 [] rfl hentRead [.pointer (some ⟨bd, 0, none⟩), .int .i64 ((g.first + p : Nat) : Int)] (by rfl) ?_
      refine (dread_down (g.first + p) (D.Rep.no HD.out HF2.out) HP.out hu).mono ?_
      rintro e w3 ⟨ad, cap, rfl, h3⟩
      have hF3 : Fr No w1 w3 := hF2.trans' h3
      have hold : Facts.hold [(7, fun w' => w'.cell? ⟨bg, 1, none⟩ = some (.int .i64 g.first))] w3 := Facts.cons_hold (hF3.cell c1 id) (Facts.nil_hold _)
      refine ⟨_, rfl, hK2 _ _ hold ?_⟩
      have H3 := hid h3
      clear h3 hK2 K2
      simp only [Act.put, List.setIfInBounds_toArray, List.set_cons_zero, List.set_cons_succ]
      (refine wpD_plain 11 (v := ?_) rfl (by kernel_rfl) (by kernel_rfl) (by kernel_rfl) (fun _ _ _ h => h) (by rfl) ?_ (by assumption) ?_; rotate_left; (intro _w; go_simp; try with_reducible rfl); simp only [Act.put, List.setIfInBounds_toArray, List.set_cons_zero, List.set_cons_succ])
      (refine wpD_plain 12 (v := ?_) rfl (by kernel_rfl) (by kernel_rfl) (by kernel_rfl) (fun _ _ _ h => h) (by rfl) ?_ (by assumption) ?_; rotate_left; (intro _w; go_simp; try with_reducible rfl); simp only [Act.put, List.setIfInBounds_toArray, List.set_cons_zero, List.set_cons_succ])
      (refine wpD_plain 13 (v := ?_) rfl (by kernel_rfl) (by kernel_rfl) (by kernel_rfl) (fun _ _ _ h => h) (by rfl) ?_ (by assumption) ?_; rotate_left; (intro _w; go_simp; try with_reducible rfl); simp only [Act.put, List.setIfInBounds_toArray, List.set_cons_zero, List.set_cons_succ])
      refine wpD_cast (listed' := #[true, true, true, true, true, true, true, true, true, true, true, true, true, true, true, false, false]) (by kernel_rfl) ?_
      exact HT.out _ _ ⟨_, ad, cap, rfl, hid (HB2.out.fr H3.out id), hid hF3, hid (Nat.le_refl _)⟩ hold
  · rintro a' w2 ⟨b, ad, cap, rfl, HB2, HF2, HS2⟩ hold0
    simp only [Act.put, List.setIfInBounds_toArray, List.set_cons_zero, List.set_cons_succ]
    have cb : w2.cell? ⟨b, 0, none⟩ = some (.slice none 0 0) := HB2.out.cell 0
    have fb : w2.frozen? ⟨b, 0, none⟩ = false := HB2.out.frozen 0
    clear hold0
    refine wpD_only 15 [] rfl (by kernel_rfl) (by kernel_rfl) (by rfl) (fun K3 hK3 => ?_)
    go_simp
    refine hK3 _ _ (Facts.nil_hold _) ?_
    clear hK3 K3
    simp only [Act.put, List.setIfInBounds_toArray, List.set_cons_zero, List.set_cons_succ]
    have hold : Facts.hold [] (w2.setCell ⟨b, 0, none⟩ (.slice ad 0 cap)) := Facts.nil_hold _
    (refine wpD_plain 16 (v := ?_) rfl (by kernel_rfl) (by kernel_rfl) (by kernel_rfl) (fun _ _ _ h => h) (by rfl) ?_ (by assumption) ?_; rotate_left; (intro _w; go_simp; try with_reducible rfl); simp only [Act.put, List.setIfInBounds_toArray, List.set_cons_zero, List.set_cons_succ])
    refine wpD_done (by kernel_rfl) ?_ _
    clear hold
    have HF3 : Hid (Fr (fun k => w1.heap.size ≤ k) w1 (w2.setCell ⟨b, 0, none⟩ (.slice ad 0 cap))) := hid (HF2.out.no.setCell _ _ (.inl HS2.out))
    have HBS : Hid (Blk (w2.setCell ⟨b, 0, none⟩ (.slice ad 0 cap)) w.heap.size 148 (secCells noSec)) := hid (HB1.out.fr HF3.out (fun e => by have := HS1.out; omega))
    clear cb fb c0 c1 HB2
    generalize w2.setCell ⟨b, 0, none⟩ (.slice ad 0 cap) = w3 at HF3 HBS ⊢
    go_wp2_with (first
      | ((with_reducible show wpList _ _ _ (⟨_, .build 148 _, _, _, _, _⟩ :: _) _ _); refine wpL_build rfl _ [] rfl _ (build0 _) ?_)
      | ((with_reducible show wpList _ _ _ (⟨_, .store 148 _ _, _, _, _, _⟩ :: _) _ _); refine wpL_store rfl _ _ _ rfl w.heap.size 0 (secCells noSec) rfl rfl _ _ HBS.out (by simp only [sec_len]; decide) (by rw [info87, sec_len]; rfl) (sec_one _) ?_; intro w4 HB4 HF4 HS4))
    have HB4' : Hid (Blk w4 w.heap.size 148 (secCells noSec)) := hid (by
      have := HB4.out
      rwa [spl_all rfl] at this)
    have HF4' : Hid (Fr (fun k => w.heap.size ≤ k) w w4) := hid ((HF1.out.no.trans HF3.out (fun k hk => .inr (by have := HS1.out; omega))).trans HF4.out (fun k hk => .inl (by omega)))
    refine ret_cell3 rfl _ rfl HB4'.out rfl rfl (by rw [sec_len, info87]; rfl) rfl ?_
    exact ⟨rfl, ⟨HF4'.out.os, HF4'.out.tape, HF4'.out.output, HF4'.out.size, fun k hk _ => HF4'.out.block k hk (by omega)⟩⟩
end Go.Proofs.YtflfmkokfbgclaaGreat.L
