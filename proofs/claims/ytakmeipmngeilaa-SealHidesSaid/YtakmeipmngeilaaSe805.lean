/-
  Part 5 of the proof: ThaJ, ThaV, ThaX.
-/
import Derived.Test.YtakmeipmngeilaaSe804
import Derived.Shelf.Abstract
set_option linter.unusedVariables false
set_option linter.unusedSimpArgs false
set_option linter.unusedSectionVars false
namespace Go.Proofs.Ytakmeipmngeilaa.SH
set_option maxRecDepth 100000
open Go.RowKit K AR
variable [Tab]

def padt (t : List UInt8) (L m : Nat) : List UInt8 := padn t (padz t.length) ++ (List.range m).map (be8 (L * 8))
theorem padt_length (t : List UInt8) (L m : Nat) : (padt t L m).length = t.length + 1 + padz t.length + m := by simp [padt, padn_length]
theorem padt_next (t : List UInt8) (L m : Nat) : padt t L m ++ [be8 (L * 8) m] = padt t L (m + 1) := by
  unfold padt
  rw [List.append_assoc, List.range_succ, List.map_append]
  rfl
theorem padz_tail (l : List UInt8) : padz (tail l).length = padz l.length := by
  rw [tail_length]
  unfold padz
  omega
theorem pad_tail (l : List UInt8) : (pad l).drop (q64 l) = padt (tail l) l.length 8 := by
  unfold padt pad padn
  rw [padz_tail, List.append_assoc, List.append_assoc, List.append_assoc, List.append_assoc, List.drop_append_of_le_length (q64_le l)]
  rfl
set_option maxHeartbeats 2000000 in
theorem ppad_any (b : Nat) (l : List UInt8) (w : World) (h : HashAt w b l) (hl : l.length ≤ 281474976710656) : Calls Try.prog 82 #[.pointer (some ⟨b, 0, none⟩)] w fun e w' =>
    ∃ v', e = .returned v' ∧ OwB w w' v' ((pad l).drop (q64 l)) := by
  have HL := hid hl
  have HH := hid h
  rw [pad_tail]
  obtain ⟨t, ht⟩ : ∃ t, tail l = t := ⟨_, rfl⟩
  obtain ⟨len, hlen⟩ : ∃ len, l.length % 64 = len := ⟨_, rfl⟩
  have htl : t.length = len := by rw [← ht, tail_length, hlen]
  have HLen := hid htl
  obtain ⟨f, hB, -, hf⟩ := h
  have hsrc := hash_tail hB hf
  rw [ht] at hsrc
  have HS := hid (range_loads hsrc)
  have c72 : w.cell? ⟨b, 72, none⟩ = some (.int .u64 (l.length : Int)) := by rw [hB.cell]; exact hc_len l f
  obtain ⟨L, hLe⟩ : ∃ L, l.length = L := ⟨_, rfl⟩
  rw [hLe] at c72
  have HLe := hid hLe
  rw [ht, hLe]
  have hli : (len : Int) ≤ 63 := by omega
  have hbw : b < w.heap.size := hB.lt
  have hLi : (L : Int) ≤ 281474976710656 := by omega
  have HW := hid (show l.length % 64 = len from hlen)
  clear hB hf hsrc hlen htl ht hl hLe
  go_enter Try.func82, Try.ntmps82
  go_wp2_with fail
  refine (waits_any b l _ HH.out HL.out).mono ?_
  rintro e w1 ⟨rfl, rfl⟩
  rw [HW.out]
  go_wp2_with (first
    | ((with_reducible show wpList _ _ _ (⟨_, .buildSlice 38 _ _, _, _, _, _⟩ :: _) _ _); refine wpL_buildSlice rfl _ 5 1 [(0, .const (.int .u8 128))] rfl [.int .u8 128] (build1 _ _) ?_; intro w4 HB4 HF4 HS4)
    | ((with_reducible show wpList _ _ _ (⟨_, .call { callee := .builtin .append, args := _, argTypes := _ }, _, _, _, _⟩ :: _) _ _); refine wpL_appNew rfl _ _ rfl (w0 := w1) HF4.out ⟨b, 8, none⟩ len len rfl t HLen.out (fun j u hj => HF4.out.cell (HS.out j u hj) id) _ 1 1 [128] rfl rfl (one_src HB4.out) (by omega) (Nat.le_refl _) (len + 1) rfl (padn t 0) (by simp [padn]) (by omega) ?_; intro c5 w5 HO5 HF5)
    | fail)
  have HC5 := hid (HF5.out.cell (HF4.out.cell c72 id) id)
  obtain ⟨a5, ha5⟩ : ∃ a, (some ⟨w4.heap.size, 0, none⟩ : Option Addr) = a := ⟨_, rfl⟩
  rw [ha5] at HO5 ⊢
  have HG := hid (show OwB w1 w5 (.slice a5 (len + 1 + 0) c5) (padn t 0) ∧ (0 : Nat) ≤ padz t.length ∧ w5.cell? ⟨b, 72, none⟩ = some (.int .u64 (L : Int)) from ⟨HO5.out, Nat.zero_le _, HC5.out⟩)
  clear HB4 HF4 HS4 HO5 HF5 HS HC5 ha5 c72
  go_loopw [3] (fun x wr => ∃ (n : Nat) (a' : Option Addr) (c' : Nat), n ≤ 63 ∧ x = .slice a' (len + 1 + n) c' ∧ Hid (OwB w1 wr (.slice a' (len + 1 + n) c') (padn t n) ∧ n ≤ padz t.length ∧ wr.cell? ⟨b, 72, none⟩ = some (.int .u64 (L : Int)))) (fun x _ => match x with | .slice _ k _ => len + 65 - k | _ => 0)
  case atStart => exact ⟨0, a5, c5, by omega, rfl, HG⟩
  case round =>
    clear HG
    obtain ⟨n, a6, c6, hn, rfl, HG⟩ := hrel
    have hz : padz t.length = (119 - len % 64) % 64 := by rw [HLen.out]; rfl
    by_cases hlt : n < padz t.length
    · have hc : (((len : Int) + 1 + (n : Int)) % 64 != 56) = true := by
        rw [bne_iff_ne]; omega
      have hn63 : n < 63 := by have := padz_lt t.length; omega
      have HZ := hid hz; have HLT := hid hlt
      clear hz hlt
      go_wp2_with (first
        | ((with_reducible show wpList _ _ _ (⟨_, .buildSlice 38 _ _, _, _, _, _⟩ :: _) _ _); refine wpL_buildSlice rfl _ 5 1 [(0, .const (.int .u8 0))] rfl [.int .u8 0] (build1 _ _) ?_; intro w7 HB7 HF7 HS7; have HO7 := hid (HG.out.1.no HF7.out))
        | ((with_reducible show wpList _ _ _ (⟨_, .call { callee := .builtin .append, args := _, argTypes := _ }, _, _, _, _⟩ :: _) _ _); refine wpL_appB rfl _ _ rfl HO7.out rfl _ 1 1 [0] rfl rfl (one_src HB7.out) (len + 1 + (n + 1)) (by rw [padn_length, HLen.out]; omega) (padn t (n + 1)) (padn_next t n) (by omega) ?_; intro a8 c8 w8 HO8 HG8 HA8)
        | fail)
      have hc8 := HG8.out.cell (HF7.out.cell HG.out.2.2 id) (fun e => by have := HG.out.1.ge b e; omega)
      have HC8 := hid hc8
      clear hc8
      go_wp2_with fail
      go_roundw
      case rel => exact ⟨n + 1, a8, c8, by omega, rfl, hid ⟨HO8.out, by have := HLT.out; omega, HC8.out⟩⟩
      case measure => simp; omega
    · obtain rfl : n = padz t.length := by have := HG.out.2.1; omega
      have hc : (((len : Int) + 1 + (padz t.length : Int)) % 64 != 56) = false := by
        rw [bne_eq_false_iff_eq]; omega
      have hzl := padz_lt t.length
      have HZ := hid hz
      have c72 := HG.out.2.2
      clear hz hlt hn
      go_wp2_with fail
      have HG1 := hid (show OwB w1 wr (.slice a6 (len + 1 + padz t.length + 0) c6) (padt t L 0) by
        have := HG.out.1
        rwa [show padn t (padz t.length) = padt t L 0 by simp [padt]] at this)
      clear HG hc c72
      obtain ⟨z, hzz⟩ : ∃ z, padz t.length = z := ⟨_, rfl⟩
      rw [hzz] at HG1 hzl ⊢
      have HZZ := hid hzz
      clear hzz
      go_loopw [3, 22] (fun x i wr => ∃ (m : Nat) (a' : Option Addr) (c' : Nat), m ≤ 8 ∧ x = .slice a' (len + 1 + z + m) c' ∧ i = .int .i64 (m : Int) ∧ Hid (OwB w1 wr (.slice a' (len + 1 + z + m) c') (padt t L m))) (fun _ i _ => 8 - (intOf i).toNat)
      case atStart => exact ⟨0, a6, c6, by omega, rfl, rfl, HG1⟩
      case round =>
        clear HG1
        obtain ⟨m, a7, c7, hm, rfl, rfl, HG⟩ := hrel
        by_cases hlt : m < 8
        · obtain ⟨k, hk⟩ : ∃ k : Nat, 56 - 8 * m = k := ⟨_, rfl⟩
          have hk2 : (56 : Int) - 8 * (m : Int) = (k : Int) := by omega
          have hk56 : (k : Int) ≤ 56 := by omega
          have hv : ((L : Int) * 8 / 2 ^ k % 256) = (((be8 (L * 8) m).toNat : Nat) : Int) := by
            unfold be8
            rw [show 8 * (7 - m) = k by omega, UInt8.toNat_ofNat', Nat.mod_mod]
            simp
          have hv2 : (8 * (L : Int) / 2 ^ k % 256) = (((be8 (L * 8) m).toNat : Nat) : Int) := by rw [← hv, Int.mul_comm]
          have HV := hid hv; have HV2 := hid hv2
          clear hv hv2 hk
          go_wp2_with (first
            | ((with_reducible show wpList _ _ _ (⟨_, .buildSlice 38 _ _, _, _, _, _⟩ :: _) _ _); refine wpL_buildSlice rfl _ 5 1 [(0, .tmp 31)] rfl _ (build1 _ _) ?_; intro w7 HB7 HF7 HS7; first | rw [HV.out] at HB7 | rw [HV2.out] at HB7; have HO7 := hid (HG.out.no HF7.out))
            | ((with_reducible show wpList _ _ _ (⟨_, .call { callee := .builtin .append, args := _, argTypes := _ }, _, _, _, _⟩ :: _) _ _); refine wpL_appB rfl _ _ rfl HO7.out rfl _ 1 1 [be8 (L * 8) m] rfl rfl (one_src HB7.out) (len + 1 + z + (m + 1)) (by have h1 := padt_length t L m; have h2 := HLen.out; have h3 := HZZ.out; omega) (padt t L (m + 1)) (padt_next t L m) (by omega) ?_; intro a8 c8 w8 HO8 HG8 HA8)
            | fail)
          go_roundw
          case rel => exact ⟨m + 1, a8, c8, by omega, rfl, by go_num, HO8⟩
          case measure => first | (simp [intOf]; done) | (simp [intOf]; omega)
        · obtain rfl : m = 8 := by omega
          go_wp2_with fail
          go_ret
          exact ⟨_, rfl, HG.out⟩
end Go.Proofs.Ytakmeipmngeilaa.SH

set_option linter.unusedVariables false
set_option linter.unusedSimpArgs false
set_option linter.unusedSectionVars false
namespace Go.Proofs.Ytakmeipmngeilaa.SH
set_option maxRecDepth 100000
open Go.RowKit K AR
variable [Tab]

/-- The state behind some blocks of the bytes al. -/
def fold (al : List UInt8) (s : Nat → Nat) {N : Nat} (xs : List (Fin N)) : Nat → Nat := xs.foldl (fun (h : Nat → Nat) (x : Fin N) => comp h (mB (byt al x.val))) s
theorem fold_snoc (al : List UInt8) (s : Nat → Nat) {N : Nat} (xs : List (Fin N)) (x : Fin N) : fold al s (xs ++ [x]) = comp (fold al s xs) (mB (byt al x.val)) := by simp [fold]
theorem fold_lt {al : List UInt8} {N : Nat} : ∀ (xs : List (Fin N)) (s : Nat → Nat), B32 s → B32 (fold al s xs)
  | [], _, h => h
  | x :: xs, s, _ => fold_lt xs (comp s (mB (byt al x.val))) (comp_lt _ _)
theorem fold_fins {L al : List UInt8} {q : Nat} (ht : L.drop (64 * q) = al) {N : Nat} : ∀ (k : Nat) (h : k ≤ N), fold al (hs L q) (fins N k h) = hs L (q + k)
  | 0, _ => by rfl
  | k + 1, h => by
    show fold al (hs L q) (fins N k (Nat.le_of_succ_le h) ++ [⟨k, h⟩]) = _
    rw [fold_snoc, fold_fins ht k (Nat.le_of_succ_le h)]
    exact (hs_more L al q ht k).symm
/-- What lies in the hash while blocks come. -/
def hcell (s f : Nat → Nat) (n : Nat) : List Value := bw .u32 s 8 ++ (bw .u8 f 64 ++ [.int .u64 (n : Int)])
theorem hcell_length (s f : Nat → Nat) (n : Nat) : (hcell s f n).length = 73 := by simp [hcell]
theorem hcell_state (s f : Nat → Nat) (n : Nat) : ((hcell s f n).drop 0).take (bw .u32 s 8).length = bw .u32 s 8 := by
  unfold hcell
  rw [List.drop_zero]
  exact List.take_left' rfl
theorem hcell_set (s s' f : Nat → Nat) (n : Nat) : spl (hcell s f n) 0 (bw .u32 s' 8) = hcell s' f n := by
  unfold spl hcell
  rw [List.take_zero, List.nil_append, Nat.zero_add, List.drop_left' (by simp)]
theorem hcell_last (s f g : Nat → Nat) (n m : Nat) (h : m ≤ 64) : spl (hcell s f n) 8 (bw .u8 g m) = hcell s (over f 0 m g) n := by
  have h1 := bw_spl (kd := .u8) f g (n := 64) (o := 0) (m := m) (by omega)
  unfold spl at h1 ⊢
  unfold hcell
  rw [← h1, List.take_left' (by simp), List.take_zero, List.nil_append, List.append_assoc, List.append_assoc]
  congr 1
  congr 1
  have e : 8 + (bw .u8 g m : List Value).length = (bw .u32 s 8 : List Value).length + (0 + (bw .u8 g m : List Value).length) := by simp
  rw [e, List.drop_length_add_append, List.drop_append_of_le_length (by simp; omega)]
theorem hcell_len (s f : Nat → Nat) (n m : Nat) : spl (hcell s f n) 72 [.int .u64 (m : Int)] = hcell s f m := by
  unfold spl hcell
  rw [← List.append_assoc, List.take_left' (by simp), List.drop_eq_nil_of_le (by simp)]
  simp
theorem u8s_byt (al : List UInt8) (k : Nat) (n : Nat) (h : 64 * k + n ≤ al.length) : ((u8s al).drop (64 * k)).take n = bw .u8 (byt al k) n := by
  refine List.ext_getElem? fun j => ?_
  rw [List.getElem?_take]
  by_cases hj : j < n
  · rw [if_pos hj, List.getElem?_drop, bw_get _ hj, u8s_get _ _ (by omega)]
    simp [byt, List.getD, show 64 * k + j < al.length by omega]
  · rw [if_neg hj, List.getElem?_eq_none (by simp; omega)]
theorem byt_cell {w : World} {g o : Nat} {al : List UInt8} (h : w.rangeAt g o (u8s al)) {k : Nat} (hk : 64 * k + 64 ≤ al.length) (i : Nat) (hi : i < 64) : w.cell? ⟨g, o + 64 * k + i, none⟩ = some (.int .u8 (byt al k i : Int)) := by
  have := h (64 * k + i) _ (u8s_get al (64 * k + i) (by omega))
  rw [← Nat.add_assoc] at this
  rw [this]
  simp [byt, List.getD, show 64 * k + i < al.length by omega]
theorem byt_src {w : World} {g o : Nat} {al : List UInt8} (h : w.rangeAt g o (u8s al)) {k n : Nat} (hk : 64 * k + n ≤ al.length) : w.rangeAt g (o + 64 * k) (bw .u8 (byt al k) n) := by
  intro j v hj
  have hjn : j < n := by have := (List.getElem?_eq_some_iff.1 hj).1; simpa using this
  rw [bw_get _ hjn] at hj
  have := h (64 * k + j) _ (u8s_get al (64 * k + j) (by omega))
  rw [← Nat.add_assoc] at this
  rw [this, ← hj]
  simp [byt, List.getD, show 64 * k + j < al.length by omega]
theorem info64 : (Try.prog.info? 23).map (·.size) = some [Value.int .u64 0].length := by kernel_rfl
set_option maxHeartbeats 8000000 in
theorem write_any (b : Nat) (l bs : List UInt8) (v : Value) (w : World) {E : Nat → Prop} (hh : HashAt w b l) (hb : BytesIn w E v bs) (hg : Gl w) (hn : NoG fun k => k = b) (hl : l.length + bs.length ≤ 281474976710656) (hl2 : bs.length ≤ 140737488355200) :
    Calls Try.prog 71 #[.pointer (some ⟨b, 0, none⟩), v] w fun e w' => e = .returned (.tuple #[]) ∧ HashAt w' b (l ++ bs) ∧ Fr (fun k => k = b) w w' := by
  have HH := hid hh
  obtain ⟨a0, m, c0, rfl, hm, hmc, h3⟩ := hb
  have HSrc := hid (src_of (⟨a0, m, c0, rfl, hm, hmc, h3⟩ : BytesIn w E (.slice a0 m c0) bs)).2
  have HM := hid hm
  have HL := hid hl; have HG := hid hg; have HNG := hid hn
  obtain ⟨f, hB, hf8, hf⟩ := hh
  have HB := hid (show Blk w b 128 (hcell (hs l (l.length / 64)) f l.length) from hB)
  have HF8 := hid hf8; have HFT := hid hf
  have HT := hid (hash_tail hB hf)
  have HTL := hid (tail_length l)
  have hbw := hB.lt
  have HST := hid (hs_lt l (l.length / 64))
  have hmi : (m : Int) ≤ 140737488355200 := by omega
  have hmn : m ≤ 140737488355200 := by omega
  have HLW := hid (show l.length ≤ 281474976710656 by omega)
  obtain ⟨r, hr⟩ : ∃ r, l.length % 64 = r := ⟨_, rfl⟩
  have hri : r ≤ 63 := by omega
  have HR := hid hr
  obtain ⟨k, hk⟩ : ∃ k, r + m = k := ⟨_, rfl⟩
  have HK := hid hk
  have hki : (k : Int) ≤ 140737488355263 := by omega
  clear hB hf8 hf hmc h3 hm hl hl2 hg hn hr hk
  refine calls_marks Try.func71 rfl ?_
  simp only [Try.ntmps71, List.size_toArray, List.length_cons, List.length_nil, Nat.reduceAdd, Nat.reduceSub, Array.replicate_succ, Array.replicate_zero, List.push_toArray, List.append_toArray, List.nil_append, List.cons_append]
  go_wp2_with (first
    | ((with_reducible show wpList _ _ _ (⟨_, .box 120 _, _, _, _, _⟩ :: _) _ _); refine wpL_box rfl _ _ rfl (.pointer (some ⟨b, 0, none⟩)) rfl [.pointer (some ⟨b, 0, none⟩)] rfl ?_; intro w1 HB1 HF1 HS1; have c1 : w1.cell? ⟨w.heap.size, 0, none⟩ = some (.pointer (some ⟨b, 0, none⟩)) := HB1.out.cell 0)
    | fail)
  refine (waits_any b l _ (HH.out.fr HF1.out id) HLW.out).mono ?_
  rintro e w2 ⟨rfl, rfl⟩
  rw [HR.out]
  go_wp2_with (first
    | ((with_reducible show wpList _ _ _ (⟨_, .call { callee := .builtin .append, args := _, argTypes := _ }, _, _, _, _⟩ :: _) _ _); refine wpL_appFull rfl _ _ rfl b 8 r rfl (Nat.lt_of_lt_of_le hbw HF1.out.size) (tail l) (by rw [HTL.out, HR.out]) (HF1.out.range HT.out id) a0 m c0 bs rfl HM.out (HSrc.out.imp id fun ⟨ad, e1, e2⟩ => ⟨ad, e1, fun j u hj => HF1.out.cell (e2 j u hj) id⟩) k HK.out (tail l ++ bs) rfl (by omega) ?_; intro g' o' c' w3 HA3 HF3 HC3)
    | fail)
  refine (blocks_any _ _ _ _).mono ?_
  rintro e w4 ⟨rfl, hbx, hf4, hs4⟩
  go_wp2_with fail
  obtain ⟨bp, hbp⟩ : ∃ x, w.heap.size = x := ⟨_, rfl⟩
  obtain ⟨bx, hbxe⟩ : ∃ x, w3.heap.size = x := ⟨_, rfl⟩
  obtain ⟨al, hal⟩ : ∃ al, tail l ++ bs = al := ⟨_, rfl⟩
  obtain ⟨S, hS⟩ : ∃ S, hs l (l.length / 64) = S := ⟨_, rfl⟩
  have hall : al.length = k := by rw [← hal, List.length_append, HTL.out, HR.out, HM.out, HK.out]
  have HAL := hid hall
  have HALE := hid hal
  obtain ⟨N, hN⟩ : ∃ N, k / 64 = N := ⟨_, rfl⟩
  have HN := hid (show k = 64 * N + k % 64 by omega)
  have hf34 := (HF1.out.trans' HF3.out).trans' hf4
  have hA4 := hf4.range HA3.out id
  rw [hal] at hA4
  have hB4 := HB.out.fr hf34 id
  rw [hS] at hB4
  have HSB := hid (hS ▸ HST.out : B32 S)
  have c4 : w4.cell? ⟨bp, 0, none⟩ = some (.pointer (some ⟨b, 0, none⟩)) := by rw [← hbp]; exact hf4.cell (HF3.out.cell c1 id) id
  have HI := hid (show Blk w4 b 128 (hcell (fold al S ([] : List (Fin N))) f l.length) ∧ w4.rangeAt g' o' (u8s al) ∧ w4.cell? ⟨bp, 0, none⟩ = some (.pointer (some ⟨b, 0, none⟩)) ∧ Gl w4 ∧ Fr (fun k => k = b) w w4 ∧ w4.heap.size ≤ w4.heap.size from
    ⟨hB4, hA4, c4, HG.out.no hf34, hf34.no, Nat.le_refl _⟩)
  have HLT := hid (show b < bp ∧ bp < bx ∧ bx < w4.heap.size ∧ g' < w4.heap.size ∧ w.heap.size = bp ∧ (m = 0 ∨ g' ≠ b) by
    have h1 := HC3.out.2.1; have h2 := HC3.out.2.2; have h3 := hf4.size; have h4 := HF3.out.size; have h5 := HF1.out.size; have h6 := HS1.out
    refine ⟨by omega, by omega, by omega, by omega, hbp, h2.imp id fun e => by omega⟩)
  have HKC := hid HC3.out.1
  have HSE := hid hS
  rw [hbp, hbxe]
  rw [hbxe] at hbx
  have HBX := hid hbx
  clear HA3 HF3 HC3 HB1 HF1 HS1 c1 hf4 hs4 hbx hf34 hA4 hB4 c4 hbp hbxe HB HT HST hS hal hall hN
  refine wp_range1 (gf := 88) (lb := #[.pointer (some ⟨bx, 0, none⟩)]) rfl (enters_of Try.func88 (by kernel_rfl) rfl) (fun x : Fin N => .slice (some ⟨g', o' + 64 * x.val, none⟩) 64 (c' - 64 * x.val)) (bx := bx) HLT.out.2.2.1
    (blocks_stops bx g' o' k c' N HN.out (by omega) HKC.out w4 HLT.out.2.2.1 HBX.out) (by simp)
    (fun pre W => Hid (Blk W b 128 (hcell (fold al S pre) f l.length) ∧ W.rangeAt g' o' (u8s al) ∧ W.cell? ⟨bp, 0, none⟩ = some (.pointer (some ⟨b, 0, none⟩)) ∧ Gl W ∧ Fr (fun k => k = b) w W ∧ w4.heap.size ≤ W.heap.size)) ?_ HI ?_ ?_
  · intro pre A B row h hg hr
    have hlt := HLT.out
    have hrow : ∀ x, row = some x → w4.heap.size ≤ x := fun x e => (hr x e).1
    have hf : Fr (fun k => row = some k) A B := ⟨hg.os, hg.tape, hg.output, hg.size, fun k hk hn => hg.block k hk (fun e => hn e.symm)⟩
    have hgs := HG.out.size
    refine hid ⟨h.out.1.fr hf (fun e => by have := hrow _ e; omega), hf.range h.out.2.1 (fun e => by have := hrow _ e; omega), hf.cell h.out.2.2.1 (fun e => by have := hrow _ e; simp at this; omega), h.out.2.2.2.1.fr hf ⟨fun e => by have := hrow _ e; omega, fun e => by have := hrow _ e; omega⟩, fr_row h.out.2.2.2.2.1 hg (fun x e => by have := hrow x e; omega), Nat.le_trans h.out.2.2.2.2.2 hg.size⟩
  · rintro lp pre x W hI hlen
    simp only [List.setIfInBounds_toArray, List.set_cons_zero, List.set_cons_succ]
    have hx : 64 * x.val + 64 ≤ al.length := by have := x.isLt; have := HN.out; have := HAL.out; omega
    have hne : g' ≠ b := by have := HLT.out; have := HK.out; have := HAL.out; omega
    obtain ⟨T, hT⟩ : ∃ T, fold al S pre = T := ⟨_, rfl⟩
    have hTB : B32 T := hT ▸ fold_lt pre S HSB.out
    have hnx := fold_snoc al S pre x
    rw [hT] at hnx
    have HNX := hid hnx
    have hb := hI.out
    rw [hT] at hb
    have HJ := hid hb
    clear hI hb hT hnx
    have k0 := HJ.out.2.2.1
    have kS : W.rangeAt b 0 (bw .u32 T 8) := HJ.out.1.range 0 _ (hcell_state T f l.length)
    refine wpIn_block ?_
    have hold : Facts.hold [(0, fun w' => w'.cell? ⟨bp, 0, none⟩ = some (.pointer (some ⟨b, 0, none⟩))), (1, fun w' => w'.cell? ⟨bp, 0, none⟩ = some (.pointer (some ⟨b, 0, none⟩))), (4, fun w' => w'.rangeAt b 0 (bw .u32 T 8))] W.drew := (Facts.cons_hold k0 (Facts.cons_hold k0 (Facts.cons_hold kS (Facts.nil_hold _))))
    refine wpDIn_region (by rfl) (fun ⟨_, _, h⟩ => h) hold (by kernel_rfl) 10 rfl ?_
    (refine wpD_take 0 _ rfl (by kernel_rfl) (by kernel_rfl) (by kernel_rfl) (fun _ _ _ h => h) List.mem_cons_self (by rfl) (v := ?_) ?_ (by assumption) ?_; rotate_left; (intro _w _hw; go_simp; try with_reducible rfl); simp only [Act.put, List.setIfInBounds_toArray, List.set_cons_zero, List.set_cons_succ])
    (refine wpD_take 1 _ rfl (by kernel_rfl) (by kernel_rfl) (by kernel_rfl) (fun _ _ _ h => h) (List.mem_cons_of_mem _ List.mem_cons_self) (by rfl) (v := ?_) ?_ (by assumption) ?_; rotate_left; (intro _w _hw; go_simp; try with_reducible rfl); simp only [Act.put, List.setIfInBounds_toArray, List.set_cons_zero, List.set_cons_succ])
    (refine wpD_plain 2 (v := ?_) rfl (by kernel_rfl) (by kernel_rfl) (by kernel_rfl) (fun _ _ _ h => h) (by rfl) ?_ (by assumption) ?_; rotate_left; (intro _w; go_simp; try with_reducible rfl); simp only [Act.put, List.setIfInBounds_toArray, List.set_cons_zero, List.set_cons_succ])
    (refine wpD_plain 3 (v := ?_) rfl (by kernel_rfl) (by kernel_rfl) (by kernel_rfl) (fun _ _ _ h => h) (by rfl) ?_ (by assumption) ?_; rotate_left; (intro _w; go_simp; try with_reducible rfl); simp only [Act.put, List.setIfInBounds_toArray, List.set_cons_zero, List.set_cons_succ])
    (refine wpD_take 4 _ rfl (by kernel_rfl) (by kernel_rfl) (by kernel_rfl) (fun _ _ _ h => h) (List.mem_cons_of_mem _ (List.mem_cons_of_mem _ List.mem_cons_self)) (by rfl) (exec_load _ _ rfl b 0 rfl _ _ rfl rfl (by simpa using info8w)) (by assumption) ?_; simp only [Act.put, List.setIfInBounds_toArray, List.set_cons_zero, List.set_cons_succ])
    (refine wpD_plain 5 (v := ?_) rfl (by kernel_rfl) (by kernel_rfl) (by kernel_rfl) (fun _ _ _ h => h) (by rfl) ?_ (by assumption) ?_; rotate_left; (intro _w; go_simp; try with_reducible rfl); simp only [Act.put, List.setIfInBounds_toArray, List.set_cons_zero, List.set_cons_succ])
    refine wpD_only 6 [(0, fun w' => w'.cell? ⟨bp, 0, none⟩ = some (.pointer (some ⟨b, 0, none⟩))), (1, fun w' => w'.cell? ⟨bp, 0, none⟩ = some (.pointer (some ⟨b, 0, none⟩)))] rfl (by kernel_rfl) (by kernel_rfl) (by rfl) (fun K6 hK6 => ?_)
    refine wp_call _ [_, _] _ rfl _ [] rfl (fun _ _ => by kernel_rfl) [ba .u32 T 8, .slice (some ⟨g', o' + 64 * x.val, none⟩) 64 (c' - 64 * x.val)] rfl ?_
    refine (next_any T hTB (byt al x.val) (byt_lt al x.val) g' (o' + 64 * x.val) (c' - 64 * x.val) W.drew (fun i hi => byt_cell (w := W) HJ.out.2.1 hx i hi) HJ.out.2.2.2.1).mono ?_
    rintro e W1 ⟨rfl, hf1⟩
    have k1 := hf1.cell (w := W.drew) k0 id
    refine ⟨_, rfl, hK6 _ _ (Facts.cons_hold k1 (Facts.cons_hold k1 (Facts.nil_hold _))) ?_⟩
    clear hK6 K6
    simp only [Act.put, List.setIfInBounds_toArray, List.set_cons_zero, List.set_cons_succ]
    replace hold : Facts.hold [(0, fun w' => w'.cell? ⟨bp, 0, none⟩ = some (.pointer (some ⟨b, 0, none⟩))), (1, fun w' => w'.cell? ⟨bp, 0, none⟩ = some (.pointer (some ⟨b, 0, none⟩)))] W1 := (Facts.cons_hold k1 (Facts.cons_hold k1 (Facts.nil_hold _)))
    (refine wpD_plain 7 (v := ?_) rfl (by kernel_rfl) (by kernel_rfl) (by kernel_rfl) (fun _ _ _ h => h) (by rfl) ?_ (by assumption) ?_; rotate_left; (intro _w; go_simp; try with_reducible rfl); simp only [Act.put, List.setIfInBounds_toArray, List.set_cons_zero, List.set_cons_succ])
    (refine wpD_plain 8 (v := ?_) rfl (by kernel_rfl) (by kernel_rfl) (by kernel_rfl) (fun _ _ _ h => h) (by rfl) ?_ (by assumption) ?_; rotate_left; (intro _w; go_simp; try with_reducible rfl); simp only [Act.put, List.setIfInBounds_toArray, List.set_cons_zero, List.set_cons_succ])
    refine wpD_only 9 [] rfl (by kernel_rfl) (by kernel_rfl) (by rfl) (fun KS hKS => ?_)
    have hB1 := HJ.out.1.drew.fr hf1 id
    refine wp_storeB _ _ _ rfl b 0 (bw .u32 (comp T (mB (byt al x.val))) 8) rfl rfl _ _ hB1 (by simp [hcell_length]) (by simpa using info8w) (bw_one _ _) ?_
    intro W2 HB2 HF2 HS2
    refine hKS _ _ (Facts.nil_hold _) ?_
    clear hKS KS
    simp only [Act.put, List.setIfInBounds_toArray, List.set_cons_zero, List.set_cons_succ]
    refine wpD_done (by kernel_rfl) ?_ _
    have hb2 := HB2.out
    rw [hcell_set, ← HNX.out] at hb2
    have hfr : Fr (fun k => k = b) W W2 := (Fr.no (⟨hf1.os, hf1.tape, hf1.output, hf1.size, hf1.block⟩ : Fr No W W1)).trans' HF2.out
    have hlt := HLT.out
    exact ⟨keepsFrom_fr hfr fun k e => by omega, hfr.block bx (Nat.lt_of_lt_of_le hlt.2.2.1 HJ.out.2.2.2.2.2) (fun e => by omega),
      hid ⟨hb2, hfr.range HJ.out.2.1 (fun e => hne e), hfr.cell k0 (fun e => by have : bp = b := e; omega), HJ.out.2.2.2.1.fr hfr HNG.out, HJ.out.2.2.2.2.1.trans' hfr, Nat.le_trans HJ.out.2.2.2.2.2 hfr.size⟩⟩
  · rintro D xs W hD rfl hI hK
    obtain ⟨L, hL⟩ : ∃ L, l ++ bs = L := ⟨_, rfl⟩
    have hLl : L.length = l.length + m := by rw [← hL, List.length_append, HM.out]
    have hdrop : L.drop (64 * (l.length / 64)) = al := by
      rw [← HALE.out, tail_append, hL]
      rfl
    have hq : L.length / 64 = l.length / 64 + N := by have := HN.out; have := HK.out; have := HR.out; omega
    have hfold : fold al S (fins N N (Nat.le_refl N)) = hs L (L.length / 64) := by
      rw [hq, ← HSE.out, ← hs_append l bs, hL]
      exact fold_fins hdrop N (Nat.le_refl N)
    have hi := hI.out
    rw [hfold] at hi
    have HJ := hid hi
    have HLe := hid hL; have HLl := hid hLl; have HDR := hid hdrop; have HQ := hid hq
    clear hI hi hfold hL hLl hdrop hq
    go_wp2_with fail
    have k0 := HJ.out.2.2.1
    obtain ⟨rr, hrr⟩ : ∃ rr, k % 64 = rr := ⟨_, rfl⟩
    obtain ⟨A, hA⟩ : ∃ A, 64 * N = A := ⟨_, rfl⟩
    have HA := hid hA
    have hr64 : rr < 64 := by omega
    have hkA : k = A + rr := by have := HN.out; omega
    have HRR := hid (show k % 64 = rr ∧ k = A + rr ∧ rr < 64 from ⟨hrr, hkA, hr64⟩)
    have hAk : (A : Int) ≤ (k : Int) := by omega
    have hkc : (k : Int) ≤ (c' : Int) := by have := HKC.out; omega
    clear hrr hkA hr64 hA
    obtain ⟨sp, hsp⟩ : ∃ sp : Addr, (if c' = A then some (⟨g', o', none⟩ : Addr) else some ⟨g', o' + A, none⟩) = some sp ∧ (rr = 0 ∨ sp = ⟨g', o' + A, none⟩) := by
      by_cases h : c' = A
      · exact ⟨_, by rw [if_pos h], .inl (by have := HRR.out; omega)⟩
      · exact ⟨_, by rw [if_neg h], .inr rfl⟩
    have HSP := hid hsp
    clear hsp
    have hold : Facts.hold [(0, fun w' => w'.cell? ⟨bp, 0, none⟩ = some (.pointer (some ⟨b, 0, none⟩)))] W.drew := (Facts.cons_hold k0 (Facts.nil_hold _))
    refine wp_region_noPanic ?_
    refine wpD_region hold (by kernel_rfl) 13 rfl ?_
    (refine wpD_take 0 _ rfl (by kernel_rfl) (by kernel_rfl) (by kernel_rfl) (fun _ _ _ h => h) List.mem_cons_self (by rfl) (v := ?_) ?_ (by assumption) ?_; rotate_left; (intro _w _hw; go_simp; try with_reducible rfl); simp only [Act.put, List.setIfInBounds_toArray, List.set_cons_zero, List.set_cons_succ])
    (refine wpD_plain 1 (v := ?_) rfl (by kernel_rfl) (by kernel_rfl) (by kernel_rfl) (fun _ _ _ h => h) (by rfl) ?_ (by assumption) ?_; rotate_left; (intro _w; go_simp; try with_reducible rfl); simp only [Act.put, List.setIfInBounds_toArray, List.set_cons_zero, List.set_cons_succ])
    (refine wpD_plain 2 (v := ?_) rfl (by kernel_rfl) (by kernel_rfl) (by kernel_rfl) (fun _ _ _ h => h) (by rfl) ?_ (by assumption) ?_; rotate_left; (intro _w; go_simp; try with_reducible rfl); simp only [Act.put, List.setIfInBounds_toArray, List.set_cons_zero, List.set_cons_succ])
    (refine wpD_plain 3 (v := ?_) rfl (by kernel_rfl) (by kernel_rfl) (by kernel_rfl) (fun _ _ _ h => h) (by rfl) ?_ (by assumption) ?_; rotate_left; (intro _w; go_simp; try with_reducible rfl); simp only [Act.put, List.setIfInBounds_toArray, List.set_cons_zero, List.set_cons_succ])
    (refine wpD_plain 4 (v := ?_) rfl (by kernel_rfl) (by kernel_rfl) (by kernel_rfl) (fun _ _ _ h => h) (by rfl) ?_ (by assumption) ?_; rotate_left; (intro _w; go_simp; try with_reducible rfl); simp only [Act.put, List.setIfInBounds_toArray, List.set_cons_zero, List.set_cons_succ])
    (refine wpD_plain 5 (v := ?_) rfl (by kernel_rfl) (by kernel_rfl) (by kernel_rfl) (fun _ _ _ h => h) (by rfl) ?_ (by assumption) ?_; rotate_left; (intro _w; go_simp; try with_reducible rfl); simp only [Act.put, List.setIfInBounds_toArray, List.set_cons_zero, List.set_cons_succ])
    (refine wpD_plain 6 (v := ?_) rfl (by kernel_rfl) (by kernel_rfl) (by kernel_rfl) (fun _ _ _ h => h) (by rfl) ?_ (by assumption) ?_; rotate_left; (intro _w; go_simp; try with_reducible rfl); simp only [Act.put, List.setIfInBounds_toArray, List.set_cons_zero, List.set_cons_succ])
    (refine wpD_plain 7 (v := ?_) rfl (by kernel_rfl) (by kernel_rfl) (by kernel_rfl) (fun _ _ _ h => h) (by rfl) ?_ (by assumption) ?_; rotate_left; (intro _w; go_simp; try with_reducible rfl); simp only [Act.put, List.setIfInBounds_toArray, List.set_cons_zero, List.set_cons_succ])
    (refine wpD_plain 8 (v := ?_) rfl (by kernel_rfl) (by kernel_rfl) (by kernel_rfl) (fun _ _ _ h => h) (by rfl) ?_ (by assumption) ?_; rotate_left; (intro _w; go_simp; try with_reducible rfl); simp only [Act.put, List.setIfInBounds_toArray, List.set_cons_zero, List.set_cons_succ])
    (refine wpD_plain 9 (v := (.int .i64 (rr : Int))) rfl (by kernel_rfl) (by kernel_rfl) (by kernel_rfl) (fun _ _ _ h => h) (by rfl) ?_ (by assumption) ?_; (intro _w; go_simp; (have := HRR.out; first | omega | (rw [Int.tmod_eq_emod_of_nonneg (by omega)]; omega))); simp only [Act.put, List.setIfInBounds_toArray, List.set_cons_zero, List.set_cons_succ])
    (refine wpD_plain 10 (v := (.int .i64 (A : Int))) rfl (by kernel_rfl) (by kernel_rfl) (by kernel_rfl) (fun _ _ _ h => h) (by rfl) ?_ (by assumption) ?_; (intro _w; go_simp; (have := HRR.out; rw [IntKind.wrap_i64]; omega)); simp only [Act.put, List.setIfInBounds_toArray, List.set_cons_zero, List.set_cons_succ])
    (refine wpD_plain 11 (v := (.slice (some sp) (k - A) (c' - A))) rfl (by kernel_rfl) (by kernel_rfl) (by kernel_rfl) (fun _ _ _ h => h) (by rfl) ?_ (by assumption) ?_; (intro _w; go_simp; (exact HSP.out.1)); simp only [Act.put, List.setIfInBounds_toArray, List.set_cons_zero, List.set_cons_succ])
    refine wpD_only 12 [(0, fun w' => w'.cell? ⟨bp, 0, none⟩ = some (.pointer (some ⟨b, 0, none⟩)))] rfl (by kernel_rfl) (by kernel_rfl) (by rfl) (fun KC hKC => ?_)
    have hlt := HLT.out
    refine wp_copyB _ _ _ _ rfl 5 Try.underlying38 infoU8 b 8 64 64 (some sp) (k - A) (c' - A) rfl rfl _ _ HJ.out.1.drew (bw .u8 (byt al N) rr) (by rw [bw_length]; have := HRR.out; show rr = min (k - A) 64; omega) ⟨_, rfl, by
      rcases HSP.out.2 with h0 | h0
      · intro j v hj
        rw [h0] at hj
        simp [bw] at hj
      · have := byt_src (w := W) HJ.out.2.1 (k := N) (n := rr) (by have := HRR.out; have := HA.out; have := HAL.out; omega)
        rw [HA.out] at this
        rw [h0]
        exact range_loads (w := W.drew) this⟩ (by rw [bw_length, hcell_length]; have := HRR.out; omega) (bw_one _ _) ?_
    intro W1 HB1 HF1 HS1
    have k1 := HF1.out.cell (w := W.drew) k0 (fun e => by have : bp = b := e; omega)
    refine hKC _ _ (Facts.cons_hold k1 (Facts.nil_hold _)) ?_
    clear hKC KC
    simp only [Act.put, List.setIfInBounds_toArray, List.set_cons_zero, List.set_cons_succ]
    refine wpD_done (by kernel_rfl) (NoPanic.normal ?_) _
    have hb1 := HB1.out
    rw [hcell_last _ _ _ _ _ (by have := HRR.out; omega)] at hb1
    have HB2 := hid hb1
    have c72 : W1.cell? ⟨b, 72, none⟩ = some (.int .u64 (l.length : Int)) := by
      rw [HB2.out.cell]
      unfold hcell
      rw [List.getElem?_append_right (by simp), List.getElem?_append_right (by simp)]
      simp
    have hli : (l.length : Int) ≤ 281474976710656 := by have := HLW.out; omega
    have hlm : (l.length : Int) + (m : Int) ≤ 281474976710656 := by have := HL.out; have := HM.out; omega
    have HF2 := hid (show Fr (fun k => k = b) W W1 from ⟨HF1.out.os, HF1.out.tape, HF1.out.output, HF1.out.size, HF1.out.block⟩)
    have hK1 : W1.heap[D]? = some (.deferred (some [])) := (HF2.out.block D (Array.getElem?_eq_some_iff.1 hK).1 (fun e => by omega)).trans hK
    have HK1 := hid hK1
    have HDB := hid (show D ≠ b ∧ w.heap.size ≤ D by omega)
    clear hb1 HB1 HF1 HS1 hold hK hK1 k0 hD hlt
    go_wp2_with (first
      | ((with_reducible show wpList _ _ _ (⟨_, .store 23 _ _, _, _, _, _⟩ :: _) _ _); refine wpL_storeU rfl _ _ _ rfl b 72 (.int .u64 ((l.length + m : Nat) : Int)) [.int .u64 ((l.length + m : Nat) : Int)] rfl (by first | rfl | (refine congrArg (Value.int .u64) ?_; omega)) rfl _ _ HB2.out (by rw [hcell_length]; exact Nat.le_refl 73) info64 (by intro u hu; simp at hu; subst hu; rfl) ?_; intro W2 HB3 HF3 HS3)
      | fail)
    have hb3 := HB3.out
    rw [hcell_len, ← HLl.out] at hb3
    have hK2 := (HF3.out.block D (Array.getElem?_eq_some_iff.1 HK1.out).1 HDB.out.1).trans HK1.out
    refine marks_none rfl hK2 rfl ?_
    intro w' hf'
    refine ⟨rfl, ?_, ?_⟩
    · rw [HLe.out]
      refine ⟨_, hb3.fr hf' (fun e => HDB.out.1 e.symm), fun i => ?_, fun i hi => ?_⟩
      · unfold over
        split
        · exact byt_lt _ _ _
        · exact HF8.out i
      · have h1 := HRR.out; have h2 := HLl.out; have h3 := HK.out; have h4 := HR.out; have h5 := HN.out
        have hir : i < rr := by omega
        unfold over
        rw [if_pos ⟨Nat.zero_le _, by omega⟩]
        unfold byt
        have e1 : L.drop (64 * (L.length / 64)) = tail L := rfl
        rw [← HDR.out, getD_drop]
        unfold tail q64
        rw [getD_drop, HQ.out]
        congr 2
        omega
    · exact ((HJ.out.2.2.2.2.1.trans' HF2.out).trans' HF3.out).trans hf' fun x e => .inr (by have := HDB.out.2; have : x = D := e; omega)
end Go.Proofs.Ytakmeipmngeilaa.SH

set_option linter.unusedVariables false
set_option linter.unusedSimpArgs false
set_option linter.unusedSectionVars false
namespace Go.Proofs.Ytakmeipmngeilaa.SH
set_option maxRecDepth 100000
open Go.RowKit K AR
variable [Tab]

theorem pad_getD (l : List UInt8) {i : Nat} (h : i < l.length) : (pad l).getD i 0 = l.getD i 0 := by
  unfold pad
  rw [List.append_assoc, List.append_assoc, getD_append _ _ h]
theorem hs_pad (l : List UInt8) : hs (pad l) (l.length / 64) = hs l (l.length / 64) := hs_congr _ fun i hi => pad_getD l (by omega)
set_option maxHeartbeats 8000000 in
theorem hsum_any (b : Nat) (l : List UInt8) (w : World) (hh : HashAt w b l) (hg : Gl w) (hl : l.length ≤ 281474976710656) :
    Calls Try.prog 72 #[.pointer (some ⟨b, 0, none⟩)] w fun e w' => e = .returned (ba .u8 (dig l) 32) ∧ Fr No w w' := by
  have HH := hid hh; have HG := hid hg; have HL := hid hl
  obtain ⟨f, hB, -, -⟩ := hh
  have HST := hid (hs_lt l (l.length / 64))
  have HB := hid (show w.rangeAt b 0 (bw .u32 (hs l (l.length / 64)) 8) from hB.range 0 _ (by rw [bw_length]; exact hc_state l f))
  have HBW := hid hB.lt
  obtain ⟨S, hS⟩ : ∃ S, hs l (l.length / 64) = S := ⟨_, rfl⟩
  rw [hS] at HB HST
  have HSE := hid hS
  clear hB hg hl hS
  refine calls_marks Try.func72 rfl ?_
  simp only [Try.ntmps72, List.size_toArray, List.length_cons, List.length_nil, Nat.reduceAdd, Nat.reduceSub, Array.replicate_succ, Array.replicate_zero, List.push_toArray, List.append_toArray, List.nil_append, List.cons_append]
  go_wp2_with (first
    | ((with_reducible show wpList _ _ _ (⟨_, .alloc 78, _, _, _, _⟩ :: _) _ _); refine wpL_alloc rfl _ rfl _ zero32b (bw .u8 (fun _ => 0) 32) rfl ?_; intro w1 HB1 HF1 HS1)
    | ((with_reducible show wpList _ _ _ (⟨_, .load 92 _, _, _, _, _⟩ :: _) _ _); refine wpL_load rfl _ _ rfl b 0 rfl (bw .u32 S 8) _ (HF1.out.range HB.out id) Try.underlying92 rfl (by simpa using info8w) ?_)
    | ((with_reducible show wpList _ _ _ (⟨_, .alloc 92, _, _, _, _⟩ :: _) _ _); refine wpL_alloc rfl _ rfl _ zero8w (bw .u32 (fun _ => 0) 8) rfl ?_; intro w2 HB2 HF2 HS2)
    | ((with_reducible show wpList _ _ _ (⟨_, .store 92 _ _, _, _, _, _⟩ :: _) _ _); refine wpL_whole rfl _ _ _ rfl w1.heap.size S 8 rfl rfl _ _ HB2.out info8w ?_; intro w3 HB3 HF3 HS3)
    | fail)
  obtain ⟨b2, hb2⟩ : ∃ x, w.heap.size = x := ⟨_, rfl⟩
  obtain ⟨b3, hb3⟩ : ∃ x, w1.heap.size = x := ⟨_, rfl⟩
  have hf13 : Fr No w1 w3 := HF2.out.trans HF3.out fun i e => .inr (by have : i = w1.heap.size := e; omega)
  have hf3 : Fr No w w3 := HF1.out.trans' hf13
  refine (ppad_any b l _ (HH.out.fr hf3 id) HL.out).mono ?_
  rintro e w4 ⟨v, rfl, hO⟩
  have hlen : (pad l).length % 64 = 0 := pad_blocks l
  have hpl := pad_length l
  have hpz := padz_lt l.length
  have hq := q64_le l
  obtain ⟨al, hal⟩ : ∃ al, (pad l).drop (q64 l) = al := ⟨_, rfl⟩
  have hall : al.length = (pad l).length - q64 l := by rw [← hal, List.length_drop]
  rw [hal] at hO
  have hal9 : al.length ≤ 300 := by unfold q64 at hall; omega
  have hal0 : 0 < al.length := by omega
  obtain ⟨N, hN⟩ : ∃ N, al.length / 64 = N := ⟨_, rfl⟩
  have hN64 : al.length = 64 * N := by unfold q64 at hall; omega
  have hPN : (pad l).length / 64 = l.length / 64 + N := by unfold q64 at hall; omega
  obtain ⟨a, len, c, rfl, hlen2, hlc, h3⟩ := hO.bytes
  obtain ⟨g, o, rfl, hgw, hg4, hA⟩ := h3.resolve_left (by omega)
  have HR4 := hid (show Blk w4 b2 78 (bw .u8 (fun _ => 0) 32) ∧ Blk w4 b3 92 (bw .u32 (fold al S ([] : List (Fin N))) 8) ∧ w4.rangeAt g o (u8s al) ∧ Gl w4 ∧ Fr No w w4 from
    ⟨by rw [← hb2]; exact (HB1.out.fr hf13 id).fr hO.fr id, by rw [← hb3]; exact HB3.out.fr hO.fr id, hA, HG.out.no (hf3.trans' hO.fr), hf3.trans' hO.fr⟩)
  have HLT := hid (show b2 < b3 ∧ b3 < g ∧ g < w4.heap.size ∧ w.heap.size = b2 ∧ b < b2 by
    have h1 := HS1.out; have h2 := HS2.out; have h3 := HS3.out; have h4 := HBW.out
    have : w3.heap.size ≤ g := hgw
    omega)
  have HAL := hid (show al.length = len ∧ len = 64 * N from ⟨hlen2, by omega⟩)
  have HDR := hid (show (pad l).drop (64 * (l.length / 64)) = al from hal)
  have HPN := hid hPN
  have hleni : (len : Int) ≤ 300 := by omega
  have hlen300 : len ≤ 300 := by omega
  have HLC := hid hlc
  rw [hb2, hb3]
  clear HB1 HF1 HS1 HB2 HF2 HS2 HB3 HF3 HS3 hf13 hf3 hb2 hb3 hO hlen hpl hpz hq hal hall hal9 hal0 hN hN64 hPN hlen2 hlc h3 hgw hg4 hA HB HBW HH
  go_wp2_with fail
  refine (blocks_any _ _ _ _).mono ?_
  rintro e w5 ⟨rfl, hbx, hf5, hs5⟩
  go_wp2_with fail
  obtain ⟨bx, hbxe⟩ : ∃ x, w4.heap.size = x := ⟨_, rfl⟩
  rw [hbxe] at hbx ⊢
  have HBX := hid (show w5.cell? ⟨bx, 0, none⟩ = some (.slice (some ⟨g, o, none⟩) len c) ∧ bx < w5.heap.size ∧ g < bx from ⟨hbx, by omega, by have := HLT.out; omega⟩)
  have HI := hid (show Blk w5 b2 78 (bw .u8 (fun _ => 0) 32) ∧ Blk w5 b3 92 (bw .u32 (fold al S ([] : List (Fin N))) 8) ∧ w5.rangeAt g o (u8s al) ∧ Gl w5 ∧ Fr No w w5 ∧ w5.heap.size ≤ w5.heap.size from
    ⟨HR4.out.1.fr hf5 id, HR4.out.2.1.fr hf5 id, hf5.range HR4.out.2.2.1 id, HR4.out.2.2.2.1.no hf5, HR4.out.2.2.2.2.trans' hf5, Nat.le_refl _⟩)
  clear HR4 hf5 hs5 hbx hbxe
  refine wp_range1 (gf := 88) (lb := #[.pointer (some ⟨bx, 0, none⟩)]) rfl (enters_of Try.func88 (by kernel_rfl) rfl) (fun x : Fin N => .slice (some ⟨g, o + 64 * x.val, none⟩) 64 (c - 64 * x.val)) (bx := bx) HBX.out.2.1
    (blocks_stops bx g o len c N (by have := HAL.out; omega) (by omega) HLC.out w5 HBX.out.2.1 HBX.out.1) (by simp)
    (fun pre W => Hid (Blk W b2 78 (bw .u8 (fun _ => 0) 32) ∧ Blk W b3 92 (bw .u32 (fold al S pre) 8) ∧ W.rangeAt g o (u8s al) ∧ Gl W ∧ Fr No w W ∧ w5.heap.size ≤ W.heap.size)) ?_ HI ?_ ?_
  · intro pre A B row h hg hr
    have hlt := HLT.out; have hlx := HBX.out.2
    have hrow : ∀ x, row = some x → w5.heap.size ≤ x := fun x e => (hr x e).1
    have hf : Fr (fun k => row = some k) A B := ⟨hg.os, hg.tape, hg.output, hg.size, fun k hk hn => hg.block k hk (fun e => hn e.symm)⟩
    have hgs := HG.out.size
    refine hid ⟨h.out.1.fr hf (fun e => by have := hrow _ e; omega), h.out.2.1.fr hf (fun e => by have := hrow _ e; omega), hf.range h.out.2.2.1 (fun e => by have := hrow _ e; omega), h.out.2.2.2.1.fr hf ⟨fun e => by have := hrow _ e; omega, fun e => by have := hrow _ e; omega⟩, fr_row h.out.2.2.2.2.1 hg (fun x e => by have := hrow x e; omega), Nat.le_trans h.out.2.2.2.2.2 hg.size⟩
  · rintro lp pre x W hI hlen
    simp only [List.setIfInBounds_toArray, List.set_cons_zero, List.set_cons_succ]
    have hx : 64 * x.val + 64 ≤ al.length := by have := x.isLt; have := HAL.out; omega
    obtain ⟨T, hT⟩ : ∃ T, fold al S pre = T := ⟨_, rfl⟩
    have hTB : B32 T := hT ▸ fold_lt pre S HST.out
    have hnx := fold_snoc al S pre x
    rw [hT] at hnx
    have HNX := hid hnx
    have hb := hI.out
    rw [hT] at hb
    have HJ := hid hb
    clear hI hb hT hnx
    refine wpIn_block ?_
    refine wpIn_region_plain (by rfl) (fun ⟨_, _, h⟩ => h) ?_
    go_wp2_with (first
      | ((with_reducible show wpList _ _ _ (⟨_, .load 92 _, _, _, _, _⟩ :: _) _ _); refine wpL_all rfl _ _ rfl b3 rfl _ T 8 _ HJ.out.2.1 rfl rfl info8w ?_)
      | fail)
    refine (next_any T hTB (byt al x.val) (byt_lt al x.val) g (o + 64 * x.val) (c - 64 * x.val) W (fun i hi => byt_cell HJ.out.2.2.1 hx i hi) HJ.out.2.2.2.1).mono ?_
    rintro e W1 ⟨rfl, hf1⟩
    have HF1 := hid hf1
    have HB1 := hid (HJ.out.2.1.fr hf1 id)
    clear hf1
    go_wp2_with (first
      | ((with_reducible show wpList _ _ _ (⟨_, .store 92 _ _, _, _, _, _⟩ :: _) _ _); refine wpL_whole rfl _ _ _ rfl b3 (comp T (mB (byt al x.val))) 8 rfl rfl _ _ HB1.out info8w ?_; intro W2 HB2 HF2 HS2)
      | fail)
    have hb2 := HB2.out
    rw [← HNX.out] at hb2
    have hlt := HLT.out; have hlx := HBX.out.2; have hgs := HG.out.size
    have hfr : Fr (fun k => k = b3) W W2 := (Fr.no HF1.out).trans' HF2.out
    exact ⟨keepsFrom_fr hfr fun k e => by omega, hfr.block bx (Nat.lt_of_lt_of_le hlx.1 HJ.out.2.2.2.2.2) (fun e => by omega),
      hid ⟨HJ.out.1.fr hfr (by omega), hb2, hfr.range HJ.out.2.2.1 (by omega), HJ.out.2.2.2.1.fr hfr ⟨by omega, by omega⟩, HJ.out.2.2.2.2.1.trans hfr fun k e => .inr (by have : k = b3 := e; omega), Nat.le_trans HJ.out.2.2.2.2.2 hfr.size⟩⟩
  · rintro D xs W hD rfl hI hK
    have hfold : fold al S (fins N N (Nat.le_refl N)) = hs (pad l) ((pad l).length / 64) := by
      rw [HPN.out, ← HSE.out, ← hs_pad l]
      exact fold_fins HDR.out N (Nat.le_refl N)
    have hi := hI.out
    rw [hfold] at hi
    have HJ := hid hi
    have HK := hid hK
    clear hI hi hfold hK
    go_wp2_with (first
      | ((with_reducible show wpList _ _ _ (⟨_, .load 92 _, _, _, _, _⟩ :: _) _ _); refine wpL_all rfl _ _ rfl b3 rfl _ (hs (pad l) ((pad l).length / 64)) 8 _ HJ.out.2.1 rfl rfl info8w ?_)
      | fail)
    refine (digest_any _ _).mono ?_
    rintro e W1 ⟨rfl, hf1⟩
    have HF1 := hid hf1
    have HB1 := hid (HJ.out.1.fr hf1 id)
    clear hf1
    go_wp2_with (first
      | ((with_reducible show wpList _ _ _ (⟨_, .store 78 _ _, _, _, _, _⟩ :: _) _ _); refine wpL_whole rfl _ _ _ rfl b2 (dig l) 32 rfl rfl _ _ HB1.out info32b ?_; intro W2 HB2 HF2 HS2)
      | fail)
    have hlt := HLT.out; have hlx := HBX.out.2
    have hfr : Fr (fun k => k = b2) W W2 := (Fr.no HF1.out).trans' HF2.out
    have hK2 := (hfr.block D (Array.getElem?_eq_some_iff.1 HK.out).1 (fun e => by omega)).trans HK.out
    refine marks_ret rfl hK2 rfl _ rfl HB2.out rfl rfl (by simpa using info32b) ?_
    intro w' hf'
    exact ⟨rfl, (HJ.out.2.2.2.2.1.trans hfr fun k e => .inr (by have : k = b2 := e; omega)).trans hf' fun k e => .inr (by have : k = D := e; omega)⟩
end Go.Proofs.Ytakmeipmngeilaa.SH
