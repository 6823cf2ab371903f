/-
  Part 39 of the proof: StId, StPd, StRe, StRq, StRs, StRg.
-/
import Derived.Test.YtflfmkokfbgclaaGreatRc33
import Derived.Test.YtflfmkokfbgclaaGreatRc38
import Derived.Test.YtflfmkokfbgclaaGreatRc37
import Derived.Test.YtflfmkokfbgclaaGreatRc23
set_option linter.unusedSimpArgs false
set_option linter.unusedVariables false
namespace Go.Proofs.YtflfmkokfbgclaaGreat.ST
set_option maxRecDepth 100000
open Go.RowKit K L

structure Idle (u : U) : Prop where
  up : u.up = true
  left : u.left = -1
end Go.Proofs.YtflfmkokfbgclaaGreat.ST

namespace Go.Proofs.YtflfmkokfbgclaaGreat.ST
set_option maxRecDepth 100000
open Go.RowKit K L

/-- A store whose disk's power is not armed, and how far its log is written. -/
structure PI (s : Sd) (m : Nat) : Prop where
  idle : Idle s.u
  p : s.u.P = []
  br : s.br = false
  len : s.u.L.length = 600
  fit : s.g.first + s.g.count ≤ 600
  cnt : s.g.count = 301
  nx : 48 * s.g.next ≤ 48 + m
def p0 : Int × U × Option Sd := openS (U.new 600)
end Go.Proofs.YtflfmkokfbgclaaGreat.ST

namespace Go.Proofs.YtflfmkokfbgclaaGreat.ST
set_option maxRecDepth 100000
open Go.RowKit K L

theorem recS_all {l : List Ch} {j : Nat} (h : (l.take j).all Ch.may = true) (hj : j ≤ 32) : (recS (l.take j)).length ≤ 14976 := by
  have := recS_le _ h
  simp only [List.length_take] at this
  omega
set_option maxHeartbeats 16000000 in
theorem rencode_any (v : Value) (l : List Ch) (E : Nat → Prop) (w : World) (h : ChIn w E v l) (hs : ∀ x ∈ l, x.key.size ≤ 140737488351232 ∧ x.value.size ≤ 140737488351232) (hl : l.length ≤ 140737488351232) :
    Calls Tryz.prog 9 #[v] w fun e w' => e = .returned (.tuple #[L.str (encS l).2, .int .i64 (encS l).1]) ∧ Fr No w w' := by
  obtain ⟨a, c, rfl, h⟩ := h
  have H := hid h; have HS := hid hs
  have hli : (l.length : Int) ≤ 140737488351232 := by omega
  obtain ⟨R, hR⟩ : ∃ R, encS l = R := ⟨_, rfl⟩
  have HR := hid hR
  rw [hR]
  clear h hs hl hR
  by_cases h32 : 32 < l.length
  · have HRF : Hid (R = (2, [])) := hid (by rw [← HR.out]; unfold encS; rw [if_pos h32])
    have h32i : (32 : Int) < l.length := by omega
    clear h32
    go_enter Tryz.func9, Tryz.ntmps9
    go_wp2_with fail
    go_ret2
    rw [HRF.out]
    exact ⟨rfl, Fr.refl _ _⟩
  · have HRF : Hid ((if l.all Ch.may then (if 2000 < (recS l).length then (2, []) else (0, recS l)) else (40, [])) = R) := hid (by rw [← HR.out]; unfold encS; rw [if_neg h32])
    have h32i : ¬ (32 : Int) < l.length := by omega
    have H32 := hid h32
    clear h32
    go_enter Tryz.func9, Tryz.ntmps9
    go_wp2_with fail
    go_loopw [4, 5] (fun sv iv wr => ∃ (j : Nat) (t : S), j ≤ l.length ∧ sv = .string t ∧ iv = .int .i64 (j : Int) ∧ Hid (t.data.toList = recS (l.take j)) ∧ Hid ((l.take j).all Ch.may = true) ∧ Hid (Fr No w wr)) (fun _ iv _ => l.length - (intOf iv).toNat)
    case atStart => exact ⟨0, ⟨#[]⟩, Nat.zero_le _, rfl, rfl, hid rfl, hid rfl, hid (Fr.refl _ _)⟩
    case round =>
      obtain ⟨j, t, hj, rfl, rfl, HT, HA, HF⟩ := hrel
      have htz : t.size = (recS (l.take j)).length := by rw [← HT.out]; simp
      have htl := recS_all HA.out (by have := H32.out; omega)
      have hti : (t.size : Int) ≤ 14976 := by omega
      have HTZ := hid htz
      clear htz htl
      by_cases hlt : j < l.length
      · have hlt' : (j : Int) < (l.length : Int) := by omega
        obtain ⟨x, hx⟩ : ∃ x, l[j]? = some x := ⟨_, List.getElem?_eq_getElem hlt⟩
        have htk : l.take (j + 1) = l.take j ++ [x] := by rw [List.take_add_one, hx]; rfl
        have HTK := hid htk
        have HXS := hid (HS.out x (List.mem_of_getElem? hx))
        have HXM := hid (List.mem_of_getElem? hx)
        obtain ⟨g, q, rfl, HGR⟩ : ∃ g q, a = some ⟨g, q, none⟩ ∧ Hid (wr.rangeAt g (q + j * 3) [.string x.key, .string x.value, .bool x.gone]) := by
          rcases H.out with e | ⟨g, q, e, he, _, hr⟩
          · rw [e] at hlt; simp at hlt
          · exact ⟨g, q, e, hid (range_ch (HF.out.range hr id) hx)⟩
        clear hx htk hlt hj
        go_wp2_with (first
          | ((with_reducible show wpList _ _ _ (⟨_, .load 55 _, _, _, _, _⟩ :: _) _ _); refine wpL_load rfl _ _ rfl g (q + j * 3) rfl [.string x.key, .string x.value, .bool x.gone] _ HGR.out rfl rfl infoCh ?_)
          | fail)
        refine (rmay_any x wr (by have := HXS.out; omega) (by have := HXS.out; omega)).mono ?_
        rintro e w2 ⟨rfl, f2⟩
        have HF2 := hid f2
        have HGR2 := hid (f2.range HGR.out id)
        clear f2
        cases hm : x.may with
        | false =>
          have HRL : Hid (R = (40, [])) := hid (by
            have hn : l.all Ch.may = false := by
              cases hq : l.all Ch.may with
              | false => rfl
              | true => have := List.all_eq_true.1 hq x HXM.out; rw [hm] at this; cases this
            rw [← HRF.out, hn]
            rfl)
          clear hm
          go_wp2_with fail
          go_ret2
          rw [HRL.out]
          exact ⟨rfl, HF.out.trans' HF2.out⟩
        | true =>
          have HM := hid hm
          clear hm
          go_wp2_with (first
            | ((with_reducible show wpList _ _ _ (⟨_, .load 55 _, _, _, _, _⟩ :: _) _ _); refine wpL_load rfl _ _ rfl g (q + j * 3) rfl [.string x.key, .string x.value, .bool x.gone] _ HGR2.out rfl rfl infoCh ?_)
            | fail)
          refine (rbytes_any x w2 HM.out).mono ?_
          rintro e w3 ⟨rfl, f3⟩
          have HF3 := hid ((HF.out.trans' HF2.out).trans' f3)
          obtain ⟨y, hy⟩ : ∃ y : S, ByteArray.mk x.bytes.toArray = y := ⟨_, rfl⟩
          have hyz : y.size = x.bytes.length := by rw [← hy]; show x.bytes.toArray.size = _; simp
          have HYD : Hid (y.data.toList = x.bytes) := hid (by rw [← hy])
          have hyi : (y.size : Int) ≤ 468 := by have h1 := bytes_length x; have h2 := may_sizes HM.out; omega
          rw [show L.str x.bytes = Value.string y from congrArg Value.string hy]
          clear f3 hy hyz
          go_wp2_with fail
          refine ⟨⟨j + 1, t ++ y, by omega, rfl, by go_num, hid (by rw [HTK.out, recS_snoc, ← HT.out, ← HYD.out]; simp), hid (by rw [HTK.out, List.all_append, HA.out]; simp [HM.out]), HF3⟩, by simp only [intOf]; omega⟩
      · have hge : ¬ (j : Int) < (l.length : Int) := by omega
        have hjx : l.take j = l := List.take_of_length_le (by omega)
        have HJX := hid hjx
        clear hlt hj hjx
        have HST : Hid (L.str (recS l) = .string t) := hid (by
          have := HT.out
          rw [HJX.out] at this
          unfold L.str
          congr 1
          apply ByteArray.ext
          apply Array.toList_inj.1
          rw [this])
        by_cases h2 : 2000 < t.size
        · have h2i : (2000 : Int) < t.size := by omega
          have HRL : Hid (R = (2, [])) := hid (by
            rw [← HRF.out]
            have h1 := HA.out; have h3 := HTZ.out
            rw [HJX.out] at h1 h3
            rw [if_pos h1, if_pos (by omega)])
          go_wp2_with fail
          go_ret2
          rw [HRL.out]
          exact ⟨rfl, HF.out⟩
        · have h2i : ¬ (2000 : Int) < t.size := by omega
          have HRL : Hid (R = (0, recS l)) := hid (by
            rw [← HRF.out]
            have h1 := HA.out; have h3 := HTZ.out
            rw [HJX.out] at h1 h3
            rw [if_pos h1, if_neg (by omega)])
          go_wp2_with fail
          go_ret2
          rw [HRL.out, HST.out]
          exact ⟨rfl, HF.out⟩
end Go.Proofs.YtflfmkokfbgclaaGreat.ST

namespace Go.Proofs.YtflfmkokfbgclaaGreat.ST
set_option maxRecDepth 100000
open Go.RowKit K L

theorem ext_toList (s : S) (a b : Nat) : (s.extract a b).data.toList = (s.data.toList.drop a).take (b - a) := by
  rw [ByteArray.data_extract]
  simp [List.extract_eq_take_drop]
theorem size_toList (s : S) : s.data.toList.length = s.size := by simp
theorem s_ext {a b : S} (h : a.data.toList = b.data.toList) : a = b := ByteArray.ext (Array.toList_inj.1 h)
theorem ofNat_eq {a : UInt8} {n : Nat} (h : n % 256 = a.toNat) : UInt8.ofNat n = a := by
  apply UInt8.toNat_inj.1
  rw [ofNat_toNat, h]
theorem four {l : List UInt8} (h : 4 ≤ l.length) : ∃ a b c d t, l = a :: b :: c :: d :: t := by
  match l, h with
  | a :: b :: c :: d :: t, _ => exact ⟨a, b, c, d, t, rfl⟩
theorem cut_inv {s : S} {x : Ch} {r : S} (h : cutS s = some (x, r)) : s.data.toList = x.bytes ++ r.data.toList := by
  have hsz := size_toList s
  unfold cutS at h
  split at h
  · cases h
  · rename_i hn
    simp only [not_or, Nat.not_lt] at hn
    obtain ⟨h4, h01, hlen⟩ := hn
    simp only at h
    split at h
    · simp only [Option.some.injEq, Prod.mk.injEq] at h
      obtain ⟨h1, h2⟩ := h
      obtain ⟨a, b, c, d, t, hl⟩ := four (l := s.data.toList) (by omega)
      have b0 : byt s 0 = a.toNat := by simp [byt, hl]
      have b1 : byt s 1 = b.toNat := by simp [byt, hl]
      have b2 : byt s 2 = c.toNat := by simp [byt, hl]
      have b3 : byt s 3 = d.toNat := by simp [byt, hl]
      rw [b1, b2, b3] at hlen h1 h2
      rw [b0] at h01 h1
      have htl : t.length + 4 = s.size := by rw [← hsz, hl]; simp
      have ek : (s.extract 4 (4 + b.toNat)).data.toList = t.take b.toNat := by
        rw [ext_toList, hl]
        simp
      have ev : (s.extract (4 + b.toNat) (4 + b.toNat + c.toNat + 256 * d.toNat)).data.toList = (t.drop b.toNat).take (c.toNat + 256 * d.toNat) := by
        rw [ext_toList, hl, show 4 + b.toNat + c.toNat + 256 * d.toNat - (4 + b.toNat) = c.toNat + 256 * d.toNat by omega, show 4 + b.toNat = b.toNat + 4 by omega]
        simp [List.drop_succ_cons]
      have er : (s.extract (4 + b.toNat + c.toNat + 256 * d.toNat) s.size).data.toList = t.drop (b.toNat + (c.toNat + 256 * d.toNat)) := by
        rw [ext_toList, hl, show 4 + b.toNat + c.toNat + 256 * d.toNat = b.toNat + (c.toNat + 256 * d.toNat) + 4 by omega]
        simp only [List.drop_succ_cons]
        rw [List.take_of_length_le (by simp; omega)]
      have hks : (s.extract 4 (4 + b.toNat)).size = b.toNat := by rw [← size_toList, ek, List.length_take]; omega
      have hvs : (s.extract (4 + b.toNat) (4 + b.toNat + c.toNat + 256 * d.toNat)).size = c.toNat + 256 * d.toNat := by rw [← size_toList, ev, List.length_take, List.length_drop]; omega
      rw [← h1, ← h2, hl]
      unfold Ch.bytes Ch.head
      simp only
      rw [ek, ev, er, hks, hvs]
      have ha : (if decide (a.toNat = 1) = true then (1 : UInt8) else 0) = a := by
        apply UInt8.toNat_inj.1
        by_cases h1 : a.toNat = 1
        · simp [h1]
        · have : a.toNat = 0 := by omega
          simp [this]
      have hb : UInt8.ofNat b.toNat = b := ofNat_eq (Nat.mod_eq_of_lt b.toNat_lt)
      have hc : UInt8.ofNat (c.toNat + 256 * d.toNat) = c := ofNat_eq (by have := c.toNat_lt; omega)
      have hd : UInt8.ofNat ((c.toNat + 256 * d.toNat) / 256) = d := ofNat_eq (by have := c.toNat_lt; have := d.toNat_lt; omega)
      rw [ha, hb, hc, hd]
      simp only [List.cons_append, List.nil_append, List.cons.injEq, true_and]
      rw [List.append_assoc, ← List.drop_drop, List.take_append_drop, List.take_append_drop]
    · cases h
theorem cut_bytes {s : S} {x : Ch} {r : S} (hm : x.may = true) (h : s.data.toList = x.bytes ++ r.data.toList) : cutS s = some (x, r) := by
  have hms := may_sizes hm
  have hsz := size_toList s
  have hk := size_toList x.key
  have hv := size_toList x.value
  have hr := size_toList r
  have hl : s.data.toList = (if x.gone then 1 else 0) :: UInt8.ofNat x.key.size :: UInt8.ofNat x.value.size :: UInt8.ofNat (x.value.size / 256) :: (x.key.data.toList ++ x.value.data.toList ++ r.data.toList) := by
    rw [h]; simp [Ch.bytes, Ch.head]
  have b0 : byt s 0 = (if x.gone then 1 else 0) := by unfold byt; rw [hl]; cases x.gone <;> rfl
  have b1 : byt s 1 = x.key.size := by
    have : byt s 1 = (UInt8.ofNat x.key.size).toNat := by unfold byt; rw [hl]; rfl
    rw [this, ofNat_toNat]; omega
  have b2 : byt s 2 = x.value.size % 256 := by
    have : byt s 2 = (UInt8.ofNat x.value.size).toNat := by unfold byt; rw [hl]; rfl
    rw [this, ofNat_toNat]
  have b3 : byt s 3 = x.value.size / 256 := by
    have : byt s 3 = (UInt8.ofNat (x.value.size / 256)).toNat := by unfold byt; rw [hl]; rfl
    rw [this, ofNat_toNat]; omega
  have hlen : s.size = 4 + x.key.size + x.value.size + r.size := by
    rw [← hsz, hl]; simp only [List.length_cons, List.length_append, hk, hv, hr]; omega
  have hvv : x.key.size + x.value.size % 256 + 256 * (x.value.size / 256) = x.key.size + x.value.size := by omega
  unfold cutS
  rw [b0, b1, b2, b3]
  rw [if_neg (by cases x.gone <;> simp <;> omega)]
  simp only
  have e1 : 4 + x.key.size + x.value.size % 256 + 256 * (x.value.size / 256) = 4 + x.key.size + x.value.size := by omega
  rw [e1]
  have ek : s.extract 4 (4 + x.key.size) = x.key := s_ext (by
    rw [ext_toList, hl, show 4 + x.key.size - 4 = x.key.size by omega]
    simp only [List.drop_succ_cons, List.drop_zero, List.append_assoc]
    rw [← hk, List.take_left])
  have ev : s.extract (4 + x.key.size) (4 + x.key.size + x.value.size) = x.value := s_ext (by
    rw [ext_toList, hl, show 4 + x.key.size + x.value.size - (4 + x.key.size) = x.value.size by omega, show 4 + x.key.size = x.key.size + 4 by omega]
    simp only [List.drop_succ_cons, List.append_assoc]
    rw [← hk, List.drop_left, ← hv, List.take_left])
  have er : s.extract (4 + x.key.size + x.value.size) s.size = r := s_ext (by
    rw [ext_toList, hl, show 4 + x.key.size + x.value.size = (x.key.size + x.value.size) + 4 by omega]
    simp only [List.drop_succ_cons]
    have hd : (x.key.data.toList ++ x.value.data.toList ++ r.data.toList).drop (x.key.size + x.value.size) = r.data.toList := by
      rw [show x.key.size + x.value.size = (x.key.data.toList ++ x.value.data.toList).length by rw [List.length_append, hk, hv], List.drop_left]
    rw [hd, List.take_of_length_le (by omega)])
  have eg : decide ((if x.gone = true then 1 else 0) = 1) = x.gone := by cases x.gone <;> rfl
  rw [ek, ev, er, eg]
  rw [if_pos hm]
theorem decG_rec : ∀ (xs acc : List Ch) (n : Nat) (s : S), s.data.toList = recS xs → s.size < n → xs.all Ch.may = true → acc.length + xs.length ≤ 32 → decG n s acc = some (acc ++ xs)
  | xs, acc, 0, s, _, hn, _, _ => by omega
  | [], acc, n + 1, s, h, hn, hm, hl => by
    have h0 : s.size = 0 := by rw [← size_toList, h]; rfl
    unfold decG
    rw [if_pos h0]
    simp
  | x :: r, acc, n + 1, s, h, hn, hm, hl => by
    simp only [List.all_cons, Bool.and_eq_true] at hm
    have hb : s.data.toList = x.bytes ++ (⟨(recS r).toArray⟩ : S).data.toList := by rw [h]; rfl
    have hc := cut_bytes hm.1 hb
    have hs : s.size ≠ 0 := by rw [← size_toList, hb, List.length_append, bytes_length]; omega
    have hlt := cut_less hc
    unfold decG
    rw [if_neg hs, hc]
    simp only [List.length_cons] at hl ⊢
    rw [if_neg (by omega), decG_rec r (acc ++ [x]) n _ rfl (by omega) hm.2 (by simp; omega)]
    simp
theorem decG_inv : ∀ (n : Nat) (s : S) (acc xs : List Ch), decG n s acc = some xs → s.size < n → ∃ ys, xs = acc ++ ys ∧ recS ys = s.data.toList
  | 0, s, _, _, _, hn => by omega
  | n + 1, s, acc, xs, h, hn => by
    unfold decG at h
    by_cases h0 : s.size = 0
    · rw [if_pos h0] at h
      simp only [Option.some.injEq] at h
      refine ⟨[], by simp [h], ?_⟩
      have : s.data.toList = [] := List.eq_nil_of_length_eq_zero (by rw [size_toList, h0])
      rw [this]; rfl
    · rw [if_neg h0] at h
      cases hc : cutS s with
      | none => rw [hc] at h; cases h
      | some p =>
        obtain ⟨c, r⟩ := p
        rw [hc] at h
        simp only at h
        split at h
        · cases h
        · have hlt := cut_less hc
          obtain ⟨ys, h1, h2⟩ := decG_inv n r _ xs h (by omega)
          refine ⟨c :: ys, by rw [h1]; simp, ?_⟩
          rw [cut_inv hc, ← h2]
          rfl
/-- What was encoded is decoded. -/
theorem dec_enc {xs : List Ch} (h : (encS xs).1 = 0) : decS ⟨(encS xs).2.toArray⟩ = some xs := by
  obtain ⟨h1, h2, h3, h4⟩ := encS_ok h
  rw [h3]
  unfold decS
  have hs : (⟨(recS xs).toArray⟩ : S).size = (recS xs).length := by show (recS xs).toArray.size = _; simp
  rw [if_neg (by rw [hs]; omega), decG_rec xs [] _ _ rfl (Nat.lt_succ_self _) h1 (by simpa using h2)]
  rfl
/-- What was decoded is encoded as it was. -/
theorem enc_dec {s : S} {xs : List Ch} (h : decS s = some xs) : encS xs = (0, s.data.toList) := by
  obtain ⟨h1, h2⟩ := decS_may h
  unfold decS at h
  split at h
  · cases h
  · rename_i h3
    obtain ⟨ys, h4, h5⟩ := decG_inv _ _ _ _ h (Nat.lt_succ_self _)
    simp only [List.nil_append] at h4
    subst h4
    unfold encS
    rw [if_neg (by omega), if_pos (List.all_eq_true.2 h1), h5, if_neg (by rw [size_toList]; exact h3)]
end Go.Proofs.YtflfmkokfbgclaaGreat.ST

namespace Go.Proofs.YtflfmkokfbgclaaGreat.ST
set_option maxRecDepth 100000
open Go.RowKit K L

instance : DecidableEq Ch := fun a b => decidable_of_iff (a.key = b.key ∧ a.value = b.value ∧ a.gone = b.gone) (by cases a; cases b; simp)
theorem bytes_beq (x y : S) : (x.toList == y.toList) = decide (x = y) := by rw [← TR.eq_beq]
theorem ch_eq (x y : Ch) : decide (x = y) = (decide (x.key = y.key) && (decide (x.value = y.value) && (x.gone == y.gone))) := by
  rw [Bool.eq_iff_iff]
  cases x; cases y
  simp
theorem run_neqC (x y : Ch) (w : World) : (binOp .neq 55 x.agg y.agg).run Tryz.prog w = .ok (.bool (!decide (x = y))) w := by
  rw [run_neq_struct, run_equalIn_struct w 9999 _ _ _ (by kernel_rfl) (by kernel_rfl)]
  have s0 := fun (a b : S) (w : World) => run_equalIn_string (P := Tryz.prog) w 9998 9 a b Tryz.underlying9
  have b0 := fun (a b : Bool) (w : World) => run_equalIn_bool' (P := Tryz.prog) w 9998 4 a b Tryz.underlying4
  rw [ch_eq]
  obtain ⟨k, v, g⟩ := x
  obtain ⟨k', v', g'⟩ := y
  simp only
  rw [← bytes_beq, ← bytes_beq]
  unfold Program.fieldsOf
  rw [Tryz.underlying55]
  simp [Op.eqFields, part, isAgg, run_underlying Tryz.underlying9, run_underlying Tryz.underlying4, s0, b0]
  by_cases h1 : ByteArray.toList k = ByteArray.toList k' <;> by_cases h2 : ByteArray.toList v = ByteArray.toList v' <;> by_cases h3 : g = g' <;> simp [h1, h2, h3]
theorem exec_neqC {op : Oper} {a : Act} (o1 o2 : Operand) (t2 : TypeId) (ho : op.op = .binOp .neq 55 o1 o2 t2) (x y : Ch) (r : Bool) (hr : (!decide (x = y)) = r) (hx : a.eval o1 = x.agg) (hy : a.eval o2 = y.agg) (w : World) : (execOp a.eval op).run Tryz.prog w = .ok (.value (.bool r)) w := by
  have h := run_neqC x y w
  have hg : (eqGuard .neq 55 o1 o2 x.agg y.agg).run Tryz.prog w = .ok () w := by kernel_rfl
  unfold execOp
  simp only [ho, hx, hy, Sem.run_bind, hg, h, Result.andThen_ok, hr, Sem.run_pure]
set_option maxHeartbeats 16000000 in
theorem sameC_any (w : World) (v0 v1 : Value) (l m : List Ch) (E0 E1 : Nat → Prop) (h0 : ChIn w E0 v0 l) (h1 : ChIn w E1 v1 m) (hn : l.length ≤ 140737488351232) (hm : m.length ≤ 140737488351232) : Calls Tryz.prog 11 #[v0, v1] w fun e w' => e = .returned (.bool (decide (l = m))) ∧ Fr No w w' := by
  obtain ⟨a0, c0, rfl, h0⟩ := h0
  obtain ⟨a1, c1, rfl, h1⟩ := h1
  have H0 := hid h0; have H1 := hid h1
  have hni : (l.length : Int) ≤ 140737488351232 := by omega
  have hmi : (m.length : Int) ≤ 140737488351232 := by omega
  clear h0 h1 hn hm
  go_enter Tryz.func11, Tryz.ntmps11
  by_cases hll : l.length = m.length
  case neg =>
    have hli : ¬ ((l.length : Int) = (m.length : Int)) := by omega
    have hne : decide (l = m) = false := decide_eq_false (fun e => hll (by rw [e]))
    have HNE := hid hne
    clear hne
    go_wp2_with fail
    go_ret
    exact ⟨by rw [HNE.out]; rfl, Fr.refl _ _⟩
  have HLL := hid hll
  rw [← hll]
  clear hll hmi
  go_wp2_with fail
  go_loopw [5] (fun i wr => ∃ j : Nat, j ≤ l.length ∧ i = .int .i64 (j : Int) ∧ Hid (l.take j = m.take j) ∧ Hid (Fr No w wr)) (fun i _ => l.length - (intOf i).toNat)
  case atStart => exact ⟨0, by omega, rfl, hid rfl, hid (Fr.refl _ _)⟩
  case round =>
    obtain ⟨j, hj, rfl, HT, HF⟩ := hrel
    by_cases hlt : j < l.length
    · have hlt' : (j : Int) < (l.length : Int) := by omega
      obtain ⟨x, hx⟩ : ∃ x, l[j]? = some x := ⟨_, List.getElem?_eq_getElem hlt⟩
      obtain ⟨y, hy⟩ : ∃ y, m[j]? = some y := ⟨_, List.getElem?_eq_getElem (by rw [← HLL.out]; exact hlt)⟩
      obtain ⟨g0, o0, rfl, hr0⟩ : ∃ g0 o0, a0 = some ⟨g0, o0, none⟩ ∧ wr.rangeAt g0 o0 (chs l) := by
        rcases H0.out with e | ⟨g0, o0, e, _, _, hr⟩
        · rw [e] at hlt; simp at hlt
        · exact ⟨g0, o0, e, HF.out.range hr id⟩
      obtain ⟨g1, o1, rfl, hr1⟩ : ∃ g1 o1, a1 = some ⟨g1, o1, none⟩ ∧ wr.rangeAt g1 o1 (chs m) := by
        rcases H1.out with e | ⟨g1, o1, e, _, _, hr⟩
        · have h5 := HLL.out; rw [e] at h5; rw [h5] at hlt; simp at hlt
        · exact ⟨g1, o1, e, HF.out.range hr id⟩
      have k0 := range_ch hr0 hx
      have k1 := range_ch hr1 hy
      have hji : (j : Int) ≤ 140737488351232 := by omega
      have HX := hid hx; have HY := hid hy
      have hb0 : decide ((0 : Int) ≤ (j : Int) ∧ (j : Int) < (l.length : Int)) = true := decide_eq_true (by omega)
      have hb1 : decide ((j : Int) < (l.length : Int)) = true := decide_eq_true (by omega)
      clear hr0 hr1 hx hy
      go_wp2_with fail
      have hold : Facts.hold [(3, fun w' => w'.rangeAt g0 (o0 + j * 3) [.string x.key, .string x.value, .bool x.gone]), (7, fun w' => w'.rangeAt g1 (o1 + j * 3) [.string y.key, .string y.value, .bool y.gone])] wr.drew := Facts.cons_hold k0 (Facts.cons_hold k1 (Facts.nil_hold _))
      refine wpD_region hold (by kernel_rfl) 9 rfl ?_
      (refine wpD_plain 0 (v := ?_) rfl (by kernel_rfl) (by kernel_rfl) (by kernel_rfl) (fun _ _ _ h => h) (by rfl) ?_ (by assumption) ?_; rotate_left; (intro _w; go_simp; try with_reducible rfl); simp only [Act.put, List.setIfInBounds_toArray, List.set_cons_zero, List.set_cons_succ])
      (refine wpD_plain 1 (v := ?_) rfl (by kernel_rfl) (by kernel_rfl) (by kernel_rfl) (fun _ _ _ h => h) (by rfl) ?_ (by assumption) ?_; rotate_left; (intro _w; go_simp; try with_reducible rfl); simp only [Act.put, List.setIfInBounds_toArray, List.set_cons_zero, List.set_cons_succ])
      (refine wpD_plain 2 (v := ?_) rfl (by kernel_rfl) (by kernel_rfl) (by kernel_rfl) (fun _ _ _ h => h) (by rfl) ?_ (by assumption) ?_; rotate_left; (intro _w; go_simp; try with_reducible rfl); simp only [Act.put, List.setIfInBounds_toArray, List.set_cons_zero, List.set_cons_succ])
      (refine wpD_take 3 _ rfl (by kernel_rfl) (by kernel_rfl) (by kernel_rfl) (fun _ _ _ h => h) List.mem_cons_self (by rfl) (exec_load _ _ rfl g0 (o0 + j * 3) rfl _ _ rfl rfl infoCh) (by assumption) ?_; simp only [Act.put, List.setIfInBounds_toArray, List.set_cons_zero, List.set_cons_succ])
      (refine wpD_plain 4 (v := ?_) rfl (by kernel_rfl) (by kernel_rfl) (by kernel_rfl) (fun _ _ _ h => h) (by rfl) ?_ (by assumption) ?_; rotate_left; (intro _w; go_simp; try with_reducible rfl); simp only [Act.put, List.setIfInBounds_toArray, List.set_cons_zero, List.set_cons_succ])
      (refine wpD_plain 5 (v := ?_) rfl (by kernel_rfl) (by kernel_rfl) (by kernel_rfl) (fun _ _ _ h => h) (by rfl) ?_ (by assumption) ?_; rotate_left; (intro _w; go_simp; try with_reducible rfl); simp only [Act.put, List.setIfInBounds_toArray, List.set_cons_zero, List.set_cons_succ])
      (refine wpD_plain 6 (v := ?_) rfl (by kernel_rfl) (by kernel_rfl) (by kernel_rfl) (fun _ _ _ h => h) (by rfl) ?_ (by assumption) ?_; rotate_left; (intro _w; go_simp; try with_reducible rfl); simp only [Act.put, List.setIfInBounds_toArray, List.set_cons_zero, List.set_cons_succ])
      (refine wpD_take 7 _ rfl (by kernel_rfl) (by kernel_rfl) (by kernel_rfl) (fun _ _ _ h => h) (List.mem_cons_of_mem _ List.mem_cons_self) (by rfl) (exec_load _ _ rfl g1 (o1 + j * 3) rfl _ _ rfl rfl infoCh) (by assumption) ?_; simp only [Act.put, List.setIfInBounds_toArray, List.set_cons_zero, List.set_cons_succ])
      by_cases hxy : x = y
      · refine wpD_plain 8 (v := .bool false) rfl (by kernel_rfl) (by kernel_rfl) (by kernel_rfl) (fun _ _ _ h => h) (by rfl) (exec_neqC _ _ _ rfl x y false (by simp [hxy]) rfl rfl) hold ?_
        simp only [Act.put, List.setIfInBounds_toArray, List.set_cons_zero, List.set_cons_succ]
        refine wpD_done (by kernel_rfl) ?_ _
        have HXY := hid hxy
        clear hold hxy k0 k1 hb0 hb1
        go_wp2_with fail
        refine ⟨⟨j + 1, by omega, by go_num, hid ?_, hid HF.out.drew⟩, by simp only [intOf]; omega⟩
        rw [List.take_add_one, List.take_add_one, HT.out, HX.out, HY.out, HXY.out]
      · refine wpD_plain 8 (v := .bool true) rfl (by kernel_rfl) (by kernel_rfl) (by kernel_rfl) (fun _ _ _ h => h) (by rfl) (exec_neqC _ _ _ rfl x y true (by simp [hxy]) rfl rfl) hold ?_
        simp only [Act.put, List.setIfInBounds_toArray, List.set_cons_zero, List.set_cons_succ]
        refine wpD_done (by kernel_rfl) ?_ _
        have HNE : Hid (decide (l = m) = false) := hid (decide_eq_false (fun e => by
          have h1 := HX.out; have h2 := HY.out
          rw [e, h2] at h1
          exact hxy (by simpa using h1.symm)))
        clear hold hxy k0 k1 hb0 hb1
        go_wp2_with fail
        go_ret
        exact ⟨by rw [HNE.out]; rfl, HF.out.drew⟩
    · have hge : ¬ (j : Int) < (l.length : Int) := by omega
      have hje : j = l.length := by omega
      have heq : decide (l = m) = true := decide_eq_true (by
        have h := HT.out
        rw [hje, List.take_of_length_le (Nat.le_refl _), HLL.out, List.take_of_length_le (Nat.le_refl _)] at h
        exact h)
      have HEQ := hid heq
      clear heq hje hlt hj
      go_wp2_with fail
      go_ret
      exact ⟨by rw [HEQ.out]; rfl, HF.out⟩
end Go.Proofs.YtflfmkokfbgclaaGreat.ST

namespace Go.Proofs.YtflfmkokfbgclaaGreat.ST
set_option maxRecDepth 100000
open Go.RowKit K L

def chgG : Nat → S → List Ch → Option (List Ch)
  | 0, _, acc => some acc
  | n + 1, s, acc => if s.size = 0 then some acc else match cutS s with
    | none => none
    | some (c, r) => chgG n r (acc ++ [c])
def chgS (s : S) : Option (List Ch) := chgG (s.size + 1) s []
/-- The change that stands at place p. -/
def chAt (s : S) (p : Nat) : Ch := ⟨s.extract (p + 4) (p + 4 + byt s (p + 1)), s.extract (p + 4 + byt s (p + 1)) (p + 4 + byt s (p + 1) + (byt s (p + 2) + 256 * byt s (p + 3))), decide (byt s p = 1)⟩
theorem tail_size (s : S) (p : Nat) (h : p ≤ s.size) : (s.extract p s.size).size = s.size - p := by rw [← size_toList, ext_toList, List.length_take, List.length_drop, size_toList]; omega
theorem tail_list (s : S) (p : Nat) : (s.extract p s.size).data.toList = s.data.toList.drop p := by
  rw [ext_toList, List.take_of_length_le (by simp)]
theorem tail_byt (s : S) (p i : Nat) : byt (s.extract p s.size) i = byt s (p + i) := by
  unfold byt
  rw [tail_list, List.getD_eq_getElem?_getD, List.getD_eq_getElem?_getD, List.getElem?_drop]
theorem tail_ext (s : S) (p a b : Nat) : (s.extract p s.size).extract a b = s.extract (p + a) (min (p + b) s.size) := s_ext (by
  rw [ext_toList, tail_list, ext_toList, List.drop_drop]
  rcases Nat.le_total (p + b) s.size with h | h
  · rw [Nat.min_eq_left h, show p + b - (p + a) = b - a by omega]
  · rw [Nat.min_eq_right h, List.take_of_length_le (by rw [List.length_drop, size_toList]; omega), List.take_of_length_le (by rw [List.length_drop, size_toList]; exact Nat.le_refl _)])
theorem cut_at (s : S) (p : Nat) (hp : p ≤ s.size) : cutS (s.extract p s.size) =
    if s.size - p < 4 ∨ 1 < byt s p ∨ s.size - p < 4 + byt s (p + 1) + (byt s (p + 2) + 256 * byt s (p + 3)) then none
    else if (chAt s p).may then some (chAt s p, s.extract (p + 4 + byt s (p + 1) + (byt s (p + 2) + 256 * byt s (p + 3))) s.size) else none := by
  unfold cutS
  rw [tail_size s p hp, tail_byt, tail_byt, tail_byt, tail_byt, Nat.add_zero]
  rw [show 4 + byt s (p + 1) + byt s (p + 2) + 256 * byt s (p + 3) = 4 + byt s (p + 1) + (byt s (p + 2) + 256 * byt s (p + 3)) by omega]
  by_cases hc : s.size - p < 4 ∨ 1 < byt s p ∨ s.size - p < 4 + byt s (p + 1) + (byt s (p + 2) + 256 * byt s (p + 3))
  · rw [if_pos hc, if_pos hc]
  · rw [if_neg hc, if_neg hc]
    simp only [not_or, Nat.not_lt] at hc
    simp only [tail_ext]
    rw [Nat.min_eq_left (by omega), Nat.min_eq_left (by omega), Nat.min_eq_right (by omega), ← Nat.add_assoc, ← Nat.add_assoc, ← Nat.add_assoc p 4]
    rfl
theorem exec_idx {op : Oper} {a : Act} (x y : Operand) (ho : op.op = .index 9 x y) (s : S) (i : Nat) (hi : i < s.size) (n : Int) (hn : n = (i : Int)) (hx : a.eval x = .string s) (hy : a.eval y = .int .i64 n) (r : Nat) (hr : byt s i = r) (w : World) : (execOp a.eval op).run Tryz.prog w = .ok (.value (.int .u8 (r : Int))) w := by
  have h := index_str s i hi w
  subst hn hr
  simp [execOp, ho, hx, hy, h]
/-- What Changes tells. -/
def RChg (w : World) (r : Option (List Ch)) (e : Ending) (w' : World) : Prop := match r with
  | none => e = .returned (.tuple #[.slice none 0 0, .bool false]) ∧ Fr No w w'
  | some xs => ∃ a c, e = .returned (.tuple #[.slice a xs.length c, .bool true]) ∧ w'.ownsRow w.heap.size 55 3 (.slice a xs.length c) xs.length (chs xs) ∧ Fr No w w'
set_option maxHeartbeats 32000000 in
theorem rchanges_any (s : S) (w : World) (hs : s.size ≤ 1048576) : Calls Tryz.prog 30 #[.string s] w (RChg w (chgS s)) := by
  have hsi : (s.size : Int) ≤ 1048576 := by omega
  obtain ⟨r, hr⟩ : ∃ r, chgS s = r := ⟨_, rfl⟩
  have HR := hid hr
  have HSZ := hid hs
  rw [hr]
  obtain ⟨ic, hic, hzc, hsc, hbc⟩ := Go.info_parts infozCh
  have IC := hid hic; have ZC := hid hzc; have SC := hid hsc; have BC := hid hbc
  have H0 : Hid (s.extract 0 s.size = s) := hid (s_ext (by rw [tail_list]; rfl))
  clear hr hs hic hzc hsc hbc
  go_enter Tryz.func30, Tryz.ntmps30
  go_wp2_with fail
  go_loopw [4, 5] (fun rv pv wr => ∃ (p : Nat) (acc : List Ch) (ra : Option Addr) (rc n : Nat), pv = .int .i64 (p : Int) ∧ rv = .slice ra acc.length rc ∧ p ≤ s.size ∧ Hid (acc.length ≤ p) ∧ Hid (s.size - p < n) ∧ Hid (chgG n (s.extract p s.size) acc = r) ∧ Hid (wr.ownsRow w.heap.size 55 3 rv acc.length (chs acc)) ∧ Hid (Fr No w wr)) (fun _ pv _ => s.size - (intOf pv).toNat)
  case atStart => exact ⟨0, [], none, 0, s.size + 1, rfl, rfl, Nat.zero_le _, hid (Nat.le_refl _), hid (by omega), hid (by rw [H0.out]; exact HR.out), hid (World.ownsRow_nil _ _ _ _), hid (Fr.refl _ _)⟩
  case round =>
    obtain ⟨p, acc, ra, rc, n, rfl, rfl, hps, HAC, HN, HD, HO, HF⟩ := hrel
    have hpi : (p : Int) ≤ s.size := by omega
    obtain ⟨m, rfl⟩ : ∃ m, n = m + 1 := ⟨n - 1, by have := HN.out; omega⟩
    have htz := tail_size s p hps
    by_cases h0 : p = s.size
    · have h0i : ¬ (p : Int) < s.size := by omega
      have hrn : r = some acc := by rw [← HD.out]; unfold chgG; rw [if_pos (by rw [htz]; omega)]
      have HRN := hid hrn
      clear hrn h0 htz hps
      go_wp2_with fail
      go_ret2
      rw [HRN.out]
      exact ⟨_, _, rfl, HO.out, HF.out⟩
    · have h0i : (p : Int) < s.size := by omega
      have HD2 : Hid ((match (if s.size - p < 4 ∨ 1 < byt s p ∨ s.size - p < 4 + byt s (p + 1) + (byt s (p + 2) + 256 * byt s (p + 3)) then none
    else if (chAt s p).may then some (chAt s p, s.extract (p + 4 + byt s (p + 1) + (byt s (p + 2) + 256 * byt s (p + 3))) s.size) else none) with
        | none => none
        | some (c, q) => chgG m q (acc ++ [c])) = r) := hid (by have h := HD.out; unfold chgG at h; rw [if_neg (by rw [htz]; omega), cut_at s p hps] at h; exact h)
      clear htz
      have HPS := hid hps
      by_cases h4 : s.size - p < 4
      · have h4i : (s.size : Int) - p < 4 := by omega
        have hrn : r = none := by rw [← HD2.out, if_pos (.inl h4)]
        have HRN := hid hrn
        clear hrn h0 h4 hps
        go_wp2_with fail
        go_ret2
        rw [HRN.out]
        exact ⟨rfl, HF.out⟩
      · have h4i : ¬ (s.size : Int) - p < 4 := by omega
        have hb0 := byt_lt s p; have hb1 := byt_lt s (p + 1); have hb2 := byt_lt s (p + 2); have hb3 := byt_lt s (p + 3)
        have HCA : Hid (chAt s p = ⟨s.extract (p + 4) (p + 4 + byt s (p + 1)), s.extract (p + 4 + byt s (p + 1)) (p + 4 + byt s (p + 1) + (byt s (p + 2) + 256 * byt s (p + 3))), decide (byt s p = 1)⟩) := hid rfl
        have H4 := hid h4
        obtain ⟨b0, e0⟩ : ∃ b, byt s p = b := ⟨_, rfl⟩
        obtain ⟨b1, e1⟩ : ∃ b, byt s (p + 1) = b := ⟨_, rfl⟩
        obtain ⟨b2, e2⟩ : ∃ b, byt s (p + 2) = b := ⟨_, rfl⟩
        obtain ⟨b3, e3⟩ : ∃ b, byt s (p + 3) = b := ⟨_, rfl⟩
        rw [e0] at hb0; rw [e1] at hb1; rw [e2] at hb2; rw [e3] at hb3
        rw [e0, e1, e2, e3] at HD2 HCA
        have E0 := hid e0; have E1 := hid e1; have E2 := hid e2; have E3 := hid e3
        obtain ⟨vv, hvv⟩ : ∃ v, b2 + 256 * b3 = v := ⟨_, rfl⟩
        rw [hvv] at HD2 HCA
        have HVV := hid hvv
        have hvb : vv ≤ 65535 := by omega
        have B0 := hid hb0; have B1 := hid hb1; have B2 := hid hb2; have B3 := hid hb3
        have hb1i : (b1 : Int) ≤ 255 := by omega
        have hvi : (vv : Int) ≤ 65535 := by omega
        clear e0 e1 e2 e3 hvv hb0 hb1 hb2 hb3 hvb h0 h4
        go_wp2_with (first
          | ((with_reducible show wpList _ _ _ (⟨_, .index 9 _ _, _, _, _, _⟩ :: _) _ _); refine wpL_valZ rfl (.int .u8 (b1 : Int)) (exec_idx _ _ rfl s (p + 1) (by have := H4.out; have := HPS.out; omega) _ (by push_cast; rfl) rfl rfl b1 E1.out _) ?_)
          | fail)
        obtain ⟨m3, hm3⟩ : ∃ v, 256 * b3 = v := ⟨_, rfl⟩
        have HM3 := hid hm3
        have hm3b : m3 ≤ 65280 := by have := B3.out; omega
        have W2 : Hid (IntKind.i64.wrap ((p : Int) + 2) = (p : Int) + 2) := hid (L.wrap_small (by omega) (by omega))
        have W3 : Hid (IntKind.i64.wrap ((p : Int) + 3) = (p : Int) + 3) := hid (L.wrap_small (by omega) (by omega))
        have WB2 : Hid (IntKind.i64.wrap (b2 : Int) = (b2 : Int)) := hid (L.wrap_small (by omega) (by have := B2.out; omega))
        have WB3 : Hid (IntKind.i64.wrap (b3 : Int) = (b3 : Int)) := hid (L.wrap_small (by omega) (by have := B3.out; omega))
        have W8 : Hid (IntKind.i64.wrap (256 * (b3 : Int)) = (m3 : Int)) := hid ((L.wrap_small (by omega) (by have := B3.out; omega)).trans (by omega))
        have W9 : Hid (IntKind.i64.wrap ((b2 : Int) + (m3 : Int)) = (vv : Int)) := hid ((L.wrap_small (by omega) (by have := B2.out; omega)).trans (by have := HVV.out; omega))
        clear hm3 hm3b
        have hold : Facts.hold [] wr.drew := Facts.nil_hold _
        refine wpD_region hold (by kernel_rfl) 13 rfl ?_
        (refine wpD_plain 0 (v := ?_) rfl (by kernel_rfl) (by kernel_rfl) (by kernel_rfl) (fun _ _ _ h => h) (by rfl) ?_ (by assumption) ?_; rotate_left; (intro _w; go_simp; try with_reducible rfl); simp only [Act.put, List.setIfInBounds_toArray, List.set_cons_zero, List.set_cons_succ])
        (refine wpD_plain 1 (v := ?_) rfl (by kernel_rfl) (by kernel_rfl) (by kernel_rfl) (fun _ _ _ h => h) (by rfl) ?_ (by assumption) ?_; rotate_left; (intro _w; go_simp; try with_reducible rfl); simp only [Act.put, List.setIfInBounds_toArray, List.set_cons_zero, List.set_cons_succ])
        (refine wpD_plain 2 (v := (.int .i64 ((p : Int) + 2))) rfl (by kernel_rfl) (by kernel_rfl) (by kernel_rfl) (fun _ _ _ h => h) (by rfl) ?_ (by assumption) ?_; (intro _w; go_simp; exact W2.out); simp only [Act.put, List.setIfInBounds_toArray, List.set_cons_zero, List.set_cons_succ])
        refine wpD_plain 3 (v := .int .u8 (b2 : Int)) rfl (by kernel_rfl) (by kernel_rfl) (by kernel_rfl) (fun _ _ _ h => h) (by rfl) (exec_idx _ _ rfl s (p + 2) (by have := H4.out; have := HPS.out; omega) _ (by push_cast; rfl) rfl rfl b2 E2.out) hold ?_
        simp only [Act.put, List.setIfInBounds_toArray, List.set_cons_zero, List.set_cons_succ]
        (refine wpD_plain 4 (v := (.int .i64 (b2 : Int))) rfl (by kernel_rfl) (by kernel_rfl) (by kernel_rfl) (fun _ _ _ h => h) (by rfl) ?_ (by assumption) ?_; (intro _w; go_simp; (first | exact WB2.out | done)); simp only [Act.put, List.setIfInBounds_toArray, List.set_cons_zero, List.set_cons_succ])
        (refine wpD_plain 5 (v := ?_) rfl (by kernel_rfl) (by kernel_rfl) (by kernel_rfl) (fun _ _ _ h => h) (by rfl) ?_ (by assumption) ?_; rotate_left; (intro _w; go_simp; try with_reducible rfl); simp only [Act.put, List.setIfInBounds_toArray, List.set_cons_zero, List.set_cons_succ])
        (refine wpD_plain 6 (v := ?_) rfl (by kernel_rfl) (by kernel_rfl) (by kernel_rfl) (fun _ _ _ h => h) (by rfl) ?_ (by assumption) ?_; rotate_left; (intro _w; go_simp; try with_reducible rfl); simp only [Act.put, List.setIfInBounds_toArray, List.set_cons_zero, List.set_cons_succ])
        (refine wpD_plain 7 (v := (.int .i64 ((p : Int) + 3))) rfl (by kernel_rfl) (by kernel_rfl) (by kernel_rfl) (fun _ _ _ h => h) (by rfl) ?_ (by assumption) ?_; (intro _w; go_simp; exact W3.out); simp only [Act.put, List.setIfInBounds_toArray, List.set_cons_zero, List.set_cons_succ])
        refine wpD_plain 8 (v := .int .u8 (b3 : Int)) rfl (by kernel_rfl) (by kernel_rfl) (by kernel_rfl) (fun _ _ _ h => h) (by rfl) (exec_idx _ _ rfl s (p + 3) (by have := H4.out; have := HPS.out; omega) _ (by push_cast; rfl) rfl rfl b3 E3.out) hold ?_
        simp only [Act.put, List.setIfInBounds_toArray, List.set_cons_zero, List.set_cons_succ]
        (refine wpD_plain 9 (v := (.int .i64 (b3 : Int))) rfl (by kernel_rfl) (by kernel_rfl) (by kernel_rfl) (fun _ _ _ h => h) (by rfl) ?_ (by assumption) ?_; (intro _w; go_simp; (first | exact WB3.out | done)); simp only [Act.put, List.setIfInBounds_toArray, List.set_cons_zero, List.set_cons_succ])
        (refine wpD_plain 10 (v := (.int .i64 (m3 : Int))) rfl (by kernel_rfl) (by kernel_rfl) (by kernel_rfl) (fun _ _ _ h => h) (by rfl) ?_ (by assumption) ?_; (intro _w; go_simp; exact W8.out); simp only [Act.put, List.setIfInBounds_toArray, List.set_cons_zero, List.set_cons_succ])
        (refine wpD_plain 11 (v := (.int .i64 (vv : Int))) rfl (by kernel_rfl) (by kernel_rfl) (by kernel_rfl) (fun _ _ _ h => h) (by rfl) ?_ (by assumption) ?_; (intro _w; go_simp; (first | exact W9.out | done)); simp only [Act.put, List.setIfInBounds_toArray, List.set_cons_zero, List.set_cons_succ])
        (refine wpD_plain 12 (v := ?_) rfl (by kernel_rfl) (by kernel_rfl) (by kernel_rfl) (fun _ _ _ h => h) (by rfl) ?_ (by assumption) ?_; rotate_left; (intro _w; go_simp; try with_reducible rfl); simp only [Act.put, List.setIfInBounds_toArray, List.set_cons_zero, List.set_cons_succ])
        refine wpD_done (by kernel_rfl) ?_ _
        clear hold
        by_cases h5 : s.size - p < 4 + b1 + vv
        · have h5i : (s.size : Int) - p < 4 + (b1 : Int) + (vv : Int) := by have := HPS.out; omega
          have hrn : r = none := by rw [← HD2.out, if_pos (.inr (.inr h5))]
          have HRN := hid hrn
          clear hrn h5 hps
          go_wp2_with fail
          go_ret2
          rw [HRN.out]
          exact ⟨rfl, HF.out.drew⟩
        · have h5i : ¬ (s.size : Int) - p < 4 + (b1 : Int) + (vv : Int) := by have := HPS.out; omega
          have H5 := hid h5
          by_cases h6 : 1 < b0
          · have h6i : (1 : Int) < (b0 : Int) := by omega
            have hrn : r = none := by rw [← HD2.out, if_pos (.inr (.inl h6))]
            have HRN := hid hrn
            clear hrn h5 h6 hps
            go_wp2_with (first
              | ((with_reducible show wpList _ _ _ (⟨_, .index 9 _ _, _, _, _, _⟩ :: _) _ _); refine wpL_valZ rfl (.int .u8 (b0 : Int)) (exec_idx _ _ rfl s p (by have := H4.out; have := HPS.out; omega) _ rfl rfl rfl b0 E0.out _) ?_)
              | fail)
            go_ret2
            rw [HRN.out]
            exact ⟨rfl, HF.out.drew⟩
          · have h6i : ¬ (1 : Int) < (b0 : Int) := by omega
            have HD3 : Hid ((match (if (chAt s p).may then some (chAt s p, s.extract (p + 4 + b1 + vv) s.size) else none) with
              | none => none
              | some (c, q) => chgG m q (acc ++ [c])) = r) := hid (by have h := HD2.out; rwa [if_neg (by omega)] at h)
            clear h5 h6 hps HD2
            go_wp2_with (first
              | ((with_reducible show wpList _ _ _ (⟨_, .index 9 _ _, _, _, _, _⟩ :: _) _ _); refine wpL_valZ rfl (.int .u8 (b0 : Int)) (exec_idx _ _ rfl s p (by have := H4.out; have := HPS.out; omega) _ rfl rfl rfl b0 E0.out _) ?_)
              | fail)
            have hp4 := H4.out; have hp5 := H5.out; have hpz := HPS.out
            obtain ⟨n1, hn1⟩ : ∃ v, p + 4 = v := ⟨_, rfl⟩
            obtain ⟨n2, hn2⟩ : ∃ v, p + 4 + b1 = v := ⟨_, rfl⟩
            obtain ⟨n3, hn3⟩ : ∃ v, p + 4 + b1 + vv = v := ⟨_, rfl⟩
            have HN3 := hid hn3
            have V1 : Hid (IntKind.i64.wrap ((p : Int) + 4) = (n1 : Int)) := hid ((L.wrap_small (by omega) (by omega)).trans (by omega))
            have V2 : Hid (IntKind.i64.wrap ((n1 : Int) + (b1 : Int)) = (n2 : Int)) := hid ((L.wrap_small (by omega) (by omega)).trans (by omega))
            have V3 : Hid (IntKind.i64.wrap ((n2 : Int) + (vv : Int)) = (n3 : Int)) := hid ((L.wrap_small (by omega) (by omega)).trans (by omega))
            rw [hn3, hn2, hn1] at HCA
            rw [hn3] at HD3
            obtain ⟨ks, hks⟩ : ∃ k : S, s.extract n1 n2 = k := ⟨_, rfl⟩
            obtain ⟨vs, hvs⟩ : ∃ k : S, s.extract n2 n3 = k := ⟨_, rfl⟩
            have S1 : Hid (∀ w : World, (Instr.slice 9 (.string s) (some (.int .i64 (n1 : Int))) (some (.int .i64 (n2 : Int))) none).run Tryz.prog w = .ok (.string ks) w) := hid (fun w => by
              have := Go.run_slice_string (P := Tryz.prog) (w := w) 9 s .i64 .i64 (n1 : Int) (n2 : Int) Tryz.underlying9 (by omega) (by omega) (by omega)
              rw [this, ← hks]; rfl)
            have S2 : Hid (∀ w : World, (Instr.slice 9 (.string s) (some (.int .i64 (n2 : Int))) (some (.int .i64 (n3 : Int))) none).run Tryz.prog w = .ok (.string vs) w) := hid (fun w => by
              have := Go.run_slice_string (P := Tryz.prog) (w := w) 9 s .i64 .i64 (n2 : Int) (n3 : Int) Tryz.underlying9 (by omega) (by omega) (by omega)
              rw [this, ← hvs]; rfl)
            have HKL := hid (show ks.size ≤ 1048576 ∧ vs.size ≤ 1048576 by rw [← hks, ← hvs]; simp; have := HSZ.out; omega)
            obtain ⟨gb, hgb⟩ : ∃ g, decide (b0 = 1) = g := ⟨_, rfl⟩
            have HGB : Hid (((b0 : Int) == 1) = gb) := hid (by rw [← hgb]; by_cases h : b0 = 1 <;> simp [h] <;> omega)
            rw [hks, hvs, hgb] at HCA
            have HX : Hid (chAt s p = ⟨ks, vs, gb⟩) := HCA
            rw [HX.out] at HD3
            clear hn1 hn2 hn3 hks hvs hgb hp4 hp5 hpz HCA
            have hold : Facts.hold [] wr.drew.drew := Facts.nil_hold _
            refine wpD_region hold (by kernel_rfl) 27 rfl ?_
            (refine wpD_plain 0 (v := ?_) rfl (by kernel_rfl) (by kernel_rfl) (by kernel_rfl) (fun _ _ _ h => h) (by rfl) ?_ (by assumption) ?_; rotate_left; (intro _w; go_simp; try with_reducible rfl); simp only [Act.put, List.setIfInBounds_toArray, List.set_cons_zero, List.set_cons_succ])
            (refine wpD_plain 1 (v := ?_) rfl (by kernel_rfl) (by kernel_rfl) (by kernel_rfl) (fun _ _ _ h => h) (by rfl) ?_ (by assumption) ?_; rotate_left; (intro _w; go_simp; try with_reducible rfl); simp only [Act.put, List.setIfInBounds_toArray, List.set_cons_zero, List.set_cons_succ])
            (refine wpD_plain 2 (v := (.int .i64 (n1 : Int))) rfl (by kernel_rfl) (by kernel_rfl) (by kernel_rfl) (fun _ _ _ h => h) (by rfl) ?_ (by assumption) ?_; (intro _w; go_simp; exact V1.out); simp only [Act.put, List.setIfInBounds_toArray, List.set_cons_zero, List.set_cons_succ])
            (refine wpD_plain 3 (v := ?_) rfl (by kernel_rfl) (by kernel_rfl) (by kernel_rfl) (fun _ _ _ h => h) (by rfl) ?_ (by assumption) ?_; rotate_left; (intro _w; go_simp; try with_reducible rfl); simp only [Act.put, List.setIfInBounds_toArray, List.set_cons_zero, List.set_cons_succ])
            (refine wpD_plain 4 (v := (.int .i64 (n1 : Int))) rfl (by kernel_rfl) (by kernel_rfl) (by kernel_rfl) (fun _ _ _ h => h) (by rfl) ?_ (by assumption) ?_; (intro _w; go_simp; exact V1.out); simp only [Act.put, List.setIfInBounds_toArray, List.set_cons_zero, List.set_cons_succ])
            (refine wpD_plain 5 (v := ?_) rfl (by kernel_rfl) (by kernel_rfl) (by kernel_rfl) (fun _ _ _ h => h) (by rfl) ?_ (by assumption) ?_; rotate_left; (intro _w; go_simp; try with_reducible rfl); simp only [Act.put, List.setIfInBounds_toArray, List.set_cons_zero, List.set_cons_succ])
            (refine wpD_plain 6 (v := (.int .i64 (n2 : Int))) rfl (by kernel_rfl) (by kernel_rfl) (by kernel_rfl) (fun _ _ _ h => h) (by rfl) ?_ (by assumption) ?_; (intro _w; go_simp; exact V2.out); simp only [Act.put, List.setIfInBounds_toArray, List.set_cons_zero, List.set_cons_succ])
            (refine wpD_plain 7 (v := (.string ks)) rfl (by kernel_rfl) (by kernel_rfl) (by kernel_rfl) (fun _ _ _ h => h) (by rfl) ?_ (by assumption) ?_; (intro _w; go_simp; (rw [S1.out _w]; rfl)); simp only [Act.put, List.setIfInBounds_toArray, List.set_cons_zero, List.set_cons_succ])
            (refine wpD_plain 8 (v := ?_) rfl (by kernel_rfl) (by kernel_rfl) (by kernel_rfl) (fun _ _ _ h => h) (by rfl) ?_ (by assumption) ?_; rotate_left; (intro _w; go_simp; try with_reducible rfl); simp only [Act.put, List.setIfInBounds_toArray, List.set_cons_zero, List.set_cons_succ])
            (refine wpD_plain 9 (v := ?_) rfl (by kernel_rfl) (by kernel_rfl) (by kernel_rfl) (fun _ _ _ h => h) (by rfl) ?_ (by assumption) ?_; rotate_left; (intro _w; go_simp; try with_reducible rfl); simp only [Act.put, List.setIfInBounds_toArray, List.set_cons_zero, List.set_cons_succ])
            (refine wpD_plain 10 (v := (.int .i64 (n1 : Int))) rfl (by kernel_rfl) (by kernel_rfl) (by kernel_rfl) (fun _ _ _ h => h) (by rfl) ?_ (by assumption) ?_; (intro _w; go_simp; exact V1.out); simp only [Act.put, List.setIfInBounds_toArray, List.set_cons_zero, List.set_cons_succ])
            (refine wpD_plain 11 (v := ?_) rfl (by kernel_rfl) (by kernel_rfl) (by kernel_rfl) (fun _ _ _ h => h) (by rfl) ?_ (by assumption) ?_; rotate_left; (intro _w; go_simp; try with_reducible rfl); simp only [Act.put, List.setIfInBounds_toArray, List.set_cons_zero, List.set_cons_succ])
            (refine wpD_plain 12 (v := (.int .i64 (n2 : Int))) rfl (by kernel_rfl) (by kernel_rfl) (by kernel_rfl) (fun _ _ _ h => h) (by rfl) ?_ (by assumption) ?_; (intro _w; go_simp; exact V2.out); simp only [Act.put, List.setIfInBounds_toArray, List.set_cons_zero, List.set_cons_succ])
            (refine wpD_plain 13 (v := ?_) rfl (by kernel_rfl) (by kernel_rfl) (by kernel_rfl) (fun _ _ _ h => h) (by rfl) ?_ (by assumption) ?_; rotate_left; (intro _w; go_simp; try with_reducible rfl); simp only [Act.put, List.setIfInBounds_toArray, List.set_cons_zero, List.set_cons_succ])
            (refine wpD_plain 14 (v := (.int .i64 (n1 : Int))) rfl (by kernel_rfl) (by kernel_rfl) (by kernel_rfl) (fun _ _ _ h => h) (by rfl) ?_ (by assumption) ?_; (intro _w; go_simp; exact V1.out); simp only [Act.put, List.setIfInBounds_toArray, List.set_cons_zero, List.set_cons_succ])
            (refine wpD_plain 15 (v := ?_) rfl (by kernel_rfl) (by kernel_rfl) (by kernel_rfl) (fun _ _ _ h => h) (by rfl) ?_ (by assumption) ?_; rotate_left; (intro _w; go_simp; try with_reducible rfl); simp only [Act.put, List.setIfInBounds_toArray, List.set_cons_zero, List.set_cons_succ])
            (refine wpD_plain 16 (v := (.int .i64 (n2 : Int))) rfl (by kernel_rfl) (by kernel_rfl) (by kernel_rfl) (fun _ _ _ h => h) (by rfl) ?_ (by assumption) ?_; (intro _w; go_simp; exact V2.out); simp only [Act.put, List.setIfInBounds_toArray, List.set_cons_zero, List.set_cons_succ])
            (refine wpD_plain 17 (v := ?_) rfl (by kernel_rfl) (by kernel_rfl) (by kernel_rfl) (fun _ _ _ h => h) (by rfl) ?_ (by assumption) ?_; rotate_left; (intro _w; go_simp; try with_reducible rfl); simp only [Act.put, List.setIfInBounds_toArray, List.set_cons_zero, List.set_cons_succ])
            (refine wpD_plain 18 (v := (.int .i64 (n3 : Int))) rfl (by kernel_rfl) (by kernel_rfl) (by kernel_rfl) (fun _ _ _ h => h) (by rfl) ?_ (by assumption) ?_; (intro _w; go_simp; exact V3.out); simp only [Act.put, List.setIfInBounds_toArray, List.set_cons_zero, List.set_cons_succ])
            (refine wpD_plain 19 (v := (.string vs)) rfl (by kernel_rfl) (by kernel_rfl) (by kernel_rfl) (fun _ _ _ h => h) (by rfl) ?_ (by assumption) ?_; (intro _w; go_simp; (rw [S2.out _w]; rfl)); simp only [Act.put, List.setIfInBounds_toArray, List.set_cons_zero, List.set_cons_succ])
            (refine wpD_plain 20 (v := ?_) rfl (by kernel_rfl) (by kernel_rfl) (by kernel_rfl) (fun _ _ _ h => h) (by rfl) ?_ (by assumption) ?_; rotate_left; (intro _w; go_simp; try with_reducible rfl); simp only [Act.put, List.setIfInBounds_toArray, List.set_cons_zero, List.set_cons_succ])
            (refine wpD_plain 21 (v := ?_) rfl (by kernel_rfl) (by kernel_rfl) (by kernel_rfl) (fun _ _ _ h => h) (by rfl) ?_ (by assumption) ?_; rotate_left; (intro _w; go_simp; try with_reducible rfl); simp only [Act.put, List.setIfInBounds_toArray, List.set_cons_zero, List.set_cons_succ])
            refine wpD_plain 22 (v := .int .u8 (b0 : Int)) rfl (by kernel_rfl) (by kernel_rfl) (by kernel_rfl) (fun _ _ _ h => h) (by rfl) (exec_idx _ _ rfl s p (by have := H4.out; have := HPS.out; omega) _ rfl rfl rfl b0 E0.out) hold ?_
            simp only [Act.put, List.setIfInBounds_toArray, List.set_cons_zero, List.set_cons_succ]
            (refine wpD_plain 23 (v := (.bool gb)) rfl (by kernel_rfl) (by kernel_rfl) (by kernel_rfl) (fun _ _ _ h => h) (by rfl) ?_ (by assumption) ?_; (intro _w; go_simp; exact HGB.out); simp only [Act.put, List.setIfInBounds_toArray, List.set_cons_zero, List.set_cons_succ])
            (refine wpD_plain 24 (v := (.agg #[.string ks, .string vs, .bool gb])) rfl (by kernel_rfl) (by kernel_rfl) (by kernel_rfl) (fun _ _ _ h => h) (by rfl) ?_ (by assumption) ?_; (intro _w; go_simp; skip); simp only [Act.put, List.setIfInBounds_toArray, List.set_cons_zero, List.set_cons_succ])
            clear hold
            refine wpD_only 25 [] rfl (by kernel_rfl) (by kernel_rfl) (by rfl) (fun K25 hK25 => ?_)
            refine wp_alloc _ rfl _ zeroCh [.string ⟨#[]⟩, .string ⟨#[]⟩, .bool false] rfl ?_
            intro w4 HB4 F4 HS4
            refine hK25 _ _ (Facts.nil_hold _) ?_
            clear hK25 K25
            simp only [Act.put, List.setIfInBounds_toArray, List.set_cons_zero, List.set_cons_succ]
            refine wpD_only 26 [] rfl (by kernel_rfl) (by kernel_rfl) (by rfl) (fun K26 hK26 => ?_)
            refine TR.wp_storeV _ _ _ rfl wr.drew.drew.heap.size 0 (.agg #[.string ks, .string vs, .bool gb]) [.string ks, .string vs, .bool gb] (by rfl) (by rfl) rfl _ _ HB4.out (by simp) infoCh (by intro u hu; simp at hu; rcases hu with rfl | rfl | rfl <;> rfl) ?_
            intro w5 HB5 F5 HS5
            refine hK26 _ _ (Facts.nil_hold _) ?_
            clear hK26 K26
            simp only [Act.put, List.setIfInBounds_toArray, List.set_cons_zero, List.set_cons_succ]
            refine wpD_done (by kernel_rfl) ?_ _
            have HBx : Hid (Blk w5 wr.drew.drew.heap.size 55 [.string ks, .string vs, .bool gb]) := hid (by have h := HB5.out; simpa [spl] using h)
            have f5 : Fr No wr w5 := (Fr.trans' (b := wr.drew) (Fr.refl No wr).drew (Fr.trans' (b := wr.drew.drew) (Fr.refl No wr.drew).drew F4.out)).trans F5.out (fun k hk => .inr (Nat.le_of_eq (Eq.symm hk)))
            have HF5 := hid f5
            have HN5 : Hid (Fr No w w5) := hid (HF.out.trans' f5)
            obtain ⟨b8, hb8⟩ : ∃ k, wr.drew.drew.heap.size = k := ⟨_, rfl⟩
            rw [hb8] at HBx ⊢
            clear f5 hb8 HB4 F4 HS4 HB5 F5 HS5
            have hrx := HBx.out.range 0 [.string ks, .string vs, .bool gb] rfl
            go_wp2_with (first
              | ((with_reducible show wpList _ _ _ (⟨_, .load 55 _, _, _, _, _⟩ :: _) _ _); refine wpL_load rfl _ _ rfl b8 0 rfl [.string ks, .string vs, .bool gb] _ hrx rfl rfl infoCh ?_)
              | fail)
            refine (rmay_any ⟨ks, vs, gb⟩ w5 (by have := HKL.out; show ks.size ≤ _; omega) (by have := HKL.out; show vs.size ≤ _; omega)).mono ?_
            rintro e w6 ⟨rfl, f6⟩
            have HF6 := hid f6
            have HB6 := hid (HBx.out.fr f6 id)
            clear f6 hrx
            cases hm : (⟨ks, vs, gb⟩ : Ch).may with
            | false =>
              have hrn : r = none := by have h := HD3.out; rw [hm] at h; exact h.symm
              have HRN := hid hrn
              clear hrn hm
              go_wp2_with fail
              go_ret2
              rw [HRN.out]
              exact ⟨rfl, HN5.out.trans' HF6.out⟩
            | true =>
              have HD4 : Hid (chgG m (s.extract n3 s.size) (acc ++ [⟨ks, vs, gb⟩]) = r) := hid (by have h := HD3.out; rw [hm] at h; exact h)
              have hr6 := HB6.out.range 0 [.string ks, .string vs, .bool gb] rfl
              have HONE : Hid (∀ u ∈ [Value.string ks, .string vs, .bool gb], u.oneCell' = true) := hid (by intro u hu; simp at hu; rcases hu with rfl | rfl | rfl <;> rfl)
              have haci : (acc.length : Int) ≤ 1048576 := by have := HAC.out; omega
              clear hm HD3
              go_wp2_with (first
                | ((with_reducible show wpList _ _ _ (⟨_, .load 55 _, _, _, _, _⟩ :: _) _ _); refine wpL_load rfl _ _ rfl b8 0 rfl [.string ks, .string vs, .bool gb] _ hr6 rfl rfl infoCh ?_)
                | ((with_reducible show wpList _ _ _ (⟨_, .buildSlice 22 _ _, _, _, _, _⟩ :: _) _ _); refine wpL_buildOne rfl _ 55 _ rfl ic _ rfl IC.out ZC.out (by rw [SC.out]; decide) (by rw [SC.out]; decide) _ [.string ks, .string vs, .bool gb] rfl rfl (by rw [SC.out]; rfl) ?_; intro w7 HB7 F7 HS7;
                    have HOx : Hid (w7.ownsRow w.heap.size 55 3 (.slice ra acc.length rc) acc.length (chs acc)) := hid (own_fr HO.out ((HF5.out.trans' HF6.out).trans' F7.out) (fun _ _ e => e)))
                | ((with_reducible show wpList _ _ _ (⟨_, .call { callee := .builtin .append, args := _, argTypes := _ }, _, _, _, _⟩ :: _) _ _); refine wpL_append rfl _ _ 22 rfl w.heap.size 55 ic _ 3 40 rfl IC.out ZC.out SC.out BC.out rfl (by decide) (.slice ra acc.length rc) acc.length (chs acc) rfl HOx.out (some ⟨w6.heap.size, 0, none⟩) 1 _ [.string ks, .string vs, .bool gb] rfl rfl (.inr ⟨_, rfl, HB7.out.news⟩) HONE.out (by unfold maxLen; omega) (by omega) (Nat.le_trans HN5.out.size (Nat.le_trans HF6.out.size F7.out.size)) ?_; intro a7 c7 w8 HO7 HG7 HA7)
                | fail)
              have h3 := HN3.out; have h4' := H4.out; have h5' := H5.out; have hps := HPS.out; have hac := HAC.out; have hn := HN.out
              refine ⟨⟨n3, acc ++ [⟨ks, vs, gb⟩], a7, c7, m, by congr 1; omega, by rw [List.length_append]; rfl, by omega, hid (by rw [List.length_append]; simp only [List.length_cons, List.length_nil]; omega), hid (by omega), HD4, hid ?_, hid ?_⟩, by simp only [intOf]; omega⟩
              · have h := HO7.out
                rw [show chs acc ++ [Value.string ks, .string vs, .bool gb] = chs (acc ++ [⟨ks, vs, gb⟩]) from (chs_snoc acc ⟨ks, vs, gb⟩).symm] at h
                rw [List.length_append]
                exact h
              · exact ((HN5.out.trans' HF6.out).trans' F7.out).trans (frown HG7.out) (fun k hk => .inr (own_low HOx.out k hk))
end Go.Proofs.YtflfmkokfbgclaaGreat.ST
