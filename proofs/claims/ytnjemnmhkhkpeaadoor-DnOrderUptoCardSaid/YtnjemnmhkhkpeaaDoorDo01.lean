/-
  Part 1 of the proof: BeD, Draw, Conv, Call.
-/
import Derived.Test.YtnjemnmhkhkpeaaDoorDo00
import Derived.Laws.IdiomStrings
set_option linter.unusedSimpArgs false
set_option linter.unusedVariables false
namespace Go.Proofs.YtnjemnmhkhkpeaaDoor.BE
set_option maxRecDepth 100000

abbrev B := List UInt8
abbrev S := ByteArray
/-- Bytes as a text. -/
def sb (l : B) : S := ⟨l.toArray⟩
theorem sb_size (l : B) : (sb l).size = l.length := by show l.toArray.size = _; simp
theorem sb_list (l : B) : (sb l).data.toList = l := by simp [sb]
theorem sb_of (s : S) : sb s.data.toList = s := by simp [sb]
theorem size_list (s : S) : s.data.toList.length = s.size := by simp
theorem s_ext {a b : S} (h : a.data.toList = b.data.toList) : a = b := ByteArray.ext (Array.toList_inj.1 h)
theorem sb_append (a b : B) : sb a ++ sb b = sb (a ++ b) := s_ext (by simp [sb])
theorem ext_sb (l : B) (a b : Nat) : (sb l).extract a b = sb ((l.drop a).take (b - a)) := s_ext (by
  rw [ByteArray.data_extract]
  simp [sb, List.extract_eq_take_drop])
theorem sb_inj {a b : B} (h : sb a = sb b) : a = b := by rw [← sb_list a, h, sb_list]

/-- An element. -/
inductive Nd where
  | mk (tag : Int) (body : B) (kids : List Nd)
def Nd.tag : Nd → Int | .mk t _ _ => t
def Nd.body : Nd → B | .mk _ b _ => b
def Nd.kids : Nd → List Nd | .mk _ _ k => k
theorem Nd.eta (n : Nd) : Nd.mk n.tag n.body n.kids = n := by cases n; rfl

def tagB (t : Int) : Bool := decide (0 ≤ t) && decide (t ≤ 255) && decide (t % 32 ≠ 31)
def conB (t : Int) : Bool := decide (t / 32 % 2 = 1)
def lenB (c : Nat) : B := if c < 128 then [UInt8.ofNat c] else if c < 256 then [129, UInt8.ofNat c] else [130, UInt8.ofNat (c / 256), UInt8.ofNat (c % 256)]
/-- At most so deep. -/
def deep : Nat → Nd → Bool
  | 0, _ => false
  | m + 1, n => n.kids.all (deep m)
/-- Each has what its tag lets it have. (At most so deep.) -/
def shaped : Nat → Nd → Bool
  | 0, _ => true
  | m + 1, n => tagB n.tag && (if conB n.tag then n.body.isEmpty else n.kids.isEmpty) && n.kids.all (shaped m)
def enc : Nat → Nd → B
  | 0, _ => []
  | m + 1, n => UInt8.ofNat n.tag.toNat :: (lenB (n.body ++ (n.kids.map (enc m)).flatten).length ++ (n.body ++ (n.kids.map (enc m)).flatten))
def cont (m : Nat) (n : Nd) : B := n.body ++ (n.kids.map (enc m)).flatten
theorem enc_succ (m : Nat) (n : Nd) : enc (m + 1) n = UInt8.ofNat n.tag.toNat :: (lenB (cont m n).length ++ cont m n) := rfl
/-- All contents are short enough. -/
def fits : Nat → Nd → Bool
  | 0, _ => true
  | m + 1, n => n.kids.all (fits m) && decide ((cont m n).length ≤ 4000)
/-- What is wrong with it. -/
def errN (n : Nd) : Nat := if deep 8 n = false then 91 else if shaped 8 n = false then 90 else if fits 8 n = false then 2 else 0
def encS (n : Nd) : B := if errN n = 0 then enc 8 n else []

def hdS : B → Except Nat (Nat × Nat × Nat)
  | [] => .error 92
  | t :: r => if tagB t.toNat = false then .error 90 else match r with
    | [] => .error 92
    | l :: q => if l.toNat < 128 then .ok (t.toNat, l.toNat, 2)
      else if l.toNat = 129 then match q with
        | [] => .error 92
        | a :: _ => if a.toNat < 128 then .error 90 else .ok (t.toNat, a.toNat, 3)
      else if l.toNat = 130 then match q with
        | a :: b :: _ => if 256 * a.toNat + b.toNat < 256 then .error 90 else if 4000 < 256 * a.toNat + b.toNat then .error 2 else .ok (t.toNat, 256 * a.toNat + b.toNat, 4)
        | _ => .error 92
      else .error 90
def kidsG (f : B → Except Nat (Nd × Nat)) : Nat → B → Except Nat (List Nd)
  | 0, s => if s = [] then .ok [] else .error 0
  | k + 1, s => if s = [] then .ok [] else match f s with
    | .error e => .error e
    | .ok (n, u) => match kidsG f k (s.drop u) with
      | .error e => .error e
      | .ok ns => .ok (n :: ns)
def rd : Nat → B → Except Nat (Nd × Nat)
  | 0, _ => .error 91
  | m + 1, s => match hdS s with
    | .error e => .error e
    | .ok (t, c, h) => if s.length < h + c then .error 92
      else if conB t then match kidsG (rd m) ((s.drop h).take c).length ((s.drop h).take c) with
        | .error e => .error (if e = 92 then 90 else e)
        | .ok ks => .ok (.mk t [] ks, h + c)
      else .ok (.mk t ((s.drop h).take c) [], h + c)

/-! ### The head -/
theorem ofNat_lt {c : Nat} (h : c < 256) : (UInt8.ofNat c).toNat = c := by simp [UInt8.toNat_ofNat']; omega
theorem len_pos (c : Nat) : 1 ≤ (lenB c).length ∧ (lenB c).length ≤ 3 := by
  unfold lenB
  split
  · simp
  · split <;> simp
theorem hd_enc {t : UInt8} (ht : tagB t.toNat = true) {c : Nat} (hc : c ≤ 4000) (r : B) : hdS (t :: (lenB c ++ r)) = .ok (t.toNat, c, 1 + (lenB c).length) := by
  unfold lenB
  by_cases h1 : c < 128
  · rw [if_pos h1]
    simp only [List.singleton_append, hdS, ht]
    rw [ofNat_lt (by omega)]
    simp [h1]
  · rw [if_neg h1]
    by_cases h2 : c < 256
    · rw [if_pos h2]
      simp only [List.cons_append, List.nil_append, hdS, ht]
      rw [ofNat_lt (by omega)]
      simp [h1]
    · rw [if_neg h2]
      simp only [List.cons_append, List.nil_append, hdS, ht]
      rw [ofNat_lt (c := c / 256) (by omega), ofNat_lt (c := c % 256) (by omega)]
      have e : 256 * (c / 256) + c % 256 = c := by omega
      rw [e]
      simp [h2]
      omega
theorem hd_cut {t : UInt8} (ht : tagB t.toNat = true) {c : Nat} (hc : c ≤ 4000) {k : Nat} (hk : k < 1 + (lenB c).length) : hdS ((t :: lenB c).take k) = .error 92 := by
  unfold lenB at hk ⊢
  by_cases h1 : c < 128
  · rw [if_pos h1] at hk ⊢
    match k, hk with
    | 0, _ => rfl
    | 1, _ => simp [hdS, ht]
  · rw [if_neg h1] at hk ⊢
    by_cases h2 : c < 256
    · rw [if_pos h2] at hk ⊢
      match k, hk with
      | 0, _ => rfl
      | 1, _ => simp [hdS, ht]
      | 2, _ => simp [hdS, ht]
    · rw [if_neg h2] at hk ⊢
      match k, hk with
      | 0, _ => rfl
      | 1, _ => simp [hdS, ht]
      | 2, _ => simp [hdS, ht]
      | 3, _ => simp [hdS, ht]
theorem lt256 (b : UInt8) : b.toNat < 256 := UInt8.toNat_lt b
theorem ofNat_toNat (b : UInt8) : UInt8.ofNat b.toNat = b := by simp
theorem hd_inv {s : B} {t c h : Nat} (hs : hdS s = .ok (t, c, h)) : ∃ b : UInt8, t = b.toNat ∧ tagB b.toNat = true ∧ c ≤ 4000 ∧ h = 1 + (lenB c).length ∧ ∃ r, s = b :: (lenB c ++ r) := by
  match s, hs with
  | [], hs => cases hs
  | [b], hs =>
    simp only [hdS] at hs
    split at hs <;> cases hs
  | b :: l :: q, hs =>
    simp only [hdS] at hs
    by_cases hb : tagB b.toNat = false
    · rw [if_pos hb] at hs; cases hs
    rw [if_neg hb] at hs
    have hb : tagB b.toNat = true := by simpa using hb
    split at hs
    · rename_i hl
      cases hs
      refine ⟨b, rfl, hb, by omega, ?_, q, ?_⟩
      · unfold lenB; rw [if_pos hl]; rfl
      · unfold lenB; rw [if_pos hl, ofNat_toNat]; rfl
    · rename_i hl
      split at hs
      · rename_i hl1
        split at hs
        · cases hs
        · rename_i a r
          split at hs
          · cases hs
          · rename_i ha
            cases hs
            have h8 := lt256 a
            have e : lenB a.toNat = [129, a] := by unfold lenB; rw [if_neg ha, if_pos h8, ofNat_toNat]
            have el : l = 129 := UInt8.toNat_inj.1 hl1
            exact ⟨b, rfl, hb, by omega, by rw [e]; rfl, r, by rw [e, el]; rfl⟩
      · split at hs
        · rename_i hl2
          split at hs
          · rename_i a a' r
            split at hs
            · cases hs
            · split at hs
              · cases hs
              · rename_i h1 h2
                cases hs
                have h8 := lt256 a
                have h9 := lt256 a'
                have e : lenB (256 * a.toNat + a'.toNat) = [130, a, a'] := by
                  unfold lenB
                  rw [if_neg (by omega), if_neg (by omega), show (256 * a.toNat + a'.toNat) / 256 = a.toNat by omega, show (256 * a.toNat + a'.toNat) % 256 = a'.toNat by omega, ofNat_toNat, ofNat_toNat]
                have el : l = 130 := UInt8.toNat_inj.1 hl2
                exact ⟨b, rfl, hb, by omega, by rw [e]; rfl, r, by rw [e, el]; rfl⟩
          · cases hs
        · cases hs

/-! ### What was written is read -/
theorem tag_back {t : Int} (h : tagB t = true) : ((UInt8.ofNat t.toNat).toNat : Int) = t := by
  simp only [tagB, Bool.and_eq_true, decide_eq_true_eq] at h
  rw [ofNat_lt (by omega)]
  omega
theorem enc_len (m : Nat) (n : Nd) : (enc (m + 1) n).length = 1 + (lenB (cont m n).length).length + (cont m n).length := by
  rw [enc_succ]; simp; omega
theorem kids_enc {m : Nat} (f : B → Except Nat (Nd × Nat)) : ∀ (ks : List Nd) (k : Nat), (∀ x ∈ ks, ∀ r, f (enc m x ++ r) = .ok (x, (enc m x).length)) → (∀ x ∈ ks, 1 ≤ (enc m x).length) → (ks.map (enc m)).flatten.length ≤ k → kidsG f k (ks.map (enc m)).flatten = .ok ks
  | [], k, _, _, _ => by cases k <;> rfl
  | x :: r, 0, _, h1, hk => by
    have := h1 x (by simp)
    rw [List.map_cons, List.flatten_cons, List.length_append] at hk
    omega
  | x :: r, k + 1, hf, h1, hk => by
    have hx := h1 x (by simp)
    have e : (List.map (enc m) (x :: r)).flatten = enc m x ++ (r.map (enc m)).flatten := by simp
    rw [e] at hk ⊢
    have hne : enc m x ++ (r.map (enc m)).flatten ≠ [] := by
      intro h0
      have h2 := (List.append_eq_nil_iff.1 h0).1
      have h3 := h1 x (by simp)
      rw [h2] at h3
      exact absurd h3 (by simp)
    unfold kidsG
    rw [if_neg hne, hf x (by simp)]
    simp only [List.drop_left]
    rw [kids_enc f r k (fun y hy => hf y (by simp [hy])) (fun y hy => h1 y (by simp [hy])) (by rw [List.length_append] at hk; have := h1 x (by simp); omega)]
theorem rd_enc : ∀ (m : Nat) (n : Nd) (r : B), deep m n = true → shaped m n = true → fits m n = true → rd m (enc m n ++ r) = .ok (n, (enc m n).length)
  | 0, n, r, h, _, _ => by cases h
  | m + 1, n, r, hd, hs, hf => by
    simp only [deep, List.all_eq_true] at hd
    simp only [shaped, Bool.and_eq_true, List.all_eq_true] at hs
    simp only [fits, Bool.and_eq_true, List.all_eq_true, decide_eq_true_eq] at hf
    obtain ⟨⟨ht, hsh⟩, hsk⟩ := hs
    obtain ⟨hfk, hfl⟩ := hf
    have htb := tag_back ht
    have hkid : ∀ x ∈ n.kids, ∀ r, rd m (enc m x ++ r) = .ok (x, (enc m x).length) := fun x hx r => rd_enc m x r (hd x hx) (hsk x hx) (hfk x hx)
    have e1 : enc (m + 1) n ++ r = UInt8.ofNat n.tag.toNat :: (lenB (cont m n).length ++ (cont m n ++ r)) := by rw [enc_succ]; simp
    have ehd := hd_enc (t := UInt8.ofNat n.tag.toNat) (by rw [htb]; exact ht) hfl (cont m n ++ r)
    have el := enc_len m n
    have e2 : ((UInt8.ofNat n.tag.toNat :: (lenB (cont m n).length ++ (cont m n ++ r))).drop (1 + (lenB (cont m n).length).length)).take (cont m n).length = cont m n := by
      rw [show (UInt8.ofNat n.tag.toNat :: (lenB (cont m n).length ++ (cont m n ++ r))) = (UInt8.ofNat n.tag.toNat :: lenB (cont m n).length) ++ (cont m n ++ r) by simp]
      rw [List.drop_left' (by simp; omega), List.take_left]
    unfold rd
    rw [e1, ehd]
    simp only
    rw [if_neg (by simp; omega), e2, htb]
    by_cases hc : conB n.tag = true
    · rw [if_pos hc] at hsh ⊢
      have hb : n.body = [] := by simpa using hsh
      have ec : cont m n = (n.kids.map (enc m)).flatten := by unfold cont; rw [hb]; rfl
      rw [ec, kids_enc (rd m) n.kids _ hkid (fun x hx => by
        cases m with
        | zero => have := hd x hx; simp [deep] at this
        | succ j => have := enc_len j x; have := len_pos (cont j x).length; omega) (Nat.le_refl _)]
      simp only
      rw [← ec, el]
      congr 2
      rw [← Nd.eta n, hb]; rfl
    · rw [if_neg hc] at hsh ⊢
      have hk : n.kids = [] := by simpa using hsh
      rw [el]
      congr 2
      have ec : cont m n = n.body := by unfold cont; rw [hk]; simp
      rw [ec, ← Nd.eta n, hk]; rfl
/-! ### What was read is written so -/
theorem kids_inv {m : Nat} : ∀ (k : Nat) (s : B) (ks : List Nd), (∀ s n u, rd m s = .ok (n, u) → deep m n = true ∧ shaped m n = true ∧ fits m n = true ∧ enc m n = s.take u ∧ 2 ≤ u ∧ u ≤ s.length) → kidsG (rd m) k s = .ok ks → (ks.map (enc m)).flatten = s ∧ ∀ x ∈ ks, deep m x = true ∧ shaped m x = true ∧ fits m x = true
  | 0, s, ks, _, h => by
    unfold kidsG at h
    split at h
    · rename_i h0; cases h; subst h0; simp
    · cases h
  | k + 1, s, ks, hi, h => by
    unfold kidsG at h
    split at h
    · rename_i h0; cases h; subst h0; simp
    · split at h
      · cases h
      · rename_i n u hr
        split at h
        · cases h
        · rename_i ns hk
          cases h
          obtain ⟨h1, h2, h3, h4, _, h6⟩ := hi _ _ _ hr
          obtain ⟨g1, g2⟩ := kids_inv k _ _ hi hk
          refine ⟨by rw [List.map_cons, List.flatten_cons, g1, h4, List.take_append_drop], fun x hx => ?_⟩
          rcases List.mem_cons.1 hx with rfl | hx
          · exact ⟨h1, h2, h3⟩
          · exact g2 x hx
theorem tag_ofNat (b : UInt8) : UInt8.ofNat ((b.toNat : Int)).toNat = b := by simp
theorem rd_inv : ∀ (m : Nat) (s : B) (n : Nd) (u : Nat), rd m s = .ok (n, u) → deep m n = true ∧ shaped m n = true ∧ fits m n = true ∧ enc m n = s.take u ∧ 2 ≤ u ∧ u ≤ s.length
  | 0, s, n, u, h => by cases h
  | m + 1, s, n, u, h => by
    unfold rd at h
    split at h
    · cases h
    rename_i t c hh hhd
    obtain ⟨b, rfl, hb, hc, rfl, r, rfl⟩ := hd_inv hhd
    split at h
    · cases h
    rename_i hlen
    have hlp := len_pos c
    have hlr : c ≤ r.length := by simp at hlen; omega
    have e2 : ((b :: (lenB c ++ r)).drop (1 + (lenB c).length)).take c = r.take c := by
      rw [show b :: (lenB c ++ r) = (b :: lenB c) ++ r by simp, List.drop_left' (by simp; omega)]
    have e3 : (b :: (lenB c ++ r)).take (1 + (lenB c).length + c) = b :: (lenB c ++ r.take c) := by
      rw [show b :: (lenB c ++ r) = (b :: lenB c) ++ r by simp, List.take_append, List.take_of_length_le (by simp; omega)]
      simp only [List.length_cons, List.cons_append]
      congr 3
      omega
    have elc : (r.take c).length = c := by rw [List.length_take]; omega
    rw [e2] at h
    split at h
    · rename_i hcon
      split at h
      · cases h
      · rename_i ks hk
        cases h
        obtain ⟨g1, g2⟩ := kids_inv _ _ _ (fun s n u => rd_inv m s n u) hk
        have ec : cont m (.mk b.toNat [] ks) = r.take c := by unfold cont; simpa [Nd.body, Nd.kids] using g1
        refine ⟨?_, ?_, ?_, ?_, by omega, by omega⟩
        · simp only [deep, List.all_eq_true]; exact fun x hx => (g2 x hx).1
        · simp only [shaped, Bool.and_eq_true, List.all_eq_true]
          refine ⟨⟨hb, ?_⟩, fun x hx => (g2 x hx).2.1⟩
          show (if conB (b.toNat : Int) = true then ([] : B).isEmpty else ks.isEmpty) = true
          rw [if_pos hcon]; rfl
        · simp only [fits, Bool.and_eq_true, List.all_eq_true, decide_eq_true_eq]
          exact ⟨fun x hx => (g2 x hx).2.2, by rw [ec, elc]; exact hc⟩
        · rw [enc_succ, ec, elc, e3]
          show UInt8.ofNat ((b.toNat : Int)).toNat :: _ = _
          rw [tag_ofNat]
    · rename_i hcon
      cases h
      have ec : cont m (.mk b.toNat (r.take c) []) = r.take c := by unfold cont; simp [Nd.body, Nd.kids]
      refine ⟨?_, ?_, ?_, ?_, by omega, by omega⟩
      · simp [deep, Nd.kids]
      · simp only [shaped, Bool.and_eq_true, List.all_eq_true]
        refine ⟨⟨hb, ?_⟩, fun x hx => by cases hx⟩
        show (if conB (b.toNat : Int) = true then (r.take c).isEmpty else ([] : List Nd).isEmpty) = true
        rw [if_neg hcon]; rfl
      · have e0 : fits (m + 1) (.mk b.toNat (r.take c) []) = (([] : List Nd).all (fits m) && decide ((cont m (.mk b.toNat (r.take c) [])).length ≤ 4000)) := rfl
        rw [e0, ec, elc]
        simpa using hc
      · rw [enc_succ, ec, elc, e3]
        show UInt8.ofNat ((b.toNat : Int)).toNat :: _ = _
        rw [tag_ofNat]
/-- A piece that is cut off is short. -/
theorem rd_cut {m : Nat} {n : Nd} (hs : shaped (m + 1) n = true) (hf : fits (m + 1) n = true) {k : Nat} (hk : k < (enc (m + 1) n).length) : rd (m + 1) ((enc (m + 1) n).take k) = .error 92 := by
  simp only [shaped, Bool.and_eq_true] at hs
  simp only [fits, Bool.and_eq_true, decide_eq_true_eq] at hf
  obtain ⟨⟨ht, -⟩, -⟩ := hs
  have hfl := hf.2
  have htb := tag_back ht
  have ht' : tagB (UInt8.ofNat n.tag.toNat).toNat = true := by rw [htb]; exact ht
  have el := enc_len m n
  rw [enc_succ] at *
  unfold rd
  by_cases h1 : k < 1 + (lenB (cont m n).length).length
  · rw [show (UInt8.ofNat n.tag.toNat :: (lenB (cont m n).length ++ cont m n)).take k = (UInt8.ofNat n.tag.toNat :: lenB (cont m n).length).take k by
      rw [← List.cons_append, List.take_append_of_le_length (by simp; omega)]]
    rw [hd_cut ht' hfl h1]
  · rw [show (UInt8.ofNat n.tag.toNat :: (lenB (cont m n).length ++ cont m n)).take k = UInt8.ofNat n.tag.toNat :: (lenB (cont m n).length ++ (cont m n).take (k - (1 + (lenB (cont m n).length).length))) by
      rw [← List.cons_append, List.take_append, List.take_of_length_le (by simp; omega)]
      simp only [List.length_cons, List.cons_append]
      congr 3
      omega]
    rw [hd_enc ht' hfl]
    simp only
    rw [if_pos (by simp; omega)]
theorem err_zero {n : Nd} : errN n = 0 ↔ deep 8 n = true ∧ shaped 8 n = true ∧ fits 8 n = true := by
  unfold errN
  by_cases h1 : deep 8 n = false
  · rw [if_pos h1]; simp [h1]
  · rw [if_neg h1]
    by_cases h2 : shaped 8 n = false
    · rw [if_pos h2]; simp [h2]
    · rw [if_neg h2]
      by_cases h3 : fits 8 n = false
      · rw [if_pos h3]; simp [h3]
      · rw [if_neg h3]
        simp at h1 h2 h3
        simp [h1, h2, h3]
theorem enc8_len {n : Nd} (h : fits 8 n = true) : (enc 8 n).length ≤ 4004 := by
  simp only [fits, Bool.and_eq_true, decide_eq_true_eq] at h
  show (enc (7 + 1) n).length ≤ 4004
  have := enc_len 7 n
  have := len_pos (cont 7 n).length
  have := h.2
  omega
end Go.Proofs.YtnjemnmhkhkpeaaDoor.BE
namespace Go.Proofs.YtnjemnmhkhkpeaaDoor.K
set_option maxRecDepth 100000
open Go.RowKit
section
variable {P : Program} {ops : Array Oper} {Q : Exit → Act → World → Prop} {md : Region.Mode}

/-- What may have to hold still: (k, S): operation k may not have been carried out yet, and reads what S says. -/
abbrev Facts := List (Nat × (World → Prop))
def Facts.hold (R : Facts) (w : World) : Prop := ∀ p ∈ R, p.2 w
/-- Behind operation j: those that j does not wait for. -/
def Facts.past (md : Region.Mode) (ops : Array Oper) (R : Facts) (j : Nat) : Facts := R.filter fun p => p.1 != j && !Region.waitsFor md ops j p.1

def wpD (P : Program) (md : Region.Mode) (ops : Array Oper) (Q : Exit → Act → World → Prop) : Facts → Nat → Array Bool → Act → World → Prop
  | _, 0, listed, a, w => Region.ready md ops listed = [] ∧ Q .normal a w
  | R, fuel + 1, listed, a, w =>
    (Region.ready md ops listed = [] → Q .normal a w) ∧
    ∀ j ∈ Region.ready md ops listed, wpOp P ops Q j (fun a' w' => (R.past md ops j).hold w' ∧ wpD P md ops Q (R.past md ops j) fuel (listed.setIfInBounds j true) a' w') a w

theorem wpD_any : ∀ (fuel : Nat) (R : Facts) (listed : Array Bool) (a : Act) (w : World), wpD P md ops Q R fuel listed a w → wpAny P md ops Q fuel listed a w
  | 0, _, _, _, _, h => h
  | fuel + 1, _, _, _, _, h => ⟨h.1, fun i hi => wpOp_mono (fun a' w' h' => wpD_any fuel _ _ a' w' h'.2) (h.2 i hi)⟩

theorem past_sub {R R' : Facts} (h : ∀ p ∈ R', p ∈ R) (j : Nat) : ∀ p ∈ R'.past md ops j, p ∈ R.past md ops j := fun p hp => by
  obtain ⟨h1, h2⟩ := List.mem_filter.1 hp
  exact List.mem_filter.2 ⟨h p h1, h2⟩

theorem wpD_sub : ∀ (fuel : Nat) (R R' : Facts) (listed : Array Bool) (a : Act) (w : World), (∀ p ∈ R', p ∈ R) → wpD P md ops Q R fuel listed a w → wpD P md ops Q R' fuel listed a w
  | 0, _, _, _, _, _, _, h => h
  | fuel + 1, _, _, _, _, _, hs, h => ⟨h.1, fun j hj => wpOp_mono (fun a' w' h' => ⟨fun p hp => h'.1 p (past_sub hs j p hp), wpD_sub fuel _ _ _ a' w' (past_sub hs j) h'.2⟩) (h.2 j hj)⟩

theorem wpD_first {i : Nat} {oi : Oper} {v : Value} {S : World → Prop} (hi : ops[i]? = some oi) (hsel : ∀ (j : Nat) (o : Oper) cs b, ops[j]? = some o → o.op ≠ .select cs b)
    (hQ : ∀ c a w, Q (.panic c) (a.put oi.dst v) w → Q (.panic c) a w) :
    ∀ (fuel : Nat) (R : Facts) (listed : Array Bool) (a : Act) (w : World), ((i, S) ∈ R ∨ ∀ w, S w) →
      (∀ j oj, ops[j]? = some oj → j ≠ i → listed.getD j true = false → (∀ e ∈ oj.after, Region.binds md e = true → e.on ≠ i) → oi.apart ops oj = true) →
      i ∈ Region.ready md ops listed → YieldsIf P ops S oi v a → R.hold w →
      wpD P md ops Q R fuel (listed.setIfInBounds i true) (a.put oi.dst v) w → wpD P md ops Q R (fuel + 1) listed a w := by
  intro fuel
  induction fuel with
  | zero =>
    intro R listed a w hR _ hr hy hS H
    refine ⟨fun h => (by rw [h] at hr; cases hr), fun j hj => ?_⟩
    by_cases hji : j = i
    · subst hji
      exact hy.wpOp hi (hR.elim (fun h => hS _ h) (fun h => h w)) ⟨fun p hp => hS p (List.mem_filter.1 hp).1, H⟩
    · have := ready_mono hj hji
      rw [H.1] at this
      cases this
  | succ fuel ih =>
    intro R listed a w hR hfree hr hy hS H
    refine ⟨fun h => (by rw [h] at hr; cases hr), fun j hj => ?_⟩
    by_cases hji : j = i
    · subst hji
      exact hy.wpOp hi (hR.elim (fun h => hS _ h) (fun h => h w)) ⟨fun p hp => hS p (List.mem_filter.1 hp).1, wpD_sub _ _ _ _ _ _ (fun p hp => (List.mem_filter.1 hp).1) H⟩
    · have h1 := H.2 j (ready_mono hj hji)
      obtain ⟨hjun, oj, hoj, hall⟩ := mem_ready.1 hj
      have hnot : ∀ e ∈ oj.after, Region.binds md e = true → e.on ≠ i := fun e he hb heq => by
        have h1 := hall e he hb
        have h0 := (mem_ready.1 hr).1
        rw [heq] at h1
        rcases Nat.lt_or_ge i listed.size with h' | h'
        · simp [h'] at h0 h1; rw [h0] at h1; cases h1
        · simp [Array.getElem?_eq_none h'] at h1
      have hw : Region.waitsFor md ops j i = false := by
        cases hc : Region.waitsFor md ops j i with
        | false => rfl
        | true =>
          obtain ⟨oj', hoj', e, he, hb, hon⟩ := Region.waitsFor_spec hc
          rw [hoj] at hoj'
          cases hoj'
          exact absurd hon (hnot e he hb)
      have hR' : (i, S) ∈ R.past md ops j ∨ ∀ w, S w := hR.imp (fun h => List.mem_filter.2 ⟨h, by simp [hw, Ne.symm hji]⟩) id
      have h2 := wpOp_putIf hoj (hfree j oj hoj hji hjun hnot) (fun cs b => hsel i oi cs b hi) (fun cs b => hsel j oj cs b hoj) hQ hy h1
      have hfree' : ∀ k ok, ops[k]? = some ok → k ≠ i → (listed.setIfInBounds j true).getD k true = false →
          (∀ e ∈ ok.after, Region.binds md e = true → e.on ≠ i) → oi.apart ops ok = true := fun k ok hk hki hun hno => by
        refine hfree k ok hk hki ?_ hno
        by_cases hjk : j = k
        · subst hjk; exact hjun
        · rw [getD_set_ne true hjk] at hun; exact hun
      refine wpOp_mono (fun a' w' h3 => ⟨h3.2.1, ih _ (listed.setIfInBounds j true) a' w' hR' hfree' (ready_mono hr (Ne.symm hji)) h3.1 h3.2.1 ?_⟩) h2
      rw [Array.setIfInBounds_comm _ _ hji]
      exact h3.2.2

theorem at_drop {i : Nat} {oi : Oper} (h : (ops.toList.drop i).head? = some oi) : ops[i]? = some oi := by
  rw [List.head?_drop] at h
  simpa using h
/-- The beginning. -/
theorem wpD_region {id : Nat} {a : Act} {w : World} {R : Facts} (_hold : R.hold w.drew) (hm : P.follows .mixedOrders = true) (n : Nat) (hn : ops.size = n)
    (h : wpD P .any ops Q R n (Array.replicate n false) a w.drew) : (Code.region id ops true).wp P Q a w := by
  subst hn
  exact wp_region_any hm (wpD_any _ _ _ _ _ h)
/-- Operation i, which reads, is taken first. -/
theorem wpD_take (i : Nat) {oi : Oper} {v : Value} (S : World → Prop) {R : Facts} {fuel : Nat} {listed : Array Bool} {a : Act} {w : World} (hi : (ops.toList.drop i).head? = some oi)
    (hs : Region.noSelect ops = true) (hf : Region.free md ops listed i = true) (hr : (Region.ready md ops listed).contains i = true) (hQ : ∀ c a w, Q (.panic c) (a.put oi.dst v) w → Q (.panic c) a w)
    (hR : (i, S) ∈ R) (hg : Region.wanted oi (yielded ops a.tmps) = true) (hy : ∀ w, S w → (execOp a.eval oi).run P w = .ok (.value v) w) (hS : R.hold w)
    (h : wpD P md ops Q R fuel (listed.setIfInBounds i true) (a.put oi.dst v) w) : wpD P md ops Q R (fuel + 1) listed a w :=
  wpD_first (at_drop hi) (Region.noSelect_spec hs) hQ fuel R listed a w (.inl hR) (Region.free_spec (at_drop hi) hf) (by simpa using hr) (.inl ⟨hg, hy⟩) hS h
/-- Operation i, which asks nothing of the world, is taken first. -/
theorem wpD_plain (i : Nat) {oi : Oper} {v : Value} {R : Facts} {fuel : Nat} {listed : Array Bool} {a : Act} {w : World} (hi : (ops.toList.drop i).head? = some oi)
    (hs : Region.noSelect ops = true) (hf : Region.free md ops listed i = true) (hr : (Region.ready md ops listed).contains i = true) (hQ : ∀ c a w, Q (.panic c) (a.put oi.dst v) w → Q (.panic c) a w)
    (hg : Region.wanted oi (yielded ops a.tmps) = true) (hy : ∀ w, (execOp a.eval oi).run P w = .ok (.value v) w) (hS : R.hold w)
    (h : wpD P md ops Q R fuel (listed.setIfInBounds i true) (a.put oi.dst v) w) : wpD P md ops Q R (fuel + 1) listed a w :=
  wpD_first (S := fun _ => True) (at_drop hi) (Region.noSelect_spec hs) hQ fuel R listed a w (.inr fun _ => trivial) (Region.free_spec (at_drop hi) hf) (by simpa using hr) (.inl ⟨hg, fun w _ => hy w⟩) hS h
/-- Operation i alone may come up. -/
theorem wpD_only (i : Nat) {oi : Oper} {R : Facts} (R' : Facts) {fuel : Nat} {listed : Array Bool} {a : Act} {w : World} (hi : (ops.toList.drop i).head? = some oi) (hr : Region.ready md ops listed = [i]) (hR : R.past md ops i = R')
    (hg : Region.wanted oi (yielded ops a.tmps) = true)
    (h : ∀ K : Act → World → Prop, (∀ a' w', R'.hold w' → wpD P md ops Q R' fuel (listed.setIfInBounds i true) a' w' → K a' w') → oi.wp P a w K Q) : wpD P md ops Q R (fuel + 1) listed a w := by
  refine ⟨fun h0 => (by rw [hr] at h0; cases h0), fun j hj => ?_⟩
  rw [hr] at hj
  obtain rfl := List.mem_singleton.1 hj
  unfold wpOp
  simp only [at_drop hi, hg, if_true]
  rw [hR]
  exact .inl (h _ fun a' w' h1 h2 => ⟨h1, h2⟩)
/-! ### The same, with what is reckoned left to Lean -/
theorem pl (i : Nat) {oi : Oper} {v : Value} {R : Facts} {fuel : Nat} {listed : Array Bool} {a : Act} {w : World} (hi : (ops.toList.drop i).head? = some oi) (hy : ∀ w, (execOp a.eval oi).run P w = .ok (.value v) w)
    (h : wpD P md ops Q R fuel (listed.setIfInBounds i true) (a.put oi.dst v) w) (hs : Region.noSelect ops = true := by kernel_rfl) (hf : Region.free md ops listed i = true := by kernel_rfl) (hr : (Region.ready md ops listed).contains i = true := by kernel_rfl)
    (hQ : ∀ c a w, Q (.panic c) (a.put oi.dst v) w → Q (.panic c) a w := by exact fun _ _ _ h => h) (hg : Region.wanted oi (yielded ops a.tmps) = true := by rfl) (hS : R.hold w := by assumption) : wpD P md ops Q R (fuel + 1) listed a w :=
  wpD_plain i hi hs hf hr hQ hg hy hS h
theorem tk (i : Nat) {oi : Oper} {v : Value} (S : World → Prop) {R : Facts} {fuel : Nat} {listed : Array Bool} {a : Act} {w : World} (hi : (ops.toList.drop i).head? = some oi) (hR : (i, S) ∈ R) (hy : ∀ w, S w → (execOp a.eval oi).run P w = .ok (.value v) w)
    (h : wpD P md ops Q R fuel (listed.setIfInBounds i true) (a.put oi.dst v) w) (hs : Region.noSelect ops = true := by kernel_rfl) (hf : Region.free md ops listed i = true := by kernel_rfl) (hr : (Region.ready md ops listed).contains i = true := by kernel_rfl)
    (hQ : ∀ c a w, Q (.panic c) (a.put oi.dst v) w → Q (.panic c) a w := by exact fun _ _ _ h => h) (hg : Region.wanted oi (yielded ops a.tmps) = true := by rfl) (hS : R.hold w := by assumption) : wpD P md ops Q R (fuel + 1) listed a w :=
  wpD_take i S hi hs hf hr hQ hR hg hy hS h
theorem on (i : Nat) {oi : Oper} {R : Facts} (R' : Facts) {fuel : Nat} {listed : Array Bool} {a : Act} {w : World} (hi : (ops.toList.drop i).head? = some oi)
    (h : ∀ K : Act → World → Prop, (∀ a' w', R'.hold w' → wpD P md ops Q R' fuel (listed.setIfInBounds i true) a' w' → K a' w') → oi.wp P a w K Q) (hr : Region.ready md ops listed = [i] := by kernel_rfl) (hR : R.past md ops i = R' := by kernel_rfl)
    (hg : Region.wanted oi (yielded ops a.tmps) = true := by rfl) : wpD P md ops Q R (fuel + 1) listed a w := wpD_only i R' hi hr hR hg h
theorem m0 {α : Type} {a : α} {l : List α} : a ∈ a :: l := List.mem_cons_self
theorem m1 {α : Type} {a b : α} {l : List α} : a ∈ b :: a :: l := List.mem_cons_of_mem _ m0
theorem m2 {α : Type} {a b c : α} {l : List α} : a ∈ b :: c :: a :: l := List.mem_cons_of_mem _ m1
theorem m3 {α : Type} {a b c d : α} {l : List α} : a ∈ b :: c :: d :: a :: l := List.mem_cons_of_mem _ m2
/-- All have come up. -/
theorem wpD_done {R : Facts} {listed : Array Bool} {a : Act} {w : World} (hr : Region.ready md ops listed = []) (h : Q .normal a w) : ∀ fuel, wpD P md ops Q R fuel listed a w
  | 0 => ⟨hr, h⟩
  | _ + 1 => ⟨fun _ => h, by rw [hr]; simp⟩
theorem Facts.nil_hold (w : World) : Facts.hold [] w := fun _ h => by cases h
theorem Facts.cons_hold {k : Nat} {S : World → Prop} {R : Facts} {w : World} (h : S w) (hr : Facts.hold R w) : Facts.hold ((k, S) :: R) w := fun p hp => by
  rcases List.mem_cons.1 hp with rfl | hp
  · exact h
  · exact hr p hp

/-! ### Operations at 'Oper.wp' -/
variable {op : Oper} {a : Act} {w : World} {K : Act → World → Prop}
/-- A whole array or struct is read: as one operation of a region. -/
theorem exec_load (ty : TypeId) (x : Operand) (ho : op.op = .load ty x) (b o : Nat) (hx : a.eval x = .pointer (some ⟨b, o, none⟩)) (cs : List Value) (d : TypeDesc)
    (hu : P.underlying ty = some d) (hd : d.isRow = true) (hi : (P.info? ty).map (·.size) = some cs.length) : ∀ w : World, w.rangeAt b o cs → (execOp a.eval op).run P w = .ok (.value (.agg cs.toArray)) w := by
  intro w hc
  unfold execOp
  simp only [ho, hx, Instr.loadAt, Instr.sureAddr, Sem.run_bind, Sem.run_pure, Result.andThen_ok, run_loadVar_mid w b o ty cs d hc hu hd hi]
/-- A whole array or struct is stored into a block that is known. -/
theorem wp_storeB (ty : TypeId) (x y : Operand) (ho : op.op = .store ty x y) (b o : Nat) (vs : List Value) (hx : a.eval x = .pointer (some ⟨b, o, none⟩)) (hy : a.eval y = .agg vs.toArray)
    (t : TypeId) (cs : List Value) (hB : Blk w b t cs) (hle : o + vs.length ≤ cs.length) (hi : (P.info? ty).map (·.size) = some vs.length) (h1 : ∀ v ∈ vs, v.oneCell' = true)
    (h : ∀ w', Hid (Blk w' b t (spl cs o vs)) → Hid (Fr (fun k => k = b) w w') → Hid (w'.heap.size = w.heap.size) → K (a.put op.dst undef) w') : op.wp P a w K Q :=
  wp_store_mid ty x y ho b o vs.toArray hx hy (by simpa using hB.there o vs.length hle) (by simpa using hi) (by simpa using h1)
    (h _ (hid (by simpa using hB.sets vs o hle)) (hid (by simpa using (Fr.refl (fun k => k = b) w).setCells b o vs.toArray.toList (.inl rfl))) (hid (by simp)))
/-- A slice literal, each place written in order. -/
theorem run_buildAll (t e : TypeId) (vs : List Value) (i : TypeInfo) (z : Value) (hu : P.underlying t = some (.slice e)) (hi : P.info? e = some i) (hz : i.zero = some z) (hs0 : 0 < i.size) (hs1 : vs.length * i.size ≤ 16777216) (hv0 : 0 < vs.length)
    (hv : ∀ v ∈ vs, v.cells.size = i.size) (w : World) : (Instr.buildSlice t vs.length ((vs.zipIdx 0).map fun x => (x.2, x.1)).toArray).run P w =
      .ok (.slice (some ⟨w.heap.size, 0, none⟩) vs.length vs.length) (w.alloc (.cells (vs.flatMap fun v => v.cells.toList).toArray e)) :=
  run_buildSlice w t e vs.length _ _ i z hu hi hz (by omega) (by have := Nat.mul_pos hv0 hs0; omega) (by simpa using Great.fill_whole hs0 vs _ hv (by simp))
/-- A slice literal of one element. -/
theorem wp_buildOne (t e : TypeId) (x : Operand) (ho : op.op = .buildSlice t 1 #[(0, x)]) (i : TypeInfo) (z : Value) (hu : P.underlying t = some (.slice e)) (hi : P.info? e = some i) (hz : i.zero = some z) (hs0 : 0 < i.size) (hs1 : i.size ≤ 16777216)
    (v : Value) (cs : List Value) (hv : a.eval x = v) (hcs : v.cells = cs.toArray) (hl : cs.length = i.size)
    (h : ∀ w', Hid (Blk w' w.heap.size e cs) → Hid (Fr No w w') → Hid (w'.heap.size = w.heap.size + 1) → K (a.put op.dst (.slice (some ⟨w.heap.size, 0, none⟩) 1 1)) w') : op.wp P a w K Q := by
  have hrun := run_buildAll (P := P) t e [v] i z hu hi hz hs0 (by simpa using hs1) (by simp) (by simp [hcs, hl]) w
  simp only [List.zipIdx_cons, List.zipIdx_nil, List.map_cons, List.map_nil, List.length_singleton, List.flatMap_cons, List.flatMap_nil, List.append_nil, hcs] at hrun
  unfold Oper.wp
  simp [execOp, ho, hv, hrun, Result.andThen]
  exact h _ (hid (Blk.new _ _ _)) (hid ((Fr.refl _ _).alloc _)) (hid (by simp))
end
/-- The same at the list of a plain region. -/
theorem wpL_buildOne {P : Program} {ops : Array Oper} {rest : List Oper} {op : Oper} {a : Act} {w : World} {Q : Exit → Act → World → Prop} (hgd : op.guard = none) (t e : TypeId) (x : Operand) (ho : op.op = .buildSlice t 1 #[(0, x)]) (i : TypeInfo) (z : Value)
    (hu : P.underlying t = some (.slice e)) (hi : P.info? e = some i) (hz : i.zero = some z) (hs0 : 0 < i.size) (hs1 : i.size ≤ 16777216)
    (v : Value) (cs : List Value) (hv : a.eval x = v) (hcs : v.cells = cs.toArray) (hl : cs.length = i.size)
    (h : ∀ w', Hid (Blk w' w.heap.size e cs) → Hid (Fr No w w') → Hid (w'.heap.size = w.heap.size + 1) → wpList P ops Q rest (a.put op.dst (.slice (some ⟨w.heap.size, 0, none⟩) 1 1)) w') : wpList P ops Q (op :: rest) a w :=
  wpList_plain hgd fun _ hK => wp_buildOne t e x ho i z hu hi hz hs0 hs1 v cs hv hcs hl fun w' h1 h2 h3 => hK _ _ (h w' h1 h2 h3)
theorem rangeAt_new (w : World) (C : Array Value) (e : TypeId) (fz : Nat × Nat) (cs : List Value) (h : ∀ (j : Nat) (v : Value), cs[j]? = some v → C[j]? = some v) : (w.alloc (.cells C e fz)).rangeAt w.heap.size 0 cs := by
  intro j v hj
  rw [cell_of_row _ _ _ C e fz (heap_alloc_new w _), Nat.zero_add]
  exact h j v hj
section
variable {P : Program} {ops : Array Oper} {rest : List Oper} {op : Oper} {a : Act} {w : World} {Q : Exit → Act → World → Prop}
/-- '[]byte(s)'. -/
theorem wpL_bytesOf (hgd : op.guard = none) (src dst e : TypeId) (x : Operand) (ho : op.op = .convert src dst x) (s : ByteArray) (hx : a.eval x = .string s)
    (hs : P.underlying src = some .string) (hd : P.underlying dst = some (.slice e)) (he : P.underlying e = some (.int .u8))
    (h : ∀ c w', Hid (BytesIn w' (New w) (.slice (some ⟨w.heap.size, 0, none⟩) s.size c) s.data.toList) → Hid (Fr No w w') → wpList P ops Q rest (a.put op.dst (.slice (some ⟨w.heap.size, 0, none⟩) s.size c)) w') : wpList P ops Q (op :: rest) a w := by
  refine wpList_plain hgd fun K hK => ?_
  have hrun := run_bytes_of_string (P := P) w src dst e s hs hd he
  have h1 := h (grownCap w s.size 0 e) _ (hid ⟨_, _, _, rfl, by simp, grownCap_ge _ _ _ _, .inr ⟨w.heap.size, 0, rfl, Nat.le_refl _, by simp, rangeAt_new w.drew (bytesRow s (grownCap w s.size 0 e)) e ((bytesRow s (grownCap w s.size 0 e)).size, (bytesRow s (grownCap w s.size 0 e)).size + 1) _ (fun j v hj => by
    unfold bytesRow
    have hl : j < s.size := by have := (List.getElem?_eq_some_iff.1 hj).1; simpa [u8s] using this
    rw [Array.getElem?_append_left (by simpa using hl)]
    simpa [u8s] using hj)⟩⟩) (hid ((Fr.refl No w).drew.alloc _))
  unfold Oper.wp
  simp [execOp, ho, hx, hrun, Result.andThen]
  exact hK _ _ h1
/-- 'string(b)'. -/
theorem wpL_stringOf (hgd : op.guard = none) (src dst e : TypeId) (x : Operand) (ho : op.op = .convert src dst x) (v : Value) (E : Nat → Prop) (l : List UInt8) (hx : a.eval x = v) (hb : BytesIn w E v l)
    (hs : P.underlying src = some (.slice e)) (he : P.underlying e = some (.int .u8)) (hd : P.underlying dst = some .string)
    (h : wpList P ops Q rest (a.put op.dst (.string ⟨l.toArray⟩)) w) : wpList P ops Q (op :: rest) a w := by
  refine wpList_plain hgd fun K hK => ?_
  obtain ⟨ad, len, cap, rfl, rfl, _, h3⟩ := hb
  have hrun : (convert src dst (.slice ad l.length cap)).run P w = .ok (.string ⟨l.toArray⟩) w := by
    cases ad with
    | none =>
      have h0 : l = [] := List.eq_nil_of_length_eq_zero (h3.elim id fun ⟨g, o, h4, _⟩ => by cases h4)
      subst h0
      rw [run_convert_bytes_string w src dst e none _ cap hs he hd]
      rfl
    | some ad =>
      refine run_convert_bytes_back w src dst e ad cap l hs he hd fun j hj => ?_
      obtain ⟨g, o, h4, _, _, h5⟩ := h3.resolve_left (by omega)
      cases h4
      rw [Addr.add_mid]
      exact h5 j _ (u8s_get l j hj)
  unfold Oper.wp
  simp [execOp, ho, hx, hrun, Result.andThen]
  exact hK _ _ h
end
section
variable {P : Program} {ops : Array Oper} {Q : Exit → Act → World → Prop} {md : Region.Mode} {op : Oper} {a : Act} {w : World} {K : Act → World → Prop}

/-- Two operations may come up. -/
theorem wpD_two (i j : Nat) {oi oj : Oper} {R : Facts} (Ri Rj : Facts) {fuel : Nat} {listed : Array Bool} (hi : (ops.toList.drop i).head? = some oi) (hj : (ops.toList.drop j).head? = some oj) (hr : Region.ready md ops listed = [i, j])
    (hRi : R.past md ops i = Ri) (hRj : R.past md ops j = Rj) (gi : Region.wanted oi (yielded ops a.tmps) = true) (gj : Region.wanted oj (yielded ops a.tmps) = true)
    (h1 : ∀ K : Act → World → Prop, (∀ a' w', Ri.hold w' → wpD P md ops Q Ri fuel (listed.setIfInBounds i true) a' w' → K a' w') → oi.wp P a w K Q)
    (h2 : ∀ K : Act → World → Prop, (∀ a' w', Rj.hold w' → wpD P md ops Q Rj fuel (listed.setIfInBounds j true) a' w' → K a' w') → oj.wp P a w K Q) : wpD P md ops Q R (fuel + 1) listed a w := by
  refine ⟨fun h0 => (by rw [hr] at h0; cases h0), fun k hk => ?_⟩
  rw [hr] at hk
  rcases List.mem_cons.1 hk with rfl | hk
  · unfold wpOp
    simp only [at_drop hi, gi, if_true]
    rw [hRi]
    exact .inl (h1 _ fun a' w' h1 h2 => ⟨h1, h2⟩)
  · obtain rfl := List.mem_singleton.1 hk
    unfold wpOp
    simp only [at_drop hj, gj, if_true]
    rw [hRj]
    exact .inl (h2 _ fun a' w' h1 h2 => ⟨h1, h2⟩)
/-- Operation i, which its guard shuts out, is taken first. -/
theorem wpD_skip (i : Nat) {oi : Oper} {R : Facts} {fuel : Nat} {listed : Array Bool} (hi : (ops.toList.drop i).head? = some oi)
    (hs : Region.noSelect ops = true) (hf : Region.free md ops listed i = true) (hr : (Region.ready md ops listed).contains i = true) (hQ : ∀ c a w, Q (.panic c) (a.put oi.dst undef) w → Q (.panic c) a w)
    (hg : Region.wanted oi (yielded ops a.tmps) = false) (hS : R.hold w)
    (h : wpD P md ops Q R fuel (listed.setIfInBounds i true) (a.put oi.dst undef) w) : wpD P md ops Q R (fuel + 1) listed a w :=
  wpD_first (S := fun _ => True) (at_drop hi) (Region.noSelect_spec hs) hQ fuel R listed a w (.inr fun _ => trivial) (Region.free_spec (at_drop hi) hf) (by simpa using hr) (.inr ⟨hg, rfl⟩) hS h
/-- Several ways meet again: M says what is known there. -/
theorem wpD_join (M : Act → Act → World → Prop) (R' : Facts) (n : Nat) (listed' : Array Bool) {R : Facts} {fuel : Nat} {listed : Array Bool}
    (h : (∀ a' w', M a a' w' → R'.hold w' → wpD P md ops Q R' n listed' a' w') → wpD P md ops Q R fuel listed a w) (tail : ∀ a' w', M a a' w' → R'.hold w' → wpD P md ops Q R' n listed' a' w') : wpD P md ops Q R fuel listed a w := h tail
theorem wpD_cast {R : Facts} {n : Nat} {listed listed' : Array Bool} (hl : listed = listed') (h : wpD P md ops Q R n listed' a w) : wpD P md ops Q R n listed a w := hl ▸ h
/-- A call of a function or a closure, by its contract. -/
theorem wp_call (x : Operand) (args : List Operand) (tys : Array TypeId) (ho : op.op = .call { callee := .value x, args := args.toArray, argTypes := tys }) (f : FuncId) (cap : List Value) (hx : a.eval x = .func (.func f) #[] cap.toArray)
    (hent : ∀ (vs : Array Value) (w : World), (callFunc f vs).run P w = .ok (.enter f vs) w) (vs : List Value) (hvs : args.map a.eval ++ cap = vs)
    (hc : Calls P f vs.toArray w fun e w' => ∃ v, e = .returned v ∧ K (a.put op.dst v) w') : op.wp P a w K Q := by
  unfold Oper.wp
  have e : (execOp a.eval op).run P w = .ok (.enter f vs.toArray) w := by
    have h1 := hent vs.toArray w
    rw [← hvs] at h1
    simp [execOp, ho, resolve, hx, Deferred.ofValue, invoke]
    rw [← hvs]
    simpa using h1
  rw [e]
  show Calls P f vs.toArray w _
  refine hc.mono ?_
  rintro e w' ⟨v, rfl, h⟩
  exact h
/-- A new variable, as one operation of a region. -/
theorem wp_alloc (t : TypeId) (ho : op.op = .alloc t) (z : Value) (hz : ∀ w, (zeroValue t).run P w = .ok z w) (zs : List Value) (hzs : z.cells = zs.toArray)
    (h : ∀ w', Hid (Blk w' w.heap.size t zs) → Hid (Fr No w w') → Hid (w'.heap.size = w.heap.size + 1) → K (a.put op.dst (.pointer (some ⟨w.heap.size, 0, none⟩))) w') : op.wp P a w K Q := by
  unfold Oper.wp
  have h1 := h (w.alloc (.cells z.cells t)) (hid (by rw [hzs]; exact Blk.new w t zs)) (hid ((Fr.refl _ _).alloc _)) (hid (by simp))
  simp [execOp, ho, Instr.alloc, hz, newVar, newRow, Result.andThen]
  exact h1
/-- One cell is stored. -/
theorem wp_set (b o : Nat) (v : Value)
    (t : TypeId) (cs : List Value) (hB : Blk w b t cs) (hle : o < cs.length)
    (hrun : ∀ w : World, (w.cell? ⟨b, o, none⟩).isSome = true → w.frozen? ⟨b, o, none⟩ = false → (execOp a.eval op).run P w = .ok .skip (w.setCell ⟨b, o, none⟩ v))
    (h : ∀ w', Hid (Blk w' b t (cs.set o v)) → Hid (Fr (fun k => k = b) w w') → Hid (w'.heap.size = w.heap.size) → K (a.put op.dst undef) w') : op.wp P a w K Q := by
  unfold Oper.wp
  rw [hrun w (by rw [hB.cell]; simp [hle]) (hB.frozen o)]
  exact h _ (hid (hB.set o v)) (hid ((Fr.refl _ _).setCell _ _ (.inl rfl))) (hid (by simp))
theorem run_copy_str (w : World) (dT sT ty elem : TypeId) (b o dLen dCap : Nat) (t : ByteArray) (cs : List UInt8) (hcs : cs = t.data.toList.take dLen)
    (hu : P.underlying dT = some (.slice elem)) (hz : ∀ w, (Go.sizeOf elem).run P w = .ok 1 w)
    (hc : ∀ j, j < cs.length → (w.cell? ⟨b, o + j, none⟩).isSome = true) (hf : ∀ j, j < cs.length → w.frozen? ⟨b, o + j, none⟩ = false) :
    (Builtin.copy_ #[dT, sT] ty #[.slice (some ⟨b, o, none⟩) dLen dCap, .string t]).run P w = .ok (goInt cs.length) (w.setCells b o (u8s cs)) := by
  have hts : t.data.toList.length = t.size := by simp
  have hmin : Nat.min t.size dLen = cs.length := by rw [hcs, List.length_take, hts, Nat.min_comm]
  have hst := run_storeCells_cells (P := P) b o (u8s cs) 0 w (by rw [u8s_length]; simpa using hc) (by rw [u8s_length]; simpa using hf) (u8s_one cs)
  have htk : (t.data.toList.map fun x => Value.int .u8 (x.toNat : Int)).take cs.length = u8s cs := by
    have hcl : cs.length = min dLen t.data.toList.length := by rw [hcs, List.length_take]
    rw [← List.map_take, hcl, List.take_eq_take_min.symm, ← hcs]
    rfl
  simp [Builtin.copy_, run_underlying hu, Builtin.lenOf, Builtin.firstCells, hz, hmin]
  rw [htk, hst]
  rfl
/-- 'copy(v, s)' out of a string into a block that is known. -/
theorem wp_copyS (d s : Operand) (dT sT : TypeId) (ho : op.op = .call { callee := .builtin .copy, args := #[d, s], argTypes := #[dT, sT] })
    (elem : TypeId) (hu : P.underlying dT = some (.slice elem)) (hz : ∀ w, (Go.sizeOf elem).run P w = .ok 1 w)
    (g off dLen dCap : Nat) (hd : a.eval d = .slice (some ⟨g, off, none⟩) dLen dCap) (x : ByteArray) (hs : a.eval s = .string x)
    (t : TypeId) (cur : List Value) (hB : Blk w g t cur) (cs : List UInt8) (hcs : cs = x.data.toList.take dLen) (hle : off + cs.length ≤ cur.length)
    (h : ∀ w', Hid (Blk w' g t (spl cur off (u8s cs))) → Hid (Fr (fun k => k = g) w w') → Hid (w'.heap.size = w.heap.size) → K (a.put op.dst (goInt cs.length)) w') : op.wp P a w K Q := by
  have hth := hB.there off cs.length hle
  have hrun := run_copy_str (P := P) w dT sT op.type elem g off dLen dCap x cs hcs hu hz (fun j hj => (hth j hj).1) (fun j hj => (hth j hj).2)
  unfold Oper.wp
  simp [execOp, ho, resolve, invoke, builtin, hd, hs, hrun, Result.andThen]
  exact h _ (hid (hB.sets (u8s cs) off (by rw [u8s_length]; exact hle))) (hid ((Fr.refl (fun k => k = g) w).setCells g off _ (.inl rfl))) (hid (by simp))
/-- 'copy' out of a slice into a block that is known. -/
theorem wp_copyB (d s : Operand) (dT sT : TypeId) (ho : op.op = .call { callee := .builtin .copy, args := #[d, s], argTypes := #[dT, sT] })
    (elem : TypeId) (hu : P.underlying dT = some (.slice elem)) (hsz : (P.info? elem).map (·.size) = some 1)
    (g off dLen dCap : Nat) (sp : Option Addr) (sLen sCap : Nat) (hd : a.eval d = .slice (some ⟨g, off, none⟩) dLen dCap) (hs : a.eval s = .slice sp sLen sCap)
    (t : TypeId) (cur : List Value) (hB : Blk w g t cur) (cs : List Value) (hn : cs.length = Nat.min sLen dLen) (hsrc : ∃ ad, sp = some ad ∧ ∀ j v, cs[j]? = some v → w.cell? (ad.add j) = some v)
    (hle : off + cs.length ≤ cur.length) (h1 : ∀ v ∈ cs, v.oneCell' = true)
    (h : ∀ w', Hid (Blk w' g t (spl cur off cs)) → Hid (Fr (fun k => k = g) w w') → Hid (w'.heap.size = w.heap.size) → K (a.put op.dst (goInt cs.length)) w') : op.wp P a w K Q := by
  obtain ⟨ad, rfl, hsrc'⟩ := hsrc
  have hth := hB.there off cs.length hle
  have hrun := run_copy_cells (P := P) w dT sT op.type elem g off dLen dCap ad sLen sCap cs hu hsz hn hsrc' (fun j hj => (hth j hj).1) (fun j hj => (hth j hj).2) h1
  unfold Oper.wp
  simp [execOp, ho, resolve, invoke, builtin, hd, hs, hrun, Result.andThen]
  exact h _ (hid (hB.sets cs off hle)) (hid ((Fr.refl (fun k => k = g) w).setCells g off _ (.inl rfl))) (hid (by simp))
/-- Three results, the first of which lies in memory. -/
theorem ret_cell3 {fn : Func} {R : Ending → World → Prop} {p q r : Tmp} {ty : TypeId} {b : Nat} {t : TypeId} {cs : List Value} (hr : fn.results = #[.cell p ty, .tmp q, .tmp r]) (d : TypeDesc) (hp : a.tmps.getD p undef = .pointer (some ⟨b, 0, none⟩)) (hB : Blk w b t cs)
    (hu : P.underlying ty = some d) (hd : (match d with | .struct _ | .array _ _ => true | _ => false) = true) (hi : (P.info? ty).map (·.size) = some cs.length) (hdf : a.defers = [])
    (h : R (.returned (.tuple #[.agg cs.toArray, a.tmps.getD q undef, a.tmps.getD r undef])) w) : bodyPost P fn R .ret a w := by
  refine bodyPost_ret ?_ hdf h
  have hp' : a.tmps[p]?.getD undef = .pointer (some ⟨b, 0, none⟩) := by simpa using hp
  simp [results, hr, hp', asAddr, run_loadVar_row w b t ty cs.toArray (0, 0) d hB hu hd (by simpa using hi)]
/-- Three results. -/
theorem ret_three {fn : Func} {R : Ending → World → Prop} {p q r : Tmp} (hr : fn.results = #[.tmp p, .tmp q, .tmp r]) (hdf : a.defers = [])
    (h : R (.returned (.tuple #[a.tmps.getD p undef, a.tmps.getD q undef, a.tmps.getD r undef])) w) : bodyPost P fn R .ret a w := by
  refine bodyPost_ret ?_ hdf h
  simp [results, hr]
end
end Go.Proofs.YtnjemnmhkhkpeaaDoor.K
