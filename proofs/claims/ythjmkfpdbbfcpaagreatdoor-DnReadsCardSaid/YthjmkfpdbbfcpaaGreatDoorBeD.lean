/-
  Elements of a tag, a length and contents, as data: their bytes, what is wrong with them, what bytes are read as; and that what was written is read, and only so. No program.
-/
import Derived.Test.YthjmkfpdbbfcpaaGreatDoorKit
set_option linter.unusedVariables false
set_option linter.unusedSimpArgs false
namespace Go.Proofs.YthjmkfpdbbfcpaaGreatDoor.BE
set_option maxRecDepth 100000

abbrev B := List UInt8
abbrev S := ByteArray
/-- Bytes as a text. -/
def sb (l : B) : S := ⟨l.toArray⟩
theorem sb_size (l : B) : (sb l).size = l.length := by show l.toArray.size = _; simp
theorem sb_list (l : B) : (sb l).data.toList = l := by simp [sb]
theorem sb_of (s : S) : sb s.data.toList = s := by simp [sb]
theorem size_list (s : S) : s.data.toList.length = s.size := by simp
theorem s_ext {a b : S} (h : a.data.toList = b.data.toList) : a = b := ByteArray.ext (Array.toList_inj.1 h)
theorem sb_append (a b : B) : sb a ++ sb b = sb (a ++ b) := s_ext (by simp [sb])
theorem ext_sb (l : B) (a b : Nat) : (sb l).extract a b = sb ((l.drop a).take (b - a)) := s_ext (by
  rw [ByteArray.data_extract]
  simp [sb, List.extract_eq_take_drop])
theorem sb_inj {a b : B} (h : sb a = sb b) : a = b := by rw [← sb_list a, h, sb_list]

/-- An element. -/
inductive Nd where
  | mk (tag : Int) (body : B) (kids : List Nd)
def Nd.tag : Nd → Int | .mk t _ _ => t
def Nd.body : Nd → B | .mk _ b _ => b
def Nd.kids : Nd → List Nd | .mk _ _ k => k
theorem Nd.eta (n : Nd) : Nd.mk n.tag n.body n.kids = n := by cases n; rfl

def tagB (t : Int) : Bool := decide (0 ≤ t) && decide (t ≤ 255) && decide (t % 32 ≠ 31)
def conB (t : Int) : Bool := decide (t / 32 % 2 = 1)
def lenB (c : Nat) : B := if c < 128 then [UInt8.ofNat c] else if c < 256 then [129, UInt8.ofNat c] else [130, UInt8.ofNat (c / 256), UInt8.ofNat (c % 256)]
/-- At most so deep. -/
def deep : Nat → Nd → Bool
  | 0, _ => false
  | m + 1, n => n.kids.all (deep m)
/-- Each has what its tag lets it have. (At most so deep.) -/
def shaped : Nat → Nd → Bool
  | 0, _ => true
  | m + 1, n => tagB n.tag && (if conB n.tag then n.body.isEmpty else n.kids.isEmpty) && n.kids.all (shaped m)
def enc : Nat → Nd → B
  | 0, _ => []
  | m + 1, n => UInt8.ofNat n.tag.toNat :: (lenB (n.body ++ (n.kids.map (enc m)).flatten).length ++ (n.body ++ (n.kids.map (enc m)).flatten))
def cont (m : Nat) (n : Nd) : B := n.body ++ (n.kids.map (enc m)).flatten
theorem enc_succ (m : Nat) (n : Nd) : enc (m + 1) n = UInt8.ofNat n.tag.toNat :: (lenB (cont m n).length ++ cont m n) := rfl
/-- All contents are short enough. -/
def fits : Nat → Nd → Bool
  | 0, _ => true
  | m + 1, n => n.kids.all (fits m) && decide ((cont m n).length ≤ 4000)
/-- What is wrong with it. -/
def errN (n : Nd) : Nat := if deep 8 n = false then 91 else if shaped 8 n = false then 90 else if fits 8 n = false then 2 else 0
def encS (n : Nd) : B := if errN n = 0 then enc 8 n else []

def hdS : B → Except Nat (Nat × Nat × Nat)
  | [] => .error 92
  | t :: r => if tagB t.toNat = false then .error 90 else match r with
    | [] => .error 92
    | l :: q => if l.toNat < 128 then .ok (t.toNat, l.toNat, 2)
      else if l.toNat = 129 then match q with
        | [] => .error 92
        | a :: _ => if a.toNat < 128 then .error 90 else .ok (t.toNat, a.toNat, 3)
      else if l.toNat = 130 then match q with
        | a :: b :: _ => if 256 * a.toNat + b.toNat < 256 then .error 90 else if 4000 < 256 * a.toNat + b.toNat then .error 2 else .ok (t.toNat, 256 * a.toNat + b.toNat, 4)
        | _ => .error 92
      else .error 90
def kidsG (f : B → Except Nat (Nd × Nat)) : Nat → B → Except Nat (List Nd)
  | 0, s => if s = [] then .ok [] else .error 0
  | k + 1, s => if s = [] then .ok [] else match f s with
    | .error e => .error e
    | .ok (n, u) => match kidsG f k (s.drop u) with
      | .error e => .error e
      | .ok ns => .ok (n :: ns)
def rd : Nat → B → Except Nat (Nd × Nat)
  | 0, _ => .error 91
  | m + 1, s => match hdS s with
    | .error e => .error e
    | .ok (t, c, h) => if s.length < h + c then .error 92
      else if conB t then match kidsG (rd m) ((s.drop h).take c).length ((s.drop h).take c) with
        | .error e => .error (if e = 92 then 90 else e)
        | .ok ks => .ok (.mk t [] ks, h + c)
      else .ok (.mk t ((s.drop h).take c) [], h + c)

/-! ### The head -/
theorem ofNat_lt {c : Nat} (h : c < 256) : (UInt8.ofNat c).toNat = c := by simp [UInt8.toNat_ofNat']; omega
theorem len_pos (c : Nat) : 1 ≤ (lenB c).length ∧ (lenB c).length ≤ 3 := by
  unfold lenB
  split
  · simp
  · split <;> simp
theorem hd_enc {t : UInt8} (ht : tagB t.toNat = true) {c : Nat} (hc : c ≤ 4000) (r : B) : hdS (t :: (lenB c ++ r)) = .ok (t.toNat, c, 1 + (lenB c).length) := by
  unfold lenB
  by_cases h1 : c < 128
  · rw [if_pos h1]
    simp only [List.singleton_append, hdS, ht]
    rw [ofNat_lt (by omega)]
    simp [h1]
  · rw [if_neg h1]
    by_cases h2 : c < 256
    · rw [if_pos h2]
      simp only [List.cons_append, List.nil_append, hdS, ht]
      rw [ofNat_lt (by omega)]
      simp [h1]
    · rw [if_neg h2]
      simp only [List.cons_append, List.nil_append, hdS, ht]
      rw [ofNat_lt (c := c / 256) (by omega), ofNat_lt (c := c % 256) (by omega)]
      have e : 256 * (c / 256) + c % 256 = c := by omega
      rw [e]
      simp [h2]
      omega
theorem hd_cut {t : UInt8} (ht : tagB t.toNat = true) {c : Nat} (hc : c ≤ 4000) {k : Nat} (hk : k < 1 + (lenB c).length) : hdS ((t :: lenB c).take k) = .error 92 := by
  unfold lenB at hk ⊢
  by_cases h1 : c < 128
  · rw [if_pos h1] at hk ⊢
    match k, hk with
    | 0, _ => rfl
    | 1, _ => simp [hdS, ht]
  · rw [if_neg h1] at hk ⊢
    by_cases h2 : c < 256
    · rw [if_pos h2] at hk ⊢
      match k, hk with
      | 0, _ => rfl
      | 1, _ => simp [hdS, ht]
      | 2, _ => simp [hdS, ht]
    · rw [if_neg h2] at hk ⊢
      match k, hk with
      | 0, _ => rfl
      | 1, _ => simp [hdS, ht]
      | 2, _ => simp [hdS, ht]
      | 3, _ => simp [hdS, ht]
theorem lt256 (b : UInt8) : b.toNat < 256 := UInt8.toNat_lt b
theorem ofNat_toNat (b : UInt8) : UInt8.ofNat b.toNat = b := by simp
theorem hd_inv {s : B} {t c h : Nat} (hs : hdS s = .ok (t, c, h)) : ∃ b : UInt8, t = b.toNat ∧ tagB b.toNat = true ∧ c ≤ 4000 ∧ h = 1 + (lenB c).length ∧ ∃ r, s = b :: (lenB c ++ r) := by
  match s, hs with
  | [], hs => cases hs
  | [b], hs =>
    simp only [hdS] at hs
    split at hs <;> cases hs
  | b :: l :: q, hs =>
    simp only [hdS] at hs
    by_cases hb : tagB b.toNat = false
    · rw [if_pos hb] at hs; cases hs
    rw [if_neg hb] at hs
    have hb : tagB b.toNat = true := by simpa using hb
    split at hs
    · rename_i hl
      cases hs
      refine ⟨b, rfl, hb, by omega, ?_, q, ?_⟩
      · unfold lenB; rw [if_pos hl]; rfl
      · unfold lenB; rw [if_pos hl, ofNat_toNat]; rfl
    · rename_i hl
      split at hs
      · rename_i hl1
        split at hs
        · cases hs
        · rename_i a r
          split at hs
          · cases hs
          · rename_i ha
            cases hs
            have h8 := lt256 a
            have e : lenB a.toNat = [129, a] := by unfold lenB; rw [if_neg ha, if_pos h8, ofNat_toNat]
            have el : l = 129 := UInt8.toNat_inj.1 hl1
            exact ⟨b, rfl, hb, by omega, by rw [e]; rfl, r, by rw [e, el]; rfl⟩
      · split at hs
        · rename_i hl2
          split at hs
          · rename_i a a' r
            split at hs
            · cases hs
            · split at hs
              · cases hs
              · rename_i h1 h2
                cases hs
                have h8 := lt256 a
                have h9 := lt256 a'
                have e : lenB (256 * a.toNat + a'.toNat) = [130, a, a'] := by
                  unfold lenB
                  rw [if_neg (by omega), if_neg (by omega), show (256 * a.toNat + a'.toNat) / 256 = a.toNat by omega, show (256 * a.toNat + a'.toNat) % 256 = a'.toNat by omega, ofNat_toNat, ofNat_toNat]
                have el : l = 130 := UInt8.toNat_inj.1 hl2
                exact ⟨b, rfl, hb, by omega, by rw [e]; rfl, r, by rw [e, el]; rfl⟩
          · cases hs
        · cases hs

/-! ### What was written is read -/
theorem tag_back {t : Int} (h : tagB t = true) : ((UInt8.ofNat t.toNat).toNat : Int) = t := by
  simp only [tagB, Bool.and_eq_true, decide_eq_true_eq] at h
  rw [ofNat_lt (by omega)]
  omega
theorem enc_len (m : Nat) (n : Nd) : (enc (m + 1) n).length = 1 + (lenB (cont m n).length).length + (cont m n).length := by
  rw [enc_succ]; simp; omega
theorem kids_enc {m : Nat} (f : B → Except Nat (Nd × Nat)) : ∀ (ks : List Nd) (k : Nat), (∀ x ∈ ks, ∀ r, f (enc m x ++ r) = .ok (x, (enc m x).length)) → (∀ x ∈ ks, 1 ≤ (enc m x).length) → (ks.map (enc m)).flatten.length ≤ k → kidsG f k (ks.map (enc m)).flatten = .ok ks
  | [], k, _, _, _ => by cases k <;> rfl
  | x :: r, 0, _, h1, hk => by
    have := h1 x (by simp)
    rw [List.map_cons, List.flatten_cons, List.length_append] at hk
    omega
  | x :: r, k + 1, hf, h1, hk => by
    have hx := h1 x (by simp)
    have e : (List.map (enc m) (x :: r)).flatten = enc m x ++ (r.map (enc m)).flatten := by simp
    rw [e] at hk ⊢
    have hne : enc m x ++ (r.map (enc m)).flatten ≠ [] := by
      intro h0
      have h2 := (List.append_eq_nil_iff.1 h0).1
      have h3 := h1 x (by simp)
      rw [h2] at h3
      exact absurd h3 (by simp)
    unfold kidsG
    rw [if_neg hne, hf x (by simp)]
    simp only [List.drop_left]
    rw [kids_enc f r k (fun y hy => hf y (by simp [hy])) (fun y hy => h1 y (by simp [hy])) (by rw [List.length_append] at hk; have := h1 x (by simp); omega)]
theorem rd_enc : ∀ (m : Nat) (n : Nd) (r : B), deep m n = true → shaped m n = true → fits m n = true → rd m (enc m n ++ r) = .ok (n, (enc m n).length)
  | 0, n, r, h, _, _ => by cases h
  | m + 1, n, r, hd, hs, hf => by
    simp only [deep, List.all_eq_true] at hd
    simp only [shaped, Bool.and_eq_true, List.all_eq_true] at hs
    simp only [fits, Bool.and_eq_true, List.all_eq_true, decide_eq_true_eq] at hf
    obtain ⟨⟨ht, hsh⟩, hsk⟩ := hs
    obtain ⟨hfk, hfl⟩ := hf
    have htb := tag_back ht
    have hkid : ∀ x ∈ n.kids, ∀ r, rd m (enc m x ++ r) = .ok (x, (enc m x).length) := fun x hx r => rd_enc m x r (hd x hx) (hsk x hx) (hfk x hx)
    have e1 : enc (m + 1) n ++ r = UInt8.ofNat n.tag.toNat :: (lenB (cont m n).length ++ (cont m n ++ r)) := by rw [enc_succ]; simp
    have ehd := hd_enc (t := UInt8.ofNat n.tag.toNat) (by rw [htb]; exact ht) hfl (cont m n ++ r)
    have el := enc_len m n
    have e2 : ((UInt8.ofNat n.tag.toNat :: (lenB (cont m n).length ++ (cont m n ++ r))).drop (1 + (lenB (cont m n).length).length)).take (cont m n).length = cont m n := by
      rw [show (UInt8.ofNat n.tag.toNat :: (lenB (cont m n).length ++ (cont m n ++ r))) = (UInt8.ofNat n.tag.toNat :: lenB (cont m n).length) ++ (cont m n ++ r) by simp]
      rw [List.drop_left' (by simp; omega), List.take_left]
    unfold rd
    rw [e1, ehd]
    simp only
    rw [if_neg (by simp; omega), e2, htb]
    by_cases hc : conB n.tag = true
    · rw [if_pos hc] at hsh ⊢
      have hb : n.body = [] := by simpa using hsh
      have ec : cont m n = (n.kids.map (enc m)).flatten := by unfold cont; rw [hb]; rfl
      rw [ec, kids_enc (rd m) n.kids _ hkid (fun x hx => by
        cases m with
        | zero => have := hd x hx; simp [deep] at this
        | succ j => have := enc_len j x; have := len_pos (cont j x).length; omega) (Nat.le_refl _)]
      simp only
      rw [← ec, el]
      congr 2
      rw [← Nd.eta n, hb]; rfl
    · rw [if_neg hc] at hsh ⊢
      have hk : n.kids = [] := by simpa using hsh
      rw [el]
      congr 2
      have ec : cont m n = n.body := by unfold cont; rw [hk]; simp
      rw [ec, ← Nd.eta n, hk]; rfl
/-! ### What was read is written so -/
theorem kids_inv {m : Nat} : ∀ (k : Nat) (s : B) (ks : List Nd), (∀ s n u, rd m s = .ok (n, u) → deep m n = true ∧ shaped m n = true ∧ fits m n = true ∧ enc m n = s.take u ∧ 2 ≤ u ∧ u ≤ s.length) → kidsG (rd m) k s = .ok ks → (ks.map (enc m)).flatten = s ∧ ∀ x ∈ ks, deep m x = true ∧ shaped m x = true ∧ fits m x = true
  | 0, s, ks, _, h => by
    unfold kidsG at h
    split at h
    · rename_i h0; cases h; subst h0; simp
    · cases h
  | k + 1, s, ks, hi, h => by
    unfold kidsG at h
    split at h
    · rename_i h0; cases h; subst h0; simp
    · split at h
      · cases h
      · rename_i n u hr
        split at h
        · cases h
        · rename_i ns hk
          cases h
          obtain ⟨h1, h2, h3, h4, _, h6⟩ := hi _ _ _ hr
          obtain ⟨g1, g2⟩ := kids_inv k _ _ hi hk
          refine ⟨by rw [List.map_cons, List.flatten_cons, g1, h4, List.take_append_drop], fun x hx => ?_⟩
          rcases List.mem_cons.1 hx with rfl | hx
          · exact ⟨h1, h2, h3⟩
          · exact g2 x hx
theorem tag_ofNat (b : UInt8) : UInt8.ofNat ((b.toNat : Int)).toNat = b := by simp
theorem rd_inv : ∀ (m : Nat) (s : B) (n : Nd) (u : Nat), rd m s = .ok (n, u) → deep m n = true ∧ shaped m n = true ∧ fits m n = true ∧ enc m n = s.take u ∧ 2 ≤ u ∧ u ≤ s.length
  | 0, s, n, u, h => by cases h
  | m + 1, s, n, u, h => by
    unfold rd at h
    split at h
    · cases h
    rename_i t c hh hhd
    obtain ⟨b, rfl, hb, hc, rfl, r, rfl⟩ := hd_inv hhd
    split at h
    · cases h
    rename_i hlen
    have hlp := len_pos c
    have hlr : c ≤ r.length := by simp at hlen; omega
    have e2 : ((b :: (lenB c ++ r)).drop (1 + (lenB c).length)).take c = r.take c := by
      rw [show b :: (lenB c ++ r) = (b :: lenB c) ++ r by simp, List.drop_left' (by simp; omega)]
    have e3 : (b :: (lenB c ++ r)).take (1 + (lenB c).length + c) = b :: (lenB c ++ r.take c) := by
      rw [show b :: (lenB c ++ r) = (b :: lenB c) ++ r by simp, List.take_append, List.take_of_length_le (by simp; omega)]
      simp only [List.length_cons, List.cons_append]
      congr 3
      omega
    have elc : (r.take c).length = c := by rw [List.length_take]; omega
    rw [e2] at h
    split at h
    · rename_i hcon
      split at h
      · cases h
      · rename_i ks hk
        cases h
        obtain ⟨g1, g2⟩ := kids_inv _ _ _ (fun s n u => rd_inv m s n u) hk
        have ec : cont m (.mk b.toNat [] ks) = r.take c := by unfold cont; simpa [Nd.body, Nd.kids] using g1
        refine ⟨?_, ?_, ?_, ?_, by omega, by omega⟩
        · simp only [deep, List.all_eq_true]; exact fun x hx => (g2 x hx).1
        · simp only [shaped, Bool.and_eq_true, List.all_eq_true]
          refine ⟨⟨hb, ?_⟩, fun x hx => (g2 x hx).2.1⟩
          show (if conB (b.toNat : Int) = true then ([] : B).isEmpty else ks.isEmpty) = true
          rw [if_pos hcon]; rfl
        · simp only [fits, Bool.and_eq_true, List.all_eq_true, decide_eq_true_eq]
          exact ⟨fun x hx => (g2 x hx).2.2, by rw [ec, elc]; exact hc⟩
        · rw [enc_succ, ec, elc, e3]
          show UInt8.ofNat ((b.toNat : Int)).toNat :: _ = _
          rw [tag_ofNat]
    · rename_i hcon
      cases h
      have ec : cont m (.mk b.toNat (r.take c) []) = r.take c := by unfold cont; simp [Nd.body, Nd.kids]
      refine ⟨?_, ?_, ?_, ?_, by omega, by omega⟩
      · simp [deep, Nd.kids]
      · simp only [shaped, Bool.and_eq_true, List.all_eq_true]
        refine ⟨⟨hb, ?_⟩, fun x hx => by cases hx⟩
        show (if conB (b.toNat : Int) = true then (r.take c).isEmpty else ([] : List Nd).isEmpty) = true
        rw [if_neg hcon]; rfl
      · have e0 : fits (m + 1) (.mk b.toNat (r.take c) []) = (([] : List Nd).all (fits m) && decide ((cont m (.mk b.toNat (r.take c) [])).length ≤ 4000)) := rfl
        rw [e0, ec, elc]
        simpa using hc
      · rw [enc_succ, ec, elc, e3]
        show UInt8.ofNat ((b.toNat : Int)).toNat :: _ = _
        rw [tag_ofNat]
/-- A piece that is cut off is short. -/
theorem rd_cut {m : Nat} {n : Nd} (hs : shaped (m + 1) n = true) (hf : fits (m + 1) n = true) {k : Nat} (hk : k < (enc (m + 1) n).length) : rd (m + 1) ((enc (m + 1) n).take k) = .error 92 := by
  simp only [shaped, Bool.and_eq_true] at hs
  simp only [fits, Bool.and_eq_true, decide_eq_true_eq] at hf
  obtain ⟨⟨ht, -⟩, -⟩ := hs
  have hfl := hf.2
  have htb := tag_back ht
  have ht' : tagB (UInt8.ofNat n.tag.toNat).toNat = true := by rw [htb]; exact ht
  have el := enc_len m n
  rw [enc_succ] at *
  unfold rd
  by_cases h1 : k < 1 + (lenB (cont m n).length).length
  · rw [show (UInt8.ofNat n.tag.toNat :: (lenB (cont m n).length ++ cont m n)).take k = (UInt8.ofNat n.tag.toNat :: lenB (cont m n).length).take k by
      rw [← List.cons_append, List.take_append_of_le_length (by simp; omega)]]
    rw [hd_cut ht' hfl h1]
  · rw [show (UInt8.ofNat n.tag.toNat :: (lenB (cont m n).length ++ cont m n)).take k = UInt8.ofNat n.tag.toNat :: (lenB (cont m n).length ++ (cont m n).take (k - (1 + (lenB (cont m n).length).length))) by
      rw [← List.cons_append, List.take_append, List.take_of_length_le (by simp; omega)]
      simp only [List.length_cons, List.cons_append]
      congr 3
      omega]
    rw [hd_enc ht' hfl]
    simp only
    rw [if_pos (by simp; omega)]
theorem err_zero {n : Nd} : errN n = 0 ↔ deep 8 n = true ∧ shaped 8 n = true ∧ fits 8 n = true := by
  unfold errN
  by_cases h1 : deep 8 n = false
  · rw [if_pos h1]; simp [h1]
  · rw [if_neg h1]
    by_cases h2 : shaped 8 n = false
    · rw [if_pos h2]; simp [h2]
    · rw [if_neg h2]
      by_cases h3 : fits 8 n = false
      · rw [if_pos h3]; simp [h3]
      · rw [if_neg h3]
        simp at h1 h2 h3
        simp [h1, h2, h3]
theorem enc8_len {n : Nd} (h : fits 8 n = true) : (enc 8 n).length ≤ 4004 := by
  simp only [fits, Bool.and_eq_true, decide_eq_true_eq] at h
  show (enc (7 + 1) n).length ≤ 4004
  have := enc_len 7 n
  have := len_pos (cont 7 n).length
  have := h.2
  omega
end Go.Proofs.YthjmkfpdbbfcpaaGreatDoor.BE
