/-
  A text's words, found rune by rune, are those found byte by byte. No program.
-/
import Derived.Test.YthjmkfpdbbfcpaaGreatDoorDnK
import Derived.Lib.FieldsP
import Derived.Laws.RangeAny
import Derived.Lib.SpaceUEq
import Derived.Lib.Join
set_option linter.unusedVariables false
set_option linter.unusedSimpArgs false
namespace Go.Proofs.YthjmkfpdbbfcpaaGreatDoor.DN
set_option maxRecDepth 100000
open Go.Proofs.YthjmkfpdbbfcpaaGreatDoor.BE Go.Lib

theorem extract_piece (s : ByteArray) (a b : Nat) : (s.extract a b).data.toList = pieceU s.data.toList a b := by
  unfold pieceU
  rw [ByteArray.data_extract, Array.toList_extract, List.extract_eq_take_drop]
theorem dec_facts (s : ByteArray) (pos : Nat) (h : pos < s.size) : 1 ≤ (Utf8.decode s pos).2 ∧ pos + (Utf8.decode s pos).2 ≤ s.size ∧ ((Utf8.decode s pos).1 = 32 → s.data.toList[pos]? = some 32 ∧ (Utf8.decode s pos).2 = 1) ∧
    ((Utf8.decode s pos).1 ≠ 32 → ∀ c ∈ (s.data.toList.drop pos).take (Utf8.decode s pos).2, c ≠ 32) := by
  have hl : s.data.toList.length = s.size := by simp
  have hw := width_pos s pos
  have hN := decode_N s pos
  have hle := decodeN_le_n' (s.data.toList.length - pos) (s.data.toList.getD pos 0).toNat (s.data.toList.getD (pos + 1) 0).toNat (s.data.toList.getD (pos + 2) 0).toNat (s.data.toList.getD (pos + 3) 0).toNat (by omega)
  have hc := decodeN_conts (s.data.toList.length - pos) (s.data.toList.getD pos 0).toNat (s.data.toList.getD (pos + 1) 0).toNat (s.data.toList.getD (pos + 2) 0).toNat (s.data.toList.getD (pos + 3) 0).toNat
  rw [← hN] at hle hc
  have hget : s.data.toList[pos]? = some (s.data.toList.getD pos 0) := by
    rw [List.getD_eq_getElem?_getD, List.getElem?_eq_getElem (by omega)]; rfl
  have hsp : s[pos]'h = s.data.toList.getD pos 0 := by
    rw [List.getD_eq_getElem?_getD, List.getElem?_eq_getElem (by omega)]
    rfl
  refine ⟨hw, by omega, ?_, ?_⟩
  · intro h32
    by_cases hb : (s.data.toList.getD pos 0).toNat < 128
    · rw [decodeN_ascii _ _ _ _ _ hb] at hN
      rw [hN] at h32 ⊢
      have : s.data.toList.getD pos 0 = 32 := UInt8.toNat_inj.1 h32
      rw [hget, this]
      exact ⟨rfl, rfl⟩
    · have := (decode_high s pos h (by rw [hsp]; omega)).1
      omega
  · intro h32 c hcm
    obtain ⟨j, hj⟩ := List.mem_iff_getElem?.1 hcm
    have hjk : j < (Utf8.decode s pos).2 := by
      have := (List.getElem?_eq_some_iff.1 hj).1
      rw [List.length_take] at this
      omega
    rw [List.getElem?_take, if_pos hjk, List.getElem?_drop] at hj
    have hd : s.data.toList.getD (pos + j) 0 = c := by rw [List.getD_eq_getElem?_getD, hj]; rfl
    intro e
    subst e
    obtain ⟨c1, c2, c3, c4⟩ := hc
    have h3 : j = 0 ∨ j = 1 ∨ j = 2 ∨ j = 3 := by omega
    rcases h3 with rfl | rfl | rfl | rfl
    · rw [Nat.add_zero] at hd
      rw [hd] at hN
      rw [decodeN_ascii _ _ _ _ _ (by decide)] at hN
      rw [hN] at h32
      exact h32 rfl
    · have := (c1 (by omega)).1
      rw [hd] at this
      exact absurd this (by decide)
    · have := (c2 (by omega)).1
      rw [hd] at this
      exact absurd this (by decide)
    · have := (c3 (by omega)).1
      rw [hd] at this
      exact absurd this (by decide)
theorem words_end (cur : B) : words cur [] = if cur.isEmpty then [] else [cur] := rfl
theorem words_sp (cur r : B) : words cur (32 :: r) = if cur.isEmpty then words [] r else cur :: words [] r := rfl
theorem close_words (s : ByteArray) (st : Option Nat) (acc : List (Nat × Nat)) (hst : ∀ a, st = some a → a < s.size) :
    (closeSpans s (acc, st)).map (fun x => pieceU s.data.toList x.1 x.2) = acc.map (fun x => pieceU s.data.toList x.1 x.2) ++ words (openPiece s.data.toList st s.size) [] := by
  have hl : s.data.toList.length = s.size := by simp
  cases st with
  | none => simp [closeSpans, openPiece, words_end]
  | some a =>
    have hne := pieceU_ne s.data.toList a s.size (hst a rfl) (by omega)
    rw [words_end]
    show _ = _ ++ if (pieceU s.data.toList a s.size).isEmpty = true then [] else [pieceU s.data.toList a s.size]
    rw [if_neg (by rw [List.isEmpty_iff]; exact hne)]
    simp [closeSpans]
theorem spans_words (s : ByteArray) : ∀ (f pos : Nat) (st : Option Nat) (acc : List (Nat × Nat)), s.size ≤ pos + f → pos ≤ s.size → (∀ a, st = some a → a < pos) →
    (closeSpans s (spansFromP (fun x => x == 32) s f pos st acc)).map (fun x => pieceU s.data.toList x.1 x.2) = acc.map (fun x => pieceU s.data.toList x.1 x.2) ++ words (openPiece s.data.toList st pos) (s.data.toList.drop pos)
  | 0, pos, st, acc, hf, hp, hst => by
    have hl : s.data.toList.length = s.size := by simp
    obtain rfl : pos = s.size := by omega
    rw [List.drop_of_length_le (by omega)]
    exact close_words s st acc hst
  | f + 1, pos, st, acc, hf, hp, hst => by
    have hl : s.data.toList.length = s.size := by simp
    by_cases hlt : pos < s.size
    · obtain ⟨h1, h2, h3, h4⟩ := dec_facts s pos hlt
      unfold spansFromP
      rw [if_pos hlt]
      by_cases h32 : (Utf8.decode s pos).1 = 32
      · obtain ⟨hb, hk⟩ := h3 h32
        have hdrop : s.data.toList.drop pos = 32 :: s.data.toList.drop (pos + 1) := by
          rw [List.drop_eq_getElem_cons (by omega)]
          rw [List.getElem?_eq_getElem (by omega)] at hb
          rw [Option.some.inj hb]
        rw [h32, if_pos (by decide), hk, hdrop, words_sp]
        cases st with
        | none =>
          simp only
          rw [spans_words s f (pos + 1) none acc (by omega) (by omega) (fun a h => by cases h)]
          rfl
        | some a =>
          have hne := pieceU_ne s.data.toList a pos (hst a rfl) (by omega)
          simp only
          rw [spans_words s f (pos + 1) none (acc ++ [(a, pos)]) (by omega) (by omega) (fun a h => by cases h)]
          show _ = _ ++ if (pieceU s.data.toList a pos).isEmpty = true then _ else pieceU s.data.toList a pos :: _
          rw [if_neg (by rw [List.isEmpty_iff]; exact hne)]
          simp [openPiece]
      · have hr : words (openPiece s.data.toList st pos) (s.data.toList.drop pos) = words (openPiece s.data.toList st pos ++ (s.data.toList.drop pos).take (Utf8.decode s pos).2) (s.data.toList.drop (pos + (Utf8.decode s pos).2)) := by
          rw [← List.drop_drop, ← words_run _ _ _ (h4 h32), List.take_append_drop]
        rw [if_neg (by simp [h32]), hr]
        cases st with
        | none =>
          simp only
          rw [spans_words s f _ (some pos) acc (by omega) (by omega) (fun a h => by cases h; omega)]
          simp only [openPiece, List.nil_append, pieceU, Nat.add_sub_cancel_left]
        | some a =>
          have := hst a rfl
          simp only
          rw [spans_words s f _ (some a) acc (by omega) (by omega) (fun b h => by cases h; omega)]
          simp only [openPiece]
          rw [pieceU_grow _ _ _ _ (by omega)]
    · obtain rfl : pos = s.size := by omega
      rw [spansFromP_end _ _ _ _ _ _ hlt, List.drop_of_length_le (by omega)]
      exact close_words s st acc hst
theorem fields_words (s : ByteArray) : (goFieldsP (fun x => x == 32) s).map (·.data.toList) = words [] s.data.toList := by
  have h := spans_words s s.size 0 none [] (by omega) (by omega) (fun a h => by cases h)
  unfold goFieldsP spansOfP
  rw [List.map_map]
  have e : ((fun x : ByteArray => x.data.toList) ∘ fun x : Nat × Nat => s.extract x.1 x.2) = fun x => pieceU s.data.toList x.1 x.2 := by
    funext x
    exact extract_piece s x.1 x.2
  rw [e, h]
  rfl
theorem joinB_eq (sep : B) : ∀ L : List B, Lib.join L sep = joinB sep L
  | [] => rfl
  | [a] => by rw [Lib.join_one]; rfl
  | a :: b :: r => by
    have ih := joinB_eq sep (b :: r)
    rw [Lib.join_cons] at ih ⊢
    simp only [joinB]
    rw [← ih]
    simp [Lib.joinTail]
end Go.Proofs.YthjmkfpdbbfcpaaGreatDoor.DN
