/-
  The program's strings.IndexByte, Cut, Compare.
-/
import Derived.Test.YthjmkfpdbbfcpaaGreatDoorDnX
import Derived.Test.YthjmkfpdbbfcpaaGreatDoorDnK
import Derived.Laws.Externs
set_option linter.unusedVariables false
set_option linter.unusedSimpArgs false
namespace Go.Proofs.YthjmkfpdbbfcpaaGreatDoor.DN
set_option maxRecDepth 100000
open Go.RowKit K Go.Proofs.YthjmkfpdbbfcpaaGreatDoor.BE

theorem u8_back (c : UInt8) : ((c.toNat : Int).toNat.toUInt8) = c := by simp
theorem sliteIndexByte (s : B) (c : UInt8) (w : World) : Calls Tryz.prog 68 #[.string (sb s), .int .u8 (c.toNat : Int)] w fun e w' => e = .returned (.int .i64 (Lib.indexByte s c)) ∧ w' = w := by
  obtain ⟨x, hx⟩ : ∃ x : Int, (c.toNat : Int) = x := ⟨_, rfl⟩
  have HX : Hid (Lib.indexByte s c = Lib.indexByte (sb s).data.toList x.toNat.toUInt8) := hid (by rw [← hx, u8_back, sb_list])
  rw [HX.out, hx]
  clear HX hx
  go_enter Tryz.func68, Tryz.ntmps68
  go_wp2
  rw [run_callFunc_extern Tryz.func77 (by kernel_rfl) (by kernel_rfl) (by kernel_rfl) (e := Extern.BytealgIndexByte.indexByte) (by kernel_rfl), Lib.run_indexByteString]
  simp only [Result.andThen]
  rw [Oper.upon_value]
  go_wp2
  go_ret
  exact ⟨rfl, rfl⟩
theorem indexByte_any (s : B) (c : UInt8) (w : World) : Calls Tryz.prog 62 #[.string (sb s), .int .u8 (c.toNat : Int)] w fun e w' => e = .returned (.int .i64 (Lib.indexByte s c)) ∧ w' = w := by
  have H := hid (sliteIndexByte s c w)
  obtain ⟨x, hx⟩ : ∃ x : Int, (c.toNat : Int) = x := ⟨_, rfl⟩
  obtain ⟨y, hy⟩ : ∃ y : Int, Lib.indexByte s c = y := ⟨_, rfl⟩
  rw [hx, hy] at H ⊢
  clear hx hy
  go_enter Tryz.func62, Tryz.ntmps62
  go_wp2_with fail
  refine H.out.mono ?_
  rintro e w1 ⟨rfl, rfl⟩
  go_wp2_with fail
  go_ret
  exact ⟨rfl, rfl⟩
theorem compareString_any (a b : B) (w : World) : Calls Tryz.prog 65 #[.string (sb a), .string (sb b)] w fun e w' => e = .returned (.int .i64 (Lib.compareBytes a b)) ∧ w' = w := by
  have HX : Hid (Lib.compareBytes a b = Lib.compareBytes (sb a).data.toList (sb b).data.toList) := hid (by rw [sb_list, sb_list])
  rw [HX.out]
  clear HX
  go_enter Tryz.func65, Tryz.ntmps65
  go_wp2
  rw [run_callFunc_extern Tryz.func71 (by kernel_rfl) (by kernel_rfl) (by kernel_rfl) (e := Extern.BytealgCompare.compare) (by kernel_rfl), Lib.run_compareString]
  simp only [Result.andThen]
  rw [Oper.upon_value]
  go_wp2
  go_ret
  exact ⟨rfl, rfl⟩
theorem compare_any (a b : B) (w : World) : Calls Tryz.prog 57 #[.string (sb a), .string (sb b)] w fun e w' => e = .returned (.int .i64 (Lib.compareBytes a b)) ∧ w' = w := by
  have H := hid (compareString_any a b w)
  obtain ⟨y, hy⟩ : ∃ y : Int, Lib.compareBytes a b = y := ⟨_, rfl⟩
  rw [hy] at H ⊢
  clear hy
  go_enter Tryz.func57, Tryz.ntmps57
  go_wp2_with fail
  refine H.out.mono ?_
  rintro e w1 ⟨rfl, rfl⟩
  go_wp2_with fail
  go_ret
  exact ⟨rfl, rfl⟩
/-- Where the first one is. -/
theorem cut_index : ∀ s : B, (cutEq s = none ∧ Lib.indexByte s 61 = -1) ∨ ∃ (i : Nat) (a b : B), cutEq s = some (a, b) ∧ Lib.indexByte s 61 = i ∧ s = a ++ 61 :: b ∧ a.length = i
  | [] => .inl ⟨rfl, rfl⟩
  | c :: r => by
    by_cases hc : c = 61
    · subst hc
      exact .inr ⟨0, [], r, by simp [cutEq], by simp [Lib.indexByte], rfl, rfl⟩
    · rcases cut_index r with ⟨h1, h2⟩ | ⟨i, a, b, h1, h2, h3, h4⟩
      · left
        refine ⟨by simp [cutEq, hc, h1], ?_⟩
        unfold Lib.indexByte
        rw [h2]
        simp [hc]
      · right
        refine ⟨i + 1, c :: a, b, by simp [cutEq, hc, h1], ?_, by rw [h3]; rfl, by simp [h4]⟩
        unfold Lib.indexByte
        rw [h2]
        have h5 : ((i : Int) == -1) = false := by rw [beq_eq_false_iff_ne]; omega
        simp [hc, h5]
theorem sliteIndex_eq (s : B) (w : World) : Calls Tryz.prog 66 #[.string (sb s), .string (sb [61])] w fun e w' => e = .returned (.int .i64 (Lib.indexByte s 61)) ∧ w' = w := by
  have H := hid (sliteIndexByte s 61 w)
  have HEQ : Hid (([61] == ByteArray.toList (sb s)) = decide ([61] = s)) := hid (by have := neq_sb [61] s; rw [ByteArray.toList_eq, sb_list] at this; exact this)
  by_cases he : [61] = s
  · subst he
    have h0 : Lib.indexByte [61] 61 = 0 := rfl
    rw [h0]
    rw [decide_eq_true rfl] at HEQ
    have hq := HEQ.out
    rw [show sb [61] = (⟨#[61]⟩ : ByteArray) from rfl] at hq ⊢
    clear H h0 HEQ
    go_enter Tryz.func66, Tryz.ntmps66
    go_wp2
    go_ret
    exact ⟨rfl, rfl⟩
  · rw [decide_eq_false he] at HEQ
    have hq := HEQ.out
    obtain ⟨y, hy⟩ : ∃ y : Int, Lib.indexByte s 61 = y := ⟨_, rfl⟩
    rw [hy] at H ⊢
    clear hy he HEQ
    rw [show ((61 : UInt8).toNat : Int) = 61 from rfl] at H
    rw [show sb [61] = (⟨#[61]⟩ : ByteArray) from rfl]
    go_enter Tryz.func66, Tryz.ntmps66
    go_wp2_with fail
    refine H.out.mono ?_
    rintro e w1 ⟨rfl, rfl⟩
    go_wp2_with fail
    go_ret
    exact ⟨rfl, rfl⟩
/-- What is told of a text that is cut at its first sign =. -/
def cutE (s : B) : Value := match cutEq s with
  | none => .tuple #[.string (sb s), .string (sb []), .bool false]
  | some x => .tuple #[.string (sb x.1), .string (sb x.2), .bool true]
theorem sliteCut (s : B) (hs : Sz s) (w : World) : Calls Tryz.prog 59 #[.string (sb s), .string (sb [61])] w fun e w' => e = .returned (cutE s) ∧ Fr No w w' := by
  have H := hid (sliteIndex_eq s w)
  have hz : (sb [61]).size = 1 := rfl
  have HZ := hid hz
  clear hz
  rcases cut_index s with ⟨h1, h2⟩ | ⟨i, a, b, h1, h2, h3, h4⟩
  · have HE : Hid (cutE s = .tuple #[.string (sb s), .string ⟨#[]⟩, .bool false]) := hid (by unfold cutE; rw [h1]; rfl)
    rw [h2] at H
    rw [HE.out]
    clear h1 h2 HE
    go_enter Tryz.func59, Tryz.ntmps59
    go_wp2_with fail
    refine H.out.mono ?_
    rintro e w1 ⟨rfl, rfl⟩
    go_wp2_with fail
    refine ret_three rfl rfl ⟨rfl, Fr.refl _ _⟩
  · have HE : Hid (cutE s = .tuple #[.string (sb a), .string (sb b), .bool true]) := hid (by unfold cutE; rw [h1])
    have hsl : s.length = i + 1 + b.length := by rw [h3, List.length_append, List.length_cons, h4]; omega
    have h5 : s.take i = a := by rw [h3, ← h4, List.take_left]
    have h6 : s.drop (i + 1) = b := by rw [h3, ← h4]; simp
    have hwr : IntKind.i64.wrap ((i : Int) + 1) = (i : Int) + 1 := by unfold Sz at hs; rw [IntKind.wrap_i64]; omega
    have HT := hid h5; have HD := hid h6; have HL := hid hsl
    have hi : (i : Int) ≤ 140737488351232 := by unfold Sz at hs; omega
    have hi0 : (0 : Int) ≤ i := by omega
    have hq1 : decide ((0 : Int) ≤ i) = true := decide_eq_true hi0
    rw [h2] at H
    rw [HE.out]
    clear h1 h2 h3 h4 h5 h6 HE hsl hs
    go_enter Tryz.func59, Tryz.ntmps59
    go_wp2_with fail
    refine H.out.mono ?_
    rintro e w1 ⟨rfl, rfl⟩
    go_wp2_with fail
    have hold : Facts.hold [] w1.drew := Facts.nil_hold _
    refine wpD_region hold (by kernel_rfl) 12 rfl ?_
    (refine wpD_plain 0 (v := ?_) rfl (by kernel_rfl) (by kernel_rfl) (by kernel_rfl) (fun _ _ _ h => h) (by rfl) ?_ (by assumption) ?_; rotate_left; (intro _w; go_simp; try with_reducible rfl); simp only [Act.put, K.put3])
    (refine wpD_plain 1 (v := ?_) rfl (by kernel_rfl) (by kernel_rfl) (by kernel_rfl) (fun _ _ _ h => h) (by rfl) ?_ (by assumption) ?_; rotate_left; (intro _w; go_simp; try with_reducible rfl); simp only [Act.put, K.put3])
    (refine wpD_plain 2 (v := (.string (sb a))) rfl (by kernel_rfl) (by kernel_rfl) (by kernel_rfl) (fun _ _ _ h => h) (by rfl) ?_ (by assumption) ?_; (intro _w; exact exec_to _ _ rfl s i rfl rfl (by rw [HL.out]; omega) _ HT.out _w); simp only [Act.put, K.put3])
    (refine wpD_plain 3 (v := ?_) rfl (by kernel_rfl) (by kernel_rfl) (by kernel_rfl) (fun _ _ _ h => h) (by rfl) ?_ (by assumption) ?_; rotate_left; (intro _w; go_simp; try with_reducible rfl); simp only [Act.put, K.put3])
    (refine wpD_plain 4 (v := ?_) rfl (by kernel_rfl) (by kernel_rfl) (by kernel_rfl) (fun _ _ _ h => h) (by rfl) ?_ (by assumption) ?_; rotate_left; (intro _w; go_simp; try with_reducible rfl); simp only [Act.put, K.put3])
    (refine wpD_plain 5 (v := ?_) rfl (by kernel_rfl) (by kernel_rfl) (by kernel_rfl) (fun _ _ _ h => h) (by rfl) ?_ (by assumption) ?_; rotate_left; (intro _w; go_simp; try with_reducible rfl); simp only [Act.put, K.put3])
    (refine wpD_plain 6 (v := (.int .i64 1)) rfl (by kernel_rfl) (by kernel_rfl) (by kernel_rfl) (fun _ _ _ h => h) (by rfl) ?_ (by assumption) ?_; (intro _w; go_simp; rw [HZ.out]; rfl); simp only [Act.put, K.put3])
    (refine wpD_plain 7 (v := (.int .i64 ((i : Int) + 1))) rfl (by kernel_rfl) (by kernel_rfl) (by kernel_rfl) (fun _ _ _ h => h) (by rfl) ?_ (by assumption) ?_; (intro _w; go_simp; skip); simp only [Act.put, K.put3])
    (refine wpD_plain 8 (v := (.string (sb b))) rfl (by kernel_rfl) (by kernel_rfl) (by kernel_rfl) (fun _ _ _ h => h) (by rfl) ?_ (by assumption) ?_; (intro _w; exact exec_from _ _ rfl s (i + 1) rfl rfl (by rw [HL.out]; omega) _ HD.out _w); simp only [Act.put, K.put3])
    (refine wpD_plain 9 (v := ?_) rfl (by kernel_rfl) (by kernel_rfl) (by kernel_rfl) (fun _ _ _ h => h) (by rfl) ?_ (by assumption) ?_; rotate_left; (intro _w; go_simp; try with_reducible rfl); simp only [Act.put, K.put3])
    (refine wpD_plain 10 (v := ?_) rfl (by kernel_rfl) (by kernel_rfl) (by kernel_rfl) (fun _ _ _ h => h) (by rfl) ?_ (by assumption) ?_; rotate_left; (intro _w; go_simp; try with_reducible rfl); simp only [Act.put, K.put3])
    (refine wpD_plain 11 (v := ?_) rfl (by kernel_rfl) (by kernel_rfl) (by kernel_rfl) (fun _ _ _ h => h) (by rfl) ?_ (by assumption) ?_; rotate_left; (intro _w; go_simp; try with_reducible rfl); simp only [Act.put, K.put3])
    clear hold
    refine wpD_done (by kernel_rfl) ?_ _
    go_wp2_with fail
    refine ret_three rfl rfl ⟨rfl, (Fr.refl _ _).drew⟩
theorem cut_any (s : B) (hs : Sz s) (w : World) : Calls Tryz.prog 48 #[.string (sb s), .string (sb [61])] w fun e w' => e = .returned (cutE s) ∧ Fr No w w' := by
  have H := hid (sliteCut s hs w)
  obtain ⟨a, b, c, hy⟩ : ∃ a b c, cutE s = .tuple #[a, b, c] := by
    unfold cutE
    cases cutEq s with
    | none => exact ⟨_, _, _, rfl⟩
    | some x => exact ⟨_, _, _, rfl⟩
  rw [hy] at H ⊢
  clear hy hs
  go_enter Tryz.func48, Tryz.ntmps48
  go_wp2_with fail
  refine H.out.mono ?_
  rintro e w1 ⟨rfl, f1⟩
  have HF := hid f1
  clear f1
  go_wp2_with fail
  refine ret_three rfl rfl ⟨rfl, HF.out⟩
end Go.Proofs.YthjmkfpdbbfcpaaGreatDoor.DN
