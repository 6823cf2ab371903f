/-
  Part 30 of the proof: SumT.
-/
import Derived.Test.YtflfmkokfbgclaaGreatRc16
import Derived.Test.YtflfmkokfbgclaaGreatRc00
set_option linter.unusedSimpArgs false
set_option linter.unusedVariables false
namespace Go.Proofs.YtflfmkokfbgclaaGreat.S
set_option maxRecDepth 100000
open Go.RowKit K

theorem info5z : (Tryz.prog.info? 5).map (fun i => (i.zero, i.size, i.bytes)) = some (some (.int .u8 0), 1, 1) := by kernel_rfl
theorem add_take (s : Nat) (l : List UInt8) (k : Nat) (h : k < l.length) : add s (l.take (k + 1)) = add (add s (l.take k)) [l[k]] := by
  rw [List.take_succ_eq_append_getElem h, add_append]
theorem add_text (s : Nat) (t : ByteArray) (k : Nat) (h : k < t.size) : add s (t.data.toList.take (k + 1)) = add (add s (t.data.toList.take k)) [t[k]] := by
  have hd : k < t.data.toList.length := by simpa using h
  rw [add_take s _ k hd]
  simp [ByteArray.getElem_eq_getElem_data]

set_option maxRecDepth 100000 in
theorem text_any (t : ByteArray) (w : World) (hl : t.size ≤ 9223372036854775807) : Calls Tryz.prog 44 #[.string t] w fun e w' =>
    e = .returned (.int .u32 (add 0 t.data.toList : Nat)) ∧ Fr No w w' := by
  obtain ⟨i5, hi5, hz5, hs5, hb5⟩ := info_parts info5z
  have Hi := hid hi5; have Hz := hid hz5; have Hs := hid hs5
  clear hi5 hz5 hs5 hb5
  have HA := hid (sum_any [] (.slice none 0 0) w (bytes_nil w Any none 0) (by decide))
  go_enter Tryz.func44, Tryz.ntmps44
  go_wp2_with (go_at_call 62; refine HA.out.mono ?_; rintro e w' ⟨rfl, rfl⟩)
  go_loopw [3, 8] (fun x k wr => ∃ n : Nat, n ≤ t.size ∧ k = .int .i64 n ∧ x = .int .u32 (add 0 (t.data.toList.take n) : Nat) ∧ Fr No w wr) (fun _ k _ => t.size - (intOf k).toNat)
  case atStart => exact ⟨0, by omega, rfl, rfl, Fr.refl _ _⟩
  case round =>
    obtain ⟨n, hn, rfl, rfl, hf⟩ := hrel
    have HF := hid hf; clear hf
    by_cases hlt : n < t.size
    · have HT := hid (add_text 0 t n hlt)
      have HL := hid (add_lt (s := 0) (by decide) (t.data.toList.take n))
      go_wp2_with ((with_reducible show wpList _ _ _ (⟨_, .buildSlice 40 _ _, _, _, _, _⟩ :: _) _ _); refine wpL_buildOne rfl _ 5 _ rfl i5 _ rfl Hi.out Hz.out (by rw [Hs.out]; decide) (by rw [Hs.out]; decide) _ [.int .u8 (t[n].toNat : Int)] rfl rfl (by rw [Hs.out]; rfl) ?_; intro w2 HB2 HF2 HS2)
      have HC := hid (add_any (add 0 (t.data.toList.take n)) [t[n]] (.slice (some ⟨wr.heap.size, 0, none⟩) 1 1) w2 HL.out (Blk.bytes (E := Any) (l := [t[n]]) HB2.out trivial (by simp)) (by simp))
      refine HC.out.mono ?_
      rintro e w' ⟨rfl, rfl⟩
      go_wp2
      go_roundw
      case rel => exact ⟨n + 1, by omega, by go_num, by rw [HT.out], HF.out.trans' HF2.out⟩
      case measure => simp [intOf]; omega
    · obtain rfl : n = t.size := by omega
      rw [List.take_of_length_le (by simp)]
      go_wp2
      go_ret
      exact ⟨rfl, HF.out⟩
end Go.Proofs.YtflfmkokfbgclaaGreat.S
