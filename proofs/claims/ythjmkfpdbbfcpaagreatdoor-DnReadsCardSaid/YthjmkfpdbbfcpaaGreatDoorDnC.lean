/-
  The library's Clone of a text.
-/
import Derived.Test.YthjmkfpdbbfcpaaGreatDoorDnX
import Derived.Lib.UnsafeStr
set_option linter.unusedVariables false
set_option linter.unusedSimpArgs false
namespace Go.Proofs.YthjmkfpdbbfcpaaGreatDoor.DN
set_option maxRecDepth 100000
open Go.RowKit K Go.Proofs.YthjmkfpdbbfcpaaGreatDoor.BE

theorem Fr.freeze {D : Nat → Prop} {a w : World} (h : Fr D a w) (p : Addr) (n : Nat) (hp : D p.block ∨ a.heap.size ≤ p.block) : Fr D a (w.freeze p n) := by
  refine h.trans (D' := fun k => k = p.block) ?_ (fun k e => by subst e; exact hp)
  unfold World.freeze
  split
  · exact Fr.refl _ w
  · exact ⟨rfl, rfl, rfl, by simp, fun k hk hn => by
      simp only [Array.getElem?_modify]
      rw [if_neg (fun e => hn e.symm)]⟩
theorem infoB1 : (Tryz.prog.info? 5).map (fun i => (i.zero, i.size, i.bytes)) = some (some (.int .u8 0), 1, 1) := by kernel_rfl
theorem sizeB : ∀ w, (Go.sizeOf 5).run Tryz.prog w = .ok 1 w := fun _ => by kernel_rfl
theorem cellsB : Tryz.prog.cellsOf 5 = 1 := by kernel_rfl
set_option maxHeartbeats 4000000 in
theorem cloneL_any (s : B) (w : World) (hs : s.length ≤ 140737488355328) : Calls Tryz.prog 87 #[.string (sb s)] w fun e w' => e = .returned (.string (sb s)) ∧ Fr No w w' := by
  have hsz : ((sb s).size : Int) = s.length := by rw [sb_size]
  obtain ⟨n, hn⟩ : ∃ n, s.length = n := ⟨_, rfl⟩
  rw [hn] at hsz hs
  have HNN := hid hn
  obtain ⟨S, hS⟩ : ∃ S, sb s = S := ⟨_, rfl⟩
  rw [hS] at hsz ⊢
  have HSS := hid hS
  obtain ⟨i, hi, hz, hi1, hi2⟩ := Go.info_parts infoB1
  by_cases h0 : n = 0
  · subst h0
    have he : s = [] := List.eq_nil_of_length_eq_zero HNN.out
    have HE : Hid (S = ⟨#[]⟩) := hid (by rw [← HSS.out, he]; rfl)
    clear hn hS he
    go_enter Tryz.func87, Tryz.ntmps87
    go_wp2_with fail
    go_ret
    exact ⟨by rw [HE.out]; rfl, Fr.refl _ _⟩
  · have hni : (0 : Int) < n := by omega
    have hsi : (n : Int) ≤ 140737488355328 := by omega
    clear hn hS
    go_enter Tryz.func87, Tryz.ntmps87
    go_wp2_with (first
      | ((with_reducible refine K.atO (.makeSlice 49 _ _) ?_); refine wpL_make rfl _ _ _ rfl 5 i (.int .u8 0) (.int .u8 0) 1 Tryz.underlying49 hi hz rfl (by decide) hi1 .i64 .i64 n rfl rfl (by rw [hi2]; omega) (by unfold maxLen; omega) ?_; intro w1 HB1 HF1 HS1)
      | ((with_reducible refine K.atO (.call { callee := .builtin .copy, args := _, argTypes := _ }) ?_); refine wpList_plain rfl fun K1 hK1 => ?_; refine wp_copyS _ _ _ _ rfl 5 Tryz.underlying49 sizeB w.heap.size 0 n n rfl S rfl 5 _ HB1.out s (by rw [← HSS.out, sb_list, List.take_of_length_le (by rw [HNN.out]; exact Nat.le_refl _)]) (by rw [HNN.out]; simp) ?_; intro w2 HB2 HF2 HS2; refine hK1 _ _ ?_;
          (have hb2 : Blk w2 w.heap.size 5 (u8s s) := by
            have h := HB2.out
            rwa [show spl (List.replicate (n * 1) (Value.int .u8 0)) 0 (u8s s) = u8s s by simp [spl, u8s_length, HNN.out]] at h);
          have hUS := Go.Lib.run_unsafeString_row (P := Tryz.prog) (w := w2) 75 3 9 5 Tryz.underlying75 cellsB w.heap.size (u8s s).length (by unfold World.shape?; rw [hb2]; simp) s (fun e => h0 (by rw [← HNN.out, e]; rfl)) (by rw [u8s_length]; exact Nat.le_refl _) (by rw [HNN.out]; omega) (fun j x hx => by rw [Addr.add_mid, Nat.zero_add, hb2.cell]; simp [u8s, hx]);
          rw [HNN.out] at hUS)
      | fail)
    go_ret
    refine ⟨by rw [← HSS.out]; rfl, ?_⟩
    have := HS1.out
    exact Fr.freeze (HF1.out.trans HF2.out fun k e => .inr (by have e : k = w.heap.size := e; omega)) _ _ (.inr (Nat.le_refl _))
end Go.Proofs.YthjmkfpdbbfcpaaGreatDoor.DN
