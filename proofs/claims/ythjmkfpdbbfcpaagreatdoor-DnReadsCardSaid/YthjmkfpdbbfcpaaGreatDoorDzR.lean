/-
  DnReads.
-/
import Derived.Test.YthjmkfpdbbfcpaaGreatDoorDrP
set_option linter.unusedVariables false
set_option linter.unusedSimpArgs false
namespace Go.Proofs.YthjmkfpdbbfcpaaGreatDoor.DN
set_option maxRecDepth 100000
open Go.RowKit K Go.Proofs.YthjmkfpdbbfcpaaGreatDoor.BE

set_option maxHeartbeats 8000000 in
theorem dnReads_walk (s : B) (w : World) (hG : Gl w) (hz : Sz s) : Calls Tryz.prog 3 #[.string (sb s)] w fun e w' => e = .returned (.bool true) ∧ Fr No w w' := by
  have HG := hid hG
  have H2 := hid (fun W (h : Gl W) => parse_any s W h)
  have H3 := hid (fun W => rParse_any s hz W)
  have H5 := hid (fun W => type_any s W)
  have H6 := hid (fun W => rType_any s hz W)
  obtain ⟨S, hS⟩ : ∃ S, sb s = S := ⟨_, rfl⟩
  obtain ⟨⟨N, e0⟩, hp⟩ : ∃ x, parse s = x := ⟨_, rfl⟩
  obtain ⟨T, hT⟩ : ∃ T, typ s = T := ⟨_, rfl⟩
  rw [hp, hS] at H2 H3
  rw [hT, hS] at H5 H6
  dsimp only at H2 H3
  rw [hS]
  clear hG hz hS hp hT
  go_enter Tryz.func3, Tryz.ntmps3
  go_wp2_with fail
  refine (awake_any w HG.out).mono ?_
  rintro e1 w1 ⟨rfl, f1⟩
  have HF1 := hid f1
  clear f1
  go_wp2_with fail
  refine (H2.out w1 (HG.out.fr HF1.out id)).mono ?_
  rintro e2 w2 ⟨v2, rfl, hn2, f2⟩
  have HF2 := hid (HF1.out.trans' f2)
  have HN2 := hid hn2
  clear hn2 f2
  go_wp2_with fail
  refine (H3.out w2).mono ?_
  rintro e3 w3 ⟨v3, rfl, hn3, f3⟩
  have HF3 := hid (HF2.out.trans' f3)
  have HN3 := hid hn3
  have HN23 := hid (HN2.out.no f3)
  clear hn3 f3
  go_wp2_with fail
  have H4 := one_any _ _ _ _ _ _ w3 HN23.out HN3.out
  rw [decide_eq_true rfl] at H4
  refine H4.mono ?_
  rintro e4 w4 ⟨rfl, f4⟩
  have HF4 := hid (HF3.out.trans' f4)
  clear f4 H4
  go_wp2_with fail
  refine (H5.out w4).mono ?_
  rintro e5 w5 ⟨rfl, f5⟩
  have HF5 := hid (HF4.out.trans' f5)
  clear f5
  go_wp2_with fail
  refine (H6.out w5).mono ?_
  rintro e6 w6 ⟨rfl, rfl⟩
  go_wp2_with fail
  go_ret
  exact ⟨rfl, HF5.out⟩
end Go.Proofs.YthjmkfpdbbfcpaaGreatDoor.DN
