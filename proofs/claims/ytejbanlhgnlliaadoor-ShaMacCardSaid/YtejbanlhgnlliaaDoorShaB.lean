/-
  The law's 'begins'.
-/
import Derived.Test.YtejbanlhgnlliaaDoorShaP
namespace Go.Proofs.YtejbanlhgnlliaaDoor.SH
set_option maxRecDepth 100000
open Go.RowKit K AR

theorem begins_any (d q : Nat → Nat) (w : World) (h : ∀ i, i < 4 → d i = q i) : Calls Tryd.prog 15 #[ba .u8 d 32, ba .u8 q 4] w fun e w' => e = .returned (.bool true) ∧ Fr No w w' := by
  have H := hid h; clear h
  go_enter Tryd.func15, Tryd.ntmps15
  go_wp2_with (first
    | ((with_reducible show wpList _ _ _ ({ dst := _, op := .box 24 _, type := _, pos := _, after := _, guard := _ } :: _) _ _); refine wpL_box rfl _ _ rfl (ba .u8 d 32) rfl (bw .u8 d 32) rfl ?_; intro w1 HB1 HF1 HS1)
    | ((with_reducible show wpList _ _ _ ({ dst := _, op := .box 38 _, type := _, pos := _, after := _, guard := _ } :: _) _ _); refine wpL_box rfl _ _ rfl (ba .u8 q 4) rfl (bw .u8 q 4) rfl ?_; intro w2 HB2 HF2 HS2;
        have c0 := blk_at (HB1.out.fr HF2.out id) (i := 0) (by decide); have c1 := blk_at (HB1.out.fr HF2.out id) (i := 1) (by decide); have c2 := blk_at (HB1.out.fr HF2.out id) (i := 2) (by decide); have c3 := blk_at (HB1.out.fr HF2.out id) (i := 3) (by decide);
        have d0 := blk_at HB2.out (i := 0) (by decide); have d1 := blk_at HB2.out (i := 1) (by decide); have d2 := blk_at HB2.out (i := 2) (by decide); have d3 := blk_at HB2.out (i := 3) (by decide);
        rw [H.out 0 (by decide)] at c0; rw [H.out 1 (by decide)] at c1; rw [H.out 2 (by decide)] at c2; rw [H.out 3 (by decide)] at c3))
  go_ret
  exact ⟨rfl, HF1.out.trans' HF2.out⟩
end Go.Proofs.YtejbanlhgnlliaaDoor.SH
