/-
  Part 31 of the proof: StLI, StLL, StOp.
-/
import Derived.Test.YtflfmkokfbgclaaGreatRc29
import Derived.Test.YtflfmkokfbgclaaGreatRc30
import Derived.Test.YtflfmkokfbgclaaGreatRc21
set_option linter.unusedSimpArgs false
set_option linter.unusedVariables false
namespace Go.Proofs.YtflfmkokfbgclaaGreat.ST
set_option maxRecDepth 100000
open Go.RowKit K L

/-- The cells of a Store. -/
def stC (bd : Nat) (lg tr : Value) (n : Nat) (r : Rt) (br : Bool) : List Value := [pt bd, lg, tr, .int .i64 (n : Int), .int .i64 (r.area : Int), .int .u32 (r.epoch : Int), .int .i64 (r.len : Int), .int .u32 (r.sum : Int), .bool br]
/-- What loadImage finds. -/
def loadS (u : U) : Int × Option (Rt × TR.L) :=
  if (rootU u).2 ≠ 0 then ((rootU u).2, none) else match conS ⟨(imgB u (rootU u).1).toArray⟩ with
    | none => (50, none)
    | some l => if S.add 0 (imgB u (rootU u).1) = (rootU u).1.sum then (0, some ((rootU u).1, l)) else (50, none)
theorem rootU_ok {u : U} (h : (rootU u).2 = 0) : u.up = true ∧ (rootU u).1.area ≤ 1 ∧ (rootU u).1.len ≤ areaN u.L.length * 64 := by
  unfold rootU at h ⊢
  by_cases hu : u.up = false
  · rw [if_pos hu] at h; exact absurd h (by decide)
  · rw [if_neg hu]
    refine ⟨by simpa using hu, ?_⟩
    split
    · exact ⟨Nat.le_refl _, Nat.zero_le _⟩
    · rename_i hn
      simp only [not_or, Nat.not_lt] at hn
      exact ⟨hn.1, hn.2.1⟩
theorem rootU_Ok (u : U) : (rootU u).1.Ok := by
  unfold rootU
  split
  · exact ⟨by decide, by decide, by decide, by decide⟩
  · split
    · exact ⟨by decide, by decide, by decide, by decide⟩
    · exact rtOf_ok _
theorem imgB_len (u : U) (r : Rt) : (imgB u r).length ≤ r.len := by unfold imgB; simp; omega
def Loaded (W w : World) (b bd : Nat) (lg : Value) (br : Bool) (p : Int × Option (Rt × TR.L)) (e : Ending) (w' : World) : Prop := match p with
  | (c, none) => e = .returned (.int .i64 c) ∧ Fr No w w'
  | (_, some (r, l)) => ∃ bt T, e = .returned (.int .i64 0) ∧ TR.Lv W w' bt T l ∧ (∀ k, T.fp k → w.heap.size ≤ k) ∧ Mays l ∧ Blk w' b 68 (stC bd lg (pt bt) (imgN l) r br) ∧ Fr (fun k => k = b) w w'
section
variable {w : World} {bd : Nat} {Z : Nat → Prop} {u : U}
theorem hentRI (vs : Array Value) (w : World) : (callFunc 50 vs).run Tryz.prog w = .ok (.enter 50 vs) w := by kernel_rfl
theorem hentTX (vs : Array Value) (w : World) : (callFunc 44 vs).run Tryz.prog w = .ok (.enter 44 vs) w := by kernel_rfl
set_option maxHeartbeats 16000000 in
theorem loadImage_any (W : World) (b : Nat) (lg : Value) (br : Bool) (h : Dk w bd Z u) (hB : Blk w b 68 (stC bd lg (.pointer none) 0 ⟨0, 0, 0, 0⟩ br)) (hW : Fr No W w) (hb : W.heap.size ≤ b) :
    Calls Tryz.prog 33 #[pt b] w (Loaded W w b bd lg br (loadS u)) := by
  have H := hid h
  have HB := hid hB
  have HW := hid hW
  have HBW := hid hb
  have hbw := hB.lt
  have HBL := hid hbw
  obtain ⟨R, hR⟩ : ∃ R, loadS u = R := ⟨_, rfl⟩
  have HR := hid hR
  rw [hR]
  have HOK := hid (@rootU_ok u)
  have HROK := hid (rootU_Ok u)
  have hrv := hid (hB.range 0 [pt bd] rfl)
  have hrv' := hrv.out
  clear h hB hW hb hR hbw
  go_enter Tryz.func33, Tryz.ntmps33
  go_wp2_with (first
    | ((with_reducible show wpList _ _ _ (⟨_, .load 59 _, _, _, _, _⟩ :: _) _ _); refine wpL_load rfl _ _ rfl b 0 rfl [pt bd] _ hrv' rfl rfl infoVol ?_)
    | fail)
  refine (readRoot_any H.out).mono ?_
  rintro e w1 ⟨rfl, f1⟩
  obtain ⟨p, hp⟩ : ∃ p, rootU u = p := ⟨_, rfl⟩
  have HRP : Hid (R = loadS u) := hid HR.out.symm
  have HP := hid hp
  rw [hp] at HOK HROK ⊢
  obtain ⟨r, c⟩ := p
  simp only at HOK HROK ⊢
  have HF1 := hid f1
  clear f1 hp hrv'
  go_wp2_with (first
    | ((with_reducible show wpList _ _ _ (⟨_, .alloc 66, _, _, _, _⟩ :: _) _ _); refine wpL_alloc rfl _ rfl _ zeroRt' (Rt.cells ⟨0, 0, 0, 0⟩) rfl ?_; intro w2 HB2 F2 HS2)
    | ((with_reducible show wpList _ _ _ (⟨_, .store 66 _ _, _, _, _, _⟩ :: _) _ _); refine TR.wpL_storeV rfl _ _ _ rfl w1.heap.size 0 (.agg r.cells.toArray) r.cells rfl rfl rfl _ _ HB2.out (by simp [Rt.cells]) infoRt (rt_one _) ?_; intro w3 HB3 F3 HS3; refine Hid.out ?_)
    | fail)
  refine hid ?_
  obtain ⟨bq, hbq⟩ : ∃ k, w1.heap.size = k := ⟨_, rfl⟩
  have HQ := hid (show w.heap.size ≤ bq by have := HF1.out.size; omega)
  have HF3 : Hid (Fr No w w3) := hid ((HF1.out.trans' F2.out).trans F3.out (fun k hk => .inr (by have hk' : k = w1.heap.size := hk; have := HQ.out; omega)))
  have HQ3 : Hid (Blk w3 bq 66 r.cells) := hid (by have h := HB3.out; rwa [spl_rt, hbq] at h)
  rw [hbq]
  clear hbq HB2 F2 HS2 HB3 F3 HS3
  by_cases hc : c = 0
  · have HO := hid (HOK.out hc)
    subst hc
    go_wp2_with fail
    have hV3 := (HB.out.fr HF3.out.drew id).range 0 [pt bd] rfl
    have hR3 := HQ3.out.drew.range 0 r.cells rfl
    have HD3 : Hid (Dk w3.drew bd Z u) := hid (D.Rep.no H.out HF3.out.drew)
    have hold : Facts.hold [(3, fun w' => w'.rangeAt b 0 [pt bd]), (4, fun w' => w'.rangeAt bq 0 r.cells)] w3.drew := Facts.cons_hold hV3 (Facts.cons_hold hR3 (Facts.nil_hold _))
    refine wpD_region hold (by kernel_rfl) 11 rfl ?_
    (refine wpD_plain 0 (v := ?_) rfl (by kernel_rfl) (by kernel_rfl) (by kernel_rfl) (fun _ _ _ h => h) (by rfl) ?_ (by assumption) ?_; rotate_left; (intro _w; go_simp; try with_reducible rfl); simp only [Act.put, List.setIfInBounds_toArray, List.set_cons_zero, List.set_cons_succ])
    (refine wpD_plain 1 (v := ?_) rfl (by kernel_rfl) (by kernel_rfl) (by kernel_rfl) (fun _ _ _ h => h) (by rfl) ?_ (by assumption) ?_; rotate_left; (intro _w; go_simp; try with_reducible rfl); simp only [Act.put, List.setIfInBounds_toArray, List.set_cons_zero, List.set_cons_succ])
    (refine wpD_plain 2 (v := ?_) rfl (by kernel_rfl) (by kernel_rfl) (by kernel_rfl) (fun _ _ _ h => h) (by rfl) ?_ (by assumption) ?_; rotate_left; (intro _w; go_simp; try with_reducible rfl); simp only [Act.put, List.setIfInBounds_toArray, List.set_cons_zero, List.set_cons_succ])
    (refine wpD_take 3 _ rfl (by kernel_rfl) (by kernel_rfl) (by kernel_rfl) (fun _ _ _ h => h) List.mem_cons_self (by rfl) (exec_load _ _ rfl b 0 rfl _ _ rfl rfl infoVol) (by assumption) ?_; simp only [Act.put, List.setIfInBounds_toArray, List.set_cons_zero, List.set_cons_succ])
    (refine wpD_take 4 _ rfl (by kernel_rfl) (by kernel_rfl) (by kernel_rfl) (fun _ _ _ h => h) (List.mem_cons_of_mem _ List.mem_cons_self) (by rfl) (exec_load _ _ rfl bq 0 rfl _ _ rfl rfl infoRt) (by assumption) ?_; simp only [Act.put, List.setIfInBounds_toArray, List.set_cons_zero, List.set_cons_succ])
    clear hold
    refine wpD_only 5 [] rfl (by kernel_rfl) (by kernel_rfl) (by rfl) (fun K5 hK5 => ?_)
    refine wp_call (.func 50) _ _ rfl 50 [] rfl hentRI [vol bd, .agg r.cells.toArray] (by rfl) ?_
    refine (readImage_any r HO.out.2.1 HO.out.2.2 HO.out.1 HD3.out).mono ?_
    rintro e w4 ⟨rfl, f4⟩
    have hold : Facts.hold [] w4 := Facts.nil_hold _
    refine ⟨_, rfl, hK5 _ _ hold ?_⟩
    clear hK5 K5
    have HF4 := hid (HF3.out.drew.trans' f4)
    have HQ4 := hid (HQ3.out.drew.fr f4 id)
    have HIL := hid (imgB_len u r)
    obtain ⟨img, himg⟩ : ∃ x, imgB u r = x := ⟨_, rfl⟩
    rw [himg] at HIL ⊢
    have HIM := hid himg
    have HLB := hid (show r.len ≤ 65536 by have := HO.out.2.2; have := (dk_len H.out).2; unfold areaN at *; omega)
    clear f4 himg hV3 hR3 HQ3 HD3
    simp only [Act.put, List.setIfInBounds_toArray, List.set_cons_zero, List.set_cons_succ]
    (refine wpD_plain 6 (v := ?_) rfl (by kernel_rfl) (by kernel_rfl) (by kernel_rfl) (fun _ _ _ h => h) (by rfl) ?_ (by assumption) ?_; rotate_left; (intro _w; go_simp; try with_reducible rfl); simp only [Act.put, List.setIfInBounds_toArray, List.set_cons_zero, List.set_cons_succ])
    (refine wpD_plain 7 (v := ?_) rfl (by kernel_rfl) (by kernel_rfl) (by kernel_rfl) (fun _ _ _ h => h) (by rfl) ?_ (by assumption) ?_; rotate_left; (intro _w; go_simp; try with_reducible rfl); simp only [Act.put, List.setIfInBounds_toArray, List.set_cons_zero, List.set_cons_succ])
    (refine wpD_plain 8 (v := ?_) rfl (by kernel_rfl) (by kernel_rfl) (by kernel_rfl) (fun _ _ _ h => h) (by rfl) ?_ (by assumption) ?_; rotate_left; (intro _w; go_simp; try with_reducible rfl); simp only [Act.put, List.setIfInBounds_toArray, List.set_cons_zero, List.set_cons_succ])
    (refine wpD_plain 9 (v := ?_) rfl (by kernel_rfl) (by kernel_rfl) (by kernel_rfl) (fun _ _ _ h => h) (by rfl) ?_ (by assumption) ?_; rotate_left; (intro _w; go_simp; try with_reducible rfl); simp only [Act.put, List.setIfInBounds_toArray, List.set_cons_zero, List.set_cons_succ])
    (refine wpD_plain 10 (v := ?_) rfl (by kernel_rfl) (by kernel_rfl) (by kernel_rfl) (fun _ _ _ h => h) (by rfl) ?_ (by assumption) ?_; rotate_left; (intro _w; go_simp; try with_reducible rfl); simp only [Act.put, List.setIfInBounds_toArray, List.set_cons_zero, List.set_cons_succ])
    refine wpD_done (by kernel_rfl) ?_ _
    clear hold
    go_wp2_with fail
    have HSZ := hid (show ByteArray.size ⟨img.toArray⟩ ≤ 65536 by have := HIL.out; have := HLB.out; show img.toArray.size ≤ 65536; simp; omega)
    refine (contentsOf_any ⟨img.toArray⟩ w4 (by have := HSZ.out; omega)).mono ?_
    intro e w5 hcon
    cases hk : conS ⟨img.toArray⟩ with
    | none =>
      rw [hk] at hcon
      obtain ⟨rfl, f5⟩ := hcon
      have HF5 := hid (HF4.out.trans' f5)
      clear f5
      go_wp2_with (first
        | ((with_reducible show wpList _ _ _ (⟨_, .alloc 63, _, _, _, _⟩ :: _) _ _); refine wpL_alloc rfl _ rfl _ zeroCon [.pointer none, .int .i64 0] rfl ?_; intro w6 HB6 F6 HS6)
        | ((with_reducible show wpList _ _ _ (⟨_, .store 63 _ _, _, _, _, _⟩ :: _) _ _); refine TR.wpL_storeV rfl _ _ _ rfl w5.heap.size 0 (.agg #[.pointer none, .int .i64 0]) [.pointer none, .int .i64 0] rfl rfl rfl _ _ HB6.out (by simp) infoCon (by intro v hv; simp at hv; rcases hv with rfl | rfl <;> rfl) ?_; intro w7 HB7 F7 HS7; refine Hid.out ?_)
        | fail)
      refine hid ?_
      have HF7 : Hid (Fr No w w7) := hid ((HF5.out.trans' F6.out).trans F7.out (fun k hk => .inr (by have hk' : k = w5.heap.size := hk; have := HF5.out.size; omega)))
      clear HB6 F6 HS6 HB7 F7 HS7
      go_wp2_with fail
      have hold : Facts.hold [] w7.drew := Facts.nil_hold _
      refine wpD_region hold (by kernel_rfl) 9 rfl ?_
      (refine wpD_plain 0 (v := ?_) rfl (by kernel_rfl) (by kernel_rfl) (by kernel_rfl) (fun _ _ _ h => h) (by rfl) ?_ (by assumption) ?_; rotate_left; (intro _w; go_simp; try with_reducible rfl); simp only [Act.put, List.setIfInBounds_toArray, List.set_cons_zero, List.set_cons_succ])
      (refine wpD_plain 1 (v := ?_) rfl (by kernel_rfl) (by kernel_rfl) (by kernel_rfl) (fun _ _ _ h => h) (by rfl) ?_ (by assumption) ?_; rotate_left; (intro _w; go_simp; try with_reducible rfl); simp only [Act.put, List.setIfInBounds_toArray, List.set_cons_zero, List.set_cons_succ])
      (refine wpD_plain 2 (v := ?_) rfl (by kernel_rfl) (by kernel_rfl) (by kernel_rfl) (fun _ _ _ h => h) (by rfl) ?_ (by assumption) ?_; rotate_left; (intro _w; go_simp; try with_reducible rfl); simp only [Act.put, List.setIfInBounds_toArray, List.set_cons_zero, List.set_cons_succ])
      (refine wpD_skip 3 rfl (by kernel_rfl) (by kernel_rfl) (by kernel_rfl) (fun _ _ _ h => h) (by rfl) (by assumption) ?_; simp only [Act.put, List.setIfInBounds_toArray, List.set_cons_zero, List.set_cons_succ])
      (refine wpD_skip 4 rfl (by kernel_rfl) (by kernel_rfl) (by kernel_rfl) (fun _ _ _ h => h) (by rfl) (by assumption) ?_; simp only [Act.put, List.setIfInBounds_toArray, List.set_cons_zero, List.set_cons_succ])
      (refine wpD_skip 5 rfl (by kernel_rfl) (by kernel_rfl) (by kernel_rfl) (fun _ _ _ h => h) (by rfl) (by assumption) ?_; simp only [Act.put, List.setIfInBounds_toArray, List.set_cons_zero, List.set_cons_succ])
      (refine wpD_skip 6 rfl (by kernel_rfl) (by kernel_rfl) (by kernel_rfl) (fun _ _ _ h => h) (by rfl) (by assumption) ?_; simp only [Act.put, List.setIfInBounds_toArray, List.set_cons_zero, List.set_cons_succ])
      (refine wpD_skip 7 rfl (by kernel_rfl) (by kernel_rfl) (by kernel_rfl) (fun _ _ _ h => h) (by rfl) (by assumption) ?_; simp only [Act.put, List.setIfInBounds_toArray, List.set_cons_zero, List.set_cons_succ])
      (refine wpD_plain 8 (v := ?_) rfl (by kernel_rfl) (by kernel_rfl) (by kernel_rfl) (fun _ _ _ h => h) (by rfl) ?_ (by assumption) ?_; rotate_left; (intro _w; go_simp; try with_reducible rfl); simp only [Act.put, List.setIfInBounds_toArray, List.set_cons_zero, List.set_cons_succ])
      refine wpD_done (by kernel_rfl) ?_ _
      clear hold
      go_wp2_with fail
      go_ret
      rw [HRP.out]
      unfold loadS
      rw [HP.out]
      simp only [ne_eq, not_true_eq_false, if_false, HIM.out, hk]
      exact ⟨rfl, HF7.out.drew⟩
    | some l =>
      rw [hk] at hcon
      obtain ⟨bt, T, rfl, hT, hm⟩ := hcon
      have HT := hid hT; have HM := hid hm
      clear hT hm
      go_wp2_with (first
        | ((with_reducible show wpList _ _ _ (⟨_, .alloc 63, _, _, _, _⟩ :: _) _ _); refine wpL_alloc rfl _ rfl _ zeroCon [.pointer none, .int .i64 0] rfl ?_; intro w6 HB6 F6 HS6)
        | ((with_reducible show wpList _ _ _ (⟨_, .store 63 _ _, _, _, _, _⟩ :: _) _ _); refine TR.wpL_storeV rfl _ _ _ rfl w5.heap.size 0 (.agg #[pt bt, .int .i64 (imgN l : Int)]) [pt bt, .int .i64 (imgN l : Int)] rfl rfl rfl _ _ HB6.out (by simp) infoCon (by intro v hv; simp at hv; rcases hv with rfl | rfl <;> rfl) ?_; intro w7 HB7 F7 HS7; refine Hid.out ?_)
        | fail)
      refine hid ?_
      obtain ⟨bc, hbc⟩ : ∃ k, w5.heap.size = k := ⟨_, rfl⟩
      have hT5 := HT.out.fr.size; have h4s := HF4.out.size
      have HC := hid (show bq < bc ∧ w.heap.size ≤ bc by have := HQ4.out.lt; omega)
      have HNT := hid (show ¬ T.fp bc from fun e => by have := HT.out.at_.lt _ e; omega)
      have f57 : Fr (fun k => k = bc) w5 w7 := F6.out.no.trans F7.out (fun k hk => .inl (by have hk' : k = w5.heap.size := hk; omega))
      have HT7 : Hid (TR.Lv w4 w7 bt T l) := hid ⟨HT.out.b, HT.out.at_.fr f57 (fun k hk e => HNT.out (by have e' : k = bc := e; rw [← e']; exact hk)), HT.out.fr.trans f57 (fun k hk => .inr (by have hk' : k = bc := hk; omega)), HT.out.ge⟩
      have HF7 : Hid (Fr No w w7.drew) := hid (HF4.out.trans' HT7.out.fr).drew
      have HQ7 := hid ((HQ4.out.fr HT.out.fr id).fr f57 (fun e => by have e' : bq = bc := e; have := HC.out; omega)).drew
      have HB7c : Hid (Blk w7.drew bc 63 [pt bt, .int .i64 (imgN l : Int)]) := hid (by
        have h := HB7.out
        rw [hbc] at h
        have h2 : Blk w7 bc 63 [pt bt, .int .i64 (imgN l : Int)] := by simpa [spl] using h
        exact h2.drew)
      have HTD : Hid (TR.Lv w4 w7.drew bt T l) := hid (HT7.out.no ((Fr.refl No w7).drew))
      rw [hbc]
      clear HT HT7 hT5 h4s f57 hbc HB6 F6 HS6 HB7 F7 HS7 HQ4
      go_wp2_with fail
      obtain ⟨s0, hs0⟩ : ∃ s, S.add 0 img = s := ⟨_, rfl⟩
      have HS0 := hid hs0
      have c3 : w7.cell? ⟨bq, 3, none⟩ = some (.int .u32 (r.sum : Int)) := HQ7.out.cell 3
      have hold : Facts.hold [(6, fun w' => w'.cell? ⟨bq, 3, none⟩ = some (.int .u32 (r.sum : Int)))] w7.drew := Facts.cons_hold c3 (Facts.nil_hold _)
      refine wpD_region hold (by kernel_rfl) 9 rfl ?_
      (refine wpD_plain 0 (v := ?_) rfl (by kernel_rfl) (by kernel_rfl) (by kernel_rfl) (fun _ _ _ h => h) (by rfl) ?_ (by assumption) ?_; rotate_left; (intro _w; go_simp; try with_reducible rfl); simp only [Act.put, List.setIfInBounds_toArray, List.set_cons_zero, List.set_cons_succ])
      (refine wpD_plain 1 (v := ?_) rfl (by kernel_rfl) (by kernel_rfl) (by kernel_rfl) (fun _ _ _ h => h) (by rfl) ?_ (by assumption) ?_; rotate_left; (intro _w; go_simp; try with_reducible rfl); simp only [Act.put, List.setIfInBounds_toArray, List.set_cons_zero, List.set_cons_succ])
      (refine wpD_plain 2 (v := ?_) rfl (by kernel_rfl) (by kernel_rfl) (by kernel_rfl) (fun _ _ _ h => h) (by rfl) ?_ (by assumption) ?_; rotate_left; (intro _w; go_simp; try with_reducible rfl); simp only [Act.put, List.setIfInBounds_toArray, List.set_cons_zero, List.set_cons_succ])
      (refine wpD_plain 3 (v := ?_) rfl (by kernel_rfl) (by kernel_rfl) (by kernel_rfl) (fun _ _ _ h => h) (by rfl) ?_ (by assumption) ?_; rotate_left; (intro _w; go_simp; try with_reducible rfl); simp only [Act.put, List.setIfInBounds_toArray, List.set_cons_zero, List.set_cons_succ])
      (refine wpD_plain 5 (v := ?_) rfl (by kernel_rfl) (by kernel_rfl) (by kernel_rfl) (fun _ _ _ h => h) (by rfl) ?_ (by assumption) ?_; rotate_left; (intro _w; go_simp; try with_reducible rfl); simp only [Act.put, List.setIfInBounds_toArray, List.set_cons_zero, List.set_cons_succ])
      (refine wpD_take 6 _ rfl (by kernel_rfl) (by kernel_rfl) (by kernel_rfl) (fun _ _ _ h => h) List.mem_cons_self (by rfl) (v := ?_) ?_ (by assumption) ?_; rotate_left; (intro _w _hw; go_simp; try with_reducible rfl); simp only [Act.put, List.setIfInBounds_toArray, List.set_cons_zero, List.set_cons_succ])
      clear hold
      refine wpD_only 4 [(6, fun w' => w'.cell? ⟨bq, 3, none⟩ = some (.int .u32 (r.sum : Int)))] rfl (by kernel_rfl) (by kernel_rfl) (by rfl) (fun K4 hK4 => ?_)
      refine wp_call (.func 44) _ _ rfl 44 [] rfl hentTX [.string ⟨img.toArray⟩] (by rfl) ?_
      refine (S.text_any ⟨img.toArray⟩ w7.drew (by have := HSZ.out; omega)).mono ?_
      rintro e w8 ⟨rfl, f8⟩
      have hold : Facts.hold [(6, fun w' => w'.cell? ⟨bq, 3, none⟩ = some (.int .u32 (r.sum : Int)))] w8 := Facts.cons_hold (f8.cell (w := w7.drew) c3 id) (Facts.nil_hold _)
      refine ⟨_, rfl, hK4 _ _ hold ?_⟩
      clear hK4 K4 c3
      rw [show S.add 0 (ByteArray.mk img.toArray).data.toList = s0 from hs0]
      clear hs0
      have HF8 := hid (HF7.out.trans' f8)
      have HQ8 := hid (HQ7.out.fr f8 id)
      have HB8 := hid (HB7c.out.fr f8 id)
      have HT8 : Hid (TR.Lv w4 w8 bt T l) := hid (HTD.out.no f8)
      clear f8 HF7 HQ7 HB7c HTD
      simp only [Act.put, List.setIfInBounds_toArray, List.set_cons_zero, List.set_cons_succ]
      by_cases he : s0 = r.sum
      · have HRL : Hid (R = (0, some (r, l))) := hid (by
          rw [HRP.out]
          unfold loadS
          rw [HP.out]
          simp only [ne_eq, not_true_eq_false, if_false, HIM.out, hk, HS0.out, he, if_true])
        rw [he]
        clear he
        (refine wpD_plain 7 (v := (.bool false)) rfl (by kernel_rfl) (by kernel_rfl) (by kernel_rfl) (fun _ _ _ h => h) (by rfl) ?_ (by assumption) ?_; (intro _w; go_simp; skip); simp only [Act.put, List.setIfInBounds_toArray, List.set_cons_zero, List.set_cons_succ])
        (refine wpD_plain 8 (v := ?_) rfl (by kernel_rfl) (by kernel_rfl) (by kernel_rfl) (fun _ _ _ h => h) (by rfl) ?_ (by assumption) ?_; rotate_left; (intro _w; go_simp; try with_reducible rfl); simp only [Act.put, List.setIfInBounds_toArray, List.set_cons_zero, List.set_cons_succ])
        refine wpD_done (by kernel_rfl) ?_ _
        clear hold
        go_wp2_with fail
        have hq8 := HQ8.out.drew.range 0 r.cells rfl
        have hc8 := HB8.out.drew.range 0 [pt bt, .int .i64 (imgN l : Int)] rfl
        have HS8 := hid (HB.out.fr HF8.out.drew id)
        have hold : Facts.hold [(2, fun w' => w'.rangeAt bq 0 r.cells), (3, fun w' => w'.rangeAt bc 0 [pt bt, .int .i64 (imgN l : Int)])] w8.drew := Facts.cons_hold hq8 (Facts.cons_hold hc8 (Facts.nil_hold _))
        refine wpD_region hold (by kernel_rfl) 10 rfl ?_
        (refine wpD_plain 0 (v := ?_) rfl (by kernel_rfl) (by kernel_rfl) (by kernel_rfl) (fun _ _ _ h => h) (by rfl) ?_ (by assumption) ?_; rotate_left; (intro _w; go_simp; try with_reducible rfl); simp only [Act.put, List.setIfInBounds_toArray, List.set_cons_zero, List.set_cons_succ])
        (refine wpD_plain 1 (v := ?_) rfl (by kernel_rfl) (by kernel_rfl) (by kernel_rfl) (fun _ _ _ h => h) (by rfl) ?_ (by assumption) ?_; rotate_left; (intro _w; go_simp; try with_reducible rfl); simp only [Act.put, List.setIfInBounds_toArray, List.set_cons_zero, List.set_cons_succ])
        (refine wpD_take 2 _ rfl (by kernel_rfl) (by kernel_rfl) (by kernel_rfl) (fun _ _ _ h => h) List.mem_cons_self (by rfl) (exec_load _ _ rfl bq 0 rfl _ _ rfl rfl infoRt) (by assumption) ?_; simp only [Act.put, List.setIfInBounds_toArray, List.set_cons_zero, List.set_cons_succ])
        (refine wpD_take 3 _ rfl (by kernel_rfl) (by kernel_rfl) (by kernel_rfl) (fun _ _ _ h => h) (List.mem_cons_of_mem _ List.mem_cons_self) (by rfl) (exec_load _ _ rfl bc 0 rfl _ _ rfl rfl infoCon) (by assumption) ?_; simp only [Act.put, List.setIfInBounds_toArray, List.set_cons_zero, List.set_cons_succ])
        (refine wpD_plain 4 (v := ?_) rfl (by kernel_rfl) (by kernel_rfl) (by kernel_rfl) (fun _ _ _ h => h) (by rfl) ?_ (by assumption) ?_; rotate_left; (intro _w; go_simp; try with_reducible rfl); simp only [Act.put, List.setIfInBounds_toArray, List.set_cons_zero, List.set_cons_succ])
        (refine wpD_plain 5 (v := ?_) rfl (by kernel_rfl) (by kernel_rfl) (by kernel_rfl) (fun _ _ _ h => h) (by rfl) ?_ (by assumption) ?_; rotate_left; (intro _w; go_simp; try with_reducible rfl); simp only [Act.put, List.setIfInBounds_toArray, List.set_cons_zero, List.set_cons_succ])
        clear hold
        refine wpD_only 6 [(3, fun w' => w'.rangeAt bc 0 [pt bt, .int .i64 (imgN l : Int)])] rfl (by kernel_rfl) (by kernel_rfl) (by rfl) (fun K6 hK6 => ?_)
        refine wp_storeB 66 _ _ rfl b 4 r.cells rfl rfl _ _ HS8.out (by simp [stC, Rt.cells]) (by rw [infoRt]; rfl) (rt_one _) ?_
        intro w9 HB9 F9 HS9
        have HNBC := hid (show ¬ bc = b by have := HC.out; have := HBL.out; omega)
        have hold : Facts.hold [(3, fun w' => w'.rangeAt bc 0 [pt bt, .int .i64 (imgN l : Int)])] w9 := Facts.cons_hold ((HB8.out.drew.fr F9.out HNBC.out).range 0 _ rfl) (Facts.nil_hold _)
        refine hK6 _ _ hold ?_
        clear hK6 K6
        simp only [Act.put, List.setIfInBounds_toArray, List.set_cons_zero, List.set_cons_succ]
        (refine wpD_plain 7 (v := ?_) rfl (by kernel_rfl) (by kernel_rfl) (by kernel_rfl) (fun _ _ _ h => h) (by rfl) ?_ (by assumption) ?_; rotate_left; (intro _w; go_simp; try with_reducible rfl); simp only [Act.put, List.setIfInBounds_toArray, List.set_cons_zero, List.set_cons_succ])
        (refine wpD_plain 8 (v := ?_) rfl (by kernel_rfl) (by kernel_rfl) (by kernel_rfl) (fun _ _ _ h => h) (by rfl) ?_ (by assumption) ?_; rotate_left; (intro _w; go_simp; try with_reducible rfl); simp only [Act.put, List.setIfInBounds_toArray, List.set_cons_zero, List.set_cons_succ])
        clear hold
        refine wpD_only 9 [] rfl (by kernel_rfl) (by kernel_rfl) (by rfl) (fun K9 hK9 => ?_)
        refine wp_storeB 63 _ _ rfl b 2 [pt bt, .int .i64 (imgN l : Int)] rfl rfl _ _ HB9.out (by simp [stC, Rt.cells, spl]) (by rw [infoCon]; rfl) (by intro v hv; simp at hv; rcases hv with rfl | rfl <;> rfl) ?_
        intro w10 HB10 F10 HS10
        refine hK9 _ _ (Facts.nil_hold _) ?_
        clear hK9 K9
        simp only [Act.put, List.setIfInBounds_toArray, List.set_cons_zero, List.set_cons_succ]
        refine wpD_done (by kernel_rfl) ?_ _
        go_wp2_with fail
        go_ret
        rw [HRL.out]
        have hf := F9.out.trans' F10.out
        have hbl := HBL.out
        have h48 := HF4.out.size
        have hnb : ¬ T.fp b := fun e => by have := HT8.out.ge _ e; omega
        refine ⟨bt, T, rfl, ⟨HT8.out.b, (HT8.out.at_.no ((Fr.refl No w8).drew)).fr hf (fun k hk e => hnb (by have e' : k = b := e; rw [← e']; exact hk)), ?_, fun k hk => ?_⟩, fun k hk => ?_, HM.out, ?_, HF8.out.drew.no.trans' hf⟩
        · exact (HW.out.trans' HF8.out.drew).trans hf (fun k hk => .inr (by have e' : k = b := hk; have := HBW.out; omega))
        · have := HT8.out.ge k hk; have := HW.out.size; omega
        · have := HT8.out.ge k hk; omega
        · have h := HB10.out
          simpa [spl, stC, Rt.cells] using h
      · have HRL : Hid (R = (50, none)) := hid (by
          rw [HRP.out]
          unfold loadS
          rw [HP.out]
          simp only [ne_eq, not_true_eq_false, if_false, HIM.out, hk, HS0.out, he, if_false])
        have hei : ¬ ((s0 : Int) = (r.sum : Int)) := by omega
        clear he
        (refine wpD_plain 7 (v := (.bool true)) rfl (by kernel_rfl) (by kernel_rfl) (by kernel_rfl) (fun _ _ _ h => h) (by rfl) ?_ (by assumption) ?_; (intro _w; go_simp; skip); simp only [Act.put, List.setIfInBounds_toArray, List.set_cons_zero, List.set_cons_succ])
        (refine wpD_plain 8 (v := ?_) rfl (by kernel_rfl) (by kernel_rfl) (by kernel_rfl) (fun _ _ _ h => h) (by rfl) ?_ (by assumption) ?_; rotate_left; (intro _w; go_simp; try with_reducible rfl); simp only [Act.put, List.setIfInBounds_toArray, List.set_cons_zero, List.set_cons_succ])
        refine wpD_done (by kernel_rfl) ?_ _
        clear hold
        go_wp2_with fail
        go_ret
        rw [HRL.out]
        exact ⟨rfl, HF8.out⟩
  · go_wp2_with fail
    go_ret
    rw [HRP.out]
    unfold loadS
    rw [HP.out, if_pos hc]
    exact ⟨rfl, HF3.out⟩
end
end Go.Proofs.YtflfmkokfbgclaaGreat.ST

namespace Go.Proofs.YtflfmkokfbgclaaGreat.ST
set_option maxRecDepth 100000
open Go.RowKit K L

theorem own_ch {w : World} {base : Nat} {e : TypeId} {v : Value} {l : List Ch} (h : w.ownsRow base e 3 v l.length (chs l)) : ChIn w (fun k => base ≤ k) v l := by
  rcases h.2 with ⟨rfl, h0⟩ | ⟨g, cap, cur, rfl, hb, hg, h1, h2, h3, h4⟩
  · have : l = [] := List.eq_nil_of_length_eq_zero h0
    subst this
    exact ⟨_, _, rfl, .inl rfl⟩
  · refine ⟨_, _, rfl, .inr ⟨g, 0, rfl, hb, (Array.getElem?_eq_some_iff.1 hg).1, ?_⟩⟩
    exact Blk.range (t := e) (cs := cur.toList) (by simpa [Blk] using hg) 0 _ (by rw [List.drop_zero, chs_length]; exact h4)
theorem decG_may : ∀ (n : Nat) (s : S) (acc xs : List Ch), decG n s acc = some xs → (∀ x ∈ acc, x.may = true) → acc.length ≤ 32 → (∀ x ∈ xs, x.may = true) ∧ xs.length ≤ 32
  | 0, _, acc, xs, h, ha, hl => by simp only [decG, Option.some.injEq] at h; subst h; exact ⟨ha, hl⟩
  | n + 1, s, acc, xs, h, ha, hl => by
    unfold decG at h
    by_cases h0 : s.size = 0
    · rw [if_pos h0] at h; simp only [Option.some.injEq] at h; subst h; exact ⟨ha, hl⟩
    · rw [if_neg h0] at h
      cases hc : cutS s with
      | none => rw [hc] at h; cases h
      | some p =>
        rw [hc] at h
        obtain ⟨c, r⟩ := p
        simp only at h
        by_cases h32 : acc.length = 32
        · rw [if_pos h32] at h; cases h
        · rw [if_neg h32] at h
          refine decG_may n r _ xs h ?_ (by simp; omega)
          intro x hx
          rcases List.mem_append.1 hx with hx | hx
          · exact ha x hx
          · rw [List.mem_singleton.1 hx]; exact cut_sizes hc
theorem decS_may {s : S} {xs : List Ch} (h : decS s = some xs) : (∀ x ∈ xs, x.may = true) ∧ xs.length ≤ 32 := by
  unfold decS at h
  split at h
  · cases h
  · exact decG_may _ _ _ _ h (fun x hx => by cases hx) (by simp)
theorem scan_recs (h : Nat) (V : Nat → Option Pc) : ∀ (n p : Nat) (c : Sc), (scan h V n p c).1.length ≤ c.recs.length + n
  | 0, _, c => by simp [scan]
  | n + 1, p, c => by
    unfold scan
    cases V p with
    | none => simp
    | some x =>
      simp only
      split
      · refine Nat.le_trans (scan_recs h V n (p + 1) _) ?_
        unfold Sc.step
        split <;> simp <;> omega
      · simp
theorem scan_lens (h M : Nat) (V : Nat → Option Pc) (hV : ∀ p x, V p = some x → x.bytes.length ≤ 48) : ∀ (n p : Nat) (c : Sc), (∀ r ∈ c.recs, r.length ≤ M) → c.part.length + 48 * n ≤ M → ∀ r ∈ (scan h V n p c).1, r.length ≤ M
  | 0, _, c, h1, _ => by simpa [scan] using h1
  | n + 1, p, c, h1, h2 => by
    unfold scan
    cases hv : V p with
    | none => exact h1
    | some x =>
      have hx := hV p x hv
      simp only
      split
      · refine scan_lens h M V hV n (p + 1) _ ?_ ?_
        · unfold Sc.step
          split
          · intro r hr
            rcases List.mem_append.1 hr with hr | hr
            · exact h1 r hr
            · rw [List.mem_singleton.1 hr, List.length_append]; omega
          · exact h1
        · unfold Sc.step
          split
          · simp; omega
          · simp; omega
      · exact h1
theorem view_len (u : U) (first e : Nat) : ∀ p x, u.view first e p = some x → x.bytes.length ≤ 48 := by
  intro p x h
  unfold U.view piece at h
  split at h
  · rename_i hh
    simp only [Option.some.injEq] at h
    rw [← h]
    simp only [List.length_take]
    omega
  · cases h
theorem olog_recs {u : U} {ep : Nat} {g : Lg} {recs : List (List UInt8)} (hn : u.L.length ≤ 4096) (h : (U.olog u ep).2.2 = some (g, recs)) : recs.length ≤ 4096 ∧ ∀ r ∈ recs, r.length ≤ 200000 := by
  unfold U.olog U.opens at h
  simp only at h
  split at h
  · cases h
  · simp only [Option.some.injEq, Prod.mk.injEq] at h
    rw [← h.2]
    unfold U.load
    refine ⟨Nat.le_trans (scan_recs _ _ _ _ _) (by simp [sc0]; omega), ?_⟩
    exact scan_lens _ 200000 _ (view_len _ _ _) _ _ _ (fun r hr => by cases hr) (by simp [sc0]; omega)
theorem olog_none {u : U} {ep : Nat} (h : (U.olog u ep).2.2 = none) : (U.olog u ep).1 ≠ 0 := by
  unfold U.olog U.opens at h ⊢
  simp only at h ⊢
  split at h
  · rename_i hh
    rw [if_pos hh]
    exact hh
  · cases h
theorem appS_len (l : TR.L) (xs : List Ch) : (appS l xs).length ≤ l.length + xs.length := by
  induction xs generalizing l with
  | nil => simp [appS]
  | cons x r ih =>
    have h1 := ih (appC l x)
    have h2 := app_length l x
    show (appS (appC l x) r).length ≤ _
    simp only [List.length_cons]
    omega
/-- The changes of records. -/
def recsS : List (List UInt8) → TR.L → Option TR.L
  | [], l => some l
  | r :: rs, l => match decS ⟨r.toArray⟩ with
    | none => none
    | some xs => recsS rs (appS l xs)
/-- What loadLog does. -/
def logS (u : U) (ep : Nat) (l : TR.L) : Int × U × Option (Lg × TR.L) := match (U.olog u ep).2.2 with
  | none => ((U.olog u ep).1, (U.olog u ep).2.1, none)
  | some (g, recs) => match recsS recs l with
    | none => (50, (U.olog u ep).2.1, none)
    | some l' => (0, (U.olog u ep).2.1, some (g, l'))
def Logged (W w : World) (b bd bt : Nat) (r : Rt) (br : Bool) (Z : Nat → Prop) (T : TR.TD) (p : Int × U × Option (Lg × TR.L)) (e : Ending) (w' : World) : Prop := match p with
  | (c, u', none) => e = .returned (.int .i64 c) ∧ ∃ Z', Dk w' bd Z' u' ∧ Fr (fun k => Z k ∨ T.fp k ∨ k = b) w w' ∧ Grows w Z Z'
  | (_, u', some (g, l')) => ∃ bg T' Z', e = .returned (.int .i64 0) ∧ L.At w' bg bd Z' g u' ∧ Ct W w' b 2 68 (stC bd (pt bg) (pt bt) 0 r br) bt T' l' ∧ w.heap.size ≤ bg ∧ ¬ T'.fp bg ∧ (∀ k, Z' k → ¬ T'.fp k ∧ k ≠ b) ∧ Fr (fun k => Z k ∨ T.fp k ∨ k = b) w w' ∧ Grows w Z Z' ∧ (∀ k, T'.fp k → T.fp k ∨ w.heap.size ≤ k)
section
variable {w : World} {bd : Nat} {Z : Nat → Prop} {u : U}
theorem hentOL (vs : Array Value) (w : World) : (callFunc 52 vs).run Tryz.prog w = .ok (.enter 52 vs) w := by kernel_rfl
set_option maxHeartbeats 16000000 in
theorem loadLog_any (W : World) (b bt : Nat) (r : Rt) (br : Bool) (T : TR.TD) (l : TR.L) (h : Dk w bd Z u) (hC : Ct W w b 2 68 (stC bd (.pointer none) (pt bt) 0 r br) bt T l) (h32 : 32 ≤ u.L.length) (he : r.epoch < 4294967296) (hp : u.P.length < 1000000)
    (hl : l.length ≤ 1000000) (hZW : ∀ k, Z k → W.heap.size ≤ k) (hZT : ∀ k, Z k → ¬ T.fp k) (hZb : ¬ Z b) :
    Calls Tryz.prog 34 #[pt b] w (Logged W w b bd bt r br Z T (logS u r.epoch l)) := by
  have H := hid h
  have HC := hid hC
  have HZW := hid hZW; have HZT := hid hZT; have HZB := hid hZb; have HL := hid hl; have HP := hid hp; have H32 := hid h32; have HE := hid he
  have HZL := hid h.lt
  have HN := hid (dk_len h).2
  have HTL := hid hC.t.at_.lt
  have HBL := hid hC.blk.lt
  obtain ⟨R, hR⟩ : ∃ R, logS u r.epoch l = R := ⟨_, rfl⟩
  have HR := hid hR
  rw [hR]
  have hv := (hC.blk.drew).range 0 [pt bd] rfl
  have c5 : w.cell? ⟨b, 5, none⟩ = some (.int .u32 (r.epoch : Int)) := hC.blk.cell 5
  clear h hC hZW hZT hZb hl hp h32 he hR
  go_enter Tryz.func34, Tryz.ntmps34
  go_wp2_with fail
  have hold : Facts.hold [(3, fun w' => w'.rangeAt b 0 [pt bd]), (8, fun w' => w'.cell? ⟨b, 5, none⟩ = some (.int .u32 (r.epoch : Int)))] w.drew := Facts.cons_hold hv (Facts.cons_hold c5 (Facts.nil_hold _))
  have HD1 : Hid (Dk w.drew bd Z u) := hid (D.Rep.no H.out ((Fr.refl No w).drew))
  refine wpD_region hold (by kernel_rfl) 17 rfl ?_
  (refine wpD_plain 0 (v := ?_) rfl (by kernel_rfl) (by kernel_rfl) (by kernel_rfl) (fun _ _ _ h => h) (by rfl) ?_ (by assumption) ?_; rotate_left; (intro _w; go_simp; try with_reducible rfl); simp only [Act.put, List.setIfInBounds_toArray, List.set_cons_zero, List.set_cons_succ])
  (refine wpD_plain 1 (v := ?_) rfl (by kernel_rfl) (by kernel_rfl) (by kernel_rfl) (fun _ _ _ h => h) (by rfl) ?_ (by assumption) ?_; rotate_left; (intro _w; go_simp; try with_reducible rfl); simp only [Act.put, List.setIfInBounds_toArray, List.set_cons_zero, List.set_cons_succ])
  (refine wpD_plain 2 (v := ?_) rfl (by kernel_rfl) (by kernel_rfl) (by kernel_rfl) (fun _ _ _ h => h) (by rfl) ?_ (by assumption) ?_; rotate_left; (intro _w; go_simp; try with_reducible rfl); simp only [Act.put, List.setIfInBounds_toArray, List.set_cons_zero, List.set_cons_succ])
  (refine wpD_take 3 _ rfl (by kernel_rfl) (by kernel_rfl) (by kernel_rfl) (fun _ _ _ h => h) List.mem_cons_self (by rfl) (exec_load _ _ rfl b 0 rfl _ _ rfl rfl infoVol) (by assumption) ?_; simp only [Act.put, List.setIfInBounds_toArray, List.set_cons_zero, List.set_cons_succ])
  (refine wpD_plain 4 (v := ?_) rfl (by kernel_rfl) (by kernel_rfl) (by kernel_rfl) (fun _ _ _ h => h) (by rfl) ?_ (by assumption) ?_; rotate_left; (intro _w; go_simp; try with_reducible rfl); simp only [Act.put, List.setIfInBounds_toArray, List.set_cons_zero, List.set_cons_succ])
  (refine wpD_plain 5 (v := ?_) rfl (by kernel_rfl) (by kernel_rfl) (by kernel_rfl) (fun _ _ _ h => h) (by rfl) ?_ (by assumption) ?_; rotate_left; (intro _w; go_simp; try with_reducible rfl); simp only [Act.put, List.setIfInBounds_toArray, List.set_cons_zero, List.set_cons_succ])
  (refine wpD_plain 6 (v := ?_) rfl (by kernel_rfl) (by kernel_rfl) (by kernel_rfl) (fun _ _ _ h => h) (by rfl) ?_ (by assumption) ?_; rotate_left; (intro _w; go_simp; try with_reducible rfl); simp only [Act.put, List.setIfInBounds_toArray, List.set_cons_zero, List.set_cons_succ])
  (refine wpD_plain 7 (v := ?_) rfl (by kernel_rfl) (by kernel_rfl) (by kernel_rfl) (fun _ _ _ h => h) (by rfl) ?_ (by assumption) ?_; rotate_left; (intro _w; go_simp; try with_reducible rfl); simp only [Act.put, List.setIfInBounds_toArray, List.set_cons_zero, List.set_cons_succ])
  (refine wpD_take 8 _ rfl (by kernel_rfl) (by kernel_rfl) (by kernel_rfl) (fun _ _ _ h => h) (List.mem_cons_of_mem _ List.mem_cons_self) (by rfl) (v := ?_) ?_ (by assumption) ?_; rotate_left; (intro _w _hw; go_simp; try with_reducible rfl); simp only [Act.put, List.setIfInBounds_toArray, List.set_cons_zero, List.set_cons_succ])
  clear hold hv c5
  refine wpD_only 9 [] rfl (by kernel_rfl) (by kernel_rfl) (by rfl) (fun K9 hK9 => ?_)
  refine wp_call (.func 52) _ _ rfl 52 [] rfl hentOL [vol bd, .int .u32 (r.epoch : Int)] (by rfl) ?_
  refine (openLog_any r.epoch HD1.out H32.out HE.out HP.out).mono ?_
  intro e w1 ho
  obtain ⟨v1, v2, v3, rfl⟩ := opened_tuple ho
  have HO := hid (opened_pre ((Fr.refl No w).drew) ho)
  clear ho
  have hold : Facts.hold [] w1 := Facts.nil_hold _
  refine ⟨_, rfl, hK9 _ _ hold ?_⟩
  clear hK9 K9
  simp only [Act.put, List.setIfInBounds_toArray, List.set_cons_zero, List.set_cons_succ]
  (refine wpD_plain 10 (v := ?_) rfl (by kernel_rfl) (by kernel_rfl) (by kernel_rfl) (fun _ _ _ h => h) (by rfl) ?_ (by assumption) ?_; rotate_left; (intro _w; go_simp; try with_reducible rfl); simp only [Act.put, List.setIfInBounds_toArray, List.set_cons_zero, List.set_cons_succ])
  (refine wpD_plain 11 (v := ?_) rfl (by kernel_rfl) (by kernel_rfl) (by kernel_rfl) (fun _ _ _ h => h) (by rfl) ?_ (by assumption) ?_; rotate_left; (intro _w; go_simp; try with_reducible rfl); simp only [Act.put, List.setIfInBounds_toArray, List.set_cons_zero, List.set_cons_succ])
  (refine wpD_plain 12 (v := ?_) rfl (by kernel_rfl) (by kernel_rfl) (by kernel_rfl) (fun _ _ _ h => h) (by rfl) ?_ (by assumption) ?_; rotate_left; (intro _w; go_simp; try with_reducible rfl); simp only [Act.put, List.setIfInBounds_toArray, List.set_cons_zero, List.set_cons_succ])
  (refine wpD_plain 13 (v := ?_) rfl (by kernel_rfl) (by kernel_rfl) (by kernel_rfl) (fun _ _ _ h => h) (by rfl) ?_ (by assumption) ?_; rotate_left; (intro _w; go_simp; try with_reducible rfl); simp only [Act.put, List.setIfInBounds_toArray, List.set_cons_zero, List.set_cons_succ])
  (refine wpD_plain 14 (v := ?_) rfl (by kernel_rfl) (by kernel_rfl) (by kernel_rfl) (fun _ _ _ h => h) (by rfl) ?_ (by assumption) ?_; rotate_left; (intro _w; go_simp; try with_reducible rfl); simp only [Act.put, List.setIfInBounds_toArray, List.set_cons_zero, List.set_cons_succ])
  (refine wpD_plain 15 (v := ?_) rfl (by kernel_rfl) (by kernel_rfl) (by kernel_rfl) (fun _ _ _ h => h) (by rfl) ?_ (by assumption) ?_; rotate_left; (intro _w; go_simp; try with_reducible rfl); simp only [Act.put, List.setIfInBounds_toArray, List.set_cons_zero, List.set_cons_succ])
  (refine wpD_plain 16 (v := ?_) rfl (by kernel_rfl) (by kernel_rfl) (by kernel_rfl) (fun _ _ _ h => h) (by rfl) ?_ (by assumption) ?_; rotate_left; (intro _w; go_simp; try with_reducible rfl); simp only [Act.put, List.setIfInBounds_toArray, List.set_cons_zero, List.set_cons_succ])
  refine wpD_done (by kernel_rfl) ?_ _
  clear hold
  obtain ⟨Z', hz1, hz2, hm⟩ := HO.out
  have HZ1 := hid hz1; have HZ2 := hid hz2
  clear hz1 hz2 HO
  cases ho : (U.olog u r.epoch).2.2 with
  | none =>
    rw [ho] at hm
    obtain ⟨h1, h2⟩ := hm
    simp only [Ending.returned.injEq, Value.tuple.injEq, Array.mk.injEq, List.cons.injEq, and_true] at h1
    obtain ⟨rfl, rfl, rfl⟩ := h1
    have hne := olog_none ho
    have HRL : Hid (R = ((U.olog u r.epoch).1, (U.olog u r.epoch).2.1, none)) := hid (by rw [← HR.out]; unfold logS; rw [ho])
    obtain ⟨c, hc⟩ : ∃ c, (U.olog u r.epoch).1 = c := ⟨_, rfl⟩
    rw [hc] at hne HRL ⊢
    have H2 := hid h2
    clear h2 hc ho
    go_wp2_with fail
    go_ret
    rw [HRL.out]
    exact ⟨rfl, Z', H2.out, ⟨HZ1.out.os, HZ1.out.tape, HZ1.out.output, HZ1.out.size, fun k hk hn => HZ1.out.block k hk (fun hz => hn (.inl hz))⟩, HZ2.out⟩
  | some p =>
    obtain ⟨g, recs⟩ := p
    rw [ho] at hm
    simp only at hm
    obtain ⟨bg, v, h1, h2, h3, h4⟩ := hm
    simp only [Ending.returned.injEq, Value.tuple.injEq, Array.mk.injEq, List.cons.injEq, and_true] at h1
    obtain ⟨rfl, rfl, rfl⟩ := h1
    obtain ⟨hrl, hrs⟩ := olog_recs HN.out ho
    have HRL := hid hrl; have HRS := hid hrs
    have HRQ : Hid ((match recsS recs l with | none => (50, (U.olog u r.epoch).2.1, none) | some l' => (0, (U.olog u r.epoch).2.1, some (g, l'))) = R) := hid (by rw [← HR.out]; unfold logS; rw [ho])
    have HBG := hid h2; have HAT := hid h3; have HTX := hid h4
    obtain ⟨rr, hrr⟩ : ∃ x, recsS recs l = x := ⟨_, rfl⟩
    rw [hrr] at HRQ
    have HRR := hid hrr
    clear h2 h3 h4 ho hrl hrs HR hrr
    obtain ⟨va, vl, vc, rfl, hvl, hvc, hvt⟩ := HTX.out
    have hli : (vl : Int) ≤ 4096 := by have := HRL.out; omega
    have HVL := hid hvl; have HVT := hid hvt
    clear hvl hvc hvt HTX
    go_wp2_with fail
    have HC1 := hid (show Ct W w1 b 2 68 (stC bd (.pointer none) (pt bt) 0 r br) bt T l from
      ⟨⟨HC.out.t.b, HC.out.t.at_.fr HZ1.out (fun k hk hz => HZT.out k hz hk), HC.out.t.fr.trans HZ1.out (fun k hk => .inr (HZW.out k hk)), HC.out.t.ge⟩, HC.out.blk.fr HZ1.out HZB.out, HC.out.c0, HC.out.c1, HC.out.nb, HC.out.bw, HC.out.m⟩)
    go_loopw [29] (fun iv wr => ∃ (j : Nat) (lj : TR.L) (Tj : TR.TD), j ≤ vl ∧ iv = .int .i64 (j : Int) ∧ Hid (Ct W wr b 2 68 (stC bd (.pointer none) (pt bt) 0 r br) bt Tj lj) ∧ Hid (recsS (recs.drop j) lj = rr) ∧ Hid (lj.length ≤ l.length + 32 * j) ∧ Hid (Fr (fun k => T.fp k ∨ k = b) w1 wr) ∧ Hid (∀ k, Tj.fp k → T.fp k ∨ w1.heap.size ≤ k)) (fun iv _ => vl - (intOf iv).toNat)
    case atStart => exact ⟨0, l, T, Nat.zero_le _, rfl, HC1, hid (by rw [List.drop_zero]; exact HRR.out), hid (by omega), hid (Fr.refl _ _), hid (fun k hk => .inl hk)⟩
    case round =>
      obtain ⟨j, lj, Tj, hj, rfl, HCj, HRj, HLj, HFj, HTj⟩ := hrel
      have hw1 := HZ1.out.size
      have hw2 := HFj.out.size
      have HZT' : Hid (∀ k, Z' k → ¬ (T.fp k ∨ k = b)) := hid (fun k hk => by
        rintro (hf | rfl)
        · rcases HZ2.out k hk with hz | hge
          · exact HZT.out k hz hf
          · have := HTL.out k hf; omega
        · rcases HZ2.out _ hk with hz | hge
          · exact HZB.out hz
          · have := HBL.out; omega)
      have HGB : Hid (¬ (T.fp bg ∨ bg = b)) := hid (by
        have h1 := HBG.out
        rintro (hf | rfl)
        · have := HTL.out _ hf; omega
        · have := HBL.out; omega)
      have HFZ : Hid (Fr (fun k => Z k ∨ T.fp k ∨ k = b) w w1) := hid ⟨HZ1.out.os, HZ1.out.tape, HZ1.out.output, HZ1.out.size, fun k hk hn => HZ1.out.block k hk (fun hz => hn (.inl hz))⟩
      have HFW : Hid (Fr (fun k => Z k ∨ T.fp k ∨ k = b) w wr) := hid (HFZ.out.trans HFj.out (fun k hk => .inl (.inr hk)))
      by_cases hlt : j < vl
      · have hlt' : (j : Int) < vl := by omega
        have hjr : j < recs.length := by have := HVL.out; omega
        obtain ⟨x, hx⟩ : ∃ x, recs[j]? = some x := ⟨_, List.getElem?_eq_getElem hjr⟩
        have hxl := HRS.out x (List.mem_of_getElem? hx)
        have HXL := hid hxl
        have hdr : recs.drop j = x :: recs.drop (j + 1) := by
          rw [List.drop_eq_getElem_cons hjr]
          rw [List.getElem?_eq_getElem hjr] at hx
          simp only [Option.some.injEq] at hx
          rw [hx]
        have HRX : Hid ((match decS ⟨x.toArray⟩ with | none => none | some xs => recsS (recs.drop (j + 1)) (appS lj xs)) = rr) := hid (by have h := HRj.out; rw [hdr] at h; unfold recsS at h; exact h)
        obtain ⟨gq, oq, rfl, ⟨hg1, hg2, hg3⟩, hg4, hgr⟩ := HVT.out.resolve_left (by omega)
        have hcx : wr.cell? ⟨gq, oq + j, none⟩ = some (str x) := HFj.out.cell (hgr j (str x) (by simp [strs, hx])) (by
          rintro (hf | hf)
          · have hf' : T.fp gq := hf
            have := HTL.out _ hf'; omega
          · have hf' : gq = b := hf
            have := HBL.out; omega)
        clear hjr hxl hdr hx hg1 hg2 hg3 hg4 hgr HRj hlt hj
        go_wp2_with fail
        refine (decode_any ⟨x.toArray⟩ wr (by have := HXL.out; show x.toArray.size ≤ _; simp; omega)).mono ?_
        rintro e w2 ⟨v, rfl, hown, f2⟩
        cases hd : decS ⟨x.toArray⟩ with
        | none =>
          have HRN : Hid (R = (50, (U.olog u r.epoch).2.1, none)) := hid (by
            have h := HRX.out; rw [hd] at h
            rw [← HRQ.out, ← h])
          have HF2 := hid f2
          clear hown f2 hd
          rw [show decErr none = 30 from rfl]
          go_wp2_with fail
          go_ret
          rw [HRN.out]
          refine ⟨rfl, Z', ?_, HFW.out.trans HF2.out (fun k hk => hk.elim), HZ2.out⟩
          exact D.Rep.no (D.Rep.fr HAT.out.1 HFj.out HZT'.out) HF2.out
        | some xs =>
          rw [hd] at hown
          have hch := own_ch (l := xs) hown
          have HRN : Hid (recsS (recs.drop (j + 1)) (appS lj xs) = rr) := hid (by have h := HRX.out; rw [hd] at h; exact h)
          obtain ⟨hm1, hm2⟩ := decS_may hd
          have HM1 := hid hm1; have HM2 := hid hm2
          have HCH := hid hch
          have HF2 := hid f2
          clear hown hch f2 hd hm1 hm2
          rw [show decErr (some xs) = 0 from rfl]
          obtain ⟨av, cv, rfl, hcv⟩ := HCH.out
          clear hcv
          go_wp2_with fail
          refine (apply_any W w2 b 2 _ _ bt Tj lj _ xs _ (HCj.out.no HF2.out) HCH.out (fun k hk => ⟨fun hf => by have hk' : wr.heap.size ≤ k := hk; have := HCj.out.t.at_.lt k hf; omega, fun e => by have hk' : wr.heap.size ≤ k := hk; have := HCj.out.blk.lt; omega⟩) (fun y hy => ⟨(may_sizes (HM1.out y hy)).1, (may_sizes (HM1.out y hy)).2.1⟩) (by have := HLj.out; have := HL.out; have := HM2.out; have := HVL.out; have := HRL.out; omega)).mono ?_
          rintro e w3 ⟨rfl, T3, hC3, hF3, hT3⟩
          have HC3 := hid hC3
          have HF3 := hid hF3; have HT3 := hid hT3
          clear hC3 hF3 hT3
          go_wp2_with fail
          have h2s := HF2.out.size
          refine ⟨⟨j + 1, appS lj xs, T3, by omega, by go_num, HC3, HRN, hid (by have := appS_len lj xs; have := HLj.out; have := HM2.out; omega), hid ?_, hid ?_⟩, by simp only [intOf]; omega⟩
          · exact (HFj.out.trans HF2.out (fun k hk => hk.elim)).trans HF3.out (fun k hk => by
              rcases hk with hk | hk
              · rcases HTj.out k hk with h | h
                · exact .inl (.inl h)
                · exact .inr h
              · exact .inl (.inr hk))
          · intro k hk
            rcases HT3.out k hk with h | h
            · exact HTj.out k h
            · exact .inr (by omega)
      · have hjv : j = vl := by omega
        have hge : ¬ (j : Int) < vl := by omega
        have HRN : Hid (R = (0, (U.olog u r.epoch).2.1, some (g, lj))) := hid (by
          have h := HRj.out
          rw [List.drop_of_length_le (by have := HVL.out; omega)] at h
          rw [← HRQ.out, ← h]
          rfl)
        have q1 : wr.cell? ⟨b, 1, none⟩ = some (.pointer none) := HCj.out.blk.cell 1
        have q2 := HCj.out.blk.frozen 1
        clear hlt hj hjv
        go_wp2_with fail
        go_ret
        rw [HRN.out]
        have hs : Fr (fun k => k = b) wr (wr.setCell ⟨b, 1, none⟩ (pt bg)) := (Fr.refl _ _).setCell _ _ (.inl rfl)
        have hb : ∀ k, Tj.fp k → ¬ k = b := fun k hk e => HCj.out.nb (by rw [← e]; exact hk)
        have hfs := (HFj.out.trans hs (fun k hk => .inl (.inr hk)))
        refine ⟨bg, Tj, Z', rfl, HAT.out.fr hfs HZT'.out HGB.out, ⟨⟨HCj.out.t.b, HCj.out.t.at_.fr hs hb, HCj.out.t.fr.trans hs (fun k hk => .inr (by have e' : k = b := hk; have := HCj.out.bw; omega)), HCj.out.t.ge⟩, HCj.out.blk.set 1 (pt bg), rfl, by simp [stC], HCj.out.nb, HCj.out.bw, HCj.out.m⟩, HBG.out, ?_, fun k hk => ⟨?_, ?_⟩, HFZ.out.trans hfs (fun k hk => .inl (.inr hk)), HZ2.out, ?_⟩
        · intro hf
          rcases HTj.out _ hf with h | h
          · exact HGB.out (.inl h)
          · have := HAT.out.2.1.lt; omega
        · intro hf
          rcases HTj.out _ hf with h | h
          · exact HZT'.out k hk (.inl h)
          · have := HAT.out.1.lt k hk; omega
        · intro e
          exact HZT'.out k hk (.inr e)
        · intro k hk
          rcases HTj.out k hk with h | h
          · exact .inl h
          · exact .inr (by omega)
end
end Go.Proofs.YtflfmkokfbgclaaGreat.ST

namespace Go.Proofs.YtflfmkokfbgclaaGreat.ST
set_option maxRecDepth 100000
open Go.RowKit K L

/-- A store as data, with its disk. -/
structure Sd where
  l : TR.L
  r : Rt
  g : Lg
  br : Bool
  u : U
/-- A store in memory; what it owns lies in O. -/
structure Sto (W w : World) (b bd : Nat) (O : Nat → Prop) (s : Sd) : Prop where
  mem : ∃ bg bt Z T, L.At w bg bd Z s.g s.u ∧ Ct W w b 2 68 (stC bd (pt bg) (pt bt) 0 s.r s.br) bt T s.l ∧ ¬ T.fp bg ∧ bg ≠ b ∧ (∀ k, Z k → ¬ T.fp k ∧ k ≠ b) ∧ (∀ k, Z k ∨ T.fp k ∨ k = b ∨ k = bg → O k)
  ow : ∀ k, O k → W.heap.size ≤ k ∧ k < w.heap.size
  area : s.r.area ≤ 1
  rok : s.r.Ok
  big : 32 ≤ s.u.L.length
/-- What Open gives: the error, the disk, the store. -/
def openS (u : U) : Int × U × Option Sd :=
  if u.L.length < 32 then (1, u, none) else match loadS u with
    | (c, none) => (c, u, none)
    | (_, some (r, l)) => match logS u r.epoch l with
      | (c, u', none) => (c, u', none)
      | (_, u', some (g, l')) => (0, u', some ⟨l', r, g, false, u'⟩)
theorem loadS_none {u : U} {c : Int} (h : loadS u = (c, none)) : c ≠ 0 := by
  unfold loadS at h
  split at h
  · rename_i hh; simp only [Prod.mk.injEq, and_true] at h; rw [← h]; exact hh
  · split at h
    · simp only [Prod.mk.injEq, and_true] at h; rw [← h]; decide
    · split at h
      · simp at h
      · simp only [Prod.mk.injEq, and_true] at h; rw [← h]; decide
theorem logS_none {u u' : U} {ep : Nat} {l : TR.L} {c : Int} (h : logS u ep l = (c, u', none)) : c ≠ 0 := by
  unfold logS at h
  split at h
  · rename_i hh; simp only [Prod.mk.injEq, and_true] at h; rw [← h.1]; exact olog_none hh
  · split at h
    · simp only [Prod.mk.injEq, and_true] at h; rw [← h.1]; decide
    · simp at h
theorem conG_len : ∀ (n : Nat) (s last : S) (l l' : TR.L), conG n s last l = some l' → l'.length ≤ l.length + s.size
  | 0, s, _, l, l', h => by simp only [conG, Option.some.injEq] at h; rw [← h]; omega
  | n + 1, s, last, l, l', h => by
    unfold conG at h
    by_cases h0 : s.size = 0
    · rw [if_pos h0] at h; simp only [Option.some.injEq] at h; rw [← h]; omega
    · rw [if_neg h0] at h
      cases hc : cutS s with
      | none => rw [hc] at h; cases h
      | some p =>
        rw [hc] at h
        obtain ⟨c, r⟩ := p
        simp only at h
        split at h
        · cases h
        · have h1 := conG_len n r c.key _ l' h
          have h2 := app_length l c
          have h3 := cut_less hc
          omega
theorem loadS_len {u : U} {c : Int} {r : Rt} {l : TR.L} (hn : u.L.length ≤ 4096) (h : loadS u = (c, some (r, l))) : l.length ≤ 1000000 ∧ r = (rootU u).1 ∧ (rootU u).2 = 0 := by
  unfold loadS at h
  split at h
  · simp at h
  · rename_i h0
    have h0 : (rootU u).2 = 0 := Decidable.not_not.1 h0
    split at h
    · simp at h
    · rename_i l' hl'
      split at h
      · simp only [Prod.mk.injEq, Option.some.injEq] at h
        obtain ⟨_, h1, h2⟩ := h
        refine ⟨?_, h1.symm, h0⟩
        have hc := conG_len _ _ _ _ _ hl'
        have hi := imgB_len u (rootU u).1
        have hr := (rootU_ok h0).2.2
        rw [← h2]
        have hs : (ByteArray.mk (imgB u (rootU u).1).toArray).size = (imgB u (rootU u).1).length := by show (imgB u (rootU u).1).toArray.size = _; simp
        rw [hs] at hc
        unfold areaN at hr
        simp only [List.length_nil] at hc
        omega
      · simp at h
theorem opens_L (u : U) (first count e : Nat) : (u.opens first count e).2.1.L.length = u.L.length := by
  have hb : (u.begin first).2.1.L.length = u.L.length := by
    unfold U.begin
    split
    · rfl
    · simp only
      split
      · rfl
      · split
        · simp only [write_L]
        · simp only [flush_L, write_L]
  unfold U.opens
  simp only
  split <;> exact hb
theorem logS_len {u u' : U} {ep : Nat} {l : TR.L} {c : Int} {o : Option (Lg × TR.L)} (h : logS u ep l = (c, u', o)) : u'.L.length = u.L.length := by
  have ho : (U.olog u ep).2.1.L.length = u.L.length := opens_L _ _ _ _
  unfold logS at h
  split at h
  · simp only [Prod.mk.injEq] at h; rw [← h.2.1]; exact ho
  · split at h <;> (simp only [Prod.mk.injEq] at h; rw [← h.2.1]; exact ho)
def OpenS (W w : World) (bd : Nat) (Z : Nat → Prop) (p : Int × U × Option Sd) (e : Ending) (w' : World) : Prop := match p with
  | (c, u', none) => e = .returned (.tuple #[.pointer none, .int .i64 c]) ∧ ∃ Z', Dk w' bd Z' u' ∧ Fr Z w w' ∧ Grows w Z Z'
  | (_, _, some s) => ∃ b O, e = .returned (.tuple #[pt b, .int .i64 0]) ∧ Sto W w' b bd O s ∧ Fr Z w w' ∧ Grows w Z O
theorem buildVol (bd : Nat) (w : World) : (Instr.build 59 #[(0, pt bd)]).run Tryz.prog w = .ok (.agg #[pt bd]) w := by kernel_rfl
theorem buildSto (bd : Nat) (w : World) : (Instr.build 68 #[(0, .agg #[pt bd])]).run Tryz.prog w = .ok (.agg (stC bd (.pointer none) (.pointer none) 0 ⟨0, 0, 0, 0⟩ false).toArray) w := by kernel_rfl
section
variable {w : World} {bd : Nat} {Z : Nat → Prop} {u : U}
set_option maxHeartbeats 16000000 in
theorem open_any (W : World) (h : Dk w bd Z u) (hp : u.P.length < 1000000) (hW : Fr No W w) (hZW : ∀ k, Z k → W.heap.size ≤ k) :
    Calls Tryz.prog 14 #[pt bd] w (OpenS W w bd Z (openS u)) := by
  have H := hid h
  have HW := hid hW; have HZW := hid hZW; have HP := hid hp
  have HZL := hid h.lt
  have hl := dk_len h
  have hli : (u.L.length : Int) ≤ 4096 := by omega
  have HN := hid hl
  have HDS := hid (dsectors_any h)
  obtain ⟨R, hR⟩ : ∃ R, openS u = R := ⟨_, rfl⟩
  have HR := hid hR
  rw [hR]
  clear h hW hZW hp hl hR
  obtain ⟨n, hn⟩ : ∃ n, u.L.length = n := ⟨_, rfl⟩
  have HNN := hid hn
  rw [hn] at hli HDS
  by_cases h32 : n < 32
  · have HRN : Hid (R = (1, u, none)) := hid (by rw [← HR.out]; unfold openS; rw [HNN.out, if_pos h32])
    have h32i : (n : Int) < 32 := by omega
    clear hn
    go_enter Tryz.func14, Tryz.ntmps14
    go_wp2_with fail
    refine HDS.out.mono ?_
    rintro e wq ⟨rfl, rfl⟩
    go_wp2_with fail
    go_ret2
    rw [HRN.out]
    exact ⟨rfl, Z, H.out, Fr.refl _ _, Grows.refl _ _⟩
  · have h32i : ¬ (n : Int) < 32 := by omega
    have H32 : Hid (32 ≤ u.L.length) := hid (by rw [hn]; omega)
    have HRN : Hid ((match loadS u with
      | (c, none) => (c, u, none)
      | (_, some (r, l)) => match logS u r.epoch l with
        | (c, u', none) => (c, u', none)
        | (_, u', some (g, l')) => (0, u', some ⟨l', r, g, false, u'⟩)) = R) := hid (by rw [← HR.out]; unfold openS; rw [HNN.out, if_neg h32])
    clear hn h32
    go_enter Tryz.func14, Tryz.ntmps14
    go_wp2_with fail
    refine HDS.out.mono ?_
    rintro e wq ⟨rfl, rfl⟩
    go_wp2_with (first
      | ((with_reducible show wpList _ _ _ (⟨_, .build 59 _, _, _, _, _⟩ :: _) _ _); refine wpL_build rfl _ [(0, .tmp 10)] rfl (.agg #[pt bd]) (buildVol bd _) ?_)
      | ((with_reducible show wpList _ _ _ (⟨_, .build 68 _, _, _, _, _⟩ :: _) _ _); refine wpL_build rfl _ [(0, .tmp 11)] rfl (.agg (stC bd (.pointer none) (.pointer none) 0 ⟨0, 0, 0, 0⟩ false).toArray) (buildSto bd _) ?_)
      | ((with_reducible show wpList _ _ _ (⟨_, .box 68 _, _, _, _, _⟩ :: _) _ _); refine wpL_box rfl _ _ rfl _ rfl (stC bd (.pointer none) (.pointer none) 0 ⟨0, 0, 0, 0⟩ false) rfl ?_; intro w1 HB1 F1 HS1)
      | fail)
    obtain ⟨b, hb⟩ : ∃ k, w.heap.size = k := ⟨_, rfl⟩
    have HBE := hid hb
    rw [hb] at HB1 ⊢
    clear hb
    refine (loadImage_any W b (.pointer none) false (D.Rep.no H.out F1.out) HB1.out (HW.out.trans' F1.out) (by have := HW.out.size; have := HBE.out; omega)).mono ?_
    intro e w2 hld
    have HD2 := hid (D.Rep.no H.out F1.out)
    cases hq : loadS u with
    | mk c o =>
    rw [hq] at hld
    cases o with
    | none =>
      obtain ⟨rfl, f2⟩ := hld
      have hc := loadS_none hq
      have HRL : Hid (R = (c, u, none)) := hid (by rw [← HRN.out, hq])
      have HF2 := hid f2
      clear f2 hq
      go_wp2_with fail
      go_ret2
      rw [HRL.out]
      exact ⟨rfl, Z, D.Rep.no HD2.out HF2.out, (F1.out.trans' HF2.out).no, Grows.refl _ _⟩
    | some p =>
      obtain ⟨r, l⟩ := p
      obtain ⟨bt, T, rfl, hT, hTn, hM, hB2, f2⟩ := hld
      obtain ⟨hlen, hr1, hr2⟩ := loadS_len HN.out.2 hq
      have HLN := hid hlen
      have HT := hid hT; have HTN := hid hTn; have HM := hid hM; have HB2 := hid hB2; have HF2 := hid f2
      have HROK : Hid (r.Ok ∧ r.area ≤ 1) := hid (by rw [hr1]; exact ⟨rootU_Ok u, (rootU_ok hr2).2.1⟩)
      have HRL : Hid ((match logS u r.epoch l with
        | (c, u', none) => (c, u', none)
        | (_, u', some (g, l')) => (0, u', some ⟨l', r, g, false, u'⟩)) = R) := hid (by have h := HRN.out; rw [hq] at h; exact h)
      clear hT hTn hM hB2 f2 hlen hr1 hr2 hq
      have h1s := HS1.out
      have hbe := HBE.out
      have hws := HW.out.size
      have HZB := hid (show ¬ Z b from fun hz => by have := HZL.out _ hz; omega)
      have HCt := hid (show Ct W w2 b 2 68 (stC bd (.pointer none) (pt bt) 0 r false) bt T l from
        ⟨HT.out, HB2.out, rfl, by simp [stC], fun e => by have := HTN.out _ e; omega, by omega, HM.out⟩)
      have HD3 : Hid (Dk w2 bd Z u) := hid (D.Rep.fr HD2.out HF2.out (fun k hk e => HZB.out (by have e' : k = b := e; rw [← e']; exact hk)))
      clear h1s hbe hws
      go_wp2_with fail
      refine (loadLog_any W b bt r false T l HD3.out HCt.out H32.out HROK.out.1.e HP.out HLN.out HZW.out (fun k hk e => by have := HTN.out _ e; have := HZL.out k hk; have := F1.out.size; omega) HZB.out).mono ?_
      intro e w3 hlg
      have f13 : Fr Z w w2 := (F1.out.no).trans HF2.out (fun k hk => .inr (by have e' : k = b := hk; have := HBE.out; omega))
      have HF13 := hid f13
      have hTn' : ∀ k, T.fp k ∨ k = b → w.heap.size ≤ k := fun k hk => by
        rcases hk with hk | hk
        · have := HTN.out k hk; have := F1.out.size; omega
        · have := HBE.out; omega
      have HTN' := hid hTn'
      clear f13 hTn'
      cases hq : logS u r.epoch l with
      | mk c o =>
      obtain ⟨u', o⟩ := o
      rw [hq] at hlg
      cases o with
      | none =>
        obtain ⟨rfl, Z', hd, hf, hg⟩ := hlg
        have hc := logS_none hq
        have HRF : Hid (R = (c, u', none)) := hid (by rw [← HRL.out, hq])
        have HDD := hid hd; have HFF := hid hf; have HGG := hid hg
        clear hd hf hg hq
        go_wp2_with fail
        go_ret2
        rw [HRF.out]
        refine ⟨rfl, Z', HDD.out, HF13.out.trans HFF.out (fun k hk => ?_), fun k hk => (HGG.out k hk).imp id (fun hge => by have := HF13.out.size; omega)⟩
        rcases hk with hk | hk
        · exact .inl hk
        · exact .inr (HTN'.out k hk)
      | some p =>
        obtain ⟨g, l'⟩ := p
        obtain ⟨bg, T', Z', rfl, hat, hct, hbg, hnb, hzt, hf, hg, htp⟩ := hlg
        have HRF : Hid (R = (0, u', some ⟨l', r, g, false, u'⟩)) := hid (by rw [← HRL.out, hq])
        have HAT := hid hat; have HCT := hid hct; have HBG := hid hbg; have HNB := hid hnb; have HZT := hid hzt; have HFF := hid hf; have HGG := hid hg; have HTP := hid htp
        have HUL : Hid (u'.L.length = u.L.length) := hid (logS_len hq)
        clear hat hct hbg hnb hzt hf hg htp hq
        go_wp2_with fail
        go_ret2
        rw [HRF.out]
        have h13 := HF13.out.size
        have h12 := F1.out.size
        have h2b := HB2.out.lt
        refine ⟨b, fun k => Z' k ∨ T'.fp k ∨ k = b ∨ k = bg, rfl, ⟨⟨bg, bt, Z', T', HAT.out, HCT.out, HNB.out, fun e => by have := HBG.out; omega, HZT.out, fun k hk => hk⟩, ?_, HROK.out.2, HROK.out.1, by rw [HUL.out]; exact H32.out⟩, HF13.out.trans HFF.out (fun k hk => hk.elim .inl (fun h => .inr (HTN'.out k h))), ?_⟩
        · have hW := HW.out.size
          rintro k (hk | hk | rfl | rfl)
          · refine ⟨?_, HAT.out.1.lt k hk⟩
            rcases HGG.out k hk with h | h
            · exact HZW.out k h
            · omega
          · refine ⟨?_, HCT.out.t.at_.lt k hk⟩
            exact HCT.out.t.ge k hk
          · exact ⟨HCT.out.bw, HCT.out.blk.lt⟩
          · exact ⟨by have := HBG.out; omega, HAT.out.2.1.lt⟩
        · rintro k (hk | hk | rfl | rfl)
          · exact (HGG.out k hk).imp id (fun h => by omega)
          · rcases HTP.out k hk with h | h
            · exact .inr (HTN'.out k (.inl h))
            · exact .inr (by omega)
          · exact .inr (by have := HBE.out; omega)
          · exact .inr (by have := HBG.out; omega)
end
end Go.Proofs.YtflfmkokfbgclaaGreat.ST
