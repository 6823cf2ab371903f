/-
  Parts: depth.
-/
import Derived.Test.YtlnolnaapnijbaaTrG
namespace Go.Proofs.Ytlnolnaapnijbaa.TR
set_option maxRecDepth 100000
open Go.RowKit K

/-- A variable that holds a part: for depth. -/
def BoxD (w : World) (bp : Nat) (d : Nat) : Prop := ∃ t : PT d, Blk w bp 103 (ptr d t) ∧ Rep w d t ∧ Fine d t ∧ ¬ fp d t bp
set_option maxHeartbeats 4000000 in
theorem pdepth_any (d : Nat) (w : World) (t : PT d) (hr : Rep w d t) (hf : Fine d t) (hd : d ≤ 1000) : Calls Try.prog 82 #[val d t] w fun e w' => e = .returned (.int .i64 (d + 1 : Nat)) ∧ Fr No w w' := by
  have HR := hid hr; have HFN := hid hf
  clear hr hf
  obtain ⟨vp, vq, hv, hp1, hp2⟩ := val_agg d t
  have hpl : ptr d t = [vp, vq] := by
    have : (val d t) = .agg (ptr d t).toArray := rfl
    rw [hv] at this
    have h2 : #[vp, vq] = (ptr d t).toArray := by injection this
    simpa using (congrArg Array.toList h2).symm
  have HPL := hid hpl
  rw [hv]
  clear hv hpl
  go_enter Try.func82, Try.ntmps82
  go_wp2_with ((with_reducible show wpList _ _ _ ({ dst := _, op := .box 103 _, type := _, pos := _, after := _, guard := _ } :: _) _ _); refine wpL_box rfl _ _ rfl _ rfl [vp, vq] rfl ?_; intro w1 HB1 F1 HS1)
  go_loopw [3] (fun n wr => ∃ k e : Nat, n = .int .i64 k ∧ k + e = d + 1 ∧ Hid (BoxD wr w.heap.size e) ∧ Hid (Fr (fun k => k = w.heap.size) w1 wr)) (fun n _ => d + 1 - (intOf n).toNat)
  case atStart =>
    refine ⟨1, d, rfl, by omega, hid ⟨t, ?_, HR.out.no F1.out, HFN.out, fun e => ?_⟩, hid (Fr.refl _ _)⟩
    · rw [HPL.out]; exact HB1.out
    · have := HR.out.lt _ e; omega
  case round =>
    obtain ⟨k, e, rfl, hke, HBX, HF⟩ := hrel
    rcases e with _ | e
    · obtain ⟨t0, hB0, hr0, hf0, hn0⟩ := HBX.out
      have c0 : wr.cell? ⟨w.heap.size, 0, none⟩ = some (.pointer (some ⟨t0.b, 0, none⟩)) := hB0.cell 0
      clear hB0 hr0 hf0 hn0
      have HK : Hid (k = d + 1) := hid (by omega)
      clear hke
      go_wp2
      go_ret
      refine ⟨by rw [← HK.out]; rfl, ?_⟩
      exact F1.out.trans (D' := fun k => k = w.heap.size) HF.out (fun k e => .inr (by rw [e]; exact Nat.le_refl _))
    · obtain ⟨t0, hB0, hr0, hf0, hn0⟩ := HBX.out
      have HB0 : Hid (Blk wr w.heap.size 103 [.pointer none, .pointer (some ⟨t0.b, 0, none⟩)]) := hid hB0
      have HR0 := hid hr0; have HF0 := hid hf0; have HN0 := hid hn0
      have hlen : 1 ≤ t0.l.length := hf0.two.elim (fun e => by cases e) id
      obtain ⟨gc, cc, hcv, hc1, hcc1, hcc2, hog, hrange⟩ := node_open hr0 hlen
      obtain ⟨k0, x, r, hl⟩ : ∃ (k0 : S) (x : PT e) (r : List (S × Kid (e + 1))), t0.l = (k0, up x) :: r := by
        cases hl : t0.l with
        | nil => rw [hl] at hlen; simp at hlen
        | cons y r => exact ⟨y.1, y.2, r, rfl⟩
      have HL := hid hl
      have hrx := hrange [] k0 x r hl
      have HRX : Hid (wr.rangeAt gc 0 (ptr e x)) := hid (by simpa using hrx)
      have c0 : wr.cell? ⟨w.heap.size, 0, none⟩ = some (.pointer none) := HB0.out.cell 0
      have c1 : wr.cell? ⟨w.heap.size, 1, none⟩ = some (.pointer (some ⟨t0.b, 0, none⟩)) := HB0.out.cell 1
      have hpos : (0 : Int) < (t0.l.length : Int) := by omega
      have hpos2 : 0 < t0.l.length := by omega
      have HKE := hid hke
      have hk1 : (k : Int) ≤ 1001 := by omega
      clear hB0 hr0 hf0 hn0 hcv hog hrange hrx hl hlen hke
      unfold maxLen at hcc2
      go_wp2_with (first
        | ((with_reducible show wpList _ _ _ ({ dst := _, op := .load 103 _, type := _, pos := _, after := _, guard := _ } :: _) _ _); refine wpL_load rfl _ _ rfl gc 0 rfl (ptr e x) _ HRX.out rfl rfl (by rw [ptr_length]; exact info_p) ?_)
        | ((with_reducible show wpList _ _ _ ({ dst := _, op := .store 103 _ _, type := _, pos := _, after := _, guard := _ } :: _) _ _); refine wpL_storeV rfl _ _ _ rfl w.heap.size 0 (.agg (ptr e x).toArray) (ptr e x) rfl rfl rfl _ _ HB0.out (by rw [ptr_length]; simp) (by rw [ptr_length]; exact info_p) (ptr_one e x) ?_; intro w3 HB3 F3 HS3))
      have hmx : (k0, up x) ∈ t0.l := by rw [HL.out]; simp
      have hne : ¬ fp e x w.heap.size := fun h => HN0.out (.inr ⟨_, hmx, h⟩)
      have hrx : Rep w3 e x := (repK_succ.1 (HR0.out.kids.rep _ hmx)).fr F3.out (fun g hg h => hne (by have e' : g = w.heap.size := h; rw [← e']; exact hg))
      have hbx : Blk w3 w.heap.size 103 (ptr e x) := by
        have := HB3.out
        rwa [show spl [.pointer none, .pointer (some ⟨t0.b, 0, none⟩)] 0 (ptr e x) = ptr e x from by
          unfold spl
          rw [ptr_length]; simp] at this
      have hBox : BoxD w3 w.heap.size e := ⟨x, hbx, hrx, HF0.out.kid (A := []) HL.out, hne⟩
      have hke := HKE.out
      simp only [Act.put, List.setIfInBounds_toArray, List.set_cons_zero, List.set_cons_succ, List.set_nil]
      exact ⟨⟨_, _, _, _, _, _, _, _, _, _, _, _, _, ⟨k + 1, e, by go_num, by omega, hid hBox, hid (HF.out.trans' F3.out)⟩, rfl⟩, by simp [intOf]; omega⟩
end Go.Proofs.Ytlnolnaapnijbaa.TR
