/-
  The tree: Clone, Of.
-/
import Derived.Test.YtlnolnaapnijbaaTrTd
namespace Go.Proofs.Ytlnolnaapnijbaa.TR
set_option maxRecDepth 100000
open Go.RowKit K

/-- A new tree. -/
def NewT (w : World) (l : L) (e : Ending) (w' : World) : Prop := ∃ T : TD, e = .returned T.v ∧ TrAt w' T l ∧ Fr No w w' ∧ ∀ g, T.fp g → w.heap.size ≤ g
set_option maxHeartbeats 8000000 in
theorem tclone_any (w : World) (T : TD) (l : L) (h : TrAt w T l) (hn : l.length ≤ 4398046511104) : Calls Try.prog 15 #[T.v] w (NewT w l) := by
  have H := hid h
  have HN := hid hn
  have c2 := h.ln
  have hrg := h.rg
  clear h hn
  show Calls Try.prog _ #[.pointer (some ⟨T.b, 0, none⟩)] w _
  go_enter Try.func15, Try.ntmps15
  go_wp2_with fail
  have hold : Facts.hold [(3, fun w' => w'.rangeAt T.b 0 (ptr T.d T.t)), (8, fun w' => w'.cell? ⟨T.b, 2, none⟩ = some (.int .i64 (l.length : Int)))] w.drew := Facts.cons_hold hrg (Facts.cons_hold c2 (Facts.nil_hold _))
  refine wpD_region hold (by kernel_rfl) 12 rfl ?_
  (refine wpD_plain 0 (v := ?_) rfl (by kernel_rfl) (by kernel_rfl) (by kernel_rfl) (fun _ _ _ h => h) (by rfl) ?_ (by assumption) ?_; rotate_left; (intro _w; go_simp; try with_reducible rfl); simp only [Act.put, List.setIfInBounds_toArray, List.set_cons_zero, List.set_cons_succ])
  (refine wpD_plain 1 (v := ?_) rfl (by kernel_rfl) (by kernel_rfl) (by kernel_rfl) (fun _ _ _ h => h) (by rfl) ?_ (by assumption) ?_; rotate_left; (intro _w; go_simp; try with_reducible rfl); simp only [Act.put, List.setIfInBounds_toArray, List.set_cons_zero, List.set_cons_succ])
  (refine wpD_plain 2 (v := ?_) rfl (by kernel_rfl) (by kernel_rfl) (by kernel_rfl) (fun _ _ _ h => h) (by rfl) ?_ (by assumption) ?_; rotate_left; (intro _w; go_simp; try with_reducible rfl); simp only [Act.put, List.setIfInBounds_toArray, List.set_cons_zero, List.set_cons_succ])
  (refine wpD_take 3 _ rfl (by kernel_rfl) (by kernel_rfl) (by kernel_rfl) (fun _ _ _ h => h) List.mem_cons_self (by rfl) (exec_load _ _ rfl T.b 0 rfl _ _ rfl rfl (by rw [ptr_length]; exact info_p)) (by assumption) ?_; simp only [Act.put, List.setIfInBounds_toArray, List.set_cons_zero, List.set_cons_succ])
  (refine wpD_plain 5 (v := ?_) rfl (by kernel_rfl) (by kernel_rfl) (by kernel_rfl) (fun _ _ _ h => h) (by rfl) ?_ (by assumption) ?_; rotate_left; (intro _w; go_simp; try with_reducible rfl); simp only [Act.put, List.setIfInBounds_toArray, List.set_cons_zero, List.set_cons_succ])
  (refine wpD_plain 6 (v := ?_) rfl (by kernel_rfl) (by kernel_rfl) (by kernel_rfl) (fun _ _ _ h => h) (by rfl) ?_ (by assumption) ?_; rotate_left; (intro _w; go_simp; try with_reducible rfl); simp only [Act.put, List.setIfInBounds_toArray, List.set_cons_zero, List.set_cons_succ])
  (refine wpD_plain 7 (v := ?_) rfl (by kernel_rfl) (by kernel_rfl) (by kernel_rfl) (fun _ _ _ h => h) (by rfl) ?_ (by assumption) ?_; rotate_left; (intro _w; go_simp; try with_reducible rfl); simp only [Act.put, List.setIfInBounds_toArray, List.set_cons_zero, List.set_cons_succ])
  (refine wpD_take 8 _ rfl (by kernel_rfl) (by kernel_rfl) (by kernel_rfl) (fun _ _ _ h => h) (List.mem_cons_of_mem _ List.mem_cons_self) (by rfl) (v := ?_) ?_ (by assumption) ?_; rotate_left; (intro _w _hw; go_simp; try with_reducible rfl); simp only [Act.put, List.setIfInBounds_toArray, List.set_cons_zero, List.set_cons_succ])
  clear hold
  refine wpD_only 4 [(8, fun w' => w'.cell? ⟨T.b, 2, none⟩ = some (.int .i64 (l.length : Int)))] rfl (by kernel_rfl) (by kernel_rfl) (by rfl) (fun K4 hK4 => ?_)
  refine wp_call (.func 47) _ _ rfl 47 [] rfl (fun vs w => by kernel_rfl) [val T.d T.t] (by rfl) ?_
  refine (clone_any T.d w.drew T.t (H.out.rep.no (Fr.refl No w).drew) (H.out.fine HN.out)).mono ?_
  rintro e w2 ⟨u, rfl, hru, hsk, hf, hgu⟩
  have F2 : Hid (Fr No w w2) := hid ((Fr.refl No w).drew.trans' hf)
  have HGU : Hid (∀ g, fp T.d u g → w.heap.size ≤ g) := hid hgu
  have HRU := hid hru; have HSK := hid hsk
  have hold : Facts.hold [(8, fun w' => w'.cell? ⟨T.b, 2, none⟩ = some (.int .i64 (l.length : Int)))] w2 := Facts.cons_hold (F2.out.cell c2 id) (Facts.nil_hold _)
  refine ⟨_, rfl, hK4 _ _ hold ?_⟩
  clear hK4 K4 hru hsk hf hgu
  simp only [Act.put, List.setIfInBounds_toArray, List.set_cons_zero, List.set_cons_succ]
  obtain ⟨vp, vq, hv, hp1, hp2⟩ := val_agg T.d u
  have hpl : ptr T.d u = [vp, vq] := by
    have : (val T.d u) = .agg (ptr T.d u).toArray := rfl
    rw [hv] at this
    have h2 : #[vp, vq] = (ptr T.d u).toArray := by injection this
    simpa using (congrArg Array.toList h2).symm
  have HPL := hid hpl
  rw [hv]
  clear hv hpl
  (refine wpD_plain 9 (v := (.agg #[vp, vq, .int .i64 (l.length : Int)])) rfl (by kernel_rfl) (by kernel_rfl) (by kernel_rfl) (fun _ _ _ h => h) (by rfl) ?_ (by assumption) ?_; (intro _w; go_simp; skip); simp only [Act.put, List.setIfInBounds_toArray, List.set_cons_zero, List.set_cons_succ])
  clear hold
  refine wpD_only 10 [(8, fun w' => w'.cell? ⟨T.b, 2, none⟩ = some (.int .i64 (l.length : Int)))] rfl (by kernel_rfl) (by kernel_rfl) (by rfl) (fun K10 hK10 => ?_)
  refine wp_box _ _ rfl _ rfl [vp, vq, Value.int .i64 (l.length : Int)] rfl ?_
  intro w3 HB3 F3 HS3
  have hold : Facts.hold [(8, fun w' => w'.cell? ⟨T.b, 2, none⟩ = some (.int .i64 (l.length : Int)))] w3 := Facts.cons_hold (F3.out.cell (F2.out.cell c2 id) id) (Facts.nil_hold _)
  refine hK10 _ _ hold ?_
  clear hK10 K10
  simp only [Act.put, List.setIfInBounds_toArray, List.set_cons_zero, List.set_cons_succ]
  (refine wpD_plain 11 (v := ?_) rfl (by kernel_rfl) (by kernel_rfl) (by kernel_rfl) (fun _ _ _ h => h) (by rfl) ?_ (by assumption) ?_; rotate_left; (intro _w; go_simp; try with_reducible rfl); simp only [Act.put, List.setIfInBounds_toArray, List.set_cons_zero, List.set_cons_succ])
  clear hold
  refine wpD_done (by kernel_rfl) ?_ _
  try simp only [Act.put, List.setIfInBounds_toArray, List.set_cons_zero, List.set_cons_succ]
  go_wp2
  go_ret
  have hlt : w.heap.size ≤ w2.heap.size := F2.out.size
  have hru : Rep w3 T.d u := HRU.out.no F3.out
  obtain ⟨s1, s2, s3, s4⟩ := sk_same (T.d + 1) T.t u HSK.out.symm
  refine ⟨⟨T.d, u, w2.heap.size⟩, rfl, ⟨(by show Blk _ _ _ (ptr T.d u ++ _); rw [HPL.out]; exact HB3.out), hru, s2 _ _ H.out.ok, s4 H.out.good, ?_, H.out.cap, H.out.low, fun e => ?_⟩, F2.out.trans' F3.out, fun g hg => hg.elim (fun e => by rw [e]; exact hlt) (HGU.out g)⟩
  · have := s1 ⟨#[]⟩
    exact this.symm.trans H.out.fl
  · have : w2.heap.size < w2.heap.size := HRU.out.lt _ e
    omega
end Go.Proofs.Ytlnolnaapnijbaa.TR
