/-
  Part 34 of the proof: StCk, StMr, StCm.
-/
import Derived.Test.YtejbanlhgnlliaaGreatPt33
namespace Go.Proofs.YtejbanlhgnlliaaGreat.ST
set_option maxRecDepth 100000
open Go.RowKit K L

/-- The root of the next checkpoint. -/
def nextR (s : Sd) : Rt := ⟨1 - s.r.area, (s.r.epoch + 1) % 4294967296, (imgS s.l).length, S.add 0 (imgS s.l)⟩
def ckS (s : Sd) : Int × Sd := if s.br = true then (10, s) else
  if (replS s (nextR s) (imgS s.l)).1 ≠ 0 then ((replS s (nextR s) (imgS s.l)).1, { (replS s (nextR s) (imgS s.l)).2 with br := true }) else (0, (replS s (nextR s) (imgS s.l)).2)
theorem Grows.refl' (w : World) (O : Nat → Prop) : Grows w O O := fun _ h => .inl h
section
variable {W w w' : World} {b bd : Nat} {O : Nat → Prop} {s : Sd}
theorem Sto.no (h : Sto W w b bd O s) (f : Fr No w w') : Sto W w' b bd O s := by
  obtain ⟨bg, bt, Z, T, h1, h2⟩ := h.split
  have h1' := h1.no f
  exact ⟨⟨bg, bt, Z, T, h1'.a, h1'.c, h1'.g, h1'.n, h1'.z, h2⟩, fun k hk => ⟨(h.ow k hk).1, Nat.lt_of_lt_of_le (h.ow k hk).2 f.size⟩, h.area, h.rok, h.big⟩
theorem Sto.cell8 (h : Sto W w b bd O s) : w.cell? ⟨b, 8, none⟩ = some (.bool s.br) ∧ w.frozen? ⟨b, 8, none⟩ = false := by
  obtain ⟨bg, bt, Z, T, h1, h2⟩ := h.split
  exact ⟨h1.c.blk.cell 8, h1.c.blk.frozen 8⟩
theorem Sto.own (h : Sto W w b bd O s) : O b := by
  obtain ⟨bg, bt, Z, T, h1, h2⟩ := h.split
  exact h2 b (.inr (.inr (.inl rfl)))
theorem Sto.brk (h : Sto W w b bd O s) : Sto W (w.setCell ⟨b, 8, none⟩ (.bool true)) b bd O { s with br := true } := by
  obtain ⟨bg, bt, Z, T, h1, h2⟩ := h.split
  have hs : Fr (fun k => k = b) w (w.setCell ⟨b, 8, none⟩ (.bool true)) := (Fr.refl _ _).setCell _ _ (.inl rfl)
  have hcb : ∀ k, T.fp k → ¬ k = b := fun k hk e => h1.c.nb (by rw [← e]; exact hk)
  refine ⟨⟨bg, bt, Z, T, h1.a.fr hs (fun k hk e => (h1.z k hk).2 e) h1.n, ⟨⟨h1.c.t.b, h1.c.t.at_.fr hs hcb, h1.c.t.fr.trans hs (fun k hk => .inr (by have e' : k = b := hk; have := h1.c.bw; omega)), h1.c.t.ge⟩, h1.c.blk.set 8 (.bool true), rfl, by simp [stC], h1.c.nb, h1.c.bw, h1.c.m⟩, h1.g, h1.n, h1.z, h2⟩, fun k hk => ⟨(h.ow k hk).1, Nat.lt_of_lt_of_le (h.ow k hk).2 hs.size⟩, h.area, h.rok, h.big⟩
theorem replS_len (s : Sd) (nx : Rt) (img : List UInt8) : (replS s nx img).2.u.L.length = s.u.L.length := by
  unfold replS
  simp only
  split
  · exact wimg_L _ _ _ _
  · split
    · exact (wroot_L _ _).trans (wimg_L _ _ _ _)
    · split <;> exact (opens_L _ _ _ _).trans ((wroot_L _ _).trans (wimg_L _ _ _ _))
set_option maxHeartbeats 16000000 in
theorem checkpoint_any (h : Sto W w b bd O s) (hp : s.u.P.length < 400000) (hi : imgN s.l ≤ 500000) (hl : s.l.length ≤ 100000) :
    Calls Tryz.prog 19 #[pt b] w (StP W w b bd O (ckS s)) := by
  have H := hid h; have HP := hid hp; have HI := hid hi; have HL := hid hl
  obtain ⟨c8, -⟩ := h.cell8
  obtain ⟨R, hR⟩ : ∃ R, ckS s = R := ⟨_, rfl⟩
  have HRE := hid hR
  rw [hR]
  clear h hp hi hl hR
  cases hbr : s.br with
  | true =>
    rw [hbr] at c8
    have HRF : Hid (R = (10, s)) := hid (by rw [← HRE.out]; unfold ckS; rw [if_pos hbr])
    clear hbr
    go_enter Tryz.func19, Tryz.ntmps19
    go_wp2_with fail
    go_ret
    rw [HRF.out]
    exact ⟨rfl, O, H.out, Fr.refl _ _, fun _ h => .inl h⟩
  | false =>
    rw [hbr] at c8
    obtain ⟨img, himg⟩ : ∃ x, imgS s.l = x := ⟨_, rfl⟩
    obtain ⟨nx, hnx⟩ : ∃ x, nextR s = x := ⟨_, rfl⟩
    have HNX : Hid (nx = ⟨1 - s.r.area, (s.r.epoch + 1) % 4294967296, img.length, S.add 0 img⟩) := hid (by rw [← hnx, ← himg]; rfl)
    have HRF : Hid ((if (replS s nx img).1 ≠ 0 then ((replS s nx img).1, { (replS s nx img).2 with br := true }) else (0, (replS s nx img).2)) = R) := hid (by have h := HRE.out; unfold ckS at h; rw [if_neg (by rw [hbr]; decide), himg, hnx] at h; exact h)
    have HIL : Hid (img.length ≤ 500000) := hid (by rw [← himg, imgS_length]; exact HI.out)
    have HNO : Hid (nx.area ≤ 1 ∧ nx.Ok) := hid (by
      rw [HNX.out]
      exact ⟨Nat.sub_le _ _, ⟨Nat.lt_of_le_of_lt (Nat.sub_le _ _) (by decide), Nat.mod_lt _ (by decide), Nat.lt_of_le_of_lt HIL.out (by decide), S.add_lt (by decide) _⟩⟩)
    have HIMG := hid himg
    have HARE := hid H.out.area
    have HEP := hid H.out.rok.e
    obtain ⟨ar, har⟩ : ∃ x, s.r.area = x := ⟨_, rfl⟩
    obtain ⟨ep, hep⟩ : ∃ x, s.r.epoch = x := ⟨_, rfl⟩
    obtain ⟨sm, hsm⟩ : ∃ x, S.add 0 img = x := ⟨_, rfl⟩
    rw [har, hep, hsm] at HNX
    rw [har] at HARE
    rw [hep] at HEP
    have HSM := hid hsm
    obtain ⟨bg, bt, Z, T, hM, hO⟩ := H.out.split
    have HM := hid hM
    have HCI := hid (image_any W w b 2 _ _ bt T s.l hM.c HI.out HL.out)
    rw [himg] at HCI
    have HC4 : Hid (w.cell? ⟨b, 4, none⟩ = some (.int .i64 (ar : Int))) := hid (by rw [← har]; exact hM.c.blk.cell 4)
    have HC5 : Hid (w.cell? ⟨b, 5, none⟩ = some (.int .u32 (ep : Int))) := hid (by rw [← hep]; exact hM.c.blk.cell 5)
    clear hbr himg hnx har hep hsm hM hO
    go_enter Tryz.func19, Tryz.ntmps19
    go_wp2_with fail
    refine HCI.out.mono ?_
    rintro e w1 ⟨rfl, f1⟩
    have HF1 := hid f1
    obtain ⟨t, ht⟩ : ∃ t : S, ByteArray.mk img.toArray = t := ⟨_, rfl⟩
    have HSZ : Hid (t.size = img.length) := hid (by rw [← ht]; show img.toArray.size = _; simp)
    have HTD : Hid (t.data.toList = img) := hid (by rw [← ht])
    rw [show L.str img = Value.string t from congrArg Value.string ht]
    clear f1 ht
    go_wp2_with fail
    have c4 : w1.cell? ⟨b, 4, none⟩ = some (.int .i64 (ar : Int)) := HF1.out.cell HC4.out id
    have c5 : w1.cell? ⟨b, 5, none⟩ = some (.int .u32 (ep : Int)) := HF1.out.cell HC5.out id
    have W1 : Hid (IntKind.i64.wrap (1 - (ar : Int)) = ((1 - ar : Nat) : Int)) := hid ((L.wrap_small (by have := HARE.out; omega) (by omega)).trans (by have := HARE.out; omega))
    have W2 : Hid (IntKind.u32.wrap ((ep : Int) + 1) = (((ep + 1) % 4294967296 : Nat) : Int)) := hid (by rw [IntKind.wrap_u32']; omega)
    have HNC : Hid (nx.cells = [.int .i64 ((1 - ar : Nat) : Int), .int .u32 (((ep + 1) % 4294967296 : Nat) : Int), .int .i64 (img.length : Int), .int .u32 (sm : Int)]) := hid (by rw [HNX.out]; rfl)
    have hold : Facts.hold [(4, fun w' => w'.cell? ⟨b, 4, none⟩ = some (.int .i64 (ar : Int))), (10, fun w' => w'.cell? ⟨b, 5, none⟩ = some (.int .u32 (ep : Int)))] w1.drew := Facts.cons_hold c4 (Facts.cons_hold c5 (Facts.nil_hold _))
    refine wpD_region hold (by kernel_rfl) 19 rfl ?_
    (refine wpD_plain 0 (v := ?_) rfl (by kernel_rfl) (by kernel_rfl) (by kernel_rfl) (fun _ _ _ h => h) (by rfl) ?_ (by assumption) ?_; rotate_left; (intro _w; go_simp; try with_reducible rfl); simp only [Act.put, List.setIfInBounds_toArray, List.set_cons_zero, List.set_cons_succ])
    (refine wpD_plain 1 (v := ?_) rfl (by kernel_rfl) (by kernel_rfl) (by kernel_rfl) (fun _ _ _ h => h) (by rfl) ?_ (by assumption) ?_; rotate_left; (intro _w; go_simp; try with_reducible rfl); simp only [Act.put, List.setIfInBounds_toArray, List.set_cons_zero, List.set_cons_succ])
    (refine wpD_plain 2 (v := ?_) rfl (by kernel_rfl) (by kernel_rfl) (by kernel_rfl) (fun _ _ _ h => h) (by rfl) ?_ (by assumption) ?_; rotate_left; (intro _w; go_simp; try with_reducible rfl); simp only [Act.put, List.setIfInBounds_toArray, List.set_cons_zero, List.set_cons_succ])
    (refine wpD_plain 3 (v := ?_) rfl (by kernel_rfl) (by kernel_rfl) (by kernel_rfl) (fun _ _ _ h => h) (by rfl) ?_ (by assumption) ?_; rotate_left; (intro _w; go_simp; try with_reducible rfl); simp only [Act.put, List.setIfInBounds_toArray, List.set_cons_zero, List.set_cons_succ])
    (refine wpD_take 4 _ rfl (by kernel_rfl) (by kernel_rfl) (by kernel_rfl) (fun _ _ _ h => h) List.mem_cons_self (by rfl) (v := ?_) ?_ (by assumption) ?_; rotate_left; (intro _w _hw; go_simp; try with_reducible rfl); simp only [Act.put, List.setIfInBounds_toArray, List.set_cons_zero, List.set_cons_succ])
    (refine wpD_plain 5 (v := (.int .i64 ((1 - ar : Nat) : Int))) rfl (by kernel_rfl) (by kernel_rfl) (by kernel_rfl) (fun _ _ _ h => h) (by rfl) ?_ (by assumption) ?_; (intro _w; go_simp; exact W1.out); simp only [Act.put, List.setIfInBounds_toArray, List.set_cons_zero, List.set_cons_succ])
    (refine wpD_plain 6 (v := ?_) rfl (by kernel_rfl) (by kernel_rfl) (by kernel_rfl) (fun _ _ _ h => h) (by rfl) ?_ (by assumption) ?_; rotate_left; (intro _w; go_simp; try with_reducible rfl); simp only [Act.put, List.setIfInBounds_toArray, List.set_cons_zero, List.set_cons_succ])
    (refine wpD_plain 7 (v := ?_) rfl (by kernel_rfl) (by kernel_rfl) (by kernel_rfl) (fun _ _ _ h => h) (by rfl) ?_ (by assumption) ?_; rotate_left; (intro _w; go_simp; try with_reducible rfl); simp only [Act.put, List.setIfInBounds_toArray, List.set_cons_zero, List.set_cons_succ])
    (refine wpD_plain 8 (v := ?_) rfl (by kernel_rfl) (by kernel_rfl) (by kernel_rfl) (fun _ _ _ h => h) (by rfl) ?_ (by assumption) ?_; rotate_left; (intro _w; go_simp; try with_reducible rfl); simp only [Act.put, List.setIfInBounds_toArray, List.set_cons_zero, List.set_cons_succ])
    (refine wpD_plain 9 (v := ?_) rfl (by kernel_rfl) (by kernel_rfl) (by kernel_rfl) (fun _ _ _ h => h) (by rfl) ?_ (by assumption) ?_; rotate_left; (intro _w; go_simp; try with_reducible rfl); simp only [Act.put, List.setIfInBounds_toArray, List.set_cons_zero, List.set_cons_succ])
    (refine wpD_take 10 _ rfl (by kernel_rfl) (by kernel_rfl) (by kernel_rfl) (fun _ _ _ h => h) (List.mem_cons_of_mem _ List.mem_cons_self) (by rfl) (v := ?_) ?_ (by assumption) ?_; rotate_left; (intro _w _hw; go_simp; try with_reducible rfl); simp only [Act.put, List.setIfInBounds_toArray, List.set_cons_zero, List.set_cons_succ])
    (refine wpD_plain 11 (v := (.int .u32 (((ep + 1) % 4294967296 : Nat) : Int))) rfl (by kernel_rfl) (by kernel_rfl) (by kernel_rfl) (fun _ _ _ h => h) (by rfl) ?_ (by assumption) ?_; (intro _w; go_simp; exact W2.out); simp only [Act.put, List.setIfInBounds_toArray, List.set_cons_zero, List.set_cons_succ])
    (refine wpD_plain 12 (v := ?_) rfl (by kernel_rfl) (by kernel_rfl) (by kernel_rfl) (fun _ _ _ h => h) (by rfl) ?_ (by assumption) ?_; rotate_left; (intro _w; go_simp; try with_reducible rfl); simp only [Act.put, List.setIfInBounds_toArray, List.set_cons_zero, List.set_cons_succ])
    (refine wpD_plain 13 (v := (.int .i64 (img.length : Int))) rfl (by kernel_rfl) (by kernel_rfl) (by kernel_rfl) (fun _ _ _ h => h) (by rfl) ?_ (by assumption) ?_; (intro _w; go_simp; rw [HSZ.out]); simp only [Act.put, List.setIfInBounds_toArray, List.set_cons_zero, List.set_cons_succ])
    (refine wpD_plain 14 (v := ?_) rfl (by kernel_rfl) (by kernel_rfl) (by kernel_rfl) (fun _ _ _ h => h) (by rfl) ?_ (by assumption) ?_; rotate_left; (intro _w; go_simp; try with_reducible rfl); simp only [Act.put, List.setIfInBounds_toArray, List.set_cons_zero, List.set_cons_succ])
    clear hold
    have HF1d := hid HF1.out.drew
    refine wpD_two 15 17 [(4, fun w' => w'.cell? ⟨b, 4, none⟩ = some (.int .i64 (ar : Int))), (10, fun w' => w'.cell? ⟨b, 5, none⟩ = some (.int .u32 (ep : Int)))] [(4, fun w' => w'.cell? ⟨b, 4, none⟩ = some (.int .i64 (ar : Int))), (10, fun w' => w'.cell? ⟨b, 5, none⟩ = some (.int .u32 (ep : Int)))] rfl rfl (by kernel_rfl) (by kernel_rfl) (by kernel_rfl) (by rfl) (by rfl) ?_ ?_
    · intro K15 hK15
      refine wp_call (.func 44) _ _ rfl 44 [] rfl hentTX [.string t] (by rfl) ?_
      refine (S.text_any t w1.drew (by rw [HSZ.out]; have := HIL.out; omega)).mono ?_
      rintro e w2 ⟨rfl, fw2⟩
      rw [HTD.out, HSM.out]
      have hold : Facts.hold [(4, fun w' => w'.cell? ⟨b, 4, none⟩ = some (.int .i64 (ar : Int))), (10, fun w' => w'.cell? ⟨b, 5, none⟩ = some (.int .u32 (ep : Int)))] w2 := Facts.cons_hold (fw2.cell (w := w1.drew) c4 id) (Facts.cons_hold (fw2.cell (w := w1.drew) c5 id) (Facts.nil_hold _))
      have d4w2 : w2.cell? ⟨b, 4, none⟩ = some (.int .i64 (ar : Int)) := fw2.cell (w := w1.drew) c4 id
      have d5w2 : w2.cell? ⟨b, 5, none⟩ = some (.int .u32 (ep : Int)) := fw2.cell (w := w1.drew) c5 id
      refine ⟨_, rfl, hK15 _ _ hold ?_⟩
      clear hK15 K15
      simp only [Act.put, List.setIfInBounds_toArray, List.set_cons_zero, List.set_cons_succ]
      (refine wpD_plain 16 (v := (.agg nx.cells.toArray)) rfl (by kernel_rfl) (by kernel_rfl) (by kernel_rfl) (fun _ _ _ h => h) (by rfl) ?_ (by assumption) ?_; (intro _w; go_simp; rw [HNC.out]; rfl); simp only [Act.put, List.setIfInBounds_toArray, List.set_cons_zero, List.set_cons_succ])
      refine wpD_only 17 [(4, fun w' => w'.cell? ⟨b, 4, none⟩ = some (.int .i64 (ar : Int))), (10, fun w' => w'.cell? ⟨b, 5, none⟩ = some (.int .u32 (ep : Int)))] rfl (by kernel_rfl) (by kernel_rfl) (by rfl) (fun K17 hK17 => ?_)
      refine wp_alloc _ rfl _ zeroRt' (Rt.cells ⟨0, 0, 0, 0⟩) rfl ?_
      intro w3 HBw3 Fw3 HSw3
      have fw3 := Fw3.out
      have hold : Facts.hold [(4, fun w' => w'.cell? ⟨b, 4, none⟩ = some (.int .i64 (ar : Int))), (10, fun w' => w'.cell? ⟨b, 5, none⟩ = some (.int .u32 (ep : Int)))] w3 := Facts.cons_hold (fw3.cell (w := w2) d4w2 id) (Facts.cons_hold (fw3.cell (w := w2) d5w2 id) (Facts.nil_hold _))
      have d4w3 : w3.cell? ⟨b, 4, none⟩ = some (.int .i64 (ar : Int)) := fw3.cell (w := w2) d4w2 id
      have d5w3 : w3.cell? ⟨b, 5, none⟩ = some (.int .u32 (ep : Int)) := fw3.cell (w := w2) d5w2 id
      refine hK17 _ _ hold ?_
      clear hK17 K17
      simp only [Act.put, List.setIfInBounds_toArray, List.set_cons_zero, List.set_cons_succ]
      have HBn := HBw3
      have HFn := hid (fw2.trans' fw3)
      have HBNW := hid (show w.heap.size ≤ w2.heap.size by have := HF1d.out.size; have := fw2.size; omega)
      clear fw2 fw3 d4w2 d5w2 d4w3 d5w3
      clear hold
      refine wpD_only 18 [] rfl (by kernel_rfl) (by kernel_rfl) (by rfl) (fun K18 hK18 => ?_)
      refine wp_storeB 66 _ _ rfl w2.heap.size 0 nx.cells rfl rfl _ _ HBn.out (by simp [Rt.cells]) (by rw [infoRt]; rfl) (rt_one _) ?_
      intro w4 HB4 F4 HS4
      refine hK18 _ _ (Facts.nil_hold _) ?_
      clear hK18 K18
      simp only [Act.put, List.setIfInBounds_toArray, List.set_cons_zero, List.set_cons_succ]
      refine wpD_done (by kernel_rfl) ?_ _
      have HF4 : Hid (Fr No w w4) := hid ((HF1d.out.trans' HFn.out).trans F4.out (fun k hk => .inr (by have e' : k = w2.heap.size := hk; have := HBNW.out; omega)))
      rw [spl_rt] at HB4
      have hq := HB4.out.range 0 nx.cells rfl
      obtain ⟨bn, hbn⟩ : ∃ k, w2.heap.size = k := ⟨_, rfl⟩
      rw [hbn] at hq ⊢
      clear hbn
      go_wp2_with (first
        | ((with_reducible show wpList _ _ _ ({ dst := _, op := .load 66 _, type := _, pos := _, after := _, guard := _ } :: _) _ _); refine wpL_load rfl _ _ rfl bn 0 rfl nx.cells _ hq rfl rfl infoRt ?_)
        | fail)
      refine (replace_any nx t (H.out.no HF4.out) HP.out HNO.out.1 HNO.out.2 (by rw [HSZ.out]; exact HIL.out)).mono ?_
      rintro e w5 ⟨rfl, O5, hS5, hF5, hG5⟩
      rw [HTD.out] at hS5 ⊢
      obtain ⟨p, hp⟩ : ∃ p, replS s nx img = p := ⟨_, rfl⟩
      rw [hp] at hS5 ⊢
      have HRP : Hid ((if p.1 ≠ 0 then (p.1, { p.2 with br := true }) else (0, p.2)) = R) := hid (by have h := HRF.out; rwa [hp] at h)
      obtain ⟨c, s5⟩ := p
      simp only at hS5 HRP ⊢
      have HS5 := hid hS5
      have HF5 : Hid (Fr O w w5) := hid (HF4.out.no.trans' hF5)
      have HG5 : Hid (Grows w O O5) := hid (fun k hk => (hG5 k hk).imp id (fun hge => by have := HF4.out.size; omega))
      clear hS5 hF5 hG5 hp hq
      by_cases hc : c = 0
      · have HRL : Hid (R = (0, s5)) := hid (by have h := HRP.out; rw [if_neg (by simp [hc])] at h; exact h.symm)
        subst hc
        go_wp2_with fail
        go_ret
        rw [HRL.out]
        exact ⟨rfl, O5, HS5.out, HF5.out, HG5.out⟩
      · have HRL : Hid (R = (c, { s5 with br := true })) := hid (by have h := HRP.out; rw [if_pos hc] at h; exact h.symm)
        obtain ⟨g8, z8⟩ := HS5.out.cell8
        go_wp2_with fail
        go_ret
        rw [HRL.out]
        refine ⟨rfl, O5, HS5.out.brk, HF5.out.setCell _ _ ((HG5.out b HS5.out.own).imp id id), HG5.out⟩
    · intro K17 hK17
      refine wp_alloc _ rfl _ zeroRt' (Rt.cells ⟨0, 0, 0, 0⟩) rfl ?_
      intro w2 HBw2 Fw2 HSw2
      have fw2 := Fw2.out
      have hold : Facts.hold [(4, fun w' => w'.cell? ⟨b, 4, none⟩ = some (.int .i64 (ar : Int))), (10, fun w' => w'.cell? ⟨b, 5, none⟩ = some (.int .u32 (ep : Int)))] w2 := Facts.cons_hold (fw2.cell (w := w1.drew) c4 id) (Facts.cons_hold (fw2.cell (w := w1.drew) c5 id) (Facts.nil_hold _))
      have d4w2 : w2.cell? ⟨b, 4, none⟩ = some (.int .i64 (ar : Int)) := fw2.cell (w := w1.drew) c4 id
      have d5w2 : w2.cell? ⟨b, 5, none⟩ = some (.int .u32 (ep : Int)) := fw2.cell (w := w1.drew) c5 id
      refine hK17 _ _ hold ?_
      clear hK17 K17
      simp only [Act.put, List.setIfInBounds_toArray, List.set_cons_zero, List.set_cons_succ]
      clear hold
      refine wpD_only 15 [(4, fun w' => w'.cell? ⟨b, 4, none⟩ = some (.int .i64 (ar : Int))), (10, fun w' => w'.cell? ⟨b, 5, none⟩ = some (.int .u32 (ep : Int)))] rfl (by kernel_rfl) (by kernel_rfl) (by rfl) (fun K15 hK15 => ?_)
      refine wp_call (.func 44) _ _ rfl 44 [] rfl hentTX [.string t] (by rfl) ?_
      refine (S.text_any t w2 (by rw [HSZ.out]; have := HIL.out; omega)).mono ?_
      rintro e w3 ⟨rfl, fw3⟩
      rw [HTD.out, HSM.out]
      have hold : Facts.hold [(4, fun w' => w'.cell? ⟨b, 4, none⟩ = some (.int .i64 (ar : Int))), (10, fun w' => w'.cell? ⟨b, 5, none⟩ = some (.int .u32 (ep : Int)))] w3 := Facts.cons_hold (fw3.cell (w := w2) d4w2 id) (Facts.cons_hold (fw3.cell (w := w2) d5w2 id) (Facts.nil_hold _))
      have d4w3 : w3.cell? ⟨b, 4, none⟩ = some (.int .i64 (ar : Int)) := fw3.cell (w := w2) d4w2 id
      have d5w3 : w3.cell? ⟨b, 5, none⟩ = some (.int .u32 (ep : Int)) := fw3.cell (w := w2) d5w2 id
      refine ⟨_, rfl, hK15 _ _ hold ?_⟩
      clear hK15 K15
      simp only [Act.put, List.setIfInBounds_toArray, List.set_cons_zero, List.set_cons_succ]
      (refine wpD_plain 16 (v := (.agg nx.cells.toArray)) rfl (by kernel_rfl) (by kernel_rfl) (by kernel_rfl) (fun _ _ _ h => h) (by rfl) ?_ (by assumption) ?_; (intro _w; go_simp; rw [HNC.out]; rfl); simp only [Act.put, List.setIfInBounds_toArray, List.set_cons_zero, List.set_cons_succ])
      have HBn := hid (HBw2.out.fr fw3 id)
      have HFn := hid (fw2.trans' fw3)
      have HBNW := hid (show w.heap.size ≤ w1.drew.heap.size from HF1d.out.size)
      clear fw2 fw3 d4w2 d5w2 d4w3 d5w3
      clear hold
      refine wpD_only 18 [] rfl (by kernel_rfl) (by kernel_rfl) (by rfl) (fun K18 hK18 => ?_)
      refine wp_storeB 66 _ _ rfl w1.drew.heap.size 0 nx.cells rfl rfl _ _ HBn.out (by simp [Rt.cells]) (by rw [infoRt]; rfl) (rt_one _) ?_
      intro w4 HB4 F4 HS4
      refine hK18 _ _ (Facts.nil_hold _) ?_
      clear hK18 K18
      simp only [Act.put, List.setIfInBounds_toArray, List.set_cons_zero, List.set_cons_succ]
      refine wpD_done (by kernel_rfl) ?_ _
      have HF4 : Hid (Fr No w w4) := hid ((HF1d.out.trans' HFn.out).trans F4.out (fun k hk => .inr (by have e' : k = w1.drew.heap.size := hk; have := HBNW.out; omega)))
      rw [spl_rt] at HB4
      have hq := HB4.out.range 0 nx.cells rfl
      obtain ⟨bn, hbn⟩ : ∃ k, w1.drew.heap.size = k := ⟨_, rfl⟩
      rw [hbn] at hq ⊢
      clear hbn
      go_wp2_with (first
        | ((with_reducible show wpList _ _ _ ({ dst := _, op := .load 66 _, type := _, pos := _, after := _, guard := _ } :: _) _ _); refine wpL_load rfl _ _ rfl bn 0 rfl nx.cells _ hq rfl rfl infoRt ?_)
        | fail)
      refine (replace_any nx t (H.out.no HF4.out) HP.out HNO.out.1 HNO.out.2 (by rw [HSZ.out]; exact HIL.out)).mono ?_
      rintro e w5 ⟨rfl, O5, hS5, hF5, hG5⟩
      rw [HTD.out] at hS5 ⊢
      obtain ⟨p, hp⟩ : ∃ p, replS s nx img = p := ⟨_, rfl⟩
      rw [hp] at hS5 ⊢
      have HRP : Hid ((if p.1 ≠ 0 then (p.1, { p.2 with br := true }) else (0, p.2)) = R) := hid (by have h := HRF.out; rwa [hp] at h)
      obtain ⟨c, s5⟩ := p
      simp only at hS5 HRP ⊢
      have HS5 := hid hS5
      have HF5 : Hid (Fr O w w5) := hid (HF4.out.no.trans' hF5)
      have HG5 : Hid (Grows w O O5) := hid (fun k hk => (hG5 k hk).imp id (fun hge => by have := HF4.out.size; omega))
      clear hS5 hF5 hG5 hp hq
      by_cases hc : c = 0
      · have HRL : Hid (R = (0, s5)) := hid (by have h := HRP.out; rw [if_neg (by simp [hc])] at h; exact h.symm)
        subst hc
        go_wp2_with fail
        go_ret
        rw [HRL.out]
        exact ⟨rfl, O5, HS5.out, HF5.out, HG5.out⟩
      · have HRL : Hid (R = (c, { s5 with br := true })) := hid (by have h := HRP.out; rw [if_pos hc] at h; exact h.symm)
        obtain ⟨g8, z8⟩ := HS5.out.cell8
        go_wp2_with fail
        go_ret
        rw [HRL.out]
        refine ⟨rfl, O5, HS5.out.brk, HF5.out.setCell _ _ ((HG5.out b HS5.out.own).imp id id), HG5.out⟩
end
end Go.Proofs.YtejbanlhgnlliaaGreat.ST

namespace Go.Proofs.YtejbanlhgnlliaaGreat.ST
set_option maxRecDepth 100000
open Go.RowKit K L

def mrS (s : Sd) (n : Int) : Int × Sd := if n ≤ (s.g.count : Int) - s.g.next then (0, s) else
  if (ckS s).1 ≠ 0 then ckS s else if (((ckS s).2.g.count : Int) - (ckS s).2.g.next) < n then (3, (ckS s).2) else (0, (ckS s).2)
def apS (s : Sd) (x : List UInt8) : Int × Sd := if (s.u.append s.g x).1 ≠ 0 then ((s.u.append s.g x).1, { s with u := (s.u.append s.g x).2.1, g := (s.u.append s.g x).2.2 })
  else ((s.u.append s.g x).2.1.flush.1, { s with u := (s.u.append s.g x).2.1.flush.2, g := (s.u.append s.g x).2.2 })
section
variable {W w w' : World} {b bd bg bt : Nat} {O Z Z' : Nat → Prop} {T : TR.TD} {s : Sd} {u' : U} {g' : Lg}
theorem StM.log (h : StM W w b bd bg bt Z T s) (hZW : ∀ k, Z k → W.heap.size ≤ k) (hW : W.heap.size ≤ bg) (ha : L.At w' bg bd Z' g' u') (f : Fr (fun k => Z k ∨ k = bg) w w') (hg : Grows w Z Z') : StM W w' b bd bg bt Z' T { s with u := u', g := g' } where
  a := ha
  c := h.c.fr f (fun k hk => by
    rcases hk with hk | rfl
    · exact ⟨(h.z k hk).1, (h.z k hk).2, hZW k hk⟩
    · exact ⟨h.g, h.n, hW⟩)
  g := h.g
  n := h.n
  z := fun k hk => by
    rcases hg k hk with h1 | h1
    · exact h.z k h1
    · refine ⟨fun e => ?_, fun e => ?_⟩
      · have := h.c.t.at_.lt k e; omega
      · have := h.c.blk.lt; omega
theorem gi {g : Lg} {n : Nat} (h : g.Ok n) (hn : n ≤ 4096) : -4096 ≤ (g.count : Int) - g.next ∧ (g.count : Int) - g.next ≤ 4096 := by
  have := h.fit; have := h.nc; omega
set_option maxHeartbeats 16000000 in
theorem makeRoom_any (n : Int) (h : Sto W w b bd O s) (hp : s.u.P.length < 400000) (hi : imgN s.l ≤ 500000) (hl : s.l.length ≤ 100000) :
    Calls Tryz.prog 37 #[pt b, .int .i64 n] w (StP W w b bd O (mrS s n)) := by
  obtain ⟨bg, bt, Z, T, hM, hO⟩ := h.split
  have H := hid h; have HM := hid hM; have HP := hid hp; have HI := hid hi; have HL := hid hl
  obtain ⟨R, hR⟩ : ∃ R, mrS s n = R := ⟨_, rfl⟩
  have HRE := hid hR
  rw [hR]
  have q1 : w.cell? ⟨b, 1, none⟩ = some (pt bg) := hM.c.blk.cell 1
  have HRM := hid (room_any hM.a)
  obtain ⟨rm, hrm⟩ : ∃ r, (s.g.count : Int) - s.g.next = r := ⟨_, rfl⟩
  rw [hrm] at HRM
  have HRM' := hid hrm
  clear h hM hO hp hi hl hR hrm
  go_enter Tryz.func37, Tryz.ntmps37
  go_wp2_with fail
  refine HRM.out.mono ?_
  rintro e w1 ⟨rfl, f1⟩
  have HF1 := hid f1
  clear f1 q1
  by_cases hn : n ≤ rm
  · have HRF : Hid (R = (0, s)) := hid (by rw [← HRE.out]; unfold mrS; rw [HRM'.out, if_pos hn])
    go_wp2_with fail
    go_ret
    rw [HRF.out]
    exact ⟨rfl, O, H.out.no HF1.out, HF1.out.no, fun _ h => .inl h⟩
  · have HRF : Hid ((if (ckS s).1 ≠ 0 then ckS s else if (((ckS s).2.g.count : Int) - (ckS s).2.g.next) < n then (3, (ckS s).2) else (0, (ckS s).2)) = R) := hid (by rw [← HRE.out]; unfold mrS; rw [HRM'.out, if_neg hn])
    go_wp2_with fail
    refine (checkpoint_any (H.out.no HF1.out) HP.out HI.out HL.out).mono ?_
    rintro e w2 ⟨rfl, O2, hS2, hF2, hG2⟩
    obtain ⟨p, hp⟩ : ∃ p, ckS s = p := ⟨_, rfl⟩
    rw [hp] at hS2 ⊢
    have HRP : Hid ((if p.1 ≠ 0 then p else if ((p.2.g.count : Int) - p.2.g.next) < n then (3, p.2) else (0, p.2)) = R) := hid (by have h := HRF.out; rwa [hp] at h)
    obtain ⟨c, s2⟩ := p
    simp only at hS2 HRP ⊢
    have HS2 := hid hS2
    have HF2 : Hid (Fr O w w2) := hid (HF1.out.no.trans' hF2)
    have HG2 : Hid (Grows w O O2) := hid (fun k hk => (hG2 k hk).imp id (fun hge => by have := HF1.out.size; omega))
    clear hS2 hF2 hG2 hp
    by_cases hc : c = 0
    · subst hc
      obtain ⟨bg2, bt2, Z2, T2, hM2, hO2⟩ := HS2.out.split
      have q2 : w2.cell? ⟨b, 1, none⟩ = some (pt bg2) := hM2.c.blk.cell 1
      have HRM2 := hid (room_any hM2.a)
      obtain ⟨r2, hr2⟩ : ∃ r, (s2.g.count : Int) - s2.g.next = r := ⟨_, rfl⟩
      rw [hr2] at HRM2
      have HRQ : Hid ((if r2 < n then (3, s2) else (0, s2)) = R) := hid (by have h := HRP.out; rw [if_neg (by simp), hr2] at h; exact h)
      clear hM2 hO2 hr2
      go_wp2_with fail
      refine HRM2.out.mono ?_
      rintro e w3 ⟨rfl, f3⟩
      have HF3 := hid f3
      clear f3 q2
      have hS3 := hid (HS2.out.no HF3.out)
      by_cases hn2 : r2 < n
      · have HRL : Hid (R = (3, s2)) := hid (by have h := HRQ.out; rw [if_pos hn2] at h; exact h.symm)
        go_wp2_with fail
        go_ret
        rw [HRL.out]
        exact ⟨rfl, O2, hS3.out, HF2.out.trans HF3.out (fun _ hk => hk.elim), HG2.out⟩
      · have HRL : Hid (R = (0, s2)) := hid (by have h := HRQ.out; rw [if_neg hn2] at h; exact h.symm)
        go_wp2_with fail
        go_ret
        rw [HRL.out]
        exact ⟨rfl, O2, hS3.out, HF2.out.trans HF3.out (fun _ hk => hk.elim), HG2.out⟩
    · have HRL : Hid (R = (c, s2)) := hid (by have h := HRP.out; rw [if_pos hc] at h; exact h.symm)
      go_wp2_with fail
      go_ret
      rw [HRL.out]
      exact ⟨rfl, O2, HS2.out, HF2.out, HG2.out⟩
set_option maxHeartbeats 16000000 in
theorem appendDurably_any (x : S) (h : Sto W w b bd O s) (hp : s.u.P.length < 400000) (hx : x.size ≤ 1000000) :
    Calls Tryz.prog 39 #[pt b, .string x] w (StP W w b bd O (apS s x.data.toList)) := by
  obtain ⟨bg, bt, Z, T, hM, hO⟩ := h.split
  have H := hid h; have HM := hid hM; have HO := hid hO; have HX := hid hx; have HP := hid hp
  have HZW := hid (fun k (hk : Z k) => (h.ow k (hO k (.inl hk))).1)
  have HGW := hid (h.ow bg (hO bg (.inr (.inr (.inr rfl)))))
  obtain ⟨R, hR⟩ : ∃ R, apS s x.data.toList = R := ⟨_, rfl⟩
  have HRE := hid hR
  rw [hR]
  have q1 : w.cell? ⟨b, 1, none⟩ = some (pt bg) := hM.c.blk.cell 1
  clear h hM hO hp hx hR
  go_enter Tryz.func39, Tryz.ntmps39
  go_wp2_with fail
  refine (append_any w bg bd Z s.g s.u x HM.out.a (by have := HX.out; omega) (by have := HP.out; omega)).mono ?_
  rintro e w1 ⟨rfl, Z1, ha, hf, hg⟩
  obtain ⟨p, hp⟩ : ∃ p, s.u.append s.g x.data.toList = p := ⟨_, rfl⟩
  have hpl : p.2.1.L.length = s.u.L.length := by rw [← hp]; simp
  rw [hp] at ha ⊢
  have HRP : Hid ((if p.1 ≠ 0 then (p.1, { s with u := p.2.1, g := p.2.2 }) else (p.2.1.flush.1, { s with u := p.2.1.flush.2, g := p.2.2 })) = R) := hid (by have h := HRE.out; unfold apS at h; rwa [hp] at h)
  obtain ⟨c, u1, g1⟩ := p
  simp only at ha HRP hpl ⊢
  have HM1 := hid (HM.out.log HZW.out HGW.out.1 ha hf hg)
  have HZ1W := hid (fun k (hk : Z1 k) => show W.heap.size ≤ k from (hg k hk).elim (HZW.out k) (fun hge => by have := HGW.out; omega))
  have HG1 := hid hg
  have HF1 : Hid (Fr O w w1) := hid (frO hf (fun k hk => hk.elim (fun h => HO.out k (.inl h)) (fun h => HO.out k (.inr (.inr (.inr h))))))
  have HPL := hid hpl
  clear ha hf hg hp q1 hpl
  have fin : ∀ (w' : World) (s' : Sd), StM W w' b bd bg bt Z1 T s' → s'.r.area ≤ 1 → s'.r.Ok → 32 ≤ s'.u.L.length → Fr O w w' → ∃ O', Sto W w' b bd O' s' ∧ Fr O w w' ∧ Grows w O O' := by
    intro w' s' h1 h4 h5 h6 h7
    refine ⟨_, h1.sto HZ1W.out HGW.out.1 h4 h5 h6, h7, ?_⟩
    rintro k (hk | hk | rfl | rfl)
    · exact (HG1.out k hk).imp (fun h => HO.out k (.inl h)) id
    · exact .inl (HO.out k (.inr (.inl hk)))
    · exact .inl (HO.out _ (.inr (.inr (.inl rfl))))
    · exact .inl (HO.out _ (.inr (.inr (.inr rfl))))
  have FIN := hid fin
  clear fin
  by_cases hc : c = 0
  · have HRL : Hid (R = (u1.flush.1, { s with u := u1.flush.2, g := g1 })) := hid (by have h := HRP.out; rw [if_neg (by simp [hc])] at h; exact h.symm)
    subst hc
    have q1 : w1.cell? ⟨b, 1, none⟩ = some (pt bg) := HM1.out.c.blk.cell 1
    go_wp2_with fail
    refine (sync_any HM1.out.a).mono ?_
    rintro e w2 ⟨rfl, ha2, hf2⟩
    go_wp2_with fail
    go_ret
    rw [HRL.out]
    have hg0 : Grows w1 Z1 Z1 := fun _ h => .inl h
    have hm2 : StM W w2 b bd bg bt Z1 T { s with u := u1.flush.2, g := g1 } := HM1.out.log HZ1W.out HGW.out.1 ha2 (frO hf2 (fun k hk => .inl hk)) hg0
    exact ⟨rfl, FIN.out w2 _ hm2 H.out.area H.out.rok (by show 32 ≤ u1.flush.2.L.length; rw [flush_L, HPL.out]; exact H.out.big) (HF1.out.trans hf2 (fun k hk => (HG1.out k hk).imp (fun h => HO.out k (.inl h)) id))⟩
  · have HRL : Hid (R = (c, { s with u := u1, g := g1 })) := hid (by have h := HRP.out; rw [if_pos hc] at h; exact h.symm)
    go_wp2_with fail
    go_ret
    rw [HRL.out]
    exact ⟨rfl, FIN.out w1 _ HM1.out H.out.area H.out.rok (by show 32 ≤ u1.L.length; rw [HPL.out]; exact H.out.big) HF1.out⟩
set_option maxHeartbeats 4000000 in
theorem epoch_any (h : Sto W w b bd O s) : Calls Tryz.prog 24 #[pt b] w fun e w' => e = .returned (.int .u32 (s.r.epoch : Int)) ∧ w = w' := by
  obtain ⟨bg, bt, Z, T, hM, hO⟩ := h.split
  have q1 : w.cell? ⟨b, 5, none⟩ = some (.int .u32 (s.r.epoch : Int)) := hM.c.blk.cell 5
  clear h hM hO
  go_enter Tryz.func24, Tryz.ntmps24
  go_wp2_with fail
  go_ret
  exact ⟨rfl, rfl⟩
set_option maxHeartbeats 4000000 in
theorem tree_any (h : Sto W w b bd O s) : Calls Tryz.prog 46 #[pt b] w fun e w' => w = w' ∧ ∃ bt T, e = .returned (pt bt) ∧ TR.Lv W w bt T s.l ∧ Mays s.l := by
  obtain ⟨bg, bt, Z, T, hM, hO⟩ := h.split
  have q1 : w.cell? ⟨b, 2, none⟩ = some (pt bt) := hM.c.blk.cell 2
  have HT := hid (And.intro hM.c.t hM.c.m)
  clear h hM hO
  go_enter Tryz.func46, Tryz.ntmps46
  go_wp2_with fail
  go_ret
  exact ⟨rfl, bt, T, rfl, HT.out.1, HT.out.2⟩
end
end Go.Proofs.YtejbanlhgnlliaaGreat.ST

namespace Go.Proofs.YtejbanlhgnlliaaGreat.ST
set_option maxRecDepth 100000
open Go.RowKit K L

def comS (s : Sd) (xs : List Ch) : Int × Sd := if s.br = true then (10, s) else if (encS xs).1 ≠ 0 then ((encS xs).1, s) else
  if ((areaN s.u.L.length * 64 : Nat) : Int) < lenS s.l (imgN s.l) xs then (3, s) else
  if (mrS s (L.secs (encS xs).2.length)).1 ≠ 0 then mrS s (L.secs (encS xs).2.length) else
  let q := apS (mrS s (L.secs (encS xs).2.length)).2 (encS xs).2
  if q.1 ≠ 0 then (q.1, { q.2 with br := true }) else (0, { q.2 with l := appS q.2.l xs })
theorem encS_ok {xs : List Ch} (h : (encS xs).1 = 0) : xs.all Ch.may = true ∧ xs.length ≤ 32 ∧ (encS xs).2 = recS xs ∧ (recS xs).length ≤ 2000 := by
  unfold encS at h ⊢
  split at h
  · simp at h
  · rename_i h1
    split at h
    · rename_i h2
      split at h
      · simp at h
      · rename_i h3
        rw [if_neg h1, if_pos h2, if_neg h3]
        exact ⟨h2, by omega, rfl, by omega⟩
    · simp at h
theorem opens_P {u : U} {first count e : Nat} (h : (u.opens first count e).1 = 0) (hn : (u.opens first count e).2.2 ≠ none) : (u.opens first count e).2.1.P = [] := by
  have hb : (u.begin first).1 = 0 → (u.begin first).2.1.P = [] := by
    unfold U.begin
    split
    · intro h; simp at h
    · simp only
      split
      · intro h; simp at h
      · split
        · rename_i hw; intro h; exact absurd h hw
        · exact flush_P
  unfold U.opens at hn ⊢
  simp only at hn ⊢
  split
  · rename_i hh; rw [if_pos hh] at hn; exact absurd rfl hn
  · rename_i hh; exact hb (Decidable.not_not.1 hh)
theorem replS_P {s : Sd} {nx : Rt} {img : List UInt8} (h : (replS s nx img).1 = 0) : (replS s nx img).2.u.P = [] := by
  unfold replS at h ⊢
  simp only at h ⊢
  split at h
  · rename_i hh; exact absurd h hh
  · rename_i h1
    rw [if_neg h1]
    split at h
    · rename_i hh; exact absurd h hh
    · rename_i h2
      rw [if_neg h2]
      split at h
      · rename_i hn; exact absurd h (olog_none hn)
      · rename_i g recs hs
        simp only [hs]
        unfold U.olog at hs ⊢
        refine opens_P ?_ (by rw [hs]; simp)
        unfold U.opens at hs ⊢
        simp only at hs ⊢
        split at hs
        · cases hs
        · rename_i hh; rw [if_neg hh]
theorem replS_l (s : Sd) (nx : Rt) (img : List UInt8) : (replS s nx img).2.l = s.l := by
  unfold replS
  simp only
  (repeat' split) <;> rfl
theorem ckS_l (s : Sd) : (ckS s).2.l = s.l := by
  unfold ckS
  split
  · rfl
  · split <;> exact replS_l _ _ _
theorem mrS_l (s : Sd) (n : Int) : (mrS s n).2.l = s.l := by
  unfold mrS
  split
  · rfl
  · split
    · exact ckS_l s
    · split <;> exact ckS_l s
theorem ckS_P {s : Sd} (h : (ckS s).1 = 0) : (ckS s).2.u.P = [] := by
  unfold ckS at h ⊢
  split at h
  · simp at h
  · rename_i hb
    rw [if_neg hb]
    split at h
    · rename_i hh; exact absurd h hh
    · rename_i hh
      rw [if_neg hh]
      exact replS_P (Decidable.not_not.1 hh)
theorem mrS_P {s : Sd} {n : Int} (h : (mrS s n).1 = 0) : (mrS s n).2.u.P.length ≤ s.u.P.length := by
  unfold mrS at h ⊢
  split at h
  · rename_i hh; rw [if_pos hh]; exact Nat.le_refl _
  · rename_i hh
    rw [if_neg hh]
    split at h
    · rename_i h2; exact absurd h h2
    · rename_i h2
      rw [if_neg h2]
      have hp := ckS_P (Decidable.not_not.1 h2)
      split at h
      · simp at h
      · rename_i h3
        rw [if_neg h3]
        show (ckS s).2.u.P.length ≤ _
        rw [hp]
        exact Nat.zero_le _
theorem apS_l (s : Sd) (x : List UInt8) : (apS s x).2.l = s.l := by unfold apS; split <;> rfl
section
variable {W w w' : World} {b bd bg bt : Nat} {O Z : Nat → Prop} {T T' : TR.TD} {s : Sd} {l' : TR.L}
theorem StM.tree (h : StM W w b bd bg bt Z T s) (hc : Ct W w' b 2 68 (stC bd (pt bg) (pt bt) 0 s.r s.br) bt T' l') (f : Fr (fun k => T.fp k ∨ k = b) w w') (ht : ∀ k, T'.fp k → T.fp k ∨ w.heap.size ≤ k) : StM W w' b bd bg bt Z T' { s with l := l' } where
  a := h.a.fr f (fun k hk e => e.elim (h.z k hk).1 (h.z k hk).2) (fun e => e.elim h.g h.n)
  c := hc
  g := fun e => (ht _ e).elim h.g (fun hge => by have := h.a.2.1.lt; omega)
  n := h.n
  z := fun k hk => ⟨fun e => (ht k e).elim (h.z k hk).1 (fun hge => by have := h.a.1.lt k hk; omega), (h.z k hk).2⟩
theorem hentLA (vs : Array Value) (w : World) : (callFunc 35 vs).run Tryz.prog w = .ok (.enter 35 vs) w := by kernel_rfl
set_option maxHeartbeats 16000000 in
theorem commit_any (v : Value) (xs : List Ch) (E : Nat → Prop) (h : Sto W w b bd O s) (hx : ChIn w E v xs) (hcap : ∃ a c, v = .slice a xs.length c ∧ xs.length ≤ c) (hE : ∀ k, E k → ¬ O k ∧ k < w.heap.size)
    (hsz : ∀ x ∈ xs, x.key.size ≤ 140737488351232 ∧ x.value.size ≤ 140737488351232) (hlen : xs.length ≤ 140737488351232) (hp : s.u.P.length < 400000) (hi : imgN s.l ≤ 500000) (hl : s.l.length ≤ 100000) :
    Calls Tryz.prog 15 #[pt b, v] w (StP W w b bd O (comS s xs)) := by
  have H := hid h; have HX := hid hx; have HE := hid hE; have HP := hid hp; have HI := hid hi; have HL := hid hl
  have HEN := hid (encode_any v xs E)
  have HSZ := hid hsz; have HLEN := hid hlen
  obtain ⟨c8, -⟩ := h.cell8
  obtain ⟨R, hR⟩ : ∃ R, comS s xs = R := ⟨_, rfl⟩
  have HRE := hid hR
  rw [hR]
  obtain ⟨a, c, rfl, hcc⟩ := hcap
  have HCC := hid hcc
  clear h hx hE hp hi hl hR hsz hlen hcc
  cases hbr : s.br with
  | true =>
    rw [hbr] at c8
    have HRF : Hid (R = (10, s)) := hid (by rw [← HRE.out]; unfold comS; rw [if_pos hbr])
    clear hbr
    go_enter Tryz.func15, Tryz.ntmps15
    go_wp2_with fail
    go_ret
    rw [HRF.out]
    exact ⟨rfl, O, H.out, Fr.refl _ _, fun _ h => .inl h⟩
  | false =>
    rw [hbr] at c8
    have HR1 : Hid ((if (encS xs).1 ≠ 0 then ((encS xs).1, s) else
      if ((areaN s.u.L.length * 64 : Nat) : Int) < lenS s.l (imgN s.l) xs then (3, s) else
      if (mrS s (L.secs (encS xs).2.length)).1 ≠ 0 then mrS s (L.secs (encS xs).2.length) else
      let q := apS (mrS s (L.secs (encS xs).2.length)).2 (encS xs).2
      if q.1 ≠ 0 then (q.1, { q.2 with br := true }) else (0, { q.2 with l := appS q.2.l xs })) = R) := hid (by have h := HRE.out; unfold comS at h; rw [if_neg (by rw [hbr]; decide)] at h; exact h)
    clear hbr
    go_enter Tryz.func15, Tryz.ntmps15
    go_wp2_with fail
    refine (HEN.out w HX.out HSZ.out HLEN.out).mono ?_
    rintro e w1 ⟨rfl, f1⟩
    have HF1 := hid f1
    obtain ⟨p, hp⟩ : ∃ p, encS xs = p := ⟨_, rfl⟩
    have HOK := hid (fun (h : (encS xs).1 = 0) => encS_ok h)
    rw [hp] at HR1 HOK ⊢
    obtain ⟨ce, x⟩ := p
    simp only at HR1 HOK ⊢
    clear f1 hp HRE c8
    by_cases hce : ce = 0
    · subst hce
      have HR2 : Hid ((if ((areaN s.u.L.length * 64 : Nat) : Int) < lenS s.l (imgN s.l) xs then (3, s) else
        if (mrS s (L.secs x.length)).1 ≠ 0 then mrS s (L.secs x.length) else
        let q := apS (mrS s (L.secs x.length)).2 x
        if q.1 ≠ 0 then (q.1, { q.2 with br := true }) else (0, { q.2 with l := appS q.2.l xs })) = R) := hid (by have h := HR1.out; rw [if_neg (by simp)] at h; exact h)
      obtain ⟨hm, h32, hxr, hx2⟩ := HOK.out rfl
      have HMAY : Hid (∀ y ∈ xs, y.key.size ≤ 64 ∧ y.value.size ≤ 400) := hid (fun y hy => ⟨(may_sizes (List.all_eq_true.1 hm y hy)).1, (may_sizes (List.all_eq_true.1 hm y hy)).2.1⟩)
      have H32 := hid h32
      have HXL : Hid (x.length ≤ 2000) := hid (by rw [hxr]; exact hx2)
      have HS1 := hid (H.out.no HF1.out)
      obtain ⟨bg, bt, Z, T, hM, hO⟩ := HS1.out.split
      have HM := hid (hM.no ((Fr.refl No w1).drew))
      have hv := HM.out.c.blk.range 0 [pt bd] rfl
      have HX1 := hid (HX.out.fr HF1.out.drew (fun _ _ _ e => e))
      obtain ⟨t, ht⟩ : ∃ t : S, ByteArray.mk x.toArray = t := ⟨_, rfl⟩
      have HTZ : Hid (t.size = x.length) := hid (by rw [← ht]; show x.toArray.size = _; simp)
      have HTD : Hid (t.data.toList = x) := hid (by rw [← ht])
      rw [show L.str x = Value.string t from congrArg Value.string ht]
      clear hM hO hm h32 hxr hx2 HR1 HOK ht
      go_wp2_with fail
      have hold : Facts.hold [(8, fun w' => w'.rangeAt b 0 [pt bd])] w1.drew := Facts.cons_hold hv (Facts.nil_hold _)
      refine wpD_region hold (by kernel_rfl) 11 rfl ?_
      (refine wpD_plain 0 (v := ?_) rfl (by kernel_rfl) (by kernel_rfl) (by kernel_rfl) (fun _ _ _ h => h) (by rfl) ?_ (by assumption) ?_; rotate_left; (intro _w; go_simp; try with_reducible rfl); simp only [Act.put, List.setIfInBounds_toArray, List.set_cons_zero, List.set_cons_succ])
      (refine wpD_plain 1 (v := ?_) rfl (by kernel_rfl) (by kernel_rfl) (by kernel_rfl) (fun _ _ _ h => h) (by rfl) ?_ (by assumption) ?_; rotate_left; (intro _w; go_simp; try with_reducible rfl); simp only [Act.put, List.setIfInBounds_toArray, List.set_cons_zero, List.set_cons_succ])
      (refine wpD_plain 2 (v := ?_) rfl (by kernel_rfl) (by kernel_rfl) (by kernel_rfl) (fun _ _ _ h => h) (by rfl) ?_ (by assumption) ?_; rotate_left; (intro _w; go_simp; try with_reducible rfl); simp only [Act.put, List.setIfInBounds_toArray, List.set_cons_zero, List.set_cons_succ])
      (refine wpD_plain 3 (v := ?_) rfl (by kernel_rfl) (by kernel_rfl) (by kernel_rfl) (fun _ _ _ h => h) (by rfl) ?_ (by assumption) ?_; rotate_left; (intro _w; go_simp; try with_reducible rfl); simp only [Act.put, List.setIfInBounds_toArray, List.set_cons_zero, List.set_cons_succ])
      (refine wpD_plain 5 (v := ?_) rfl (by kernel_rfl) (by kernel_rfl) (by kernel_rfl) (fun _ _ _ h => h) (by rfl) ?_ (by assumption) ?_; rotate_left; (intro _w; go_simp; try with_reducible rfl); simp only [Act.put, List.setIfInBounds_toArray, List.set_cons_zero, List.set_cons_succ])
      (refine wpD_plain 6 (v := ?_) rfl (by kernel_rfl) (by kernel_rfl) (by kernel_rfl) (fun _ _ _ h => h) (by rfl) ?_ (by assumption) ?_; rotate_left; (intro _w; go_simp; try with_reducible rfl); simp only [Act.put, List.setIfInBounds_toArray, List.set_cons_zero, List.set_cons_succ])
      (refine wpD_plain 7 (v := ?_) rfl (by kernel_rfl) (by kernel_rfl) (by kernel_rfl) (fun _ _ _ h => h) (by rfl) ?_ (by assumption) ?_; rotate_left; (intro _w; go_simp; try with_reducible rfl); simp only [Act.put, List.setIfInBounds_toArray, List.set_cons_zero, List.set_cons_succ])
      (refine wpD_take 8 _ rfl (by kernel_rfl) (by kernel_rfl) (by kernel_rfl) (fun _ _ _ h => h) List.mem_cons_self (by rfl) (exec_load _ _ rfl b 0 rfl _ _ rfl rfl infoVol) (by assumption) ?_; simp only [Act.put, List.setIfInBounds_toArray, List.set_cons_zero, List.set_cons_succ])
      clear hold hv
      refine wpD_only 4 [(8, fun w' => w'.rangeAt b 0 [pt bd])] rfl (by kernel_rfl) (by kernel_rfl) (by rfl) (fun K4 hK4 => ?_)
      refine wp_call (.func 35) _ _ rfl 35 [] rfl hentLA [.pointer (some ⟨b, 2, none⟩), .slice a xs.length c] (by rfl) ?_
      refine (lengthAfter_any W w1.drew b 2 _ _ bt T s.l a c xs E HM.out.c HX1.out HCC.out HMAY.out (by have := HL.out; have := H32.out; omega)).mono ?_
      rintro e w2 ⟨rfl, f2⟩
      have hold : Facts.hold [(8, fun w' => w'.rangeAt b 0 [pt bd])] w2 := Facts.cons_hold ((HM.out.no f2).c.blk.range 0 [pt bd] rfl) (Facts.nil_hold _)
      refine ⟨_, rfl, hK4 _ _ hold ?_⟩
      clear hK4 K4
      have HM2 := hid (HM.out.no f2)
      have HF2 : Hid (Fr No w w2) := hid (HF1.out.drew.trans' f2)
      obtain ⟨n0, hn0⟩ : ∃ n, lenS s.l (imgN s.l) xs = n := ⟨_, rfl⟩
      rw [hn0] at HR2 ⊢
      clear f2 hn0 HM
      simp only [Act.put, List.setIfInBounds_toArray, List.set_cons_zero, List.set_cons_succ]
      clear hold
      refine wpD_only 9 [] rfl (by kernel_rfl) (by kernel_rfl) (by rfl) (fun K9 hK9 => ?_)
      refine wp_call (.func 36) _ _ rfl 36 [] rfl hentCap [vol bd] (by rfl) ?_
      refine (capacity_any HM2.out.a.1).mono ?_
      rintro e w3 ⟨rfl, f3⟩
      obtain ⟨cp, hcp⟩ : ∃ n : Int, ((areaN s.u.L.length * 64 : Nat) : Int) = n := ⟨_, rfl⟩
      rw [hcp] at HR2 ⊢
      have hold : Facts.hold [] w3 := Facts.nil_hold _
      refine ⟨_, rfl, hK9 _ _ hold ?_⟩
      clear hK9 K9
      have HF3 : Hid (Fr No w w3) := hid (HF2.out.trans' f3)
      have HS3 := hid (H.out.no HF3.out)
      have HX3 := hid (HX.out.fr HF3.out (fun _ _ _ e => e))
      clear f3 hcp HM2 HX1
      simp only [Act.put, List.setIfInBounds_toArray, List.set_cons_zero, List.set_cons_succ]
      by_cases hgt : cp < n0
      · have HRF : Hid (R = (3, s)) := hid (by have h := HR2.out; rw [if_pos hgt] at h; exact h.symm)
        (refine wpD_plain 10 (v := (.bool true)) rfl (by kernel_rfl) (by kernel_rfl) (by kernel_rfl) (fun _ _ _ h => h) (by rfl) ?_ (by assumption) ?_; (intro _w; go_simp; skip); simp only [Act.put, List.setIfInBounds_toArray, List.set_cons_zero, List.set_cons_succ])
        refine wpD_done (by kernel_rfl) ?_ _
        clear hold
        go_wp2_with fail
        go_ret
        rw [HRF.out]
        exact ⟨rfl, O, HS3.out, HF3.out.no, fun _ h => .inl h⟩
      · have HR3 : Hid ((if (mrS s (L.secs x.length)).1 ≠ 0 then mrS s (L.secs x.length) else
          let q := apS (mrS s (L.secs x.length)).2 x
          if q.1 ≠ 0 then (q.1, { q.2 with br := true }) else (0, { q.2 with l := appS q.2.l xs })) = R) := hid (by have h := HR2.out; rw [if_neg hgt] at h; exact h)
        (refine wpD_plain 10 (v := (.bool false)) rfl (by kernel_rfl) (by kernel_rfl) (by kernel_rfl) (fun _ _ _ h => h) (by rfl) ?_ (by assumption) ?_; (intro _w; go_simp; skip); simp only [Act.put, List.setIfInBounds_toArray, List.set_cons_zero, List.set_cons_succ])
        refine wpD_done (by kernel_rfl) ?_ _
        clear hold hgt
        have hti : (t.size : Int) ≤ 2000 := by have := HTZ.out; have := HXL.out; omega
        go_wp2_with fail
        refine (L.sectors_any (t.size : Int) w3 (by omega) (by omega)).mono ?_
        rintro e w' ⟨rfl, rfl⟩
        rw [HTZ.out]
        obtain ⟨ns, hns⟩ : ∃ n, L.secs (x.length : Int) = n := ⟨_, rfl⟩
        rw [hns] at HR3 ⊢
        clear hns HR2 hti
        go_wp2_with fail
        refine (makeRoom_any ns HS3.out HP.out HI.out HL.out).mono ?_
        rintro e w4 ⟨rfl, O4, hS4, hF4, hG4⟩
        obtain ⟨p, hp⟩ : ∃ p, mrS s ns = p := ⟨_, rfl⟩
        have HPP : Hid (p.1 = 0 → p.2.u.P.length ≤ s.u.P.length) := hid (by rw [← hp]; exact mrS_P)
        have HPL : Hid (p.2.l = s.l) := hid (by rw [← hp]; exact mrS_l _ _)
        rw [hp] at hS4 HR3 ⊢
        obtain ⟨c4, s4⟩ := p
        simp only at hS4 HR3 HPP HPL ⊢
        have HS4 := hid hS4
        have HF4 : Hid (Fr O w w4) := hid (HF3.out.no.trans' hF4)
        have HG4 : Hid (Grows w O O4) := hid (fun k hk => (hG4 k hk).imp id (fun hge => by have := HF3.out.size; omega))
        clear hS4 hF4 hG4 hp
        by_cases hc4 : c4 = 0
        · have HR4 : Hid ((if (apS s4 x).1 ≠ 0 then ((apS s4 x).1, { (apS s4 x).2 with br := true }) else (0, { (apS s4 x).2 with l := appS (apS s4 x).2.l xs })) = R) := hid (by have h := HR3.out; rw [if_neg (by simp [hc4])] at h; exact h)
          have HPQ := hid (HPP.out hc4)
          subst hc4
          go_wp2_with fail
          refine (appendDurably_any t HS4.out (by have := HPQ.out; have := HP.out; omega) (by have := HTZ.out; have := HXL.out; omega)).mono ?_
          rintro e w5 ⟨rfl, O5, hS5, hF5, hG5⟩
          rw [HTD.out] at hS5 ⊢
          obtain ⟨q, hq⟩ : ∃ q, apS s4 x = q := ⟨_, rfl⟩
          have HQL : Hid (q.2.l = s.l) := hid (by rw [← hq, apS_l]; exact HPL.out)
          rw [hq] at hS5 HR4 ⊢
          obtain ⟨c5, s5⟩ := q
          simp only at hS5 HR4 HQL ⊢
          have HS5 := hid hS5
          have HF5 : Hid (Fr O w w5) := hid (HF4.out.trans hF5 HG4.out)
          have HG5 : Hid (Grows w O O5) := hid (fun k hk => (hG5 k hk).elim (HG4.out k) (fun hge => .inr (by have := HF4.out.size; omega)))
          clear hS5 hF5 hG5 hq
          by_cases hc5 : c5 = 0
          · have HRF : Hid (R = (0, { s5 with l := appS s5.l xs })) := hid (by have h := HR4.out; rw [if_neg (by simp [hc5])] at h; exact h.symm)
            subst hc5
            obtain ⟨bg5, bt5, Z5, T5, hM5, hO5⟩ := HS5.out.split
            have HM5 := hid hM5; have HO5 := hid hO5
            have HX5 := hid (HX.out.fr HF5.out (fun k hk _ e => (HE.out k hk).1 e))
            clear hM5 hO5
            go_wp2_with fail
            refine (apply_any W w5 b 2 _ _ bt5 T5 s5.l _ xs E HM5.out.c HX5.out (fun k hk => ⟨fun hf => ?_, fun e => ?_⟩) HMAY.out (by rw [HQL.out]; have := HL.out; have := H32.out; omega)).mono ?_
            · rcases HG5.out k (HO5.out k (.inr (.inl hf))) with h | h
              · exact (HE.out k hk).1 h
              · have := (HE.out k hk).2; omega
            · rcases HG5.out k (HO5.out k (.inr (.inr (.inl e)))) with h | h
              · exact (HE.out k hk).1 h
              · have := (HE.out k hk).2; omega
            rintro e w6 ⟨rfl, T6, hC6, hF6, hT6⟩
            have HM6 := hid (HM5.out.tree hC6 hF6 hT6)
            have HF6 := hid hF6; have HT6 := hid hT6
            clear hC6 hF6 hT6
            go_wp2_with fail
            go_ret
            rw [HRF.out]
            have hbg := HS5.out.ow bg5 (HO5.out bg5 (.inr (.inr (.inr rfl))))
            refine ⟨rfl, _, HM6.out.sto (fun k hk => (HS5.out.ow k (HO5.out k (.inl hk))).1) hbg.1 HS5.out.area HS5.out.rok HS5.out.big, ?_, ?_⟩
            · refine HF5.out.trans HF6.out (fun k hk => ?_)
              rcases hk with hk | hk
              · exact HG5.out k (HO5.out k (.inr (.inl hk)))
              · exact HG5.out k (HO5.out k (.inr (.inr (.inl hk))))
            · rintro k (hk | hk | hk | hk)
              · exact HG5.out k (HO5.out k (.inl hk))
              · rcases HT6.out k hk with h | h
                · exact HG5.out k (HO5.out k (.inr (.inl h)))
                · exact .inr (by have := HF5.out.size; omega)
              · exact HG5.out k (HO5.out k (.inr (.inr (.inl hk))))
              · exact HG5.out k (HO5.out k (.inr (.inr (.inr hk))))
          · have HRF : Hid (R = (c5, { s5 with br := true })) := hid (by have h := HR4.out; rw [if_pos hc5] at h; exact h.symm)
            obtain ⟨g8, z8⟩ := HS5.out.cell8
            go_wp2_with fail
            go_ret
            rw [HRF.out]
            exact ⟨rfl, O5, HS5.out.brk, HF5.out.setCell _ _ ((HG5.out b HS5.out.own).imp id id), HG5.out⟩
        · have HRF : Hid (R = (c4, s4)) := hid (by have h := HR3.out; rw [if_pos hc4] at h; exact h.symm)
          go_wp2_with fail
          go_ret
          rw [HRF.out]
          exact ⟨rfl, O4, HS4.out, HF4.out, HG4.out⟩
    · have HRF : Hid (R = (ce, s)) := hid (by have h := HR1.out; rw [if_pos hce] at h; exact h.symm)
      go_wp2_with fail
      go_ret
      rw [HRF.out]
      exact ⟨rfl, O, H.out.no HF1.out, HF1.out.no, fun _ h => .inl h⟩
end
end Go.Proofs.YtejbanlhgnlliaaGreat.ST
