/-
  Part 8 of the proof: DnM, DnG, ShaR.
-/
import Derived.Test.YtnjemnmhkhkpeaaDoorDo04
import Derived.Test.YtnjemnmhkhkpeaaDoorDo05
import Derived.Test.YtnjemnmhkhkpeaaDoorDo07
import Derived.Laws.StructEq
import Derived.RangeFuncNested
import Derived.RangeFuncBound
import Derived.RangeFuncCalls
import Derived.RangeFuncLeaves
import Derived.RangeFuncWrites
import Derived.TacticsInMore
import Derived.OwnWalkIn
import Derived.LoopNIn
import Derived.LoopIn
import Derived.Test.YtnjemnmhkhkpeaaDoorDo01
set_option linter.unusedSimpArgs false
set_option linter.unusedVariables false
namespace Go.Proofs.YtnjemnmhkhkpeaaDoor.DN
set_option maxRecDepth 100000
open Go.RowKit K Go.Proofs.YtnjemnmhkhkpeaaDoor.BE
set_option maxHeartbeats 8000000 in
theorem stable_any (g n cap : Nat) (r : Rd) (z : List Value) (w : World) (hn : r.length = n) (hc : n ≤ cap) (hB : Blk w g 37 (avs r ++ z)) (hl : n < 20) :
    Calls Tryd.prog 41 #[.slice (some ⟨g, 0, none⟩) n cap, .int .i64 (n : Int), .func (.func 31) #[] #[]] w fun e w' => (∃ v, e = .returned v) ∧ Blk w' g 37 (avs (srt r) ++ z) ∧ Fr (fun k => k = g) w w' := by
  have H := hid (insertion_any g n cap r z w hn hc hB (by omega))
  have hni : (n : Int) < 20 := by omega
  have hn2 : ¬ (20 : Int) ≤ n := by omega
  have hn3 : ¬ (20 : Int) < n := by omega
  clear hn hc hB hl
  go_enter Tryd.func41, Tryd.ntmps41
  go_wp2_with fail
  go_loopw [7, 8] (fun b c wr => b = .int .i64 0 ∧ c = .int .i64 20 ∧ wr = w) (fun _ _ _ => 0)
  case atStart => exact ⟨rfl, rfl, rfl⟩
  case round =>
    obtain ⟨rfl, rfl, rfl⟩ := hrel
    go_wp2_with fail
    refine H.out.mono ?_
    rintro e w2 ⟨⟨v, rfl⟩, hb2, f2⟩
    have HB2 := hid hb2
    have HF2 := hid f2
    clear hb2 f2
    go_wp2_with fail
    go_loopw [6] (fun a wr => a = .int .i64 20 ∧ wr = w2) (fun _ _ => 0)
    case atStart => exact ⟨rfl, rfl⟩
    case round =>
      obtain ⟨rfl, rfl⟩ := hrel
      go_wp2_with fail
      go_end0
      exact ⟨⟨_, rfl⟩, HB2.out, HF2.out⟩
theorem sort_any (g n cap : Nat) (r : Rd) (z : List Value) (w : World) (hn : r.length = n) (hc : n ≤ cap) (hB : Blk w g 37 (avs r ++ z)) (hl : n < 20) :
    Calls Tryd.prog 30 #[.slice (some ⟨g, 0, none⟩) n cap, .func (.func 31) #[] #[]] w fun e w' => (∃ v, e = .returned v) ∧ Blk w' g 37 (avs (srt r) ++ z) ∧ Fr (fun k => k = g) w w' := by
  have H := hid (stable_any g n cap r z w hn hc hB hl)
  clear hn hc hB hl
  go_enter Tryd.func30, Tryd.ntmps30
  go_wp2_with fail
  refine H.out.mono ?_
  rintro e w2 ⟨⟨v, rfl⟩, hb2, f2⟩
  have HB2 := hid hb2
  have HF2 := hid f2
  clear hb2 f2
  go_wp2_with fail
  go_end0
  exact ⟨⟨_, rfl⟩, HB2.out, HF2.out⟩
/-- A row of the call's own is a whole block. -/
theorem OwR.blk {e : TypeId} {k : Nat} {w0 w : World} {v : Value} {n : Nat} {cs : List Value} (h : OwR e k w0 w v n cs) (hn : 0 < n) : ∃ g cap z, v = .slice (some ⟨g, 0, none⟩) n cap ∧ n ≤ cap ∧ w0.heap.size ≤ g ∧ Blk w g e (cs ++ z) := by
  rcases h.2.1.2 with ⟨-, h0⟩ | ⟨g, cap, cur, rfl, hb, hg, h1, h2, h3, h4⟩
  · have h0 : n = 0 := h0
    omega
  · refine ⟨g, cap, cur.toList.drop (n * k), rfl, h1, hb, ?_⟩
    have e : cs ++ cur.toList.drop (n * k) = cur.toList := by rw [← h4, List.take_append_drop]
    rw [e]
    simpa [Blk] using hg
set_option maxHeartbeats 16000000 in
theorem normStep_any (E : Nat → Prop) (v : Value) (r : Rd) (w : World) (h : RdIn E w v r) (hb : RdB 1048576 r) (h1 : 1 ≤ r.length) (h20 : r.length < 20) :
    Calls Tryd.prog 20 #[v] w fun e w' => ∃ v', e = .returned v' ∧ RdIn (fun k => w.heap.size ≤ k) w' v' (normR r) ∧ Fr No w w' := by
  obtain ⟨a, cp, rfl, -, -⟩ := h.form
  have HX := hid h
  have HB := hid hb
  obtain ⟨n, hn⟩ : ∃ n, r.length = n := ⟨_, rfl⟩
  rw [hn] at HX h1 h20 ⊢
  have HNN := hid hn
  have hni : (n : Int) < 20 := by omega
  have H1 := hid h1; have H20 := hid h20
  clear h hb hn h1 h20
  go_enter Tryd.func20, Tryd.ntmps20
  go_wp2_with fail
  go_loopw [3, 8] (fun sv iv wr => ∃ (i : Nat), iv = .int .i64 i ∧ i ≤ n ∧ Hid (OwR 37 2 w wr sv i (avs ((r.take i).map foldA)))) (fun _ iv _ => n - (intOf iv).toNat)
  case atStart => exact ⟨0, rfl, Nat.zero_le _, hid (owR_nil (Fr.refl _ _))⟩
  case round =>
    obtain ⟨i, rfl, hi, HO⟩ := hrel
    obtain ⟨va, vc, rfl⟩ := HO.out.1
    by_cases hlt : i < n
    · obtain ⟨x, hx⟩ : ∃ x, r[i]? = some x := ⟨_, List.getElem?_eq_getElem (by rw [HNN.out]; exact hlt)⟩
      have hlti : (i : Int) < n := by omega
      have hi0 : (0 : Int) ≤ i := by omega
      obtain ⟨g, o, cq, c, e1, -, hgw, hrr, hc, hxa⟩ := (RdIn.no HX.out HO.out.fr).get hx
      rw [HNN.out] at e1
      simp only [Value.slice.injEq, true_and] at e1
      obtain ⟨rfl, rfl⟩ := e1
      obtain ⟨rfl, hs1, hs2⟩ := hxa
      have HRR := hid hrr
      have HXB : Hid (AvB 1048576 x) := hid (HB.out.2 x (List.mem_of_getElem? hx))
      have HNX : Hid (avs ((r.take (i + 1)).map foldA) = avs ((r.take i).map foldA) ++ [.string (sb (low x.1)), .string (sb (fold x.2))]) := hid (by
        rw [List.take_add_one, hx, List.map_append, avs_app]
        simp [avs, foldA])
      have HLT := hid hlt
      clear hc hgw hrr hs1 hs2 hx hlt
      go_wp2_with (first
        | ((with_reducible refine K.atO (.load 37 _) ?_); refine wpL_load rfl _ _ rfl g (o + i * 2) rfl [.string (sb x.1), .string (sb x.2)] _ HRR.out rfl rfl infoAv ?_)
        | ((with_reducible refine K.atO (.alloc 37) ?_); refine wpList_plain rfl fun K1 hK1 => ?_; refine wp_alloc 37 rfl (.agg #[.string ⟨#[]⟩, .string ⟨#[]⟩]) zeroAv [.string ⟨#[]⟩, .string ⟨#[]⟩] rfl ?_; intro w2 HB2 HF2 HS2; refine hK1 _ _ ?_; clear hK1 K1)
        | ((with_reducible refine K.atO (.store 37 _ _) ?_); refine wpL_store rfl _ _ _ rfl wr.heap.size 0 [.string (sb x.1), .string (sb x.2)] rfl rfl 37 _ HB2.out (by simp) infoAv (by simp [Value.oneCell']) ?_; intro w3 HB3 HF3 HS3)
        | fail)
      obtain ⟨b, hbb⟩ : ∃ b, wr.heap.size = b := ⟨_, rfl⟩
      have HF33 : Hid (Fr No wr w3) := hid (HF2.out.trans HF3.out fun k e => .inr (by have e : k = wr.heap.size := e; omega))
      have HO3 := hid (HO.out.no HF33.out)
      rw [hbb] at HB3 ⊢
      have hB3 : Blk w3 b 37 [.string (sb x.1), .string (sb x.2)] := by simpa [spl] using HB3.out
      have c0 : w3.cell? ⟨b, 0, none⟩ = some (.string (sb x.1)) := hB3.cell 0
      have c1 : w3.cell? ⟨b, 1, none⟩ = some (.string (sb x.2)) := hB3.cell 1
      clear hbb hB3
      have hold : Facts.hold [(2, fun w' => w'.cell? ⟨b, 0, none⟩ = some (.string (sb x.1))), (5, fun w' => w'.cell? ⟨b, 1, none⟩ = some (.string (sb x.2)))] w3.drew := Facts.cons_hold c0 (Facts.cons_hold c1 (Facts.nil_hold _))
      refine wpD_region hold (by kernel_rfl) 11 rfl ?_
      (refine K.pl 0 (v := ?_) rfl ?_ ?_; rotate_left; (intro _w; go_simp; try with_reducible rfl); simp only [Act.put, K.put3])
      (refine K.pl 1 (v := ?_) rfl ?_ ?_; rotate_left; (intro _w; go_simp; try with_reducible rfl); simp only [Act.put, K.put3])
      (refine K.pl 4 (v := ?_) rfl ?_ ?_; rotate_left; (intro _w; go_simp; try with_reducible rfl); simp only [Act.put, K.put3])
      (refine K.tk 2 _ rfl K.m0 (v := ?_) ?_ ?_; rotate_left; (intro _w _hw; go_simp; try with_reducible rfl); simp only [Act.put, K.put3])
      (refine K.tk 5 _ rfl K.m1 (v := ?_) ?_ ?_; rotate_left; (intro _w _hw; go_simp; try with_reducible rfl); simp only [Act.put, K.put3])
      clear hold
      refine K.on 3 [(5, fun w' => w'.cell? ⟨b, 1, none⟩ = some (.string (sb x.2)))] rfl (fun K3 hK3 => ?_)
      refine wp_call _ _ _ rfl 17 [] rfl (fun vs w => by kernel_rfl) [.string (sb x.1)] (by rfl) ?_
      refine (lower_str x.1 (by have := HXB.out.1; unfold Sz; omega) w3.drew).mono ?_
      rintro e w4 ⟨rfl, f4⟩
      have hf4 : Fr No w3 w4 := (Fr.refl No w3).drew.trans' f4
      have c14 : w4.cell? ⟨b, 1, none⟩ = some (.string (sb x.2)) := hf4.cell c1 id
      have HO4 := hid (HO3.out.no hf4)
      refine ⟨_, rfl, hK3 _ _ (Facts.cons_hold c14 (Facts.nil_hold _)) ?_⟩
      clear hK3 K3 f4 hf4 c1 c0
      simp only [Act.put, K.put3]
      refine K.on 6 [] rfl (fun K6 hK6 => ?_)
      refine wp_call _ _ _ rfl 8 [] rfl (fun vs w => by kernel_rfl) [.string (sb x.2)] (by rfl) ?_
      refine (fold_any x.2 (by have := HXB.out.2; omega) w4).mono ?_
      rintro e w5 ⟨rfl, f5⟩
      have HO5 := hid (HO4.out.no f5)
      refine ⟨_, rfl, hK6 _ _ (Facts.nil_hold _) ?_⟩
      clear hK6 K6 f5 c14
      simp only [Act.put, K.put3]
      have hold : Facts.hold [] w5 := Facts.nil_hold _
      (refine K.pl 7 (v := (.agg #[.string (sb (low x.1)), .string (sb (fold x.2))])) rfl ?_ ?_; (intro _w; go_simp; skip); simp only [Act.put, K.put3])
      clear hold
      refine K.on 8 [] rfl (fun K8 hK8 => ?_)
      obtain ⟨ib, hib, hzb, hsb, hbb⟩ := Go.info_parts infoAva
      refine wp_buildOne 34 37 _ rfl ib _ Tryd.underlying34 hib hzb (by rw [hsb]; decide) (by rw [hsb]; decide) (.agg #[.string (sb (low x.1)), .string (sb (fold x.2))]) [.string (sb (low x.1)), .string (sb (fold x.2))] rfl rfl (by rw [hsb]; rfl) ?_
      intro w6 HB6 HF6 HS6
      refine hK8 _ _ (Facts.nil_hold _) ?_
      clear hK8 K8 hib hzb hsb hbb
      simp only [Act.put, K.put3]
      have HO6 := hid (HO5.out.no HF6.out)
      refine K.on 9 [] rfl (fun K9 hK9 => ?_)
      refine wp_appR _ _ 34 37 rfl Tryd.underlying34 infoAva rfl (by decide) HO6.out rfl w5.heap.size 1 1 _ rfl rfl HB6.out (by simp [Value.oneCell']) (by omega) (by omega) ?_
      intro a7 c7 w7 HO7 HF7
      refine hK9 _ _ (Facts.nil_hold _) ?_
      clear hK9 K9
      simp only [Act.put, K.put3]
      have hold : Facts.hold [] w7 := Facts.nil_hold _
      (refine K.pl 10 (v := ?_) rfl ?_ ?_; rotate_left; (intro _w; go_simp; try with_reducible rfl); simp only [Act.put, K.put3])
      clear hold
      refine wpD_done (by kernel_rfl) ?_ _
      go_wp2_with fail
      refine ⟨⟨i + 1, by go_num, HLT.out, hid (by rw [HNX.out]; exact HO7.out)⟩, ?_⟩
      have := HLT.out
      simp [intOf]; omega
    · obtain rfl : i = n := by omega
      have hall : (r.take i).map foldA = r.map foldA := by rw [← HNN.out, List.take_length]
      rw [hall] at HO
      obtain ⟨g, cap, z, e1, hcap, hg, hB⟩ := HO.out.blk H1.out
      simp only [Value.slice.injEq, true_and] at e1
      obtain ⟨rfl, rfl⟩ := e1
      have HS := hid (sort_any g i vc (r.map foldA) z wr (by rw [List.length_map]; exact HNN.out) hcap hB H20.out)
      have HGE := hid hg
      have HCAP := hid hcap
      have HZ : Hid (SzR (normR r)) := hid (by
        intro y hy
        obtain ⟨q, hq, rfl⟩ := List.mem_map.1 (srt_mem.1 hy)
        have h := HB.out.2 q hq
        have h2 := fold_len q.2
        have h3 := low_length q.1
        unfold Sz foldA
        unfold AvB at h
        simp only
        omega)
      clear hall hcap hg hB hi hlt
      go_wp2_with fail
      refine HS.out.mono ?_
      rintro e w8 ⟨⟨v8, rfl⟩, hb8, f8⟩
      have HB8 := hid hb8
      have HF8 := hid f8
      clear hb8 f8
      go_wp2_with fail
      go_ret
      have hl : (normR r).length = i := by rw [normR, srt_len, List.length_map]; exact HNN.out
      refine ⟨_, rfl, ⟨_, _, by rw [hl]; rfl, by rw [hl]; exact HCAP.out, by rw [hl]; omega, .inr ⟨g, 0, (normR r).map fun x => [Value.string (sb x.1), .string (sb x.2)], rfl, HGE.out, HB8.out.lt, ?_, List.length_map _, fun c hcm => ?_, fun j x c hx hcj => ?_⟩⟩, HO.out.fr.trans HF8.out fun k e => .inr (by have e : k = g := e; have := HGE.out; omega)⟩
      · rw [← avs_flat]
        refine HB8.out.range 0 _ ?_
        rw [List.drop_zero]
        exact List.take_left
      · obtain ⟨x, _, rfl⟩ := List.mem_map.1 hcm
        rfl
      · rw [List.getElem?_map, hx] at hcj
        obtain rfl := Option.some.inj hcj
        exact ⟨rfl, HZ.out x (List.mem_of_getElem? hx)⟩
/-- One step more behind a name. -/
theorem Rs.add {w wr w' : World} {nv nv' v : Value} {n : Nm} {r : Rd} {vs : List Value} (h : Rs w wr nv (.slice none 0 0) n [] vs) (hv : RdIn (fun k => w.heap.size ≤ k ∧ nv.ownBlock ≠ some k) wr v r) (ho : OwR 34 1 w w' nv' (n.length + 1) (vs ++ [v])) (hf : Fr (fun j => nv.ownBlock = some j) wr w')
    (hw : nv'.ownBlock = nv.ownBlock ∨ ∃ g, nv'.ownBlock = some g ∧ wr.heap.size ≤ g) (hvs : vs.length = n.length) : Rs w w' nv' (.slice none 0 0) (n ++ [r]) [] (vs ++ [v]) := by
  refine ⟨by rw [List.length_append]; exact ho, owR_nil ho.fr, fun _ _ => by simp [Value.ownBlock], ?_, fun x hx => by cases hx⟩
  have hnew : ∀ j, j < wr.heap.size → nv.ownBlock ≠ some j → nv'.ownBlock ≠ some j := by
    intro j hj hn e
    rcases hw with hw | ⟨g', hw, hge⟩
    · rw [hw] at e; exact hn e
    · rw [hw] at e
      have e := Option.some.inj e
      omega
  intro i q u h1 h2
  by_cases hi : i < n.length
  · rw [List.getElem?_append_left hi] at h1
    rw [List.getElem?_append_left (by omega)] at h2
    refine (RdIn.fr (rd_lt (h.ks i q u h1 h2)) hf fun j hj _ e => hj.1.2.1 e).mono ?_
    rintro j ⟨⟨j1, j2, j3⟩, j4⟩
    exact ⟨j1, hnew j j4 j2, by simp [Value.ownBlock]⟩
  · rw [List.getElem?_append_right (by omega)] at h1
    rw [List.getElem?_append_right (by omega)] at h2
    have hi0 : i - n.length = 0 := by
      have := (List.getElem?_eq_some_iff.1 h1).1
      simp at this
      omega
    have hi1 : i - vs.length = 0 := by omega
    rw [hi0] at h1
    rw [hi1] at h2
    obtain rfl : r = q := by simpa using h1
    obtain rfl : v = u := by simpa using h2
    refine (RdIn.fr (rd_lt hv) hf fun j hj _ e => hj.1.2 e).mono ?_
    rintro j ⟨⟨j1, j2⟩, j4⟩
    exact ⟨j1, hnew j j4 j2, by simp [Value.ownBlock]⟩
/-- Steps that are neither empty nor long. -/
def Short (n : Nm) : Prop := ∀ r ∈ n, 1 ≤ r.length ∧ r.length < 20
set_option maxHeartbeats 8000000 in
theorem norm_any (E : Nat → Prop) (v : Value) (n : Nm) (w : World) (h : NmIn E w v n) (hb : NmB 1048576 n) (hs : Short n) :
    Calls Tryd.prog 9 #[v] w fun e w' => ∃ v', e = .returned v' ∧ NmIn (fun k => w.heap.size ≤ k) w' v' (norm n) ∧ Fr No w w' := by
  obtain ⟨a, cp, rfl, -, -⟩ := h.form
  have HX := hid h
  have HB := hid hb
  have HS := hid hs
  obtain ⟨m, hn⟩ : ∃ m, n.length = m := ⟨_, rfl⟩
  have HM : Hid (m ≤ 1048576) := hid (by have := hb.1; omega)
  have hmi : (m : Int) ≤ 1048576 := by have := HM.out; omega
  rw [hn] at HX ⊢
  have HNN := hid hn
  clear h hb hs hn
  go_enter Tryd.func9, Tryd.ntmps9
  go_wp2_with fail
  go_loopw [3, 8] (fun nv iv wr => ∃ (i : Nat) (vs : List Value), iv = .int .i64 i ∧ i ≤ m ∧ Hid (Rs w wr nv (.slice none 0 0) (norm (n.take i)) [] vs ∧ vs.length = i)) (fun _ iv _ => m - (intOf iv).toNat)
  case atStart => exact ⟨0, [], rfl, Nat.zero_le _, hid ⟨⟨owR_nil (Fr.refl _ _), owR_nil (Fr.refl _ _), (fun g e => by cases e), (fun i r v e => by simp [norm] at e), (fun x hx => by cases hx)⟩, rfl⟩⟩
  case round =>
    obtain ⟨i, vs, rfl, hi, HR⟩ := hrel
    by_cases hlt : i < m
    · have hlen : (norm (n.take i)).length = i := by rw [norm_length, List.length_take, HNN.out]; omega
      have hno := HR.out.1.no
      rw [hlen] at hno
      obtain ⟨na, nc, rfl⟩ := hno.1
      have HNO := hid hno
      have HLEN := hid hlen
      obtain ⟨x, hx⟩ : ∃ x, n[i]? = some x := ⟨_, List.getElem?_eq_getElem (by rw [HNN.out]; exact hlt)⟩
      have hlti : (i : Int) < m := by omega
      have hi0 : (0 : Int) ≤ i := by omega
      obtain ⟨g, o, cq, c, e1, -, hgw, hrr, hc, hxa⟩ := (NmIn.no HX.out hno.fr).get hx
      rw [HNN.out] at e1
      simp only [Value.slice.injEq, true_and] at e1
      obtain ⟨rfl, rfl⟩ := e1
      obtain ⟨vx, rfl, hvx⟩ := hxa
      have hcell : wr.cell? ⟨g, o + i, none⟩ = some vx := by have := hrr 0 vx rfl; simpa using this
      have HVX := hid hvx
      obtain ⟨xa, xc, rfl, -, -⟩ := Sl.form hvx
      have HXM := hid (List.mem_of_getElem? hx)
      have HNX : Hid (norm (n.take (i + 1)) = norm (n.take i) ++ [normR x]) := hid (by
        rw [List.take_add_one, hx]
        simp [norm])
      have HLT := hid hlt
      clear hc hgw hrr hvx hx hlt hno hlen
      go_wp2_with fail
      refine (normStep_any E _ x wr HVX.out (HB.out.2 x HXM.out) (HS.out x HXM.out).1 (HS.out x HXM.out).2).mono ?_
      rintro e w4 ⟨v4, rfl, hv4, f4⟩
      have HV4 := hid hv4
      obtain ⟨va, vc, rfl, -, -⟩ := Sl.form hv4
      have HR4 := hid (HR.out.1.fr f4)
      have HNO4 := hid (HNO.out.no f4)
      have HSZ := hid f4.size
      clear f4 hv4
      go_wp2_with (first
        | ((with_reducible refine K.atO (.buildSlice 23 _ _) ?_); refine wpL_app1o rfl rfl _ _ _ 23 34 rfl rfl Tryd.underlying23 infoRdn rfl (by decide) (by decide) HNO4.out (.slice va (normR x).length vc) [.slice va (normR x).length vc] rfl rfl rfl (by simp [Value.oneCell']) (fun _ => rfl) (fun _ => rfl) (by have := HM.out; omega) (by have := HM.out; omega) ?_; intro q6 a6 c6 w6 HO6 HF6 HW6)
        | fail)
      have HR6 : Hid (Rs w w6 (.slice a6 (i + 1) c6) (.slice none 0 0) (norm (n.take i) ++ [normR x]) [] (vs ++ [.slice va (normR x).length vc])) := hid (HR4.out.add (HV4.out.mono fun k hk => ⟨Nat.le_trans HNO.out.fr.size hk, fun e => by have := (HNO.out.ge k e).2; omega⟩) (by rw [HLEN.out]; exact HO6.out) HF6.out HW6.out (by rw [HLEN.out]; exact HR.out.2))
      refine ⟨⟨i + 1, _, by go_num, HLT.out, hid ⟨by rw [HNX.out]; exact HR6.out, by have := HR.out.2; simp [this]⟩⟩, ?_⟩
      have := HLT.out
      simp [intOf]; omega
    · obtain rfl : i = m := by omega
      have hall : n.take i = n := by rw [← HNN.out, List.take_length]
      rw [hall] at HR
      have hv := HR.out.1.name (by rw [norm_length, HNN.out]; exact HR.out.2) (by rw [norm_length, HNN.out]; have := HM.out; omega)
      have HV := hid hv
      obtain ⟨va, vc, rfl, -, -⟩ := Sl.form hv
      have HFR := hid HR.out.1.no.fr
      clear hall hv hi hlt
      go_wp2_with fail
      go_ret
      exact ⟨_, rfl, HV.out, HFR.out⟩
def avV (p : Av) : Value := .agg #[.string (sb p.1), .string (sb p.2)]
theorem eqIn_av (p q : Av) (w : World) : (Op.equalIn 10000 37 (avV p) (avV q)).run Tryd.prog w = .ok (decide (p = q)) w := by
  unfold avV
  rw [show (10000 : Nat) = 9999 + 1 from rfl, run_equalIn_agg w 9999 37 _ _ (by kernel_rfl) (by kernel_rfl)]
  have hf : Tryd.prog.fieldsOf 37 = match Tryd.prog.underlying 37 with | some (.struct fs) => fs | _ => #[] := rfl
  rw [hf, Tryd.underlying37]
  have h1 := neq_sb p.1 q.1
  have h2 := neq_sb p.2 q.2
  have e1 := run_equalIn_string (P := Tryd.prog) w 9998 9 (sb p.1) (sb q.1) Tryd.underlying9
  have e2 := run_equalIn_string (P := Tryd.prog) w 9998 9 (sb p.2) (sb q.2) Tryd.underlying9
  rw [h1] at e1
  rw [h2] at e2
  have hp : decide (p = q) = (decide (p.1 = q.1) && decide (p.2 = q.2)) := by
    rw [Bool.eq_iff_iff]
    simp [Prod.ext_iff]
  have c1 : Tryd.prog.cellsOf 9 = 1 := by kernel_rfl
  simp [Op.eqFields, part]
  rw [show (9999 : Nat) = 9998 + 1 from rfl, e1]
  simp only [Result.andThen_ok]
  rw [hp]
  cases decide (p.1 = q.1)
  · rfl
  · rw [if_neg (by decide), e2]
    simp only [Result.andThen_ok]
    cases decide (p.2 = q.2) <;> rfl
theorem exec_eqAv {op : Oper} {a : Act} (x y : Operand) (t2 : TypeId) (ho : op.op = .binOp .eql 37 x y t2) (p q : Av) (r : Bool) (hr : decide (p = q) = r) (hx : a.eval x = avV p) (hy : a.eval y = avV q) (w : World) : (execOp a.eval op).run Tryd.prog w = .ok (.value (.bool r)) w := by
  have h : (binOp .eql 37 (avV p) (avV q)).run Tryd.prog w = .ok (.bool (decide (p = q))) w := by
    have := eqIn_av p q w
    unfold avV at this ⊢
    rw [run_eql_struct, this]
    rfl
  have hg : (eqGuard .eql 37 x y (avV p) (avV q)).run Tryd.prog w = .ok () w := by kernel_rfl
  unfold execOp
  simp only [ho, hx, hy, Sem.run_bind, hg, h, Result.andThen_ok, hr, Sem.run_pure]
theorem exec_neAv {op : Oper} {a : Act} (x y : Operand) (t2 : TypeId) (ho : op.op = .binOp .neq 37 x y t2) (p q : Av) (r : Bool) (hr : (!decide (p = q)) = r) (hx : a.eval x = avV p) (hy : a.eval y = avV q) (w : World) : (execOp a.eval op).run Tryd.prog w = .ok (.value (.bool r)) w := by
  have h : (binOp .neq 37 (avV p) (avV q)).run Tryd.prog w = .ok (.bool (!decide (p = q))) w := by
    have := eqIn_av p q w
    unfold avV at this ⊢
    rw [run_neq_struct, this]
    rfl
  have hg : (eqGuard .neq 37 x y (avV p) (avV q)).run Tryd.prog w = .ok () w := by kernel_rfl
  unfold execOp
  simp only [ho, hx, hy, Sem.run_bind, hg, h, Result.andThen_ok, hr, Sem.run_pure]
theorem take_snoc {α : Type} {r s : List α} {i : Nat} {x y : α} (hx : r[i]? = some x) (hy : s[i]? = some y) (h : r.take i = s.take i) : r.take (i + 1) = s.take (i + 1) ↔ x = y := by
  rw [List.take_add_one, List.take_add_one, hx, hy, h]
  simp
theorem neq_at {α : Type} {r s : List α} {i : Nat} {x y : α} (hx : r[i]? = some x) (hy : s[i]? = some y) (h : x ≠ y) : r ≠ s := by
  intro e
  subst e
  rw [hx] at hy
  exact h (Option.some.inj hy)
set_option maxHeartbeats 8000000 in
theorem equal_any (E E2 : Nat → Prop) (v v2 : Value) (r s : Rd) (w : World) (h : RdIn E w v r) (h2 : RdIn E2 w v2 s) : Calls Tryd.prog 15 #[v, v2] w fun e w' => e = .returned (.bool (decide (r = s))) ∧ Fr No w w' := by
  obtain ⟨a, cp, rfl, -, hl0⟩ := h.form
  obtain ⟨a2, cp2, rfl, -, hl2⟩ := h2.form
  have HX := hid h; have HY := hid h2
  obtain ⟨n, hn⟩ : ∃ n, r.length = n := ⟨_, rfl⟩
  obtain ⟨m, hm⟩ : ∃ m, s.length = m := ⟨_, rfl⟩
  obtain ⟨R, hR⟩ : ∃ R, decide (r = s) = R := ⟨_, rfl⟩
  rw [hR]
  rw [hn] at HX hl0 ⊢
  rw [hm] at HY hl2 ⊢
  have HNN := hid hn; have HMM := hid hm
  by_cases hnm : n = m
  · subst hnm
    have HR := hid hR
    have hni : (n : Int) ≤ 140737488351232 := by omega
    clear h h2 hn hm hR
    go_enter Tryd.func15, Tryd.ntmps15
    go_wp2_with fail
    go_loopw [13] (fun iv wr => ∃ (i : Nat), iv = .int .i64 i ∧ i ≤ n ∧ Hid (Fr No w wr) ∧ Hid (r.take i = s.take i)) (fun iv _ => n - (intOf iv).toNat)
    case atStart => exact ⟨0, rfl, Nat.zero_le _, hid (Fr.refl _ _), hid rfl⟩
    case round =>
      obtain ⟨i, rfl, hi, HF, HT⟩ := hrel
      by_cases hlt : i < n
      · obtain ⟨x, hx⟩ : ∃ x, r[i]? = some x := ⟨_, List.getElem?_eq_getElem (by rw [HNN.out]; exact hlt)⟩
        obtain ⟨y, hy⟩ : ∃ y, s[i]? = some y := ⟨_, List.getElem?_eq_getElem (by rw [HMM.out]; exact hlt)⟩
        have hlti : (i : Int) < n := by omega
        have hi0 : (0 : Int) ≤ i := by omega
        obtain ⟨g, o, cq, c, e1, -, hgw, hrr, hc, hxa⟩ := (RdIn.no HX.out HF.out).get hx
        rw [HNN.out] at e1
        simp only [Value.slice.injEq, true_and] at e1
        obtain ⟨rfl, rfl⟩ := e1
        obtain ⟨rfl, -, -⟩ := hxa
        obtain ⟨g2, o2, cq2, c2, e2, -, hgw2, hrr2, hc2, hya⟩ := (RdIn.no HY.out HF.out).get hy
        rw [HMM.out] at e2
        simp only [Value.slice.injEq, true_and] at e2
        obtain ⟨rfl, rfl⟩ := e2
        obtain ⟨rfl, -, -⟩ := hya
        have HTS := hid (take_snoc hx hy HT.out)
        have HNA := hid (fun hne : x ≠ y => neq_at hx hy hne)
        have HLT := hid hlt
        clear hc hgw hc2 hgw2 hx hy hlt hi
        go_wp2_with fail
        have hold : Facts.hold [(3, fun w' => w'.rangeAt g (o + i * 2) [.string (sb x.1), .string (sb x.2)]), (7, fun w' => w'.rangeAt g2 (o2 + i * 2) [.string (sb y.1), .string (sb y.2)])] wr.drew := Facts.cons_hold hrr (Facts.cons_hold hrr2 (Facts.nil_hold _))
        refine wpD_region hold (by kernel_rfl) 9 rfl ?_
        (refine K.pl 0 (v := ?_) rfl ?_ ?_; rotate_left; (intro _w; go_simp; try with_reducible rfl); simp only [Act.put, K.put3])
        (refine K.pl 1 (v := ?_) rfl ?_ ?_; rotate_left; (intro _w; go_simp; try with_reducible rfl); simp only [Act.put, K.put3])
        (refine K.pl 2 (v := (.pointer (some ⟨g, o + i * 2, none⟩))) rfl ?_ ?_; (intro _w; go_simp; skip); simp only [Act.put, K.put3])
        (refine K.tk 3 _ rfl K.m0 (exec_load _ _ rfl g (o + i * 2) rfl _ _ rfl rfl infoAv) ?_; simp only [Act.put, K.put3])
        (refine K.pl 4 (v := ?_) rfl ?_ ?_; rotate_left; (intro _w; go_simp; try with_reducible rfl); simp only [Act.put, K.put3])
        (refine K.pl 5 (v := ?_) rfl ?_ ?_; rotate_left; (intro _w; go_simp; try with_reducible rfl); simp only [Act.put, K.put3])
        (refine K.pl 6 (v := (.pointer (some ⟨g2, o2 + i * 2, none⟩))) rfl ?_ ?_; (intro _w; go_simp; skip); simp only [Act.put, K.put3])
        (refine K.tk 7 _ rfl K.m1 (exec_load _ _ rfl g2 (o2 + i * 2) rfl _ _ rfl rfl infoAv) ?_; simp only [Act.put, K.put3])
        by_cases hxy : x = y
        · (refine K.pl 8 (v := (.bool false)) rfl ?_ ?_; (intro _w; exact exec_neAv _ _ _ rfl x y _ (by rw [decide_eq_true hxy]; rfl) rfl rfl _w); simp only [Act.put, K.put3])
          have HT2 := hid (HTS.out.2 hxy)
          clear hold hrr hrr2 hxy
          refine wpD_done (by kernel_rfl) ?_ _
          go_wp2_with fail
          refine ⟨⟨i + 1, by go_num, HLT.out, hid (HF.out.drew), HT2⟩, ?_⟩
          have := HLT.out
          simp [intOf]; omega
        · (refine K.pl 8 (v := (.bool true)) rfl ?_ ?_; (intro _w; exact exec_neAv _ _ _ rfl x y _ (by rw [decide_eq_false hxy]; rfl) rfl rfl _w); simp only [Act.put, K.put3])
          have hRf : R = false := by rw [← HR.out]; exact decide_eq_false (HNA.out hxy)
          subst hRf
          clear hold hrr hrr2 hxy
          refine wpD_done (by kernel_rfl) ?_ _
          go_wp2_with fail
          go_ret
          exact ⟨rfl, HF.out.drew⟩
      · obtain rfl : i = n := by omega
        have hRt : R = true := by
          rw [← HR.out]
          have h := HT.out
          rw [← HNN.out, List.take_length, HNN.out, ← HMM.out, List.take_length] at h
          exact decide_eq_true h
        subst hRt
        go_wp2_with fail
        go_ret
        exact ⟨rfl, HF.out⟩
  · have hRf : R = false := by rw [← hR]; exact decide_eq_false (fun e => hnm (by rw [← hn, ← hm, e]))
    subst hRf
    have h1 : ¬ (n : Int) = m := by omega
    clear h h2 hn hm hR
    go_enter Tryd.func15, Tryd.ntmps15
    go_wp2
    go_ret
    exact ⟨rfl, Fr.refl _ _⟩
set_option maxHeartbeats 8000000 in
theorem equalFunc_any (E E2 : Nat → Prop) (v v2 : Value) (r s : Nm) (w : World) (h : NmIn E w v r) (h2 : NmIn E2 w v2 s) : Calls Tryd.prog 14 #[v, v2, .func (.func 15) #[] #[]] w fun e w' => e = .returned (.bool (decide (r = s))) ∧ Fr No w w' := by
  obtain ⟨a, cp, rfl, -, hl0⟩ := h.form
  obtain ⟨a2, cp2, rfl, -, hl2⟩ := h2.form
  have HX := hid h; have HY := hid h2
  obtain ⟨n, hn⟩ : ∃ n, r.length = n := ⟨_, rfl⟩
  obtain ⟨m, hm⟩ : ∃ m, s.length = m := ⟨_, rfl⟩
  obtain ⟨R, hR⟩ : ∃ R, decide (r = s) = R := ⟨_, rfl⟩
  rw [hR]
  rw [hn] at HX hl0 ⊢
  rw [hm] at HY hl2 ⊢
  have HNN := hid hn; have HMM := hid hm
  by_cases hnm : n = m
  · subst hnm
    have HR := hid hR
    have hni : (n : Int) ≤ 140737488351232 := by omega
    clear h h2 hn hm hR
    go_enter Tryd.func14, Tryd.ntmps14
    go_wp2_with fail
    go_loopw [17] (fun iv wr => ∃ (i : Nat), iv = .int .i64 i ∧ i ≤ n ∧ Hid (Fr No w wr) ∧ Hid (r.take i = s.take i)) (fun iv _ => n - (intOf iv).toNat)
    case atStart => exact ⟨0, rfl, Nat.zero_le _, hid (Fr.refl _ _), hid rfl⟩
    case round =>
      obtain ⟨i, rfl, hi, HF, HT⟩ := hrel
      by_cases hlt : i < n
      · obtain ⟨x, hx⟩ : ∃ x, r[i]? = some x := ⟨_, List.getElem?_eq_getElem (by rw [HNN.out]; exact hlt)⟩
        obtain ⟨y, hy⟩ : ∃ y, s[i]? = some y := ⟨_, List.getElem?_eq_getElem (by rw [HMM.out]; exact hlt)⟩
        have hlti : (i : Int) < n := by omega
        have hi0 : (0 : Int) ≤ i := by omega
        obtain ⟨g, o, cq, c, e1, -, hgw, hrr, hc, hxa⟩ := (NmIn.no HX.out HF.out).get hx
        rw [HNN.out] at e1
        simp only [Value.slice.injEq, true_and] at e1
        obtain ⟨rfl, rfl⟩ := e1
        obtain ⟨vx, rfl, hvx⟩ := hxa
        have hcell : wr.cell? ⟨g, o + i, none⟩ = some vx := by have := hrr 0 vx rfl; simpa using this
        obtain ⟨g2, o2, cq2, c2, e2, -, hgw2, hrr2, hc2, hya⟩ := (NmIn.no HY.out HF.out).get hy
        rw [HMM.out] at e2
        simp only [Value.slice.injEq, true_and] at e2
        obtain ⟨rfl, rfl⟩ := e2
        obtain ⟨vy, rfl, hvy⟩ := hya
        have hcell2 : wr.cell? ⟨g2, o2 + i, none⟩ = some vy := by have := hrr2 0 vy rfl; simpa using this
        have HEQ := hid (equal_any E E2 vx vy x y wr hvx hvy)
        obtain ⟨xa, xc, rfl, -, -⟩ := Sl.form hvx
        obtain ⟨ya, yc, rfl, -, -⟩ := Sl.form hvy
        have HTS := hid (take_snoc hx hy HT.out)
        have HNA := hid (fun hne : x ≠ y => neq_at hx hy hne)
        have HLT := hid hlt
        clear hc hgw hc2 hgw2 hx hy hlt hi hrr hrr2 hvx hvy
        go_wp2_with fail
        refine HEQ.out.mono ?_
        rintro e w3 ⟨rfl, f3⟩
        have HF3 := hid (HF.out.trans' f3)
        clear f3
        by_cases hxy : x = y
        · rw [decide_eq_true hxy]
          have HT2 := hid (HTS.out.2 hxy)
          clear hxy
          go_wp2_with fail
          refine ⟨⟨i + 1, by go_num, HLT.out, HF3, HT2⟩, ?_⟩
          have := HLT.out
          simp [intOf]; omega
        · have hRf : R = false := by rw [← HR.out]; exact decide_eq_false (HNA.out hxy)
          subst hRf
          rw [decide_eq_false hxy]
          clear hxy
          go_wp2_with fail
          go_ret
          exact ⟨rfl, HF3.out⟩
      · obtain rfl : i = n := by omega
        have hRt : R = true := by
          rw [← HR.out]
          have h := HT.out
          rw [← HNN.out, List.take_length, HNN.out, ← HMM.out, List.take_length] at h
          exact decide_eq_true h
        subst hRt
        go_wp2_with fail
        go_ret
        exact ⟨rfl, HF.out⟩
  · have hRf : R = false := by rw [← hR]; exact decide_eq_false (fun e => hnm (by rw [← hn, ← hm, e]))
    subst hRf
    have h1 : ¬ (n : Int) = m := by omega
    clear h h2 hn hm hR
    go_enter Tryd.func14, Tryd.ntmps14
    go_wp2
    go_ret
    exact ⟨rfl, Fr.refl _ _⟩
theorem same_any (E E2 : Nat → Prop) (v v2 : Value) (r s : Nm) (w : World) (h : NmIn E w v r) (h2 : NmIn E2 w v2 s) (hb : NmB 1048576 r) (hb2 : NmB 1048576 s) (hs : Short r) (hs2 : Short s) :
    Calls Tryd.prog 6 #[v, v2] w fun e w' => e = .returned (.bool (decide (norm r = norm s))) ∧ Fr No w w' := by
  have H1 := hid (norm_any E v r w h hb hs)
  have H2 := hid (fun w' (hf : Fr No w w') => norm_any E2 v2 s w' (h2.no hf) hb2 hs2)
  obtain ⟨a, cp, rfl, -, -⟩ := h.form
  obtain ⟨a2, cp2, rfl, -, -⟩ := h2.form
  clear h h2 hb hb2 hs hs2
  go_enter Tryd.func6, Tryd.ntmps6
  go_wp2_with fail
  refine H1.out.mono ?_
  rintro e w1 ⟨u1, rfl, hu1, f1⟩
  have HU1 := hid hu1; have HF1 := hid f1
  obtain ⟨b1, d1, rfl, -, -⟩ := hu1.form
  clear hu1 f1
  go_wp2_with fail
  refine (H2.out w1 HF1.out).mono ?_
  rintro e w2 ⟨u2, rfl, hu2, f2⟩
  have HU2 := hid hu2; have HF2 := hid (HF1.out.trans' f2)
  have HU12 := hid (HU1.out.no f2)
  obtain ⟨b2, d2, rfl, -, -⟩ := hu2.form
  clear hu2 f2
  go_wp2_with fail
  refine (equalFunc_any _ _ _ _ _ _ w2 HU12.out HU2.out).mono ?_
  rintro e w3 ⟨rfl, f3⟩
  have HF3 := hid (HF2.out.trans' f3)
  clear f3
  go_wp2_with fail
  go_ret
  exact ⟨rfl, HF3.out⟩
theorem under_any (E E2 : Nat → Prop) (v v2 : Value) (r s : Nm) (w : World) (h : NmIn E w v r) (h2 : NmIn E2 w v2 s) (hb : NmB 1048576 r) (hb2 : NmB 1048576 s) (hs : Short r) (hs2 : Short s) :
    Calls Tryd.prog 7 #[v, v2] w fun e w' => e = .returned (.bool (under r s)) ∧ Fr No w w' := by
  obtain ⟨a, cp, rfl, hc, hl0⟩ := h.form
  obtain ⟨a2, cp2, rfl, -, hl2⟩ := h2.form
  obtain ⟨n, hn⟩ : ∃ n, r.length = n := ⟨_, rfl⟩
  obtain ⟨m, hm⟩ : ∃ m, s.length = m := ⟨_, rfl⟩
  have hu : under r s = (decide (m ≤ n) && decide (norm (r.drop (n - m)) = norm s)) := by unfold under; rw [hn, hm]
  rw [hu]
  rw [hn] at h hl0 hc ⊢
  rw [hm] at h2 hl2 ⊢
  have hni : (n : Int) ≤ 140737488351232 := by omega
  have hmi : (m : Int) ≤ 140737488351232 := by omega
  have hci : (n : Int) ≤ cp := by omega
  by_cases hmn : m ≤ n
  · rw [decide_eq_true hmn, Bool.true_and]
    have hbd : NmB 1048576 (r.drop (n - m)) := ⟨by have := hb.1; rw [List.length_drop]; omega, fun q hq => hb.2 q (List.mem_of_mem_drop hq)⟩
    have hsd : Short (r.drop (n - m)) := fun q hq => hs q (List.mem_of_mem_drop hq)
    have h0 : (0 : Int) ≤ (n : Int) - m := by omega
    have h01 : (n : Int) - m ≤ n := by omega
    by_cases hr0 : r = []
    · subst hr0
      obtain rfl : 0 = n := hn
      obtain rfl : m = 0 := by omega
      have HS := hid (fun b => same_any E E2 (.slice b 0 cp) _ [] s w (nm_nil _ _ _ _) h2 hb hb2 hs hs2)
      clear h h2 hb hb2 hs hs2 hm hu hbd hsd
      go_enter Tryd.func7, Tryd.ntmps7
      go_wp2_with fail
      refine (HS.out _).mono ?_
      rintro e w3 ⟨rfl, f3⟩
      have HF3 := hid f3
      clear f3
      go_wp2_with fail
      go_ret
      exact ⟨rfl, HF3.out⟩
    · obtain ⟨g, o, rfl⟩ : ∃ g o, a = some ⟨g, o, none⟩ := by
        obtain ⟨a', c', e1, -, -, h4⟩ := h
        simp only [Value.slice.injEq] at e1
        obtain ⟨rfl, -, -⟩ := e1
        obtain ⟨g, o, L, e, -⟩ := h4.resolve_left hr0
        exact ⟨g, o, e⟩
      have hd := Sl.drop h (n - m) (by omega)
      rw [Nat.mul_one] at hd
      obtain ⟨k, hk⟩ : ∃ k, n - m = k := ⟨_, rfl⟩
      rw [hk] at hd hbd hsd ⊢
      have hki : (n : Int) - m = (k : Int) := by omega
      have hkn : (k : Int) ≤ n := by omega
      have hk0 : (0 : Int) ≤ k := by omega
      have HS := hid (same_any E E2 _ _ (r.drop k) s w hd h2 hbd hb2 hsd hs2)
      have hkc : (k : Int) ≤ cp := by omega
      have hkN : k ≤ n := by omega
      have hkC : k ≤ cp := by omega
      have hdk : cp = k → r.drop k = [] := fun e => List.drop_of_length_le (by omega)
      have HS0 : Hid (cp = k → Calls Tryd.prog 6 #[.slice (some ⟨g, o, none⟩) 0 0, .slice a2 m cp2] w fun e w' => e = .returned (.bool (decide (norm (r.drop k) = norm s))) ∧ Fr No w w') := hid (fun e => by
        have h1 := same_any E E2 (.slice (some ⟨g, o, none⟩) 0 0) _ (r.drop k) s w (by rw [hdk e]; exact nm_nil _ _ _ _) h2 hbd hb2 hsd hs2
        exact h1)
      clear h h2 hb hb2 hs hs2 hn hm hu hbd hsd hd hk hr0 hmn h0 h01 hdk
      by_cases hck : cp = k
      · subst hck
        have HS1 := hid (HS0.out rfl)
        clear HS0 HS hkc hkC
        go_enter Tryd.func7, Tryd.ntmps7
        go_wp2_with fail
        refine HS1.out.mono ?_
        rintro e w3 ⟨rfl, f3⟩
        have HF3 := hid f3
        clear f3
        go_wp2_with fail
        go_ret
        exact ⟨rfl, HF3.out⟩
      · clear HS0
        go_enter Tryd.func7, Tryd.ntmps7
        go_wp2_with fail
        refine HS.out.mono ?_
        rintro e w3 ⟨rfl, f3⟩
        have HF3 := hid f3
        clear f3
        go_wp2_with fail
        go_ret
        exact ⟨rfl, HF3.out⟩
  · rw [decide_eq_false hmn, Bool.false_and]
    have h1 : ¬ (0 : Int) ≤ (n : Int) - m := by omega
    clear h h2 hb hb2 hs hs2 hn hm hu hmn
    go_enter Tryd.func7, Tryd.ntmps7
    go_wp2
    go_ret
    exact ⟨rfl, Fr.refl _ _⟩
end Go.Proofs.YtnjemnmhkhkpeaaDoor.DN
namespace Go.Proofs.YtnjemnmhkhkpeaaDoor.K
set_option maxRecDepth 100000
open Go.RowKit
section
variable {P : Program} {n l : Nat} {ops : Array Oper} {Q : Exit → Act → World → Prop} {a : Act} {w : World}
theorem rowsIn_wide {row : String} {args : Array Value} {R : Value → World → Prop} (h : Rows P row args w R) : RowsIn Fence.wide n P row args w R :=
  fun c cs _ => let ⟨v, w', r, s⟩ := h c cs; ⟨v, w', r, stepsIn_wide.2 s⟩
/-- An operation that is no 'defer', in a round. -/
theorem wpIn_of_wp {o : Oper} {next : Act → World → Prop} (hd : ∀ c, o.op ≠ .defer c) (h : o.wp P a w next Q) : o.wpIn (Fence.wide.inRound l) n P a w next Q := by
  refine ⟨fun _ _ => trivial, ?_⟩
  rw [show o.semAt (Fence.wide.inRound l).round a.eval = execOp a.eval o from Oper.semAt_some l _ _ hd]
  unfold Oper.wp at h
  generalize hg : (execOp a.eval o).run P w = r at h ⊢
  cases r with
  | ok x w' =>
    cases x with
    | value v => exact h
    | skip => exact h
    | defer d => exact h
    | enter f args => exact ⟨fun e => (by cases e), callsIn_wide.2 h⟩
    | row r args => exact ⟨fun e => (by cases e), rowsIn_wide h⟩
    | _ => exact h.elim
  | halt x w' =>
    cases x with
    | panic v => exact h
    | _ => exact h.elim
def noDefer (l : List Oper) : Bool := l.all fun o => match o.op with | .defer _ => false | _ => true
theorem noDefer_spec {l : List Oper} (h : noDefer l = true) {o : Oper} (ho : o ∈ l) : ∀ c, o.op ≠ .defer c := by
  intro c e
  have := List.all_eq_true.1 h o ho
  rw [e] at this
  cases this
theorem wpListIn_of {ls : List Oper} (hd : noDefer ls = true) (hQ : ¬ LetsOut Q) : ∀ (r : List Oper), (∀ o ∈ r, o ∈ ls) → ∀ (a : Act) (w : World), wpList P ops Q r a w → wpListIn (Fence.wide.inRound l) n P ops Q r a w
  | [], _, _, _, h => h
  | o :: r, hs, a, w, h => by
    unfold wpList at h
    unfold wpListIn
    split
    · rename_i hw
      rw [if_pos hw] at h
      rcases h with h | h
      · exact Oper.wpIn_mono (fun a w => wpListIn_of hd hQ r (fun o ho => hs o (List.mem_cons_of_mem _ ho)) a w) (wpIn_of_wp (noDefer_spec hd (hs o List.mem_cons_self)) h)
      · exact absurd h.2 hQ
    · rename_i hw
      rw [if_neg hw] at h
      exact ⟨fun _ _ => trivial, wpListIn_of hd hQ r (fun o ho => hs o (List.mem_cons_of_mem _ ho)) _ w h⟩
/-- A plain region in a round. -/
theorem wpIn_region_plain {id : Nat} {ls : List Oper} (hd : noDefer ls = true) (hQ : ¬ LetsOut Q) (h : wpList P ls.toArray Q ls a w) : (Code.region id ls.toArray false).wpIn (Fence.wide.inRound l) n P Q a w :=
  wpIn_region_lit (wpListIn_of hd hQ ls (fun _ h => h) a w h)
theorem wpAnyIn_of {md : Region.Mode} (hd : noDefer ops.toList = true) (hQ : ¬ LetsOut Q) : ∀ (fuel : Nat) (listed : Array Bool) (a : Act) (w : World), wpAny P md ops Q fuel listed a w → wpAnyIn (Fence.wide.inRound l) n P md ops Q fuel listed a w
  | 0, _, _, _, h => h
  | fuel + 1, listed, a, w, h => by
    refine ⟨h.1, fun i hi => ?_⟩
    have h1 := h.2 i hi
    unfold wpOp at h1
    unfold wpOpIn
    cases ho : ops[i]? with
    | none => simp only [ho] at h1; exact wpAnyIn_of hd hQ fuel _ a w h1
    | some o =>
      simp only [ho] at h1 ⊢
      split
      · rename_i hw
        rw [if_pos hw] at h1
        rcases h1 with h1 | h1
        · refine Oper.wpIn_mono (fun a w => wpAnyIn_of hd hQ fuel _ a w) (wpIn_of_wp (noDefer_spec hd ?_) h1)
          exact Array.mem_toList_iff.2 (Array.mem_of_getElem? ho)
        · exact absurd h1.2 hQ
      · rename_i hw
        rw [if_neg hw] at h1
        exact ⟨fun _ _ => trivial, wpAnyIn_of hd hQ fuel _ _ w h1⟩
/-- A region that draws its order, in a round. -/
theorem wpDIn_region {id : Nat} {R : Facts} (hd : noDefer ops.toList = true) (hQ : ¬ LetsOut Q) (_hold : R.hold w.drew) (hm : P.follows .mixedOrders = true) (m : Nat) (hn : ops.size = m)
    (h : wpD P .any ops Q R m (Array.replicate m false) a w.drew) : (Code.region id ops true).wpIn (Fence.wide.inRound l) n P Q a w := by
  subst hn
  exact wpIn_region_any hm (wpAnyIn_of hd hQ _ _ _ _ (wpD_any _ _ _ _ _ h))
/-- What a round may not turn for the iterator's sake: one block. -/
def Kx (b : Nat) (A B : World) : Prop := B.heap[b]? = A.heap[b]?
/-- What a round may leave. -/
theorem keepsFrom_fr {D : Nat → Prop} {B : Nat} {W W' : World} (h : Fr D W W') (hD : ∀ k, D k → k < B) : KeepsFrom B W W' :=
  ⟨h.size, fun k o hB hk _ => (h.block k (Array.getElem?_eq_some_iff.1 hk).1 (fun e => by have := hD k e; omega)).trans hk⟩
/-- A range over a function whose rounds all go on. -/
theorem wp_range {α : Type} {g : Operand} {ps : Array Tmp} {assign body : Code} {gf : Nat} {lb : Array Value} (hg : a.eval g = .func (.func gf) #[] lb) (eg : ∀ args w, (callFunc gf args).run P w = .ok (.enter gf args) w)
    {encs : α → Array Value} {bx : Nat} (hbx : bx < w.heap.size) {S : List α → Prop} {N : Nat} (hseq : SeqStopsK Fence.wide 2 P gf lb encs (Kx bx) S (fun _ => True) N w) (hps : ∀ x, (encs x).size = ps.size)
    (I : List α → World → Prop) (hI : OwnFrom w.heap.size I) (h0 : I [] w) (a₁ : α → Act)
    (hassign : ∀ (l : Nat) (x : α) (W : World) (K : Act → World → Prop), K (a₁ x) W →
      assign.wpIn (Fence.wide.inRound l) 1 P (Exit.then K (fun _ _ _ => False)) { tmps := (ps.zip (encs x)).foldl (fun t (p, v) => t.setIfInBounds p v) a.tmps, defers := [] } W)
    (hbody : ∀ (l : Nat) (pre : List α) (x : α) (W : World), I pre W → pre.length < N → body.wpIn (Fence.wide.inRound l) 1 P (ownPostG w.heap.size (Kx bx) I (fun _ _ _ => False) (pre ++ [x]) W) (a₁ x) W)
    (hdone : ∀ (D : Nat) (xs : List α) (W : World), w.heap.size ≤ D → S xs → I xs W → W.heap[D]? = some (.deferred (some [])) → Q .normal { a with defers := { target := .collected D, args := #[] } :: a.defers } W) :
    (Code.rangeFunc g ps assign body).wp P Q a w := by
  refine (wpIn_wide (n := 3)).1 (wpIn_rangeFunc_ownG (F := Fence.wide) (n := 3) rfl (by decide) hg trivial eg hseq (fun h k => ?_) (fun W l o o' hl _ _ _ => ?_) (Below.refl _ _) hps I (fun _ _ _ => False) hI (fun _ _ _ _ _ h => h.elim) h0 a₁ hassign hbody hdone (fun _ _ _ _ _ _ h => h.elim))
  · exact k.trans h
  · exact World.putObj_heap_other (fun e => by omega)
/-- The same with one variable, which is assigned plainly. -/
theorem wp_range1 {α : Type} {g : Operand} {p d id : Nat} {ty : TypeId} {ps : String} {body : Code} {gf : Nat} {lb : Array Value} (hg : a.eval g = .func (.func gf) #[] lb) (eg : ∀ args w, (callFunc gf args).run P w = .ok (.enter gf args) w)
    (enc : α → Value) {bx : Nat} (hbx : bx < w.heap.size) {S : List α → Prop} {N : Nat} (hseq : SeqStopsK Fence.wide 2 P gf lb (fun x => #[enc x]) (Kx bx) S (fun _ => True) N w) (hp : p < a.tmps.size)
    (I : List α → World → Prop) (hI : OwnFrom w.heap.size I) (h0 : I [] w)
    (hbody : ∀ (l : Nat) (pre : List α) (x : α) (W : World), I pre W → pre.length < N → body.wpIn (Fence.wide.inRound l) 1 P (ownPostG w.heap.size (Kx bx) I (fun _ _ _ => False) (pre ++ [x]) W) { tmps := (a.tmps.setIfInBounds p (enc x)).setIfInBounds d (enc x), defers := [] } W)
    (hdone : ∀ (D : Nat) (xs : List α) (W : World), w.heap.size ≤ D → S xs → I xs W → W.heap[D]? = some (.deferred (some [])) → Q .normal { a with defers := { target := .collected D, args := #[] } :: a.defers } W) :
    (Code.rangeFunc g #[p] (Code.region id #[{ dst := some d, op := .assign (.tmp p), type := ty, pos := ps, after := #[], guard := none }] false) body).wp P Q a w := by
  refine wp_range hg eg hbx hseq (fun _ => rfl) I hI h0 (fun x => { tmps := (a.tmps.setIfInBounds p (enc x)).setIfInBounds d (enc x), defers := [] }) (fun l x W K hK => ?_) hbody hdone
  refine wpIn_region_plain (ls := [{ dst := some d, op := .assign (.tmp p), type := ty, pos := ps, after := #[], guard := none }]) rfl (fun ⟨_, _, h⟩ => h) ?_
  refine wpList_plain rfl fun K' hK' => ?_
  unfold Oper.wp execOp
  have he : (({ tmps := (Array.zip #[p] #[enc x]).foldl (fun t (p, v) => t.setIfInBounds p v) a.tmps, defers := [] } : Act).eval (.tmp p)) = enc x := by
    simp [Act.eval, hp]
  simp only [he, Sem.run_pure]
  refine hK' _ _ (wpList_nil ?_)
  simpa [Act.put, Exit.then] using hK
theorem noOut_ownPostG {α : Type} {B : Nat} {Kp : World → World → Prop} {I : List α → World → Prop} {Ix : Code → List α → World → Prop} {xs : List α} {W : World} : ¬ LetsOut (ownPostG B Kp I Ix xs W) := fun ⟨_, _, h⟩ => h
/-- What the book-keeping of a loop leaves. -/
theorem fr_row {D : Nat → Prop} {w0 A B : World} {row : Option Nat} (h : Fr D w0 A) (hg : A.grownBy B row) (hr : ∀ r, row = some r → w0.heap.size ≤ r) : Fr D w0 B :=
  h.trans (D' := fun k => row = some k) ⟨hg.os, hg.tape, hg.output, hg.size, fun k hk hn => hg.block k hk (fun e => hn e.symm)⟩ fun k e => .inr (hr k e)
/-- The function with such a loop. -/
theorem calls_marks {f : FuncId} {fn : Func} {c : Code} {args : Array Value} {R : Ending → World → Prop} (hf : P.funcs[f]? = some fn) (hb : fn.body = some c)
    (h : c.wp P (bodyPostM Fence.wide 3 P fn R) { tmps := args ++ Array.replicate (fn.ntmps - args.size) undef, defers := [] } w) : Calls P f args w R :=
  (callsIn_wide (n := 3)).1 (callsIn_of_wp_marks hf hb trivial ((wpIn_wide (n := 3)).2 h))
theorem fr_put (D : Nat) (o : Obj) : Fr (fun k => k = D) w (w.putObj D o) := ⟨rfl, rfl, rfl, by simp, fun k _ hn => World.putObj_heap_other (fun e => hn e)⟩
theorem marks_ret {fn : Func} {R : Ending → World → Prop} {D p : Nat} {ty : TypeId} {b : Nat} {t : TypeId} {cs : List Value} (hd : a.defers = [{ target := .collected D, args := #[] }]) (hK : w.heap[D]? = some (.deferred (some []))) (hr : fn.results = #[.cell p ty])
    (d : TypeDesc) (hp : a.tmps.getD p undef = .pointer (some ⟨b, 0, none⟩)) (hB : Blk w b t cs) (hu : P.underlying ty = some d) (hdd : (match d with | .struct _ | .array _ _ => true | _ => false) = true) (hi : (P.info? ty).map (·.size) = some cs.length)
    (h : ∀ w', Fr (fun k => k = D) w w' → R (.returned (.agg cs.toArray)) w') : bodyPostM Fence.wide 3 P fn R .ret a w := by
  show LeavesInM Fence.wide 3 P fn a.tmps R a.defers .returning w
  rw [hd]
  refine ⟨by simp, .inl ⟨D, _, rfl, run_takeDeferred hK, ?_⟩⟩
  have hf := fr_put (w := w) D (.deferred none)
  have hne : ¬ b = D := fun e => by
    subst e
    unfold Blk at hB
    rw [hB] at hK
    cases hK
  exact ⟨_, results_cell_row hr _ _ b t cs.toArray (0, 0) d hp (hB.fr hf hne) hu hdd (by simpa using hi), h _ hf⟩
theorem marks_none {fn : Func} {R : Ending → World → Prop} {D : Nat} (hd : a.defers = [{ target := .collected D, args := #[] }]) (hK : w.heap[D]? = some (.deferred (some []))) (hr : fn.results = #[])
    (h : ∀ w', Fr (fun k => k = D) w w' → R (.returned (.tuple #[])) w') : bodyPostM Fence.wide 3 P fn R .normal a w := by
  show LeavesInM Fence.wide 3 P fn a.tmps R a.defers .returning w
  rw [hd]
  refine ⟨by simp, .inl ⟨D, _, rfl, run_takeDeferred hK, ?_⟩⟩
  exact ⟨_, results_none hr _ _ _, h _ (fr_put D (.deferred none))⟩
/-- One value is stored into a block that is known. -/
theorem wpL_storeU {rest : List Oper} {op : Oper} (hgd : op.guard = none) (ty : TypeId) (x y : Operand) (ho : op.op = .store ty x y) (b o : Nat) (v : Value) (vs : List Value) (hx : a.eval x = .pointer (some ⟨b, o, none⟩)) (hy : a.eval y = v) (hvs : v.cells = vs.toArray)
    (t : TypeId) (cs : List Value) (hB : Blk w b t cs) (hle : o + vs.length ≤ cs.length) (hi : (P.info? ty).map (·.size) = some vs.length) (h1 : ∀ u ∈ vs, u.oneCell' = true)
    (h : ∀ w', Hid (Blk w' b t (spl cs o vs)) → Hid (Fr (fun k => k = b) w w') → Hid (w'.heap.size = w.heap.size) → wpList P ops Q rest (a.put op.dst undef) w') : wpList P ops Q (op :: rest) a w := by
  refine wpList_plain hgd fun K hK => ?_
  have hth := hB.there o vs.length hle
  have hrun := run_storeCells_cells (P := P) b o vs 0 w (fun j hj => by simpa using (hth j hj).1) (fun j hj => by simpa using (hth j hj).2) h1
  have hst : (storeVar ty ⟨b, o, none⟩ v).run P w = .ok () (w.setCells b o vs) := by
    cases hq : P.info? ty with
    | none => simp [hq] at hi
    | some i =>
      have hi' : i.size = vs.length := by simpa [hq] using hi
      simp only [Nat.add_zero] at hrun
      simp [storeVar, sizeOf, typeInfo, hq, hi', hvs, hrun]
  unfold Oper.wp execOp
  simp only [ho, hx, hy, Instr.storeAt, Instr.sureAddr, Sem.run_bind, Sem.run_pure, Result.andThen_ok, hst]
  exact hK _ _ (h _ (hid (by simpa using hB.sets vs o hle)) (hid (by simpa using (Fr.refl (fun k => k = b) w).setCells b o vs (.inl rfl))) (hid (by simp)))
end
end Go.Proofs.YtnjemnmhkhkpeaaDoor.K
