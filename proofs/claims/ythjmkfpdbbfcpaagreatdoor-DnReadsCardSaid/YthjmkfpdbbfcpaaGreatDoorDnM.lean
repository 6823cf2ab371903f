/-
  The program's stable sort of a short row, and folded steps and names.
-/
import Derived.Test.YthjmkfpdbbfcpaaGreatDoorDnN
import Derived.Test.YthjmkfpdbbfcpaaGreatDoorDnL
import Derived.Test.YthjmkfpdbbfcpaaGreatDoorDnRd
set_option linter.unusedVariables false
set_option linter.unusedSimpArgs false
namespace Go.Proofs.YthjmkfpdbbfcpaaGreatDoor.DN
set_option maxRecDepth 100000
open Go.RowKit K Go.Proofs.YthjmkfpdbbfcpaaGreatDoor.BE

set_option maxHeartbeats 8000000 in
theorem stable_any (g n cap : Nat) (r : Rd) (z : List Value) (w : World) (hn : r.length = n) (hc : n ≤ cap) (hB : Blk w g 35 (avs r ++ z)) (hl : n < 20) :
    Calls Tryz.prog 64 #[.slice (some ⟨g, 0, none⟩) n cap, .int .i64 (n : Int), .func (.func 56) #[] #[]] w fun e w' => (∃ v, e = .returned v) ∧ Blk w' g 35 (avs (srt r) ++ z) ∧ Fr (fun k => k = g) w w' := by
  have H := hid (insertion_any g n cap r z w hn hc hB (by omega))
  have hni : (n : Int) < 20 := by omega
  have hn2 : ¬ (20 : Int) ≤ n := by omega
  have hn3 : ¬ (20 : Int) < n := by omega
  clear hn hc hB hl
  go_enter Tryz.func64, Tryz.ntmps64
  go_wp2_with fail
  go_loopw [7, 8] (fun b c wr => b = .int .i64 0 ∧ c = .int .i64 20 ∧ wr = w) (fun _ _ _ => 0)
  case atStart => exact ⟨rfl, rfl, rfl⟩
  case round =>
    obtain ⟨rfl, rfl, rfl⟩ := hrel
    go_wp2_with fail
    refine H.out.mono ?_
    rintro e w2 ⟨⟨v, rfl⟩, hb2, f2⟩
    have HB2 := hid hb2
    have HF2 := hid f2
    clear hb2 f2
    go_wp2_with fail
    go_loopw [6] (fun a wr => a = .int .i64 20 ∧ wr = w2) (fun _ _ => 0)
    case atStart => exact ⟨rfl, rfl⟩
    case round =>
      obtain ⟨rfl, rfl⟩ := hrel
      go_wp2_with fail
      go_end0
      exact ⟨⟨_, rfl⟩, HB2.out, HF2.out⟩
theorem sort_any (g n cap : Nat) (r : Rd) (z : List Value) (w : World) (hn : r.length = n) (hc : n ≤ cap) (hB : Blk w g 35 (avs r ++ z)) (hl : n < 20) :
    Calls Tryz.prog 55 #[.slice (some ⟨g, 0, none⟩) n cap, .func (.func 56) #[] #[]] w fun e w' => (∃ v, e = .returned v) ∧ Blk w' g 35 (avs (srt r) ++ z) ∧ Fr (fun k => k = g) w w' := by
  have H := hid (stable_any g n cap r z w hn hc hB hl)
  clear hn hc hB hl
  go_enter Tryz.func55, Tryz.ntmps55
  go_wp2_with fail
  refine H.out.mono ?_
  rintro e w2 ⟨⟨v, rfl⟩, hb2, f2⟩
  have HB2 := hid hb2
  have HF2 := hid f2
  clear hb2 f2
  go_wp2_with fail
  go_end0
  exact ⟨⟨_, rfl⟩, HB2.out, HF2.out⟩
/-- A row of the call's own is a whole block. -/
theorem OwR.blk {e : TypeId} {k : Nat} {w0 w : World} {v : Value} {n : Nat} {cs : List Value} (h : OwR e k w0 w v n cs) (hn : 0 < n) : ∃ g cap z, v = .slice (some ⟨g, 0, none⟩) n cap ∧ n ≤ cap ∧ w0.heap.size ≤ g ∧ Blk w g e (cs ++ z) := by
  rcases h.2.1.2 with ⟨-, h0⟩ | ⟨g, cap, cur, rfl, hb, hg, h1, h2, h3, h4⟩
  · have h0 : n = 0 := h0
    omega
  · refine ⟨g, cap, cur.toList.drop (n * k), rfl, h1, hb, ?_⟩
    have e : cs ++ cur.toList.drop (n * k) = cur.toList := by rw [← h4, List.take_append_drop]
    rw [e]
    simpa [Blk] using hg
set_option maxHeartbeats 16000000 in
theorem normStep_any (E : Nat → Prop) (v : Value) (r : Rd) (w : World) (h : RdIn E w v r) (hb : RdB 1048576 r) (h1 : 1 ≤ r.length) (h20 : r.length < 20) :
    Calls Tryz.prog 44 #[v] w fun e w' => ∃ v', e = .returned v' ∧ RdIn (fun k => w.heap.size ≤ k) w' v' (normR r) ∧ Fr No w w' := by
  obtain ⟨a, cp, rfl, -, -⟩ := h.form
  have HX := hid h
  have HB := hid hb
  obtain ⟨n, hn⟩ : ∃ n, r.length = n := ⟨_, rfl⟩
  rw [hn] at HX h1 h20 ⊢
  have HNN := hid hn
  have hni : (n : Int) < 20 := by omega
  have H1 := hid h1; have H20 := hid h20
  clear h hb hn h1 h20
  go_enter Tryz.func44, Tryz.ntmps44
  go_wp2_with fail
  go_loopw [3, 8] (fun sv iv wr => ∃ (i : Nat), iv = .int .i64 i ∧ i ≤ n ∧ Hid (OwR 35 2 w wr sv i (avs ((r.take i).map foldA)))) (fun _ iv _ => n - (intOf iv).toNat)
  case atStart => exact ⟨0, rfl, Nat.zero_le _, hid (owR_nil (Fr.refl _ _))⟩
  case round =>
    obtain ⟨i, rfl, hi, HO⟩ := hrel
    obtain ⟨va, vc, rfl⟩ := HO.out.1
    by_cases hlt : i < n
    · obtain ⟨x, hx⟩ : ∃ x, r[i]? = some x := ⟨_, List.getElem?_eq_getElem (by rw [HNN.out]; exact hlt)⟩
      have hlti : (i : Int) < n := by omega
      have hi0 : (0 : Int) ≤ i := by omega
      obtain ⟨g, o, cq, c, e1, -, hgw, hrr, hc, hxa⟩ := (RdIn.no HX.out HO.out.fr).get hx
      rw [HNN.out] at e1
      simp only [Value.slice.injEq, true_and] at e1
      obtain ⟨rfl, rfl⟩ := e1
      obtain ⟨rfl, hs1, hs2⟩ := hxa
      have HRR := hid hrr
      have HXB : Hid (AvB 1048576 x) := hid (HB.out.2 x (List.mem_of_getElem? hx))
      have HNX : Hid (avs ((r.take (i + 1)).map foldA) = avs ((r.take i).map foldA) ++ [.string (sb (low x.1)), .string (sb (fold x.2))]) := hid (by
        rw [List.take_add_one, hx, List.map_append, avs_app]
        simp [avs, foldA])
      have HLT := hid hlt
      clear hc hgw hrr hs1 hs2 hx hlt
      go_wp2_with (first
        | ((with_reducible refine K.atO (.load 35 _) ?_); refine wpL_load rfl _ _ rfl g (o + i * 2) rfl [.string (sb x.1), .string (sb x.2)] _ HRR.out rfl rfl infoAv ?_)
        | ((with_reducible refine K.atO (.alloc 35) ?_); refine wpList_plain rfl fun K1 hK1 => ?_; refine wp_alloc 35 rfl (.agg #[.string ⟨#[]⟩, .string ⟨#[]⟩]) zeroAv [.string ⟨#[]⟩, .string ⟨#[]⟩] rfl ?_; intro w2 HB2 HF2 HS2; refine hK1 _ _ ?_; clear hK1 K1)
        | ((with_reducible refine K.atO (.store 35 _ _) ?_); refine wpL_store rfl _ _ _ rfl wr.heap.size 0 [.string (sb x.1), .string (sb x.2)] rfl rfl 35 _ HB2.out (by simp) infoAv (by simp [Value.oneCell']) ?_; intro w3 HB3 HF3 HS3)
        | fail)
      obtain ⟨b, hbb⟩ : ∃ b, wr.heap.size = b := ⟨_, rfl⟩
      have HF33 : Hid (Fr No wr w3) := hid (HF2.out.trans HF3.out fun k e => .inr (by have e : k = wr.heap.size := e; omega))
      have HO3 := hid (HO.out.no HF33.out)
      rw [hbb] at HB3 ⊢
      have hB3 : Blk w3 b 35 [.string (sb x.1), .string (sb x.2)] := by simpa [spl] using HB3.out
      have c0 : w3.cell? ⟨b, 0, none⟩ = some (.string (sb x.1)) := hB3.cell 0
      have c1 : w3.cell? ⟨b, 1, none⟩ = some (.string (sb x.2)) := hB3.cell 1
      clear hbb hB3
      have hold : Facts.hold [(2, fun w' => w'.cell? ⟨b, 0, none⟩ = some (.string (sb x.1))), (5, fun w' => w'.cell? ⟨b, 1, none⟩ = some (.string (sb x.2)))] w3.drew := Facts.cons_hold c0 (Facts.cons_hold c1 (Facts.nil_hold _))
      refine wpD_region hold (by kernel_rfl) 11 rfl ?_
      (refine wpD_plain 0 (v := ?_) rfl (by kernel_rfl) (by kernel_rfl) (by kernel_rfl) (fun _ _ _ h => h) (by rfl) ?_ (by assumption) ?_; rotate_left; (intro _w; go_simp; try with_reducible rfl); simp only [Act.put, K.put3])
      (refine wpD_plain 1 (v := ?_) rfl (by kernel_rfl) (by kernel_rfl) (by kernel_rfl) (fun _ _ _ h => h) (by rfl) ?_ (by assumption) ?_; rotate_left; (intro _w; go_simp; try with_reducible rfl); simp only [Act.put, K.put3])
      (refine wpD_plain 4 (v := ?_) rfl (by kernel_rfl) (by kernel_rfl) (by kernel_rfl) (fun _ _ _ h => h) (by rfl) ?_ (by assumption) ?_; rotate_left; (intro _w; go_simp; try with_reducible rfl); simp only [Act.put, K.put3])
      (refine wpD_take 2 _ rfl (by kernel_rfl) (by kernel_rfl) (by kernel_rfl) (fun _ _ _ h => h) List.mem_cons_self (by rfl) (v := ?_) ?_ (by assumption) ?_; rotate_left; (intro _w _hw; go_simp; try with_reducible rfl); simp only [Act.put, K.put3])
      (refine wpD_take 5 _ rfl (by kernel_rfl) (by kernel_rfl) (by kernel_rfl) (fun _ _ _ h => h) (List.mem_cons_of_mem _ List.mem_cons_self) (by rfl) (v := ?_) ?_ (by assumption) ?_; rotate_left; (intro _w _hw; go_simp; try with_reducible rfl); simp only [Act.put, K.put3])
      clear hold
      refine wpD_only 3 [(5, fun w' => w'.cell? ⟨b, 1, none⟩ = some (.string (sb x.2)))] rfl (by kernel_rfl) (by kernel_rfl) (by rfl) (fun K3 hK3 => ?_)
      refine wp_call _ _ _ rfl 25 [] rfl (fun vs w => by kernel_rfl) [.string (sb x.1)] (by rfl) ?_
      refine (lower_str x.1 (by have := HXB.out.1; unfold Sz; omega) w3.drew).mono ?_
      rintro e w4 ⟨rfl, f4⟩
      have hf4 : Fr No w3 w4 := (Fr.refl No w3).drew.trans' f4
      have c14 : w4.cell? ⟨b, 1, none⟩ = some (.string (sb x.2)) := hf4.cell c1 id
      have HO4 := hid (HO3.out.no hf4)
      refine ⟨_, rfl, hK3 _ _ (Facts.cons_hold c14 (Facts.nil_hold _)) ?_⟩
      clear hK3 K3 f4 hf4 c1 c0
      simp only [Act.put, K.put3]
      refine wpD_only 6 [] rfl (by kernel_rfl) (by kernel_rfl) (by rfl) (fun K6 hK6 => ?_)
      refine wp_call _ _ _ rfl 11 [] rfl (fun vs w => by kernel_rfl) [.string (sb x.2)] (by rfl) ?_
      refine (fold_any x.2 (by have := HXB.out.2; omega) w4).mono ?_
      rintro e w5 ⟨rfl, f5⟩
      have HO5 := hid (HO4.out.no f5)
      refine ⟨_, rfl, hK6 _ _ (Facts.nil_hold _) ?_⟩
      clear hK6 K6 f5 c14
      simp only [Act.put, K.put3]
      have hold : Facts.hold [] w5 := Facts.nil_hold _
      (refine wpD_plain 7 (v := (.agg #[.string (sb (low x.1)), .string (sb (fold x.2))])) rfl (by kernel_rfl) (by kernel_rfl) (by kernel_rfl) (fun _ _ _ h => h) (by rfl) ?_ (by assumption) ?_; (intro _w; go_simp; skip); simp only [Act.put, K.put3])
      clear hold
      refine wpD_only 8 [] rfl (by kernel_rfl) (by kernel_rfl) (by rfl) (fun K8 hK8 => ?_)
      obtain ⟨ib, hib, hzb, hsb, hbb⟩ := Go.info_parts infoAva
      refine wp_buildOne 31 35 _ rfl ib _ Tryz.underlying31 hib hzb (by rw [hsb]; decide) (by rw [hsb]; decide) (.agg #[.string (sb (low x.1)), .string (sb (fold x.2))]) [.string (sb (low x.1)), .string (sb (fold x.2))] rfl rfl (by rw [hsb]; rfl) ?_
      intro w6 HB6 HF6 HS6
      refine hK8 _ _ (Facts.nil_hold _) ?_
      clear hK8 K8 hib hzb hsb hbb
      simp only [Act.put, K.put3]
      have HO6 := hid (HO5.out.no HF6.out)
      refine wpD_only 9 [] rfl (by kernel_rfl) (by kernel_rfl) (by rfl) (fun K9 hK9 => ?_)
      refine wp_appR _ _ 31 35 rfl Tryz.underlying31 infoAva rfl (by decide) HO6.out rfl w5.heap.size 1 1 _ rfl rfl HB6.out (by simp [Value.oneCell']) (by omega) (by omega) ?_
      intro a7 c7 w7 HO7 HF7
      refine hK9 _ _ (Facts.nil_hold _) ?_
      clear hK9 K9
      simp only [Act.put, K.put3]
      have hold : Facts.hold [] w7 := Facts.nil_hold _
      (refine wpD_plain 10 (v := ?_) rfl (by kernel_rfl) (by kernel_rfl) (by kernel_rfl) (fun _ _ _ h => h) (by rfl) ?_ (by assumption) ?_; rotate_left; (intro _w; go_simp; try with_reducible rfl); simp only [Act.put, K.put3])
      clear hold
      refine wpD_done (by kernel_rfl) ?_ _
      go_wp2_with fail
      refine ⟨⟨i + 1, by go_num, HLT.out, hid (by rw [HNX.out]; exact HO7.out)⟩, ?_⟩
      have := HLT.out
      simp [intOf]; omega
    · obtain rfl : i = n := by omega
      have hall : (r.take i).map foldA = r.map foldA := by rw [← HNN.out, List.take_length]
      rw [hall] at HO
      obtain ⟨g, cap, z, e1, hcap, hg, hB⟩ := HO.out.blk H1.out
      simp only [Value.slice.injEq, true_and] at e1
      obtain ⟨rfl, rfl⟩ := e1
      have HS := hid (sort_any g i vc (r.map foldA) z wr (by rw [List.length_map]; exact HNN.out) hcap hB H20.out)
      have HGE := hid hg
      have HCAP := hid hcap
      have HZ : Hid (SzR (normR r)) := hid (by
        intro y hy
        obtain ⟨q, hq, rfl⟩ := List.mem_map.1 (srt_mem.1 hy)
        have h := HB.out.2 q hq
        have h2 := fold_len q.2
        have h3 := low_length q.1
        unfold Sz foldA
        unfold AvB at h
        simp only
        omega)
      clear hall hcap hg hB hi hlt
      go_wp2_with fail
      refine HS.out.mono ?_
      rintro e w8 ⟨⟨v8, rfl⟩, hb8, f8⟩
      have HB8 := hid hb8
      have HF8 := hid f8
      clear hb8 f8
      go_wp2_with fail
      go_ret
      have hl : (normR r).length = i := by rw [normR, srt_len, List.length_map]; exact HNN.out
      refine ⟨_, rfl, ⟨_, _, by rw [hl]; rfl, by rw [hl]; exact HCAP.out, by rw [hl]; omega, .inr ⟨g, 0, (normR r).map fun x => [Value.string (sb x.1), .string (sb x.2)], rfl, HGE.out, HB8.out.lt, ?_, List.length_map _, fun c hcm => ?_, fun j x c hx hcj => ?_⟩⟩, HO.out.fr.trans HF8.out fun k e => .inr (by have e : k = g := e; have := HGE.out; omega)⟩
      · rw [← avs_flat]
        refine HB8.out.range 0 _ ?_
        rw [List.drop_zero]
        exact List.take_left
      · obtain ⟨x, _, rfl⟩ := List.mem_map.1 hcm
        rfl
      · rw [List.getElem?_map, hx] at hcj
        obtain rfl := Option.some.inj hcj
        exact ⟨rfl, HZ.out x (List.mem_of_getElem? hx)⟩
/-- One step more behind a name. -/
theorem Rs.add {w wr w' : World} {nv nv' v : Value} {n : Nm} {r : Rd} {vs : List Value} (h : Rs w wr nv (.slice none 0 0) n [] vs) (hv : RdIn (fun k => w.heap.size ≤ k ∧ nv.ownBlock ≠ some k) wr v r) (ho : OwR 31 1 w w' nv' (n.length + 1) (vs ++ [v])) (hf : Fr (fun j => nv.ownBlock = some j) wr w')
    (hw : nv'.ownBlock = nv.ownBlock ∨ ∃ g, nv'.ownBlock = some g ∧ wr.heap.size ≤ g) (hvs : vs.length = n.length) : Rs w w' nv' (.slice none 0 0) (n ++ [r]) [] (vs ++ [v]) := by
  refine ⟨by rw [List.length_append]; exact ho, owR_nil ho.fr, fun _ _ => by simp [Value.ownBlock], ?_, fun x hx => by cases hx⟩
  have hnew : ∀ j, j < wr.heap.size → nv.ownBlock ≠ some j → nv'.ownBlock ≠ some j := by
    intro j hj hn e
    rcases hw with hw | ⟨g', hw, hge⟩
    · rw [hw] at e; exact hn e
    · rw [hw] at e
      have e := Option.some.inj e
      omega
  intro i q u h1 h2
  by_cases hi : i < n.length
  · rw [List.getElem?_append_left hi] at h1
    rw [List.getElem?_append_left (by omega)] at h2
    refine (RdIn.fr (rd_lt (h.ks i q u h1 h2)) hf fun j hj _ e => hj.1.2.1 e).mono ?_
    rintro j ⟨⟨j1, j2, j3⟩, j4⟩
    exact ⟨j1, hnew j j4 j2, by simp [Value.ownBlock]⟩
  · rw [List.getElem?_append_right (by omega)] at h1
    rw [List.getElem?_append_right (by omega)] at h2
    have hi0 : i - n.length = 0 := by
      have := (List.getElem?_eq_some_iff.1 h1).1
      simp at this
      omega
    have hi1 : i - vs.length = 0 := by omega
    rw [hi0] at h1
    rw [hi1] at h2
    obtain rfl : r = q := by simpa using h1
    obtain rfl : v = u := by simpa using h2
    refine (RdIn.fr (rd_lt hv) hf fun j hj _ e => hj.1.2 e).mono ?_
    rintro j ⟨⟨j1, j2⟩, j4⟩
    exact ⟨j1, hnew j j4 j2, by simp [Value.ownBlock]⟩
/-- Steps that are neither empty nor long. -/
def Short (n : Nm) : Prop := ∀ r ∈ n, 1 ≤ r.length ∧ r.length < 20
set_option maxHeartbeats 8000000 in
theorem norm_any (E : Nat → Prop) (v : Value) (n : Nm) (w : World) (h : NmIn E w v n) (hb : NmB 1048576 n) (hs : Short n) :
    Calls Tryz.prog 29 #[v] w fun e w' => ∃ v', e = .returned v' ∧ NmIn (fun k => w.heap.size ≤ k) w' v' (norm n) ∧ Fr No w w' := by
  obtain ⟨a, cp, rfl, -, -⟩ := h.form
  have HX := hid h
  have HB := hid hb
  have HS := hid hs
  obtain ⟨m, hn⟩ : ∃ m, n.length = m := ⟨_, rfl⟩
  have HM : Hid (m ≤ 1048576) := hid (by have := hb.1; omega)
  have hmi : (m : Int) ≤ 1048576 := by have := HM.out; omega
  rw [hn] at HX ⊢
  have HNN := hid hn
  clear h hb hs hn
  go_enter Tryz.func29, Tryz.ntmps29
  go_wp2_with fail
  go_loopw [3, 8] (fun nv iv wr => ∃ (i : Nat) (vs : List Value), iv = .int .i64 i ∧ i ≤ m ∧ Hid (Rs w wr nv (.slice none 0 0) (norm (n.take i)) [] vs ∧ vs.length = i)) (fun _ iv _ => m - (intOf iv).toNat)
  case atStart => exact ⟨0, [], rfl, Nat.zero_le _, hid ⟨⟨owR_nil (Fr.refl _ _), owR_nil (Fr.refl _ _), (fun g e => by cases e), (fun i r v e => by simp [norm] at e), (fun x hx => by cases hx)⟩, rfl⟩⟩
  case round =>
    obtain ⟨i, vs, rfl, hi, HR⟩ := hrel
    by_cases hlt : i < m
    · have hlen : (norm (n.take i)).length = i := by rw [norm_length, List.length_take, HNN.out]; omega
      have hno := HR.out.1.no
      rw [hlen] at hno
      obtain ⟨na, nc, rfl⟩ := hno.1
      have HNO := hid hno
      have HLEN := hid hlen
      obtain ⟨x, hx⟩ : ∃ x, n[i]? = some x := ⟨_, List.getElem?_eq_getElem (by rw [HNN.out]; exact hlt)⟩
      have hlti : (i : Int) < m := by omega
      have hi0 : (0 : Int) ≤ i := by omega
      obtain ⟨g, o, cq, c, e1, -, hgw, hrr, hc, hxa⟩ := (NmIn.no HX.out hno.fr).get hx
      rw [HNN.out] at e1
      simp only [Value.slice.injEq, true_and] at e1
      obtain ⟨rfl, rfl⟩ := e1
      obtain ⟨vx, rfl, hvx⟩ := hxa
      have hcell : wr.cell? ⟨g, o + i, none⟩ = some vx := by have := hrr 0 vx rfl; simpa using this
      have HVX := hid hvx
      obtain ⟨xa, xc, rfl, -, -⟩ := Sl.form hvx
      have HXM := hid (List.mem_of_getElem? hx)
      have HNX : Hid (norm (n.take (i + 1)) = norm (n.take i) ++ [normR x]) := hid (by
        rw [List.take_add_one, hx]
        simp [norm])
      have HLT := hid hlt
      clear hc hgw hrr hvx hx hlt hno hlen
      go_wp2_with fail
      refine (normStep_any E _ x wr HVX.out (HB.out.2 x HXM.out) (HS.out x HXM.out).1 (HS.out x HXM.out).2).mono ?_
      rintro e w4 ⟨v4, rfl, hv4, f4⟩
      have HV4 := hid hv4
      obtain ⟨va, vc, rfl, -, -⟩ := Sl.form hv4
      have HR4 := hid (HR.out.1.fr f4)
      have HNO4 := hid (HNO.out.no f4)
      have HSZ := hid f4.size
      clear f4 hv4
      go_wp2_with (first
        | ((with_reducible refine K.atO (.buildSlice 24 _ _) ?_); refine wpL_app1o rfl rfl _ _ _ 24 31 rfl rfl Tryz.underlying24 infoRdn rfl (by decide) (by decide) HNO4.out (.slice va (normR x).length vc) [.slice va (normR x).length vc] rfl rfl rfl (by simp [Value.oneCell']) (fun _ => rfl) (fun _ => rfl) (by have := HM.out; omega) (by have := HM.out; omega) ?_; intro q6 a6 c6 w6 HO6 HF6 HW6)
        | fail)
      have HR6 : Hid (Rs w w6 (.slice a6 (i + 1) c6) (.slice none 0 0) (norm (n.take i) ++ [normR x]) [] (vs ++ [.slice va (normR x).length vc])) := hid (HR4.out.add (HV4.out.mono fun k hk => ⟨Nat.le_trans HNO.out.fr.size hk, fun e => by have := (HNO.out.ge k e).2; omega⟩) (by rw [HLEN.out]; exact HO6.out) HF6.out HW6.out (by rw [HLEN.out]; exact HR.out.2))
      refine ⟨⟨i + 1, _, by go_num, HLT.out, hid ⟨by rw [HNX.out]; exact HR6.out, by have := HR.out.2; simp [this]⟩⟩, ?_⟩
      have := HLT.out
      simp [intOf]; omega
    · obtain rfl : i = m := by omega
      have hall : n.take i = n := by rw [← HNN.out, List.take_length]
      rw [hall] at HR
      have hv := HR.out.1.name (by rw [norm_length, HNN.out]; exact HR.out.2) (by rw [norm_length, HNN.out]; have := HM.out; omega)
      have HV := hid hv
      obtain ⟨va, vc, rfl, -, -⟩ := Sl.form hv
      have HFR := hid HR.out.1.no.fr
      clear hall hv hi hlt
      go_wp2_with fail
      go_ret
      exact ⟨_, rfl, HV.out, HFR.out⟩
end Go.Proofs.YthjmkfpdbbfcpaaGreatDoor.DN
