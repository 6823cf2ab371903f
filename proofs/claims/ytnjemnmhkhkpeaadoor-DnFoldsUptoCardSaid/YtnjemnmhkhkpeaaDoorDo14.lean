/-
  Part 14 of the proof: DnSo, DnNl, DzO, DzF.
-/
import Derived.Test.YtnjemnmhkhkpeaaDoorDo13
import Derived.Test.YtnjemnmhkhkpeaaDoorDo12
import Derived.Test.YtnjemnmhkhkpeaaDoorDo11
import Derived.Test.YtnjemnmhkhkpeaaDoorDo08
set_option linter.unusedSimpArgs false
set_option linter.unusedVariables false
namespace Go.Proofs.YtnjemnmhkhkpeaaDoor.DN
set_option maxRecDepth 100000
open Go.RowKit K Go.Proofs.YtnjemnmhkhkpeaaDoor.BE
/-- A row in its block, and what else may turn. -/
def At_ (w0 w : World) (g : Nat) (L : Rd) (z : List Value) : Prop := Blk w g 37 (avs L ++ z) ∧ Fr (fun k => k = g) w0 w
set_option maxHeartbeats 16000000 in
theorem stableL_any (g n cap : Nat) (r : Rd) (z : List Value) (w : World) (hn : r.length = n) (hc : n ≤ cap) (hB : Blk w g 37 (avs r ++ z)) (hl : n ≤ 1048576) :
    Calls Tryd.prog 41 #[.slice (some ⟨g, 0, none⟩) n cap, .int .i64 (n : Int), .func (.func 31) #[] #[]] w fun e w' => (∃ v, e = .returned v) ∧ Blk w' g 37 (avs (srt r) ++ z) ∧ Fr (fun k => k = g) w w' := by
  have HN := hid (And.intro hn (And.intro hc hl))
  have hni : (n : Int) ≤ 1048576 := by omega
  have HB := hid (show At_ w w g r z from ⟨hB, Fr.refl _ _⟩)
  clear hn hc hB hl
  go_enter Tryd.func41, Tryd.ntmps41
  go_wp2_with fail
  go_loopw [7, 8] (fun av bv wr => ∃ (a b : Nat), av = .int .i64 a ∧ bv = .int .i64 b ∧ b = a + 20 ∧ a ≤ n ∧ Hid (∃ k x X y, r = x ++ y ∧ x.length = a ∧ Full 20 k x X ∧ At_ w wr g (X ++ y) z)) (fun _ bv _ => n + 20 - (intOf bv).toNat)
  case atStart => exact ⟨0, 20, rfl, rfl, rfl, Nat.zero_le _, hid ⟨0, [], [], r, rfl, rfl, .nil, HB.out⟩⟩
  case round =>
    obtain ⟨a, b, rfl, rfl, hab, han, HX⟩ := hrel
    obtain ⟨k, x, X, y, hr, hx, hF, hA⟩ := HX.out
    clear HX
    have hyl : a + y.length = n := by have := HN.out.1; rw [hr, List.length_append] at this; omega
    have hXl : X.length = a := by have := hF.len; omega
    by_cases hle : b ≤ n
    · have HI := hid (insertRange_any g n cap X (y.take 20) (y.drop 20) z wr (by rw [List.append_assoc, List.take_append_drop, List.length_append]; omega) HN.out.2.1 (by rw [List.append_assoc, List.take_append_drop]; exact hA.1) HN.out.2.2 a b 20 hXl (by rw [List.length_take]; omega) (by omega))
      have HF : Hid (Full 20 (k + 1) (x ++ y.take 20) (X ++ srt (y.take 20))) := hid (hF.snoc (by rw [List.length_take]; omega))
      have HR := hid (show r = (x ++ y.take 20) ++ y.drop 20 by rw [List.append_assoc, List.take_append_drop]; exact hr)
      have HL := hid (show (x ++ y.take 20).length = b by rw [List.length_append, List.length_take]; omega)
      have HFr := hid hA.2
      have HABI := hid (And.intro hab hle)
      have hbi : (b : Int) ≤ n := by omega
      clear hr hx hF hA hyl hXl hle hab han
      go_wp2_with fail
      refine HI.out.mono ?_
      rintro e w2 ⟨⟨v, rfl⟩, hb2, f2⟩
      have HA2 := hid (show At_ w w2 g (X ++ srt (y.take 20) ++ y.drop 20) z from ⟨hb2, HFr.out.trans' f2⟩)
      clear hb2 f2
      go_wp2_with fail
      refine ⟨⟨b, b + 20, rfl, by push_cast; rfl, rfl, HABI.out.2, hid ⟨k + 1, _, _, _, HR.out, HL.out, HF.out, HA2.out⟩⟩, ?_⟩
      have := HABI.out
      simp [intOf]; omega
    · have HI := hid (insertRange_any g n cap X y [] z wr (by simp; omega) HN.out.2.1 (by simpa using hA.1) HN.out.2.2 a n y.length hXl rfl hyl)
      have HR : Hid (Rest 20 r (X ++ srt y)) := hid (by rw [hr]; exact hF.rest (.last (by omega)))
      have HFr := hid hA.2
      have hbi : ¬ (b : Int) ≤ n := by omega
      clear hr hx hF hA hyl hXl hle hab han
      go_wp2_with fail
      refine HI.out.mono ?_
      rintro e w2 ⟨⟨v, rfl⟩, hb2, f2⟩
      have HA2 := hid (show At_ w w2 g (X ++ srt y) z from ⟨by simpa using hb2, HFr.out.trans' f2⟩)
      clear hb2 f2 hbi
      go_wp2_with fail
      go_loopw [6] (fun sv wr => ∃ (s : Nat), sv = .int .i64 s ∧ 1 ≤ s ∧ s ≤ 2097152 ∧ Hid (∃ L, Rest s r L ∧ At_ w wr g L z)) (fun sv _ => n - (intOf sv).toNat)
      case atStart => exact ⟨20, rfl, by omega, by omega, hid ⟨_, HR.out, HA2.out⟩⟩
      case round =>
        obtain ⟨s, rfl, hs1, hs2, HL⟩ := hrel
        by_cases hsn : s < n
        · have hsi : (s : Int) < n := by omega
          have hs0 : (0 : Int) ≤ s := by omega
          have HS := hid (And.intro hs1 hsn)
          clear hs1 hs2 hsn
          go_wp2_with fail
          go_loopw [7, 8] (fun av bv wq => ∃ (a b : Nat), av = .int .i64 a ∧ bv = .int .i64 b ∧ b = a + 2 * s ∧ a ≤ n ∧ Hid (∃ k x X y Y, r = x ++ y ∧ x.length = a ∧ Full (2 * s) k x X ∧ Rest s y Y ∧ At_ w wq g (X ++ Y) z)) (fun _ bv _ => n + 2 * s - (intOf bv).toNat)
          case atStart =>
            obtain ⟨L, h1, h2⟩ := HL.out
            exact ⟨0, 2 * s, rfl, by push_cast; rfl, by omega, Nat.zero_le _, hid ⟨0, [], [], r, L, rfl, rfl, .nil, h1, h2⟩⟩
          case round =>
            obtain ⟨a, b, rfl, rfl, hab, han, HX⟩ := hrel
            obtain ⟨k, x, X, y, Y, hr, hx, hF, hY, hA⟩ := HX.out
            clear HX
            have hyl : a + y.length = n := by have := HN.out.1; rw [hr, List.length_append] at this; omega
            have hXl : X.length = a := by have := hF.len; omega
            have hs1 := HS.out.1
            by_cases hle : b ≤ n
            · obtain ⟨b1, c1, y1, Y1, rfl, rfl, hb1, hc1, hY1⟩ := hY.two (by omega)
              have HI := hid (mg_any _ g n cap X (srt b1) (srt c1) Y1 z wr (Nat.le_refl _) (by have := hY1.len; simp only [List.length_append, srt_len] at hyl ⊢; omega) HN.out.2.1 (by have h := hA.1; simpa using h) HN.out.2.2 (srt_sorted _) (srt_sorted _) (by rw [srt_len]; omega) (by rw [srt_len]; omega) a (a + s) b hXl (by rw [srt_len]; omega) (by rw [srt_len]; omega))
              have HF : Hid (Full (2 * s) (k + 1) (x ++ (b1 ++ c1)) (X ++ srt (srt b1 ++ srt c1))) := hid (hF.step hb1 hc1)
              have HR := hid (show r = (x ++ (b1 ++ c1)) ++ y1 by rw [hr]; simp)
              have HL1 := hid (show (x ++ (b1 ++ c1)).length = b by simp only [List.length_append]; omega)
              have HFr := hid hA.2
              have HY := hid hY1
              have HABI := hid (And.intro hab hle)
              have hbi : (b : Int) ≤ n := by omega
              have hai : (a : Int) ≤ n := by omega
              have ha0 : (0 : Int) ≤ a := by omega
              clear hr hx hF hA hyl hXl hle hab han hY hY1 hb1 hc1 hs1
              go_wp2_with fail
              rw [show (a : Int) + s = ((a + s : Nat) : Int) by push_cast; rfl]
              refine HI.out.mono ?_
              rintro e w4 ⟨⟨v, rfl⟩, hb2, f2⟩
              have HA4 := hid (show At_ w w4 g (X ++ srt (srt b1 ++ srt c1) ++ Y1) z from ⟨hb2, HFr.out.trans' f2⟩)
              clear hb2 f2
              go_wp2_with fail
              refine ⟨⟨b, b + 2 * s, rfl, by push_cast; rfl, rfl, HABI.out.2, hid ⟨k + 1, _, _, _, _, HR.out, HL1.out, HF.out, HY.out, HA4.out⟩⟩, ?_⟩
              have := HABI.out; have := HS.out
              simp [intOf]; omega
            · have hbi : ¬ (b : Int) ≤ n := by omega
              have hai : (a : Int) ≤ n := by omega
              have ha0 : (0 : Int) ≤ a := by omega
              by_cases hm : a + s < n
              · obtain ⟨b1, c1, rfl, rfl, hb1, hc1⟩ := hY.tail (by omega) (by omega)
                have HI := hid (mg_any _ g n cap X (srt b1) (srt c1) [] z wr (Nat.le_refl _) (by simp only [List.length_append, srt_len, List.length_nil] at hyl ⊢; omega) HN.out.2.1 (by have h := hA.1; simpa using h) HN.out.2.2 (srt_sorted _) (srt_sorted _) (by rw [srt_len]; omega) (by rw [srt_len]; omega) a (a + s) n hXl (by rw [srt_len]; omega) (by rw [List.length_append] at hyl; rw [srt_len]; omega))
                have HR2 : Hid (Rest (2 * s) r (X ++ srt (srt b1 ++ srt c1))) := hid (by rw [hr, srt_app]; exact hF.rest (.last (by omega)))
                have HFr := hid hA.2
                have hmi : (a : Int) + s < n := by omega
                clear hr hx hF hA hyl hXl hle hab han hY hb1 hc1 hs1 hm
                go_wp2_with fail
                rw [show (a : Int) + s = ((a + s : Nat) : Int) by push_cast; rfl]
                refine HI.out.mono ?_
                rintro e w4 ⟨⟨v, rfl⟩, hb2, f2⟩
                have HA4 := hid (show At_ w w4 g (X ++ srt (srt b1 ++ srt c1)) z from ⟨by simpa using hb2, HFr.out.trans' f2⟩)
                clear hb2 f2
                go_wp2_with fail
                have := HS.out
                have := HN.out.2.2
                refine ⟨⟨2 * s, by push_cast; rw [Int.mul_comm], by omega, by omega, hid ⟨_, HR2.out, HA4.out⟩⟩, ?_⟩
                simp [intOf]; omega
              · have hmi : ¬ (a : Int) + s < n := by omega
                have HR2 : Hid (Rest (2 * s) r (X ++ Y)) := hid (by rw [hr, hY.short (by omega)]; exact hF.rest (.last (by omega)))
                have HA4 := hid hA
                clear hr hx hF hA hyl hXl hle hab han hY hs1 hm
                go_wp2_with fail
                have := HS.out
                have := HN.out.2.2
                refine ⟨⟨2 * s, by push_cast; rw [Int.mul_comm], by omega, by omega, hid ⟨_, HR2.out, HA4.out⟩⟩, ?_⟩
                simp [intOf]; omega
        · have hsi : ¬ (s : Int) < n := by omega
          obtain ⟨L, h1, h2⟩ := HL.out
          obtain rfl := h1.short (by have := HN.out.1; omega)
          have HE := hid h2
          clear HL h1 h2 hs1 hs2 hsn
          go_wp2_with fail
          go_end0
          exact ⟨⟨_, rfl⟩, HE.out.1, HE.out.2⟩
theorem sortL_any (g n cap : Nat) (r : Rd) (z : List Value) (w : World) (hn : r.length = n) (hc : n ≤ cap) (hB : Blk w g 37 (avs r ++ z)) (hl : n ≤ 1048576) :
    Calls Tryd.prog 30 #[.slice (some ⟨g, 0, none⟩) n cap, .func (.func 31) #[] #[]] w fun e w' => (∃ v, e = .returned v) ∧ Blk w' g 37 (avs (srt r) ++ z) ∧ Fr (fun k => k = g) w w' := by
  have H := hid (stableL_any g n cap r z w hn hc hB hl)
  clear hn hc hB hl
  go_enter Tryd.func30, Tryd.ntmps30
  go_wp2_with fail
  refine H.out.mono ?_
  rintro e w2 ⟨⟨v, rfl⟩, hb2, f2⟩
  have HB2 := hid hb2
  have HF2 := hid f2
  clear hb2 f2
  go_wp2_with fail
  go_end0
  exact ⟨⟨_, rfl⟩, HB2.out, HF2.out⟩
set_option maxHeartbeats 16000000 in
theorem normStepL_any (E : Nat → Prop) (v : Value) (r : Rd) (w : World) (h : RdIn E w v r) (hb : RdB 1048576 r) :
    Calls Tryd.prog 20 #[v] w fun e w' => ∃ v', e = .returned v' ∧ RdIn (fun k => w.heap.size ≤ k) w' v' (normR r) ∧ Fr No w w' := by
  obtain ⟨a, cp, rfl, -, -⟩ := h.form
  have HX := hid h
  have HB := hid hb
  obtain ⟨n, hn⟩ : ∃ n, r.length = n := ⟨_, rfl⟩
  rw [hn] at HX ⊢
  have HNN := hid hn
  have HNB := hid (show n ≤ 1048576 by have := hb.1; omega)
  have hni : (n : Int) ≤ 1048576 := by have := HNB.out; omega
  clear h hb hn
  go_enter Tryd.func20, Tryd.ntmps20
  go_wp2_with fail
  go_loopw [3, 8] (fun sv iv wr => ∃ (i : Nat), iv = .int .i64 i ∧ i ≤ n ∧ Hid (OwR 37 2 w wr sv i (avs ((r.take i).map foldA)))) (fun _ iv _ => n - (intOf iv).toNat)
  case atStart => exact ⟨0, rfl, Nat.zero_le _, hid (owR_nil (Fr.refl _ _))⟩
  case round =>
    obtain ⟨i, rfl, hi, HO⟩ := hrel
    obtain ⟨va, vc, rfl⟩ := HO.out.1
    by_cases hlt : i < n
    · obtain ⟨x, hx⟩ : ∃ x, r[i]? = some x := ⟨_, List.getElem?_eq_getElem (by rw [HNN.out]; exact hlt)⟩
      have hlti : (i : Int) < n := by omega
      have hi0 : (0 : Int) ≤ i := by omega
      obtain ⟨g, o, cq, c, e1, -, hgw, hrr, hc, hxa⟩ := (RdIn.no HX.out HO.out.fr).get hx
      rw [HNN.out] at e1
      simp only [Value.slice.injEq, true_and] at e1
      obtain ⟨rfl, rfl⟩ := e1
      obtain ⟨rfl, hs1, hs2⟩ := hxa
      have HRR := hid hrr
      have HXB : Hid (AvB 1048576 x) := hid (HB.out.2 x (List.mem_of_getElem? hx))
      have HNX : Hid (avs ((r.take (i + 1)).map foldA) = avs ((r.take i).map foldA) ++ [.string (sb (low x.1)), .string (sb (fold x.2))]) := hid (by
        rw [List.take_add_one, hx, List.map_append, avs_app]
        simp [avs, foldA])
      have HLT := hid hlt
      clear hc hgw hrr hs1 hs2 hx hlt
      go_wp2_with (first
        | ((with_reducible refine K.atO (.load 37 _) ?_); refine wpL_load rfl _ _ rfl g (o + i * 2) rfl [.string (sb x.1), .string (sb x.2)] _ HRR.out rfl rfl infoAv ?_)
        | ((with_reducible refine K.atO (.alloc 37) ?_); refine wpList_plain rfl fun K1 hK1 => ?_; refine wp_alloc 37 rfl (.agg #[.string ⟨#[]⟩, .string ⟨#[]⟩]) zeroAv [.string ⟨#[]⟩, .string ⟨#[]⟩] rfl ?_; intro w2 HB2 HF2 HS2; refine hK1 _ _ ?_; clear hK1 K1)
        | ((with_reducible refine K.atO (.store 37 _ _) ?_); refine wpL_store rfl _ _ _ rfl wr.heap.size 0 [.string (sb x.1), .string (sb x.2)] rfl rfl 37 _ HB2.out (by simp) infoAv (by simp [Value.oneCell']) ?_; intro w3 HB3 HF3 HS3)
        | fail)
      obtain ⟨b, hbb⟩ : ∃ b, wr.heap.size = b := ⟨_, rfl⟩
      have HF33 : Hid (Fr No wr w3) := hid (HF2.out.trans HF3.out fun k e => .inr (by have e : k = wr.heap.size := e; omega))
      have HO3 := hid (HO.out.no HF33.out)
      rw [hbb] at HB3 ⊢
      have hB3 : Blk w3 b 37 [.string (sb x.1), .string (sb x.2)] := by simpa [spl] using HB3.out
      have c0 : w3.cell? ⟨b, 0, none⟩ = some (.string (sb x.1)) := hB3.cell 0
      have c1 : w3.cell? ⟨b, 1, none⟩ = some (.string (sb x.2)) := hB3.cell 1
      clear hbb hB3
      have hold : Facts.hold [(2, fun w' => w'.cell? ⟨b, 0, none⟩ = some (.string (sb x.1))), (5, fun w' => w'.cell? ⟨b, 1, none⟩ = some (.string (sb x.2)))] w3.drew := Facts.cons_hold c0 (Facts.cons_hold c1 (Facts.nil_hold _))
      refine wpD_region hold (by kernel_rfl) 11 rfl ?_
      (refine K.pl 0 (v := ?_) rfl ?_ ?_; rotate_left; (intro _w; go_simp; try with_reducible rfl); simp only [Act.put, K.put3])
      (refine K.pl 1 (v := ?_) rfl ?_ ?_; rotate_left; (intro _w; go_simp; try with_reducible rfl); simp only [Act.put, K.put3])
      (refine K.pl 4 (v := ?_) rfl ?_ ?_; rotate_left; (intro _w; go_simp; try with_reducible rfl); simp only [Act.put, K.put3])
      (refine K.tk 2 _ rfl K.m0 (v := ?_) ?_ ?_; rotate_left; (intro _w _hw; go_simp; try with_reducible rfl); simp only [Act.put, K.put3])
      (refine K.tk 5 _ rfl K.m1 (v := ?_) ?_ ?_; rotate_left; (intro _w _hw; go_simp; try with_reducible rfl); simp only [Act.put, K.put3])
      clear hold
      refine K.on 3 [(5, fun w' => w'.cell? ⟨b, 1, none⟩ = some (.string (sb x.2)))] rfl (fun K3 hK3 => ?_)
      refine wp_call _ _ _ rfl 17 [] rfl (fun vs w => by kernel_rfl) [.string (sb x.1)] (by rfl) ?_
      refine (lower_str x.1 (by have := HXB.out.1; unfold Sz; omega) w3.drew).mono ?_
      rintro e w4 ⟨rfl, f4⟩
      have hf4 : Fr No w3 w4 := (Fr.refl No w3).drew.trans' f4
      have c14 : w4.cell? ⟨b, 1, none⟩ = some (.string (sb x.2)) := hf4.cell c1 id
      have HO4 := hid (HO3.out.no hf4)
      refine ⟨_, rfl, hK3 _ _ (Facts.cons_hold c14 (Facts.nil_hold _)) ?_⟩
      clear hK3 K3 f4 hf4 c1 c0
      simp only [Act.put, K.put3]
      refine K.on 6 [] rfl (fun K6 hK6 => ?_)
      refine wp_call _ _ _ rfl 8 [] rfl (fun vs w => by kernel_rfl) [.string (sb x.2)] (by rfl) ?_
      refine (fold_any x.2 (by have := HXB.out.2; omega) w4).mono ?_
      rintro e w5 ⟨rfl, f5⟩
      have HO5 := hid (HO4.out.no f5)
      refine ⟨_, rfl, hK6 _ _ (Facts.nil_hold _) ?_⟩
      clear hK6 K6 f5 c14
      simp only [Act.put, K.put3]
      have hold : Facts.hold [] w5 := Facts.nil_hold _
      (refine K.pl 7 (v := (.agg #[.string (sb (low x.1)), .string (sb (fold x.2))])) rfl ?_ ?_; (intro _w; go_simp; skip); simp only [Act.put, K.put3])
      clear hold
      refine K.on 8 [] rfl (fun K8 hK8 => ?_)
      obtain ⟨ib, hib, hzb, hsb, hbb⟩ := Go.info_parts infoAva
      refine wp_buildOne 34 37 _ rfl ib _ Tryd.underlying34 hib hzb (by rw [hsb]; decide) (by rw [hsb]; decide) (.agg #[.string (sb (low x.1)), .string (sb (fold x.2))]) [.string (sb (low x.1)), .string (sb (fold x.2))] rfl rfl (by rw [hsb]; rfl) ?_
      intro w6 HB6 HF6 HS6
      refine hK8 _ _ (Facts.nil_hold _) ?_
      clear hK8 K8 hib hzb hsb hbb
      simp only [Act.put, K.put3]
      have HO6 := hid (HO5.out.no HF6.out)
      refine K.on 9 [] rfl (fun K9 hK9 => ?_)
      refine wp_appR _ _ 34 37 rfl Tryd.underlying34 infoAva rfl (by decide) HO6.out rfl w5.heap.size 1 1 _ rfl rfl HB6.out (by simp [Value.oneCell']) (by omega) (by omega) ?_
      intro a7 c7 w7 HO7 HF7
      refine hK9 _ _ (Facts.nil_hold _) ?_
      clear hK9 K9
      simp only [Act.put, K.put3]
      have hold : Facts.hold [] w7 := Facts.nil_hold _
      (refine K.pl 10 (v := ?_) rfl ?_ ?_; rotate_left; (intro _w; go_simp; try with_reducible rfl); simp only [Act.put, K.put3])
      clear hold
      refine wpD_done (by kernel_rfl) ?_ _
      go_wp2_with fail
      refine ⟨⟨i + 1, by go_num, HLT.out, hid (by rw [HNX.out]; exact HO7.out)⟩, ?_⟩
      have := HLT.out
      simp [intOf]; omega
    · obtain rfl : i = n := by omega
      have hall : (r.take i).map foldA = r.map foldA := by rw [← HNN.out, List.take_length]
      rw [hall] at HO
      rcases Nat.eq_zero_or_pos i with h0 | h0
      · subst h0
        obtain rfl : r = [] := List.eq_nil_of_length_eq_zero HNN.out
        have HF0 := hid HO.out.fr
        clear hall hi hlt
        go_wp2_with fail
        refine (sort0_any va vc _ wr).mono ?_
        rintro e w8 ⟨⟨v8, rfl⟩, rfl⟩
        go_wp2_with fail
        go_ret
        exact ⟨_, rfl, rd_nil _ _ _ _, HF0.out⟩
      · obtain ⟨g, cap, z, e1, hcap, hg, hB⟩ := HO.out.blk h0
        simp only [Value.slice.injEq, true_and] at e1
        obtain ⟨rfl, rfl⟩ := e1
        have HS := hid (sortL_any g i vc (r.map foldA) z wr (by rw [List.length_map]; exact HNN.out) hcap hB HNB.out)
        have HGE := hid hg
        have HCAP := hid hcap
        have HZ : Hid (SzR (normR r)) := hid (by
          intro y hy
          obtain ⟨q, hq, rfl⟩ := List.mem_map.1 (srt_mem.1 hy)
          have h := HB.out.2 q hq
          have h2 := fold_len q.2
          have h3 := low_length q.1
          unfold Sz foldA
          unfold AvB at h
          simp only
          omega)
        clear hall hcap hg hB hi hlt h0
        go_wp2_with fail
        refine HS.out.mono ?_
        rintro e w8 ⟨⟨v8, rfl⟩, hb8, f8⟩
        have HB8 := hid hb8
        have HF8 := hid f8
        clear hb8 f8
        go_wp2_with fail
        go_ret
        have hl : (normR r).length = i := by rw [normR, srt_len, List.length_map]; exact HNN.out
        refine ⟨_, rfl, ⟨_, _, by rw [hl]; rfl, by rw [hl]; exact HCAP.out, by rw [hl]; omega, .inr ⟨g, 0, (normR r).map fun x => [Value.string (sb x.1), .string (sb x.2)], rfl, HGE.out, HB8.out.lt, ?_, List.length_map _, fun c hcm => ?_, fun j x c hx hcj => ?_⟩⟩, HO.out.fr.trans HF8.out fun k e => .inr (by have e : k = g := e; have := HGE.out; omega)⟩
        · rw [← avs_flat]
          refine HB8.out.range 0 _ ?_
          rw [List.drop_zero]
          exact List.take_left
        · obtain ⟨x, _, rfl⟩ := List.mem_map.1 hcm
          rfl
        · rw [List.getElem?_map, hx] at hcj
          obtain rfl := Option.some.inj hcj
          exact ⟨rfl, HZ.out x (List.mem_of_getElem? hx)⟩
set_option maxHeartbeats 8000000 in
theorem normL_any (E : Nat → Prop) (v : Value) (n : Nm) (w : World) (h : NmIn E w v n) (hb : NmB 1048576 n) :
    Calls Tryd.prog 9 #[v] w fun e w' => ∃ v', e = .returned v' ∧ NmIn (fun k => w.heap.size ≤ k) w' v' (norm n) ∧ Fr No w w' := by
  obtain ⟨a, cp, rfl, -, -⟩ := h.form
  have HX := hid h
  have HB := hid hb
  obtain ⟨m, hn⟩ : ∃ m, n.length = m := ⟨_, rfl⟩
  have HM : Hid (m ≤ 1048576) := hid (by have := hb.1; omega)
  have hmi : (m : Int) ≤ 1048576 := by have := HM.out; omega
  rw [hn] at HX ⊢
  have HNN := hid hn
  clear h hb hn
  go_enter Tryd.func9, Tryd.ntmps9
  go_wp2_with fail
  go_loopw [3, 8] (fun nv iv wr => ∃ (i : Nat) (vs : List Value), iv = .int .i64 i ∧ i ≤ m ∧ Hid (Rs w wr nv (.slice none 0 0) (norm (n.take i)) [] vs ∧ vs.length = i)) (fun _ iv _ => m - (intOf iv).toNat)
  case atStart => exact ⟨0, [], rfl, Nat.zero_le _, hid ⟨⟨owR_nil (Fr.refl _ _), owR_nil (Fr.refl _ _), (fun g e => by cases e), (fun i r v e => by simp [norm] at e), (fun x hx => by cases hx)⟩, rfl⟩⟩
  case round =>
    obtain ⟨i, vs, rfl, hi, HR⟩ := hrel
    by_cases hlt : i < m
    · have hlen : (norm (n.take i)).length = i := by rw [norm_length, List.length_take, HNN.out]; omega
      have hno := HR.out.1.no
      rw [hlen] at hno
      obtain ⟨na, nc, rfl⟩ := hno.1
      have HNO := hid hno
      have HLEN := hid hlen
      obtain ⟨x, hx⟩ : ∃ x, n[i]? = some x := ⟨_, List.getElem?_eq_getElem (by rw [HNN.out]; exact hlt)⟩
      have hlti : (i : Int) < m := by omega
      have hi0 : (0 : Int) ≤ i := by omega
      obtain ⟨g, o, cq, c, e1, -, hgw, hrr, hc, hxa⟩ := (NmIn.no HX.out hno.fr).get hx
      rw [HNN.out] at e1
      simp only [Value.slice.injEq, true_and] at e1
      obtain ⟨rfl, rfl⟩ := e1
      obtain ⟨vx, rfl, hvx⟩ := hxa
      have hcell : wr.cell? ⟨g, o + i, none⟩ = some vx := by have := hrr 0 vx rfl; simpa using this
      have HVX := hid hvx
      obtain ⟨xa, xc, rfl, -, -⟩ := Sl.form hvx
      have HXM := hid (List.mem_of_getElem? hx)
      have HNX : Hid (norm (n.take (i + 1)) = norm (n.take i) ++ [normR x]) := hid (by
        rw [List.take_add_one, hx]
        simp [norm])
      have HLT := hid hlt
      clear hc hgw hrr hvx hx hlt hno hlen
      go_wp2_with fail
      refine (normStepL_any E _ x wr HVX.out (HB.out.2 x HXM.out)).mono ?_
      rintro e w4 ⟨v4, rfl, hv4, f4⟩
      have HV4 := hid hv4
      obtain ⟨va, vc, rfl, -, -⟩ := Sl.form hv4
      have HR4 := hid (HR.out.1.fr f4)
      have HNO4 := hid (HNO.out.no f4)
      have HSZ := hid f4.size
      clear f4 hv4
      go_wp2_with (first
        | ((with_reducible refine K.atO (.buildSlice 23 _ _) ?_); refine wpL_app1o rfl rfl _ _ _ 23 34 rfl rfl Tryd.underlying23 infoRdn rfl (by decide) (by decide) HNO4.out (.slice va (normR x).length vc) [.slice va (normR x).length vc] rfl rfl rfl (by simp [Value.oneCell']) (fun _ => rfl) (fun _ => rfl) (by have := HM.out; omega) (by have := HM.out; omega) ?_; intro q6 a6 c6 w6 HO6 HF6 HW6)
        | fail)
      have HR6 : Hid (Rs w w6 (.slice a6 (i + 1) c6) (.slice none 0 0) (norm (n.take i) ++ [normR x]) [] (vs ++ [.slice va (normR x).length vc])) := hid (HR4.out.add (HV4.out.mono fun k hk => ⟨Nat.le_trans HNO.out.fr.size hk, fun e => by have := (HNO.out.ge k e).2; omega⟩) (by rw [HLEN.out]; exact HO6.out) HF6.out HW6.out (by rw [HLEN.out]; exact HR.out.2))
      refine ⟨⟨i + 1, _, by go_num, HLT.out, hid ⟨by rw [HNX.out]; exact HR6.out, by have := HR.out.2; simp [this]⟩⟩, ?_⟩
      have := HLT.out
      simp [intOf]; omega
    · obtain rfl : i = m := by omega
      have hall : n.take i = n := by rw [← HNN.out, List.take_length]
      rw [hall] at HR
      have hv := HR.out.1.name (by rw [norm_length, HNN.out]; exact HR.out.2) (by rw [norm_length, HNN.out]; have := HM.out; omega)
      have HV := hid hv
      obtain ⟨va, vc, rfl, -, -⟩ := Sl.form hv
      have HFR := hid HR.out.1.no.fr
      clear hall hv hi hlt
      go_wp2_with fail
      go_ret
      exact ⟨_, rfl, HV.out, HFR.out⟩
theorem sameL_any (E E2 : Nat → Prop) (v v2 : Value) (r s : Nm) (w : World) (h : NmIn E w v r) (h2 : NmIn E2 w v2 s) (hb : NmB 1048576 r) (hb2 : NmB 1048576 s) :
    Calls Tryd.prog 6 #[v, v2] w fun e w' => e = .returned (.bool (decide (norm r = norm s))) ∧ Fr No w w' := by
  have H1 := hid (normL_any E v r w h hb)
  have H2 := hid (fun w' (hf : Fr No w w') => normL_any E2 v2 s w' (h2.no hf) hb2)
  obtain ⟨a, cp, rfl, -, -⟩ := h.form
  obtain ⟨a2, cp2, rfl, -, -⟩ := h2.form
  clear h h2 hb hb2
  go_enter Tryd.func6, Tryd.ntmps6
  go_wp2_with fail
  refine H1.out.mono ?_
  rintro e w1 ⟨u1, rfl, hu1, f1⟩
  have HU1 := hid hu1; have HF1 := hid f1
  obtain ⟨b1, d1, rfl, -, -⟩ := hu1.form
  clear hu1 f1
  go_wp2_with fail
  refine (H2.out w1 HF1.out).mono ?_
  rintro e w2 ⟨u2, rfl, hu2, f2⟩
  have HU2 := hid hu2; have HF2 := hid (HF1.out.trans' f2)
  have HU12 := hid (HU1.out.no f2)
  obtain ⟨b2, d2, rfl, -, -⟩ := hu2.form
  clear hu2 f2
  go_wp2_with fail
  refine (equalFunc_any _ _ _ _ _ _ w2 HU12.out HU2.out).mono ?_
  rintro e w3 ⟨rfl, f3⟩
  have HF3 := hid (HF2.out.trans' f3)
  clear f3
  go_wp2_with fail
  go_ret
  exact ⟨rfl, HF3.out⟩
theorem underL_any (E E2 : Nat → Prop) (v v2 : Value) (r s : Nm) (w : World) (h : NmIn E w v r) (h2 : NmIn E2 w v2 s) (hb : NmB 1048576 r) (hb2 : NmB 1048576 s) :
    Calls Tryd.prog 7 #[v, v2] w fun e w' => e = .returned (.bool (under r s)) ∧ Fr No w w' := by
  obtain ⟨a, cp, rfl, hc, hl0⟩ := h.form
  obtain ⟨a2, cp2, rfl, -, hl2⟩ := h2.form
  obtain ⟨n, hn⟩ : ∃ n, r.length = n := ⟨_, rfl⟩
  obtain ⟨m, hm⟩ : ∃ m, s.length = m := ⟨_, rfl⟩
  have hu : under r s = (decide (m ≤ n) && decide (norm (r.drop (n - m)) = norm s)) := by unfold under; rw [hn, hm]
  rw [hu]
  rw [hn] at h hl0 hc ⊢
  rw [hm] at h2 hl2 ⊢
  have hni : (n : Int) ≤ 140737488351232 := by omega
  have hmi : (m : Int) ≤ 140737488351232 := by omega
  have hci : (n : Int) ≤ cp := by omega
  by_cases hmn : m ≤ n
  · rw [decide_eq_true hmn, Bool.true_and]
    have hbd : NmB 1048576 (r.drop (n - m)) := ⟨by have := hb.1; rw [List.length_drop]; omega, fun q hq => hb.2 q (List.mem_of_mem_drop hq)⟩
    have h0 : (0 : Int) ≤ (n : Int) - m := by omega
    have h01 : (n : Int) - m ≤ n := by omega
    by_cases hr0 : r = []
    · subst hr0
      obtain rfl : 0 = n := hn
      obtain rfl : m = 0 := by omega
      have HS := hid (fun b => sameL_any E E2 (.slice b 0 cp) _ [] s w (nm_nil _ _ _ _) h2 hb hb2)
      clear h h2 hb hb2 hm hu hbd
      go_enter Tryd.func7, Tryd.ntmps7
      go_wp2_with fail
      refine (HS.out _).mono ?_
      rintro e w3 ⟨rfl, f3⟩
      have HF3 := hid f3
      clear f3
      go_wp2_with fail
      go_ret
      exact ⟨rfl, HF3.out⟩
    · obtain ⟨g, o, rfl⟩ : ∃ g o, a = some ⟨g, o, none⟩ := by
        obtain ⟨a', c', e1, -, -, h4⟩ := h
        simp only [Value.slice.injEq] at e1
        obtain ⟨rfl, -, -⟩ := e1
        obtain ⟨g, o, L, e, -⟩ := h4.resolve_left hr0
        exact ⟨g, o, e⟩
      have hd := Sl.drop h (n - m) (by omega)
      rw [Nat.mul_one] at hd
      obtain ⟨k, hk⟩ : ∃ k, n - m = k := ⟨_, rfl⟩
      rw [hk] at hd hbd ⊢
      have hki : (n : Int) - m = (k : Int) := by omega
      have hkn : (k : Int) ≤ n := by omega
      have hk0 : (0 : Int) ≤ k := by omega
      have HS := hid (sameL_any E E2 _ _ (r.drop k) s w hd h2 hbd hb2)
      have hkc : (k : Int) ≤ cp := by omega
      have hkN : k ≤ n := by omega
      have hkC : k ≤ cp := by omega
      have hdk : cp = k → r.drop k = [] := fun e => List.drop_of_length_le (by omega)
      have HS0 : Hid (cp = k → Calls Tryd.prog 6 #[.slice (some ⟨g, o, none⟩) 0 0, .slice a2 m cp2] w fun e w' => e = .returned (.bool (decide (norm (r.drop k) = norm s))) ∧ Fr No w w') := hid (fun e => by
        have h1 := sameL_any E E2 (.slice (some ⟨g, o, none⟩) 0 0) _ (r.drop k) s w (by rw [hdk e]; exact nm_nil _ _ _ _) h2 hbd hb2
        exact h1)
      clear h h2 hb hb2 hn hm hu hbd hd hk hr0 hmn h0 h01 hdk
      by_cases hck : cp = k
      · subst hck
        have HS1 := hid (HS0.out rfl)
        clear HS0 HS hkc hkC
        go_enter Tryd.func7, Tryd.ntmps7
        go_wp2_with fail
        refine HS1.out.mono ?_
        rintro e w3 ⟨rfl, f3⟩
        have HF3 := hid f3
        clear f3
        go_wp2_with fail
        go_ret
        exact ⟨rfl, HF3.out⟩
      · clear HS0
        go_enter Tryd.func7, Tryd.ntmps7
        go_wp2_with fail
        refine HS.out.mono ?_
        rintro e w3 ⟨rfl, f3⟩
        have HF3 := hid f3
        clear f3
        go_wp2_with fail
        go_ret
        exact ⟨rfl, HF3.out⟩
  · rw [decide_eq_false hmn, Bool.false_and]
    have h1 : ¬ (0 : Int) ≤ (n : Int) - m := by omega
    clear h h2 hb hb2 hn hm hu hmn
    go_enter Tryd.func7, Tryd.ntmps7
    go_wp2
    go_ret
    exact ⟨rfl, Fr.refl _ _⟩
theorem norm_drop (n : Nm) (k : Nat) : norm (n.drop k) = (norm n).drop k := List.map_drop
theorem under_suffix (n b : Nm) : under n b = true ↔ norm b <:+ norm n := by
  unfold under
  rw [Bool.and_eq_true, decide_eq_true_iff, decide_eq_true_iff, norm_drop, List.suffix_iff_eq_drop, norm_length, norm_length]
  constructor
  · exact fun h => h.2.symm
  · intro h
    have hl := congrArg List.length h
    rw [List.length_drop, norm_length, norm_length] at hl
    exact ⟨by omega, h.symm⟩
theorem under_self (n : Nm) : under n n = true := (under_suffix n n).2 (List.suffix_refl _)
theorem under_trans {a b c : Nm} (h : under a b = true) (k : under b c = true) : under a c = true := (under_suffix a c).2 (((under_suffix b c).1 k).trans ((under_suffix a b).1 h))
theorem under_both (a b : Nm) : (under a b && under b a) = decide (norm a = norm b) := by
  rw [Bool.eq_iff_iff, Bool.and_eq_true, decide_eq_true_iff, under_suffix, under_suffix]
  constructor
  · rintro ⟨h1, h2⟩
    exact (h2.eq_of_length (Nat.le_antisymm h2.length_le h1.length_le))
  · intro h
    rw [h]
    exact ⟨List.suffix_refl _, List.suffix_refl _⟩
set_option maxHeartbeats 16000000 in
theorem dnOrder_walk {E E2 E3 : Nat → Prop} (v : Value) (n : Nm) (v2 : Value) (m : Nm) (v3 : Value) (l : Nm) (w : World) (hG : Gl w) (hn : NmIn E w v n) (hb : NmB 1048576 n) (hm : NmIn E2 w v2 m) (hb2 : NmB 1048576 m) (hl : NmIn E3 w v3 l) (hb3 : NmB 1048576 l) : Calls Tryd.prog 3 #[v, v2, v3] w fun e w' => e = .returned (.bool true) ∧ Fr No w w' := by
  have HG := hid hG
  obtain ⟨a, cp, rfl, -, -⟩ := hn.form
  obtain ⟨a2, cp2, rfl, -, -⟩ := hm.form
  obtain ⟨a3, cp3, rfl, -, -⟩ := hl.form
  have C1 := hid (fun W (hf : Fr No w W) => sameL_any E E _ _ n n W (hn.no hf) (hn.no hf) hb hb)
  have C2 := hid (fun W (hf : Fr No w W) => sameL_any E E2 _ _ n m W (hn.no hf) (hm.no hf) hb hb2)
  have C3 := hid (fun W (hf : Fr No w W) => sameL_any E2 E _ _ m n W (hm.no hf) (hn.no hf) hb2 hb)
  have C4 := hid (fun W (hf : Fr No w W) => underL_any E E2 _ _ n m W (hn.no hf) (hm.no hf) hb hb2)
  have C5 := hid (fun W (hf : Fr No w W) => underL_any E2 E3 _ _ m l W (hm.no hf) (hl.no hf) hb2 hb3)
  have C6 := hid (fun W (hf : Fr No w W) => underL_any E E3 _ _ n l W (hn.no hf) (hl.no hf) hb hb3)
  have C7 := hid (fun W (hf : Fr No w W) => underL_any E E _ _ n n W (hn.no hf) (hn.no hf) hb hb)
  have C8 := hid (fun W (hf : Fr No w W) => underL_any E2 E _ _ m n W (hm.no hf) (hn.no hf) hb2 hb)
  have e1 : decide (norm n = norm n) = true := decide_eq_true rfl
  have e3 : decide (norm m = norm n) = (under n m && under m n) := by rw [under_both]; exact decide_eq_decide.2 eq_comm
  rw [e1] at C1
  rw [← under_both] at C2
  rw [e3] at C3
  rw [under_self] at C7
  have HT := hid (fun h k => under_trans (a := n) (b := m) (c := l) h k)
  obtain ⟨X, hX⟩ : ∃ X, under n m = X := ⟨_, rfl⟩
  obtain ⟨Y, hY⟩ : ∃ X, under m l = X := ⟨_, rfl⟩
  obtain ⟨Z, hZ⟩ : ∃ X, under n l = X := ⟨_, rfl⟩
  obtain ⟨V, hV⟩ : ∃ X, under m n = X := ⟨_, rfl⟩
  rw [hX, hV] at C2 C3
  rw [hX] at C4 HT
  rw [hY] at C5 HT
  rw [hZ] at C6 HT
  rw [hV] at C8
  obtain ⟨AB, hAB⟩ : ∃ b, (X && V) = b := ⟨_, rfl⟩
  rw [hAB] at C2 C3
  have HAB := hid hAB
  clear hG hn hb hm hb2 hl hb3 e1 e3 hX hY hZ hV hAB
  go_enter Tryd.func3, Tryd.ntmps3
  go_wp2_with fail
  refine (awake_any w HG.out).mono ?_
  rintro e w1 ⟨rfl, f1⟩
  have HF1 := hid f1
  clear f1
  go_wp2_with fail
  refine (C1.out w1 HF1.out).mono ?_
  rintro e w2 ⟨rfl, f2⟩
  have HF2 := hid (HF1.out.trans' f2)
  clear f2 C1
  go_wp2_with fail
  refine (C2.out w2 HF2.out).mono ?_
  rintro e w3 ⟨rfl, f3⟩
  have HF3 := hid (HF2.out.trans' f3)
  clear f3 C2
  go_wp2_with fail
  refine (C3.out w3 HF3.out).mono ?_
  rintro e w4 ⟨rfl, f4⟩
  have HF4 := hid (HF3.out.trans' f4)
  clear f4 C3
  go_wp2_with fail
  refine (C4.out w4 HF4.out).mono ?_
  rintro e w5 ⟨rfl, f5⟩
  have HF5 := hid (HF4.out.trans' f5)
  clear f5 C4
  go_wp2_with fail
  refine (C5.out w5 HF5.out).mono ?_
  rintro e w6 ⟨rfl, f6⟩
  have HF6 := hid (HF5.out.trans' f6)
  clear f6 C5
  go_wp2_with fail
  refine (C6.out w6 HF6.out).mono ?_
  rintro e w7 ⟨rfl, f7⟩
  have HF7 := hid (HF6.out.trans' f7)
  clear f7 C6
  go_wp2_with fail
  refine (C7.out w7 HF7.out).mono ?_
  rintro e w8 ⟨rfl, f8⟩
  have HF8 := hid (HF7.out.trans' f8)
  clear f8 C7
  go_wp2_with fail
  refine (C8.out w8 HF8.out).mono ?_
  rintro e w9 ⟨rfl, f9⟩
  have HF9 := hid (HF8.out.trans' f9)
  clear f9 C8 HF1 HF2 HF3 HF4 HF5 HF6 HF7 HF8
  have hT := HT.out
  obtain rfl := HAB.out
  clear HAB HT HG
  cases X <;> cases Y <;> cases Z <;> cases V
  all_goals first
    | (exfalso; have := hT rfl rfl; cases this; done)
    | (clear hT; go_wp2_with fail; go_ret; exact ⟨rfl, HF9.out⟩)
theorem normR_mem {r : Rd} {a : Av} (h : a ∈ normR r) : ∃ b ∈ r, a = foldA b := by
  obtain ⟨b, hb, rfl⟩ := List.mem_map.1 (srt_mem.1 h)
  exact ⟨b, hb, rfl⟩
theorem norm_bd {k : Nat} {n : Nm} (h : NmB k n) : NmB k (norm n) := by
  refine ⟨by rw [norm_length]; exact h.1, fun q hq => ?_⟩
  obtain ⟨r, hr, rfl⟩ := List.mem_map.1 hq
  have h1 := h.2 r hr
  refine ⟨by rw [normR, srt_len, List.length_map]; exact h1.1, fun a ha => ?_⟩
  obtain ⟨b, hb, rfl⟩ := normR_mem ha
  have h2 := h1.2 b hb
  have h3 := fold_len b.2
  exact ⟨by rw [foldA, low_length]; exact h2.1, Nat.le_trans h3 h2.2⟩
set_option maxHeartbeats 16000000 in
theorem dnFolds_walk {E : Nat → Prop} (t : B) (v : Value) (n : Nm) (w : World) (hG : Gl w) (ht : t.length ≤ 1048576) (hn : NmIn E w v n) (hb : NmB 1048576 n) : Calls Tryd.prog 4 #[.string (sb t), v] w fun e w' => e = .returned (.bool true) ∧ Fr No w w' := by
  have HG := hid hG
  have HN := hid hn; have HB := hid hb
  have C1 := hid (fun W => fold_any t (by omega) W)
  have C2 := hid (fun W => fold_any (fold t) (by have := fold_len t; omega) W)
  rw [fold_fold] at C2
  obtain ⟨a, cp, rfl, -, -⟩ := hn.form
  have HL := hid (fold_len t)
  obtain ⟨s, hs⟩ : ∃ s, fold t = s := ⟨_, rfl⟩
  rw [hs] at C1 C2 HL
  obtain ⟨ST, hST⟩ : ∃ S, sb t = S := ⟨_, rfl⟩
  obtain ⟨SS, hSS⟩ : ∃ S, sb s = S := ⟨_, rfl⟩
  have hzt : (ST.size : Int) = t.length := by rw [← hST, sb_size]
  have hzs : (SS.size : Int) = s.length := by rw [← hSS, sb_size]
  have hle : (s.length : Int) ≤ t.length := by have := HL.out; omega
  have HSS := hid hSS
  rw [hST] at C1 ⊢
  rw [hSS] at C1 C2
  clear hG hn hb ht hs hST hSS HL
  go_enter Tryd.func4, Tryd.ntmps4
  go_wp2_with fail
  refine (awake_any w HG.out).mono ?_
  rintro e w1 ⟨rfl, f1⟩
  have HF1 := hid f1
  clear f1
  go_wp2_with fail
  refine (C1.out w1).mono ?_
  rintro e w2 ⟨rfl, f2⟩
  have HF2 := hid (HF1.out.trans' f2)
  clear f2 C1
  go_wp2_with fail
  refine (C2.out w2).mono ?_
  rintro e w3 ⟨rfl, f3⟩
  have HF3 := hid (HF2.out.trans' f3)
  clear f3 C2
  go_wp2_with fail
  refine (normL_any E _ n w3 (HN.out.no HF3.out) HB.out).mono ?_
  rintro e w4 ⟨v4, rfl, h4, f4⟩
  have HF4 := hid (HF3.out.trans' f4)
  have H4 := hid h4
  obtain ⟨a4, c4, rfl, -, -⟩ := h4.form
  clear f4 h4
  go_wp2_with fail
  have HBN := hid (norm_bd HB.out)
  have C5 := normL_any _ _ (norm n) w4 H4.out HBN.out
  rw [norm_norm] at C5
  refine C5.mono ?_
  rintro e w5 ⟨v5, rfl, h5, f5⟩
  have HF5 := hid (HF4.out.trans' f5)
  have H45 := hid (H4.out.no f5)
  have H5 := hid h5
  obtain ⟨a5, c5, rfl, -, -⟩ := h5.form
  clear f5 h5 C5 H4
  go_wp2_with fail
  have C6 := one_any _ _ _ _ (norm n) (norm n) w5 H45.out H5.out
  rw [decide_eq_true rfl] at C6
  refine C6.mono ?_
  rintro e w6 ⟨rfl, f6⟩
  have HF6 := hid (HF5.out.trans' f6)
  have H46 := hid (H45.out.no f6)
  clear f6 C6 H45 H5
  go_wp2_with fail
  have C7 := sameL_any _ _ _ _ n (norm n) w6 (HN.out.no HF6.out) H46.out HB.out HBN.out
  rw [norm_norm, decide_eq_true rfl] at C7
  refine C7.mono ?_
  rintro e w7 ⟨rfl, f7⟩
  have HF7 := hid (HF6.out.trans' f7)
  clear f7 C7
  go_wp2_with (first
    | ((with_reducible refine K.atO (.binOp .eql 9 _ _ _) ?_); refine wpL_valZ (by rfl) (.bool true) (exec_eqT _ _ _ rfl s s true (decide_eq_true rfl) (by exact congrArg Value.string HSS.out.symm) (by exact congrArg Value.string HSS.out.symm) _) ?_)
    | fail)
  go_ret
  exact ⟨rfl, HF7.out⟩
end Go.Proofs.YtnjemnmhkhkpeaaDoor.DN
