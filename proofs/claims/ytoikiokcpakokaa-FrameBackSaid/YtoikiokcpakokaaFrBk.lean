/-
  FrameBack: frames that were written, one behind the other, are told, each, and nothing waits.
-/
import Derived.Test.YtoikiokcpakokaaFrW
import Derived.Test.YtoikiokcpakokaaBeE
set_option linter.unusedVariables false
set_option linter.unusedSimpArgs false
namespace Go.Proofs.Ytoikiokcpakokaa.FR
set_option maxRecDepth 100000
open Go.RowKit K Go.Proofs.Ytoikiokcpakokaa.BE

theorem infozN4 : (Try.prog.info? 40).map (fun i => (i.zero, i.size, i.bytes)) = some (some (.agg #[.int .i64 0, .string ⟨#[]⟩, .slice none 0 0]), 3, 48) := by kernel_rfl
/-- A frame's contents are one leaf. -/
def fNd (b : B) : Nd := .mk 48 [] [.mk 4 b []]
theorem frame_enc {n : Nd} (ht : n.tag = 48) (he : errN n = 0) : (∀ r, szF (encS n ++ r) = .ok (encS n).length) ∧ (encS n).length ≤ 4004 := by
  obtain ⟨h1, h2, h3⟩ := err_zero.1 he
  have hc : (cont 7 n).length ≤ 4000 := by
    have h : (n.kids.all (fits 7) && decide ((cont 7 n).length ≤ 4000)) = true := h3
    simp only [Bool.and_eq_true, decide_eq_true_eq] at h
    exact h.2
  have e : encS n = 48 :: (lenB (cont 7 n).length ++ cont 7 n) := by
    unfold encS
    rw [if_pos he, enc_succ, ht]
    rfl
  have hl := len_pos (cont 7 n).length
  refine ⟨fun r => ?_, ?_⟩
  · rw [e]
    have hd := hd_enc (t := 48) (by decide) hc (cont 7 n ++ r)
    show szF (48 :: (lenB (cont 7 n).length ++ cont 7 n ++ r)) = _
    rw [List.append_assoc]
    unfold szF
    simp only
    rw [if_pos (by decide), hd]
    simp only
    rw [if_neg (by simp; omega)]
    congr 1
    simp
    omega
  · rw [e]
    simp
    omega
/-- Frames that were written. -/
def Frs (xs : List B) : Prop := ∀ x ∈ xs, (∀ r, szF (x ++ r) = .ok x.length) ∧ x.length ≤ 4004
theorem cut_frs : ∀ (xs : List B), Frs xs → cut xs.flatten = (xs, some [])
  | [], _ => rfl
  | x :: r, h => by
    have hx := (h x (by simp)).1 r.flatten
    rw [List.flatten_cons, cut_ok hx, List.take_left, List.drop_left, cut_frs r fun y hy => h y (by simp [hy])]
theorem frs_len : ∀ (xs : List B), Frs xs → xs.flatten.length ≤ 4004 * xs.length
  | [], _ => Nat.le_refl _
  | x :: r, h => by
    have h1 := (h x (by simp)).2
    have h2 := frs_len r fun y hy => h y (by simp [hy])
    rw [List.flatten_cons, List.length_append, List.length_cons]
    omega
theorem Frs.snoc {xs : List B} {x : B} (h : Frs xs) (hx : (∀ r, szF (x ++ r) = .ok x.length) ∧ x.length ≤ 4004) : Frs (xs ++ [x]) := fun y hy => by
  rcases List.mem_append.1 hy with hy | hy
  · exact h y hy
  · rw [List.mem_singleton.1 hy]; exact hx
set_option maxHeartbeats 16000000 in
theorem frameBack_walk (v0 : Value) (X : List B) (w : World) (h0 : TxIn w (fun k => k < w.heap.size) v0 X) (hX : ∀ x ∈ X, x.length ≤ 140737488351232) : Calls Try.prog 5 #[v0] w fun e w' => e = .returned (.bool true) ∧ Fr No w w' := by
  obtain ⟨a0, n0, c0, rfl, hn0, -, hA0⟩ := h0
  have HN0 := hid hn0; have HA0 := hid hA0; have HX := hid hX
  clear hn0 hA0 hX
  obtain ⟨is, his, hzs, hss, hbs⟩ := Go.info_parts infoS3
  have HIS := hid his; have HZS := hid hzs; have HSS := hid hss; have HBS := hid hbs
  obtain ⟨ic, hic, hzc, hsc, hbc⟩ := Go.info_parts infozN4
  have IC := hid hic; have ZC := hid hzc; have SC := hid hsc; have BC := hid hbc
  clear his hzs hss hbs hic hzc hsc hbc
  go_enter Try.func5, Try.ntmps5
  go_wp2_with fail
  refine (awake_any w).mono ?_
  rintro e w1 ⟨rfl, f1⟩
  have F1 := hid f1
  clear f1
  go_wp2_with fail
  refine (new_any w1).mono ?_
  rintro e w2 ⟨rfl, hb2, f2, hs2⟩
  obtain ⟨bf, hbf⟩ : ∃ x, w1.heap.size = x := ⟨_, rfl⟩
  rw [hbf] at hb2 ⊢
  have HN : Hid (w.heap.size ≤ bf ∧ w2.heap.size = bf + 1) := hid (by have := F1.out.size; omega)
  have HI0 : Hid (w2.ownsRow (bf + 1) 9 1 (.slice none 0 0) 0 (strs []) ∧ Frs [] ∧ FrAt w2 bf Fs.new ∧ Fr No w w2) := hid ⟨World.ownsRow_nil _ _ _ _, fun x hx => (by cases hx), hb2, F1.out.trans' f2⟩
  have he0 : (.string ⟨#[]⟩ : Value) = .string (sb ([] : List B).flatten) := rfl
  have HE0 := hid he0
  clear hb2 f2 hs2 hbf F1 he0
  go_wp2_with fail
  go_loopw [5, 6, 7] (fun sv lv iv wr => ∃ (i : Nat) (xs : List B) (va : Option Addr) (vc : Nat), sv = .string (sb xs.flatten) ∧ lv = .slice va xs.length vc ∧ iv = .int .i64 i ∧ xs.length ≤ i ∧ i ≤ 30 ∧ Hid (wr.ownsRow (bf + 1) 9 1 (.slice va xs.length vc) xs.length (strs xs) ∧ Frs xs ∧ FrAt wr bf Fs.new ∧ Fr No w wr)) (fun _ _ iv _ => 30 - (intOf iv).toNat)
  case atStart => exact ⟨0, [], none, 0, rfl, rfl, rfl, Nat.le_refl _, by omega, HI0⟩
  case round =>
    clear HI0
    obtain ⟨i, xs, va, vc, rfl, rfl, rfl, hxi, hi30, HI⟩ := hrel
    obtain ⟨k, hk⟩ : ∃ k, xs.length = k := ⟨_, rfl⟩
    rw [hk] at hxi HI ⊢
    have HK := hid hk
    have hki : (k : Int) ≤ 30 := by omega
    have hii : (i : Int) ≤ 30 := by omega
    have HFL := hid (show xs.flatten.length ≤ 120120 by have := frs_len xs HI.out.2.1; rw [hk] at this; omega)
    clear hk
    by_cases hlt : i < n0 ∧ i < 30
    · have h1 : (i : Int) < n0 := by omega
      have h2 : (i : Int) < 30 := by omega
      obtain ⟨g, o, rfl, hg0, -, hr⟩ := HA0.out.resolve_left (by omega)
      have hiX : i < X.length := by rw [HN0.out]; exact hlt.1
      have k1 := cell_tx (HI.out.2.2.2.range hr id) hiX
      obtain ⟨x, hx⟩ : ∃ x, X[i] = x := ⟨_, rfl⟩
      rw [hx] at k1
      have HXL := hid (show x.length ≤ 140737488351232 by rw [← hx]; exact HX.out _ (List.getElem_mem _))
      have HLT := hid hlt
      clear hr hg0 hlt hx
      go_wp2_with (first
        | ((with_reducible show wpList _ _ _ (⟨_, .buildSlice 38 _ _, _, _, _, _⟩ :: _) _ _); refine wpL_buildOne rfl _ 40 _ rfl ic _ rfl IC.out ZC.out (by rw [SC.out]; decide) (by rw [SC.out]; decide) (.agg #[.int .i64 4, .string (sb x), .slice none 0 0]) [.int .i64 4, .string (sb x), .slice none 0 0] rfl rfl (by rw [SC.out]; rfl) ?_; intro w6 HB6 F6 HS6)
        | fail)
      have hnd : NdAt 2 (Lo w6.heap.size) w6 (fNd x) [.int .i64 48, .string ⟨#[]⟩, .slice (some ⟨wr.heap.size, 0, none⟩) 1 1] := by
        refine ⟨some ⟨wr.heap.size, 0, none⟩, 1, rfl, by simp [fNd, Nd.tag], by simp [fNd, Nd.body], by simp [fNd, Nd.kids], .inr ⟨wr.heap.size, 0, [[.int .i64 4, .string (sb x), .slice none 0 0]], rfl, HB6.out.lt, HB6.out.lt, HB6.out.range 0 _ rfl, rfl, ?_⟩⟩
        intro j x' c' hx hc
        match j, hx, hc with
        | 0, hx, hc =>
          cases hx; cases hc
          exact ⟨none, 0, rfl, by simp [Nd.tag], HXL.out, by simp [Nd.kids], .inl rfl⟩
        | j + 1, hx, hc => simp at hc
      refine (encode_any 2 w6.heap.size (fNd x) [.int .i64 48, .string ⟨#[]⟩, .slice (some ⟨wr.heap.size, 0, none⟩) 1 1] w6 hnd (Nat.le_refl _)).mono ?_
      rintro e w7 ⟨rfl, f7⟩
      have F7 := hid (F6.out.trans' f7)
      obtain ⟨er, her⟩ : ∃ er, errN (fNd x) = er := ⟨_, rfl⟩
      obtain ⟨y, hy⟩ : ∃ y, encS (fNd x) = y := ⟨_, rfl⟩
      rw [her, hy]
      have HER := hid her; have HY := hid hy
      clear f7 hnd her hy k1
      by_cases he : er = 0
      · subst he
        obtain ⟨hy1, hy2⟩ := frame_enc (n := fNd x) rfl HER.out
        rw [HY.out] at hy1 hy2
        have HYF := hid hy1; have HYL := hid hy2
        obtain ⟨Z, hZ⟩ : ∃ Z, xs.flatten ++ y = Z := ⟨_, rfl⟩
        have HZ := hid hZ
        obtain ⟨SY, hSY⟩ : ∃ SY, sb y = SY := ⟨_, rfl⟩
        have HSY := hid hSY
        rw [hSY]
        clear hy1 hy2 hZ hSY
        show (match Ending.returned (Value.tuple #[.string SY, .int .i64 0]), w7 with | _, _ => _)
        go_wp2_with (first
          | ((with_reducible show wpList _ _ _ (⟨_, .binOp .add 9 _ _ _, _, _, _, _⟩ :: _) _ _); refine wpL_valZ (by rfl) (.string (sb Z)) (by rw [← HSY.out]; exact exec_addS _ _ _ rfl xs.flatten y rfl rfl (by have := HFL.out; have := HYL.out; omega) Z HZ.out _) ?_)
          | ((with_reducible show wpList _ _ _ (⟨_, .buildSlice 22 _ _, _, _, _, _⟩ :: _) _ _); refine wpL_buildOne rfl _ 9 _ rfl is _ rfl HIS.out HZS.out (by rw [HSS.out]; decide) (by rw [HSS.out]; decide) _ [.string SY] rfl rfl (by rw [HSS.out]; rfl) ?_; intro w8 HA8 FA8 SA8)
          | ((with_reducible show wpList _ _ _ (⟨_, .call { callee := .builtin .append, args := _, argTypes := _ }, _, _, _, _⟩ :: _) _ _); refine wpL_append rfl _ _ 22 rfl (bf + 1) 9 is _ 1 16 Try.underlying22 HIS.out HZS.out HSS.out HBS.out rfl (by decide) (.slice va k vc) k (strs xs) rfl (own_fr2 (own_fr2 HI.out.1 F7.out (fun _ _ e => e)) FA8.out (fun _ _ e => e)) (some ⟨w7.heap.size, 0, none⟩) 1 _ [.string SY] rfl rfl (.inr ⟨_, rfl, HA8.out.news⟩) (by intro u hu; simp at hu; subst hu; rfl) (by unfold maxLen; omega) (by omega) (by have h1 := HI.out.2.2.1.lt; have h2 := F7.out.size; have h3 := FA8.out.size; omega) ?_; intro a9 c9 w9 HO9 HG9 HA9)
          | fail)
        go_roundw
        case rel =>
          have hfr : Fr (fun i => bf + 1 ≤ i) wr w9 := (F7.out.no.trans' FA8.out.no).trans' ((frown HG9.out).mono fun i e => (own_ge HI.out.1 i e).1)
          refine ⟨i + 1, xs ++ [y], a9, c9, ?_, ?_, by go_num, ?_, by have := HLT.out; omega, hid ⟨?_, HI.out.2.1.snoc ⟨HYF.out, HYL.out⟩, HI.out.2.2.1.fr hfr (by omega), HI.out.2.2.2.trans hfr fun i e => .inr (by have := HN.out; omega)⟩⟩
          · rw [← HZ.out]; simp
          · simp [HK.out]
          · rw [List.length_append, HK.out, List.length_singleton]; omega
          · have ho := HO9.out
            rw [← HSY.out] at ho
            have hl : (xs ++ [y]).length = k + 1 := by rw [List.length_append, HK.out]; rfl
            rw [hl]
            simpa [strs] using ho
        case measure => have := HLT.out; simp [intOf]; omega
      · have hei : ((er : Int) == 0) = false := by simp; omega
        have hein : ¬ (er : Int) = 0 := by omega
        have HE := hid he
        obtain ⟨SY, hSY⟩ : ∃ SY, sb y = SY := ⟨_, rfl⟩
        rw [hSY]
        clear he hSY
        show (match Ending.returned (Value.tuple #[.string SY, .int .i64 (er : Int)]), w7 with | _, _ => _)
        go_wp2_with fail
        go_roundw
        case rel =>
          refine ⟨i + 1, xs, va, vc, rfl, by rw [HK.out], by go_num, by rw [HK.out]; omega, by have := HLT.out; omega, hid ⟨?_, HI.out.2.1, HI.out.2.2.1.fr F7.out id, HI.out.2.2.2.trans' F7.out⟩⟩
          rw [HK.out]
          exact own_fr2 HI.out.1 F7.out fun _ _ e => e
        case measure => have := HLT.out; simp [intOf]; omega
    · have HDONE : Hid (TxIn wr (fun j => bf + 1 ≤ j) (.slice va k vc) xs) := hid (own_tx HI.out.1)
      have hcut := cut_frs xs HI.out.2.1
      have hfd := fd_some (q := []) (c := xs.flatten) hcut
      have HFD := hid hfd
      have hstep : ¬ ((i : Int) < n0 ∧ (i : Int) < 30) := by omega
      obtain ⟨fl, hfl⟩ : ∃ fl, xs.flatten = fl := ⟨_, rfl⟩
      rw [hfl] at HFD HFL ⊢
      clear hcut hfd hfl
      have fin : ∀ w8, Fr No wr w8 → Calls Try.prog 9 #[.pointer (some ⟨bf, 0, none⟩), .string (sb fl)] w8 fun e w' =>
          ∃ a cap, e = .returned (.tuple #[.slice a xs.length cap, .int .i64 0]) ∧ TxIn w' (fun k => w8.heap.size ≤ k) (.slice a xs.length cap) xs ∧ FrAt w' bf ⟨[], false⟩ ∧ Fr (fun k => k = bf) w8 w' := fun w8 f8 =>
        feed_at bf Fs.new fl w8 xs 0 ⟨[], false⟩ (HI.out.2.2.1.fr f8 id) (by have := HFL.out; simp [Fs.new]; omega) HFD.out.2.1 HFD.out.1 HFD.out.2.2
      have FIN := hid fin
      clear fin
      by_cases h1 : (i : Int) < n0
      · have h2 : ¬ (i : Int) < 30 := fun h => hstep ⟨h1, h⟩
        clear hlt hstep
        go_wp2_with fail
        refine (FIN.out wr (Fr.refl _ _)).mono ?_
        rintro e w8 ⟨a8, c8, rfl, ht8, hb8, f8⟩
        rw [HK.out] at ht8 ⊢
        have HT8 := hid ht8; have HB8 := hid hb8; have F8 := hid f8
        clear ht8 hb8 f8
        go_wp2_with fail
        refine (texts_any _ _ _ _ xs xs w8 HT8.out (HDONE.out.fr F8.out fun j hj _ e => by have e : j = bf := e; omega) (by rw [HK.out]; omega) (by rw [HK.out]; omega)).mono ?_
        rintro e w9 ⟨rfl, f9⟩
        rw [decide_eq_true rfl]
        have F9 := hid f9
        have HB9 : Hid (FrAt w9 bf ⟨[], false⟩) := hid (HB8.out.fr f9 id)
        clear f9
        go_wp2_with fail
        refine (waiting_any bf _ w9 HB9.out).mono ?_
        rintro e w10 ⟨rfl, rfl⟩
        go_wp2_with fail
        go_ret
        exact ⟨rfl, (HI.out.2.2.2.trans F8.out fun j e => .inr (by have e : j = bf := e; have := HN.out; omega)).trans' F9.out⟩
      · clear hlt hstep
        go_wp2_with fail
        refine (FIN.out wr (Fr.refl _ _)).mono ?_
        rintro e w8 ⟨a8, c8, rfl, ht8, hb8, f8⟩
        rw [HK.out] at ht8 ⊢
        have HT8 := hid ht8; have HB8 := hid hb8; have F8 := hid f8
        clear ht8 hb8 f8
        go_wp2_with fail
        refine (texts_any _ _ _ _ xs xs w8 HT8.out (HDONE.out.fr F8.out fun j hj _ e => by have e : j = bf := e; omega) (by rw [HK.out]; omega) (by rw [HK.out]; omega)).mono ?_
        rintro e w9 ⟨rfl, f9⟩
        rw [decide_eq_true rfl]
        have F9 := hid f9
        have HB9 : Hid (FrAt w9 bf ⟨[], false⟩) := hid (HB8.out.fr f9 id)
        clear f9
        go_wp2_with fail
        refine (waiting_any bf _ w9 HB9.out).mono ?_
        rintro e w10 ⟨rfl, rfl⟩
        go_wp2_with fail
        go_ret
        exact ⟨rfl, (HI.out.2.2.2.trans F8.out fun j e => .inr (by have e : j = bf := e; have := HN.out; omega)).trans' F9.out⟩
end Go.Proofs.Ytoikiokcpakokaa.FR
