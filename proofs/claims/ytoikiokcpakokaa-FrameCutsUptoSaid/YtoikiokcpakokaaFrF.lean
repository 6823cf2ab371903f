/-
  Package frame: Feed.
-/
import Derived.Test.YtoikiokcpakokaaFrM
set_option linter.unusedVariables false
set_option linter.unusedSimpArgs false
namespace Go.Proofs.Ytoikiokcpakokaa.FR
set_option maxRecDepth 100000
open Go.RowKit K Go.Proofs.Ytoikiokcpakokaa.BE

/-- Between two rounds: k frames have come. -/
def Loo (w0 : World) (b b0 b1 b2 b3 n : Nat) (f : Fs) (S : B) (fs : List B) (r : Option B) (k : Nat) (W : World) : Prop :=
  ∃ v rest, W.ownsRow (n + 2) 9 1 v k (strs (fs.take k)) ∧ k ≤ fs.length ∧ cut rest = (fs.drop k, r) ∧ rest.length ≤ S.length ∧
    Blk W b0 24 [.pointer (some ⟨b, 0, none⟩)] ∧ Blk W b1 22 [v] ∧ Blk W b2 29 [.int .i64 0] ∧ Blk W b3 9 [.string (sb rest)] ∧ FrAt W b f ∧ Fr No w0 W
/-- A round has returned. -/
def LooX (w0 : World) (b b1 b2 n : Nat) (fs : List B) (W : World) : Prop :=
  ∃ v, W.ownsRow (n + 2) 9 1 v fs.length (strs fs) ∧ Blk W b1 22 [v] ∧ Blk W b2 29 [.int .i64 100] ∧ FrAt W b ⟨[], true⟩ ∧ Fr (fun i => i = b) w0 W
theorem own_fr2 {w w' : World} {D : Nat → Prop} {base : Nat} {e : TypeId} {v : Value} {k : Nat} {xs : List Value} (h : w.ownsRow base e 1 v k xs) (hf : Fr D w w') (hD : ∀ i, base ≤ i → ¬ D i) : w'.ownsRow base e 1 v k xs :=
  own_fr h hf fun i hi => hD i (own_ge h i hi).1
theorem Loo.fr {w0 : World} {b b0 b1 b2 b3 n : Nat} {f : Fs} {S : B} {fs : List B} {r : Option B} {k : Nat} {A B : World} {D : Nat → Prop} (h : Loo w0 b b0 b1 b2 b3 n f S fs r k A) (hf : Fr D A B)
    (hD : ∀ i, D i → w0.heap.size ≤ i ∧ i < n + 2 ∧ i ≠ b ∧ i ≠ b0 ∧ i ≠ b1 ∧ i ≠ b2 ∧ i ≠ b3) : Loo w0 b b0 b1 b2 b3 n f S fs r k B := by
  obtain ⟨v, rest, h1, h2, h3, h4, h5, h6, h7, h8, h9, h10⟩ := h
  exact ⟨v, rest, own_fr2 h1 hf (fun i hi e => by have := (hD i e).2.1; omega), h2, h3, h4, h5.fr hf (fun e => (hD _ e).2.2.2.1 rfl), h6.fr hf (fun e => (hD _ e).2.2.2.2.1 rfl), h7.fr hf (fun e => (hD _ e).2.2.2.2.2.1 rfl), h8.fr hf (fun e => (hD _ e).2.2.2.2.2.2 rfl), h9.fr hf (fun e => (hD _ e).2.2.1 rfl), h10.trans hf fun i e => .inr (hD i e).1⟩
theorem LooX.fr {w0 : World} {b b1 b2 n : Nat} {fs : List B} {A B : World} {D : Nat → Prop} (h : LooX w0 b b1 b2 n fs A) (hf : Fr D A B)
    (hD : ∀ i, D i → w0.heap.size ≤ i ∧ i < n + 2 ∧ i ≠ b ∧ i ≠ b1 ∧ i ≠ b2) : LooX w0 b b1 b2 n fs B := by
  obtain ⟨v, h1, h2, h3, h4, h5⟩ := h
  exact ⟨v, own_fr2 h1 hf (fun i hi e => by have := (hD i e).2.1; omega), h2.fr hf (fun e => (hD _ e).2.2.2.1 rfl), h3.fr hf (fun e => (hD _ e).2.2.2.2 rfl), h4.fr hf (fun e => (hD _ e).2.2.1 rfl), h5.trans hf fun i e => .inr (hD i e).1⟩
theorem yl_get {s : B} {k : Nat} {x : Array Value} (h : (yl s)[k]? = some x) : (∃ hk : k < (cut s).1.length, x = #[.string (sb (cut s).1[k]), .bool true]) ∨ (k = (cut s).1.length ∧ (cut s).2 = none ∧ x = #[.string (sb []), .bool false]) := by
  unfold yl at h
  by_cases hk : k < (cut s).1.length
  · rw [List.getElem?_append_left (by simpa using hk)] at h
    simp [hk] at h
    exact .inl ⟨hk, h.symm⟩
  · rw [List.getElem?_append_right (by simpa using hk)] at h
    cases hr : (cut s).2 with
    | some r => rw [hr] at h; simp at h
    | none =>
      rw [hr] at h
      simp only [List.length_map] at h
      by_cases h0 : k - (cut s).1.length = 0
      · rw [h0] at h
        simp at h
        exact .inr ⟨by omega, rfl, h.symm⟩
      · rw [List.getElem?_eq_none (by simp; omega)] at h
        cases h
theorem yl_length (s : B) : (yl s).length = (cut s).1.length + (if (cut s).2 = none then 1 else 0) := by
  unfold yl
  rw [List.length_append, List.length_map]
  cases (cut s).2 <;> rfl
theorem cut_inv {s F : B} {fs : List B} {r : Option B} (h : cut s = (F :: fs, r)) : ∃ m, szF s = .ok m ∧ s.take m = F ∧ F.length = m ∧ m ≤ s.length ∧ cut (s.drop m) = (fs, r) := by
  cases hz : szF s with
  | error e =>
    by_cases he : e = 92
    · subst he; rw [cut_wait hz] at h; cases h
    · rw [cut_bad hz he] at h; cases h
  | ok m =>
    rw [cut_ok hz] at h
    obtain ⟨h1, h2, -⟩ := sz_ok hz
    simp only [Prod.mk.injEq, List.cons.injEq] at h
    obtain ⟨⟨h3, h4⟩, h5⟩ := h
    exact ⟨m, rfl, h3, by rw [← h3, List.length_take]; omega, h2, by rw [← h4, ← h5]⟩
theorem cut_rest {s r : B} (h : cut s = ([], some r)) : r = s := by
  obtain ⟨⟨q, h1, h2⟩, -⟩ := cut_all s.length s (Nat.le_refl _)
  rw [h] at h1 h2
  rw [h2 r rfl]
  simpa using h1.symm
/-- What Feed leaves. -/
def Feeds (b : Nat) (f : Fs) (c : B) (w : World) (e : Ending) (w' : World) : Prop :=
  ∃ v, e = .returned (.tuple #[v, .int .i64 (fdE f c : Int)]) ∧ TxIn w' (fun k => w.heap.size ≤ k) v (fdF f c) ∧ FrAt w' b (fdS f c) ∧ Fr (fun k => k = b) w w'
set_option maxHeartbeats 16000000 in
theorem feed_any (b : Nat) (f : Fs) (c : B) (w : World) (h : FrAt w b f) (hl : f.wait.length + c.length ≤ 1099511627776) : Calls Try.prog 9 #[.pointer (some ⟨b, 0, none⟩), .string (sb c)] w (Feeds b f c w) := by
  have HB := hid h; have HL := hid hl
  have HBW := hid h.lt
  obtain ⟨is, his, hzs, hss, hbs⟩ := Go.info_parts infoS3
  have HIS := hid his; have HZS := hid hzs; have HSS := hid hss; have HBS := hid hbs
  clear h hl his hzs hss hbs
  refine calls_marks Try.func9 rfl ?_
  simp only [Try.ntmps9, List.size_toArray, List.length_cons, List.length_nil, Nat.reduceAdd, Nat.reduceSub, Array.replicate_succ, Array.replicate_zero, List.push_toArray, List.append_toArray, List.nil_append, List.cons_append]
  go_wp2_with (first
    | ((with_reducible show wpList _ _ _ (⟨_, .box 24 _, _, _, _, _⟩ :: _) _ _); refine wpL_box rfl _ _ rfl _ rfl [.pointer (some ⟨b, 0, none⟩)] rfl ?_; intro w1 HB1 F1 HS1)
    | ((with_reducible show wpList _ _ _ (⟨_, .alloc 22, _, _, _, _⟩ :: _) _ _); refine wpL_alloc rfl _ rfl _ zeroSs [.slice none 0 0] rfl ?_; intro w2 HB2 F2 HS2)
    | ((with_reducible show wpList _ _ _ (⟨_, .alloc 29, _, _, _, _⟩ :: _) _ _); refine wpL_alloc rfl _ rfl _ zeroE [.int .i64 0] rfl ?_; intro w3 HB3 F3 HS3; refine Hid.out ?_)
    | fail)
  obtain ⟨b0, hb0⟩ : ∃ x, w.heap.size = x := ⟨_, rfl⟩
  obtain ⟨b1, hb1⟩ : ∃ x, w1.heap.size = x := ⟨_, rfl⟩
  obtain ⟨b2, hb2⟩ : ∃ x, w2.heap.size = x := ⟨_, rfl⟩
  have HR := hid (show Blk w3 b0 24 [.pointer (some ⟨b, 0, none⟩)] ∧ Blk w3 b1 22 [.slice none 0 0] ∧ Blk w3 b2 29 [.int .i64 0] ∧ FrAt w3 b f ∧ Fr No w w3 by
    have f13 := F2.out.trans' F3.out
    have f03 := F1.out.trans' f13
    rw [← hb0, ← hb1, ← hb2]
    exact ⟨HB1.out.fr f13 id, HB2.out.fr F3.out id, HB3.out, HB.out.fr f03 id, f03⟩)
  have HN := hid (show b < b0 ∧ b1 = b0 + 1 ∧ b2 = b0 + 2 ∧ w.heap.size = b0 ∧ w3.heap.size = b0 + 3 by
    have := HS1.out; have := HS2.out; have := HS3.out; have := HBW.out; omega)
  rw [hb0, hb1, hb2]
  clear HB1 F1 HS1 HB2 F2 HS2 HB3 F3 HS3 hb0 hb1 hb2 HB HBW
  obtain ⟨q, d⟩ := f
  have c0 : w3.cell? ⟨b0, 0, none⟩ = some (.pointer (some ⟨b, 0, none⟩)) := HR.out.1.cell 0
  have cw : w3.cell? ⟨b, 0, none⟩ = some (.string (sb q)) := HR.out.2.2.2.1.cell 0
  have cd : w3.cell? ⟨b, 1, none⟩ = some (.bool d) := HR.out.2.2.2.1.cell 1
  refine hid ?_
  cases d with
  | true =>
    go_wp2_with (first
      | ((with_reducible show wpList _ _ _ (⟨_, .store 22 _ _, _, _, _, _⟩ :: _) _ _); refine wpL_setV rfl _ _ _ rfl b1 0 (.slice none 0 0) rfl rfl rfl rfl _ _ HR.out.2.1 (by simp) infoSs ?_; intro w4 HB4 F4 HS4)
      | ((with_reducible show wpList _ _ _ (⟨_, .store 29 _ _, _, _, _, _⟩ :: _) _ _); refine wpL_setV rfl _ _ _ rfl b2 0 (.int .i64 100) rfl rfl rfl rfl _ _ (HR.out.2.2.1.fr F4.out (fun e => by have e : b2 = b1 := e; have := HN.out; omega)) (by simp) infoE ?_; intro w5 HB5 F5 HS5)
      | fail)
    have hn := HN.out
    have hb4 : Blk w5 b1 22 [.slice none 0 0] := HB4.out.fr F5.out (fun e => by have e : b1 = b2 := e; omega)
    have hb5 : Blk w5 b2 29 [.int .i64 100] := HB5.out
    refine marks_cc0 rfl rfl rfl hb4 Try.underlying22 rfl rfl hb5 Try.underlying29 rfl ?_
    have hf : Fr No w w5 := (HR.out.2.2.2.2.trans F4.out (fun i e => .inr (by have e : i = b1 := e; omega))).trans F5.out (fun i e => .inr (by have e : i = b2 := e; omega))
    refine ⟨_, rfl, tx_nil _ _ _ _, ?_, hf.no⟩
    exact (HR.out.2.2.2.1.fr F4.out (fun e => by have e : b = b1 := e; omega)).fr F5.out (fun e => by have e : b = b2 := e; omega)
  | false =>
    obtain ⟨S, hS⟩ : ∃ S, q ++ c = S := ⟨_, rfl⟩
    have HSQ := hid hS
    clear hS
    have hlS : S.length ≤ 1099511627776 := by rw [← HSQ.out, List.length_append]; exact HL.out
    have HLS := hid hlS
    clear hlS
    go_wp2_with (first
      | ((with_reducible show wpList _ _ _ (⟨_, .binOp .add 9 _ _ _, _, _, _, _⟩ :: _) _ _); refine wpL_valZ (by rfl) (.string (sb S)) (exec_addS _ _ _ rfl q c rfl rfl (by have := HL.out; simp only at this; omega) S HSQ.out _) ?_)
      | ((with_reducible show wpList _ _ _ (⟨_, .alloc 9, _, _, _, _⟩ :: _) _ _); refine wpL_alloc rfl _ rfl _ zeroS [.string ⟨#[]⟩] rfl ?_; intro w4 HB4 F4 HS4)
      | ((with_reducible show wpList _ _ _ (⟨_, .store 9 _ _, _, _, _, _⟩ :: _) _ _); refine wpL_setV rfl _ _ _ rfl w3.heap.size 0 (.string (sb S)) rfl rfl rfl rfl _ _ HB4.out (by simp) infoS ?_; intro w5 HB5 F5 HS5; (have cr : w5.cell? ⟨w3.heap.size, 0, none⟩ = some (.string (sb S)) := HB5.out.cell 0))
      | fail)
    refine (complete_any S w5).mono ?_
    rintro e w6 ⟨rfl, hx, f6, hs6⟩
    obtain ⟨b3, hb3⟩ : ∃ x, w3.heap.size = x := ⟨_, rfl⟩
    obtain ⟨bx, hbx⟩ : ∃ x, w5.heap.size = x := ⟨_, rfl⟩
    obtain ⟨⟨fs, r⟩, hcut⟩ : ∃ x, cut S = x := ⟨_, rfl⟩
    have HCUT := hid hcut
    have HNN := hid (show b < b0 ∧ b1 = b0 + 1 ∧ b2 = b0 + 2 ∧ b3 = b0 + 3 ∧ bx = b0 + 4 ∧ w6.heap.size = b0 + 5 ∧ w.heap.size = b0 by
      have := HN.out; have := HS4.out; have := HS5.out; omega)
    have HI0 : Hid (Loo w b b0 b1 b2 b3 (b0 + 5) ⟨q, false⟩ S fs r 0 w6) := hid (by
      have f36 : Fr No w3 w6 := (F4.out.trans F5.out (fun i e => .inr (by have e : i = w3.heap.size := e; omega))).trans' f6
      refine ⟨.slice none 0 0, S, World.ownsRow_nil _ _ _ _, Nat.zero_le _, by rw [hcut]; rfl, Nat.le_refl _, HR.out.1.fr f36 id, HR.out.2.1.fr f36 id, HR.out.2.2.1.fr f36 id, ?_, HR.out.2.2.2.1.fr f36 id, HR.out.2.2.2.2.trans' f36⟩
      rw [← hb3]
      exact Blk.fr (cs := [.string (sb S)]) HB5.out f6 id)
    have HX : Hid (Blk w6 bx 9 [.string (sb S)]) := hid (by rw [← hbx]; exact hx)
    have hw6 : w6.heap.size = b0 + 5 := HNN.out.2.2.2.2.2.1
    have HW6 := hid hw6
    rw [hb3, hbx]
    clear HN HR HB4 F4 HS4 HB5 F5 HS5 cr c0 cw cd hx f6 hs6 hb3 hbx hcut hw6
    go_wp2_with fail
    refine wp_rangeX2 (gf := 20) (lb := #[.pointer (some ⟨bx, 0, none⟩)]) rfl (fun vs w => by kernel_rfl) (bx := bx) (by have := HNN.out; omega)
      (complete_seq bx S (by have := HLS.out; omega) w6 HX.out) (fun k x hx => by rcases yl_get hx with ⟨_, rfl⟩ | ⟨_, _, rfl⟩ <;> exact ⟨_, _, rfl⟩) (by simp) (by simp) (by decide) (by decide)
      (Loo w b b0 b1 b2 b3 (b0 + 5) ⟨q, false⟩ S fs r) (fun _ W => r = none ∧ LooX w b b1 b2 (b0 + 5) fs W) ?_ ?_ HI0.out ?_ ?_ ?_
    · intro k A B h hf
      exact h.fr hf fun i e => by have := HNN.out; omega
    · intro k A B h hf
      exact ⟨h.1, h.2.fr hf fun i e => by have := HNN.out; omega⟩
    · rintro l k v0 v1 W hx hW hI
      simp only [List.setIfInBounds_toArray, List.set_cons_zero, List.set_cons_succ]
      rcases yl_get hx with ⟨hk, hv⟩ | ⟨hk, hr, hv⟩
      · rw [HCUT.out] at hk
        obtain ⟨F, hF⟩ : ∃ F, fs[k] = F := ⟨_, rfl⟩
        have hv' : v0 = .string (sb F) ∧ v1 = .bool true := by
          simp only [HCUT.out] at hv
          rw [hF] at hv
          simpa using hv
        obtain ⟨rfl, rfl⟩ := hv'
        obtain ⟨v, rest, h1, h2, h3, h4, h5, h6, h7, h8, h9, h10⟩ := hI
        rw [List.drop_eq_getElem_cons hk, hF] at h3
        obtain ⟨m, -, hFt, hFl, hml, hcd⟩ := cut_inv h3
        obtain ⟨va, vc, rfl, hvk, -⟩ := own_form h1
        have H1 := hid h1; have H5 := hid h5; have H6 := hid h6; have H7 := hid h7; have H8 := hid h8; have H9 := hid h9; have H10 := hid h10
        have hsz : ((sb F).size : Int) = m := by rw [sb_size, hFl]
        have hcr : W.cell? ⟨b3, 0, none⟩ = some (.string (sb rest)) := h8.cell 0
        have hcf : W.cell? ⟨b1, 0, none⟩ = some (.slice va k vc) := h6.cell 0
        have HC := hid hcd
        have HFS : Hid (fs.take k ++ [F] = fs.take (k + 1)) := hid (by rw [List.take_succ_eq_append_getElem hk, hF])
        have HK := hid (show k < fs.length ∧ fs.length ≤ S.length by
          refine ⟨hk, ?_⟩
          have := (cut_count S).1
          rw [HCUT.out] at this
          simp only at this
          omega)
        have HM := hid (show m ≤ rest.length ∧ rest.length ≤ S.length from ⟨hml, h4⟩)
        have HW := hid hW
        obtain ⟨SF, hSF⟩ : ∃ SF, sb F = SF := ⟨_, rfl⟩
        have HSF := hid hSF
        rw [hSF] at hsz ⊢
        clear h1 h2 h3 h4 h5 h6 h7 h8 h9 h10 hF hFt hFl hml hcd hk hx hv hvk hW hSF
        refine wpIn_block ?_
        refine wpIn_seq ?_
        refine wpIn_seq ?_
        refine wpIn_region_plain (by rfl) (fun ⟨_, _, h⟩ => h) ?_
        go_wp2_with fail
        refine wpIn_cond_false rfl ?_
        refine wpIn_skip ?_
        refine wpIn_seq ?_
        refine wpIn_region_plain (by rfl) (fun ⟨_, _, h⟩ => h) ?_
        have hb7 : b0 + 5 + 2 ≤ W.heap.size := by rw [← HW6.out]; exact HW.out
        have HB7 := hid hb7
        have hk1 : (k : Int) ≤ 1099511627776 := by have := HK.out; have := HLS.out; omega
        clear hb7
        go_wp2_with (first
          | ((with_reducible show wpList _ _ _ (⟨_, .buildSlice 22 _ _, _, _, _, _⟩ :: _) _ _); refine wpL_buildOne rfl _ 9 _ rfl is _ rfl HIS.out HZS.out (by rw [HSS.out]; decide) (by rw [HSS.out]; decide) _ [.string SF] rfl rfl (by rw [HSS.out]; rfl) ?_; intro W1 HA1 FA1 SA1)
          | ((with_reducible show wpList _ _ _ (⟨_, .call { callee := .builtin .append, args := _, argTypes := _ }, _, _, _, _⟩ :: _) _ _); refine wpL_append rfl _ _ 22 rfl (b0 + 5 + 2) 9 is _ 1 16 Try.underlying22 HIS.out HZS.out HSS.out HBS.out rfl (by decide) (.slice va k vc) k (strs (fs.take k)) rfl (own_fr2 H1.out FA1.out (fun _ _ e => e)) (some ⟨W.heap.size, 0, none⟩) 1 _ [.string SF] rfl rfl (.inr ⟨_, rfl, HA1.out.news⟩) (by intro u hu; simp at hu; subst hu; rfl) (by unfold maxLen; omega) (by omega) (Nat.le_trans HB7.out FA1.out.size) ?_; intro a2 cp2 W2 HO2 HG2 HA2;
              (have HF2 : Hid (Fr (fun i => (Value.slice va k vc).ownBlock = some i) W W2) := hid ((FA1.out.no).trans' (frown HG2.out)));
              (have HD2 : Hid (∀ i, (Value.slice va k vc).ownBlock = some i → b0 + 7 ≤ i) := hid fun i e => (own_ge H1.out i e).1))
          | ((with_reducible show wpList _ _ _ (⟨_, .store 22 _ _, _, _, _, _⟩ :: _) _ _); refine wpL_setV rfl _ _ _ rfl b1 0 (.slice a2 (k + 1) cp2) rfl rfl rfl rfl _ _ (H6.out.fr HF2.out (fun e => by have := HD2.out _ e; have := HNN.out; omega)) (by simp) infoSs ?_; intro W3 HB3 F3 HS3;
              (have HF3 : Hid (Fr (fun i => i = b1 ∨ b0 + 7 ≤ i) W W3) := hid ((HF2.out.mono fun i e => .inr (HD2.out i e)).trans' (F3.out.mono fun i e => .inl e)));
              (have hc3 : W3.cell? ⟨b3, 0, none⟩ = some (.string (sb rest)) := (H8.out.fr HF3.out (fun e => by have := HNN.out; omega)).cell 0))
          | fail)
        refine wpIn_region_plain (by rfl) (fun ⟨_, _, h⟩ => h) ?_
        obtain ⟨R', hR'⟩ : ∃ R', rest.drop m = R' := ⟨_, rfl⟩
        have HR' := hid hR'
        clear hR'
        go_wp2_with (first
          | ((with_reducible show wpList _ _ _ (⟨_, .slice 9 _ _ _ _, _, _, _, _⟩ :: _) _ _); refine wpL_valZ (by rfl) (.string (sb R')) (exec_from _ _ rfl rest m rfl rfl HM.out.1 R' HR'.out _) ?_)
          | ((with_reducible show wpList _ _ _ (⟨_, .store 9 _ _, _, _, _, _⟩ :: _) _ _); refine wpL_setV rfl _ _ _ rfl b3 0 (.string (sb R')) rfl rfl rfl rfl _ _ (H8.out.fr HF3.out (fun e => by have := HNN.out; omega)) (by simp) infoS ?_; intro W4 HB4 F4 HS4)
          | fail)
        have hf4 : Fr (fun i => i = b1 ∨ i = b3 ∨ b0 + 7 ≤ i) W W4 := (HF3.out.mono fun i e => by omega).trans' (F4.out.mono fun i e => .inr (.inl e))
        have hn := HNN.out
        refine ⟨KX_fr hf4 fun i hi => by rw [HW6.out] at hi; omega, .slice a2 (k + 1) cp2, R', ?_, HK.out.1, by rw [← HR'.out]; exact HC.out, ?_, H5.out.fr hf4 (by omega), ?_, H7.out.fr hf4 (by omega), HB4.out, H9.out.fr hf4 (by omega), H10.out.trans hf4 fun i e => .inr (by omega)⟩
        · have ho := HO2.out
          rw [← HSF.out] at ho
          have ho' : W2.ownsRow (b0 + 7) 9 1 (.slice a2 (k + 1) cp2) (k + 1) (strs (fs.take (k + 1))) := by
            rw [← HFS.out]
            simpa [strs] using ho
          exact own_fr2 (own_fr2 ho' F3.out fun i hi e => by have e : i = b1 := e; omega) F4.out fun i hi e => by have e : i = b3 := e; omega
        · rw [← HR'.out, List.length_drop]
          have := HM.out
          omega
        · exact Blk.fr (cs := [.slice a2 (k + 1) cp2]) HB3.out F4.out (fun e => by have e : b1 = b3 := e; omega)
      · obtain ⟨rfl, rfl⟩ : v0 = .string (sb []) ∧ v1 = .bool false := by simpa using hv
        rw [HCUT.out] at hk
        simp only at hk
        obtain ⟨v, rest, h1, h2, h3, h4, h5, h6, h7, h8, h9, h10⟩ := hI
        rw [hk, List.take_length] at h1
        obtain ⟨va, vc, rfl, hvk, -⟩ := own_form h1
        have H1 := hid h1; have H5 := hid h5; have H6 := hid h6; have H7 := hid h7; have H9 := hid h9; have H10 := hid h10
        have HRN : Hid (r = none) := hid (by rw [HCUT.out] at hr; exact hr)
        clear h1 h2 h3 h4 h6 h7 h8 h9 h10 hk hx hv hvk hW hr
        refine wpIn_block ?_
        refine wpIn_seq ?_
        refine wpIn_seq ?_
        refine wpIn_region_plain (by rfl) (fun ⟨_, _, h⟩ => h) ?_
        go_wp2_with fail
        refine wpIn_cond_true rfl ?_
        refine wpIn_seq ?_
        have cp : W.cell? ⟨b0, 0, none⟩ = some (.pointer (some ⟨b, 0, none⟩)) := h5.cell 0
        clear h5
        have hold : Facts.hold [(0, fun w' => w'.cell? ⟨b0, 0, none⟩ = some (.pointer (some ⟨b, 0, none⟩))), (1, fun w' => w'.cell? ⟨b0, 0, none⟩ = some (.pointer (some ⟨b, 0, none⟩)))] W.drew := Facts.cons_hold cp (Facts.cons_hold cp (Facts.nil_hold _))
        refine wpDIn_region (by rfl) (fun ⟨_, _, h⟩ => h) hold (by kernel_rfl) 8 rfl ?_
        (refine wpD_take 0 _ rfl (by kernel_rfl) (by kernel_rfl) (by kernel_rfl) (fun _ _ _ h => h) List.mem_cons_self (by rfl) (v := ?_) ?_ (by assumption) ?_; rotate_left; (intro _w _hw; go_simp; try with_reducible rfl); simp only [Act.put, List.setIfInBounds_toArray, List.set_cons_zero, List.set_cons_succ])
        (refine wpD_take 1 _ rfl (by kernel_rfl) (by kernel_rfl) (by kernel_rfl) (fun _ _ _ h => h) (List.mem_cons_of_mem _ List.mem_cons_self) (by rfl) (v := ?_) ?_ (by assumption) ?_; rotate_left; (intro _w _hw; go_simp; try with_reducible rfl); simp only [Act.put, List.setIfInBounds_toArray, List.set_cons_zero, List.set_cons_succ])
        (refine wpD_plain 2 (v := ?_) rfl (by kernel_rfl) (by kernel_rfl) (by kernel_rfl) (fun _ _ _ h => h) (by rfl) ?_ (by assumption) ?_; rotate_left; (intro _w; go_simp; try with_reducible rfl); simp only [Act.put, List.setIfInBounds_toArray, List.set_cons_zero, List.set_cons_succ])
        (refine wpD_plain 3 (v := ?_) rfl (by kernel_rfl) (by kernel_rfl) (by kernel_rfl) (fun _ _ _ h => h) (by rfl) ?_ (by assumption) ?_; rotate_left; (intro _w; go_simp; try with_reducible rfl); simp only [Act.put, List.setIfInBounds_toArray, List.set_cons_zero, List.set_cons_succ])
        clear hold
        refine wpD_only 4 [(1, fun w' => w'.cell? ⟨b0, 0, none⟩ = some (.pointer (some ⟨b, 0, none⟩)))] rfl (by kernel_rfl) (by kernel_rfl) (by rfl) (fun K4 hK4 => ?_)
        refine wp_storeV _ _ _ rfl b 0 (.string ⟨#[]⟩) [.string ⟨#[]⟩] rfl rfl rfl _ _ H9.out (by simp) infoS (by intro u hu; simp at hu; subst hu; rfl) ?_
        intro W1 HA1 FA1 SA1
        have FA : Hid (Fr (fun i => i = b) W W1) := hid ((Fr.refl _ W).drew.trans' FA1.out)
        refine hK4 _ _ (Facts.cons_hold ((H5.out.fr FA.out (fun e => by have e : b0 = b := e; have := HNN.out; omega)).cell 0) (Facts.nil_hold _)) ?_
        clear hK4 K4
        simp only [Act.put, List.setIfInBounds_toArray, List.set_cons_zero, List.set_cons_succ]
        have hold : Facts.hold [(1, fun w' => w'.cell? ⟨b0, 0, none⟩ = some (.pointer (some ⟨b, 0, none⟩)))] W1 := Facts.cons_hold ((H5.out.fr FA.out (fun e => by have e : b0 = b := e; have := HNN.out; omega)).cell 0) (Facts.nil_hold _)
        (refine wpD_plain 5 (v := ?_) rfl (by kernel_rfl) (by kernel_rfl) (by kernel_rfl) (fun _ _ _ h => h) (by rfl) ?_ (by assumption) ?_; rotate_left; (intro _w; go_simp; try with_reducible rfl); simp only [Act.put, List.setIfInBounds_toArray, List.set_cons_zero, List.set_cons_succ])
        (refine wpD_plain 6 (v := ?_) rfl (by kernel_rfl) (by kernel_rfl) (by kernel_rfl) (fun _ _ _ h => h) (by rfl) ?_ (by assumption) ?_; rotate_left; (intro _w; go_simp; try with_reducible rfl); simp only [Act.put, List.setIfInBounds_toArray, List.set_cons_zero, List.set_cons_succ])
        clear hold
        refine wpD_only 7 [] rfl (by kernel_rfl) (by kernel_rfl) (by rfl) (fun K7 hK7 => ?_)
        refine wp_storeV _ _ _ rfl b 1 (.bool true) [.bool true] rfl rfl rfl _ _ HA1.out (by simp [spl]) infoB4 (by intro u hu; simp at hu; subst hu; rfl) ?_
        intro W2 HA2 FA2 SA2
        refine hK7 _ _ (Facts.nil_hold _) ?_
        clear hK7 K7
        simp only [Act.put, List.setIfInBounds_toArray, List.set_cons_zero, List.set_cons_succ]
        refine wpD_done (by kernel_rfl) ?_ _
        have HF2 : Hid (Fr (fun i => i = b) W W2) := hid (FA.out.trans' FA2.out)
        have HBF : Hid (FrAt W2 b ⟨[], true⟩) := hid (by
          have h := HA2.out
          exact h)
        show (Code.seq _ _).wpIn _ _ _ _ _ _
        refine wpIn_seq ?_
        refine wpIn_region_plain (by rfl) (fun ⟨_, _, h⟩ => h) ?_
        have hcf : W2.cell? ⟨b1, 0, none⟩ = some (.slice va fs.length vc) := (H6.out.fr HF2.out (fun e => by have e : b1 = b := e; have := HNN.out; omega)).cell 0
        go_wp2_with (first
          | ((with_reducible show wpList _ _ _ (⟨_, .store 22 _ _, _, _, _, _⟩ :: _) _ _); refine wpL_setV rfl _ _ _ rfl b1 0 (.slice va fs.length vc) rfl rfl rfl rfl _ _ (H6.out.fr HF2.out (fun e => by have e : b1 = b := e; have := HNN.out; omega)) (by simp) infoSs ?_; intro W3 HB3 F3 HS3)
          | ((with_reducible show wpList _ _ _ (⟨_, .store 29 _ _, _, _, _, _⟩ :: _) _ _); refine wpL_setV rfl _ _ _ rfl b2 0 (.int .i64 100) rfl rfl rfl rfl _ _ ((H7.out.fr HF2.out (fun e => by have e : b2 = b := e; have := HNN.out; omega)).fr F3.out (fun e => by have e : b2 = b1 := e; have := HNN.out; omega)) (by simp) infoE ?_; intro W4 HB4 F4 HS4)
          | fail)
        have hn := HNN.out
        have hf4 : Fr (fun i => i = b ∨ i = b1 ∨ i = b2) W W4 := ((HF2.out.mono fun i e => .inl e).trans' (F3.out.mono fun i e => .inr (.inl e))).trans' (F4.out.mono fun i e => .inr (.inr e))
        have hf2 : Fr (fun i => i = b1 ∨ i = b2) W2 W4 := (F3.out.mono fun i e => .inl e).trans' (F4.out.mono fun i e => .inr e)
        refine wpIn_ret ?_
        refine ⟨KX_fr hf4 fun i hi => by rw [HW6.out] at hi; omega, HRN.out, .slice va fs.length vc, own_fr2 H1.out hf4 (fun i hi => by omega), Blk.fr (cs := [.slice va fs.length vc]) HB3.out F4.out (fun e => by have e : b1 = b2 := e; omega), HB4.out, HBF.out.fr hf2 (by omega), ?_⟩
        exact (H10.out.no (D := fun i => i = b)).trans hf4 fun i e => by omega
    · intro W hI hK
      obtain ⟨v, rest, h1, h2, h3, h4, h5, h6, h7, h8, h9, h10⟩ := hI
      rw [yl_length, HCUT.out] at h1 h2 h3
      simp only at h1 h2 h3
      obtain ⟨rr, rfl⟩ : ∃ rr, r = some rr := by
        cases r with
        | none => simp at h2; omega
        | some rr => exact ⟨rr, rfl⟩
      simp only [reduceCtorEq, if_false, Nat.add_zero] at h1 h3
      rw [List.take_length] at h1
      rw [List.drop_length] at h3
      have hrr := cut_rest h3
      subst hrr
      obtain ⟨va, vc, rfl, hvk, -⟩ := own_form h1
      have H1 := hid h1; have H5 := hid h5; have H6 := hid h6; have H7 := hid h7; have H8 := hid h8; have H9 := hid h9; have H10 := hid h10; have HK := hid hK
      have HRL := hid (show rr.length ≤ S.length from h4)
      have hfs : (fs.length : Int) ≤ 1099511627776 := by
        have := (cut_count S).1
        rw [HCUT.out] at this
        simp only at this
        have := HLS.out
        omega
      have c5 : W.cell? ⟨b0, 0, none⟩ = some (.pointer (some ⟨b, 0, none⟩)) := h5.cell 0
      have c8 : W.cell? ⟨b3, 0, none⟩ = some (.string (sb rr)) := h8.cell 0
      clear h1 h2 h3 h4 h5 h6 h7 h8 h9 h10 hK hvk
      go_wp2_with fail
      have hold : Facts.hold [(0, fun w' => w'.cell? ⟨b0, 0, none⟩ = some (.pointer (some ⟨b, 0, none⟩))), (1, fun w' => w'.cell? ⟨b3, 0, none⟩ = some (.string (sb rr)))] W.drew := Facts.cons_hold c5 (Facts.cons_hold c8 (Facts.nil_hold _))
      refine wp_region_noPanic ?_
      refine wpD_region hold (by kernel_rfl) 6 rfl ?_
      (refine wpD_take 0 _ rfl (by kernel_rfl) (by kernel_rfl) (by kernel_rfl) (fun _ _ _ h => h) List.mem_cons_self (by rfl) (v := ?_) ?_ (by assumption) ?_; rotate_left; (intro _w _hw; go_simp; try with_reducible rfl); simp only [Act.put, List.setIfInBounds_toArray, List.set_cons_zero, List.set_cons_succ])
      (refine wpD_take 1 _ rfl (by kernel_rfl) (by kernel_rfl) (by kernel_rfl) (fun _ _ _ h => h) (List.mem_cons_of_mem _ List.mem_cons_self) (by rfl) (v := ?_) ?_ (by assumption) ?_; rotate_left; (intro _w _hw; go_simp; try with_reducible rfl); simp only [Act.put, List.setIfInBounds_toArray, List.set_cons_zero, List.set_cons_succ])
      clear hold
      refine wpD_only 2 [(0, fun w' => w'.cell? ⟨b0, 0, none⟩ = some (.pointer (some ⟨b, 0, none⟩)))] rfl (by kernel_rfl) (by kernel_rfl) (by rfl) (fun K2 hK2 => ?_)
      refine wp_call (.func 16) _ _ rfl 16 [] rfl (fun vs w => by kernel_rfl) [.string (sb rr)] (by rfl) ?_
      refine (clone_any rr _ (by have := HRL.out; have := HLS.out; omega)).mono ?_
      rintro e W1 ⟨rfl, f1⟩
      refine ⟨_, rfl, ?_⟩
      have FA : Hid (Fr No W W1) := hid ((Fr.refl _ W).drew.trans' f1)
      refine hK2 _ _ (Facts.cons_hold ((H5.out.fr FA.out id).cell 0) (Facts.nil_hold _)) ?_
      clear hK2 K2
      simp only [Act.put, List.setIfInBounds_toArray, List.set_cons_zero, List.set_cons_succ]
      have hold : Facts.hold [(0, fun w' => w'.cell? ⟨b0, 0, none⟩ = some (.pointer (some ⟨b, 0, none⟩)))] W1 := Facts.cons_hold ((H5.out.fr FA.out id).cell 0) (Facts.nil_hold _)
      (refine wpD_plain 3 (v := ?_) rfl (by kernel_rfl) (by kernel_rfl) (by kernel_rfl) (fun _ _ _ h => h) (by rfl) ?_ (by assumption) ?_; rotate_left; (intro _w; go_simp; try with_reducible rfl); simp only [Act.put, List.setIfInBounds_toArray, List.set_cons_zero, List.set_cons_succ])
      (refine wpD_plain 4 (v := ?_) rfl (by kernel_rfl) (by kernel_rfl) (by kernel_rfl) (fun _ _ _ h => h) (by rfl) ?_ (by assumption) ?_; rotate_left; (intro _w; go_simp; try with_reducible rfl); simp only [Act.put, List.setIfInBounds_toArray, List.set_cons_zero, List.set_cons_succ])
      clear hold f1
      refine wpD_only 5 [] rfl (by kernel_rfl) (by kernel_rfl) (by rfl) (fun K5 hK5 => ?_)
      refine wp_storeV _ _ _ rfl b 0 (.string (sb rr)) [.string (sb rr)] rfl rfl rfl _ _ (H9.out.fr FA.out id) (by simp) infoS (by intro u hu; simp at hu; subst hu; rfl) ?_
      intro W2 HA2 FA2 SA2
      refine hK5 _ _ (Facts.nil_hold _) ?_
      clear hK5 K5
      simp only [Act.put, List.setIfInBounds_toArray, List.set_cons_zero, List.set_cons_succ]
      refine wpD_done (by kernel_rfl) (NoPanic.normal ?_) _
      have HF2 : Hid (Fr (fun i => i = b) W W2) := hid (FA.out.no.trans' FA2.out)
      have HBF : Hid (FrAt W2 b ⟨rr, false⟩) := hid HA2.out
      have hcf : W2.cell? ⟨b1, 0, none⟩ = some (.slice va fs.length vc) := (H6.out.fr HF2.out (fun e => by have e : b1 = b := e; have := HNN.out; omega)).cell 0
      go_wp2_with (first
        | ((with_reducible show wpList _ _ _ (⟨_, .store 22 _ _, _, _, _, _⟩ :: _) _ _); refine wpL_setV rfl _ _ _ rfl b1 0 (.slice va fs.length vc) rfl rfl rfl rfl _ _ (H6.out.fr HF2.out (fun e => by have e : b1 = b := e; have := HNN.out; omega)) (by simp) infoSs ?_; intro W3 HB3 F3 HS3)
        | ((with_reducible show wpList _ _ _ (⟨_, .store 29 _ _, _, _, _, _⟩ :: _) _ _); refine wpL_setV rfl _ _ _ rfl b2 0 (.int .i64 0) rfl rfl rfl rfl _ _ ((H7.out.fr HF2.out (fun e => by have e : b2 = b := e; have := HNN.out; omega)).fr F3.out (fun e => by have e : b2 = b1 := e; have := HNN.out; omega)) (by simp) infoE ?_; intro W4 HB4 F4 HS4)
        | fail)
      have hn := HNN.out
      have hf2 : Fr (fun i => i = b1 ∨ i = b2) W2 W4 := (F3.out.mono fun i e => .inl e).trans' (F4.out.mono fun i e => .inr e)
      have hf4 : Fr (fun i => i = b ∨ i = b1 ∨ i = b2) W W4 := (HF2.out.mono fun i e => .inl e).trans' (hf2.mono fun i e => .inr e)
      have hb4 : Blk W4 b1 22 [.slice va fs.length vc] := Blk.fr (cs := [.slice va fs.length vc]) HB3.out F4.out (fun e => by have e : b1 = b2 := e; omega)
      have hb5 : Blk W4 b2 29 [.int .i64 0] := HB4.out
      have hK4 : W4.heap[w6.heap.size]? = some (.deferred (some [])) := (hf4.block _ (Array.getElem?_eq_some_iff.1 HK.out).1 (by rw [HW6.out]; omega)).trans HK.out
      refine marks_cc rfl hK4 rfl rfl hb4 Try.underlying22 rfl rfl hb5 Try.underlying29 rfl ?_
      intro w' hf'
      have hD : ∀ i, i = w6.heap.size → i = b0 + 5 := fun i e => e.trans HW6.out
      have hfe : Fr (fun i => i = b ∨ i = b1 ∨ i = b2 ∨ i = b0 + 5) W w' := (hf4.mono fun i e => by omega).trans' (hf'.mono fun i e => .inr (.inr (.inr (hD i e))))
      have e1 : fdE ⟨q, false⟩ c = 0 := by unfold fdE; simp only [HSQ.out, HCUT.out]; rfl
      have e2 : fdF ⟨q, false⟩ c = fs := by unfold fdF; simp only [HSQ.out, HCUT.out]; rfl
      have e3 : fdS ⟨q, false⟩ c = ⟨rr, false⟩ := by unfold fdS; simp only [HSQ.out, HCUT.out]; rfl
      refine ⟨_, by rw [e1]; rfl, ?_, ?_, ?_⟩
      · rw [e2]
        exact (own_tx (own_fr2 H1.out hfe fun i hi => by omega)).mono fun i hi => by omega
      · rw [e3]
        exact (HBF.out.fr hf2 (by omega)).fr hf' (fun e => by have := hD _ e; omega)
      · exact (H10.out.no (D := fun i => i = b)).trans hfe fun i e => by omega
    · rintro k W ⟨hr, hI⟩ hK
      obtain ⟨v, h1, h2, h3, h4, h5⟩ := hI
      refine marks_cc rfl hK rfl rfl h2 Try.underlying22 rfl rfl h3 Try.underlying29 rfl ?_
      intro w' hf'
      have hn := HNN.out
      have hD : ∀ i, i = w6.heap.size → i = b0 + 5 := fun i e => e.trans HW6.out
      have hfe : Fr (fun i => i = b0 + 5) W w' := hf'.mono hD
      subst hr
      have e1 : fdE ⟨q, false⟩ c = 100 := by unfold fdE; simp only [HSQ.out, HCUT.out]; rfl
      have e2 : fdF ⟨q, false⟩ c = fs := by unfold fdF; simp only [HSQ.out, HCUT.out]; rfl
      have e3 : fdS ⟨q, false⟩ c = ⟨[], true⟩ := by unfold fdS; simp only [HSQ.out, HCUT.out]; rfl
      refine ⟨v, by rw [e1]; rfl, ?_, ?_, ?_⟩
      · rw [e2]
        exact (own_tx (own_fr2 h1 hfe fun i hi => by omega)).mono fun i hi => by omega
      · rw [e3]
        exact h4.fr hfe (by omega)
      · exact h5.trans hfe fun i e => by omega
end Go.Proofs.Ytoikiokcpakokaa.FR
