/-
  The document's own tree: Delete.
-/
import Derived.Test.YtlnolnaapnijbaaTrRt
namespace Go.Proofs.Ytlnolnaapnijbaa.TR
set_option maxRecDepth 100000
open Go.RowKit K

set_option maxHeartbeats 8000000 in
theorem rdel_any (w0 w : World) (b : Nat) (v : Value) (l : L) (key : S) (h : Rt w0 w b v l) (hs : Sorted l) (hn : l.length ≤ 4398046511104) : Calls Try.prog 52 #[pt b, .string key] w (RPost w0 w b v (has key l) (del key l)) := by
  have H := hid h; have HS := hid hs; have HN := hid hn
  obtain ⟨a, c, rfl, hr⟩ := pr_new h.row
  have HR := hid hr
  have hni : (l.length : Int) ≤ 4398046511104 := by omega
  clear h hs hr hn
  go_enter Try.func52, Try.ntmps52
  go_wp2_with fail
  refine (rat_any w0 w b _ l key H.out HN.out).mono ?_
  rintro e w2 ⟨f2, j, hst, rfl⟩
  have F2 := hid f2; have HP := hid (hst.part HS.out)
  have H2 := hid (H.out.no f2)
  clear f2 hst
  cases hq : isAt l key j with
  | false =>
    have hg := HP.out.miss_del HS.out (isAt_false hq)
    have HG := hid hg
    clear hq hg
    go_wp2_with fail
    go_ret
    exact ⟨by unfold has; rw [HG.out.2]; rfl, _, by rw [HG.out.1]; exact H2.out, F2.out.no, fun g e => .inl e⟩
  | true =>
    obtain ⟨x, hx, hk⟩ := isAt_true hq
    have hg := HP.out.hit hx hk key
    have HG := hid hg
    have hjl : j < l.length := (List.getElem?_eq_some_iff.1 hx).1
    have hji : (j : Int) < (l.length : Int) := by omega
    obtain ⟨g, rfl, hrg⟩ : ∃ g, a = some ⟨g, 0, none⟩ ∧ w2.rangeAt g 0 (pcs l) := by
      rcases HR.out with e | ⟨g, e, hr, _⟩
      · rw [e] at hjl; simp at hjl
      · exact ⟨g, e, F2.out.range hr id⟩
    have HRG := hid hrg
    have c0 : w2.cell? ⟨b, 0, none⟩ = some (.slice (some ⟨g, 0, none⟩) l.length c) := H2.out.blk.cell 0
    have hcap : l.length ≤ c := by
      rcases H.out.row.2 with ⟨e, _⟩ | ⟨g', cap, cur, e, -, -, h2, -⟩
      · cases e
      · cases e; exact h2
    have hci : (l.length : Int) ≤ (c : Int) := by omega
    have hb : w0.heap.size ≤ w2.heap.size := H2.out.fr.size
    have HB := hid hb
    clear hq hg hx hk hrg hb
    have hdl : (l.drop (j + 1)).length = l.length - (j + 1) := by rw [List.length_drop]
    have HDL := hid hdl
    have HRD : Hid (w2.rangeAt g ((j + 1) * 2) (pcs (l.drop (j + 1)))) := hid (by have := range_drop HRG.out (i := j + 1) (by omega); rwa [Nat.zero_add] at this)
    clear hdl
    rcases Nat.lt_or_ge (j + 1) c with hc | hc
    · have hc0 : ¬ (c - (j + 1) = 0) := by omega
      have hc1 : ((c - (j + 1) : Nat) : Int) ≠ 0 := by omega
      go_wp2_with (first
        | ((with_reducible show wpList _ _ _ ({ dst := _, op := .buildSlice 42 _ _, type := _, pos := _, after := _, guard := _ } :: _) _ _); refine wpL_buildNone rfl _ 51 rfl noneP ?_; intro w3 HB3 F3 HS3; have c3 : w3.cell? ⟨b, 0, none⟩ = some (.slice (some ⟨g, 0, none⟩) l.length c) := F3.out.cell c0 id; have HN3 : Hid (Nw w0 w2 w3 (.slice (some ⟨w2.heap.size, 0, none⟩) 0 0) 0 []) := hid (Nw.begin HB3.out F3.out HB.out))
        | ((with_reducible show wpList _ _ _ ({ dst := _, op := .call { callee := .builtin .append, args := _, argTypes := _ }, type := _, pos := _, after := _, guard := _ } :: _) _ _); have := HN4; refine app_nw rfl _ _ rfl w0 w2 _ j (l.take j) rfl HN4.out (some ⟨g, (j + 1) * 2, none⟩) (l.length - (j + 1)) _ (l.drop (j + 1)) rfl HDL.out (.inr ⟨_, rfl, range_loads (HN4.out.fr.range HRD.out id)⟩) (by have := HN.out; omega) ?_; intro a6 c6 w6 HN6; have HBb : Hid (Blk w6 b 48 [.slice (some ⟨g, 0, none⟩) l.length c]) := hid (H2.out.blk.fr HN6.out.fr id))
        | ((with_reducible show wpList _ _ _ ({ dst := _, op := .call { callee := .builtin .append, args := _, argTypes := _ }, type := _, pos := _, after := _, guard := _ } :: _) _ _); refine app_nw0 rfl _ _ rfl w0 w2 _ rfl HN3.out (some ⟨g, 0, none⟩) j _ (l.take j) rfl (by rw [List.length_take, Nat.min_eq_left (by omega)]) (.inr ⟨_, rfl, range_loads (F3.out.range (range_take HRG.out j) id)⟩) (by have := HN.out; omega) ?_; intro a4 c4 w4 HN4; have c5 : w4.cell? ⟨b, 0, none⟩ = some (.slice (some ⟨g, 0, none⟩) l.length c) := HN4.out.fr.cell c0 id)
        | ((with_reducible show wpList _ _ _ ({ dst := _, op := .store 42 _ _, type := _, pos := _, after := _, guard := _ } :: _) _ _); refine wpL_storeV rfl _ _ _ rfl b 0 (.slice a6 (j + (l.length - (j + 1))) c6) [.slice a6 (j + (l.length - (j + 1))) c6] rfl rfl rfl _ _ HBb.out (by simp) info_prs (by intro u hu; simp at hu; subst hu; rfl) ?_; intro w7 HB7 F7 HS7))
      go_ret
      have hd : del key l = l.take j ++ l.drop (j + 1) := HG.out.2.1
      have hlen : (l.take j ++ l.drop (j + 1)).length = j + (l.length - (j + 1)) := by rw [List.length_append, List.length_take, List.length_drop, Nat.min_eq_left (by omega)]
      have hT := H2.out.take (l' := l.take j ++ l.drop (j + 1)) (v' := .slice a6 (j + (l.length - (j + 1))) c6) (by rw [hlen]; exact HN6.out) (by have := HB7.out; simpa [spl] using this) F7.out F2.out
      refine ⟨by unfold has; rw [HG.out.2.2]; rfl, .slice a6 (j + (l.length - (j + 1))) c6, ?_, hT.2⟩
      rw [hd]; exact hT.1
    · have hc0 : c - (j + 1) = 0 := by omega
      have hl0 : l.length - (j + 1) = 0 := by omega
      have HL0 := hid hl0
      have hnn : ¬ ((j : Int) + 1 < (c : Int)) := by omega
      go_wp2_with (first
        | ((with_reducible show wpList _ _ _ ({ dst := _, op := .buildSlice 42 _ _, type := _, pos := _, after := _, guard := _ } :: _) _ _); refine wpL_buildNone rfl _ 51 rfl noneP ?_; intro w3 HB3 F3 HS3; have c3 : w3.cell? ⟨b, 0, none⟩ = some (.slice (some ⟨g, 0, none⟩) l.length c) := F3.out.cell c0 id; have HN3 : Hid (Nw w0 w2 w3 (.slice (some ⟨w2.heap.size, 0, none⟩) 0 0) 0 []) := hid (Nw.begin HB3.out F3.out HB.out))
        | ((with_reducible show wpList _ _ _ ({ dst := _, op := .call { callee := .builtin .append, args := _, argTypes := _ }, type := _, pos := _, after := _, guard := _ } :: _) _ _); have := HN4; refine app_nw rfl _ _ rfl w0 w2 _ j (l.take j) rfl HN4.out (some ⟨g, 0, none⟩) 0 0 [] rfl rfl (.inl rfl) (by have := HN.out; omega) ?_; intro a6 c6 w6 HN6; simp only [Nat.add_zero, List.append_nil] at HN6 ⊢; have HBb : Hid (Blk w6 b 48 [.slice (some ⟨g, 0, none⟩) l.length c]) := hid (H2.out.blk.fr HN6.out.fr id))
        | ((with_reducible show wpList _ _ _ ({ dst := _, op := .call { callee := .builtin .append, args := _, argTypes := _ }, type := _, pos := _, after := _, guard := _ } :: _) _ _); refine app_nw0 rfl _ _ rfl w0 w2 _ rfl HN3.out (some ⟨g, 0, none⟩) j _ (l.take j) rfl (by rw [List.length_take, Nat.min_eq_left (by omega)]) (.inr ⟨_, rfl, range_loads (F3.out.range (range_take HRG.out j) id)⟩) (by have := HN.out; omega) ?_; intro a4 c4 w4 HN4; have c5 : w4.cell? ⟨b, 0, none⟩ = some (.slice (some ⟨g, 0, none⟩) l.length c) := HN4.out.fr.cell c0 id)
        | ((with_reducible show wpList _ _ _ ({ dst := _, op := .store 42 _ _, type := _, pos := _, after := _, guard := _ } :: _) _ _); refine wpL_storeV rfl _ _ _ rfl b 0 (.slice a6 j c6) [.slice a6 j c6] rfl rfl rfl _ _ HBb.out (by simp) info_prs (by intro u hu; simp at hu; subst hu; rfl) ?_; intro w7 HB7 F7 HS7))
      go_ret
      have hd : del key l = l.take j ++ l.drop (j + 1) := HG.out.2.1
      rw [List.drop_of_length_le (by omega), List.append_nil] at hd
      have hlen : (l.take j).length = j := by rw [List.length_take, Nat.min_eq_left (by omega)]
      have hT := H2.out.take (l' := l.take j) (v' := .slice a6 j c6) (by rw [hlen]; exact HN6.out) (by have := HB7.out; simpa [spl] using this) F7.out F2.out
      refine ⟨by unfold has; rw [HG.out.2.2]; rfl, .slice a6 j c6, ?_, hT.2⟩
      rw [hd]; exact hT.1

theorem spl_one (cur : List Value) (k : Nat) (v : Value) (h : k < cur.length) : spl cur k [v] = cur.set k v := by
  unfold spl
  rw [List.set_eq_take_append_cons_drop, if_pos h, List.append_assoc]; rfl
theorem info_str : (Try.prog.info? 9).map (·.size) = some 1 := by kernel_rfl
set_option maxHeartbeats 8000000 in
theorem rput_any (w0 w : World) (b : Nat) (v : Value) (l : L) (key value : S) (h : Rt w0 w b v l) (hs : Sorted l) (hn : l.length + 1 ≤ 4398046511104) : Calls Try.prog 14 #[pt b, .string key, .string value] w (RPost w0 w b v (has key l) (put key value l)) := by
  have H := hid h; have HS := hid hs; have HN := hid hn
  obtain ⟨a, c, rfl, hr⟩ := pr_new h.row
  have HR := hid hr
  have hni : (l.length : Int) + 1 ≤ 4398046511104 := by omega
  obtain ⟨ip, I9, Z9, S9, B9⟩ := infoz_pair
  have JI := hid I9; have JZ := hid Z9; have JS := hid S9
  have bpr := build_pair
  clear h hs hr hn I9 Z9 S9 B9
  go_enter Try.func14, Try.ntmps14
  go_wp2_with fail
  refine (rat_any w0 w b _ l key H.out (by have := HN.out; omega)).mono ?_
  rintro e w2 ⟨f2, j, hst, rfl⟩
  have F2 := hid f2; have HP := hid (hst.part HS.out)
  have H2 := hid (H.out.no f2)
  have HJ := hid hst.1
  have hjl : (j : Int) ≤ (l.length : Int) := by have := HJ.out; omega
  have hb : w0.heap.size ≤ w2.heap.size := H2.out.fr.size
  have HB := hid hb
  clear f2 hst hb
  cases hq : isAt l key j with
  | true =>
    obtain ⟨x, hx, hk⟩ := isAt_true hq
    have hg := HP.out.hit hx hk value
    have HG := hid hg
    have hj1 : j < l.length := (List.getElem?_eq_some_iff.1 hx).1
    have hji : (j : Int) < (l.length : Int) := by omega
    obtain ⟨g, rfl, hrg⟩ : ∃ g, a = some ⟨g, 0, none⟩ ∧ w2.rangeAt g 0 (pcs l) := by
      rcases HR.out with e | ⟨g, e, hr, _⟩
      · rw [e] at hj1; simp at hj1
      · exact ⟨g, e, F2.out.range hr id⟩
    have c0 : w2.cell? ⟨b, 0, none⟩ = some (.slice (some ⟨g, 0, none⟩) l.length c) := H2.out.blk.cell 0
    obtain ⟨cur, hcb, hcl, hge⟩ : ∃ cur, Blk w2 g 51 cur ∧ j * 2 + 1 < cur.length ∧ w0.heap.size ≤ g := by
      rcases H2.out.row.2 with ⟨e, _⟩ | ⟨g', cap', cur, hv, hb, hg, h1, h2, h3, h4⟩
      · cases e
      · simp only [Value.slice.injEq, Option.some.injEq, Addr.mk.injEq] at hv
        obtain ⟨⟨rfl, _⟩, _, rfl⟩ := hv
        exact ⟨cur.toList, by simpa [Blk] using hg, by simp; omega, hb⟩
    have HCB := hid hcb; have HCL := hid hcl; have HGE := hid hge; have HX := hid hx; have HK := hid hk
    clear hq hg hx hk hrg hcb hcl hge
    clear bpr
    go_wp2_with ((with_reducible show wpList _ _ _ ({ dst := _, op := .store 9 _ _, type := _, pos := _, after := _, guard := _ } :: _) _ _); refine wpL_storeV rfl _ _ _ rfl g (j * 2 + 1) (.string value) [.string value] rfl rfl rfl _ _ HCB.out (by have := HCL.out; simp; omega) info_str (by intro u hu; simp at hu; subst hu; rfl) ?_; intro w7 HB7 F7 HS7)
    go_ret
    have hgb : g ≠ b := fun e => H2.out.off (by rw [← e]; rfl)
    have hput : put key value l = l.set j (x.1, value) := HG.out.1
    refine ⟨by unfold has; rw [HG.out.2.2]; rfl, .slice (some ⟨g, 0, none⟩) l.length c, ⟨?_, ?_, H2.out.off, H2.out.ge, ?_⟩, ?_, fun g e => .inl e⟩
    · exact H2.out.blk.fr F7.out (fun e => hgb e.symm)
    · rw [hput, List.length_set, ← pcs_set HX.out]
      refine own_set1 H2.out.row (by omega) _ fun cur2 h2 => ?_
      have e2 : cur2 = cur := by have h5 := h2.symm.trans HCB.out; simpa using h5
      rw [e2, ← spl_one _ _ _ HCL.out]
      exact HB7.out
    · exact H2.out.fr.trans F7.out (fun k e => .inr (by have e' : k = g := e; rw [e']; exact HGE.out))
    · exact F2.out.no.trans' (F7.out.mono (fun k e => .inr (by have e' : k = g := e; rw [e']; rfl)))
  | false =>
    have hg := HP.out.put_miss HS.out (isAt_false hq) value
    have HG := hid hg
    have c0 : w2.cell? ⟨b, 0, none⟩ = some (.slice a l.length c) := H2.out.blk.cell 0
    have hsrc : (l.length = 0 ∧ a = none ∨ ∃ g, a = some ⟨g, 0, none⟩ ∧ Hid (w2.rangeAt g 0 (pcs l))) ∧ l.length ≤ c := by
      rcases H2.out.row.2 with ⟨e, e2⟩ | ⟨g', cap', cur, hv, hb, hg, h1, h2, h3, h4⟩
      · simp only [Value.slice.injEq] at e; exact ⟨.inl ⟨e2, e.1⟩, by omega⟩
      · simp only [Value.slice.injEq] at hv
        obtain ⟨rfl, _, rfl⟩ := hv
        refine ⟨.inr ⟨g', rfl, hid ?_⟩, h1⟩
        rcases HR.out with e | ⟨g, e, hr, _⟩
        · rw [e]; intro j v hv; simp [pcs] at hv
        · cases e; exact F2.out.range hr id
    have hci : (l.length : Int) ≤ (c : Int) := by have := hsrc.2; omega
    have hjc : (j : Int) ≤ (c : Int) := by omega
    have hjc' : j ≤ c := by omega
    have hdl : (l.drop j).length = l.length - j := by rw [List.length_drop]
    have HDL := hid hdl
    have HTL : Hid ((l.take j).length = j) := hid (by have := HJ.out; rw [List.length_take, Nat.min_eq_left (by omega)])
    clear hq hg hdl
    obtain ⟨hsrc, hlc⟩ := hsrc
    rcases hsrc with ⟨hl0, rfl⟩ | ⟨g, rfl, HRG⟩
    · have hc0 : c = 0 := by
        rcases H2.out.row.2 with ⟨e, e2⟩ | ⟨g', cap', cur, hv, hb, hg, h1, h2, h3, h4⟩
        · simp only [Value.slice.injEq] at e; exact e.2.2
        · cases hv
      have hj0 : j = 0 := by omega
      have hl1 : l = [] := List.eq_nil_of_length_eq_zero hl0
      have HEQ : Hid (l.take j ++ (key, value) :: l.drop j = l.take j ++ [(key, value)] ++ ([] : L)) := hid (by rw [hl1]; simp)
      subst hj0 hc0
      go_wp2_with (first
        | ((with_reducible show wpList _ _ _ ({ dst := _, op := .buildSlice 42 _ _, type := _, pos := _, after := _, guard := _ } :: _) _ _); refine wpL_buildNone rfl _ 51 rfl noneP ?_; intro w3 HB3 F3 HS3; have c3 : w3.cell? ⟨b, 0, none⟩ = some (.slice none l.length 0) := F3.out.cell c0 id; have HN3 : Hid (Nw w0 w2 w3 (.slice (some ⟨w2.heap.size, 0, none⟩) 0 0) 0 []) := hid (Nw.begin HB3.out F3.out HB.out))
        | ((with_reducible show wpList _ _ _ ({ dst := _, op := .buildSlice 42 _ _, type := _, pos := _, after := _, guard := _ } :: _) _ _); refine wpL_buildOne rfl _ 51 _ rfl ip _ rfl JI.out JZ.out (by rw [JS.out]; decide) (by rw [JS.out]; decide) _ [.string key, .string value] rfl rfl (by rw [JS.out]; rfl) ?_; intro w5 HB5 F5 HS5; have HN5 := hid (HN4.out.no F5.out))
        | ((with_reducible show wpList _ _ _ ({ dst := _, op := .call { callee := .builtin .append, args := _, argTypes := _ }, type := _, pos := _, after := _, guard := _ } :: _) _ _); have := HN6; refine app_nw rfl _ _ rfl w0 w2 _ (0 + 1) (l.take 0 ++ [(key, value)]) rfl HN6.out none 0 _ [] rfl rfl (.inl rfl) (by have := HN.out; have := HJ.out; omega) ?_; intro a7 c7 w7 HN7; have HBb : Hid (Blk w7 b 48 [(.slice none l.length 0)]) := hid (H2.out.blk.fr HN7.out.fr id))
        | ((with_reducible show wpList _ _ _ ({ dst := _, op := .call { callee := .builtin .append, args := _, argTypes := _ }, type := _, pos := _, after := _, guard := _ } :: _) _ _); have := HN5; refine app_nw rfl _ _ rfl w0 w2 _ 0 (l.take 0) rfl HN5.out (some ⟨w4.heap.size, 0, none⟩) 1 1 [(key, value)] rfl rfl (.inr ⟨_, rfl, HB5.out.news⟩) (by have := HN.out; have := HJ.out; omega) ?_; intro a6 c6 w6 HN6; have c7 : w6.cell? ⟨b, 0, none⟩ = some (.slice none l.length 0) := HN6.out.fr.cell c0 id)
        | ((with_reducible show wpList _ _ _ ({ dst := _, op := .call { callee := .builtin .append, args := _, argTypes := _ }, type := _, pos := _, after := _, guard := _ } :: _) _ _); refine app_nw0 rfl _ _ rfl w0 w2 _ rfl HN3.out none 0 _ (l.take 0) rfl HTL.out (.inl rfl) (by have := HN.out; have := HJ.out; omega) ?_; intro a4 c4 w4 HN4; have c5 : w4.cell? ⟨b, 0, none⟩ = some (.slice none l.length 0) := HN4.out.fr.cell c0 id)
        | ((with_reducible show wpList _ _ _ ({ dst := _, op := .store 42 _ _, type := _, pos := _, after := _, guard := _ } :: _) _ _); refine wpL_storeV rfl _ _ _ rfl b 0 (.slice a7 (0 + 1 + 0) c7) [.slice a7 (0 + 1 + 0) c7] rfl rfl rfl _ _ HBb.out (by simp) info_prs (by intro u hu; simp at hu; subst hu; rfl) ?_; intro w8 HB8 F8 HS8))
      go_ret
      have hlen : ((l.take 0 ++ [(key, value)]) ++ []).length = 0 + 1 + 0 := by rw [List.length_append, List.length_append, HTL.out]; rfl
      have hT := H2.out.take (l' := (l.take 0 ++ [(key, value)]) ++ []) (v' := .slice a7 (0 + 1 + 0) c7) (by rw [hlen]; exact HN7.out) (by have := HB8.out; simpa [spl] using this) F8.out F2.out
      have hput : put key value l = (l.take 0 ++ [(key, value)]) ++ [] := by rw [HG.out.1, HEQ.out]
      exact ⟨by rw [HG.out.2]; rfl, .slice a7 (0 + 1 + 0) c7, by rw [hput]; exact hT.1, hT.2⟩
    · rcases Nat.lt_or_ge j c with hc | hc
      · have hc0 : ¬ (c - j = 0) := by omega
        have hc1 : ((c - j : Nat) : Int) ≠ 0 := by omega
        have HEQ : Hid (l.take j ++ (key, value) :: l.drop j = l.take j ++ [(key, value)] ++ l.drop j) := hid (by simp)
        have HRD : Hid (w2.rangeAt g (j * 2) (pcs (l.drop j))) := hid (by have := range_drop HRG.out (i := j) HJ.out; rwa [Nat.zero_add] at this)
        go_wp2_with (first
          | ((with_reducible show wpList _ _ _ ({ dst := _, op := .buildSlice 42 _ _, type := _, pos := _, after := _, guard := _ } :: _) _ _); refine wpL_buildNone rfl _ 51 rfl noneP ?_; intro w3 HB3 F3 HS3; have c3 : w3.cell? ⟨b, 0, none⟩ = some (.slice (some ⟨g, 0, none⟩) l.length c) := F3.out.cell c0 id; have HN3 : Hid (Nw w0 w2 w3 (.slice (some ⟨w2.heap.size, 0, none⟩) 0 0) 0 []) := hid (Nw.begin HB3.out F3.out HB.out))
          | ((with_reducible show wpList _ _ _ ({ dst := _, op := .buildSlice 42 _ _, type := _, pos := _, after := _, guard := _ } :: _) _ _); refine wpL_buildOne rfl _ 51 _ rfl ip _ rfl JI.out JZ.out (by rw [JS.out]; decide) (by rw [JS.out]; decide) _ [.string key, .string value] rfl rfl (by rw [JS.out]; rfl) ?_; intro w5 HB5 F5 HS5; have HN5 := hid (HN4.out.no F5.out))
          | ((with_reducible show wpList _ _ _ ({ dst := _, op := .call { callee := .builtin .append, args := _, argTypes := _ }, type := _, pos := _, after := _, guard := _ } :: _) _ _); have := HN6; refine app_nw rfl _ _ rfl w0 w2 _ (j + 1) ((l.take j) ++ [(key, value)]) rfl HN6.out (some ⟨g, j * 2, none⟩) (l.length - j) _ (l.drop j) rfl HDL.out (.inr ⟨_, rfl, range_loads (HN6.out.fr.range HRD.out id)⟩) (by have := HN.out; have := HJ.out; omega) ?_; intro a7 c7 w7 HN7; have HBb : Hid (Blk w7 b 48 [(.slice (some ⟨g, 0, none⟩) l.length c)]) := hid (H2.out.blk.fr HN7.out.fr id))
          | ((with_reducible show wpList _ _ _ ({ dst := _, op := .call { callee := .builtin .append, args := _, argTypes := _ }, type := _, pos := _, after := _, guard := _ } :: _) _ _); have := HN5; refine app_nw rfl _ _ rfl w0 w2 _ j (l.take j) rfl HN5.out (some ⟨w4.heap.size, 0, none⟩) 1 1 [(key, value)] rfl rfl (.inr ⟨_, rfl, HB5.out.news⟩) (by have := HN.out; have := HJ.out; omega) ?_; intro a6 c6 w6 HN6; have c7 : w6.cell? ⟨b, 0, none⟩ = some (.slice (some ⟨g, 0, none⟩) l.length c) := HN6.out.fr.cell c0 id)
          | ((with_reducible show wpList _ _ _ ({ dst := _, op := .call { callee := .builtin .append, args := _, argTypes := _ }, type := _, pos := _, after := _, guard := _ } :: _) _ _); refine app_nw0 rfl _ _ rfl w0 w2 _ rfl HN3.out (some ⟨g, 0, none⟩) j _ (l.take j) rfl HTL.out (.inr ⟨_, rfl, range_loads (F3.out.range (range_take HRG.out j) id)⟩) (by have := HN.out; have := HJ.out; omega) ?_; intro a4 c4 w4 HN4; have c5 : w4.cell? ⟨b, 0, none⟩ = some (.slice (some ⟨g, 0, none⟩) l.length c) := HN4.out.fr.cell c0 id)
          | ((with_reducible show wpList _ _ _ ({ dst := _, op := .store 42 _ _, type := _, pos := _, after := _, guard := _ } :: _) _ _); refine wpL_storeV rfl _ _ _ rfl b 0 (.slice a7 (j + 1 + (l.length - j)) c7) [.slice a7 (j + 1 + (l.length - j)) c7] rfl rfl rfl _ _ HBb.out (by simp) info_prs (by intro u hu; simp at hu; subst hu; rfl) ?_; intro w8 HB8 F8 HS8))
        go_ret
        have hlen : (((l.take j) ++ [(key, value)]) ++ (l.drop j)).length = j + 1 + (l.length - j) := by rw [List.length_append, List.length_append, HTL.out, HDL.out]; rfl
        have hT := H2.out.take (l' := ((l.take j) ++ [(key, value)]) ++ (l.drop j)) (v' := .slice a7 (j + 1 + (l.length - j)) c7) (by rw [hlen]; exact HN7.out) (by have := HB8.out; simpa [spl] using this) F8.out F2.out
        have hput : put key value l = ((l.take j) ++ [(key, value)]) ++ (l.drop j) := by rw [HG.out.1, HEQ.out]
        exact ⟨by rw [HG.out.2]; rfl, .slice a7 (j + 1 + (l.length - j)) c7, by rw [hput]; exact hT.1, hT.2⟩
      · have hc0 : c - j = 0 := by omega
        have hl0 : l.length - j = 0 := by omega
        have hnn : ¬ ((j : Int) < (c : Int)) := by omega
        have HEQ : Hid (l.take j ++ (key, value) :: l.drop j = l.take j ++ [(key, value)] ++ ([] : L)) := hid (by rw [List.drop_of_length_le (by omega)]; simp)
        go_wp2_with (first
          | ((with_reducible show wpList _ _ _ ({ dst := _, op := .buildSlice 42 _ _, type := _, pos := _, after := _, guard := _ } :: _) _ _); refine wpL_buildNone rfl _ 51 rfl noneP ?_; intro w3 HB3 F3 HS3; have c3 : w3.cell? ⟨b, 0, none⟩ = some (.slice (some ⟨g, 0, none⟩) l.length c) := F3.out.cell c0 id; have HN3 : Hid (Nw w0 w2 w3 (.slice (some ⟨w2.heap.size, 0, none⟩) 0 0) 0 []) := hid (Nw.begin HB3.out F3.out HB.out))
          | ((with_reducible show wpList _ _ _ ({ dst := _, op := .buildSlice 42 _ _, type := _, pos := _, after := _, guard := _ } :: _) _ _); refine wpL_buildOne rfl _ 51 _ rfl ip _ rfl JI.out JZ.out (by rw [JS.out]; decide) (by rw [JS.out]; decide) _ [.string key, .string value] rfl rfl (by rw [JS.out]; rfl) ?_; intro w5 HB5 F5 HS5; have HN5 := hid (HN4.out.no F5.out))
          | ((with_reducible show wpList _ _ _ ({ dst := _, op := .call { callee := .builtin .append, args := _, argTypes := _ }, type := _, pos := _, after := _, guard := _ } :: _) _ _); have := HN6; refine app_nw rfl _ _ rfl w0 w2 _ (j + 1) ((l.take j) ++ [(key, value)]) rfl HN6.out (some ⟨g, 0, none⟩) 0 _ ([] : L) rfl rfl (.inl rfl) (by have := HN.out; have := HJ.out; omega) ?_; intro a7 c7 w7 HN7; have HBb : Hid (Blk w7 b 48 [(.slice (some ⟨g, 0, none⟩) l.length c)]) := hid (H2.out.blk.fr HN7.out.fr id))
          | ((with_reducible show wpList _ _ _ ({ dst := _, op := .call { callee := .builtin .append, args := _, argTypes := _ }, type := _, pos := _, after := _, guard := _ } :: _) _ _); have := HN5; refine app_nw rfl _ _ rfl w0 w2 _ j (l.take j) rfl HN5.out (some ⟨w4.heap.size, 0, none⟩) 1 1 [(key, value)] rfl rfl (.inr ⟨_, rfl, HB5.out.news⟩) (by have := HN.out; have := HJ.out; omega) ?_; intro a6 c6 w6 HN6; have c7 : w6.cell? ⟨b, 0, none⟩ = some (.slice (some ⟨g, 0, none⟩) l.length c) := HN6.out.fr.cell c0 id)
          | ((with_reducible show wpList _ _ _ ({ dst := _, op := .call { callee := .builtin .append, args := _, argTypes := _ }, type := _, pos := _, after := _, guard := _ } :: _) _ _); refine app_nw0 rfl _ _ rfl w0 w2 _ rfl HN3.out (some ⟨g, 0, none⟩) j _ (l.take j) rfl HTL.out (.inr ⟨_, rfl, range_loads (F3.out.range (range_take HRG.out j) id)⟩) (by have := HN.out; have := HJ.out; omega) ?_; intro a4 c4 w4 HN4; have c5 : w4.cell? ⟨b, 0, none⟩ = some (.slice (some ⟨g, 0, none⟩) l.length c) := HN4.out.fr.cell c0 id)
          | ((with_reducible show wpList _ _ _ ({ dst := _, op := .store 42 _ _, type := _, pos := _, after := _, guard := _ } :: _) _ _); refine wpL_storeV rfl _ _ _ rfl b 0 (.slice a7 (j + 1 + 0) c7) [.slice a7 (j + 1 + 0) c7] rfl rfl rfl _ _ HBb.out (by simp) info_prs (by intro u hu; simp at hu; subst hu; rfl) ?_; intro w8 HB8 F8 HS8))
        go_ret
        have hlen : (((l.take j) ++ [(key, value)]) ++ ([] : L)).length = j + 1 + 0 := by rw [List.length_append, List.length_append, HTL.out]; rfl
        have hT := H2.out.take (l' := ((l.take j) ++ [(key, value)]) ++ ([] : L)) (v' := .slice a7 (j + 1 + 0) c7) (by rw [hlen]; exact HN7.out) (by have := HB8.out; simpa [spl] using this) F8.out F2.out
        have hput : put key value l = ((l.take j) ++ [(key, value)]) ++ ([] : L) := by rw [HG.out.1, HEQ.out]
        exact ⟨by rw [HG.out.2]; rfl, .slice a7 (j + 1 + 0) c7, by rw [hput]; exact hT.1, hT.2⟩

def okB (fr to k : S) : Bool := !lt k fr && (decide (to = ⟨#[]⟩) || lt k to)
def rsc (fr to : S) (most : Int) : L → L → L
  | [], acc => acc
  | x :: r, acc => if (acc.length : Int) < most then (if okB fr to x.1 then rsc fr to most r (acc ++ [x]) else rsc fr to most r acc) else acc
theorem rsc_full (fr to : S) (most : Int) (l acc : L) (h : ¬ ((acc.length : Int) < most)) : rsc fr to most l acc = acc := by
  cases l with
  | nil => rfl
  | cons x r => simp [rsc, h]
theorem rsc_none (fr to : S) (most : Int) (l acc : L) (h : ∀ x ∈ l, okB fr to x.1 = false) : rsc fr to most l acc = acc := by
  induction l with
  | nil => rfl
  | cons x r ih =>
    have h1 := h x (by simp)
    simp only [rsc, h1]
    split
    · exact ih (fun y hy => h y (by simp [hy]))
    · rfl
theorem rsc_run (fr to : S) (most : Int) (l acc : L) (hs : Sorted l) : rsc fr to most l acc = if (acc.length : Int) < most then (runS to most acc (ge fr l)).2 else acc := by
  induction l generalizing acc with
  | nil => simp [rsc, ge, runS]
  | cons x r ih =>
    have hr : Sorted r := (List.pairwise_cons.1 hs).2
    have hx : ∀ y ∈ r, lt x.1 y.1 = true := (List.pairwise_cons.1 hs).1
    by_cases hm : (acc.length : Int) < most
    · rw [if_pos hm]
      simp only [rsc, if_pos hm]
      cases hl : lt x.1 fr with
      | true =>
        have h1 : okB fr to x.1 = false := by simp [okB, hl]
        have h2 : ge fr (x :: r) = ge fr r := by simp [ge, hl]
        rw [h1, h2, ih acc hr, if_pos hm]
        rfl
      | false =>
        have h2 : ge fr (x :: r) = x :: ge fr r := by simp [ge, hl]
        rw [h2]
        simp only [runS]
        cases hst : stopB to x.1 with
        | true =>
          have h1 : okB fr to x.1 = false := by
            simp only [stopB, Bool.and_eq_true, Bool.not_eq_true'] at hst
            simp [okB, hst.1, hst.2]
          have h3 := rsc_none fr to most r acc (fun y hy => by
            simp only [stopB, Bool.and_eq_true, Bool.not_eq_true'] at hst
            have h4 : lt y.1 to = false := by
              cases h5 : lt y.1 to with
              | false => rfl
              | true => rw [lt_trans (hx y hy) h5] at hst; exact absurd hst.2 (by simp)
            simp [okB, hst.1, h4])
          rw [h1, h3]; rfl
        | false =>
          have h1 : okB fr to x.1 = true := by
            simp only [stopB, Bool.and_eq_false_iff, Bool.not_eq_false'] at hst
            rcases hst with e | e <;> simp [okB, hl, e]
          rw [h1, ih (acc ++ [x]) hr]
          simp only [if_true, List.length_append, List.length_singleton]
          by_cases h5 : ((acc.length + 1 : Nat) : Int) < most
          · have h6 : (acc.length : Int) + 1 < most := by omega
            rw [if_pos h5, if_pos h6]; rfl
          · have h6 : ¬ ((acc.length : Int) + 1 < most) := by omega
            rw [if_neg h5, if_neg h6]; rfl
    · rw [if_neg hm, rsc_full _ _ _ _ _ hm]
theorem rsc_scan (fr to : S) (most : Int) (l : L) (hs : Sorted l) : rsc fr to most l [] = scanS fr to most l := by
  rw [rsc_run fr to most l [] hs]
  unfold scanS
  by_cases h : most < 1
  · rw [if_pos h, if_neg (by simp; omega)]
  · rw [if_neg h, if_pos (by simp; omega)]
theorem rsc_step {fr to : S} {most : Int} {l acc : L} {j : Nat} {x : S × S} (hx : l[j]? = some x) (hm : (acc.length : Int) < most) :
    rsc fr to most (l.drop j) acc = if okB fr to x.1 then rsc fr to most (l.drop (j + 1)) (acc ++ [x]) else rsc fr to most (l.drop (j + 1)) acc := by
  obtain ⟨h1, h2⟩ := List.getElem?_eq_some_iff.1 hx
  rw [List.drop_eq_getElem_cons h1, h2]
  simp only [rsc, if_pos hm]
/-- Rows that are made since, for Scan. -/
structure Sc (w w' : World) (v : Value) (acc : L) : Prop where
  own : w'.ownsRow w.heap.size 51 2 v acc.length (pcs acc)
  fr : Fr No w w'
set_option maxHeartbeats 16000000 in
theorem rscan_any (w0 w : World) (b : Nat) (v : Value) (l : L) (fr to : S) (most : Int) (h : Rt w0 w b v l) (hs : Sorted l) (hn : l.length ≤ 4398046511104) : Calls Try.prog 54 #[pt b, .string fr, .string to, .int .i64 most] w (NewP w (scanS fr to most l)) := by
  rw [← rsc_scan fr to most l hs]
  have H := hid h; have HN := hid hn
  have hni : (l.length : Int) ≤ 4398046511104 := by omega
  obtain ⟨a, c, rfl, hr⟩ := pr_new h.row
  have HR := hid hr
  obtain ⟨ip, I9, Z9, S9, B9⟩ := infoz_pair
  have JI := hid I9; have JZ := hid Z9; have JS := hid S9
  obtain ⟨R, hR⟩ : ∃ R, rsc fr to most l [] = R := ⟨_, rfl⟩
  have HRR := hid hR
  rw [hR]
  clear h hn hr hs hR I9 Z9 S9 B9
  go_enter Try.func54, Try.ntmps54
  go_wp2_with fail
  go_loopw [9, 10] (fun sl i wr => ∃ (j : Nat) (acc : L), j ≤ l.length ∧ i = .int .i64 (j : Int) ∧ acc.length ≤ j ∧ Hid (rsc fr to most (l.drop j) acc = R) ∧ Hid (Sc w wr sl acc)) (fun _ i _ => l.length - (intOf i).toNat)
  case atStart => exact ⟨0, [], by omega, rfl, by simp, hid HRR.out, hid ⟨⟨rfl, .inl ⟨rfl, rfl⟩⟩, Fr.refl _ _⟩⟩
  case round =>
    obtain ⟨j, acc, hj, rfl, haj, HQ, HS⟩ := hrel
    obtain ⟨sa, sc, rfl, -, -⟩ := own_form HS.out.own
    have c0 : wr.cell? ⟨b, 0, none⟩ = some (.slice a l.length c) := HS.out.fr.cell (H.out.blk.cell 0) id
    have hai : (acc.length : Int) ≤ 4398046511104 := by omega
    by_cases hlt : j < l.length
    · have hlt' : (j : Int) < (l.length : Int) := by omega
      by_cases hm : (acc.length : Int) < most
      · obtain ⟨x, hx⟩ : ∃ x, l[j]? = some x := ⟨_, List.getElem?_eq_getElem hlt⟩
        have hst := rsc_step (fr := fr) (to := to) hx hm
        rw [HQ.out] at hst
        have HST := hid hst
        obtain ⟨g, rfl, hrg⟩ : ∃ g, a = some ⟨g, 0, none⟩ ∧ wr.rangeAt g 0 (pcs l) := by
          rcases HR.out with e | ⟨g, e, hr, _⟩
          · rw [e] at hlt; simp at hlt
          · exact ⟨g, e, HS.out.fr.range hr id⟩
        have ck : wr.cell? ⟨g, j * 2, none⟩ = some (.string x.1) := by have := (pr_cells hrg hx).1; rwa [Nat.zero_add] at this
        have cv : wr.cell? ⟨g, j * 2 + 1, none⟩ = some (.string x.2) := by have := (pr_cells hrg hx).2; rwa [Nat.zero_add] at this
        have hbl : w.heap.size ≤ wr.heap.size := HS.out.fr.size
        have HBL := hid hbl
        clear hst hx hrg hbl
        have c0' := c0; have ck' := ck; have cv' := cv
        cases hl : lt x.1 fr with
        | true =>
          have hok : okB fr to x.1 = false := by simp [okB, hl]
          have HO := hid hok
          have HLT := hid hl
          have hg := run_geq x.1 fr
          rw [hl] at hg
          clear hok hl
          have HQ2 : Hid (rsc fr to most (l.drop (j + 1)) acc = R) := hid (by have := HST.out; rw [HO.out] at this; simpa using this.symm)
          have HS2 := HS
          clear c0' ck' cv'
          go_wp2_with fail
          exact ⟨⟨j + 1, acc, by omega, by go_num, by omega, HQ2, HS2⟩, by simp [intOf]; omega⟩
        | false =>
          by_cases ht : to = ⟨#[]⟩
          · have hok : okB fr to x.1 = true := by simp [okB, hl, ht]
            have HO := hid hok
            have HLT := hid hl
            have HTO := hid ht
            have hg := run_geq x.1 fr
            rw [hl] at hg
            have hte : to.toList.isEmpty = true := by rw [show to.toList = [] by rw [ht, ByteArray.toList_eq]]; rfl
            clear hok hl ht
            have HQ2 : Hid (rsc fr to most (l.drop (j + 1)) (acc ++ [x]) = R) := hid (by have := HST.out; rw [HO.out] at this; simpa using this.symm)
            have HS2 := HS
            clear c0' ck' cv'
            go_wp2_with (first
              | ((with_reducible show wpList _ _ _ ({ dst := _, op := .buildSlice 42 _ _, type := _, pos := _, after := _, guard := _ } :: _) _ _); refine wpL_buildOne rfl _ 51 _ rfl ip _ rfl JI.out JZ.out (by rw [JS.out]; decide) (by rw [JS.out]; decide) _ [.string x.1, .string x.2] rfl rfl (by rw [JS.out]; rfl) ?_; intro w5 HB5 F5 HS5)
              | ((with_reducible show wpList _ _ _ ({ dst := _, op := .call { callee := .builtin .append, args := _, argTypes := _ }, type := _, pos := _, after := _, guard := _ } :: _) _ _); refine app_pr rfl _ _ rfl w.heap.size _ acc.length (pcs acc) rfl (own_fr HS2.out.own F5.out (fun _ _ e => e)) (some ⟨wr.heap.size, 0, none⟩) 1 1 [.string x.1, .string x.2] rfl rfl (.inr ⟨_, rfl, HB5.out.news⟩) (by intro u hu; simp at hu; rcases hu with rfl | rfl <;> rfl) (by omega) (by have := HS2.out.fr.size; have := F5.out.size; omega) ?_; intro a6 c6 w6 HO6 HG6 HA6))
            have e1 : pcs (acc ++ [x]) = pcs acc ++ [.string x.1, .string x.2] := by simp [pcs, pc]
            have HS3 : Hid (Sc w w6 (.slice a6 (acc.length + 1) c6) (acc ++ [x])) := hid ⟨by rw [e1, List.length_append, List.length_singleton]; exact HO6.out, Fr.grown (HS2.out.fr.trans' F5.out) HG6.out (fun k hk => .inr (HS2.out.own.lt k hk).1)⟩
            exact ⟨⟨j + 1, acc ++ [x], by omega, by go_num, by simp; omega, HQ2, HS3⟩, by simp [intOf]; omega⟩
          · cases h2 : lt x.1 to with
            | true =>
              have hok : okB fr to x.1 = true := by simp [okB, hl, h2]
              have HO := hid hok
              have HLT := hid hl; have HTO := hid ht; have HL2 := hid h2
              have hg := run_geq x.1 fr
              rw [hl] at hg
              have hte : to.toList.isEmpty = false := by cases he : to.toList with
                | nil => exact absurd (toList_inj (by rw [he, ByteArray.toList_eq])) ht
                | cons q r => rfl
              have hl2 : Go.Op.bytesLess x.1.toList to.toList = true := h2
              clear hok hl ht h2
              have HQ2 : Hid (rsc fr to most (l.drop (j + 1)) (acc ++ [x]) = R) := hid (by have := HST.out; rw [HO.out] at this; simpa using this.symm)
              have HS2 := HS
              clear c0' ck' cv'
              go_wp2_with (first
                | ((with_reducible show wpList _ _ _ ({ dst := _, op := .buildSlice 42 _ _, type := _, pos := _, after := _, guard := _ } :: _) _ _); refine wpL_buildOne rfl _ 51 _ rfl ip _ rfl JI.out JZ.out (by rw [JS.out]; decide) (by rw [JS.out]; decide) _ [.string x.1, .string x.2] rfl rfl (by rw [JS.out]; rfl) ?_; intro w5 HB5 F5 HS5)
                | ((with_reducible show wpList _ _ _ ({ dst := _, op := .call { callee := .builtin .append, args := _, argTypes := _ }, type := _, pos := _, after := _, guard := _ } :: _) _ _); refine app_pr rfl _ _ rfl w.heap.size _ acc.length (pcs acc) rfl (own_fr HS2.out.own F5.out (fun _ _ e => e)) (some ⟨wr.heap.size, 0, none⟩) 1 1 [.string x.1, .string x.2] rfl rfl (.inr ⟨_, rfl, HB5.out.news⟩) (by intro u hu; simp at hu; rcases hu with rfl | rfl <;> rfl) (by omega) (by have := HS2.out.fr.size; have := F5.out.size; omega) ?_; intro a6 c6 w6 HO6 HG6 HA6))
              have e1 : pcs (acc ++ [x]) = pcs acc ++ [.string x.1, .string x.2] := by simp [pcs, pc]
              have HS3 : Hid (Sc w w6 (.slice a6 (acc.length + 1) c6) (acc ++ [x])) := hid ⟨by rw [e1, List.length_append, List.length_singleton]; exact HO6.out, Fr.grown (HS2.out.fr.trans' F5.out) HG6.out (fun k hk => .inr (HS2.out.own.lt k hk).1)⟩
              exact ⟨⟨j + 1, acc ++ [x], by omega, by go_num, by simp; omega, HQ2, HS3⟩, by simp [intOf]; omega⟩
            | false =>
              have hok : okB fr to x.1 = false := by simp [okB, ht, h2]
              have HO := hid hok
              have HLT := hid hl; have HTO := hid ht; have HL2 := hid h2
              have hg := run_geq x.1 fr
              rw [hl] at hg
              have hte : to.toList.isEmpty = false := by cases he : to.toList with
                | nil => exact absurd (toList_inj (by rw [he, ByteArray.toList_eq])) ht
                | cons q r => rfl
              have hl2 : Go.Op.bytesLess x.1.toList to.toList = false := h2
              clear hok hl ht h2
              have HQ2 : Hid (rsc fr to most (l.drop (j + 1)) acc = R) := hid (by have := HST.out; rw [HO.out] at this; simpa using this.symm)
              have HS2 := HS
              clear c0' ck' cv'
              go_wp2_with fail
              exact ⟨⟨j + 1, acc, by omega, by go_num, by omega, HQ2, HS2⟩, by simp [intOf]; omega⟩
      · have hge : ¬ ((acc.length : Int) < most) := hm
        have he : acc = R := by rw [← HQ.out, rsc_full _ _ _ _ _ hm]
        have HE := hid he
        clear he
        go_wp2_with fail
        go_ret
        exact ⟨_, rfl, by rw [← HE.out]; exact HS.out.own, HS.out.fr⟩
    · have hge : ¬ ((j : Int) < (l.length : Int)) := by omega
      have he : acc = R := by rw [← HQ.out, List.drop_of_length_le (by omega)]; rfl
      have HE := hid he
      clear he
      go_wp2_with fail
      go_ret
      exact ⟨_, rfl, by rw [← HE.out]; exact HS.out.own, HS.out.fr⟩
end Go.Proofs.Ytlnolnaapnijbaa.TR
