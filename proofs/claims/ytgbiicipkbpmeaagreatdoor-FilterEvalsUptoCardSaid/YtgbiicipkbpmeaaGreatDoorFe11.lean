/-
  Part 11 of the proof: DnRd, DnM, DnLn, DnG, ShaR.
-/
import Derived.Test.YtgbiicipkbpmeaaGreatDoorFe10
import Derived.Test.YtgbiicipkbpmeaaGreatDoorFe06
import Derived.Test.YtgbiicipkbpmeaaGreatDoorFe09
import Derived.Test.YtgbiicipkbpmeaaGreatDoorFe04
import Derived.Test.YtgbiicipkbpmeaaGreatDoorFe08
import Derived.Laws.StructEq
import Derived.RangeFuncNested
import Derived.RangeFuncBound
import Derived.RangeFuncCalls
import Derived.RangeFuncLeaves
import Derived.RangeFuncWrites
import Derived.TacticsInMore
import Derived.OwnWalkIn
import Derived.LoopNIn
import Derived.LoopIn
import Derived.Test.YtgbiicipkbpmeaaGreatDoorFe01
set_option linter.unusedSimpArgs false
set_option linter.unusedVariables false
namespace Go.Proofs.YtgbiicipkbpmeaaGreatDoor.DN
set_option maxRecDepth 100000
set_option maxHeartbeats 128000000
open Go.RowKit K BE
def ToldA (o : Option (Av × B)) (e : Ending) : Prop := match o with
 | some x => e = .returned (.tuple #[.agg #[.string (sb x.1.1), .string (sb x.1.2)], .string (sb x.2), .bool true])
 | none => ∃ p q r : B, e = .returned (.tuple #[.agg #[.string (sb p), .string (sb q)], .string (sb r), .bool false])
theorem zeroAv : ∀ w, (zeroValue 191).run Tryz.prog w = .ok (.agg #[.string ⟨#[]⟩, .string ⟨#[]⟩]) w := fun _ => by kernel_rfl
theorem readAva_any (s : B) (hs : s.length ≤ 400) (w : World) (hG : Gl w) : Calls Tryz.prog 151 #[.string (sb s)] w fun e w' => ToldA (readA s) e ∧ Fr No w w' := by
 have HG := hid hG
 have HC := hid (fun w => cut_any s (by unfold Sz; omega) w)
 have HS := hid hs
 obtain ⟨b, hb⟩ : ∃ b, w.heap.size = b := ⟨_, rfl⟩
 have HBB := hid hb
 clear hb
 unfold cutE at HC
 unfold readA
 cases hc : cutEq s with
 | none =>
  rw [hc] at HC
  clear hc hs hG
  go_enter Tryz.func151, Tryz.ntmps151
  go_wp2_with (first
   | ((with_reducible refine K.atO (.alloc 191) ?_); refine wpList_plain rfl fun K1 hK1 => ?_; refine wp_alloc 191 rfl (.agg #[.string ⟨#[]⟩, .string ⟨#[]⟩]) zeroAv [.string ⟨#[]⟩, .string ⟨#[]⟩] rfl ?_; intro w1 HB1 HF1 HS1; refine hK1 _ _ ?_; clear hK1 K1))
  rw [HBB.out] at HB1 ⊢
  refine (HC.out w1).mono ?_
  rintro e w2 ⟨rfl, f2⟩
  have HB2 := hid (HB1.out.fr f2 id)
  have HF2 := hid (HF1.out.trans' f2)
  have HGE := hid (show w.heap.size ≤ b by have := HBB.out; omega)
  clear f2
  go_wp2_with (first
   | ((with_reducible refine K.atO (.store 191 _ _) ?_); refine wpL_store rfl _ _ _ rfl b 0 [.string ⟨#[]⟩, .string ⟨#[]⟩] rfl rfl 191 _ HB2.out (by simp) infoAv (by simp [Value.oneCell']) ?_; intro w3 HB3 HF3 HS3))
  refine ret_cell3 rfl _ rfl HB3.out Tryz.underlying191 rfl (by simpa [spl] using infoAv) rfl ⟨⟨[], [], [], rfl⟩, ?_⟩
  exact HF2.out.trans HF3.out fun k e => .inr (by have e : k = b := e; have := HGE.out; omega)
 | some x =>
  obtain ⟨x1, x2⟩ := x
  rw [hc] at HC
  have hcl := cutEq_len hc
  have HV := hid (fun w hG => readValue_any x2 (by omega) w hG)
  simp only [Option.bind_some]
  obtain ⟨RV, hRV⟩ : ∃ RV, rv x2 = RV := ⟨_, rfl⟩
  rw [hRV] at HV ⊢
  have HRV := hid hRV
  clear hc hs hG hcl hRV
  go_enter Tryz.func151, Tryz.ntmps151
  go_wp2_with (first
   | ((with_reducible refine K.atO (.alloc 191) ?_); refine wpList_plain rfl fun K1 hK1 => ?_; refine wp_alloc 191 rfl (.agg #[.string ⟨#[]⟩, .string ⟨#[]⟩]) zeroAv [.string ⟨#[]⟩, .string ⟨#[]⟩] rfl ?_; intro w1 HB1 HF1 HS1; refine hK1 _ _ ?_; clear hK1 K1))
  rw [HBB.out] at HB1 ⊢
  refine (HC.out w1).mono ?_
  rintro e w2 ⟨rfl, f2⟩
  have HB2 := hid (HB1.out.fr f2 id)
  have HF2 := hid (HF1.out.trans' f2)
  have HGE := hid (show w.heap.size ≤ b by have := HBB.out; omega)
  clear f2
  go_wp2_with fail
  refine (HV.out w2 (HG.out.no HF2.out)).mono ?_
  rintro e w3 ⟨h3, f3⟩
  have HB3 := hid (HB2.out.fr f3 id)
  have HF3 := hid (HF2.out.trans' f3)
  clear f3
  unfold ToldV at h3
  cases RV with
  | none =>
   obtain ⟨p, q, -, -, rfl⟩ := h3
   go_wp2_with (first
    | ((with_reducible refine K.atO (.store 191 _ _) ?_); refine wpL_store rfl _ _ _ rfl b 0 [.string (sb x1), .string (sb p)] rfl rfl 191 _ HB3.out (by simp) infoAv (by simp [Value.oneCell']) ?_; intro w4 HB4 HF4 HS4))
   refine ret_cell3 rfl _ rfl HB4.out Tryz.underlying191 rfl (by simpa [spl] using infoAv) rfl ⟨⟨x1, p, q, rfl⟩, ?_⟩
   exact HF3.out.trans HF4.out fun k e => .inr (by have e : k = b := e; have := HGE.out; omega)
  | some y =>
   obtain ⟨y1, y2⟩ := y
   subst h3
   go_wp2_with (first
    | ((with_reducible refine K.atO (.store 191 _ _) ?_); refine wpL_store rfl _ _ _ rfl b 0 [.string (sb x1), .string (sb y1)] rfl rfl 191 _ HB3.out (by simp) infoAv (by simp [Value.oneCell']) ?_; intro w4 HB4 HF4 HS4))
   refine ret_cell3 rfl _ rfl HB4.out Tryz.underlying191 rfl (by simpa [spl] using infoAv) rfl ⟨rfl, ?_⟩
   exact HF3.out.trans HF4.out fun k e => .inr (by have e : k = b := e; have := HGE.out; omega)
theorem readF_len (n : Nm) (st : Rd) (s : B) : readF (s.length + 1) n st s = match readA s with
  | none => none
  | some x => match x.2 with
   | [] => some (n ++ [st ++ [x.1]])
   | c :: r => if c = 44 then readF (r.length + 1) (n ++ [st ++ [x.1]]) [] r else readF (r.length + 1) n (st ++ [x.1]) r := by
 rw [readF_succ]
 cases hA : readA s with
 | none => rfl
 | some x =>
  obtain ⟨a, r⟩ := x
  simp only [Option.bind_some]
  cases r with
  | nil => rfl
  | cons c r =>
   obtain ⟨h1, -⟩ := readA_len hA
   simp only [List.length_cons] at h1
   obtain ⟨f, hf⟩ : ∃ f, s.length = f + 1 := ⟨s.length - 1, by omega⟩
   simp only
   rw [hf, readF_more f r.length _ _ r (by omega) (Nat.le_refl _), readF_more f r.length _ _ r (by omega) (Nat.le_refl _)]
theorem avs_snoc (r : Rd) (x : Av) : avs (r ++ [x]) = avs r ++ [.string (sb x.1), .string (sb x.2)] := by simp [avs]
theorem avs_flat (r : Rd) : avs r = (r.map fun x => [Value.string (sb x.1), .string (sb x.2)]).flatten := by simp [avs, List.flatMap]
def SzR (r : Rd) : Prop := ∀ x ∈ r, Sz x.1 ∧ Sz x.2
theorem ow_rd {w0 w : World} {v : Value} {r : Rd} (h : OwR 191 2 w0 w v r.length (avs r)) (hz : SzR r) (hl : r.length ≤ 140737488351232) : RdIn (fun k => w0.heap.size ≤ k ∧ v.ownBlock = some k) w v r := by
 obtain ⟨a, cap, rfl, hc, h1⟩ := h.reads
 refine ⟨a, cap, rfl, hc, hl, ?_⟩
 rcases h1 with h0 | ⟨g, rfl, hg1, hg2, hr⟩
 ·exact .inl (List.eq_nil_of_length_eq_zero h0)
 ·right
  refine ⟨g, 0, r.map fun x => [Value.string (sb x.1), .string (sb x.2)], rfl, ⟨hg1, rfl⟩, hg2, by rw [← avs_flat]; exact hr, List.length_map _, fun c hcm => ?_, fun j x c hx hcj => ?_⟩
  ·obtain ⟨x, _, rfl⟩ := List.mem_map.1 hcm
   rfl
  ·rw [List.getElem?_map, hx] at hcj
   obtain rfl := Option.some.inj hcj
   exact ⟨rfl, hz x (List.mem_of_getElem? hx)⟩
structure Rs (w wr : World) (nv sv : Value) (n : Nm) (st : Rd) (vs : List Value) : Prop where
 no : OwR 175 1 w wr nv n.length vs
 so : OwR 191 2 w wr sv st.length (avs st)
 ne : ∀ g, nv.ownBlock = some g → sv.ownBlock ≠ some g
 ks : ∀ (i : Nat) (r : Rd) (v : Value), n[i]? = some r → vs[i]? = some v → RdIn (fun k => w.heap.size ≤ k ∧ nv.ownBlock ≠ some k ∧ sv.ownBlock ≠ some k) wr v r
 sz : SzR st
theorem Rs.fr {w wr w' : World} {nv sv : Value} {n : Nm} {st : Rd} {vs : List Value} (h : Rs w wr nv sv n st vs) (hf : Fr No wr w') : Rs w w' nv sv n st vs :=
 ⟨h.no.no hf, h.so.no hf, h.ne, fun i r v h1 h2 => (h.ks i r v h1 h2).no hf, h.sz⟩
theorem rd_lt {S : Nat → Prop} {w : World} {v : Value} {r : Rd} (h : RdIn S w v r) : RdIn (fun k => S k ∧ k < w.heap.size) w v r := by
 obtain ⟨a, cap, h1, h2, h3, h4⟩ := h
 exact ⟨a, cap, h1, h2, h3, h4.imp id fun ⟨g, o, L, e, hS, hg, q⟩ => ⟨g, o, L, e, ⟨hS, hg⟩, hg, q⟩⟩
theorem Rs.step {w wr w' : World} {nv sv sv' : Value} {n : Nm} {st : Rd} {vs : List Value} {x : Av} (h : Rs w wr nv sv n st vs) (ho : OwR 191 2 w w' sv' (st.length + 1) (avs st ++ [.string (sb x.1), .string (sb x.2)])) (hf : Fr (fun j => sv.ownBlock = some j) wr w')
  (hw : sv'.ownBlock = sv.ownBlock ∨ ∃ g, sv'.ownBlock = some g ∧ wr.heap.size ≤ g) (hx : Sz x.1 ∧ Sz x.2) : Rs w w' nv sv' n (st ++ [x]) vs := by
 refine ⟨h.no.later hf (fun g h1 h2 => h.ne g h1 h2) (fun g e => (h.so.ge g e).1), by rw [avs_snoc, List.length_append]; exact ho, ?_, ?_, ?_⟩
 ·intro g h1 h2
  rcases hw with hw | ⟨g', hw, hge⟩
  ·rw [hw] at h2; exact h.ne g h1 h2
  ·rw [hw] at h2
   have e := Option.some.inj h2
   have := (h.no.ge g h1).2
   omega
 ·intro i r v h1 h2
  refine (RdIn.fr (rd_lt (h.ks i r v h1 h2)) hf fun j hj _ e => hj.1.2.2 e).mono ?_
  rintro j ⟨⟨j1, j2, j3⟩, j4⟩
  refine ⟨j1, j2, fun e => ?_⟩
  rcases hw with hw | ⟨g', hw, hge⟩
  ·rw [hw] at e; exact j3 e
  ·rw [hw] at e
   have e := Option.some.inj e
   omega
 ·intro y hy
  rcases List.mem_append.1 hy with hy | hy
  ·exact h.sz y hy
  ·obtain rfl := List.mem_singleton.1 hy
   exact hx
theorem Rs.close {w wr w' : World} {nv nv' sv : Value} {n : Nm} {st : Rd} {vs : List Value} (h : Rs w wr nv sv n st vs) (ho : OwR 175 1 w w' nv' (n.length + 1) (vs ++ [sv])) (hf : Fr (fun j => nv.ownBlock = some j) wr w')
  (hw : nv'.ownBlock = nv.ownBlock ∨ ∃ g, nv'.ownBlock = some g ∧ wr.heap.size ≤ g) (hl : st.length ≤ 140737488351232) (hvs : vs.length = n.length) : Rs w w' nv' (.slice none 0 0) (n ++ [st]) [] (vs ++ [sv]) := by
 refine ⟨by rw [List.length_append]; exact ho, owR_nil ho.fr, fun _ _ => by simp [Value.ownBlock], ?_, fun x hx => by cases hx⟩
 have hnew : ∀ j, j < wr.heap.size → nv.ownBlock ≠ some j → nv'.ownBlock ≠ some j := by
  intro j hj hn e
  rcases hw with hw | ⟨g', hw, hge⟩
  ·rw [hw] at e; exact hn e
  ·rw [hw] at e
   have e := Option.some.inj e
   omega
 intro i r v h1 h2
 by_cases hi : i < n.length
 ·rw [List.getElem?_append_left hi] at h1
  rw [List.getElem?_append_left (by omega)] at h2
  refine (RdIn.fr (rd_lt (h.ks i r v h1 h2)) hf fun j hj _ e => hj.1.2.1 e).mono ?_
  rintro j ⟨⟨j1, j2, j3⟩, j4⟩
  exact ⟨j1, hnew j j4 j2, by simp [Value.ownBlock]⟩
 ·rw [List.getElem?_append_right (by omega)] at h1
  rw [List.getElem?_append_right (by omega)] at h2
  have hi0 : i - n.length = 0 := by
   have := (List.getElem?_eq_some_iff.1 h1).1
   simp at this
   omega
  have hi1 : i - vs.length = 0 := by omega
  rw [hi0] at h1
  rw [hi1] at h2
  obtain rfl : st = r := by simpa using h1
  obtain rfl : sv = v := by simpa using h2
  refine (RdIn.fr (rd_lt (ow_rd h.so h.sz hl)) hf fun j hj _ e => h.ne j e hj.1.2).mono ?_
  rintro j ⟨⟨j1, j2⟩, j4⟩
  exact ⟨j1, hnew j j4 (fun e => h.ne j e j2), by simp [Value.ownBlock]⟩
theorem Rs.name {w wr : World} {nv sv : Value} {n : Nm} {st : Rd} {vs : List Value} (h : Rs w wr nv sv n st vs) (hvs : vs.length = n.length) (hl : n.length ≤ 140737488351232) : NmIn (fun k => w.heap.size ≤ k) wr nv n := by
 obtain ⟨a, cap, rfl, hc, h1⟩ := h.no.reads
 refine ⟨a, cap, rfl, hc, hl, ?_⟩
 rcases h1 with h0 | ⟨g, rfl, hg1, hg2, hr⟩
 ·exact .inl (List.eq_nil_of_length_eq_zero h0)
 ·right
  refine ⟨g, 0, vs.map fun v => [v], rfl, hg1, hg2, ?_, by rw [List.length_map]; exact hvs, fun c hcm => ?_, fun j x c hx hcj => ?_⟩
  ·rw [show (vs.map fun v => [v]).flatten = vs from by
    clear hr hvs h
    induction vs with
    | nil => rfl
    | cons v r ih => rw [List.map_cons, List.flatten_cons, ih]; rfl]
   exact hr
  ·obtain ⟨x, _, rfl⟩ := List.mem_map.1 hcm
   rfl
  ·rw [List.getElem?_map] at hcj
   obtain ⟨v, hv, rfl⟩ := Option.map_eq_some_iff.1 hcj
   exact ⟨v, rfl, (h.ks j x v hx hv).mono fun k hk => hk.1⟩
def ToldN (w : World) (o : Option Nm) (e : Ending) (w' : World) : Prop := match o with
 | some n => ∃ v, e = .returned (.tuple #[v, .bool true]) ∧ NmIn (fun k => w.heap.size ≤ k) w' v n
 | none => ∃ a c, e = .returned (.tuple #[.slice a 0 c, .bool false])
theorem read_any (s : B) (hs : s.length ≤ 400) (w : World) (hG : Gl w) : Calls Tryz.prog 115 #[.string (sb s)] w fun e w' => ToldN w (read s) e w' ∧ Fr No w w' := by
 have HG := hid hG
 by_cases h0 : s = []
 ·subst h0
  have hr : read [] = some [] := rfl
  rw [hr]
  clear hs hG hr
  go_enter Tryz.func115, Tryz.ntmps115
  go_wp2_with (first
   | ((with_reducible refine K.atO (.binOp .eql 9 _ _ _) ?_); refine wpL_valZ rfl (.bool true) (by exact exec_eqS _ _ _ rfl [] [] rfl rfl _) ?_))
  go_ret2
  exact ⟨⟨_, rfl, nm_nil _ _ _ _⟩, Fr.refl _ _⟩
 ·obtain ⟨RF, hRF⟩ : ∃ RF, read s = RF := ⟨_, rfl⟩
  have HRF : Hid (readF (s.length + 1) [] [] s = RF) := hid (by unfold read at hRF; rw [if_neg h0] at hRF; exact hRF)
  rw [hRF]
  have HN0 := hid (show decide (s = []) = false from decide_eq_false h0)
  have HS4 := hid hs
  clear hs hG h0 hRF
  go_enter Tryz.func115, Tryz.ntmps115
  go_wp2_with (first
   | ((with_reducible refine K.atO (.binOp .eql 9 _ _ _) ?_); refine wpL_valZ rfl (.bool false) (by rw [← HN0.out]; exact exec_eqS _ _ _ rfl s [] rfl rfl _) ?_))
  go_loopw [0, 2, 4] (fun tv nv sv wr => ∃ (t : B) (n : Nm) (st : Rd) (vs : List Value), tv = .string (sb t) ∧ Hid (n.length + st.length + t.length ≤ 400) ∧ Hid (Rs w wr nv sv n st vs ∧ vs.length = n.length) ∧ Hid (readF (t.length + 1) n st t = RF)) (fun tv _ _ _ => strLen tv)
  case atStart => exact ⟨s, [], [], [], rfl, hid (by have := HS4.out; simpa using this), hid ⟨⟨owR_nil (Fr.refl _ _), owR_nil (Fr.refl _ _), (fun g e => by cases e), (fun i r v e => by simp at e), (fun x hx => by cases hx)⟩, rfl⟩, HRF⟩
  case round =>
   obtain ⟨t, n, st, vs, rfl, HL, HR, HF⟩ := hrel
   obtain ⟨na, nc, rfl⟩ := HR.out.1.no.1
   obtain ⟨sa, sc, rfl⟩ := HR.out.1.so.1
   have hF := HF.out
   rw [readF_len] at hF
   have HRA := hid (fun w hG => readAva_any t (by have := HL.out; omega) w hG)
   obtain ⟨nl, hnl⟩ : ∃ nl, n.length = nl := ⟨_, rfl⟩
   obtain ⟨sl, hsl⟩ : ∃ sl, st.length = sl := ⟨_, rfl⟩
   have HNL := hid hnl; have HSL := hid hsl
   rw [hnl, hsl] at HL ⊢
   have hnl4 : (nl : Int) ≤ 400 := by have := HL.out; omega
   have hsl4 : (sl : Int) ≤ 400 := by have := HL.out; omega
   have HGW : Hid (Gl wr) := hid (HG.out.no HR.out.1.no.fr)
   cases hA : readA t with
   | none =>
    rw [hA] at hF HRA
    have HRN : Hid (none = RF) := hid hF
    clear hF hA hnl hsl HF
    go_wp2_with fail
    refine (HRA.out wr HGW.out).mono ?_
    rintro e w2 ⟨⟨p, q, r, rfl⟩, f2⟩
    have HF2 := hid (HR.out.1.no.fr.trans' f2)
    clear f2
    go_wp2_with (first
     | ((with_reducible refine K.atO (.alloc 191) ?_); refine wpList_plain rfl fun K1 hK1 => ?_; refine wp_alloc 191 rfl (.agg #[.string ⟨#[]⟩, .string ⟨#[]⟩]) zeroAv [.string ⟨#[]⟩, .string ⟨#[]⟩] rfl ?_; intro w3 HB3 HF3 HS3; refine hK1 _ _ ?_; clear hK1 K1)
     | ((with_reducible refine K.atO (.store 191 _ _) ?_); refine wpL_store rfl _ _ _ rfl w2.heap.size 0 [.string (sb p), .string (sb q)] rfl rfl 191 _ HB3.out (by simp) infoAv (by simp [Value.oneCell']) ?_; intro w4 HB4 HF4 HS4))
    go_ret2
    rw [← HRN.out]
    exact ⟨⟨_, _, rfl⟩, HF2.out.trans' (HF3.out.trans HF4.out fun k e => .inr (by have e : k = w2.heap.size := e; omega))⟩
   | some x =>
    obtain ⟨⟨x1, x2⟩, rest⟩ := x
    rw [hA] at hF HRA
    obtain ⟨hl1, hl2, hl3, hl4⟩ := readA_len hA
    have HX12 : Hid (Sz x1 ∧ Sz x2) := hid ⟨by unfold Sz; simp only at hl2; have := HL.out; omega, by unfold Sz; simp only at hl3; have := HL.out; omega⟩
    have HTL := hid hl1
    simp only at hF
    have START : True := trivial
    clear hA hnl hsl HF hl1 hl2 hl3
    cases rest with
    | nil =>
     have HRN : Hid (some (n ++ [st ++ [(x1, x2)]]) = RF) := hid hF
     clear hF hl4 START
     go_wp2_with fail
     refine (HRA.out wr HGW.out).mono ?_
     rintro e w2 ⟨h2, f2⟩
     subst h2
     have HR2 := hid (HR.out.1.fr f2)
     clear f2
     go_wp2_with (first
      | ((with_reducible refine K.atO (.alloc 191) ?_); refine wpList_plain rfl fun K1 hK1 => ?_; refine wp_alloc 191 rfl (.agg #[.string ⟨#[]⟩, .string ⟨#[]⟩]) zeroAv [.string ⟨#[]⟩, .string ⟨#[]⟩] rfl ?_; intro w3 HB3 HF3 HS3; refine hK1 _ _ ?_; clear hK1 K1)
      | ((with_reducible refine K.atO (.store 191 _ _) ?_); refine wpL_store rfl _ _ _ rfl w2.heap.size 0 [.string (sb x1), .string (sb x2)] rfl rfl 191 _ HB3.out (by simp) infoAv (by simp [Value.oneCell']) ?_; intro w4 HB4 HF4 HS4;
                (have HR4 : Hid (Rs w w4 (.slice na nl nc) (.slice sa sl sc) n st vs) := hid (by rw [← HNL.out, ← HSL.out] at *; exact HR2.out.fr (HF3.out.trans HF4.out fun k e => .inr (by have e : k = w2.heap.size := e; omega)))))
      | ((with_reducible refine K.atO (.load 191 _) ?_); refine wpL_load rfl _ _ rfl w2.heap.size 0 rfl [.string (sb x1), .string (sb x2)] _ (by simpa [spl] using HB4.out.range 0 [.string (sb x1), .string (sb x2)] rfl) rfl rfl infoAv ?_)
      | ((with_reducible refine K.atO (.buildSlice 175 _ _) ?_); refine wpL_app1o rfl rfl _ _ _ 175 191 rfl rfl Tryz.underlying175 infoAva rfl (by decide) (by decide) (n := sl) (cs := avs st) (by have := HR4.out.so; rw [HSL.out] at this; exact this) (.agg #[.string (sb x1), .string (sb x2)]) [.string (sb x1), .string (sb x2)] rfl rfl rfl (by simp [Value.oneCell']) (fun _ => rfl) (fun _ => rfl) (by omega) (by omega) ?_; intro q5 a5 c5 w5 HO5 HF5 HW5)
      | ((with_reducible refine K.atO (.binOp .eql 9 _ _ _) ?_); refine wpL_valZ rfl (.bool true) (by exact exec_eqS _ _ _ rfl [] [] rfl rfl _) ?_)
      | ((with_reducible refine K.atO (.buildSlice 128 _ _) ?_); (have HR5 : Hid (Rs w w5 (.slice na nl nc) (.slice a5 (sl + 1) c5) n (st ++ [(x1, x2)]) vs) := hid (HR4.out.step (x := (x1, x2)) (by rw [HSL.out]; exact HO5.out) HF5.out HW5.out HX12.out));
                refine wpL_app1o rfl rfl _ _ _ 128 175 rfl rfl Tryz.underlying128 infoRdn rfl (by decide) (by decide) (n := nl) (cs := vs) (by have := HR5.out.no; rw [HNL.out] at this; exact this) (.slice a5 (sl + 1) c5) [.slice a5 (sl + 1) c5] rfl rfl rfl (by simp [Value.oneCell']) (fun _ => rfl) (fun _ => rfl) (by omega) (by omega) ?_; intro q6 a6 c6 w6 HO6 HF6 HW6))
     have HR6 : Hid (Rs w w6 (.slice a6 (nl + 1) c6) (.slice none 0 0) (n ++ [st ++ [(x1, x2)]]) [] (vs ++ [.slice a5 (sl + 1) c5])) := hid (HR5.out.close (by rw [HNL.out]; exact HO6.out) HF6.out HW6.out (by rw [List.length_append, HSL.out]; have := HL.out; simp; omega) HR.out.2)
     go_ret2
     rw [← HRN.out]
     exact ⟨⟨_, rfl, HR6.out.name (by have := HR.out.2; simp [this]) (by rw [List.length_append, HNL.out]; have := HL.out; simp; omega)⟩, HR6.out.no.fr⟩
    | cons c r =>
     dsimp only at hF
     have hcc : c = 44 ∨ c = 43 := by
      rcases hl4 with h | ⟨c', r', h, h2⟩
      ·cases h
      ·cases h; exact h2
     have HLr : Hid (r.length + 2 ≤ t.length) := hid (by have := HTL.out; simp only [List.length_cons] at this; omega)
     have HR1 : Hid ((c :: r).drop 1 = r) := hid rfl
     have HL1 : Hid (1 ≤ (c :: r).length) := hid (by simp)
     obtain ⟨S, hS⟩ : ∃ S, sb (c :: r) = S := ⟨_, rfl⟩
     have HSS := hid hS
     have hszi : (1 : Int) ≤ (S.size : Int) := by rw [← hS, sb_size]; simp; omega
     have HRA2 : Hid (∀ w, Gl w → Calls Tryz.prog 151 #[.string (sb t)] w fun e w' => e = .returned (.tuple #[.agg #[.string (sb x1), .string (sb x2)], .string S, .bool true]) ∧ Fr No w w') := hid (fun w hG => (HRA.out w hG).mono fun e w' h => ⟨by rw [← hS]; exact h.1, h.2⟩)
     clear hS hl4 START HRA
     by_cases h44 : c = 44
     ·rw [if_pos h44] at hF
      have HRN := hid hF
      have e44 : ((c.toNat : Int) == 44) = true := beqT (k := 44) (by rw [h44]; rfl)
      clear hF h44 hcc
      go_wp2_with fail
      refine (HRA2.out wr HGW.out).mono ?_
      rintro e w2 ⟨h2, f2⟩
      subst h2
      have HR2 := hid (HR.out.1.fr f2)
      clear f2
      go_wp2_with (first
       | ((with_reducible refine K.atO (.alloc 191) ?_); refine wpList_plain rfl fun K1 hK1 => ?_; refine wp_alloc 191 rfl (.agg #[.string ⟨#[]⟩, .string ⟨#[]⟩]) zeroAv [.string ⟨#[]⟩, .string ⟨#[]⟩] rfl ?_; intro w3 HB3 HF3 HS3; refine hK1 _ _ ?_; clear hK1 K1)
       | ((with_reducible refine K.atO (.store 191 _ _) ?_); refine wpL_store rfl _ _ _ rfl w2.heap.size 0 [.string (sb x1), .string (sb x2)] rfl rfl 191 _ HB3.out (by simp) infoAv (by simp [Value.oneCell']) ?_; intro w4 HB4 HF4 HS4;
                  (have HR4 : Hid (Rs w w4 (.slice na nl nc) (.slice sa sl sc) n st vs) := hid (by rw [← HNL.out, ← HSL.out] at *; exact HR2.out.fr (HF3.out.trans HF4.out fun k e => .inr (by have e : k = w2.heap.size := e; omega)))))
       | ((with_reducible refine K.atO (.load 191 _) ?_); refine wpL_load rfl _ _ rfl w2.heap.size 0 rfl [.string (sb x1), .string (sb x2)] _ (by simpa [spl] using HB4.out.range 0 [.string (sb x1), .string (sb x2)] rfl) rfl rfl infoAv ?_)
       | ((with_reducible refine K.atO (.buildSlice 175 _ _) ?_); refine wpL_app1o rfl rfl _ _ _ 175 191 rfl rfl Tryz.underlying175 infoAva rfl (by decide) (by decide) (n := sl) (cs := avs st) (by have := HR4.out.so; rw [HSL.out] at this; exact this) (.agg #[.string (sb x1), .string (sb x2)]) [.string (sb x1), .string (sb x2)] rfl rfl rfl (by simp [Value.oneCell']) (fun _ => rfl) (fun _ => rfl) (by omega) (by omega) ?_; intro q5 a5 c5 w5 HO5 HF5 HW5)
       | ((with_reducible refine K.atO (.binOp .eql 9 _ _ _) ?_); refine wpL_valZ rfl (.bool false) (by rw [← HSS.out]; exact exec_eqS _ _ _ rfl (c :: r) [] rfl rfl _) ?_)
       | ((with_reducible refine K.atO (.index 9 _ _) ?_); refine idxZ (i := 0) (b := c) HSS (hid rfl) rfl rfl rfl rfl ?_)
       | ((with_reducible refine K.atO (.slice 9 _ _ _ _) ?_); refine wpL_valZ rfl (.string (sb r)) (by rw [← HSS.out]; exact exec_from _ _ rfl (c :: r) 1 rfl rfl HL1.out _ HR1.out _) ?_)
       | ((with_reducible refine K.atO (.buildSlice 128 _ _) ?_); (have HR5 : Hid (Rs w w5 (.slice na nl nc) (.slice a5 (sl + 1) c5) n (st ++ [(x1, x2)]) vs) := hid (HR4.out.step (x := (x1, x2)) (by rw [HSL.out]; exact HO5.out) HF5.out HW5.out HX12.out));
                  refine wpL_app1o rfl rfl _ _ _ 128 175 rfl rfl Tryz.underlying128 infoRdn rfl (by decide) (by decide) (n := nl) (cs := vs) (by have := HR5.out.no; rw [HNL.out] at this; exact this) (.slice a5 (sl + 1) c5) [.slice a5 (sl + 1) c5] rfl rfl rfl (by simp [Value.oneCell']) (fun _ => rfl) (fun _ => rfl) (by omega) (by omega) ?_; intro q6 a6 c6 w6 HO6 HF6 HW6))
      have HR6 : Hid (Rs w w6 (.slice a6 (nl + 1) c6) (.slice none 0 0) (n ++ [st ++ [(x1, x2)]]) [] (vs ++ [.slice a5 (sl + 1) c5])) := hid (HR5.out.close (by rw [HNL.out]; exact HO6.out) HF6.out HW6.out (by rw [List.length_append, HSL.out]; have := HL.out; simp; omega) HR.out.2)
      refine ⟨⟨r, n ++ [st ++ [(x1, x2)]], [], _, rfl, hid (by have := HL.out; have := HLr.out; have := HNL.out; simp; omega), hid ⟨HR6.out, by have := HR.out.2; simp [this]⟩, HRN⟩, ?_⟩
      show (sb r).size < (sb t).size
      rw [sb_size, sb_size]
      have := HLr.out
      omega
     ·rw [if_neg h44] at hF
      have HRN := hid hF
      have e44 : ((c.toNat : Int) == 44) = false := beqF (k := 44) (fun h => h44 (UInt8.toNat_inj.1 h))
      clear hF h44 hcc
      go_wp2_with fail
      refine (HRA2.out wr HGW.out).mono ?_
      rintro e w2 ⟨h2, f2⟩
      subst h2
      have HR2 := hid (HR.out.1.fr f2)
      clear f2
      go_wp2_with (first
       | ((with_reducible refine K.atO (.alloc 191) ?_); refine wpList_plain rfl fun K1 hK1 => ?_; refine wp_alloc 191 rfl (.agg #[.string ⟨#[]⟩, .string ⟨#[]⟩]) zeroAv [.string ⟨#[]⟩, .string ⟨#[]⟩] rfl ?_; intro w3 HB3 HF3 HS3; refine hK1 _ _ ?_; clear hK1 K1)
       | ((with_reducible refine K.atO (.store 191 _ _) ?_); refine wpL_store rfl _ _ _ rfl w2.heap.size 0 [.string (sb x1), .string (sb x2)] rfl rfl 191 _ HB3.out (by simp) infoAv (by simp [Value.oneCell']) ?_; intro w4 HB4 HF4 HS4;
                  (have HR4 : Hid (Rs w w4 (.slice na nl nc) (.slice sa sl sc) n st vs) := hid (by rw [← HNL.out, ← HSL.out] at *; exact HR2.out.fr (HF3.out.trans HF4.out fun k e => .inr (by have e : k = w2.heap.size := e; omega)))))
       | ((with_reducible refine K.atO (.load 191 _) ?_); refine wpL_load rfl _ _ rfl w2.heap.size 0 rfl [.string (sb x1), .string (sb x2)] _ (by simpa [spl] using HB4.out.range 0 [.string (sb x1), .string (sb x2)] rfl) rfl rfl infoAv ?_)
       | ((with_reducible refine K.atO (.buildSlice 175 _ _) ?_); refine wpL_app1o rfl rfl _ _ _ 175 191 rfl rfl Tryz.underlying175 infoAva rfl (by decide) (by decide) (n := sl) (cs := avs st) (by have := HR4.out.so; rw [HSL.out] at this; exact this) (.agg #[.string (sb x1), .string (sb x2)]) [.string (sb x1), .string (sb x2)] rfl rfl rfl (by simp [Value.oneCell']) (fun _ => rfl) (fun _ => rfl) (by omega) (by omega) ?_; intro q5 a5 c5 w5 HO5 HF5 HW5)
       | ((with_reducible refine K.atO (.binOp .eql 9 _ _ _) ?_); refine wpL_valZ rfl (.bool false) (by rw [← HSS.out]; exact exec_eqS _ _ _ rfl (c :: r) [] rfl rfl _) ?_)
       | ((with_reducible refine K.atO (.index 9 _ _) ?_); refine idxZ (i := 0) (b := c) HSS (hid rfl) rfl rfl rfl rfl ?_)
       | ((with_reducible refine K.atO (.slice 9 _ _ _ _) ?_); refine wpL_valZ rfl (.string (sb r)) (by rw [← HSS.out]; exact exec_from _ _ rfl (c :: r) 1 rfl rfl HL1.out _ HR1.out _) ?_))
      have HR5 : Hid (Rs w w5 (.slice na nl nc) (.slice a5 (sl + 1) c5) n (st ++ [(x1, x2)]) vs) := hid (HR4.out.step (x := (x1, x2)) (by rw [HSL.out]; exact HO5.out) HF5.out HW5.out HX12.out)
      refine ⟨⟨r, n, st ++ [(x1, x2)], vs, rfl, hid (by have := HL.out; have := HLr.out; have := HSL.out; have := HNL.out; simp; omega), hid ⟨HR5.out, HR.out.2⟩, HRN⟩, ?_⟩
      show (sb r).size < (sb t).size
      rw [sb_size, sb_size]
      have := HLr.out
      omega
theorem parse_eq (s : B) : parse s = if 400 < s.length then (([] : Nm), (2 : Int)) else match read s with
 | none => (([] : Nm), (120 : Int))
 | some n => if built n then (n, (0 : Int)) else (([] : Nm), (120 : Int)) := rfl
theorem parse_any (s : B) (w : World) (hG : Gl w) : Calls Tryz.prog 70 #[.string (sb s)] w fun e w' => ∃ v, e = .returned (.tuple #[v, .int .i64 (parse s).2]) ∧ NmIn (fun k => w.heap.size ≤ k) w' v (parse s).1 ∧ Fr No w w' := by
 have hsz := sb_size s
 by_cases h4 : 400 < s.length
 ·have hp : parse s = ([], 2) := by rw [parse_eq, if_pos h4]
  rw [hp]
  obtain ⟨S, hS⟩ : ∃ S, sb s = S := ⟨_, rfl⟩
  rw [hS] at hsz ⊢
  have h1 : (400 : Int) < (S.size : Int) := by omega
  clear hG hp hS hsz h4
  go_enter Tryz.func70, Tryz.ntmps70
  go_wp2
  go_ret2
  exact ⟨_, rfl, nm_nil _ _ _ _, Fr.refl _ _⟩
 ·have HRD := hid (read_any s (by omega) w hG)
  have h1 : ¬ (400 : Int) < ((sb s).size : Int) := by omega
  have hpe := parse_eq s
  rw [if_neg h4] at hpe
  obtain ⟨RN, hRN⟩ : ∃ RN, read s = RN := ⟨_, rfl⟩
  rw [hRN] at hpe HRD
  obtain ⟨P, hP⟩ : ∃ P, parse s = P := ⟨_, rfl⟩
  rw [hP] at hpe ⊢
  obtain ⟨S, hS⟩ : ∃ S, sb s = S := ⟨_, rfl⟩
  rw [hS] at h1 HRD ⊢
  clear hG hsz h4 hRN hP hS
  cases RN with
  | none =>
   subst hpe
   go_enter Tryz.func70, Tryz.ntmps70
   go_wp2_with fail
   refine HRD.out.mono ?_
   rintro e w2 ⟨⟨a, c, rfl⟩, f2⟩
   have HF2 := hid f2
   clear f2
   go_wp2_with fail
   go_ret2
   exact ⟨_, rfl, nm_nil _ _ _ _, HF2.out⟩
  | some n =>
   have hpe2 : P = if built n then (n, (0 : Int)) else (([] : Nm), (120 : Int)) := hpe
   cases hb : built n with
   | true =>
    rw [hb] at hpe2
    subst hpe2
    have HBB := hid hb
    clear hpe hb
    go_enter Tryz.func70, Tryz.ntmps70
    go_wp2_with fail
    refine HRD.out.mono ?_
    rintro e w2 ⟨⟨v, rfl, hv⟩, f2⟩
    have HV := hid hv
    have HF2 := hid f2
    obtain ⟨a, cp, rfl, -, -⟩ := hv.form
    clear f2 hv
    go_wp2_with fail
    refine (isBuilt_any _ _ n w2 HV.out).mono ?_
    rintro e w3 ⟨rfl, f3⟩
    rw [HBB.out]
    have HV3 := hid (HV.out.no f3)
    have HF3 := hid (HF2.out.trans' f3)
    clear f3
    go_wp2_with fail
    go_ret2
    exact ⟨_, rfl, HV3.out, HF3.out⟩
   | false =>
    rw [hb] at hpe2
    subst hpe2
    have HBB := hid hb
    clear hpe hb
    go_enter Tryz.func70, Tryz.ntmps70
    go_wp2_with fail
    refine HRD.out.mono ?_
    rintro e w2 ⟨⟨v, rfl, hv⟩, f2⟩
    have HV := hid hv
    have HF2 := hid f2
    obtain ⟨a, cp, rfl, -, -⟩ := hv.form
    clear f2 hv
    go_wp2_with fail
    refine (isBuilt_any _ _ n w2 HV.out).mono ?_
    rintro e w3 ⟨rfl, f3⟩
    rw [HBB.out]
    have HF3 := hid (HF2.out.trans' f3)
    clear f3
    go_wp2_with fail
    go_ret2
    exact ⟨_, rfl, nm_nil _ _ _ _, HF3.out⟩
theorem stable_any (g n cap : Nat) (r : Rd) (z : List Value) (w : World) (hn : r.length = n) (hc : n ≤ cap) (hB : Blk w g 191 (avs r ++ z)) (hl : n < 20) :
  Calls Tryz.prog 223 #[.slice (some ⟨g, 0, none⟩) n cap, .int .i64 (n : Int), .func (.func 193) #[] #[]] w fun e w' => (∃ v, e = .returned v) ∧ Blk w' g 191 (avs (srt r) ++ z) ∧ Fr (fun k => k = g) w w' := by
 have H := hid (insertion_any g n cap r z w hn hc hB (by omega))
 have hni : (n : Int) < 20 := by omega
 have hn2 : ¬ (20 : Int) ≤ n := by omega
 have hn3 : ¬ (20 : Int) < n := by omega
 clear hn hc hB hl
 go_enter Tryz.func223, Tryz.ntmps223
 go_wp2_with fail
 go_loopw [7, 8] (fun b c wr => b = .int .i64 0 ∧ c = .int .i64 20 ∧ wr = w) (fun _ _ _ => 0)
 case atStart => exact ⟨rfl, rfl, rfl⟩
 case round =>
  obtain ⟨rfl, rfl, rfl⟩ := hrel
  go_wp2_with fail
  refine H.out.mono ?_
  rintro e w2 ⟨⟨v, rfl⟩, hb2, f2⟩
  have HB2 := hid hb2
  have HF2 := hid f2
  clear hb2 f2
  go_wp2_with fail
  go_loopw [6] (fun a wr => a = .int .i64 20 ∧ wr = w2) (fun _ _ => 0)
  case atStart => exact ⟨rfl, rfl⟩
  case round =>
   obtain ⟨rfl, rfl⟩ := hrel
   go_wp2_with fail
   go_end0
   exact ⟨⟨_, rfl⟩, HB2.out, HF2.out⟩
theorem sort_any (g n cap : Nat) (r : Rd) (z : List Value) (w : World) (hn : r.length = n) (hc : n ≤ cap) (hB : Blk w g 191 (avs r ++ z)) (hl : n < 20) :
  Calls Tryz.prog 192 #[.slice (some ⟨g, 0, none⟩) n cap, .func (.func 193) #[] #[]] w fun e w' => (∃ v, e = .returned v) ∧ Blk w' g 191 (avs (srt r) ++ z) ∧ Fr (fun k => k = g) w w' := by
 have H := hid (stable_any g n cap r z w hn hc hB hl)
 clear hn hc hB hl
 go_enter Tryz.func192, Tryz.ntmps192
 go_wp2_with fail
 refine H.out.mono ?_
 rintro e w2 ⟨⟨v, rfl⟩, hb2, f2⟩
 have HB2 := hid hb2
 have HF2 := hid f2
 clear hb2 f2
 go_wp2_with fail
 go_end0
 exact ⟨⟨_, rfl⟩, HB2.out, HF2.out⟩
theorem OwR.blk {e : TypeId} {k : Nat} {w0 w : World} {v : Value} {n : Nat} {cs : List Value} (h : OwR e k w0 w v n cs) (hn : 0 < n) : ∃ g cap z, v = .slice (some ⟨g, 0, none⟩) n cap ∧ n ≤ cap ∧ w0.heap.size ≤ g ∧ Blk w g e (cs ++ z) := by
 rcases h.2.1.2 with ⟨-, h0⟩ | ⟨g, cap, cur, rfl, hb, hg, h1, h2, h3, h4⟩
 ·have h0 : n = 0 := h0
  omega
 ·refine ⟨g, cap, cur.toList.drop (n * k), rfl, h1, hb, ?_⟩
  have e : cs ++ cur.toList.drop (n * k) = cur.toList := by rw [← h4, List.take_append_drop]
  rw [e]
  simpa [Blk] using hg
theorem normStep_any (E : Nat → Prop) (v : Value) (r : Rd) (w : World) (h : RdIn E w v r) (hb : RdB 1048576 r) (h1 : 1 ≤ r.length) (h20 : r.length < 20) :
  Calls Tryz.prog 155 #[v] w fun e w' => ∃ v', e = .returned v' ∧ RdIn (fun k => w.heap.size ≤ k) w' v' (normR r) ∧ Fr No w w' := by
 obtain ⟨a, cp, rfl, -, -⟩ := h.form
 have HX := hid h
 have HB := hid hb
 obtain ⟨n, hn⟩ : ∃ n, r.length = n := ⟨_, rfl⟩
 rw [hn] at HX h1 h20 ⊢
 have HNN := hid hn
 have hni : (n : Int) < 20 := by omega
 have H1 := hid h1; have H20 := hid h20
 clear h hb hn h1 h20
 go_enter Tryz.func155, Tryz.ntmps155
 go_wp2_with fail
 go_loopw [3, 8] (fun sv iv wr => ∃ (i : Nat), iv = .int .i64 i ∧ i ≤ n ∧ Hid (OwR 191 2 w wr sv i (avs ((r.take i).map foldA)))) (fun _ iv _ => n - (intOf iv).toNat)
 case atStart => exact ⟨0, rfl, Nat.zero_le _, hid (owR_nil (Fr.refl _ _))⟩
 case round =>
  obtain ⟨i, rfl, hi, HO⟩ := hrel
  obtain ⟨va, vc, rfl⟩ := HO.out.1
  by_cases hlt : i < n
  ·obtain ⟨x, hx⟩ : ∃ x, r[i]? = some x := ⟨_, List.getElem?_eq_getElem (by rw [HNN.out]; exact hlt)⟩
   have hlti : (i : Int) < n := by omega
   have hi0 : (0 : Int) ≤ i := by omega
   obtain ⟨g, o, cq, c, e1, -, hgw, hrr, hc, hxa⟩ := (RdIn.no HX.out HO.out.fr).get hx
   rw [HNN.out] at e1
   obtain ⟨rfl, rfl⟩ := K.sj e1
   obtain ⟨rfl, hs1, hs2⟩ := hxa
   have HRR := hid hrr
   have HXB : Hid (AvB 1048576 x) := hid (HB.out.2 x (List.mem_of_getElem? hx))
   have HNX : Hid (avs ((r.take (i + 1)).map foldA) = avs ((r.take i).map foldA) ++ [.string (sb (low x.1)), .string (sb (fold x.2))]) := hid (by
    rw [List.take_add_one, hx, List.map_append, avs_app]
    simp [avs, foldA])
   have HLT := hid hlt
   clear hc hgw hrr hs1 hs2 hx hlt
   go_wp2_with (first
    | ((with_reducible refine K.atO (.load 191 _) ?_); refine wpL_load rfl _ _ rfl g (o + i * 2) rfl [.string (sb x.1), .string (sb x.2)] _ HRR.out rfl rfl infoAv ?_)
    | ((with_reducible refine K.atO (.alloc 191) ?_); refine wpList_plain rfl fun K1 hK1 => ?_; refine wp_alloc 191 rfl (.agg #[.string ⟨#[]⟩, .string ⟨#[]⟩]) zeroAv [.string ⟨#[]⟩, .string ⟨#[]⟩] rfl ?_; intro w2 HB2 HF2 HS2; refine hK1 _ _ ?_; clear hK1 K1)
    | ((with_reducible refine K.atO (.store 191 _ _) ?_); refine wpL_store rfl _ _ _ rfl wr.heap.size 0 [.string (sb x.1), .string (sb x.2)] rfl rfl 191 _ HB2.out (by simp) infoAv (by simp [Value.oneCell']) ?_; intro w3 HB3 HF3 HS3))
   obtain ⟨b, hbb⟩ : ∃ b, wr.heap.size = b := ⟨_, rfl⟩
   have HF33 : Hid (Fr No wr w3) := hid (HF2.out.trans HF3.out fun k e => .inr (by have e : k = wr.heap.size := e; omega))
   have HO3 := hid (HO.out.no HF33.out)
   rw [hbb] at HB3 ⊢
   have hB3 : Blk w3 b 191 [.string (sb x.1), .string (sb x.2)] := by simpa [spl] using HB3.out
   have c0 : w3.cell? ⟨b, 0, none⟩ = some (.string (sb x.1)) := hB3.cell 0
   have c1 : w3.cell? ⟨b, 1, none⟩ = some (.string (sb x.2)) := hB3.cell 1
   clear hbb hB3
   have hold : Facts.hold [(2, fun w' => w'.cell? ⟨b, 0, none⟩ = some (.string (sb x.1))), (5, fun w' => w'.cell? ⟨b, 1, none⟩ = some (.string (sb x.2)))] w3.drew := Facts.cons_hold c0 (Facts.cons_hold c1 (Facts.nil_hold _))
   refine wpD_region hold (by kernel_rfl) 11 rfl ?_
   (refine K.pl 0 (v := ?_) rfl ?_ ?_; rotate_left; (intro; go_simp; try with_reducible rfl); simp only [K.pu])
   (refine K.pl 1 (v := ?_) rfl ?_ ?_; rotate_left; (intro; go_simp; try with_reducible rfl); simp only [K.pu])
   (refine K.pl 4 (v := ?_) rfl ?_ ?_; rotate_left; (intro; go_simp; try with_reducible rfl); simp only [K.pu])
   (refine K.tk 2 _ rfl K.m0 (v := ?_) ?_ ?_; rotate_left; (intro _ _hw; go_simp; try with_reducible rfl); simp only [K.pu])
   (refine K.tk 5 _ rfl K.m1 (v := ?_) ?_ ?_; rotate_left; (intro _ _hw; go_simp; try with_reducible rfl); simp only [K.pu])
   clear hold
   refine K.on 3 [(5, fun w' => w'.cell? ⟨b, 1, none⟩ = some (.string (sb x.2)))] rfl (fun K3 hK3 => ?_)
   refine wp_call _ _ _ rfl 112 [] rfl (fun vs w => by kernel_rfl) [.string (sb x.1)] (by rfl) ?_
   refine (lower_str x.1 (by have := HXB.out.1; unfold Sz; omega) w3.drew).mono ?_
   rintro e w4 ⟨rfl, f4⟩
   have hf4 : Fr No w3 w4 := (Fr.refl No w3).drew.trans' f4
   have c14 : w4.cell? ⟨b, 1, none⟩ = some (.string (sb x.2)) := hf4.cell c1 id
   have HO4 := hid (HO3.out.no hf4)
   refine ⟨_, rfl, hK3 _ _ (Facts.cons_hold c14 (Facts.nil_hold _)) ?_⟩
   clear hK3 K3 f4 hf4 c1 c0
   simp only [K.pu]
   refine K.on 6 [] rfl (fun K6 hK6 => ?_)
   refine wp_call _ _ _ rfl 69 [] rfl (fun vs w => by kernel_rfl) [.string (sb x.2)] (by rfl) ?_
   refine (fold_any x.2 (by have := HXB.out.2; omega) w4).mono ?_
   rintro e w5 ⟨rfl, f5⟩
   have HO5 := hid (HO4.out.no f5)
   refine ⟨_, rfl, hK6 _ _ (Facts.nil_hold _) ?_⟩
   clear hK6 K6 f5 c14
   simp only [K.pu]
   have hold : Facts.hold [] w5 := Facts.nil_hold _
   (refine K.pl 7 (v := (.agg #[.string (sb (low x.1)), .string (sb (fold x.2))])) rfl ?_ ?_; (intro _w; go_simp; skip); simp only [K.pu])
   clear hold
   refine K.on 8 [] rfl (fun K8 hK8 => ?_)
   obtain ⟨ib, hib, hzb, hsb, hbb⟩ := Go.info_parts infoAva
   refine wp_buildOne 175 191 _ rfl ib _ Tryz.underlying175 hib hzb (by rw [hsb]; decide) (by rw [hsb]; decide) (.agg #[.string (sb (low x.1)), .string (sb (fold x.2))]) [.string (sb (low x.1)), .string (sb (fold x.2))] rfl rfl (by rw [hsb]; rfl) ?_
   intro w6 HB6 HF6 HS6
   refine hK8 _ _ (Facts.nil_hold _) ?_
   clear hK8 K8 hib hzb hsb hbb
   simp only [K.pu]
   have HO6 := hid (HO5.out.no HF6.out)
   refine K.on 9 [] rfl (fun K9 hK9 => ?_)
   refine wp_appR _ _ 175 191 rfl Tryz.underlying175 infoAva rfl (by decide) HO6.out rfl w5.heap.size 1 1 _ rfl rfl HB6.out (by simp [Value.oneCell']) (by omega) (by omega) ?_
   intro a7 c7 w7 HO7 HF7
   refine hK9 _ _ (Facts.nil_hold _) ?_
   clear hK9 K9
   simp only [K.pu]
   have hold : Facts.hold [] w7 := Facts.nil_hold _
   (refine K.pl 10 (v := ?_) rfl ?_ ?_; rotate_left; (intro; go_simp; try with_reducible rfl); simp only [K.pu])
   clear hold
   refine wpD_done (by kernel_rfl) ?_ _
   go_wp2_with fail
   refine ⟨⟨i + 1, by go_num, HLT.out, hid (by rw [HNX.out]; exact HO7.out)⟩, ?_⟩
   have := HLT.out
   simp [intOf]; omega
  ·obtain rfl : i = n := by omega
   have hall : (r.take i).map foldA = r.map foldA := by rw [← HNN.out, List.take_length]
   rw [hall] at HO
   obtain ⟨g, cap, z, e1, hcap, hg, hB⟩ := HO.out.blk H1.out
   obtain ⟨rfl, rfl⟩ := K.sj e1
   have HS := hid (sort_any g i vc (r.map foldA) z wr (by rw [List.length_map]; exact HNN.out) hcap hB H20.out)
   have HGE := hid hg
   have HCAP := hid hcap
   have HZ : Hid (SzR (normR r)) := hid (by
    intro y hy
    obtain ⟨q, hq, rfl⟩ := List.mem_map.1 (srt_mem.1 hy)
    have h := HB.out.2 q hq
    have h2 := fold_len q.2
    have h3 := low_length q.1
    unfold Sz foldA
    unfold AvB at h
    simp only
    omega)
   clear hall hcap hg hB hi hlt
   go_wp2_with fail
   refine HS.out.mono ?_
   rintro e w8 ⟨⟨v8, rfl⟩, hb8, f8⟩
   have HB8 := hid hb8
   have HF8 := hid f8
   clear hb8 f8
   go_wp2_with fail
   go_ret
   have hl : (normR r).length = i := by rw [normR, srt_len, List.length_map]; exact HNN.out
   refine ⟨_, rfl, ⟨_, _, by rw [hl]; rfl, by rw [hl]; exact HCAP.out, by rw [hl]; omega, .inr ⟨g, 0, (normR r).map fun x => [Value.string (sb x.1), .string (sb x.2)], rfl, HGE.out, HB8.out.lt, ?_, List.length_map _, fun c hcm => ?_, fun j x c hx hcj => ?_⟩⟩, HO.out.fr.trans HF8.out fun k e => .inr (by have e : k = g := e; have := HGE.out; omega)⟩
   ·rw [← avs_flat]
    refine HB8.out.range 0 _ ?_
    rw [List.drop_zero]
    exact List.take_left
   ·obtain ⟨x, _, rfl⟩ := List.mem_map.1 hcm
    rfl
   ·rw [List.getElem?_map, hx] at hcj
    obtain rfl := Option.some.inj hcj
    exact ⟨rfl, HZ.out x (List.mem_of_getElem? hx)⟩
theorem Rs.add {w wr w' : World} {nv nv' v : Value} {n : Nm} {r : Rd} {vs : List Value} (h : Rs w wr nv (.slice none 0 0) n [] vs) (hv : RdIn (fun k => w.heap.size ≤ k ∧ nv.ownBlock ≠ some k) wr v r) (ho : OwR 175 1 w w' nv' (n.length + 1) (vs ++ [v])) (hf : Fr (fun j => nv.ownBlock = some j) wr w')
  (hw : nv'.ownBlock = nv.ownBlock ∨ ∃ g, nv'.ownBlock = some g ∧ wr.heap.size ≤ g) (hvs : vs.length = n.length) : Rs w w' nv' (.slice none 0 0) (n ++ [r]) [] (vs ++ [v]) := by
 refine ⟨by rw [List.length_append]; exact ho, owR_nil ho.fr, fun _ _ => by simp [Value.ownBlock], ?_, fun x hx => by cases hx⟩
 have hnew : ∀ j, j < wr.heap.size → nv.ownBlock ≠ some j → nv'.ownBlock ≠ some j := by
  intro j hj hn e
  rcases hw with hw | ⟨g', hw, hge⟩
  ·rw [hw] at e; exact hn e
  ·rw [hw] at e
   have e := Option.some.inj e
   omega
 intro i q u h1 h2
 by_cases hi : i < n.length
 ·rw [List.getElem?_append_left hi] at h1
  rw [List.getElem?_append_left (by omega)] at h2
  refine (RdIn.fr (rd_lt (h.ks i q u h1 h2)) hf fun j hj _ e => hj.1.2.1 e).mono ?_
  rintro j ⟨⟨j1, j2, j3⟩, j4⟩
  exact ⟨j1, hnew j j4 j2, by simp [Value.ownBlock]⟩
 ·rw [List.getElem?_append_right (by omega)] at h1
  rw [List.getElem?_append_right (by omega)] at h2
  have hi0 : i - n.length = 0 := by
   have := (List.getElem?_eq_some_iff.1 h1).1
   simp at this
   omega
  have hi1 : i - vs.length = 0 := by omega
  rw [hi0] at h1
  rw [hi1] at h2
  obtain rfl : r = q := by simpa using h1
  obtain rfl : v = u := by simpa using h2
  refine (RdIn.fr (rd_lt hv) hf fun j hj _ e => hj.1.2 e).mono ?_
  rintro j ⟨⟨j1, j2⟩, j4⟩
  exact ⟨j1, hnew j j4 j2, by simp [Value.ownBlock]⟩
def Short (n : Nm) : Prop := ∀ r ∈ n, 1 ≤ r.length ∧ r.length < 20
theorem norm_any (E : Nat → Prop) (v : Value) (n : Nm) (w : World) (h : NmIn E w v n) (hb : NmB 1048576 n) (hs : Short n) :
  Calls Tryz.prog 118 #[v] w fun e w' => ∃ v', e = .returned v' ∧ NmIn (fun k => w.heap.size ≤ k) w' v' (norm n) ∧ Fr No w w' := by
 obtain ⟨a, cp, rfl, -, -⟩ := h.form
 have HX := hid h
 have HB := hid hb
 have HS := hid hs
 obtain ⟨m, hn⟩ : ∃ m, n.length = m := ⟨_, rfl⟩
 have HM : Hid (m ≤ 1048576) := hid (by have := hb.1; omega)
 have hmi : (m : Int) ≤ 1048576 := by have := HM.out; omega
 rw [hn] at HX ⊢
 have HNN := hid hn
 clear h hb hs hn
 go_enter Tryz.func118, Tryz.ntmps118
 go_wp2_with fail
 go_loopw [3, 8] (fun nv iv wr => ∃ (i : Nat) (vs : List Value), iv = .int .i64 i ∧ i ≤ m ∧ Hid (Rs w wr nv (.slice none 0 0) (norm (n.take i)) [] vs ∧ vs.length = i)) (fun _ iv _ => m - (intOf iv).toNat)
 case atStart => exact ⟨0, [], rfl, Nat.zero_le _, hid ⟨⟨owR_nil (Fr.refl _ _), owR_nil (Fr.refl _ _), (fun g e => by cases e), (fun i r v e => by simp [norm] at e), (fun x hx => by cases hx)⟩, rfl⟩⟩
 case round =>
  obtain ⟨i, vs, rfl, hi, HR⟩ := hrel
  by_cases hlt : i < m
  ·have hlen : (norm (n.take i)).length = i := by rw [norm_length, List.length_take, HNN.out]; omega
   have hno := HR.out.1.no
   rw [hlen] at hno
   obtain ⟨na, nc, rfl⟩ := hno.1
   have HNO := hid hno
   have HLEN := hid hlen
   obtain ⟨x, hx⟩ : ∃ x, n[i]? = some x := ⟨_, List.getElem?_eq_getElem (by rw [HNN.out]; exact hlt)⟩
   have hlti : (i : Int) < m := by omega
   have hi0 : (0 : Int) ≤ i := by omega
   obtain ⟨g, o, cq, c, e1, -, hgw, hrr, hc, hxa⟩ := (NmIn.no HX.out hno.fr).get hx
   rw [HNN.out] at e1
   obtain ⟨rfl, rfl⟩ := K.sj e1
   obtain ⟨vx, rfl, hvx⟩ := hxa
   have hcell : wr.cell? ⟨g, o + i, none⟩ = some vx := by have := hrr 0 vx rfl; simpa using this
   have HVX := hid hvx
   obtain ⟨xa, xc, rfl, -, -⟩ := Sl.form hvx
   have HXM := hid (List.mem_of_getElem? hx)
   have HNX : Hid (norm (n.take (i + 1)) = norm (n.take i) ++ [normR x]) := hid (by
    rw [List.take_add_one, hx]
    simp [norm])
   have HLT := hid hlt
   clear hc hgw hrr hvx hx hlt hno hlen
   go_wp2_with fail
   refine (normStep_any E _ x wr HVX.out (HB.out.2 x HXM.out) (HS.out x HXM.out).1 (HS.out x HXM.out).2).mono ?_
   rintro e w4 ⟨v4, rfl, hv4, f4⟩
   have HV4 := hid hv4
   obtain ⟨va, vc, rfl, -, -⟩ := Sl.form hv4
   have HR4 := hid (HR.out.1.fr f4)
   have HNO4 := hid (HNO.out.no f4)
   have HSZ := hid f4.size
   clear f4 hv4
   go_wp2_with (first
    | ((with_reducible refine K.atO (.buildSlice 128 _ _) ?_); refine wpL_app1o rfl rfl _ _ _ 128 175 rfl rfl Tryz.underlying128 infoRdn rfl (by decide) (by decide) HNO4.out (.slice va (normR x).length vc) [.slice va (normR x).length vc] rfl rfl rfl (by simp [Value.oneCell']) (fun _ => rfl) (fun _ => rfl) (by have := HM.out; omega) (by have := HM.out; omega) ?_; intro q6 a6 c6 w6 HO6 HF6 HW6))
   have HR6 : Hid (Rs w w6 (.slice a6 (i + 1) c6) (.slice none 0 0) (norm (n.take i) ++ [normR x]) [] (vs ++ [.slice va (normR x).length vc])) := hid (HR4.out.add (HV4.out.mono fun k hk => ⟨Nat.le_trans HNO.out.fr.size hk, fun e => by have := (HNO.out.ge k e).2; omega⟩) (by rw [HLEN.out]; exact HO6.out) HF6.out HW6.out (by rw [HLEN.out]; exact HR.out.2))
   refine ⟨⟨i + 1, _, by go_num, HLT.out, hid ⟨by rw [HNX.out]; exact HR6.out, by have := HR.out.2; simp [this]⟩⟩, ?_⟩
   have := HLT.out
   simp [intOf]; omega
  ·obtain rfl : i = m := by omega
   have hall : n.take i = n := by rw [← HNN.out, List.take_length]
   rw [hall] at HR
   have hv := HR.out.1.name (by rw [norm_length, HNN.out]; exact HR.out.2) (by rw [norm_length, HNN.out]; have := HM.out; omega)
   have HV := hid hv
   obtain ⟨va, vc, rfl, -, -⟩ := Sl.form hv
   have HFR := hid HR.out.1.no.fr
   clear hall hv hi hlt
   go_wp2_with fail
   go_ret
   exact ⟨_, rfl, HV.out, HFR.out⟩
theorem readF_b {K : Nat} : ∀ (f : Nat) (n : Nm) (st : Rd) (s : B) (x : Nm), readF f n st s = some x → s.length ≤ K → (∀ r ∈ n, ∀ a ∈ r, AvB K a) → (∀ a ∈ st, AvB K a) → ∀ r ∈ x, ∀ a ∈ r, AvB K a
 | 0, _, _, _, _, h, _, _, _ => by cases h
 | f + 1, n, st, s, x, h, hs, hn, hst => by
  unfold readF at h
  cases hA : readA s with
  | none => rw [hA] at h; cases h
  | some y =>
   obtain ⟨a, r⟩ := y
   rw [hA] at h
   obtain ⟨h1, h2, h3, -⟩ := readA_len hA
   have ha : AvB K a := ⟨by omega, by omega⟩
   have hst' : ∀ q ∈ st ++ [a], AvB K q := fun q hq => by
    rcases List.mem_append.1 hq with hq | hq
    ·exact hst q hq
    ·rw [List.mem_singleton.1 hq]; exact ha
   have hn' : ∀ r ∈ n ++ [st ++ [a]], ∀ q ∈ r, AvB K q := fun r hr => by
    rcases List.mem_append.1 hr with hr | hr
    ·exact hn r hr
    ·rw [List.mem_singleton.1 hr]; exact hst'
   simp only [Option.bind_some] at h
   cases r with
   | nil => cases h; exact hn'
   | cons c r =>
    simp only [List.length_cons] at h1
    simp only at h
    split at h
    ·exact readF_b f _ _ _ _ h (by omega) hn' (fun _ hq => by cases hq)
    ·exact readF_b f _ _ _ _ h (by omega) hn hst'
theorem parse_b {s : B} {x : Nm} (h : parse s = (x, 0)) : NmB 1048576 x ∧ Short x ∧ x.length ≤ 16 ∧ ∀ r ∈ x, r.length ≤ 4 := by
 obtain ⟨hl, hr, hb⟩ := parse_ok h
 have hb2 := hb
 simp only [built, Bool.and_eq_true, decide_eq_true_eq] at hb2
 have h4 : ∀ r ∈ x, 1 ≤ r.length ∧ r.length ≤ 4 := fun r hr => by
  obtain ⟨h1, h2, -⟩ := built_step hb r hr
  exact ⟨List.length_pos_iff.2 h1, h2⟩
 have hav : ∀ r ∈ x, ∀ a ∈ r, AvB 400 a := by
  unfold read at hr
  split at hr
  ·cases hr; intro r hr; cases hr
  ·exact readF_b _ _ _ _ _ hr hl (fun _ h => by cases h) (fun _ h => by cases h)
 refine ⟨⟨by omega, fun r hr => ⟨by have := (h4 r hr).2; omega, fun a ha => ⟨?_, ?_⟩⟩⟩, fun r hr => ⟨(h4 r hr).1, by have := (h4 r hr).2; omega⟩, hb2.1, fun r hr => (h4 r hr).2⟩
 ·have := (hav r hr a ha).1; omega
 ·have := (hav r hr a ha).2; omega
end Go.Proofs.YtgbiicipkbpmeaaGreatDoor.DN
namespace Go.Proofs.YtgbiicipkbpmeaaGreatDoor.DN
set_option maxRecDepth 100000
open Go.RowKit K BE
end Go.Proofs.YtgbiicipkbpmeaaGreatDoor.DN
namespace Go.Proofs.YtgbiicipkbpmeaaGreatDoor.K
set_option maxRecDepth 100000
open Go.RowKit
section
variable {P : Program} {n l : Nat} {ops : Array Oper} {Q : Exit → Act → World → Prop} {a : Act} {w : World}
theorem rowsIn_wide {row : String} {args : Array Value} {R : Value → World → Prop} (h : Rows P row args w R) : RowsIn Fence.wide n P row args w R :=
 fun c cs _ => let ⟨v, w', r, s⟩ := h c cs; ⟨v, w', r, stepsIn_wide.2 s⟩
theorem wpIn_of_wp {o : Oper} {next : Act → World → Prop} (hd : ∀ c, o.op ≠ .defer c) (h : o.wp P a w next Q) : o.wpIn (Fence.wide.inRound l) n P a w next Q := by
 refine ⟨fun _ _ => trivial, ?_⟩
 rw [show o.semAt (Fence.wide.inRound l).round a.eval = execOp a.eval o from Oper.semAt_some l _ _ hd]
 unfold Oper.wp at h
 generalize hg : (execOp a.eval o).run P w = r at h ⊢
 cases r with
 | ok x w' =>
  cases x with
  | value v => exact h
  | skip => exact h
  | defer d => exact h
  | enter f args => exact ⟨fun e => (by cases e), callsIn_wide.2 h⟩
  | row r args => exact ⟨fun e => (by cases e), rowsIn_wide h⟩
  | _ => exact h.elim
 | halt x w' =>
  cases x with
  | panic v => exact h
  | _ => exact h.elim
def noDefer (l : List Oper) : Bool := l.all fun o => match o.op with | .defer _ => false | _ => true
theorem noDefer_spec {l : List Oper} (h : noDefer l = true) {o : Oper} (ho : o ∈ l) : ∀ c, o.op ≠ .defer c := by
 intro c e
 have := List.all_eq_true.1 h o ho
 rw [e] at this
 cases this
theorem wpListIn_of {ls : List Oper} (hd : noDefer ls = true) (hQ : ¬ LetsOut Q) : ∀ (r : List Oper), (∀ o ∈ r, o ∈ ls) → ∀ (a : Act) (w : World), wpList P ops Q r a w → wpListIn (Fence.wide.inRound l) n P ops Q r a w
 | [], _, _, _, h => h
 | o :: r, hs, a, w, h => by
  unfold wpList at h
  unfold wpListIn
  split
  ·rename_i hw
   rw [if_pos hw] at h
   rcases h with h | h
   ·exact Oper.wpIn_mono (fun a w => wpListIn_of hd hQ r (fun o ho => hs o (List.mem_cons_of_mem _ ho)) a w) (wpIn_of_wp (noDefer_spec hd (hs o List.mem_cons_self)) h)
   ·exact absurd h.2 hQ
  ·rename_i hw
   rw [if_neg hw] at h
   exact ⟨fun _ _ => trivial, wpListIn_of hd hQ r (fun o ho => hs o (List.mem_cons_of_mem _ ho)) _ w h⟩
theorem wpIn_region_plain {id : Nat} {ls : List Oper} (hd : noDefer ls = true) (hQ : ¬ LetsOut Q) (h : wpList P ls.toArray Q ls a w) : (Code.region id ls.toArray false).wpIn (Fence.wide.inRound l) n P Q a w :=
 wpIn_region_lit (wpListIn_of hd hQ ls (fun _ h => h) a w h)
theorem calls_marks {f : FuncId} {fn : Func} {c : Code} {args : Array Value} {R : Ending → World → Prop} (hf : P.funcs[f]? = some fn) (hb : fn.body = some c)
  (h : c.wp P (bodyPostM Fence.wide 3 P fn R) { tmps := args ++ Array.replicate (fn.ntmps - args.size) undef, defers := [] } w) : Calls P f args w R :=
 (callsIn_wide (n := 3)).1 (callsIn_of_wp_marks hf hb trivial ((wpIn_wide (n := 3)).2 h))
theorem fr_put (D : Nat) (o : Obj) : Fr (fun k => k = D) w (w.putObj D o) := ⟨rfl, rfl, rfl, by simp, fun k _ hn => World.putObj_heap_other (fun e => hn e)⟩
end
end Go.Proofs.YtgbiicipkbpmeaaGreatDoor.K
