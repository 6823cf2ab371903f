/-
  Part 30 of the proof: FtH, FtEv.
-/
import Derived.Test.YtgbiicipkbpmeaaGreatDoorFe29
import Derived.Test.YtgbiicipkbpmeaaGreatDoorFe23
import Derived.Test.YtgbiicipkbpmeaaGreatDoorFe20
set_option linter.unusedSimpArgs false
set_option linter.unusedVariables false
namespace Go.Proofs.YtgbiicipkbpmeaaGreatDoor.FT
set_option maxRecDepth 100000
set_option maxHeartbeats 128000000
open Go.RowKit K BE DN SC
def sAl : B := [65, 108, 32, 66, 111]
def en2 : Ent := [(sOC, [sPerson]), (sCn, [sAl]), (sAge, [[55]])]
theorem en2_s : EnS en2 := by
 intro a ha v hv
 simp only [en2, List.mem_cons, List.not_mem_nil, or_false] at ha
 rcases ha with rfl | rfl | rfl <;> (rw [List.mem_singleton.1 hv]; unfold Sm; decide)
theorem sm_s {l : B} (h : l.length ≤ 100) : Sm l := by unfold Sm; omega
theorem fl_lit (S : Nat → Prop) (w : World) (k : Int) (t v p q : B) (hk : I64 k) (ht : Sz t) (hv : Sz v) (hp : Sm p) (hq : Sm q) : FlC 1 S w (.mk k [] t v p [] q) (flV (.mk k [] t v p [] q) (.slice none 0 0) (.slice none 0 0)) :=
 ⟨_, _, rfl, hk, ht, hv, hp, hq, ⟨⟨none, 0, rfl, Nat.le_refl _, by simp [Fl.any], .inl rfl⟩, fun x hx => by simp [Fl.any] at hx, by simp [Fl.any]⟩, ⟨none, 0, rfl, Nat.le_refl _, by simp [Fl.kids], .inl rfl⟩⟩
theorem fl_any {S : Nat → Prop} {w : World} {va : Value} {l : List B} (h : LsIn S w va l) (hs : ∀ x ∈ l, Sm x) (hl : l.length ≤ 4294967000) (k : Int) (t v p q : B) (hk : I64 k) (ht : Sz t) (hv : Sz v) (hp : Sm p) (hq : Sm q) : FlC 1 S w (.mk k [] t v p l q) (flV (.mk k [] t v p l q) (.slice none 0 0) va) :=
 ⟨_, _, rfl, hk, ht, hv, hp, hq, ⟨h, hs, hl⟩, ⟨none, 0, rfl, Nat.le_refl _, by simp [Fl.kids], .inl rfl⟩⟩
theorem fl_kids {S : Nat → Prop} {M : Nat} {w : World} {vk : Value} {l : List Fl} (h : Sl 7 (FlC M S w) S w vk l) (k : Int) (hk : I64 k) : FlC (M + 1) S w (.mk k l [] [] [] [] []) (flV (.mk k l [] [] [] [] []) vk (.slice none 0 0)) :=
 ⟨_, _, rfl, hk, by unfold Sz Fl.type; simp, by unfold Sz Fl.value; simp, by unfold Sm Fl.first; simp, by unfold Sm Fl.last; simp, ⟨⟨none, 0, rfl, Nat.le_refl _, by simp [Fl.any], .inl rfl⟩, fun x hx => by simp [Fl.any] at hx, by simp [Fl.any]⟩, h⟩
theorem kids_blk {S : Nat → Prop} {M g : Nat} {w : World} {t : TypeId} (l : List Fl) (L : List (List Value)) (h : Blk w g t L.flatten) (hg : S g) (hL : L.length = l.length) (hp : ∀ (j : Nat) (x : Fl) (c : List Value), l[j]? = some x → L[j]? = some c → FlC M S w x c) (hl : l.length ≤ 100) : Sl 7 (FlC M S w) S w (.slice (some ⟨g, 0, none⟩) l.length l.length) l :=
 Sl.mono (blk_sl (k := 7) (p := FlC M S w) l L h hL (fun c hc => by
  obtain ⟨j, hj⟩ := List.mem_iff_getElem?.1 hc
  have hjl : j < l.length := by rw [← hL]; exact (List.getElem?_eq_some_iff.1 hj).1
  exact (hp j _ c (List.getElem?_eq_getElem hjl) hj).seven.1) hp (by omega)) (fun i hi _ => by have hi : i = g := hi; rw [hi]; exact hg) (fun _ _ _ h => h)
theorem infoFl3 : (Tryz.prog.info? 39).map (fun i => (i.zero, i.size, i.bytes)) = some (some (.agg (flV fl0 (.slice none 0 0) (.slice none 0 0)).toArray), 7, 120) := by kernel_rfl
def fx0 : Fl := .mk 3 [] sCn [97, 108, 32, 98, 111] [] [] []
theorem bfx0 (w : World) : (Instr.build 39 [(0, (.int .i64 3)), (2, (.string (sb sCn))), (3, (.string (sb [97, 108, 32, 98, 111])))].toArray).run Tryz.prog w = .ok (.agg (flV fx0 (.slice none 0 0) (.slice none 0 0)).toArray) w := by kernel_rfl
theorem rfx0 : evF ex2 en2 6 fx0 = 1 := by decide +kernel
def fx1 : Fl := .mk 3 [] sDc [120] [] [] []
theorem bfx1 (w : World) : (Instr.build 39 [(0, (.int .i64 3)), (2, (.string (sb sDc))), (3, (.string (sb [120])))].toArray).run Tryz.prog w = .ok (.agg (flV fx1 (.slice none 0 0) (.slice none 0 0)).toArray) w := by kernel_rfl
theorem rfx1 : evF ex2 en2 6 fx1 = 0 := by decide +kernel
def fx2 : Fl := .mk 7 [] [110, 111, 110, 101] [] [] [] []
theorem bfx2 (w : World) : (Instr.build 39 [(0, (.int .i64 7)), (2, (.string (sb [110, 111, 110, 101])))].toArray).run Tryz.prog w = .ok (.agg (flV fx2 (.slice none 0 0) (.slice none 0 0)).toArray) w := by kernel_rfl
theorem rfx2 : evF ex2 en2 6 fx2 = 2 := by decide +kernel
def fx3 : Fl := .mk 5 [] sAge [53] [] [] []
theorem bfx3 (w : World) : (Instr.build 39 [(0, (.int .i64 5)), (2, (.string (sb sAge))), (3, (.string (sb [53])))].toArray).run Tryz.prog w = .ok (.agg (flV fx3 (.slice none 0 0) (.slice none 0 0)).toArray) w := by kernel_rfl
theorem rfx3 : evF ex2 en2 6 fx3 = 1 := by decide +kernel
def fx4 : Fl := .mk 4 [] sCn [] [97, 108, 32] [] [111]
theorem bfx4 (w : World) : (Instr.build 39 [(0, (.int .i64 4)), (2, (.string (sb sCn))), (4, (.string (sb [97, 108, 32]))), (6, (.string (sb [111])))].toArray).run Tryz.prog w = .ok (.agg (flV fx4 (.slice none 0 0) (.slice none 0 0)).toArray) w := by kernel_rfl
theorem rfx4 : evF ex2 en2 6 fx4 = 1 := by decide +kernel
def fx5 : Fl := .mk 4 [] sCn [] [] [[108], [108]] []
theorem bfx5 (p : Nat) (w : World) : (Instr.build 39 [(0, .int .i64 4), (2, .string (sb sCn)), (5, .slice (some ⟨p, 0, none⟩) 2 2)].toArray).run Tryz.prog w = .ok (.agg (flV fx5 (.slice none 0 0) (.slice (some ⟨p, 0, none⟩) 2 2)).toArray) w := by kernel_rfl
theorem rfx5 : evF ex2 en2 6 fx5 = 0 := by decide +kernel
def fx6 : Fl := .mk 4 [] sCn [] [97] [[42]] []
theorem bfx6 (p : Nat) (w : World) : (Instr.build 39 [(0, .int .i64 4), (2, .string (sb sCn)), (4, .string (sb [97])), (5, .slice (some ⟨p, 0, none⟩) 1 1)].toArray).run Tryz.prog w = .ok (.agg (flV fx6 (.slice none 0 0) (.slice (some ⟨p, 0, none⟩) 1 1)).toArray) w := by kernel_rfl
def fx7 : Fl := .mk 2 [fx6] [] [] [] [] []
theorem bfx7 (p : Nat) (w : World) : (Instr.build 39 [(0, .int .i64 2), (1, .slice (some ⟨p, 0, none⟩) 1 1)].toArray).run Tryz.prog w = .ok (.agg (flV fx7 (.slice (some ⟨p, 0, none⟩) 1 1) (.slice none 0 0)).toArray) w := by kernel_rfl
def tx7 : B := [40, 33, 40, 99, 110, 61, 97, 42, 92, 50, 97, 42, 41, 41]
theorem rfx7 : prF 6 fx7 = tx7 := by decide +kernel
theorem awake_any (w : World) (hG : Gm w) : Calls Tryz.prog 11 #[] w fun e w' => e = .returned (.bool true) ∧ Fr No w w' := by
 obtain ⟨X, hXe⟩ : ∃ X : Nat → Prop, X = fun k => k < w.heap.size := ⟨_, rfl⟩
 have HX := hid hXe
 have HGX : Hid (GM X) := hid (by rw [hXe]; exact hG.gx)
 have HG := hid hG
 obtain ⟨is, his, hzs, hss, hbs⟩ := info_ex infoS3
 obtain ⟨ia, hia, hza, hsa, hba⟩ := info_ex infoAt3
 obtain ⟨fi, hfi, hzf, hsf, hbf⟩ := info_ex infoFl3
 have IS := hid his; have ZS := hid hzs; have SS := hid hss
 have IA := hid hia; have ZA := hid hza; have SA := hid hsa
 have IF := hid hfi; have ZF := hid hzf; have SF := hid hsf
 clear his hzs hss hbs hia hza hsa hba hfi hzf hsf hbf hXe hG
 go_enter Tryz.func11, Tryz.ntmps11
 go_wp2_with fail
 refine (example_any _).mono ?_
 rintro e w1 ⟨vt, vc, rfl, ht, hc, f1⟩
 have HT := hid ht; have HC := hid hc; have HF1 := hid f1
 clear ht hc f1
 go_wp2_with fail
 refine (new_ok vt vc ex2 w1 HT.out HC.out ex2_ok).mono ?_
 rintro e w2 ⟨b, rfl, hs, f2⟩
 have HF2 : Hid (Fr No w w2) := hid (HF1.out.trans' f2)
 have HS2 : Hid (Tn X b ex2 w2) := hid ⟨hs.less (fun k hk => by rw [HX.out] at hk; exact Nat.lt_of_lt_of_le hk HF1.out.size), fun k hk => by rw [HX.out] at hk; exact Nat.lt_of_lt_of_le hk HF2.out.size, HGX.out, HG.out.no HF2.out⟩
 have HBW : Hid (w.heap.size ≤ b) := hid (by have := HS2.out.1.nx; rw [HX.out] at this; omega)
 have HBL := hid hs.lt
 clear hs f2 HT HC HF1
 go_wp2_with (first
  | ((with_reducible refine K.atO (.buildSlice 26 _ _) ?_); refine wpL_buildAll rfl 26 45 [.tmp 23, .tmp 25, .tmp 27] rfl ia _ Tryz.underlying26 IA.out ZA.out (by rw [SA.out]; decide) (by rw [SA.out]; decide) (by decide) [.agg #[.string (sb sOC), .slice (some ⟨w2.heap.size, 0, none⟩) 1 1], .agg #[.string (sb sCn), .slice (some ⟨y1.heap.size, 0, none⟩) 1 1], .agg #[.string (sb sAge), .slice (some ⟨y2.heap.size, 0, none⟩) 1 1]] rfl (by intro v hv; rw [SA.out]; simp only [List.mem_cons, List.not_mem_nil, or_false] at hv; rcases hv with rfl | rfl | rfl <;> rfl) [.string (sb sOC), .slice (some ⟨w2.heap.size, 0, none⟩) 1 1, .string (sb sCn), .slice (some ⟨y1.heap.size, 0, none⟩) 1 1, .string (sb sAge), .slice (some ⟨y2.heap.size, 0, none⟩) 1 1] rfl ?_; intro y4 Hy4 Gy4 Ty4; simp only [K.pu])
  | ((with_reducible refine K.atO (.build 45 _) ?_); (have := Hy3); refine wpL_valZ rfl (.agg #[.string (sb sAge), .slice (some ⟨y2.heap.size, 0, none⟩) 1 1]) (exec_bld _ [(0, .const (.string (sb sAge))), (1, .tmp 26)] rfl [(0, (.string (sb sAge))), (1, .slice (some ⟨y2.heap.size, 0, none⟩) 1 1)] rfl _ _ (bat _ _ _ _)) ?_; simp only [K.pu])
  | ((with_reducible refine K.atO (.build 45 _) ?_); (have := Hy2); refine wpL_valZ rfl (.agg #[.string (sb sCn), .slice (some ⟨y1.heap.size, 0, none⟩) 1 1]) (exec_bld _ [(0, .const (.string (sb sCn))), (1, .tmp 24)] rfl [(0, (.string (sb sCn))), (1, .slice (some ⟨y1.heap.size, 0, none⟩) 1 1)] rfl _ _ (bat _ _ _ _)) ?_; simp only [K.pu])
  | ((with_reducible refine K.atO (.build 45 _) ?_); refine wpL_valZ rfl (.agg #[.string (sb sOC), .slice (some ⟨w2.heap.size, 0, none⟩) 1 1]) (exec_bld _ [(0, .const (.string (sb sOC))), (1, .tmp 22)] rfl [(0, (.string (sb sOC))), (1, .slice (some ⟨w2.heap.size, 0, none⟩) 1 1)] rfl _ _ (bat _ _ _ _)) ?_; simp only [K.pu])
  | ((with_reducible refine K.atO (.buildSlice 37 _ _) ?_); (have := Hy2); refine wpL_buildAll rfl 37 9 [.const (.string (sb [55]))] rfl is _ Tryz.underlying37 IS.out ZS.out (by rw [SS.out]; decide) (by rw [SS.out]; decide) (by decide) [.string (sb [55])] rfl (by intro v hv; rw [List.mem_singleton.1 hv, SS.out]; rfl) (strs [[55]]) rfl ?_; intro y3 Hy3 Gy3 Ty3; simp only [K.pu])
  | ((with_reducible refine K.atO (.buildSlice 37 _ _) ?_); (have := Hy1); refine wpL_buildAll rfl 37 9 [.const (.string (sb sAl))] rfl is _ Tryz.underlying37 IS.out ZS.out (by rw [SS.out]; decide) (by rw [SS.out]; decide) (by decide) [.string (sb sAl)] rfl (by intro v hv; rw [List.mem_singleton.1 hv, SS.out]; rfl) (strs [sAl]) rfl ?_; intro y2 Hy2 Gy2 Ty2; simp only [K.pu])
  | ((with_reducible refine K.atO (.buildSlice 37 _ _) ?_); refine wpL_buildAll rfl 37 9 [.const (.string (sb sPerson))] rfl is _ Tryz.underlying37 IS.out ZS.out (by rw [SS.out]; decide) (by rw [SS.out]; decide) (by decide) [.string (sb sPerson)] rfl (by intro v hv; rw [List.mem_singleton.1 hv, SS.out]; rfl) (strs [sPerson]) rfl ?_; intro y1 Hy1 Gy1 Ty1; simp only [K.pu]))
 have HE0 : Hid (EnIn (fun i => i ≠ b) y4 (.slice (some ⟨y3.heap.size, 0, none⟩) 3 3) en2) := by
  have t1 := Ty1.out; have t2 := Ty2.out; have t3 := Ty3.out; have t4 := Ty4.out; have hbl := HBL.out
  refine hid (en_blk en2 [(.slice (some ⟨w2.heap.size, 0, none⟩) 1 1), (.slice (some ⟨y1.heap.size, 0, none⟩) 1 1), (.slice (some ⟨y2.heap.size, 0, none⟩) 1 1)] Hy4.out rfl (fun j a v hj hv => ?_) (by omega) (by decide))
  match j, hj, hv with
  | 0, hj, hv => cases hj; cases hv; exact ⟨sz_s (by decide), ls_blk [sPerson] (((Hy1.out.fr Gy2.out id).fr Gy3.out id).fr Gy4.out id) (by omega) (by decide) (by intro x hx; rw [List.mem_singleton.1 hx]; exact sz_s (by decide))⟩
  | 1, hj, hv => cases hj; cases hv; exact ⟨sz_s (by decide), ls_blk [sAl] ((Hy2.out.fr Gy3.out id).fr Gy4.out id) (by omega) (by decide) (by intro x hx; rw [List.mem_singleton.1 hx]; exact sz_s (by decide))⟩
  | 2, hj, hv => cases hj; cases hv; exact ⟨sz_s (by decide), ls_blk [[55]] (Hy3.out.fr Gy4.out id) (by omega) (by decide) (by intro x hx; rw [List.mem_singleton.1 hx]; exact sz_s (by decide))⟩
  | q + 3, hj, _ => simp [en2] at hj
 have HFy : Hid (Fr No w2 y4) := hid (((Gy1.out.trans' Gy2.out).trans' Gy3.out).trans' Gy4.out)
 have HA0 : Hid (Fr No w y4) := hid (HF2.out.trans' HFy.out)
 have HS0 : Hid (Tn X b ex2 y4) := hid (HS2.out.no HFy.out)
 generalize y3.heap.size = ea at HE0 ⊢
 have HFBH : Hid (∀ u v : World, Fr No w u → Fr (fun i => i = b) u v → Fr No w v) := hid (fun _ _ f g => f.trans g (fun i e => .inr (by rw [e]; exact HBW.out)))
 clear Hy1 Gy1 Ty1 Hy2 Gy2 Ty2 Hy3 Gy3 Ty3 Hy4 Gy4 Ty4 HS2 HF2 HFy
 go_wp2_with (first
  | ((with_reducible refine K.atO (.build 39 _) ?_); refine wpL_valZ rfl (.agg (flV fx0 (.slice none 0 0) (.slice none 0 0)).toArray) (exec_bld _ [(0, .const (.int .i64 3)), (2, .const (.string (sb sCn))), (3, .const (.string (sb [97, 108, 32, 98, 111])))] rfl [(0, (.int .i64 3)), (2, (.string (sb sCn))), (3, (.string (sb [97, 108, 32, 98, 111])))] rfl _ _ (bfx0 _)) ?_; simp only [K.pu]))
 refine (Eval_any X b ex2 _ en2 fx0 _ y4 HS0.out HE0.out (fl_lit (fun i => i ≠ b) y4 3 sCn [97, 108, 32, 98, 111] [] [] ⟨by decide, by decide⟩ (sz_s (by decide)) (sz_s (by decide)) (sm_s (by decide)) (sm_s (by decide))) (fun i hi => hi) (fun i hi => hi) en2_s).mono ?_
 rintro e a1 ⟨rfl, hs, f⟩
 rw [rfx0]
 have HS1 := hid (HS0.out.step hs f); have HA1 : Hid (Fr No w a1) := hid (HFBH.out _ _ HA0.out f); have HE1 := hid (HE0.out.fr f (fun i hi _ e => hi e))
 clear hs f HS0 HA0 HE0
 go_wp2_with (first
  | ((with_reducible refine K.atO (.build 39 _) ?_); refine wpL_valZ rfl (.agg (flV fx1 (.slice none 0 0) (.slice none 0 0)).toArray) (exec_bld _ [(0, .const (.int .i64 3)), (2, .const (.string (sb sDc))), (3, .const (.string (sb [120])))] rfl [(0, (.int .i64 3)), (2, (.string (sb sDc))), (3, (.string (sb [120])))] rfl _ _ (bfx1 _)) ?_; simp only [K.pu]))
 refine (Eval_any X b ex2 _ en2 fx1 _ a1 HS1.out HE1.out (fl_lit (fun i => i ≠ b) a1 3 sDc [120] [] [] ⟨by decide, by decide⟩ (sz_s (by decide)) (sz_s (by decide)) (sm_s (by decide)) (sm_s (by decide))) (fun i hi => hi) (fun i hi => hi) en2_s).mono ?_
 rintro e a2 ⟨rfl, hs, f⟩
 rw [rfx1]
 have HS2 := hid (HS1.out.step hs f); have HA2 : Hid (Fr No w a2) := hid (HFBH.out _ _ HA1.out f); have HE2 := hid (HE1.out.fr f (fun i hi _ e => hi e))
 clear hs f HS1 HA1 HE1
 go_wp2_with (first
  | ((with_reducible refine K.atO (.build 39 _) ?_); refine wpL_valZ rfl (.agg (flV fx2 (.slice none 0 0) (.slice none 0 0)).toArray) (exec_bld _ [(0, .const (.int .i64 7)), (2, .const (.string (sb [110, 111, 110, 101])))] rfl [(0, (.int .i64 7)), (2, (.string (sb [110, 111, 110, 101])))] rfl _ _ (bfx2 _)) ?_; simp only [K.pu]))
 refine (Eval_any X b ex2 _ en2 fx2 _ a2 HS2.out HE2.out (fl_lit (fun i => i ≠ b) a2 7 [110, 111, 110, 101] [] [] [] ⟨by decide, by decide⟩ (sz_s (by decide)) (sz_s (by decide)) (sm_s (by decide)) (sm_s (by decide))) (fun i hi => hi) (fun i hi => hi) en2_s).mono ?_
 rintro e a3 ⟨rfl, hs, f⟩
 rw [rfx2]
 have HS3 := hid (HS2.out.step hs f); have HA3 : Hid (Fr No w a3) := hid (HFBH.out _ _ HA2.out f); have HE3 := hid (HE2.out.fr f (fun i hi _ e => hi e))
 clear hs f HS2 HA2 HE2
 go_wp2_with (first
  | ((with_reducible refine K.atO (.build 39 _) ?_); refine wpL_valZ rfl (.agg (flV fx3 (.slice none 0 0) (.slice none 0 0)).toArray) (exec_bld _ [(0, .const (.int .i64 5)), (2, .const (.string (sb sAge))), (3, .const (.string (sb [53])))] rfl [(0, (.int .i64 5)), (2, (.string (sb sAge))), (3, (.string (sb [53])))] rfl _ _ (bfx3 _)) ?_; simp only [K.pu]))
 refine (Eval_any X b ex2 _ en2 fx3 _ a3 HS3.out HE3.out (fl_lit (fun i => i ≠ b) a3 5 sAge [53] [] [] ⟨by decide, by decide⟩ (sz_s (by decide)) (sz_s (by decide)) (sm_s (by decide)) (sm_s (by decide))) (fun i hi => hi) (fun i hi => hi) en2_s).mono ?_
 rintro e a4 ⟨rfl, hs, f⟩
 rw [rfx3]
 have HS4 := hid (HS3.out.step hs f); have HA4 : Hid (Fr No w a4) := hid (HFBH.out _ _ HA3.out f); have HE4 := hid (HE3.out.fr f (fun i hi _ e => hi e))
 clear hs f HS3 HA3 HE3
 go_wp2_with (first
  | ((with_reducible refine K.atO (.build 39 _) ?_); refine wpL_valZ rfl (.agg (flV fx4 (.slice none 0 0) (.slice none 0 0)).toArray) (exec_bld _ [(0, .const (.int .i64 4)), (2, .const (.string (sb sCn))), (4, .const (.string (sb [97, 108, 32]))), (6, .const (.string (sb [111])))] rfl [(0, (.int .i64 4)), (2, (.string (sb sCn))), (4, (.string (sb [97, 108, 32]))), (6, (.string (sb [111])))] rfl _ _ (bfx4 _)) ?_; simp only [K.pu]))
 refine (Eval_any X b ex2 _ en2 fx4 _ a4 HS4.out HE4.out (fl_lit (fun i => i ≠ b) a4 4 sCn [] [97, 108, 32] [111] ⟨by decide, by decide⟩ (sz_s (by decide)) (sz_s (by decide)) (sm_s (by decide)) (sm_s (by decide))) (fun i hi => hi) (fun i hi => hi) en2_s).mono ?_
 rintro e a5 ⟨rfl, hs, f⟩
 rw [rfx4]
 have HS5 := hid (HS4.out.step hs f); have HA5 : Hid (Fr No w a5) := hid (HFBH.out _ _ HA4.out f); have HE5 := hid (HE4.out.fr f (fun i hi _ e => hi e))
 clear hs f HS4 HA4 HE4
 go_wp2_with (first
  | ((with_reducible refine K.atO (.buildSlice 37 _ _) ?_); refine wpL_buildAll rfl 37 9 [.const (.string (sb [108])), .const (.string (sb [108]))] rfl is _ Tryz.underlying37 IS.out ZS.out (by rw [SS.out]; decide) (by rw [SS.out]; decide) (by decide) [.string (sb [108]), .string (sb [108])] rfl (by intro v hv; rw [SS.out]; simp only [List.mem_cons, List.not_mem_nil, or_false] at hv; rcases hv with rfl | rfl <;> rfl) (strs [[108], [108]]) rfl ?_; intro z1 Hz1 Gz1 Tz1; simp only [K.pu])
  | ((with_reducible refine K.atO (.build 39 _) ?_); refine wpL_valZ rfl (.agg (flV fx5 (.slice none 0 0) (.slice (some ⟨a5.heap.size, 0, none⟩) 2 2)).toArray) (exec_bld _ [(0, .const (.int .i64 4)), (2, .const (.string (sb sCn))), (5, .tmp 51)] rfl [(0, .int .i64 4), (2, .string (sb sCn)), (5, .slice (some ⟨a5.heap.size, 0, none⟩) 2 2)] rfl _ _ (bfx5 _ _)) ?_; simp only [K.pu]))
 have HL6 : Hid (LsIn (fun i => i ≠ b) z1 (.slice (some ⟨a5.heap.size, 0, none⟩) 2 2) [[108], [108]]) := hid (ls_blk [[108], [108]] Hz1.out (by have := HS5.out.lt; omega) (by decide) (by intro x hx; simp only [List.mem_cons, List.not_mem_nil, or_false] at hx; rcases hx with rfl | rfl <;> exact sz_s (by decide)))
 refine (Eval_any X b ex2 _ en2 fx5 _ z1 (HS5.out.no Gz1.out) (HE5.out.no Gz1.out) (fl_any HL6.out (by intro x hx; simp only [List.mem_cons, List.not_mem_nil, or_false] at hx; rcases hx with rfl | rfl <;> exact sm_s (by decide)) (by decide) 4 sCn [] [] [] ⟨by decide, by decide⟩ (sz_s (by decide)) (sz_s (by decide)) (sm_s (by decide)) (sm_s (by decide))) (fun i hi => hi) (fun i hi => hi) en2_s).mono ?_
 rintro e a6 ⟨rfl, hs, f⟩
 rw [rfx5]
 have HA6 : Hid (Fr No w a6) := hid (HFBH.out _ _ (HA5.out.trans' Gz1.out) f)
 clear hs f HS5 HA5 HE5 HL6 Hz1 Gz1 Tz1
 go_wp2_with (first
  | ((with_reducible refine K.atO (.buildSlice 37 _ _) ?_); refine wpL_buildAll rfl 37 9 [.const (.string (sb [42]))] rfl is _ Tryz.underlying37 IS.out ZS.out (by rw [SS.out]; decide) (by rw [SS.out]; decide) (by decide) [.string (sb [42])] rfl (by intro v hv; rw [List.mem_singleton.1 hv, SS.out]; rfl) (strs [[42]]) rfl ?_; intro z1 Hz1 Gz1 Tz1; simp only [K.pu])
  | ((with_reducible refine K.atO (.build 39 _) ?_); (have := Hz2); refine wpL_valZ rfl (.agg (flV fx7 (.slice (some ⟨z1.heap.size, 0, none⟩) 1 1) (.slice none 0 0)).toArray) (exec_bld _ [(0, .const (.int .i64 2)), (1, .tmp 56)] rfl [(0, .int .i64 2), (1, .slice (some ⟨z1.heap.size, 0, none⟩) 1 1)] rfl _ _ (bfx7 _ _)) ?_; simp only [K.pu])
  | ((with_reducible refine K.atO (.build 39 _) ?_); refine wpL_valZ rfl (.agg (flV fx6 (.slice none 0 0) (.slice (some ⟨a6.heap.size, 0, none⟩) 1 1)).toArray) (exec_bld _ [(0, .const (.int .i64 4)), (2, .const (.string (sb sCn))), (4, .const (.string (sb [97]))), (5, .tmp 54)] rfl [(0, .int .i64 4), (2, .string (sb sCn)), (4, .string (sb [97])), (5, .slice (some ⟨a6.heap.size, 0, none⟩) 1 1)] rfl _ _ (bfx6 _ _)) ?_; simp only [K.pu])
  | ((with_reducible refine K.atO (.buildSlice 36 _ _) ?_); refine wpL_buildAll rfl 36 39 [.tmp 55] rfl fi _ Tryz.underlying36 IF.out ZF.out (by rw [SF.out]; decide) (by rw [SF.out]; decide) (by decide) [.agg (flV fx6 (.slice none 0 0) (.slice (some ⟨a6.heap.size, 0, none⟩) 1 1)).toArray] rfl (by intro v hv; rw [SF.out]; rw [List.mem_singleton.1 hv]; rfl) ([flV fx6 (.slice none 0 0) (.slice (some ⟨a6.heap.size, 0, none⟩) 1 1)] : List (List Value)).flatten (by simp [Value.cells]) ?_; intro z2 Hz2 Gz2 Tz2; simp only [K.pu]))
 have HL7 : Hid (FlC 2 (fun _ => True) z2 fx7 (flV fx7 (.slice (some ⟨z1.heap.size, 0, none⟩) 1 1) (.slice none 0 0))) := by
  have h1 : LsIn (fun _ => True) z2 (.slice (some ⟨a6.heap.size, 0, none⟩) 1 1) [[42]] := LsIn.mono (blk_ls [[42]] (Hz1.out.fr Gz2.out id) (by decide) (by intro x hx; rw [List.mem_singleton.1 hx]; exact sz_s (by decide))) (fun _ _ _ => trivial)
  have h2 : FlC 1 (fun _ => True) z2 fx6 (flV fx6 (.slice none 0 0) (.slice (some ⟨a6.heap.size, 0, none⟩) 1 1)) := fl_any h1 (by intro x hx; rw [List.mem_singleton.1 hx]; exact sm_s (by decide)) (by decide) 4 sCn [] [97] [] ⟨by decide, by decide⟩ (sz_s (by decide)) (sz_s (by decide)) (sm_s (by decide)) (sm_s (by decide))
  exact hid (fl_kids (kids_blk [fx6] [flV fx6 (.slice none 0 0) (.slice (some ⟨a6.heap.size, 0, none⟩) 1 1)] Hz2.out trivial rfl (fun j x c hx hc => by
   match j, hx, hc with
   | 0, hx, hc => cases hx; cases hc; exact h2
   | n + 1, hx, _ => simp at hx) (by decide)) 2 ⟨by decide, by decide⟩)
 have HA8 : Hid (Fr No w z2) := hid ((HA6.out.trans' Gz1.out).trans' Gz2.out)
 refine (Print_ns fx7 _ z2 HL7.out rfl (fun k hk => by rw [List.mem_singleton.1 hk]; rfl) (by rw [rfx7]; decide)).mono ?_
 rintro e a9 ⟨rfl, f⟩
 rw [rfx7]
 have HA9 := hid (HA8.out.trans' f)
 clear f HL7 HA8 HA6 Hz1 Gz1 Tz1 Hz2 Gz2 Tz2
 go_wp2_with (first
  | ((with_reducible refine K.atO (.binOp .eql 9 _ _ _) ?_); refine wpL_valZ rfl (.bool true) ((exec_eqS _ _ _ rfl tx7 tx7 rfl rfl _).trans (by simp)) ?_))
 go_ret
 exact ⟨rfl, HA9.out⟩
theorem evalsLaw {S S2 : Nat → Prop} {M : Nat} (vt vc v : Value) (s : Sch) (en : Ent) (f : Fl) (cs : List Value) (w : World) (h : TysIn S w vt s.tys) (hy : ClsIn S2 w vc s.cls) (hG : Gm w) (he : EnIn (fun i => i < w.heap.size) w v en) (hE : EnS en) (hf : FlC M (fun i => i < w.heap.size) w f cs) :
  Calls Tryz.prog 4 #[.agg #[vt, vc], v, .agg cs.toArray] w fun e w' => e = .returned (.bool true) ∧ Fr No w w' := by
 obtain ⟨X, hXe⟩ : ∃ X : Nat → Prop, X = fun k => k < w.heap.size := ⟨_, rfl⟩
 have HX := hid hXe
 have HGX : Hid (GM X) := hid (by rw [hXe]; exact hG.gx)
 have HG := hid hG; have HT := hid h; have HC := hid hy; have HE := hid he; have HES := hid hE; have HFL := hid hf
 obtain ⟨va, vcp, rfl, -, -⟩ := he.form
 obtain ⟨ka, kc, aa, ac, rfl, -⟩ := hf.form
 clear h hy hG hXe he hE hf
 go_enter Tryz.func4, Tryz.ntmps4
 go_wp2_with (first
  | ((with_reducible refine K.atO (.box 25 _) ?_); refine wpL_box rfl _ _ rfl _ rfl [vt, vc] rfl ?_; intro w1 HB1 HF1 HS1)
  | ((with_reducible refine K.atO (.box 39 _) ?_); refine wpL_box rfl _ _ rfl _ rfl (flV f (.slice ka f.kids.length kc) (.slice aa f.any.length ac)) rfl ?_; intro w2 HB2 HF2 HS2; refine Hid.out ?_))
 obtain ⟨b0, hb0⟩ : ∃ b, w.heap.size = b := ⟨_, rfl⟩
 obtain ⟨b1, hb1⟩ : ∃ b, w1.heap.size = b := ⟨_, rfl⟩
 rw [hb0] at HB1 ⊢
 rw [hb1] at HB2 ⊢
 have HBS := hid (HB1.out.fr HF2.out id)
 have HF := hid (HF1.out.trans' HF2.out)
 clear hb0 hb1 HS1 HS2 HB1 HF1 HF2
 refine hid ?_
 go_wp2_with fail
 refine (awake_any w2 (HG.out.no HF.out)).mono ?_
 rintro e w4 ⟨rfl, f4⟩
 have HB4 := hid (HBS.out.fr f4 id); have HB5 := hid (HB2.out.fr f4 id)
 have HR4 : Hid (w4.rangeAt b0 0 [vt, vc]) := hid (HB4.out.range 0 _ rfl)
 have HF4 : Hid (Fr No w w4) := hid (HF.out.trans' f4)
 have HT4 := hid (TysIn.fr (D := No) HT.out HF4.out (fun _ _ _ e => e)); have HC4 := hid (ClsIn.fr (D := No) HC.out HF4.out (fun _ _ _ e => e))
 clear f4 HBS HB2 HF
 go_wp2_with (first
  | ((with_reducible refine K.atO (.load 25 _) ?_); refine wpL_valZ rfl (.agg #[vt, vc]) (exec_load _ _ rfl b0 0 rfl [vt, vc] _ rfl rfl infoSc5 w4 HR4.out) ?_))
 cases hok : okS s with
 | false =>
  refine (new_bad vt vc s w4 HT4.out HC4.out hok).mono ?_
  rintro e w5 ⟨rfl, f5⟩
  have HF5 := hid (HF4.out.trans' f5)
  clear f5 HT4 HC4 hok
  go_wp2_with fail
  go_ret
  exact ⟨rfl, HF5.out⟩
 | true =>
  have HOK := hid hok
  refine (new_ok vt vc s w4 HT4.out HC4.out hok).mono ?_
  rintro e w5 ⟨q, rfl, hs, f5⟩
  have HF5 : Hid (Fr No w w5) := hid (HF4.out.trans' f5)
  have HTN : Hid (Tn X q s w5) := hid ⟨hs.less (fun k hk => by rw [HX.out] at hk; exact Nat.lt_of_lt_of_le hk HF4.out.size), fun k hk => by rw [HX.out] at hk; exact Nat.lt_of_lt_of_le hk HF5.out.size, HGX.out, HG.out.no HF5.out⟩
  have HQ4 : Hid (w4.heap.size ≤ q) := hid (by have := hs.nx; omega)
  have HQW : Hid (w.heap.size ≤ q) := hid (Nat.le_trans HF4.out.size HQ4.out)
  have HEN : Hid (EnIn (fun i => i ≠ q) w5 (.slice va en.length vcp) en) := hid ((HE.out.no HF5.out).mono (fun i hi _ e => by have := HQW.out; omega))
  have HFN : Hid (FlC M (fun i => i ≠ q) w5 f (flV f (.slice ka f.kids.length kc) (.slice aa f.any.length ac))) := hid ((HFL.out.no HF5.out).mono (fun i hi _ e => by have := HQW.out; omega))
  have HBA := hid (HB4.out.fr f5 id); have HBB := hid (HB5.out.fr f5 id)
  have HNE : Hid (b0 ≠ q ∧ b1 ≠ q) := hid (by have := HQ4.out; have := HB4.out.lt; have := HB5.out.lt; omega)
  have HRB : Hid (w5.rangeAt b1 0 (flV f (.slice ka f.kids.length kc) (.slice aa f.any.length ac))) := hid (HBB.out.range 0 _ rfl)
  clear hs f5 HT4 HC4 hok HB4 HB5 HR4 HF4
  go_wp2_with (first
   | ((with_reducible refine K.atO (.load 39 _) ?_); refine wpL_valZ rfl (.agg (flV f (.slice ka f.kids.length kc) (.slice aa f.any.length ac)).toArray) (exec_load _ _ rfl b1 0 rfl _ _ rfl rfl infoFl w5 HRB.out) ?_))
  refine (Eval_any X q s _ en f _ w5 HTN.out HEN.out HFN.out (fun i hi => hi) (fun i hi => hi) HES.out).mono ?_
  rintro e w6 ⟨rfl, hs, f6⟩
  have HF6 : Hid (Fr No w w6) := hid (HF5.out.trans f6 (fun i e => .inr (by rw [e]; exact HQW.out)))
  have HR6 : Hid (w6.rangeAt b0 0 [vt, vc]) := hid ((HBA.out.fr f6 HNE.out.1).range 0 _ rfl)
  have HR7 : Hid (w6.rangeAt b1 0 (flV f (.slice ka f.kids.length kc) (.slice aa f.any.length ac))) := hid ((HBB.out.fr f6 HNE.out.2).range 0 _ rfl)
  clear hs f6 HTN HEN HFN HBA HBB HRB HF5
  go_wp2_with (first
   | ((with_reducible refine K.atO (.load 25 _) ?_); refine wpL_valZ rfl (.agg #[vt, vc]) (exec_load _ _ rfl b0 0 rfl [vt, vc] _ rfl rfl infoSc5 w6 HR6.out) ?_)
   | ((with_reducible refine K.atO (.load 39 _) ?_); refine wpL_valZ rfl (.agg (flV f (.slice ka f.kids.length kc) (.slice aa f.any.length ac)).toArray) (exec_load _ _ rfl b1 0 rfl _ _ rfl rfl infoFl w6 HR7.out) ?_))
  refine (reval_any (S := S) (S2 := S2) (S3 := fun i => i < w.heap.size) (T := fun i => i < w.heap.size) vt vc _ s en HOK.out HES.out 6 (by decide) M f _ w6 (TysIn.fr (D := No) HT.out HF6.out (fun _ _ _ e => e)) (ClsIn.fr (D := No) HC.out HF6.out (fun _ _ _ e => e)) (HE.out.no HF6.out) (HFL.out.no HF6.out)).mono ?_
  rintro e w7 ⟨rfl, f7⟩
  have HF7 := hid (HF6.out.trans' f7)
  clear f7
  generalize evF s en 6 f = y
  go_wp2_with fail
  go_ret
  exact ⟨by simp, HF7.out⟩
end Go.Proofs.YtgbiicipkbpmeaaGreatDoor.FT
