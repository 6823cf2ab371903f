/-
  Part 27 of the proof: FtH, FtN, FtNo.
-/
import Derived.Test.YtdkkpfeiaaffhaaGreatDoorFa22
import Derived.Test.YtdkkpfeiaaffhaaGreatDoorFa23
import Derived.Test.YtdkkpfeiaaffhaaGreatDoorFa26
set_option linter.unusedSimpArgs false
set_option linter.unusedVariables false
namespace Go.Proofs.YtdkkpfeiaaffhaaGreatDoor.FT
set_option maxRecDepth 100000
open Go.RowKit K Go.Proofs.YtdkkpfeiaaffhaaGreatDoor.BE Go.Proofs.YtdkkpfeiaaffhaaGreatDoor.DN Go.Proofs.YtdkkpfeiaaffhaaGreatDoor.SC

def sAl : B := [65, 108, 32, 66, 111]
def en2 : Ent := [(sOC, [sPerson]), (sCn, [sAl]), (sAge, [[55]])]
theorem en2_s : EnS en2 := by
  intro a ha v hv
  simp only [en2, List.mem_cons, List.not_mem_nil, or_false] at ha
  rcases ha with rfl | rfl | rfl <;> (rw [List.mem_singleton.1 hv]; unfold Sm; decide)
theorem sm_s {l : B} (h : l.length ≤ 100) : Sm l := by unfold Sm; omega
/-- A filter without kids and parts, as a literal. -/
theorem fl_lit (S : Nat → Prop) (w : World) (k : Int) (t v p q : B) (hk : I64 k) (ht : Sz t) (hv : Sz v) (hp : Sm p) (hq : Sm q) : FlC 1 S w (.mk k [] t v p [] q) (flV (.mk k [] t v p [] q) (.slice none 0 0) (.slice none 0 0)) :=
  ⟨_, _, rfl, hk, ht, hv, hp, hq, ⟨⟨none, 0, rfl, Nat.le_refl _, by simp [Fl.any], .inl rfl⟩, fun x hx => by simp [Fl.any] at hx, by simp [Fl.any]⟩, ⟨none, 0, rfl, Nat.le_refl _, by simp [Fl.kids], .inl rfl⟩⟩
/-- With parts. -/
theorem fl_any {S : Nat → Prop} {w : World} {va : Value} {l : List B} (h : LsIn S w va l) (hs : ∀ x ∈ l, Sm x) (hl : l.length ≤ 4294967000) (k : Int) (t v p q : B) (hk : I64 k) (ht : Sz t) (hv : Sz v) (hp : Sm p) (hq : Sm q) : FlC 1 S w (.mk k [] t v p l q) (flV (.mk k [] t v p l q) (.slice none 0 0) va) :=
  ⟨_, _, rfl, hk, ht, hv, hp, hq, ⟨h, hs, hl⟩, ⟨none, 0, rfl, Nat.le_refl _, by simp [Fl.kids], .inl rfl⟩⟩
/-- With kids. -/
theorem fl_kids {S : Nat → Prop} {M : Nat} {w : World} {vk : Value} {l : List Fl} (h : Sl 7 (FlC M S w) S w vk l) (k : Int) (hk : I64 k) : FlC (M + 1) S w (.mk k l [] [] [] [] []) (flV (.mk k l [] [] [] [] []) vk (.slice none 0 0)) :=
  ⟨_, _, rfl, hk, by unfold Sz Fl.type; simp, by unfold Sz Fl.value; simp, by unfold Sm Fl.first; simp, by unfold Sm Fl.last; simp, ⟨⟨none, 0, rfl, Nat.le_refl _, by simp [Fl.any], .inl rfl⟩, fun x hx => by simp [Fl.any] at hx, by simp [Fl.any]⟩, h⟩
/-- Kids in a block of their own. -/
theorem kids_blk {S : Nat → Prop} {M g : Nat} {w : World} {t : TypeId} (l : List Fl) (L : List (List Value)) (h : Blk w g t L.flatten) (hg : S g) (hL : L.length = l.length) (hp : ∀ (j : Nat) (x : Fl) (c : List Value), l[j]? = some x → L[j]? = some c → FlC M S w x c) (hl : l.length ≤ 100) : Sl 7 (FlC M S w) S w (.slice (some ⟨g, 0, none⟩) l.length l.length) l :=
  Sl.mono (blk_sl (k := 7) (p := FlC M S w) l L h hL (fun c hc => by
    obtain ⟨j, hj⟩ := List.mem_iff_getElem?.1 hc
    have hjl : j < l.length := by rw [← hL]; exact (List.getElem?_eq_some_iff.1 hj).1
    exact (hp j _ c (List.getElem?_eq_getElem hjl) hj).seven.1) hp (by omega)) (fun i hi _ => by have hi : i = g := hi; rw [hi]; exact hg) (fun _ _ _ h => h)
theorem infoFl3 : (Tryz.prog.info? 46).map (fun i => (i.zero, i.size, i.bytes)) = some (some (.agg (flV fl0 (.slice none 0 0) (.slice none 0 0)).toArray), 7, 120) := by kernel_rfl
def fx0 : Fl := .mk 3 [] sCn [97, 108, 32, 98, 111] [] [] []
theorem bfx0 (w : World) : (Instr.build 46 [(0, (.int .i64 3)), (2, (.string (sb sCn))), (3, (.string (sb [97, 108, 32, 98, 111])))].toArray).run Tryz.prog w = .ok (.agg (flV fx0 (.slice none 0 0) (.slice none 0 0)).toArray) w := by kernel_rfl
theorem rfx0 : evF ex2 en2 6 fx0 = 1 := by decide +kernel
def fx1 : Fl := .mk 3 [] sDc [120] [] [] []
theorem bfx1 (w : World) : (Instr.build 46 [(0, (.int .i64 3)), (2, (.string (sb sDc))), (3, (.string (sb [120])))].toArray).run Tryz.prog w = .ok (.agg (flV fx1 (.slice none 0 0) (.slice none 0 0)).toArray) w := by kernel_rfl
theorem rfx1 : evF ex2 en2 6 fx1 = 0 := by decide +kernel
def fx2 : Fl := .mk 7 [] [110, 111, 110, 101] [] [] [] []
theorem bfx2 (w : World) : (Instr.build 46 [(0, (.int .i64 7)), (2, (.string (sb [110, 111, 110, 101])))].toArray).run Tryz.prog w = .ok (.agg (flV fx2 (.slice none 0 0) (.slice none 0 0)).toArray) w := by kernel_rfl
theorem rfx2 : evF ex2 en2 6 fx2 = 2 := by decide +kernel
def fx3 : Fl := .mk 5 [] sAge [53] [] [] []
theorem bfx3 (w : World) : (Instr.build 46 [(0, (.int .i64 5)), (2, (.string (sb sAge))), (3, (.string (sb [53])))].toArray).run Tryz.prog w = .ok (.agg (flV fx3 (.slice none 0 0) (.slice none 0 0)).toArray) w := by kernel_rfl
theorem rfx3 : evF ex2 en2 6 fx3 = 1 := by decide +kernel
def fx4 : Fl := .mk 4 [] sCn [] [97, 108, 32] [] [111]
theorem bfx4 (w : World) : (Instr.build 46 [(0, (.int .i64 4)), (2, (.string (sb sCn))), (4, (.string (sb [97, 108, 32]))), (6, (.string (sb [111])))].toArray).run Tryz.prog w = .ok (.agg (flV fx4 (.slice none 0 0) (.slice none 0 0)).toArray) w := by kernel_rfl
theorem rfx4 : evF ex2 en2 6 fx4 = 1 := by decide +kernel
def fx5 : Fl := .mk 4 [] sCn [] [] [[108], [108]] []
theorem bfx5 (p : Nat) (w : World) : (Instr.build 46 [(0, .int .i64 4), (2, .string (sb sCn)), (5, .slice (some ⟨p, 0, none⟩) 2 2)].toArray).run Tryz.prog w = .ok (.agg (flV fx5 (.slice none 0 0) (.slice (some ⟨p, 0, none⟩) 2 2)).toArray) w := by kernel_rfl
theorem rfx5 : evF ex2 en2 6 fx5 = 0 := by decide +kernel
def fx6 : Fl := .mk 4 [] sCn [] [97] [[42]] []
theorem bfx6 (p : Nat) (w : World) : (Instr.build 46 [(0, .int .i64 4), (2, .string (sb sCn)), (4, .string (sb [97])), (5, .slice (some ⟨p, 0, none⟩) 1 1)].toArray).run Tryz.prog w = .ok (.agg (flV fx6 (.slice none 0 0) (.slice (some ⟨p, 0, none⟩) 1 1)).toArray) w := by kernel_rfl
def fx7 : Fl := .mk 2 [fx6] [] [] [] [] []
theorem bfx7 (p : Nat) (w : World) : (Instr.build 46 [(0, .int .i64 2), (1, .slice (some ⟨p, 0, none⟩) 1 1)].toArray).run Tryz.prog w = .ok (.agg (flV fx7 (.slice (some ⟨p, 0, none⟩) 1 1) (.slice none 0 0)).toArray) w := by kernel_rfl
def tx7 : B := [40, 33, 40, 99, 110, 61, 97, 42, 92, 50, 97, 42, 41, 41]
theorem rfx7 : prF 6 fx7 = tx7 := by decide +kernel
set_option maxHeartbeats 16000000 in
theorem awake_any (w : World) (hG : Gm w) : Calls Tryz.prog 21 #[] w fun e w' => e = .returned (.bool true) ∧ Fr No w w' := by
  obtain ⟨X, hXe⟩ : ∃ X : Nat → Prop, X = fun k => k < w.heap.size := ⟨_, rfl⟩
  have HX := hid hXe
  have HGX : Hid (GM X) := hid (by rw [hXe]; exact hG.gx)
  have HG := hid hG
  obtain ⟨is, his, hzs, hss, hbs⟩ := info_ex infoS3
  obtain ⟨ia, hia, hza, hsa, hba⟩ := info_ex infoAt3
  obtain ⟨fi, hfi, hzf, hsf, hbf⟩ := info_ex infoFl3
  have IS := hid his; have ZS := hid hzs; have SS := hid hss
  have IA := hid hia; have ZA := hid hza; have SA := hid hsa
  have IF := hid hfi; have ZF := hid hzf; have SF := hid hsf
  clear his hzs hss hbs hia hza hsa hba hfi hzf hsf hbf hXe hG
  go_enter Tryz.func21, Tryz.ntmps21
  go_wp2_with fail
  refine (example_any _).mono ?_
  rintro e w1 ⟨vt, vc, rfl, ht, hc, f1⟩
  have HT := hid ht; have HC := hid hc; have HF1 := hid f1
  clear ht hc f1
  go_wp2_with fail
  refine (new_ok vt vc ex2 w1 HT.out HC.out ex2_ok).mono ?_
  rintro e w2 ⟨b, rfl, hs, f2⟩
  have HF2 : Hid (Fr No w w2) := hid (HF1.out.trans' f2)
  have HS2 : Hid (Tn X b ex2 w2) := hid ⟨hs.less (fun k hk => by rw [HX.out] at hk; exact Nat.lt_of_lt_of_le hk HF1.out.size), fun k hk => by rw [HX.out] at hk; exact Nat.lt_of_lt_of_le hk HF2.out.size, HGX.out, HG.out.no HF2.out⟩
  have HBW : Hid (w.heap.size ≤ b) := hid (by have := HS2.out.1.nx; rw [HX.out] at this; omega)
  have HBL := hid hs.lt
  clear hs f2 HT HC HF1
  go_wp2_with (first
    | ((with_reducible refine K.atO (.buildSlice 38 _ _) ?_); refine wpL_buildAll rfl 38 60 [.tmp 23, .tmp 25, .tmp 27] rfl ia _ Tryz.underlying38 IA.out ZA.out (by rw [SA.out]; decide) (by rw [SA.out]; decide) (by decide) [.agg #[.string (sb sOC), .slice (some ⟨w2.heap.size, 0, none⟩) 1 1], .agg #[.string (sb sCn), .slice (some ⟨y1.heap.size, 0, none⟩) 1 1], .agg #[.string (sb sAge), .slice (some ⟨y2.heap.size, 0, none⟩) 1 1]] rfl (by intro v hv; rw [SA.out]; simp only [List.mem_cons, List.not_mem_nil, or_false] at hv; rcases hv with rfl | rfl | rfl <;> rfl) [.string (sb sOC), .slice (some ⟨w2.heap.size, 0, none⟩) 1 1, .string (sb sCn), .slice (some ⟨y1.heap.size, 0, none⟩) 1 1, .string (sb sAge), .slice (some ⟨y2.heap.size, 0, none⟩) 1 1] rfl ?_; intro y4 Hy4 Gy4 Ty4; simp only [Act.put, K.put3])
    | ((with_reducible refine K.atO (.build 60 _) ?_); (have := Hy3); refine wpL_valZ rfl (.agg #[.string (sb sAge), .slice (some ⟨y2.heap.size, 0, none⟩) 1 1]) (exec_bld _ [(0, .const (.string (sb sAge))), (1, .tmp 26)] rfl [(0, (.string (sb sAge))), (1, .slice (some ⟨y2.heap.size, 0, none⟩) 1 1)] rfl _ _ (bat _ _ _ _)) ?_; simp only [Act.put, K.put3])
    | ((with_reducible refine K.atO (.build 60 _) ?_); (have := Hy2); refine wpL_valZ rfl (.agg #[.string (sb sCn), .slice (some ⟨y1.heap.size, 0, none⟩) 1 1]) (exec_bld _ [(0, .const (.string (sb sCn))), (1, .tmp 24)] rfl [(0, (.string (sb sCn))), (1, .slice (some ⟨y1.heap.size, 0, none⟩) 1 1)] rfl _ _ (bat _ _ _ _)) ?_; simp only [Act.put, K.put3])
    | ((with_reducible refine K.atO (.build 60 _) ?_); refine wpL_valZ rfl (.agg #[.string (sb sOC), .slice (some ⟨w2.heap.size, 0, none⟩) 1 1]) (exec_bld _ [(0, .const (.string (sb sOC))), (1, .tmp 22)] rfl [(0, (.string (sb sOC))), (1, .slice (some ⟨w2.heap.size, 0, none⟩) 1 1)] rfl _ _ (bat _ _ _ _)) ?_; simp only [Act.put, K.put3])
    | ((with_reducible refine K.atO (.buildSlice 44 _ _) ?_); (have := Hy2); refine wpL_buildAll rfl 44 9 [.const (.string (sb [55]))] rfl is _ Tryz.underlying44 IS.out ZS.out (by rw [SS.out]; decide) (by rw [SS.out]; decide) (by decide) [.string (sb [55])] rfl (by intro v hv; rw [List.mem_singleton.1 hv, SS.out]; rfl) (strs [[55]]) rfl ?_; intro y3 Hy3 Gy3 Ty3; simp only [Act.put, K.put3])
    | ((with_reducible refine K.atO (.buildSlice 44 _ _) ?_); (have := Hy1); refine wpL_buildAll rfl 44 9 [.const (.string (sb sAl))] rfl is _ Tryz.underlying44 IS.out ZS.out (by rw [SS.out]; decide) (by rw [SS.out]; decide) (by decide) [.string (sb sAl)] rfl (by intro v hv; rw [List.mem_singleton.1 hv, SS.out]; rfl) (strs [sAl]) rfl ?_; intro y2 Hy2 Gy2 Ty2; simp only [Act.put, K.put3])
    | ((with_reducible refine K.atO (.buildSlice 44 _ _) ?_); refine wpL_buildAll rfl 44 9 [.const (.string (sb sPerson))] rfl is _ Tryz.underlying44 IS.out ZS.out (by rw [SS.out]; decide) (by rw [SS.out]; decide) (by decide) [.string (sb sPerson)] rfl (by intro v hv; rw [List.mem_singleton.1 hv, SS.out]; rfl) (strs [sPerson]) rfl ?_; intro y1 Hy1 Gy1 Ty1; simp only [Act.put, K.put3])
    | fail)
  have HE0 : Hid (EnIn (fun i => i ≠ b) y4 (.slice (some ⟨y3.heap.size, 0, none⟩) 3 3) en2) := by
    have t1 := Ty1.out; have t2 := Ty2.out; have t3 := Ty3.out; have t4 := Ty4.out; have hbl := HBL.out
    refine hid (en_blk en2 [(.slice (some ⟨w2.heap.size, 0, none⟩) 1 1), (.slice (some ⟨y1.heap.size, 0, none⟩) 1 1), (.slice (some ⟨y2.heap.size, 0, none⟩) 1 1)] Hy4.out rfl (fun j a v hj hv => ?_) (by omega) (by decide))
    match j, hj, hv with
    | 0, hj, hv => cases hj; cases hv; exact ⟨sz_s (by decide), ls_blk [sPerson] (((Hy1.out.fr Gy2.out id).fr Gy3.out id).fr Gy4.out id) (by omega) (by decide) (by intro x hx; rw [List.mem_singleton.1 hx]; exact sz_s (by decide))⟩
    | 1, hj, hv => cases hj; cases hv; exact ⟨sz_s (by decide), ls_blk [sAl] ((Hy2.out.fr Gy3.out id).fr Gy4.out id) (by omega) (by decide) (by intro x hx; rw [List.mem_singleton.1 hx]; exact sz_s (by decide))⟩
    | 2, hj, hv => cases hj; cases hv; exact ⟨sz_s (by decide), ls_blk [[55]] (Hy3.out.fr Gy4.out id) (by omega) (by decide) (by intro x hx; rw [List.mem_singleton.1 hx]; exact sz_s (by decide))⟩
    | q + 3, hj, _ => simp [en2] at hj
  have HFy : Hid (Fr No w2 y4) := hid (((Gy1.out.trans' Gy2.out).trans' Gy3.out).trans' Gy4.out)
  have HA0 : Hid (Fr No w y4) := hid (HF2.out.trans' HFy.out)
  have HS0 : Hid (Tn X b ex2 y4) := hid (HS2.out.no HFy.out)
  generalize y3.heap.size = ea at HE0 ⊢
  have HFBH : Hid (∀ u v : World, Fr No w u → Fr (fun i => i = b) u v → Fr No w v) := hid (fun _ _ f g => f.trans g (fun i e => .inr (by rw [e]; exact HBW.out)))
  clear Hy1 Gy1 Ty1 Hy2 Gy2 Ty2 Hy3 Gy3 Ty3 Hy4 Gy4 Ty4 HS2 HF2 HFy
  go_wp2_with (first
    | ((with_reducible refine K.atO (.build 46 _) ?_); refine wpL_valZ rfl (.agg (flV fx0 (.slice none 0 0) (.slice none 0 0)).toArray) (exec_bld _ [(0, .const (.int .i64 3)), (2, .const (.string (sb sCn))), (3, .const (.string (sb [97, 108, 32, 98, 111])))] rfl [(0, (.int .i64 3)), (2, (.string (sb sCn))), (3, (.string (sb [97, 108, 32, 98, 111])))] rfl _ _ (bfx0 _)) ?_; simp only [Act.put, K.put3])
    | fail)
  refine (Eval_any X b ex2 _ en2 fx0 _ y4 HS0.out HE0.out (fl_lit (fun i => i ≠ b) y4 3 sCn [97, 108, 32, 98, 111] [] [] ⟨by decide, by decide⟩ (sz_s (by decide)) (sz_s (by decide)) (sm_s (by decide)) (sm_s (by decide))) (fun i hi => hi) (fun i hi => hi) en2_s).mono ?_
  rintro e a1 ⟨rfl, hs, f⟩
  rw [rfx0]
  have HS1 := hid (HS0.out.step hs f); have HA1 : Hid (Fr No w a1) := hid (HFBH.out _ _ HA0.out f); have HE1 := hid (HE0.out.fr f (fun i hi _ e => hi e))
  clear hs f HS0 HA0 HE0
  go_wp2_with (first
    | ((with_reducible refine K.atO (.build 46 _) ?_); refine wpL_valZ rfl (.agg (flV fx1 (.slice none 0 0) (.slice none 0 0)).toArray) (exec_bld _ [(0, .const (.int .i64 3)), (2, .const (.string (sb sDc))), (3, .const (.string (sb [120])))] rfl [(0, (.int .i64 3)), (2, (.string (sb sDc))), (3, (.string (sb [120])))] rfl _ _ (bfx1 _)) ?_; simp only [Act.put, K.put3])
    | fail)
  refine (Eval_any X b ex2 _ en2 fx1 _ a1 HS1.out HE1.out (fl_lit (fun i => i ≠ b) a1 3 sDc [120] [] [] ⟨by decide, by decide⟩ (sz_s (by decide)) (sz_s (by decide)) (sm_s (by decide)) (sm_s (by decide))) (fun i hi => hi) (fun i hi => hi) en2_s).mono ?_
  rintro e a2 ⟨rfl, hs, f⟩
  rw [rfx1]
  have HS2 := hid (HS1.out.step hs f); have HA2 : Hid (Fr No w a2) := hid (HFBH.out _ _ HA1.out f); have HE2 := hid (HE1.out.fr f (fun i hi _ e => hi e))
  clear hs f HS1 HA1 HE1
  go_wp2_with (first
    | ((with_reducible refine K.atO (.build 46 _) ?_); refine wpL_valZ rfl (.agg (flV fx2 (.slice none 0 0) (.slice none 0 0)).toArray) (exec_bld _ [(0, .const (.int .i64 7)), (2, .const (.string (sb [110, 111, 110, 101])))] rfl [(0, (.int .i64 7)), (2, (.string (sb [110, 111, 110, 101])))] rfl _ _ (bfx2 _)) ?_; simp only [Act.put, K.put3])
    | fail)
  refine (Eval_any X b ex2 _ en2 fx2 _ a2 HS2.out HE2.out (fl_lit (fun i => i ≠ b) a2 7 [110, 111, 110, 101] [] [] [] ⟨by decide, by decide⟩ (sz_s (by decide)) (sz_s (by decide)) (sm_s (by decide)) (sm_s (by decide))) (fun i hi => hi) (fun i hi => hi) en2_s).mono ?_
  rintro e a3 ⟨rfl, hs, f⟩
  rw [rfx2]
  have HS3 := hid (HS2.out.step hs f); have HA3 : Hid (Fr No w a3) := hid (HFBH.out _ _ HA2.out f); have HE3 := hid (HE2.out.fr f (fun i hi _ e => hi e))
  clear hs f HS2 HA2 HE2
  go_wp2_with (first
    | ((with_reducible refine K.atO (.build 46 _) ?_); refine wpL_valZ rfl (.agg (flV fx3 (.slice none 0 0) (.slice none 0 0)).toArray) (exec_bld _ [(0, .const (.int .i64 5)), (2, .const (.string (sb sAge))), (3, .const (.string (sb [53])))] rfl [(0, (.int .i64 5)), (2, (.string (sb sAge))), (3, (.string (sb [53])))] rfl _ _ (bfx3 _)) ?_; simp only [Act.put, K.put3])
    | fail)
  refine (Eval_any X b ex2 _ en2 fx3 _ a3 HS3.out HE3.out (fl_lit (fun i => i ≠ b) a3 5 sAge [53] [] [] ⟨by decide, by decide⟩ (sz_s (by decide)) (sz_s (by decide)) (sm_s (by decide)) (sm_s (by decide))) (fun i hi => hi) (fun i hi => hi) en2_s).mono ?_
  rintro e a4 ⟨rfl, hs, f⟩
  rw [rfx3]
  have HS4 := hid (HS3.out.step hs f); have HA4 : Hid (Fr No w a4) := hid (HFBH.out _ _ HA3.out f); have HE4 := hid (HE3.out.fr f (fun i hi _ e => hi e))
  clear hs f HS3 HA3 HE3
  go_wp2_with (first
    | ((with_reducible refine K.atO (.build 46 _) ?_); refine wpL_valZ rfl (.agg (flV fx4 (.slice none 0 0) (.slice none 0 0)).toArray) (exec_bld _ [(0, .const (.int .i64 4)), (2, .const (.string (sb sCn))), (4, .const (.string (sb [97, 108, 32]))), (6, .const (.string (sb [111])))] rfl [(0, (.int .i64 4)), (2, (.string (sb sCn))), (4, (.string (sb [97, 108, 32]))), (6, (.string (sb [111])))] rfl _ _ (bfx4 _)) ?_; simp only [Act.put, K.put3])
    | fail)
  refine (Eval_any X b ex2 _ en2 fx4 _ a4 HS4.out HE4.out (fl_lit (fun i => i ≠ b) a4 4 sCn [] [97, 108, 32] [111] ⟨by decide, by decide⟩ (sz_s (by decide)) (sz_s (by decide)) (sm_s (by decide)) (sm_s (by decide))) (fun i hi => hi) (fun i hi => hi) en2_s).mono ?_
  rintro e a5 ⟨rfl, hs, f⟩
  rw [rfx4]
  have HS5 := hid (HS4.out.step hs f); have HA5 : Hid (Fr No w a5) := hid (HFBH.out _ _ HA4.out f); have HE5 := hid (HE4.out.fr f (fun i hi _ e => hi e))
  clear hs f HS4 HA4 HE4
  go_wp2_with (first
    | ((with_reducible refine K.atO (.buildSlice 44 _ _) ?_); refine wpL_buildAll rfl 44 9 [.const (.string (sb [108])), .const (.string (sb [108]))] rfl is _ Tryz.underlying44 IS.out ZS.out (by rw [SS.out]; decide) (by rw [SS.out]; decide) (by decide) [.string (sb [108]), .string (sb [108])] rfl (by intro v hv; rw [SS.out]; simp only [List.mem_cons, List.not_mem_nil, or_false] at hv; rcases hv with rfl | rfl <;> rfl) (strs [[108], [108]]) rfl ?_; intro z1 Hz1 Gz1 Tz1; simp only [Act.put, K.put3])
    | ((with_reducible refine K.atO (.build 46 _) ?_); refine wpL_valZ rfl (.agg (flV fx5 (.slice none 0 0) (.slice (some ⟨a5.heap.size, 0, none⟩) 2 2)).toArray) (exec_bld _ [(0, .const (.int .i64 4)), (2, .const (.string (sb sCn))), (5, .tmp 51)] rfl [(0, .int .i64 4), (2, .string (sb sCn)), (5, .slice (some ⟨a5.heap.size, 0, none⟩) 2 2)] rfl _ _ (bfx5 _ _)) ?_; simp only [Act.put, K.put3])
    | fail)
  have HL6 : Hid (LsIn (fun i => i ≠ b) z1 (.slice (some ⟨a5.heap.size, 0, none⟩) 2 2) [[108], [108]]) := hid (ls_blk [[108], [108]] Hz1.out (by have := HS5.out.lt; omega) (by decide) (by intro x hx; simp only [List.mem_cons, List.not_mem_nil, or_false] at hx; rcases hx with rfl | rfl <;> exact sz_s (by decide)))
  refine (Eval_any X b ex2 _ en2 fx5 _ z1 (HS5.out.no Gz1.out) (HE5.out.no Gz1.out) (fl_any HL6.out (by intro x hx; simp only [List.mem_cons, List.not_mem_nil, or_false] at hx; rcases hx with rfl | rfl <;> exact sm_s (by decide)) (by decide) 4 sCn [] [] [] ⟨by decide, by decide⟩ (sz_s (by decide)) (sz_s (by decide)) (sm_s (by decide)) (sm_s (by decide))) (fun i hi => hi) (fun i hi => hi) en2_s).mono ?_
  rintro e a6 ⟨rfl, hs, f⟩
  rw [rfx5]
  have HA6 : Hid (Fr No w a6) := hid (HFBH.out _ _ (HA5.out.trans' Gz1.out) f)
  clear hs f HS5 HA5 HE5 HL6 Hz1 Gz1 Tz1
  go_wp2_with (first
    | ((with_reducible refine K.atO (.buildSlice 44 _ _) ?_); refine wpL_buildAll rfl 44 9 [.const (.string (sb [42]))] rfl is _ Tryz.underlying44 IS.out ZS.out (by rw [SS.out]; decide) (by rw [SS.out]; decide) (by decide) [.string (sb [42])] rfl (by intro v hv; rw [List.mem_singleton.1 hv, SS.out]; rfl) (strs [[42]]) rfl ?_; intro z1 Hz1 Gz1 Tz1; simp only [Act.put, K.put3])
    | ((with_reducible refine K.atO (.build 46 _) ?_); (have := Hz2); refine wpL_valZ rfl (.agg (flV fx7 (.slice (some ⟨z1.heap.size, 0, none⟩) 1 1) (.slice none 0 0)).toArray) (exec_bld _ [(0, .const (.int .i64 2)), (1, .tmp 56)] rfl [(0, .int .i64 2), (1, .slice (some ⟨z1.heap.size, 0, none⟩) 1 1)] rfl _ _ (bfx7 _ _)) ?_; simp only [Act.put, K.put3])
    | ((with_reducible refine K.atO (.build 46 _) ?_); refine wpL_valZ rfl (.agg (flV fx6 (.slice none 0 0) (.slice (some ⟨a6.heap.size, 0, none⟩) 1 1)).toArray) (exec_bld _ [(0, .const (.int .i64 4)), (2, .const (.string (sb sCn))), (4, .const (.string (sb [97]))), (5, .tmp 54)] rfl [(0, .int .i64 4), (2, .string (sb sCn)), (4, .string (sb [97])), (5, .slice (some ⟨a6.heap.size, 0, none⟩) 1 1)] rfl _ _ (bfx6 _ _)) ?_; simp only [Act.put, K.put3])
    | ((with_reducible refine K.atO (.buildSlice 43 _ _) ?_); refine wpL_buildAll rfl 43 46 [.tmp 55] rfl fi _ Tryz.underlying43 IF.out ZF.out (by rw [SF.out]; decide) (by rw [SF.out]; decide) (by decide) [.agg (flV fx6 (.slice none 0 0) (.slice (some ⟨a6.heap.size, 0, none⟩) 1 1)).toArray] rfl (by intro v hv; rw [SF.out]; rw [List.mem_singleton.1 hv]; rfl) ([flV fx6 (.slice none 0 0) (.slice (some ⟨a6.heap.size, 0, none⟩) 1 1)] : List (List Value)).flatten (by simp [Value.cells]) ?_; intro z2 Hz2 Gz2 Tz2; simp only [Act.put, K.put3])
    | fail)
  have HL7 : Hid (FlC 2 (fun _ => True) z2 fx7 (flV fx7 (.slice (some ⟨z1.heap.size, 0, none⟩) 1 1) (.slice none 0 0))) := by
    have h1 : LsIn (fun _ => True) z2 (.slice (some ⟨a6.heap.size, 0, none⟩) 1 1) [[42]] := LsIn.mono (blk_ls [[42]] (Hz1.out.fr Gz2.out id) (by decide) (by intro x hx; rw [List.mem_singleton.1 hx]; exact sz_s (by decide))) (fun _ _ _ => trivial)
    have h2 : FlC 1 (fun _ => True) z2 fx6 (flV fx6 (.slice none 0 0) (.slice (some ⟨a6.heap.size, 0, none⟩) 1 1)) := fl_any h1 (by intro x hx; rw [List.mem_singleton.1 hx]; exact sm_s (by decide)) (by decide) 4 sCn [] [97] [] ⟨by decide, by decide⟩ (sz_s (by decide)) (sz_s (by decide)) (sm_s (by decide)) (sm_s (by decide))
    exact hid (fl_kids (kids_blk [fx6] [flV fx6 (.slice none 0 0) (.slice (some ⟨a6.heap.size, 0, none⟩) 1 1)] Hz2.out trivial rfl (fun j x c hx hc => by
      match j, hx, hc with
      | 0, hx, hc => cases hx; cases hc; exact h2
      | n + 1, hx, _ => simp at hx) (by decide)) 2 ⟨by decide, by decide⟩)
  have HA8 : Hid (Fr No w z2) := hid ((HA6.out.trans' Gz1.out).trans' Gz2.out)
  refine (Print_any fx7 _ z2 HL7.out (by rw [rfx7]; decide)).mono ?_
  rintro e a9 ⟨rfl, f⟩
  rw [rfx7]
  have HA9 := hid (HA8.out.trans' f)
  clear f HL7 HA8 HA6 Hz1 Gz1 Tz1 Hz2 Gz2 Tz2
  go_wp2_with (first
    | ((with_reducible refine K.atO (.binOp .eql 9 _ _ _) ?_); refine wpL_valZ rfl (.bool true) ((exec_eqS _ _ _ rfl tx7 tx7 rfl rfl _).trans (by simp)) ?_)
    | fail)
  go_ret
  exact ⟨rfl, HA9.out⟩
end Go.Proofs.YtdkkpfeiaaffhaaGreatDoor.FT

namespace Go.Proofs.YtdkkpfeiaaffhaaGreatDoor.FT
set_option maxRecDepth 100000
open Go.RowKit K Go.Proofs.YtdkkpfeiaaffhaaGreatDoor.BE Go.Proofs.YtdkkpfeiaaffhaaGreatDoor.DN Go.Proofs.YtdkkpfeiaaffhaaGreatDoor.SC

theorem _root_.Go.Proofs.YtdkkpfeiaaffhaaGreatDoor.SC.EnIn.bb {q : Nat} {w w' : World} {v : Value} {en : Ent} (h : EnIn (fun i => i ≠ q) w v en) (hf : Fr (fun k => k = q) w w') : EnIn (fun i => i ≠ q) w' v en := h.fr hf fun _ hi _ e => hi e
theorem FlC.bb {q M : Nat} {w w' : World} {f : Fl} {cs : List Value} (h : FlC M (fun i => i ≠ q) w f cs) (hf : Fr (fun k => k = q) w w') : FlC M (fun i => i ≠ q) w' f cs := h.fr hf fun _ hi _ e => hi e
theorem turned_any (r : Int) (hr : Tri r) (w : World) : Calls Tryz.prog 30 #[.int .i64 r] w fun e w' => e = .returned (.int .i64 (opp r)) ∧ w' = w := by
  rcases hr with rfl | rfl | rfl
  · go_enter Tryz.func30, Tryz.ntmps30
    go_wp2
    go_ret
    exact ⟨rfl, rfl⟩
  · go_enter Tryz.func30, Tryz.ntmps30
    go_wp2
    go_ret
    exact ⟨rfl, rfl⟩
  · go_enter Tryz.func30, Tryz.ntmps30
    go_wp2
    go_ret
    exact ⟨rfl, rfl⟩
theorem all_take {α : Type} (l : List α) (q : α → Bool) (i : Nat) (x : α) (hx : l[i]? = some x) (h : (l.take i).all q = true) : (l.take (i + 1)).all q = q x := by
  rw [List.take_add_one, hx, List.all_append, h]
  simp
theorem all_false {α : Type} (l : List α) (q : α → Bool) (x : α) (hx : x ∈ l) (h : q x = false) : l.all q = false := by
  rw [List.all_eq_false]
  exact ⟨x, hx, by simp [h]⟩
set_option maxHeartbeats 16000000 in
theorem shallow_any {T : Nat → Prop} : ∀ (n : Nat), n ≤ 50 → ∀ (M : Nat) (f : Fl) (cs : List Value) (w : World), FlC M T w f cs →
    Calls Tryz.prog 29 #[.agg cs.toArray, .int .i64 (n : Int)] w fun e w' => e = .returned (.bool (shal n f)) ∧ Fr No w w'
  | 0, _, M, f, cs, w, h => by
    clear h
    go_enter Tryz.func29, Tryz.ntmps29
    go_wp2_with (first
      | ((with_reducible refine K.atO (.box 46 _) ?_); refine wpL_box rfl _ _ rfl _ rfl cs rfl ?_; intro w1 HB1 HF1 HS1)
      | fail)
    go_ret
    exact ⟨rfl, HF1.out⟩
  | n + 1, hn, 0, f, cs, w, h => h.elim
  | n + 1, hn, M + 1, f, cs, w, h => by
    have HIH := hid (fun f cs w h => shallow_any (T := T) n (by omega) M f cs w h)
    obtain ⟨vk, va, rfl, -, -, -, -, -, -, hks⟩ := h
    obtain ⟨ka, kc, rfl, -, hkn⟩ := hks.form
    obtain ⟨R, hR⟩ : ∃ R, shal (n + 1) f = R := ⟨_, rfl⟩
    have HR : Hid (f.kids.all (shal n) = R) := hid hR
    rw [hR]
    obtain ⟨m, hm⟩ : ∃ m, f.kids.length = m := ⟨_, rfl⟩
    have HM := hid hm
    have HK := hid hks
    rw [hm] at HK hkn ⊢
    have hmi : (m : Int) ≤ 140737488351232 := by omega
    have hd1 : ((n + 1 : Nat) : Int) - 1 = (n : Int) := by omega
    have hd2 : ((n + 1 : Nat) : Int) ≤ 100 := by omega
    have hd4 : ¬ ((n + 1 : Nat) : Int) < 1 := by omega
    obtain ⟨dd, hdd⟩ : ∃ dd : Int, ((n + 1 : Nat) : Int) = dd := ⟨_, rfl⟩
    rw [hdd] at hd1 hd2 hd4 ⊢
    have HDD := hid hd1
    clear hks hm hkn hR hdd hd1
    go_enter Tryz.func29, Tryz.ntmps29
    go_wp2_with (first
      | ((with_reducible refine K.atO (.box 46 _) ?_); refine wpL_box rfl _ _ rfl _ rfl (flV f (.slice ka m kc) va) rfl ?_; intro w1 HB1 HF1 HS1; refine Hid.out ?_)
      | fail)
    obtain ⟨p, hp⟩ : ∃ p, w.heap.size = p := ⟨_, rfl⟩
    rw [hp] at HB1 ⊢
    clear hp HS1
    refine hid ?_
    go_wp2_with fail
    go_loopw [5] (fun iv wr => ∃ (i : Nat), iv = .int .i64 i ∧ i ≤ m ∧ Hid ((f.kids.take i).all (shal n) = true ∧ Fr No w1 wr)) (fun iv _ => m - (intOf iv).toNat)
    case atStart => exact ⟨0, rfl, Nat.zero_le _, hid ⟨rfl, Fr.refl _ _⟩⟩
    case round =>
      obtain ⟨i, rfl, hi, HI⟩ := hrel
      have ck : wr.cell? ⟨p, 1, none⟩ = some (.slice ka m kc) := (HB1.out.fr HI.out.2 id).cell 1
      by_cases hlt : i < m
      · have hiX : i < f.kids.length := by rw [HM.out]; exact hlt
        obtain ⟨x, hx⟩ : ∃ x, f.kids[i]? = some x := ⟨_, List.getElem?_eq_getElem hiX⟩
        have hlti : (i : Int) < m := by omega
        have hi0 : (0 : Int) ≤ i := by omega
        have HFw : Hid (Fr No w wr) := hid (HF1.out.trans' HI.out.2)
        obtain ⟨g, o, cp, c, e1, hEg, hgw, hr, hc, hxa⟩ := (HK.out.fr HFw.out (fun _ _ _ e => e) (fun x c _ h => h.no HFw.out)).get hx
        rw [HM.out] at e1
        simp only [Value.slice.injEq, true_and] at e1
        obtain ⟨rfl, rfl⟩ := e1
        have HXA := hid hxa; have HRR := hid hr
        have HI3 : Hid ((Tryz.prog.info? 46).map (·.size) = some c.length) := hid (by rw [hc]; exact infoFl)
        have HXM := hid (List.mem_of_getElem? hx)
        have HAT := hid (all_take f.kids (shal n) i x hx HI.out.1)
        have HLT := hid hlt
        clear hc hEg hgw hr hxa hx hlt hiX
        go_wp2_with (first
          | ((with_reducible refine K.atO (.load 46 _) ?_); refine wpL_load rfl _ _ rfl g (o + i * 7) rfl c _ HRR.out rfl rfl HI3.out ?_)
          | fail)
        rw [HDD.out]
        refine (HIH.out x c wr HXA.out).mono ?_
        rintro e w4 ⟨rfl, f4⟩
        have HF4 := hid (HI.out.2.trans' f4)
        clear f4 ck
        cases hq : shal n x with
        | true =>
          have HQ := hid hq
          clear hq
          go_wp2_with fail
          refine ⟨⟨i + 1, by go_num, HLT.out, hid ⟨by rw [HAT.out, HQ.out], HF4.out⟩⟩, ?_⟩
          have := HLT.out
          simp [intOf]; omega
        | false =>
          have HRF : Hid (false = R) := hid (by rw [← HR.out, all_false _ _ x HXM.out hq])
          clear hq
          go_wp2_with fail
          go_ret
          exact ⟨by rw [← HRF.out]; rfl, HF1.out.trans' HF4.out⟩
      · obtain rfl : i = m := by omega
        have HDN : Hid (true = R) := hid (by
          have h := HI.out.1
          rw [List.take_of_length_le (by rw [HM.out]; exact Nat.le_refl _)] at h
          rw [← HR.out, h])
        go_wp2_with fail
        go_ret
        exact ⟨by rw [← HDN.out]; rfl, HF1.out.trans' HI.out.2⟩
end Go.Proofs.YtdkkpfeiaaffhaaGreatDoor.FT

namespace Go.Proofs.YtdkkpfeiaaffhaaGreatDoor.FT
set_option maxRecDepth 100000
open Go.RowKit K Go.Proofs.YtdkkpfeiaaffhaaGreatDoor.BE Go.Proofs.YtdkkpfeiaaffhaaGreatDoor.DN Go.Proofs.YtdkkpfeiaaffhaaGreatDoor.SC

theorem infoSc2 : (Tryz.prog.info? 25).map (·.size) = some 2 := by kernel_rfl
/-- What the law holds: the schema, the entry, two filters and where they lie. -/
def Two (X : Nat → Prop) (q : Nat) (s : Sch) (v : Value) (en : Ent) (M1 M2 : Nat) (f g : Fl) (cf cg : List Value) (bf bg : Nat) (w : World) : Prop :=
  Tn X q s w ∧ EnIn (fun i => i ≠ q) w v en ∧ FlC M1 (fun i => i ≠ q) w f cf ∧ FlC M2 (fun i => i ≠ q) w g cg ∧ w.rangeAt bf 0 cf ∧ w.rangeAt bg 0 cg ∧ bf ≠ q ∧ bg ≠ q
section
variable {X : Nat → Prop} {q : Nat} {s : Sch} {v : Value} {en : Ent} {M1 M2 : Nat} {f g : Fl} {cf cg : List Value} {bf bg : Nat} {w w' : World}
theorem Two.no (h : Two X q s v en M1 M2 f g cf cg bf bg w) (hf : Fr No w w') : Two X q s v en M1 M2 f g cf cg bf bg w' := by
  obtain ⟨h1, h2, h3, h4, h5, h6, h7, h8⟩ := h
  exact ⟨h1.no hf, h2.no hf, h3.no hf, h4.no hf, hf.range h5 id, hf.range h6 id, h7, h8⟩
theorem Two.step (h : Two X q s v en M1 M2 f g cf cg bf bg w) (hs : Sx w' X q s) (hf : Fr (fun k => k = q) w w') : Two X q s v en M1 M2 f g cf cg bf bg w' := by
  obtain ⟨h1, h2, h3, h4, h5, h6, h7, h8⟩ := h
  exact ⟨h1.step hs hf, h2.bb hf, h3.bb hf, h4.bb hf, hf.range h5 h7, hf.range h6 h8, h7, h8⟩
end
/-- A filter with kids alone. -/
def kidF (k : Int) (l : List Fl) : Fl := .mk k l [] [] [] [] []
def kidV (k : Int) (g n : Nat) : List Value := flV (kidF k []) (.slice (some ⟨g, 0, none⟩) n n) (.slice none 0 0)
theorem bkid (k : Int) (p n : Nat) (w : World) : (Instr.build 46 [(0, .int .i64 k), (1, .slice (some ⟨p, 0, none⟩) n n)].toArray).run Tryz.prog w = .ok (.agg (kidV k p n).toArray) w := by kernel_rfl
theorem kidF_in {S : Nat → Prop} {M g : Nat} {w : World} {t : TypeId} (k : Int) (l : List Fl) (L : List (List Value)) (h : Blk w g t L.flatten) (hg : S g) (hL : L.length = l.length) (hp : ∀ (j : Nat) (x : Fl) (c : List Value), l[j]? = some x → L[j]? = some c → FlC M S w x c) (hl : l.length ≤ 100) (hk : I64 k) : FlC (M + 1) S w (kidF k l) (kidV k g l.length) :=
  fl_kids (kids_blk l L h hg hL hp hl) k hk
theorem one_kid {S : Nat → Prop} {M g : Nat} {w : World} {t : TypeId} (k : Int) (x : Fl) (c : List Value) (h : Blk w g t ([c] : List (List Value)).flatten) (hg : S g) (hx : FlC M S w x c) (hk : I64 k) : FlC (M + 1) S w (kidF k [x]) (kidV k g 1) :=
  kidF_in k [x] [c] h hg rfl (fun j y d hy hd => by
    match j, hy, hd with
    | 0, hy, hd => cases hy; cases hd; exact hx
    | n + 1, hy, _ => simp at hy) (by simp) hk
theorem two_kids {S : Nat → Prop} {M1 M2 g : Nat} {w : World} {t : TypeId} (k : Int) (x y : Fl) (c d : List Value) (h : Blk w g t ([c, d] : List (List Value)).flatten) (hg : S g) (hx : FlC M1 S w x c) (hy : FlC M2 S w y d) (hk : I64 k) : FlC (M1 + M2 + 1) S w (kidF k [x, y]) (kidV k g 2) :=
  kidF_in k [x, y] [c, d] h hg rfl (fun j z e hz he => by
    match j, hz, he with
    | 0, hz, he => cases hz; cases he; exact hx.le (by omega)
    | 1, hz, he => cases hz; cases he; exact hy.le (by omega)
    | n + 2, hz, _ => simp at hz) (by simp) hk
theorem kidV_seven (k : Int) (g n : Nat) : (kidV k g n).length = 7 ∧ ∀ v ∈ kidV k g n, v.oneCell' = true := ⟨rfl, one7 (kidF k []) ⟨_, _, _, rfl⟩ ⟨_, _, _, rfl⟩⟩
attribute [irreducible] kidV
theorem evF_not (s : Sch) (en : Ent) (d : Nat) (x : Fl) : evF s en (d + 1) (kidF 2 [x]) = opp (evF s en d x) := by simp [evF, kidF, Fl.kind, Fl.kids]
theorem evF_and (s : Sch) (en : Ent) (d : Nat) (x y : Fl) : evF s en (d + 1) (kidF 0 [x, y]) = joinE 0 1 [evF s en d x, evF s en d y] := by simp [evF, kidF, Fl.kind, Fl.kids]
theorem evF_or (s : Sch) (en : Ent) (d : Nat) (x y : Fl) : evF s en (d + 1) (kidF 1 [x, y]) = joinE 1 0 [evF s en d x, evF s en d y] := by simp [evF, kidF, Fl.kind, Fl.kids]
set_option maxHeartbeats 32000000 in
theorem notsLaw {S S2 : Nat → Prop} {M1 M2 : Nat} (vt vc v : Value) (s : Sch) (en : Ent) (f g : Fl) (cf cg : List Value) (w : World) (h : TysIn S w vt s.tys) (hy : ClsIn S2 w vc s.cls) (hG : Gm w) (he : EnIn (fun i => i < w.heap.size) w v en) (hE : EnS en) (hf : FlC M1 (fun i => i < w.heap.size) w f cf) (hg : FlC M2 (fun i => i < w.heap.size) w g cg) :
    Calls Tryz.prog 7 #[.agg #[vt, vc], v, .agg cf.toArray, .agg cg.toArray] w fun e w' => e = .returned (.bool true) ∧ Fr No w w' := by
  obtain ⟨X, hXe⟩ : ∃ X : Nat → Prop, X = fun k => k < w.heap.size := ⟨_, rfl⟩
  have HX := hid hXe
  have HGX : Hid (GM X) := hid (by rw [hXe]; exact hG.gx)
  have HG := hid hG; have HT := hid h; have HC := hid hy; have HE := hid he; have HFf := hid hf; have HFg := hid hg; have HES := hid hE
  have H7 := hid (show (cf.length = 7 ∧ ∀ v ∈ cf, v.oneCell' = true) ∧ cg.length = 7 ∧ ∀ v ∈ cg, v.oneCell' = true from ⟨hf.seven, hg.seven⟩)
  have HIf : Hid ((Tryz.prog.info? 46).map (·.size) = some cf.length) := hid (by rw [hf.seven.1]; exact infoFl)
  have HIg : Hid ((Tryz.prog.info? 46).map (·.size) = some cg.length) := hid (by rw [hg.seven.1]; exact infoFl)
  obtain ⟨fi, hfi, hzf, hsf, hbf⟩ := info_ex infoFl3
  have IF := hid hfi; have ZF := hid hzf; have SF := hid hsf
  obtain ⟨va, vcp, rfl, -, -⟩ := he.form
  clear h hy hG hXe he hf hg hE hfi hzf hsf hbf
  go_enter Tryz.func7, Tryz.ntmps7
  go_wp2_with (first
    | ((with_reducible refine K.atO (.box 25 _) ?_); refine wpL_box rfl _ _ rfl _ rfl [vt, vc] rfl ?_; intro w1 HB1 HF1 HS1)
    | ((with_reducible refine K.atO (.box 46 _) ?_); (fail_if_success (have := HB2)); refine wpL_box rfl _ _ rfl _ rfl cf rfl ?_; intro w2 HB2 HF2 HS2)
    | ((with_reducible refine K.atO (.box 46 _) ?_); refine wpL_box rfl _ _ rfl _ rfl cg rfl ?_; intro w3 HB3 HF3 HS3; refine Hid.out ?_)
    | fail)
  obtain ⟨b0, hb0⟩ : ∃ b, w.heap.size = b := ⟨_, rfl⟩
  obtain ⟨bf, hbf⟩ : ∃ b, w1.heap.size = b := ⟨_, rfl⟩
  obtain ⟨bg, hbg⟩ : ∃ b, w2.heap.size = b := ⟨_, rfl⟩
  rw [hb0] at HB1 ⊢
  rw [hbf] at HB2 ⊢
  rw [hbg] at HB3 ⊢
  have HF3' : Hid (Fr No w w3) := hid ((HF1.out.trans' HF2.out).trans' HF3.out)
  have HBs := hid ((HB1.out.fr HF2.out id).fr HF3.out id)
  have HBf := hid (HB2.out.fr HF3.out id)
  have HBg := hid HB3.out
  clear hb0 hbf hbg HB1 HF1 HS1 HB2 HF2 HS2 HB3 HF3 HS3
  refine hid ?_
  go_wp2_with fail
  refine (awake_any w3 (HG.out.no HF3'.out)).mono ?_
  rintro e w4 ⟨rfl, f4⟩
  have HR4 : Hid (w4.rangeAt b0 0 [vt, vc]) := hid ((HBs.out.fr f4 id).range 0 _ rfl)
  have HRf4 : Hid (w4.rangeAt bf 0 cf) := hid ((HBf.out.fr f4 id).range 0 _ (by simp))
  have HRg4 : Hid (w4.rangeAt bg 0 cg) := hid ((HBg.out.fr f4 id).range 0 _ (by simp))
  have HLT4 : Hid (bf < w4.heap.size ∧ bg < w4.heap.size) := hid ⟨(HBf.out.fr f4 id).lt, (HBg.out.fr f4 id).lt⟩
  have HF4 : Hid (Fr No w w4) := hid (HF3'.out.trans' f4)
  have HT4 := hid (TysIn.fr (D := No) HT.out HF4.out (fun _ _ _ e => e)); have HC4 := hid (ClsIn.fr (D := No) HC.out HF4.out (fun _ _ _ e => e))
  clear f4 HBs HBf HBg HT HC HF3'
  go_wp2_with (first
    | ((with_reducible refine K.atO (.load 25 _) ?_); refine wpL_valZ rfl (.agg #[vt, vc]) (exec_load _ _ rfl b0 0 rfl [vt, vc] _ rfl rfl infoSc2 w4 HR4.out) ?_)
    | fail)
  cases hok : okS s with
  | false =>
    refine (new_bad vt vc s w4 HT4.out HC4.out hok).mono ?_
    rintro e w5 ⟨rfl, f5⟩
    have HRf5 := hid (f5.range HRf4.out id)
    have HF5 := hid (HF4.out.trans' f5)
    have HRg5 := hid (f5.range HRg4.out id)
    clear f5 HT4 HC4 hok
    go_wp2_with (first
      | ((with_reducible refine K.atO (.load 46 _) ?_); refine wpL_load rfl _ _ rfl bf 0 rfl cf _ HRf5.out rfl rfl HIf.out ?_)
      | fail)
    refine (shallow_any 3 (by decide) M1 f cf w5 (HFf.out.no HF5.out)).mono ?_
    rintro e w6 ⟨rfl, f6⟩
    have HRg6 := hid (f6.range HRg5.out id)
    have HF6 := hid (HF5.out.trans' f6)
    clear f6
    go_wp2_with (first
      | ((with_reducible refine K.atO (.load 46 _) ?_); refine wpL_load rfl _ _ rfl bg 0 rfl cg _ HRg6.out rfl rfl HIg.out ?_)
      | fail)
    refine (shallow_any 3 (by decide) M2 g cg w6 (HFg.out.no HF6.out)).mono ?_
    rintro e w7 ⟨rfl, f7⟩
    have HF7 := hid (HF6.out.trans' f7)
    clear f7
    generalize shal 3 f = z1
    generalize shal 3 g = z2
    go_wp2_with fail
    go_ret
    exact ⟨rfl, HF7.out⟩
  | true =>
    refine (new_ok vt vc s w4 HT4.out HC4.out hok).mono ?_
    rintro e w5 ⟨q, rfl, hs, f5⟩
    have HF5 : Hid (Fr No w w5) := hid (HF4.out.trans' f5)
    have hTn : Tn X q s w5 := ⟨hs.less (fun k hk => by rw [HX.out] at hk; exact Nat.lt_of_lt_of_le hk HF4.out.size), fun k hk => by rw [HX.out] at hk; exact Nat.lt_of_lt_of_le hk HF5.out.size, HGX.out, HG.out.no HF5.out⟩
    have HQW : Hid (w.heap.size ≤ q) := hid (by have := hTn.1.nx; rw [HX.out] at this; omega)
    have hq4 : w4.heap.size ≤ q := by have := hs.nx; omega
    have HW : Hid (Two X q s (.slice va en.length vcp) en M1 M2 f g cf cg bf bg w5) := hid ⟨hTn, (HE.out.no HF5.out).mono (fun i hi _ e => by have := HQW.out; omega), (HFf.out.no HF5.out).mono (fun i hi _ e => by have := HQW.out; omega), (HFg.out.no HF5.out).mono (fun i hi _ e => by have := HQW.out; omega), f5.range HRf4.out id, f5.range HRg4.out id, by have := HLT4.out; omega, by have := HLT4.out; omega⟩
    have HFQ : Hid (∀ u v : World, Fr No w u → Fr (fun i => i = q) u v → Fr No w v) := hid (fun _ _ f g => f.trans g (fun i e => .inr (by rw [e]; exact HQW.out)))
    clear hs f5 HT4 HC4 hok hTn hq4 HE HFf HFg HRf4 HRg4 HR4 HLT4 HF4
    go_wp2_with (first
      | ((with_reducible refine K.atO (.load 46 _) ?_); refine wpL_load rfl _ _ rfl bf 0 rfl cf _ HW.out.2.2.2.2.1 rfl rfl HIf.out ?_)
      | fail)
    refine (shallow_any 3 (by decide) M1 f cf w5 HW.out.2.2.1).mono ?_
    rintro e w6 ⟨rfl, f6⟩
    have HW6 := hid (HW.out.no f6); have HF6 := hid (HF5.out.trans' f6)
    clear f6 HW HF5
    go_wp2_with (first
      | ((with_reducible refine K.atO (.load 46 _) ?_); refine wpL_load rfl _ _ rfl bg 0 rfl cg _ HW6.out.2.2.2.2.2.1 rfl rfl HIg.out ?_)
      | fail)
    refine (shallow_any 3 (by decide) M2 g cg w6 HW6.out.2.2.2.1).mono ?_
    rintro e w7 ⟨rfl, f7⟩
    have HW7 := hid (HW6.out.no f7); have HF7 := hid (HF6.out.trans' f7)
    clear f7 HW6 HF6
    by_cases hsh : shal 3 f = true ∧ shal 3 g = true
    · obtain ⟨s1, s2⟩ := hsh
      have HA : Hid (evF s en 6 (kidF 2 [f]) = opp (evF s en 6 f) ∧ evF s en 6 (kidF 2 [kidF 2 [f]]) = evF s en 6 f ∧ evF s en 6 (kidF 2 [kidF 0 [f, g]]) = evF s en 6 (kidF 1 [kidF 2 [f], kidF 2 [g]])) := hid (by
        have a5 := shal_ev s en 3 5 6 f s1 (by decide) (by decide)
        have a4 := shal_ev s en 3 4 6 f s1 (by decide) (by decide)
        have b4 := shal_ev s en 3 4 6 g s2 (by decide) (by decide)
        obtain ⟨n1, n2⟩ := nots_ok (evF s en 6 f) (evF s en 6 g) (evF_tri s en 6 f) (evF_tri s en 6 g)
        refine ⟨?_, ?_, ?_⟩
        · rw [evF_not, a5]
        · rw [evF_not, evF_not, a4, n1]
        · rw [evF_not, evF_and, evF_or, evF_not, evF_not, a4, b4, n2])
      rw [s1, s2]
      clear s1 s2
      go_wp2_with (first
        | ((with_reducible refine K.atO (.load 46 _) ?_); (fail_if_success (have := HY4)); refine wpL_load rfl _ _ rfl bf 0 rfl cf _ HW7.out.2.2.2.2.1 rfl rfl HIf.out ?_)
        | ((with_reducible refine K.atO (.buildSlice 43 _ _) ?_); (fail_if_success (have := HY1)); refine wpL_buildAll rfl 43 46 [.tmp 45] rfl fi _ Tryz.underlying43 IF.out ZF.out (by rw [SF.out]; decide) (by rw [SF.out]; decide) (by decide) [.agg cf.toArray] rfl (by intro v hv; rw [SF.out, List.mem_singleton.1 hv]; exact H7.out.1.1) ([cf] : List (List Value)).flatten (by simp [Value.cells]) ?_; intro y1 HY1 G1 T1; simp only [Act.put, K.put3])
        | ((with_reducible refine K.atO (.build 46 _) ?_); refine wpL_valZ rfl (.agg (kidV 2 w7.heap.size 1).toArray) (exec_bld _ [(0, .const (.int .i64 2)), (1, .tmp 46)] rfl [(0, .int .i64 2), (1, .slice (some ⟨w7.heap.size, 0, none⟩) 1 1)] rfl _ _ (bkid _ _ _ _)) ?_; simp only [Act.put, K.put3])
        | ((with_reducible refine K.atO (.alloc 46) ?_); refine wpL_alloc rfl _ rfl _ zeroFl' (flV fl0 (.slice none 0 0) (.slice none 0 0)) rfl ?_; intro y2 HY2 G2 T2; simp only [Act.put, K.put3])
        | ((with_reducible refine K.atO (.store 46 _ _) ?_); refine wpL_store rfl _ _ _ rfl y1.heap.size 0 (kidV 2 w7.heap.size 1) rfl rfl 46 _ HY2.out (by rw [(kidV_seven _ _ _).1]; simp [flV]) (by rw [(kidV_seven _ _ _).1]; exact infoFl) (kidV_seven _ _ _).2 ?_; intro y4 HY4 G4 T4; refine Hid.out ?_)
        | fail)
      obtain ⟨g1, hg1⟩ : ∃ b, w7.heap.size = b := ⟨_, rfl⟩
      obtain ⟨r1, hr1⟩ : ∃ b, y1.heap.size = b := ⟨_, rfl⟩
      rw [hg1] at HY1 HY4 ⊢
      rw [hr1] at HY2 HY4 G4 ⊢
      have HN1 := hid (show q < g1 ∧ r1 = g1 + 1 ∧ y4.heap.size = g1 + 2 from ⟨by have := HW7.out.1.lt; omega, by have := T1.out; omega, by have := T1.out; have := T2.out; have := T4.out; omega⟩)
      have HFy : Hid (Fr No w7 y4) := hid ((G1.out.trans' G2.out).trans G4.out (fun k e => .inr (by have e : k = r1 := e; have := HN1.out; omega)))
      have HB4 : Hid (Blk y4 r1 46 (kidV 2 g1 1)) := hid (by
        have h := HY4.out
        rw [spl_whole (flV fl0 (.slice none 0 0) (.slice none 0 0)) _ (by rw [(kidV_seven _ _ _).1]; rfl)] at h
        exact h)
      have HBk : Hid (Blk y4 g1 46 ([cf] : List (List Value)).flatten) := hid ((HY1.out.fr G2.out id).fr G4.out (by show ¬ g1 = r1; have := HN1.out; omega))
      have HW8 := hid (HW7.out.no HFy.out)
      have HF8 : Hid (Fr No w y4) := hid (HF7.out.trans' HFy.out)
      have HNF : Hid (FlC (M1 + 1) (fun i => i ≠ q) y4 (kidF 2 [f]) (kidV 2 g1 1)) := hid (one_kid 2 f cf HBk.out (by have := HN1.out; omega) HW8.out.2.2.1 ⟨by decide, by decide⟩)
      clear hg1 hr1 HY1 G1 T1 HY2 G2 T2 HY4 G4 T4 HW7 HF7 HBk HFy
      refine hid ?_
      go_wp2_with (first
        | ((with_reducible refine K.atO (.load 46 _) ?_); (fail_if_success (have := HZ4)); refine wpL_load rfl _ _ rfl bg 0 rfl cg _ HW8.out.2.2.2.2.2.1 rfl rfl HIg.out ?_)
        | ((with_reducible refine K.atO (.buildSlice 43 _ _) ?_); (fail_if_success (have := HZ1)); refine wpL_buildAll rfl 43 46 [.tmp 48] rfl fi _ Tryz.underlying43 IF.out ZF.out (by rw [SF.out]; decide) (by rw [SF.out]; decide) (by decide) [.agg cg.toArray] rfl (by intro v hv; rw [SF.out, List.mem_singleton.1 hv]; exact H7.out.2.1) ([cg] : List (List Value)).flatten (by simp [Value.cells]) ?_; intro z1 HZ1 G1 T1; simp only [Act.put, K.put3])
        | ((with_reducible refine K.atO (.build 46 _) ?_); refine wpL_valZ rfl (.agg (kidV 2 y4.heap.size 1).toArray) (exec_bld _ [(0, .const (.int .i64 2)), (1, .tmp 49)] rfl [(0, .int .i64 2), (1, .slice (some ⟨y4.heap.size, 0, none⟩) 1 1)] rfl _ _ (bkid _ _ _ _)) ?_; simp only [Act.put, K.put3])
        | ((with_reducible refine K.atO (.alloc 46) ?_); refine wpL_alloc rfl _ rfl _ zeroFl' (flV fl0 (.slice none 0 0) (.slice none 0 0)) rfl ?_; intro z2 HZ2 G2 T2; simp only [Act.put, K.put3])
        | ((with_reducible refine K.atO (.store 46 _ _) ?_); refine wpL_store rfl _ _ _ rfl z1.heap.size 0 (kidV 2 y4.heap.size 1) rfl rfl 46 _ HZ2.out (by rw [(kidV_seven _ _ _).1]; simp [flV]) (by rw [(kidV_seven _ _ _).1]; exact infoFl) (kidV_seven _ _ _).2 ?_; intro z4 HZ4 G4 T4; refine Hid.out ?_)
        | fail)
      obtain ⟨g2, hg2⟩ : ∃ b, y4.heap.size = b := ⟨_, rfl⟩
      obtain ⟨r2, hr2⟩ : ∃ b, z1.heap.size = b := ⟨_, rfl⟩
      rw [hg2] at HZ1 HZ4 ⊢
      rw [hr2] at HZ2 HZ4 G4 ⊢
      have HN2 := hid (show q < g2 ∧ r2 = g2 + 1 ∧ r1 < g2 from ⟨by have := HN1.out; omega, by have := T1.out; omega, by have := HN1.out; omega⟩)
      have HFz : Hid (Fr No y4 z4) := hid ((G1.out.trans' G2.out).trans G4.out (fun k e => .inr (by have e : k = r2 := e; have := HN2.out; omega)))
      have HC4 : Hid (Blk z4 r2 46 (kidV 2 g2 1)) := hid (by
        have h := HZ4.out
        rw [spl_whole (flV fl0 (.slice none 0 0) (.slice none 0 0)) _ (by rw [(kidV_seven _ _ _).1]; rfl)] at h
        exact h)
      have HCk : Hid (Blk z4 g2 46 ([cg] : List (List Value)).flatten) := hid ((HZ1.out.fr G2.out id).fr G4.out (by show ¬ g2 = r2; have := HN2.out; omega))
      have HW9 := hid (HW8.out.no HFz.out)
      have HF9 : Hid (Fr No w z4) := hid (HF8.out.trans' HFz.out)
      have HNG : Hid (FlC (M2 + 1) (fun i => i ≠ q) z4 (kidF 2 [g]) (kidV 2 g2 1)) := hid (one_kid 2 g cg HCk.out (by have := HN2.out; omega) HW9.out.2.2.2.1 ⟨by decide, by decide⟩)
      have HV9 : Hid (Two X q s (.slice va en.length vcp) en (M1 + 1) (M2 + 1) (kidF 2 [f]) (kidF 2 [g]) (kidV 2 g1 1) (kidV 2 g2 1) r1 r2 z4) := hid ⟨HW9.out.1, HW9.out.2.1, HNF.out.no HFz.out, HNG.out, (HB4.out.fr HFz.out id).range 0 _ (by simp), HC4.out.range 0 _ (by simp), by have := HN1.out; omega, by have := HN2.out; omega⟩
      clear hg2 hr2 HZ1 G1 T1 HZ2 G2 T2 HZ4 G4 T4 HW8 HF8 HCk HFz HNF HNG HB4 HC4
      refine hid ?_
      go_wp2_with (first
        | ((with_reducible refine K.atO (.load 46 _) ?_); refine wpL_load rfl _ _ rfl bf 0 rfl cf _ HW9.out.2.2.2.2.1 rfl rfl HIf.out ?_)
        | fail)
      refine (Eval_any X q s _ en f cf z4 HW9.out.1 HW9.out.2.1 HW9.out.2.2.1 (fun i hi => hi) (fun i hi => hi) HES.out).mono ?_
      rintro e a1 ⟨rfl, hs, f1⟩
      have HWa := hid (HW9.out.step hs f1); have HVa := hid (HV9.out.step hs f1); have HFa : Hid (Fr No w a1) := hid (HFQ.out _ _ HF9.out f1)
      clear hs f1 HW9 HV9 HF9
      go_wp2_with (first
        | ((with_reducible refine K.atO (.load 46 _) ?_); refine wpL_load rfl _ _ rfl r1 0 rfl (kidV 2 g1 1) _ HVa.out.2.2.2.2.1 rfl rfl (by rw [(kidV_seven _ _ _).1]; exact infoFl) ?_)
        | fail)
      refine (Eval_any X q s _ en (kidF 2 [f]) _ a1 HVa.out.1 HVa.out.2.1 HVa.out.2.2.1 (fun i hi => hi) (fun i hi => hi) HES.out).mono ?_
      rintro e a2 ⟨rfl, hs, f1⟩
      have HWb := hid (HWa.out.step hs f1); have HVb := hid (HVa.out.step hs f1); have HFb : Hid (Fr No w a2) := hid (HFQ.out _ _ HFa.out f1)
      clear hs f1 HWa HVa HFa
      go_wp2_with (first
        | ((with_reducible refine K.atO (.load 46 _) ?_); refine wpL_load rfl _ _ rfl r1 0 rfl (kidV 2 g1 1) _ HVb.out.2.2.2.2.1 rfl rfl (by rw [(kidV_seven _ _ _).1]; exact infoFl) ?_)
        | ((with_reducible refine K.atO (.buildSlice 43 _ _) ?_); refine wpL_buildAll rfl 43 46 [.tmp 61] rfl fi _ Tryz.underlying43 IF.out ZF.out (by rw [SF.out]; decide) (by rw [SF.out]; decide) (by decide) [.agg (kidV 2 g1 1).toArray] rfl (by intro v hv; rw [SF.out, List.mem_singleton.1 hv]; exact (kidV_seven _ _ _).1) ([kidV 2 g1 1] : List (List Value)).flatten (by simp [Value.cells]) ?_; intro z1 HZ1 G1 T1; simp only [Act.put, K.put3])
        | ((with_reducible refine K.atO (.build 46 _) ?_); refine wpL_valZ rfl (.agg (kidV 2 a2.heap.size 1).toArray) (exec_bld _ [(0, .const (.int .i64 2)), (1, .tmp 62)] rfl [(0, .int .i64 2), (1, .slice (some ⟨a2.heap.size, 0, none⟩) 1 1)] rfl _ _ (bkid _ _ _ _)) ?_; simp only [Act.put, K.put3])
        | fail)
      have HWc := hid (HWb.out.no G1.out); have HVc := hid (HVb.out.no G1.out); have HFc := hid (HFb.out.trans' G1.out)
      refine (Eval_any X q s _ en (kidF 2 [kidF 2 [f]]) _ z1 HVc.out.1 HVc.out.2.1 (one_kid 2 (kidF 2 [f]) (kidV 2 g1 1) HZ1.out (by have := HWb.out.1.lt; omega) HVc.out.2.2.1 ⟨by decide, by decide⟩) (fun i hi => hi) (fun i hi => hi) HES.out).mono ?_
      rintro e a3 ⟨rfl, hs, f1⟩
      have HWd := hid (HWc.out.step hs f1); have HVd := hid (HVc.out.step hs f1); have HFd : Hid (Fr No w a3) := hid (HFQ.out _ _ HFc.out f1)
      clear hs f1 HWb HVb HFb HWc HVc HFc HZ1 G1 T1
      go_wp2_with (first
        | ((with_reducible refine K.atO (.load 46 _) ?_); (fail_if_success (have := HL1)); refine wpL_load rfl _ _ rfl bf 0 rfl cf _ HWd.out.2.2.2.2.1 rfl rfl HIf.out ?_; have HL1 := hid trivial)
        | ((with_reducible refine K.atO (.load 46 _) ?_); refine wpL_load rfl _ _ rfl bg 0 rfl cg _ HWd.out.2.2.2.2.2.1 rfl rfl HIg.out ?_)
        | ((with_reducible refine K.atO (.buildSlice 43 _ _) ?_); (fail_if_success (have := HZ1)); refine wpL_buildAll rfl 43 46 [.tmp 67, .tmp 68] rfl fi _ Tryz.underlying43 IF.out ZF.out (by rw [SF.out]; decide) (by rw [SF.out]; decide) (by decide) [.agg cf.toArray, .agg cg.toArray] rfl (by intro v hv; rw [SF.out]; simp only [List.mem_cons, List.not_mem_nil, or_false] at hv; rcases hv with rfl | rfl; exact H7.out.1.1; exact H7.out.2.1) ([cf, cg] : List (List Value)).flatten (by simp [Value.cells]) ?_; intro z1 HZ1 G1 T1; simp only [Act.put, K.put3])
        | ((with_reducible refine K.atO (.build 46 _) ?_); (fail_if_success (have := HZ2)); refine wpL_valZ rfl (.agg (kidV 0 a3.heap.size 2).toArray) (exec_bld _ [(0, .const (.int .i64 0)), (1, .tmp 69)] rfl [(0, .int .i64 0), (1, .slice (some ⟨a3.heap.size, 0, none⟩) 2 2)] rfl _ _ (bkid _ _ _ _)) ?_; simp only [Act.put, K.put3])
        | ((with_reducible refine K.atO (.buildSlice 43 _ _) ?_); refine wpL_buildAll rfl 43 46 [.tmp 70] rfl fi _ Tryz.underlying43 IF.out ZF.out (by rw [SF.out]; decide) (by rw [SF.out]; decide) (by decide) [.agg (kidV 0 a3.heap.size 2).toArray] rfl (by intro v hv; rw [SF.out, List.mem_singleton.1 hv]; exact (kidV_seven _ _ _).1) ([kidV 0 a3.heap.size 2] : List (List Value)).flatten (by simp [Value.cells]) ?_; intro z2 HZ2 G2 T2; simp only [Act.put, K.put3])
        | ((with_reducible refine K.atO (.build 46 _) ?_); refine wpL_valZ rfl (.agg (kidV 2 z1.heap.size 1).toArray) (exec_bld _ [(0, .const (.int .i64 2)), (1, .tmp 71)] rfl [(0, .int .i64 2), (1, .slice (some ⟨z1.heap.size, 0, none⟩) 1 1)] rfl _ _ (bkid _ _ _ _)) ?_; simp only [Act.put, K.put3])
        | fail)
      have HG12 : Hid (Fr No a3 z2) := hid (G1.out.trans' G2.out)
      have HWe := hid (HWd.out.no HG12.out); have HVe := hid (HVd.out.no HG12.out); have HFe := hid (HFd.out.trans' HG12.out)
      have HAN : Hid (FlC (M1 + M2 + 1) (fun i => i ≠ q) z2 (kidF 0 [f, g]) (kidV 0 a3.heap.size 2)) := hid (two_kids 0 f g cf cg (HZ1.out.fr G2.out id) (by have := HWd.out.1.lt; omega) HWe.out.2.2.1 HWe.out.2.2.2.1 ⟨by decide, by decide⟩)
      refine (Eval_any X q s _ en (kidF 2 [kidF 0 [f, g]]) _ z2 HWe.out.1 HWe.out.2.1 (one_kid 2 (kidF 0 [f, g]) _ HZ2.out (by have := HWd.out.1.lt; have := T1.out; omega) HAN.out ⟨by decide, by decide⟩) (fun i hi => hi) (fun i hi => hi) HES.out).mono ?_
      rintro e a4 ⟨rfl, hs, f1⟩
      have HVf := hid (HVe.out.step hs f1); have HFf2 : Hid (Fr No w a4) := hid (HFQ.out _ _ HFe.out f1)
      clear hs f1 HWd HVd HFd HWe HVe HFe HZ1 G1 T1 HZ2 G2 T2 HG12 HAN
      go_wp2_with (first
        | ((with_reducible refine K.atO (.load 46 _) ?_); (fail_if_success (have := HL2)); refine wpL_load rfl _ _ rfl r1 0 rfl (kidV 2 g1 1) _ HVf.out.2.2.2.2.1 rfl rfl (by rw [(kidV_seven _ _ _).1]; exact infoFl) ?_; have HL2 := hid trivial)
        | ((with_reducible refine K.atO (.load 46 _) ?_); refine wpL_load rfl _ _ rfl r2 0 rfl (kidV 2 g2 1) _ HVf.out.2.2.2.2.2.1 rfl rfl (by rw [(kidV_seven _ _ _).1]; exact infoFl) ?_)
        | ((with_reducible refine K.atO (.buildSlice 43 _ _) ?_); refine wpL_buildAll rfl 43 46 [.tmp 76, .tmp 77] rfl fi _ Tryz.underlying43 IF.out ZF.out (by rw [SF.out]; decide) (by rw [SF.out]; decide) (by decide) [.agg (kidV 2 g1 1).toArray, .agg (kidV 2 g2 1).toArray] rfl (by intro v hv; rw [SF.out]; simp only [List.mem_cons, List.not_mem_nil, or_false] at hv; rcases hv with rfl | rfl; exact (kidV_seven _ _ _).1; exact (kidV_seven _ _ _).1) ([kidV 2 g1 1, kidV 2 g2 1] : List (List Value)).flatten (by simp [Value.cells]) ?_; intro z1 HZ1 G1 T1; simp only [Act.put, K.put3])
        | ((with_reducible refine K.atO (.build 46 _) ?_); refine wpL_valZ rfl (.agg (kidV 1 a4.heap.size 2).toArray) (exec_bld _ [(0, .const (.int .i64 1)), (1, .tmp 78)] rfl [(0, .int .i64 1), (1, .slice (some ⟨a4.heap.size, 0, none⟩) 2 2)] rfl _ _ (bkid _ _ _ _)) ?_; simp only [Act.put, K.put3])
        | fail)
      have HVg := hid (HVf.out.no G1.out); have HFg2 := hid (HFf2.out.trans' G1.out)
      refine (Eval_any X q s _ en (kidF 1 [kidF 2 [f], kidF 2 [g]]) _ z1 HVg.out.1 HVg.out.2.1 (two_kids 1 (kidF 2 [f]) (kidF 2 [g]) _ _ HZ1.out (by have := HVf.out.1.lt; omega) HVg.out.2.2.1 HVg.out.2.2.2.1 ⟨by decide, by decide⟩) (fun i hi => hi) (fun i hi => hi) HES.out).mono ?_
      rintro e a5 ⟨rfl, hs, f1⟩
      have HFh : Hid (Fr No w a5) := hid (HFQ.out _ _ HFg2.out f1)
      clear hs f1 HVf HVg HFf2 HFg2 HZ1 G1 T1
      obtain ⟨A1, A2, A3⟩ := HA.out
      rw [A1, A2, A3]
      have HTR := hid (evF_tri s en 6 f)
      generalize evF s en 6 (kidF 1 [kidF 2 [f], kidF 2 [g]]) = y
      generalize evF s en 6 f = x at HTR ⊢
      clear A1 A2 A3 HA
      go_wp2_with fail
      refine (turned_any x HTR.out a5).mono ?_
      rintro e a6 ⟨rfl, rfl⟩
      go_wp2_with fail
      go_ret
      exact ⟨by simp, HFh.out⟩
    · have HSH := hid hsh
      have : (shal 3 f = false) ∨ (shal 3 f = true ∧ shal 3 g = false) := by
        cases h1 : shal 3 f with
        | false => exact .inl rfl
        | true => cases h2 : shal 3 g with
          | false => exact .inr ⟨rfl, rfl⟩
          | true => exact absurd ⟨h1, h2⟩ HSH.out
      rcases this with h1 | ⟨h1, h2⟩
      · rw [h1]
        generalize shal 3 g = z2
        clear h1 hsh
        go_wp2_with fail
        go_ret
        exact ⟨rfl, HF7.out⟩
      · rw [h1, h2]
        clear h1 h2 hsh
        go_wp2_with fail
        go_ret
        exact ⟨rfl, HF7.out⟩
end Go.Proofs.YtdkkpfeiaaffhaaGreatDoor.FT
