/-
  Part 25 of the proof: FtH, FtN, FtOw.
-/
import Derived.Test.YtdkkpfeiaaffhaaGreatDoorFc20
import Derived.Test.YtdkkpfeiaaffhaaGreatDoorFc21
import Derived.Test.YtdkkpfeiaaffhaaGreatDoorFc24
import Derived.Test.YtdkkpfeiaaffhaaGreatDoorFc15
set_option linter.unusedSimpArgs false
set_option linter.unusedVariables false
namespace Go.Proofs.YtdkkpfeiaaffhaaGreatDoor.FT
set_option maxRecDepth 100000
open Go.RowKit K Go.Proofs.YtdkkpfeiaaffhaaGreatDoor.BE Go.Proofs.YtdkkpfeiaaffhaaGreatDoor.DN Go.Proofs.YtdkkpfeiaaffhaaGreatDoor.SC

def sAl : B := [65, 108, 32, 66, 111]
def en2 : Ent := [(sOC, [sPerson]), (sCn, [sAl]), (sAge, [[55]])]
theorem en2_s : EnS en2 := by
  intro a ha v hv
  simp only [en2, List.mem_cons, List.not_mem_nil, or_false] at ha
  rcases ha with rfl | rfl | rfl <;> (rw [List.mem_singleton.1 hv]; unfold Sm; decide)
theorem sm_s {l : B} (h : l.length ≤ 100) : Sm l := by unfold Sm; omega
/-- A filter without kids and parts, as a literal. -/
theorem fl_lit (S : Nat → Prop) (w : World) (k : Int) (t v p q : B) (hk : I64 k) (ht : Sz t) (hv : Sz v) (hp : Sm p) (hq : Sm q) : FlC 1 S w (.mk k [] t v p [] q) (flV (.mk k [] t v p [] q) (.slice none 0 0) (.slice none 0 0)) :=
  ⟨_, _, rfl, hk, ht, hv, hp, hq, ⟨⟨none, 0, rfl, Nat.le_refl _, by simp [Fl.any], .inl rfl⟩, fun x hx => by simp [Fl.any] at hx, by simp [Fl.any]⟩, ⟨none, 0, rfl, Nat.le_refl _, by simp [Fl.kids], .inl rfl⟩⟩
/-- With parts. -/
theorem fl_any {S : Nat → Prop} {w : World} {va : Value} {l : List B} (h : LsIn S w va l) (hs : ∀ x ∈ l, Sm x) (hl : l.length ≤ 4294967000) (k : Int) (t v p q : B) (hk : I64 k) (ht : Sz t) (hv : Sz v) (hp : Sm p) (hq : Sm q) : FlC 1 S w (.mk k [] t v p l q) (flV (.mk k [] t v p l q) (.slice none 0 0) va) :=
  ⟨_, _, rfl, hk, ht, hv, hp, hq, ⟨h, hs, hl⟩, ⟨none, 0, rfl, Nat.le_refl _, by simp [Fl.kids], .inl rfl⟩⟩
/-- With kids. -/
theorem fl_kids {S : Nat → Prop} {M : Nat} {w : World} {vk : Value} {l : List Fl} (h : Sl 7 (FlC M S w) S w vk l) (k : Int) (hk : I64 k) : FlC (M + 1) S w (.mk k l [] [] [] [] []) (flV (.mk k l [] [] [] [] []) vk (.slice none 0 0)) :=
  ⟨_, _, rfl, hk, by unfold Sz Fl.type; simp, by unfold Sz Fl.value; simp, by unfold Sm Fl.first; simp, by unfold Sm Fl.last; simp, ⟨⟨none, 0, rfl, Nat.le_refl _, by simp [Fl.any], .inl rfl⟩, fun x hx => by simp [Fl.any] at hx, by simp [Fl.any]⟩, h⟩
/-- Kids in a block of their own. -/
theorem kids_blk {S : Nat → Prop} {M g : Nat} {w : World} {t : TypeId} (l : List Fl) (L : List (List Value)) (h : Blk w g t L.flatten) (hg : S g) (hL : L.length = l.length) (hp : ∀ (j : Nat) (x : Fl) (c : List Value), l[j]? = some x → L[j]? = some c → FlC M S w x c) (hl : l.length ≤ 100) : Sl 7 (FlC M S w) S w (.slice (some ⟨g, 0, none⟩) l.length l.length) l :=
  Sl.mono (blk_sl (k := 7) (p := FlC M S w) l L h hL (fun c hc => by
    obtain ⟨j, hj⟩ := List.mem_iff_getElem?.1 hc
    have hjl : j < l.length := by rw [← hL]; exact (List.getElem?_eq_some_iff.1 hj).1
    exact (hp j _ c (List.getElem?_eq_getElem hjl) hj).seven.1) hp (by omega)) (fun i hi _ => by have hi : i = g := hi; rw [hi]; exact hg) (fun _ _ _ h => h)
theorem infoFl3 : (Tryz.prog.info? 46).map (fun i => (i.zero, i.size, i.bytes)) = some (some (.agg (flV fl0 (.slice none 0 0) (.slice none 0 0)).toArray), 7, 120) := by kernel_rfl
def fx0 : Fl := .mk 3 [] sCn [97, 108, 32, 98, 111] [] [] []
theorem bfx0 (w : World) : (Instr.build 46 [(0, (.int .i64 3)), (2, (.string (sb sCn))), (3, (.string (sb [97, 108, 32, 98, 111])))].toArray).run Tryz.prog w = .ok (.agg (flV fx0 (.slice none 0 0) (.slice none 0 0)).toArray) w := by kernel_rfl
theorem rfx0 : evF ex2 en2 6 fx0 = 1 := by decide +kernel
def fx1 : Fl := .mk 3 [] sDc [120] [] [] []
theorem bfx1 (w : World) : (Instr.build 46 [(0, (.int .i64 3)), (2, (.string (sb sDc))), (3, (.string (sb [120])))].toArray).run Tryz.prog w = .ok (.agg (flV fx1 (.slice none 0 0) (.slice none 0 0)).toArray) w := by kernel_rfl
theorem rfx1 : evF ex2 en2 6 fx1 = 0 := by decide +kernel
def fx2 : Fl := .mk 7 [] [110, 111, 110, 101] [] [] [] []
theorem bfx2 (w : World) : (Instr.build 46 [(0, (.int .i64 7)), (2, (.string (sb [110, 111, 110, 101])))].toArray).run Tryz.prog w = .ok (.agg (flV fx2 (.slice none 0 0) (.slice none 0 0)).toArray) w := by kernel_rfl
theorem rfx2 : evF ex2 en2 6 fx2 = 2 := by decide +kernel
def fx3 : Fl := .mk 5 [] sAge [53] [] [] []
theorem bfx3 (w : World) : (Instr.build 46 [(0, (.int .i64 5)), (2, (.string (sb sAge))), (3, (.string (sb [53])))].toArray).run Tryz.prog w = .ok (.agg (flV fx3 (.slice none 0 0) (.slice none 0 0)).toArray) w := by kernel_rfl
theorem rfx3 : evF ex2 en2 6 fx3 = 1 := by decide +kernel
def fx4 : Fl := .mk 4 [] sCn [] [97, 108, 32] [] [111]
theorem bfx4 (w : World) : (Instr.build 46 [(0, (.int .i64 4)), (2, (.string (sb sCn))), (4, (.string (sb [97, 108, 32]))), (6, (.string (sb [111])))].toArray).run Tryz.prog w = .ok (.agg (flV fx4 (.slice none 0 0) (.slice none 0 0)).toArray) w := by kernel_rfl
theorem rfx4 : evF ex2 en2 6 fx4 = 1 := by decide +kernel
def fx5 : Fl := .mk 4 [] sCn [] [] [[108], [108]] []
theorem bfx5 (p : Nat) (w : World) : (Instr.build 46 [(0, .int .i64 4), (2, .string (sb sCn)), (5, .slice (some ⟨p, 0, none⟩) 2 2)].toArray).run Tryz.prog w = .ok (.agg (flV fx5 (.slice none 0 0) (.slice (some ⟨p, 0, none⟩) 2 2)).toArray) w := by kernel_rfl
theorem rfx5 : evF ex2 en2 6 fx5 = 0 := by decide +kernel
def fx6 : Fl := .mk 4 [] sCn [] [97] [[42]] []
theorem bfx6 (p : Nat) (w : World) : (Instr.build 46 [(0, .int .i64 4), (2, .string (sb sCn)), (4, .string (sb [97])), (5, .slice (some ⟨p, 0, none⟩) 1 1)].toArray).run Tryz.prog w = .ok (.agg (flV fx6 (.slice none 0 0) (.slice (some ⟨p, 0, none⟩) 1 1)).toArray) w := by kernel_rfl
def fx7 : Fl := .mk 2 [fx6] [] [] [] [] []
theorem bfx7 (p : Nat) (w : World) : (Instr.build 46 [(0, .int .i64 2), (1, .slice (some ⟨p, 0, none⟩) 1 1)].toArray).run Tryz.prog w = .ok (.agg (flV fx7 (.slice (some ⟨p, 0, none⟩) 1 1) (.slice none 0 0)).toArray) w := by kernel_rfl
def tx7 : B := [40, 33, 40, 99, 110, 61, 97, 42, 92, 50, 97, 42, 41, 41]
theorem rfx7 : prF 6 fx7 = tx7 := by decide +kernel
set_option maxHeartbeats 16000000 in
theorem awake_any (w : World) (hG : Gm w) : Calls Tryz.prog 21 #[] w fun e w' => e = .returned (.bool true) ∧ Fr No w w' := by
  obtain ⟨X, hXe⟩ : ∃ X : Nat → Prop, X = fun k => k < w.heap.size := ⟨_, rfl⟩
  have HX := hid hXe
  have HGX : Hid (GM X) := hid (by rw [hXe]; exact hG.gx)
  have HG := hid hG
  obtain ⟨is, his, hzs, hss, hbs⟩ := info_ex infoS3
  obtain ⟨ia, hia, hza, hsa, hba⟩ := info_ex infoAt3
  obtain ⟨fi, hfi, hzf, hsf, hbf⟩ := info_ex infoFl3
  have IS := hid his; have ZS := hid hzs; have SS := hid hss
  have IA := hid hia; have ZA := hid hza; have SA := hid hsa
  have IF := hid hfi; have ZF := hid hzf; have SF := hid hsf
  clear his hzs hss hbs hia hza hsa hba hfi hzf hsf hbf hXe hG
  go_enter Tryz.func21, Tryz.ntmps21
  go_wp2_with fail
  refine (example_any _).mono ?_
  rintro e w1 ⟨vt, vc, rfl, ht, hc, f1⟩
  have HT := hid ht; have HC := hid hc; have HF1 := hid f1
  clear ht hc f1
  go_wp2_with fail
  refine (new_ok vt vc ex2 w1 HT.out HC.out ex2_ok).mono ?_
  rintro e w2 ⟨b, rfl, hs, f2⟩
  have HF2 : Hid (Fr No w w2) := hid (HF1.out.trans' f2)
  have HS2 : Hid (Tn X b ex2 w2) := hid ⟨hs.less (fun k hk => by rw [HX.out] at hk; exact Nat.lt_of_lt_of_le hk HF1.out.size), fun k hk => by rw [HX.out] at hk; exact Nat.lt_of_lt_of_le hk HF2.out.size, HGX.out, HG.out.no HF2.out⟩
  have HBW : Hid (w.heap.size ≤ b) := hid (by have := HS2.out.1.nx; rw [HX.out] at this; omega)
  have HBL := hid hs.lt
  clear hs f2 HT HC HF1
  go_wp2_with (first
    | ((with_reducible refine K.atO (.buildSlice 38 _ _) ?_); refine wpL_buildAll rfl 38 60 [.tmp 23, .tmp 25, .tmp 27] rfl ia _ Tryz.underlying38 IA.out ZA.out (by rw [SA.out]; decide) (by rw [SA.out]; decide) (by decide) [.agg #[.string (sb sOC), .slice (some ⟨w2.heap.size, 0, none⟩) 1 1], .agg #[.string (sb sCn), .slice (some ⟨y1.heap.size, 0, none⟩) 1 1], .agg #[.string (sb sAge), .slice (some ⟨y2.heap.size, 0, none⟩) 1 1]] rfl (by intro v hv; rw [SA.out]; simp only [List.mem_cons, List.not_mem_nil, or_false] at hv; rcases hv with rfl | rfl | rfl <;> rfl) [.string (sb sOC), .slice (some ⟨w2.heap.size, 0, none⟩) 1 1, .string (sb sCn), .slice (some ⟨y1.heap.size, 0, none⟩) 1 1, .string (sb sAge), .slice (some ⟨y2.heap.size, 0, none⟩) 1 1] rfl ?_; intro y4 Hy4 Gy4 Ty4; simp only [Act.put, K.put3])
    | ((with_reducible refine K.atO (.build 60 _) ?_); (have := Hy3); refine wpL_valZ rfl (.agg #[.string (sb sAge), .slice (some ⟨y2.heap.size, 0, none⟩) 1 1]) (exec_bld _ [(0, .const (.string (sb sAge))), (1, .tmp 26)] rfl [(0, (.string (sb sAge))), (1, .slice (some ⟨y2.heap.size, 0, none⟩) 1 1)] rfl _ _ (bat _ _ _ _)) ?_; simp only [Act.put, K.put3])
    | ((with_reducible refine K.atO (.build 60 _) ?_); (have := Hy2); refine wpL_valZ rfl (.agg #[.string (sb sCn), .slice (some ⟨y1.heap.size, 0, none⟩) 1 1]) (exec_bld _ [(0, .const (.string (sb sCn))), (1, .tmp 24)] rfl [(0, (.string (sb sCn))), (1, .slice (some ⟨y1.heap.size, 0, none⟩) 1 1)] rfl _ _ (bat _ _ _ _)) ?_; simp only [Act.put, K.put3])
    | ((with_reducible refine K.atO (.build 60 _) ?_); refine wpL_valZ rfl (.agg #[.string (sb sOC), .slice (some ⟨w2.heap.size, 0, none⟩) 1 1]) (exec_bld _ [(0, .const (.string (sb sOC))), (1, .tmp 22)] rfl [(0, (.string (sb sOC))), (1, .slice (some ⟨w2.heap.size, 0, none⟩) 1 1)] rfl _ _ (bat _ _ _ _)) ?_; simp only [Act.put, K.put3])
    | ((with_reducible refine K.atO (.buildSlice 44 _ _) ?_); (have := Hy2); refine wpL_buildAll rfl 44 9 [.const (.string (sb [55]))] rfl is _ Tryz.underlying44 IS.out ZS.out (by rw [SS.out]; decide) (by rw [SS.out]; decide) (by decide) [.string (sb [55])] rfl (by intro v hv; rw [List.mem_singleton.1 hv, SS.out]; rfl) (strs [[55]]) rfl ?_; intro y3 Hy3 Gy3 Ty3; simp only [Act.put, K.put3])
    | ((with_reducible refine K.atO (.buildSlice 44 _ _) ?_); (have := Hy1); refine wpL_buildAll rfl 44 9 [.const (.string (sb sAl))] rfl is _ Tryz.underlying44 IS.out ZS.out (by rw [SS.out]; decide) (by rw [SS.out]; decide) (by decide) [.string (sb sAl)] rfl (by intro v hv; rw [List.mem_singleton.1 hv, SS.out]; rfl) (strs [sAl]) rfl ?_; intro y2 Hy2 Gy2 Ty2; simp only [Act.put, K.put3])
    | ((with_reducible refine K.atO (.buildSlice 44 _ _) ?_); refine wpL_buildAll rfl 44 9 [.const (.string (sb sPerson))] rfl is _ Tryz.underlying44 IS.out ZS.out (by rw [SS.out]; decide) (by rw [SS.out]; decide) (by decide) [.string (sb sPerson)] rfl (by intro v hv; rw [List.mem_singleton.1 hv, SS.out]; rfl) (strs [sPerson]) rfl ?_; intro y1 Hy1 Gy1 Ty1; simp only [Act.put, K.put3])
    | fail)
  have HE0 : Hid (EnIn (fun i => i ≠ b) y4 (.slice (some ⟨y3.heap.size, 0, none⟩) 3 3) en2) := by
    have t1 := Ty1.out; have t2 := Ty2.out; have t3 := Ty3.out; have t4 := Ty4.out; have hbl := HBL.out
    refine hid (en_blk en2 [(.slice (some ⟨w2.heap.size, 0, none⟩) 1 1), (.slice (some ⟨y1.heap.size, 0, none⟩) 1 1), (.slice (some ⟨y2.heap.size, 0, none⟩) 1 1)] Hy4.out rfl (fun j a v hj hv => ?_) (by omega) (by decide))
    match j, hj, hv with
    | 0, hj, hv => cases hj; cases hv; exact ⟨sz_s (by decide), ls_blk [sPerson] (((Hy1.out.fr Gy2.out id).fr Gy3.out id).fr Gy4.out id) (by omega) (by decide) (by intro x hx; rw [List.mem_singleton.1 hx]; exact sz_s (by decide))⟩
    | 1, hj, hv => cases hj; cases hv; exact ⟨sz_s (by decide), ls_blk [sAl] ((Hy2.out.fr Gy3.out id).fr Gy4.out id) (by omega) (by decide) (by intro x hx; rw [List.mem_singleton.1 hx]; exact sz_s (by decide))⟩
    | 2, hj, hv => cases hj; cases hv; exact ⟨sz_s (by decide), ls_blk [[55]] (Hy3.out.fr Gy4.out id) (by omega) (by decide) (by intro x hx; rw [List.mem_singleton.1 hx]; exact sz_s (by decide))⟩
    | q + 3, hj, _ => simp [en2] at hj
  have HFy : Hid (Fr No w2 y4) := hid (((Gy1.out.trans' Gy2.out).trans' Gy3.out).trans' Gy4.out)
  have HA0 : Hid (Fr No w y4) := hid (HF2.out.trans' HFy.out)
  have HS0 : Hid (Tn X b ex2 y4) := hid (HS2.out.no HFy.out)
  generalize y3.heap.size = ea at HE0 ⊢
  have HFBH : Hid (∀ u v : World, Fr No w u → Fr (fun i => i = b) u v → Fr No w v) := hid (fun _ _ f g => f.trans g (fun i e => .inr (by rw [e]; exact HBW.out)))
  clear Hy1 Gy1 Ty1 Hy2 Gy2 Ty2 Hy3 Gy3 Ty3 Hy4 Gy4 Ty4 HS2 HF2 HFy
  go_wp2_with (first
    | ((with_reducible refine K.atO (.build 46 _) ?_); refine wpL_valZ rfl (.agg (flV fx0 (.slice none 0 0) (.slice none 0 0)).toArray) (exec_bld _ [(0, .const (.int .i64 3)), (2, .const (.string (sb sCn))), (3, .const (.string (sb [97, 108, 32, 98, 111])))] rfl [(0, (.int .i64 3)), (2, (.string (sb sCn))), (3, (.string (sb [97, 108, 32, 98, 111])))] rfl _ _ (bfx0 _)) ?_; simp only [Act.put, K.put3])
    | fail)
  refine (Eval_any X b ex2 _ en2 fx0 _ y4 HS0.out HE0.out (fl_lit (fun i => i ≠ b) y4 3 sCn [97, 108, 32, 98, 111] [] [] ⟨by decide, by decide⟩ (sz_s (by decide)) (sz_s (by decide)) (sm_s (by decide)) (sm_s (by decide))) (fun i hi => hi) (fun i hi => hi) en2_s).mono ?_
  rintro e a1 ⟨rfl, hs, f⟩
  rw [rfx0]
  have HS1 := hid (HS0.out.step hs f); have HA1 : Hid (Fr No w a1) := hid (HFBH.out _ _ HA0.out f); have HE1 := hid (HE0.out.fr f (fun i hi _ e => hi e))
  clear hs f HS0 HA0 HE0
  go_wp2_with (first
    | ((with_reducible refine K.atO (.build 46 _) ?_); refine wpL_valZ rfl (.agg (flV fx1 (.slice none 0 0) (.slice none 0 0)).toArray) (exec_bld _ [(0, .const (.int .i64 3)), (2, .const (.string (sb sDc))), (3, .const (.string (sb [120])))] rfl [(0, (.int .i64 3)), (2, (.string (sb sDc))), (3, (.string (sb [120])))] rfl _ _ (bfx1 _)) ?_; simp only [Act.put, K.put3])
    | fail)
  refine (Eval_any X b ex2 _ en2 fx1 _ a1 HS1.out HE1.out (fl_lit (fun i => i ≠ b) a1 3 sDc [120] [] [] ⟨by decide, by decide⟩ (sz_s (by decide)) (sz_s (by decide)) (sm_s (by decide)) (sm_s (by decide))) (fun i hi => hi) (fun i hi => hi) en2_s).mono ?_
  rintro e a2 ⟨rfl, hs, f⟩
  rw [rfx1]
  have HS2 := hid (HS1.out.step hs f); have HA2 : Hid (Fr No w a2) := hid (HFBH.out _ _ HA1.out f); have HE2 := hid (HE1.out.fr f (fun i hi _ e => hi e))
  clear hs f HS1 HA1 HE1
  go_wp2_with (first
    | ((with_reducible refine K.atO (.build 46 _) ?_); refine wpL_valZ rfl (.agg (flV fx2 (.slice none 0 0) (.slice none 0 0)).toArray) (exec_bld _ [(0, .const (.int .i64 7)), (2, .const (.string (sb [110, 111, 110, 101])))] rfl [(0, (.int .i64 7)), (2, (.string (sb [110, 111, 110, 101])))] rfl _ _ (bfx2 _)) ?_; simp only [Act.put, K.put3])
    | fail)
  refine (Eval_any X b ex2 _ en2 fx2 _ a2 HS2.out HE2.out (fl_lit (fun i => i ≠ b) a2 7 [110, 111, 110, 101] [] [] [] ⟨by decide, by decide⟩ (sz_s (by decide)) (sz_s (by decide)) (sm_s (by decide)) (sm_s (by decide))) (fun i hi => hi) (fun i hi => hi) en2_s).mono ?_
  rintro e a3 ⟨rfl, hs, f⟩
  rw [rfx2]
  have HS3 := hid (HS2.out.step hs f); have HA3 : Hid (Fr No w a3) := hid (HFBH.out _ _ HA2.out f); have HE3 := hid (HE2.out.fr f (fun i hi _ e => hi e))
  clear hs f HS2 HA2 HE2
  go_wp2_with (first
    | ((with_reducible refine K.atO (.build 46 _) ?_); refine wpL_valZ rfl (.agg (flV fx3 (.slice none 0 0) (.slice none 0 0)).toArray) (exec_bld _ [(0, .const (.int .i64 5)), (2, .const (.string (sb sAge))), (3, .const (.string (sb [53])))] rfl [(0, (.int .i64 5)), (2, (.string (sb sAge))), (3, (.string (sb [53])))] rfl _ _ (bfx3 _)) ?_; simp only [Act.put, K.put3])
    | fail)
  refine (Eval_any X b ex2 _ en2 fx3 _ a3 HS3.out HE3.out (fl_lit (fun i => i ≠ b) a3 5 sAge [53] [] [] ⟨by decide, by decide⟩ (sz_s (by decide)) (sz_s (by decide)) (sm_s (by decide)) (sm_s (by decide))) (fun i hi => hi) (fun i hi => hi) en2_s).mono ?_
  rintro e a4 ⟨rfl, hs, f⟩
  rw [rfx3]
  have HS4 := hid (HS3.out.step hs f); have HA4 : Hid (Fr No w a4) := hid (HFBH.out _ _ HA3.out f); have HE4 := hid (HE3.out.fr f (fun i hi _ e => hi e))
  clear hs f HS3 HA3 HE3
  go_wp2_with (first
    | ((with_reducible refine K.atO (.build 46 _) ?_); refine wpL_valZ rfl (.agg (flV fx4 (.slice none 0 0) (.slice none 0 0)).toArray) (exec_bld _ [(0, .const (.int .i64 4)), (2, .const (.string (sb sCn))), (4, .const (.string (sb [97, 108, 32]))), (6, .const (.string (sb [111])))] rfl [(0, (.int .i64 4)), (2, (.string (sb sCn))), (4, (.string (sb [97, 108, 32]))), (6, (.string (sb [111])))] rfl _ _ (bfx4 _)) ?_; simp only [Act.put, K.put3])
    | fail)
  refine (Eval_any X b ex2 _ en2 fx4 _ a4 HS4.out HE4.out (fl_lit (fun i => i ≠ b) a4 4 sCn [] [97, 108, 32] [111] ⟨by decide, by decide⟩ (sz_s (by decide)) (sz_s (by decide)) (sm_s (by decide)) (sm_s (by decide))) (fun i hi => hi) (fun i hi => hi) en2_s).mono ?_
  rintro e a5 ⟨rfl, hs, f⟩
  rw [rfx4]
  have HS5 := hid (HS4.out.step hs f); have HA5 : Hid (Fr No w a5) := hid (HFBH.out _ _ HA4.out f); have HE5 := hid (HE4.out.fr f (fun i hi _ e => hi e))
  clear hs f HS4 HA4 HE4
  go_wp2_with (first
    | ((with_reducible refine K.atO (.buildSlice 44 _ _) ?_); refine wpL_buildAll rfl 44 9 [.const (.string (sb [108])), .const (.string (sb [108]))] rfl is _ Tryz.underlying44 IS.out ZS.out (by rw [SS.out]; decide) (by rw [SS.out]; decide) (by decide) [.string (sb [108]), .string (sb [108])] rfl (by intro v hv; rw [SS.out]; simp only [List.mem_cons, List.not_mem_nil, or_false] at hv; rcases hv with rfl | rfl <;> rfl) (strs [[108], [108]]) rfl ?_; intro z1 Hz1 Gz1 Tz1; simp only [Act.put, K.put3])
    | ((with_reducible refine K.atO (.build 46 _) ?_); refine wpL_valZ rfl (.agg (flV fx5 (.slice none 0 0) (.slice (some ⟨a5.heap.size, 0, none⟩) 2 2)).toArray) (exec_bld _ [(0, .const (.int .i64 4)), (2, .const (.string (sb sCn))), (5, .tmp 51)] rfl [(0, .int .i64 4), (2, .string (sb sCn)), (5, .slice (some ⟨a5.heap.size, 0, none⟩) 2 2)] rfl _ _ (bfx5 _ _)) ?_; simp only [Act.put, K.put3])
    | fail)
  have HL6 : Hid (LsIn (fun i => i ≠ b) z1 (.slice (some ⟨a5.heap.size, 0, none⟩) 2 2) [[108], [108]]) := hid (ls_blk [[108], [108]] Hz1.out (by have := HS5.out.lt; omega) (by decide) (by intro x hx; simp only [List.mem_cons, List.not_mem_nil, or_false] at hx; rcases hx with rfl | rfl <;> exact sz_s (by decide)))
  refine (Eval_any X b ex2 _ en2 fx5 _ z1 (HS5.out.no Gz1.out) (HE5.out.no Gz1.out) (fl_any HL6.out (by intro x hx; simp only [List.mem_cons, List.not_mem_nil, or_false] at hx; rcases hx with rfl | rfl <;> exact sm_s (by decide)) (by decide) 4 sCn [] [] [] ⟨by decide, by decide⟩ (sz_s (by decide)) (sz_s (by decide)) (sm_s (by decide)) (sm_s (by decide))) (fun i hi => hi) (fun i hi => hi) en2_s).mono ?_
  rintro e a6 ⟨rfl, hs, f⟩
  rw [rfx5]
  have HA6 : Hid (Fr No w a6) := hid (HFBH.out _ _ (HA5.out.trans' Gz1.out) f)
  clear hs f HS5 HA5 HE5 HL6 Hz1 Gz1 Tz1
  go_wp2_with (first
    | ((with_reducible refine K.atO (.buildSlice 44 _ _) ?_); refine wpL_buildAll rfl 44 9 [.const (.string (sb [42]))] rfl is _ Tryz.underlying44 IS.out ZS.out (by rw [SS.out]; decide) (by rw [SS.out]; decide) (by decide) [.string (sb [42])] rfl (by intro v hv; rw [List.mem_singleton.1 hv, SS.out]; rfl) (strs [[42]]) rfl ?_; intro z1 Hz1 Gz1 Tz1; simp only [Act.put, K.put3])
    | ((with_reducible refine K.atO (.build 46 _) ?_); (have := Hz2); refine wpL_valZ rfl (.agg (flV fx7 (.slice (some ⟨z1.heap.size, 0, none⟩) 1 1) (.slice none 0 0)).toArray) (exec_bld _ [(0, .const (.int .i64 2)), (1, .tmp 56)] rfl [(0, .int .i64 2), (1, .slice (some ⟨z1.heap.size, 0, none⟩) 1 1)] rfl _ _ (bfx7 _ _)) ?_; simp only [Act.put, K.put3])
    | ((with_reducible refine K.atO (.build 46 _) ?_); refine wpL_valZ rfl (.agg (flV fx6 (.slice none 0 0) (.slice (some ⟨a6.heap.size, 0, none⟩) 1 1)).toArray) (exec_bld _ [(0, .const (.int .i64 4)), (2, .const (.string (sb sCn))), (4, .const (.string (sb [97]))), (5, .tmp 54)] rfl [(0, .int .i64 4), (2, .string (sb sCn)), (4, .string (sb [97])), (5, .slice (some ⟨a6.heap.size, 0, none⟩) 1 1)] rfl _ _ (bfx6 _ _)) ?_; simp only [Act.put, K.put3])
    | ((with_reducible refine K.atO (.buildSlice 43 _ _) ?_); refine wpL_buildAll rfl 43 46 [.tmp 55] rfl fi _ Tryz.underlying43 IF.out ZF.out (by rw [SF.out]; decide) (by rw [SF.out]; decide) (by decide) [.agg (flV fx6 (.slice none 0 0) (.slice (some ⟨a6.heap.size, 0, none⟩) 1 1)).toArray] rfl (by intro v hv; rw [SF.out]; rw [List.mem_singleton.1 hv]; rfl) ([flV fx6 (.slice none 0 0) (.slice (some ⟨a6.heap.size, 0, none⟩) 1 1)] : List (List Value)).flatten (by simp [Value.cells]) ?_; intro z2 Hz2 Gz2 Tz2; simp only [Act.put, K.put3])
    | fail)
  have HL7 : Hid (FlC 2 (fun _ => True) z2 fx7 (flV fx7 (.slice (some ⟨z1.heap.size, 0, none⟩) 1 1) (.slice none 0 0))) := by
    have h1 : LsIn (fun _ => True) z2 (.slice (some ⟨a6.heap.size, 0, none⟩) 1 1) [[42]] := LsIn.mono (blk_ls [[42]] (Hz1.out.fr Gz2.out id) (by decide) (by intro x hx; rw [List.mem_singleton.1 hx]; exact sz_s (by decide))) (fun _ _ _ => trivial)
    have h2 : FlC 1 (fun _ => True) z2 fx6 (flV fx6 (.slice none 0 0) (.slice (some ⟨a6.heap.size, 0, none⟩) 1 1)) := fl_any h1 (by intro x hx; rw [List.mem_singleton.1 hx]; exact sm_s (by decide)) (by decide) 4 sCn [] [97] [] ⟨by decide, by decide⟩ (sz_s (by decide)) (sz_s (by decide)) (sm_s (by decide)) (sm_s (by decide))
    exact hid (fl_kids (kids_blk [fx6] [flV fx6 (.slice none 0 0) (.slice (some ⟨a6.heap.size, 0, none⟩) 1 1)] Hz2.out trivial rfl (fun j x c hx hc => by
      match j, hx, hc with
      | 0, hx, hc => cases hx; cases hc; exact h2
      | n + 1, hx, _ => simp at hx) (by decide)) 2 ⟨by decide, by decide⟩)
  have HA8 : Hid (Fr No w z2) := hid ((HA6.out.trans' Gz1.out).trans' Gz2.out)
  refine (Print_any fx7 _ z2 HL7.out (by rw [rfx7]; decide)).mono ?_
  rintro e a9 ⟨rfl, f⟩
  rw [rfx7]
  have HA9 := hid (HA8.out.trans' f)
  clear f HL7 HA8 HA6 Hz1 Gz1 Tz1 Hz2 Gz2 Tz2
  go_wp2_with (first
    | ((with_reducible refine K.atO (.binOp .eql 9 _ _ _) ?_); refine wpL_valZ rfl (.bool true) ((exec_eqS _ _ _ rfl tx7 tx7 rfl rfl _).trans (by simp)) ?_)
    | fail)
  go_ret
  exact ⟨rfl, HA9.out⟩
end Go.Proofs.YtdkkpfeiaaffhaaGreatDoor.FT

namespace Go.Proofs.YtdkkpfeiaaffhaaGreatDoor.FT
set_option maxRecDepth 100000
open Go.RowKit K Go.Proofs.YtdkkpfeiaaffhaaGreatDoor.BE Go.Proofs.YtdkkpfeiaaffhaaGreatDoor.DN Go.Proofs.YtdkkpfeiaaffhaaGreatDoor.SC

theorem _root_.Go.Proofs.YtdkkpfeiaaffhaaGreatDoor.SC.EnIn.bb {q : Nat} {w w' : World} {v : Value} {en : Ent} (h : EnIn (fun i => i ≠ q) w v en) (hf : Fr (fun k => k = q) w w') : EnIn (fun i => i ≠ q) w' v en := h.fr hf fun _ hi _ e => hi e
theorem FlC.bb {q M : Nat} {w w' : World} {f : Fl} {cs : List Value} (h : FlC M (fun i => i ≠ q) w f cs) (hf : Fr (fun k => k = q) w w') : FlC M (fun i => i ≠ q) w' f cs := h.fr hf fun _ hi _ e => hi e
end Go.Proofs.YtdkkpfeiaaffhaaGreatDoor.FT

namespace Go.Proofs.YtdkkpfeiaaffhaaGreatDoor.FT
set_option maxRecDepth 100000
open Go.RowKit K Go.Proofs.YtdkkpfeiaaffhaaGreatDoor.BE Go.Proofs.YtdkkpfeiaaffhaaGreatDoor.DN Go.Proofs.YtdkkpfeiaaffhaaGreatDoor.SC

theorem infoSc3 : (Tryz.prog.info? 25).map (·.size) = some 2 := by kernel_rfl
/-- A filter of one type and one value. -/
def litF (k : Int) (n v : B) : Fl := .mk k [] n v [] [] []
theorem blit3 (k : Int) (n v : B) (w : World) : (Instr.build 46 [(0, .int .i64 k), (2, .string (sb n)), (3, .string (sb v))].toArray).run Tryz.prog w = .ok (.agg (flV (litF k n v) (.slice none 0 0) (.slice none 0 0)).toArray) w := by kernel_rfl
theorem blit2 (k : Int) (n : B) (w : World) : (Instr.build 46 [(0, .int .i64 k), (2, .string (sb n))].toArray).run Tryz.prog w = .ok (.agg (flV (litF k n []) (.slice none 0 0) (.slice none 0 0)).toArray) w := by kernel_rfl
theorem litF_in (S : Nat → Prop) (w : World) (k : Int) (n v : B) (hk : I64 k) (hn : Sz n) (hv : Sz v) : FlC 1 S w (litF k n v) (flV (litF k n v) (.slice none 0 0) (.slice none 0 0)) := fl_lit S w k n v [] [] hk hn hv (by unfold Sm; simp) (by unfold Sm; simp)
theorem szNil : Sz ([] : B) := by unfold Sz; simp
theorem ev3l (X : Nat → Prop) (b : Nat) (s : Sch) (ve : Value) (en : Ent) (n v : B) (w : World) (h : Tn X b s w) (he : EnIn (fun i => i ≠ b) w ve en) (hn : Sz n) (hv : Sz v) :
    Calls Tryz.prog 22 #[.pointer (some ⟨b, 0, none⟩), ve, .agg (flV (litF 3 n v) (.slice none 0 0) (.slice none 0 0)).toArray] w fun e w' => e = .returned (.int .i64 (leaf s en (litF 3 n v))) ∧ Sx w' X b s ∧ Fr (fun k => k = b) w w' :=
  Eval_of X b s ve en _ _ w he rfl fun w' hw => (ev3 X b s ve en 5 (litF 3 n v) _ w' (h.no hw) (he.no hw) (fun i hi => hi) (litF_in (fun i => i ≠ b) w' 3 n v ⟨by decide, by decide⟩ hn hv) (fun i hi => hi) (by decide) rfl).mono fun e w'' ⟨h1, h2⟩ => ⟨by rw [h1]; rfl, h2⟩
theorem ev5l (X : Nat → Prop) (b : Nat) (s : Sch) (ve : Value) (en : Ent) (n v : B) (w : World) (h : Tn X b s w) (he : EnIn (fun i => i ≠ b) w ve en) (hn : Sz n) (hv : Sz v) :
    Calls Tryz.prog 22 #[.pointer (some ⟨b, 0, none⟩), ve, .agg (flV (litF 5 n v) (.slice none 0 0) (.slice none 0 0)).toArray] w fun e w' => e = .returned (.int .i64 (leaf s en (litF 5 n v))) ∧ Sx w' X b s ∧ Fr (fun k => k = b) w w' :=
  Eval_of X b s ve en _ _ w he rfl fun w' hw => (ev5 X b s ve en 5 (litF 5 n v) _ w' (h.no hw) (he.no hw) (fun i hi => hi) (litF_in (fun i => i ≠ b) w' 5 n v ⟨by decide, by decide⟩ hn hv) (fun i hi => hi) (by decide) rfl).mono fun e w'' ⟨h1, h2⟩ => ⟨by rw [h1]; rfl, h2⟩
theorem ev6l (X : Nat → Prop) (b : Nat) (s : Sch) (ve : Value) (en : Ent) (n v : B) (w : World) (h : Tn X b s w) (he : EnIn (fun i => i ≠ b) w ve en) (hn : Sz n) (hv : Sz v) :
    Calls Tryz.prog 22 #[.pointer (some ⟨b, 0, none⟩), ve, .agg (flV (litF 6 n v) (.slice none 0 0) (.slice none 0 0)).toArray] w fun e w' => e = .returned (.int .i64 (leaf s en (litF 6 n v))) ∧ Sx w' X b s ∧ Fr (fun k => k = b) w w' :=
  Eval_of X b s ve en _ _ w he rfl fun w' hw => (ev6 X b s ve en 5 (litF 6 n v) _ w' (h.no hw) (he.no hw) (fun i hi => hi) (litF_in (fun i => i ≠ b) w' 6 n v ⟨by decide, by decide⟩ hn hv) (fun i hi => hi) (by decide) rfl).mono fun e w'' ⟨h1, h2⟩ => ⟨by rw [h1]; rfl, h2⟩
theorem ev7l (X : Nat → Prop) (b : Nat) (s : Sch) (ve : Value) (en : Ent) (n : B) (w : World) (h : Tn X b s w) (he : EnIn (fun i => i ≠ b) w ve en) (hn : Sz n) :
    Calls Tryz.prog 22 #[.pointer (some ⟨b, 0, none⟩), ve, .agg (flV (litF 7 n []) (.slice none 0 0) (.slice none 0 0)).toArray] w fun e w' => e = .returned (.int .i64 (leaf s en (litF 7 n []))) ∧ Sx w' X b s ∧ Fr (fun k => k = b) w w' :=
  Eval_of X b s ve en _ _ w he rfl fun w' hw => (ev7 X b s ve en 5 (litF 7 n []) _ w' (h.no hw) (he.no hw) (fun i hi => hi) (litF_in (fun i => i ≠ b) w' 7 n [] ⟨by decide, by decide⟩ hn szNil) (fun i hi => hi) (by decide) rfl).mono fun e w'' ⟨h1, h2⟩ => ⟨by rw [h1]; rfl, h2⟩
attribute [irreducible] litF
set_option maxHeartbeats 32000000 in
theorem ownLaw {S S2 : Nat → Prop} (vt vc v : Value) (s : Sch) (en : Ent) (i j : Int) (w : World) (h : TysIn S w vt s.tys) (hy : ClsIn S2 w vc s.cls) (hG : Gm w) (he : EnIn (fun i => i < w.heap.size) w v en) (hi : I64 i) (hj : I64 j) :
    Calls Tryz.prog 9 #[.agg #[vt, vc], v, .int .i64 i, .int .i64 j] w fun e w' => e = .returned (.bool true) ∧ Fr No w w' := by
  obtain ⟨X, hXe⟩ : ∃ X : Nat → Prop, X = fun k => k < w.heap.size := ⟨_, rfl⟩
  have HX := hid hXe
  have HGX : Hid (GM X) := hid (by rw [hXe]; exact hG.gx)
  have HG := hid hG; have HT := hid h; have HC := hid hy; have HE := hid he; have HI := hid (show I64 i ∧ I64 j from ⟨hi, hj⟩)
  obtain ⟨va, vcp, rfl, hvc, hvl⟩ := he.form
  obtain ⟨n, hn⟩ : ∃ n, en.length = n := ⟨_, rfl⟩
  have HNN := hid hn
  rw [hn] at HE hvc hvl ⊢
  have hni : (n : Int) ≤ 140737488351232 := by omega
  clear h hy hG hXe he hi hj hn hvc hvl
  go_enter Tryz.func9, Tryz.ntmps9
  go_wp2_with (first
    | ((with_reducible refine K.atO (.box 25 _) ?_); refine wpL_box rfl _ _ rfl _ rfl [vt, vc] rfl ?_; intro w1 HB1 HF1 HS1; refine Hid.out ?_)
    | fail)
  obtain ⟨b0, hb0⟩ : ∃ b, w.heap.size = b := ⟨_, rfl⟩
  rw [hb0] at HB1 ⊢
  clear hb0 HS1
  refine hid ?_
  go_wp2_with fail
  refine (awake_any w1 (HG.out.no HF1.out)).mono ?_
  rintro e w4 ⟨rfl, f4⟩
  have HR4 : Hid (w4.rangeAt b0 0 [vt, vc]) := hid ((HB1.out.fr f4 id).range 0 _ rfl)
  have HF4 : Hid (Fr No w w4) := hid (HF1.out.trans' f4)
  have HT4 := hid (TysIn.fr (D := No) HT.out HF4.out (fun _ _ _ e => e)); have HC4 := hid (ClsIn.fr (D := No) HC.out HF4.out (fun _ _ _ e => e))
  clear f4 HB1 HF1 HT HC
  go_wp2_with (first
    | ((with_reducible refine K.atO (.load 25 _) ?_); refine wpL_valZ rfl (.agg #[vt, vc]) (exec_load _ _ rfl b0 0 rfl [vt, vc] _ rfl rfl infoSc3 w4 HR4.out) ?_)
    | fail)
  cases hok : okS s with
  | false =>
    refine (new_bad vt vc s w4 HT4.out HC4.out hok).mono ?_
    rintro e w5 ⟨rfl, f5⟩
    have HF5 := hid (HF4.out.trans' f5)
    clear f5 HT4 HC4 hok
    go_wp2_with fail
    go_ret
    exact ⟨rfl, HF5.out⟩
  | true =>
    refine (new_ok vt vc s w4 HT4.out HC4.out hok).mono ?_
    rintro e w5 ⟨q, rfl, hs, f5⟩
    have HF5 : Hid (Fr No w w5) := hid (HF4.out.trans' f5)
    have HTn : Hid (Tn X q s w5) := hid ⟨hs.less (fun k hk => by rw [HX.out] at hk; exact Nat.lt_of_lt_of_le hk HF4.out.size), fun k hk => by rw [HX.out] at hk; exact Nat.lt_of_lt_of_le hk HF5.out.size, HGX.out, HG.out.no HF5.out⟩
    have HQW : Hid (w.heap.size ≤ q) := hid (by have := HTn.out.1.nx; rw [HX.out] at this; omega)
    have HE5 : Hid (EnIn (fun i => i ≠ q) w5 (.slice va n vcp) en) := hid ((HE.out.no HF5.out).mono (fun i hi _ e => by have := HQW.out; omega))
    have HFQ : Hid (∀ u v : World, Fr No w u → Fr (fun i => i = q) u v → Fr No w v) := hid (fun _ _ f g => f.trans g (fun i e => .inr (by rw [e]; exact HQW.out)))
    have HOK := hid hok
    clear hs f5 HT4 HC4 hok HE HR4 HF4
    go_wp2_with fail
    refine (check_any X q s _ en w5 HTn.out.1 HTn.out.2.1 HTn.out.2.2.1.1 HTn.out.2.2.2.1 HE5.out (fun i hi => hi)).mono ?_
    rintro e w6 ⟨rfl, hs, f⟩
    have HT6 := hid (HTn.out.step hs f); have HF6 : Hid (Fr No w w6) := hid (HFQ.out _ _ HF5.out f)
    have HE6 := hid (HE5.out.fr f (fun i hi _ e => hi e))
    clear hs f HTn HF5 HE5
    by_cases hc : check s en = 0
    · have HC := hid hc
      rw [hc]
      clear hc
      by_cases hi0 : i < 0
      · clear hni
        go_wp2_with fail
        go_ret
        exact ⟨rfl, HF6.out⟩
      · by_cases hin : i < (n : Int)
        · obtain ⟨k, rfl⟩ : ∃ k : Nat, i = (k : Int) := ⟨i.toNat, by omega⟩
          have hkn : k < en.length := by rw [HNN.out]; omega
          obtain ⟨a, ha⟩ : ∃ a, en[k]? = some a := ⟨_, List.getElem?_eq_getElem hkn⟩
          obtain ⟨g, o, cq, cs, e1, hSg, hgl, hrr, hcl, hpp⟩ := HE6.out.get ha
          rw [HNN.out] at e1
          simp only [Value.slice.injEq, true_and] at e1
          obtain ⟨rfl, rfl⟩ := e1
          obtain ⟨u, rfl, hz, hls⟩ := hpp
          obtain ⟨ua, uc, rfl, huc, hul⟩ := hls.form
          obtain ⟨m, hm⟩ : ∃ m, a.2.length = m := ⟨_, rfl⟩
          have HLS := hid hls; have HZ := hid hz; have HA := hid ha; have HM := hid hm; have HSG := hid hSg
          rw [hm] at HLS huc hul hrr
          have hmi : (m : Int) ≤ 140737488351232 := by omega
          have c0 : w6.cell? ⟨g, o + k * 2, none⟩ = some (.string (sb a.1)) := hrr 0 _ rfl
          have c1 : w6.cell? ⟨g, o + k * 2 + 1, none⟩ = some (.slice ua m uc) := hrr 1 _ rfl
          clear hkn ha hSg hgl hrr hcl hz hls huc hul hm
          by_cases hj0 : j < 0
          · clear hmi
            go_wp2_with fail
            go_ret
            exact ⟨rfl, HF6.out⟩
          · by_cases hjm : j < (m : Int)
            · obtain ⟨k2, rfl⟩ : ∃ k2 : Nat, j = (k2 : Int) := ⟨j.toNat, by omega⟩
              have hkm : k2 < a.2.length := by rw [HM.out]; omega
              obtain ⟨x, hx⟩ : ∃ x, a.2[k2]? = some x := ⟨_, List.getElem?_eq_getElem hkm⟩
              obtain ⟨g2, o2, cq2, cs2, e2, -, -, hr2, -, ⟨rfl, hzx⟩⟩ := Sl.get HLS.out hx
              rw [HM.out] at e2
              simp only [Value.slice.injEq, true_and] at e2
              obtain ⟨rfl, rfl⟩ := e2
              have c2 : w6.cell? ⟨g2, o2 + k2, none⟩ = some (.string (sb x)) := by have := hr2 0 _ rfl; simpa using this
              have HZX := hid hzx
              obtain ⟨t, ht, L3, L5, L6, L7⟩ := own_ok HOK.out HC.out HA.out hx
              obtain ⟨ti, hti, hty⟩ := tyN_some ht
              have hto : tyOf s a.1 = t := by unfold tyOf; rw [hti, Option.bind_some, hty]; rfl
              have HTO := hid hto
              obtain ⟨r5, hr5⟩ : ∃ r5 : Int, (if 3 < t.syn then 2 else 1) = r5 := ⟨_, rfl⟩
              have HR5 := hid hr5
              rw [hr5] at L5 L6
              have HL3 := hid (show leaf s en (litF 3 a.1 x) = 1 by unfold litF; exact L3)
              have HL5 := hid (show leaf s en (litF 5 a.1 x) = r5 by unfold litF; exact L5)
              have HL6 := hid (show leaf s en (litF 6 a.1 x) = r5 by unfold litF; exact L6)
              have HL7 := hid (show leaf s en (litF 7 a.1 []) = 1 by unfold litF; exact L7)
              clear hkm hx hr2 hzx ht L3 L5 L6 L7 hti hty hto hr5
              go_wp2_with fail
              refine (type_any X q s a.1 w6 HT6.out.1 HT6.out.2.1 HZ.out).mono ?_
              rintro e w7 ⟨rfl, hs, f⟩
              rw [HTO.out]
              have HT7 := hid (HT6.out.step hs.sx f); have HF7 : Hid (Fr No w w7) := hid (HFQ.out _ _ HF6.out f)
              have HE7 := hid (HE6.out.fr f (fun i hi _ e => hi e))
              clear hs f HT6 HF6 HE6 c0 c1 c2 HLS HA HM
              go_wp2_with (first
                | ((with_reducible refine K.atO (.alloc 62) ?_); refine wpL_alloc rfl _ rfl _ zeroTy _ rfl ?_; intro y1 HY1 G1 T1)
                | ((with_reducible refine K.atO (.store 62 _ _) ?_); refine wpL_store rfl _ _ _ rfl w7.heap.size 0 (tyV t) rfl rfl 62 _ HY1.out (by simp [tyV]) infoTy (oneTy _) ?_; intro y2 HY2 G2 T2; refine Hid.out ?_)
                | fail)
              obtain ⟨r, hr⟩ : ∃ r, w7.heap.size = r := ⟨_, rfl⟩
              have HRQ : Hid (r ≠ q) := hid (by have := HT7.out.1.lt; omega)
              have HG2 : Hid (Fr No w7 y2) := hid (G1.out.trans G2.out (fun k e => .inr (by have e : k = w7.heap.size := e; omega)))
              rw [hr] at HY1 HY2 ⊢
              have HB2 : Hid (Blk y2 r 62 (tyV t)) := hid HY2.out
              have HT8 := hid (HT7.out.no HG2.out); have HF8 := hid (HF7.out.trans' HG2.out); have HE8 := hid (HE7.out.no HG2.out)
              clear hr HY1 G1 T1 HY2 G2 T2 HT7 HF7 HE7 HG2
              refine hid ?_
              go_wp2_with (first
                | ((with_reducible refine K.atO (.build 46 _) ?_); refine wpL_valZ rfl (.agg (flV (litF 3 a.1 x) (.slice none 0 0) (.slice none 0 0)).toArray) (exec_bld _ [(0, .const (.int .i64 3)), (2, .tmp 86), (3, .tmp 87)] rfl [(0, .int .i64 3), (2, .string (sb a.1)), (3, .string (sb x))] rfl _ _ (blit3 _ _ _ _)) ?_)
                | fail)
              refine (ev3l X q s _ en a.1 x y2 HT8.out HE8.out HZ.out HZX.out).mono ?_
              rintro e a1 ⟨rfl, hs, f⟩
              rw [HL3.out]
              have HTa := hid (HT8.out.step hs f); have HFa : Hid (Fr No w a1) := hid (HFQ.out _ _ HF8.out f)
              have HEa := hid (HE8.out.fr f (fun i hi _ e => hi e)); have HBa := hid (HB2.out.fr f HRQ.out)
              clear hs f HT8 HF8 HE8 HB2
              go_wp2_with (first
                | ((with_reducible refine K.atO (.build 46 _) ?_); refine wpL_valZ rfl (.agg (flV (litF 5 a.1 x) (.slice none 0 0) (.slice none 0 0)).toArray) (exec_bld _ [(0, .const (.int .i64 5)), (2, .tmp 92), (3, .tmp 93)] rfl [(0, .int .i64 5), (2, .string (sb a.1)), (3, .string (sb x))] rfl _ _ (blit3 _ _ _ _)) ?_)
                | fail)
              refine (ev5l X q s _ en a.1 x a1 HTa.out HEa.out HZ.out HZX.out).mono ?_
              rintro e a2 ⟨rfl, hs, f⟩
              rw [HL5.out]
              have HTb := hid (HTa.out.step hs f); have HFb : Hid (Fr No w a2) := hid (HFQ.out _ _ HFa.out f)
              have HEb := hid (HEa.out.fr f (fun i hi _ e => hi e)); have HBb := hid (HBa.out.fr f HRQ.out)
              clear hs f HTa HFa HEa HBa
              go_wp2_with (first
                | ((with_reducible refine K.atO (.build 46 _) ?_); refine wpL_valZ rfl (.agg (flV (litF 6 a.1 x) (.slice none 0 0) (.slice none 0 0)).toArray) (exec_bld _ [(0, .const (.int .i64 6)), (2, .tmp 98), (3, .tmp 99)] rfl [(0, .int .i64 6), (2, .string (sb a.1)), (3, .string (sb x))] rfl _ _ (blit3 _ _ _ _)) ?_)
                | fail)
              refine (ev6l X q s _ en a.1 x a2 HTb.out HEb.out HZ.out HZX.out).mono ?_
              rintro e a3 ⟨rfl, hs, f⟩
              rw [HL6.out]
              have HTc := hid (HTb.out.step hs f); have HFc : Hid (Fr No w a3) := hid (HFQ.out _ _ HFb.out f)
              have HEc := hid (HEb.out.fr f (fun i hi _ e => hi e)); have HBc := hid (HBb.out.fr f HRQ.out)
              clear hs f HTb HFb HEb HBb
              go_wp2_with (first
                | ((with_reducible refine K.atO (.build 46 _) ?_); refine wpL_valZ rfl (.agg (flV (litF 7 a.1 []) (.slice none 0 0) (.slice none 0 0)).toArray) (exec_bld _ [(0, .const (.int .i64 7)), (2, .tmp 104)] rfl [(0, .int .i64 7), (2, .string (sb a.1))] rfl _ _ (blit2 _ _ _)) ?_)
                | fail)
              refine (ev7l X q s _ en a.1 a3 HTc.out HEc.out HZ.out).mono ?_
              rintro e a4 ⟨rfl, hs, f⟩
              rw [HL7.out]
              have HFd : Hid (Fr No w a4) := hid (HFQ.out _ _ HFc.out f)
              have c5 : a4.cell? ⟨r, 1, none⟩ = some (.int .i64 t.syn) := (HBc.out.fr f HRQ.out).cell 1
              clear hs f HTc HFc HEc HBc HL3 HL5 HL6 HL7
              by_cases h3 : 3 < t.syn
              · obtain rfl : 2 = r5 := by rw [← HR5.out, if_pos h3]
                go_wp2_with fail
                go_ret
                exact ⟨rfl, HFd.out⟩
              · obtain rfl : 1 = r5 := by rw [← HR5.out, if_neg h3]
                go_wp2_with fail
                go_ret
                exact ⟨rfl, HFd.out⟩
            · go_wp2_with fail
              go_ret
              exact ⟨rfl, HF6.out⟩
        · go_wp2_with fail
          go_ret
          exact ⟨rfl, HF6.out⟩
    · have hc1 := beqN hc
      go_wp2_with fail
      go_ret
      exact ⟨rfl, HF6.out⟩
end Go.Proofs.YtdkkpfeiaaffhaaGreatDoor.FT
