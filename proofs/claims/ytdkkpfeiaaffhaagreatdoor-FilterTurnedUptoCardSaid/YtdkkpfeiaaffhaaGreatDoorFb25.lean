/-
  Part 25 of the proof: FtH, FtN, FtNo, FtTu.
-/
import Derived.Test.YtdkkpfeiaaffhaaGreatDoorFb20
import Derived.Test.YtdkkpfeiaaffhaaGreatDoorFb21
import Derived.Test.YtdkkpfeiaaffhaaGreatDoorFb24
set_option linter.unusedSimpArgs false
set_option linter.unusedVariables false
namespace Go.Proofs.YtdkkpfeiaaffhaaGreatDoor.FT
set_option maxRecDepth 100000
open Go.RowKit K Go.Proofs.YtdkkpfeiaaffhaaGreatDoor.BE Go.Proofs.YtdkkpfeiaaffhaaGreatDoor.DN Go.Proofs.YtdkkpfeiaaffhaaGreatDoor.SC

def sAl : B := [65, 108, 32, 66, 111]
def en2 : Ent := [(sOC, [sPerson]), (sCn, [sAl]), (sAge, [[55]])]
theorem en2_s : EnS en2 := by
  intro a ha v hv
  simp only [en2, List.mem_cons, List.not_mem_nil, or_false] at ha
  rcases ha with rfl | rfl | rfl <;> (rw [List.mem_singleton.1 hv]; unfold Sm; decide)
theorem sm_s {l : B} (h : l.length ≤ 100) : Sm l := by unfold Sm; omega
/-- A filter without kids and parts, as a literal. -/
theorem fl_lit (S : Nat → Prop) (w : World) (k : Int) (t v p q : B) (hk : I64 k) (ht : Sz t) (hv : Sz v) (hp : Sm p) (hq : Sm q) : FlC 1 S w (.mk k [] t v p [] q) (flV (.mk k [] t v p [] q) (.slice none 0 0) (.slice none 0 0)) :=
  ⟨_, _, rfl, hk, ht, hv, hp, hq, ⟨⟨none, 0, rfl, Nat.le_refl _, by simp [Fl.any], .inl rfl⟩, fun x hx => by simp [Fl.any] at hx, by simp [Fl.any]⟩, ⟨none, 0, rfl, Nat.le_refl _, by simp [Fl.kids], .inl rfl⟩⟩
/-- With parts. -/
theorem fl_any {S : Nat → Prop} {w : World} {va : Value} {l : List B} (h : LsIn S w va l) (hs : ∀ x ∈ l, Sm x) (hl : l.length ≤ 4294967000) (k : Int) (t v p q : B) (hk : I64 k) (ht : Sz t) (hv : Sz v) (hp : Sm p) (hq : Sm q) : FlC 1 S w (.mk k [] t v p l q) (flV (.mk k [] t v p l q) (.slice none 0 0) va) :=
  ⟨_, _, rfl, hk, ht, hv, hp, hq, ⟨h, hs, hl⟩, ⟨none, 0, rfl, Nat.le_refl _, by simp [Fl.kids], .inl rfl⟩⟩
/-- With kids. -/
theorem fl_kids {S : Nat → Prop} {M : Nat} {w : World} {vk : Value} {l : List Fl} (h : Sl 7 (FlC M S w) S w vk l) (k : Int) (hk : I64 k) : FlC (M + 1) S w (.mk k l [] [] [] [] []) (flV (.mk k l [] [] [] [] []) vk (.slice none 0 0)) :=
  ⟨_, _, rfl, hk, by unfold Sz Fl.type; simp, by unfold Sz Fl.value; simp, by unfold Sm Fl.first; simp, by unfold Sm Fl.last; simp, ⟨⟨none, 0, rfl, Nat.le_refl _, by simp [Fl.any], .inl rfl⟩, fun x hx => by simp [Fl.any] at hx, by simp [Fl.any]⟩, h⟩
/-- Kids in a block of their own. -/
theorem kids_blk {S : Nat → Prop} {M g : Nat} {w : World} {t : TypeId} (l : List Fl) (L : List (List Value)) (h : Blk w g t L.flatten) (hg : S g) (hL : L.length = l.length) (hp : ∀ (j : Nat) (x : Fl) (c : List Value), l[j]? = some x → L[j]? = some c → FlC M S w x c) (hl : l.length ≤ 100) : Sl 7 (FlC M S w) S w (.slice (some ⟨g, 0, none⟩) l.length l.length) l :=
  Sl.mono (blk_sl (k := 7) (p := FlC M S w) l L h hL (fun c hc => by
    obtain ⟨j, hj⟩ := List.mem_iff_getElem?.1 hc
    have hjl : j < l.length := by rw [← hL]; exact (List.getElem?_eq_some_iff.1 hj).1
    exact (hp j _ c (List.getElem?_eq_getElem hjl) hj).seven.1) hp (by omega)) (fun i hi _ => by have hi : i = g := hi; rw [hi]; exact hg) (fun _ _ _ h => h)
theorem infoFl3 : (Tryz.prog.info? 46).map (fun i => (i.zero, i.size, i.bytes)) = some (some (.agg (flV fl0 (.slice none 0 0) (.slice none 0 0)).toArray), 7, 120) := by kernel_rfl
def fx0 : Fl := .mk 3 [] sCn [97, 108, 32, 98, 111] [] [] []
theorem bfx0 (w : World) : (Instr.build 46 [(0, (.int .i64 3)), (2, (.string (sb sCn))), (3, (.string (sb [97, 108, 32, 98, 111])))].toArray).run Tryz.prog w = .ok (.agg (flV fx0 (.slice none 0 0) (.slice none 0 0)).toArray) w := by kernel_rfl
theorem rfx0 : evF ex2 en2 6 fx0 = 1 := by decide +kernel
def fx1 : Fl := .mk 3 [] sDc [120] [] [] []
theorem bfx1 (w : World) : (Instr.build 46 [(0, (.int .i64 3)), (2, (.string (sb sDc))), (3, (.string (sb [120])))].toArray).run Tryz.prog w = .ok (.agg (flV fx1 (.slice none 0 0) (.slice none 0 0)).toArray) w := by kernel_rfl
theorem rfx1 : evF ex2 en2 6 fx1 = 0 := by decide +kernel
def fx2 : Fl := .mk 7 [] [110, 111, 110, 101] [] [] [] []
theorem bfx2 (w : World) : (Instr.build 46 [(0, (.int .i64 7)), (2, (.string (sb [110, 111, 110, 101])))].toArray).run Tryz.prog w = .ok (.agg (flV fx2 (.slice none 0 0) (.slice none 0 0)).toArray) w := by kernel_rfl
theorem rfx2 : evF ex2 en2 6 fx2 = 2 := by decide +kernel
def fx3 : Fl := .mk 5 [] sAge [53] [] [] []
theorem bfx3 (w : World) : (Instr.build 46 [(0, (.int .i64 5)), (2, (.string (sb sAge))), (3, (.string (sb [53])))].toArray).run Tryz.prog w = .ok (.agg (flV fx3 (.slice none 0 0) (.slice none 0 0)).toArray) w := by kernel_rfl
theorem rfx3 : evF ex2 en2 6 fx3 = 1 := by decide +kernel
def fx4 : Fl := .mk 4 [] sCn [] [97, 108, 32] [] [111]
theorem bfx4 (w : World) : (Instr.build 46 [(0, (.int .i64 4)), (2, (.string (sb sCn))), (4, (.string (sb [97, 108, 32]))), (6, (.string (sb [111])))].toArray).run Tryz.prog w = .ok (.agg (flV fx4 (.slice none 0 0) (.slice none 0 0)).toArray) w := by kernel_rfl
theorem rfx4 : evF ex2 en2 6 fx4 = 1 := by decide +kernel
def fx5 : Fl := .mk 4 [] sCn [] [] [[108], [108]] []
theorem bfx5 (p : Nat) (w : World) : (Instr.build 46 [(0, .int .i64 4), (2, .string (sb sCn)), (5, .slice (some ⟨p, 0, none⟩) 2 2)].toArray).run Tryz.prog w = .ok (.agg (flV fx5 (.slice none 0 0) (.slice (some ⟨p, 0, none⟩) 2 2)).toArray) w := by kernel_rfl
theorem rfx5 : evF ex2 en2 6 fx5 = 0 := by decide +kernel
def fx6 : Fl := .mk 4 [] sCn [] [97] [[42]] []
theorem bfx6 (p : Nat) (w : World) : (Instr.build 46 [(0, .int .i64 4), (2, .string (sb sCn)), (4, .string (sb [97])), (5, .slice (some ⟨p, 0, none⟩) 1 1)].toArray).run Tryz.prog w = .ok (.agg (flV fx6 (.slice none 0 0) (.slice (some ⟨p, 0, none⟩) 1 1)).toArray) w := by kernel_rfl
def fx7 : Fl := .mk 2 [fx6] [] [] [] [] []
theorem bfx7 (p : Nat) (w : World) : (Instr.build 46 [(0, .int .i64 2), (1, .slice (some ⟨p, 0, none⟩) 1 1)].toArray).run Tryz.prog w = .ok (.agg (flV fx7 (.slice (some ⟨p, 0, none⟩) 1 1) (.slice none 0 0)).toArray) w := by kernel_rfl
def tx7 : B := [40, 33, 40, 99, 110, 61, 97, 42, 92, 50, 97, 42, 41, 41]
theorem rfx7 : prF 6 fx7 = tx7 := by decide +kernel
set_option maxHeartbeats 16000000 in
theorem awake_any (w : World) (hG : Gm w) : Calls Tryz.prog 21 #[] w fun e w' => e = .returned (.bool true) ∧ Fr No w w' := by
  obtain ⟨X, hXe⟩ : ∃ X : Nat → Prop, X = fun k => k < w.heap.size := ⟨_, rfl⟩
  have HX := hid hXe
  have HGX : Hid (GM X) := hid (by rw [hXe]; exact hG.gx)
  have HG := hid hG
  obtain ⟨is, his, hzs, hss, hbs⟩ := info_ex infoS3
  obtain ⟨ia, hia, hza, hsa, hba⟩ := info_ex infoAt3
  obtain ⟨fi, hfi, hzf, hsf, hbf⟩ := info_ex infoFl3
  have IS := hid his; have ZS := hid hzs; have SS := hid hss
  have IA := hid hia; have ZA := hid hza; have SA := hid hsa
  have IF := hid hfi; have ZF := hid hzf; have SF := hid hsf
  clear his hzs hss hbs hia hza hsa hba hfi hzf hsf hbf hXe hG
  go_enter Tryz.func21, Tryz.ntmps21
  go_wp2_with fail
  refine (example_any _).mono ?_
  rintro e w1 ⟨vt, vc, rfl, ht, hc, f1⟩
  have HT := hid ht; have HC := hid hc; have HF1 := hid f1
  clear ht hc f1
  go_wp2_with fail
  refine (new_ok vt vc ex2 w1 HT.out HC.out ex2_ok).mono ?_
  rintro e w2 ⟨b, rfl, hs, f2⟩
  have HF2 : Hid (Fr No w w2) := hid (HF1.out.trans' f2)
  have HS2 : Hid (Tn X b ex2 w2) := hid ⟨hs.less (fun k hk => by rw [HX.out] at hk; exact Nat.lt_of_lt_of_le hk HF1.out.size), fun k hk => by rw [HX.out] at hk; exact Nat.lt_of_lt_of_le hk HF2.out.size, HGX.out, HG.out.no HF2.out⟩
  have HBW : Hid (w.heap.size ≤ b) := hid (by have := HS2.out.1.nx; rw [HX.out] at this; omega)
  have HBL := hid hs.lt
  clear hs f2 HT HC HF1
  go_wp2_with (first
    | ((with_reducible refine K.atO (.buildSlice 38 _ _) ?_); refine wpL_buildAll rfl 38 60 [.tmp 23, .tmp 25, .tmp 27] rfl ia _ Tryz.underlying38 IA.out ZA.out (by rw [SA.out]; decide) (by rw [SA.out]; decide) (by decide) [.agg #[.string (sb sOC), .slice (some ⟨w2.heap.size, 0, none⟩) 1 1], .agg #[.string (sb sCn), .slice (some ⟨y1.heap.size, 0, none⟩) 1 1], .agg #[.string (sb sAge), .slice (some ⟨y2.heap.size, 0, none⟩) 1 1]] rfl (by intro v hv; rw [SA.out]; simp only [List.mem_cons, List.not_mem_nil, or_false] at hv; rcases hv with rfl | rfl | rfl <;> rfl) [.string (sb sOC), .slice (some ⟨w2.heap.size, 0, none⟩) 1 1, .string (sb sCn), .slice (some ⟨y1.heap.size, 0, none⟩) 1 1, .string (sb sAge), .slice (some ⟨y2.heap.size, 0, none⟩) 1 1] rfl ?_; intro y4 Hy4 Gy4 Ty4; simp only [Act.put, K.put3])
    | ((with_reducible refine K.atO (.build 60 _) ?_); (have := Hy3); refine wpL_valZ rfl (.agg #[.string (sb sAge), .slice (some ⟨y2.heap.size, 0, none⟩) 1 1]) (exec_bld _ [(0, .const (.string (sb sAge))), (1, .tmp 26)] rfl [(0, (.string (sb sAge))), (1, .slice (some ⟨y2.heap.size, 0, none⟩) 1 1)] rfl _ _ (bat _ _ _ _)) ?_; simp only [Act.put, K.put3])
    | ((with_reducible refine K.atO (.build 60 _) ?_); (have := Hy2); refine wpL_valZ rfl (.agg #[.string (sb sCn), .slice (some ⟨y1.heap.size, 0, none⟩) 1 1]) (exec_bld _ [(0, .const (.string (sb sCn))), (1, .tmp 24)] rfl [(0, (.string (sb sCn))), (1, .slice (some ⟨y1.heap.size, 0, none⟩) 1 1)] rfl _ _ (bat _ _ _ _)) ?_; simp only [Act.put, K.put3])
    | ((with_reducible refine K.atO (.build 60 _) ?_); refine wpL_valZ rfl (.agg #[.string (sb sOC), .slice (some ⟨w2.heap.size, 0, none⟩) 1 1]) (exec_bld _ [(0, .const (.string (sb sOC))), (1, .tmp 22)] rfl [(0, (.string (sb sOC))), (1, .slice (some ⟨w2.heap.size, 0, none⟩) 1 1)] rfl _ _ (bat _ _ _ _)) ?_; simp only [Act.put, K.put3])
    | ((with_reducible refine K.atO (.buildSlice 44 _ _) ?_); (have := Hy2); refine wpL_buildAll rfl 44 9 [.const (.string (sb [55]))] rfl is _ Tryz.underlying44 IS.out ZS.out (by rw [SS.out]; decide) (by rw [SS.out]; decide) (by decide) [.string (sb [55])] rfl (by intro v hv; rw [List.mem_singleton.1 hv, SS.out]; rfl) (strs [[55]]) rfl ?_; intro y3 Hy3 Gy3 Ty3; simp only [Act.put, K.put3])
    | ((with_reducible refine K.atO (.buildSlice 44 _ _) ?_); (have := Hy1); refine wpL_buildAll rfl 44 9 [.const (.string (sb sAl))] rfl is _ Tryz.underlying44 IS.out ZS.out (by rw [SS.out]; decide) (by rw [SS.out]; decide) (by decide) [.string (sb sAl)] rfl (by intro v hv; rw [List.mem_singleton.1 hv, SS.out]; rfl) (strs [sAl]) rfl ?_; intro y2 Hy2 Gy2 Ty2; simp only [Act.put, K.put3])
    | ((with_reducible refine K.atO (.buildSlice 44 _ _) ?_); refine wpL_buildAll rfl 44 9 [.const (.string (sb sPerson))] rfl is _ Tryz.underlying44 IS.out ZS.out (by rw [SS.out]; decide) (by rw [SS.out]; decide) (by decide) [.string (sb sPerson)] rfl (by intro v hv; rw [List.mem_singleton.1 hv, SS.out]; rfl) (strs [sPerson]) rfl ?_; intro y1 Hy1 Gy1 Ty1; simp only [Act.put, K.put3])
    | fail)
  have HE0 : Hid (EnIn (fun i => i ≠ b) y4 (.slice (some ⟨y3.heap.size, 0, none⟩) 3 3) en2) := by
    have t1 := Ty1.out; have t2 := Ty2.out; have t3 := Ty3.out; have t4 := Ty4.out; have hbl := HBL.out
    refine hid (en_blk en2 [(.slice (some ⟨w2.heap.size, 0, none⟩) 1 1), (.slice (some ⟨y1.heap.size, 0, none⟩) 1 1), (.slice (some ⟨y2.heap.size, 0, none⟩) 1 1)] Hy4.out rfl (fun j a v hj hv => ?_) (by omega) (by decide))
    match j, hj, hv with
    | 0, hj, hv => cases hj; cases hv; exact ⟨sz_s (by decide), ls_blk [sPerson] (((Hy1.out.fr Gy2.out id).fr Gy3.out id).fr Gy4.out id) (by omega) (by decide) (by intro x hx; rw [List.mem_singleton.1 hx]; exact sz_s (by decide))⟩
    | 1, hj, hv => cases hj; cases hv; exact ⟨sz_s (by decide), ls_blk [sAl] ((Hy2.out.fr Gy3.out id).fr Gy4.out id) (by omega) (by decide) (by intro x hx; rw [List.mem_singleton.1 hx]; exact sz_s (by decide))⟩
    | 2, hj, hv => cases hj; cases hv; exact ⟨sz_s (by decide), ls_blk [[55]] (Hy3.out.fr Gy4.out id) (by omega) (by decide) (by intro x hx; rw [List.mem_singleton.1 hx]; exact sz_s (by decide))⟩
    | q + 3, hj, _ => simp [en2] at hj
  have HFy : Hid (Fr No w2 y4) := hid (((Gy1.out.trans' Gy2.out).trans' Gy3.out).trans' Gy4.out)
  have HA0 : Hid (Fr No w y4) := hid (HF2.out.trans' HFy.out)
  have HS0 : Hid (Tn X b ex2 y4) := hid (HS2.out.no HFy.out)
  generalize y3.heap.size = ea at HE0 ⊢
  have HFBH : Hid (∀ u v : World, Fr No w u → Fr (fun i => i = b) u v → Fr No w v) := hid (fun _ _ f g => f.trans g (fun i e => .inr (by rw [e]; exact HBW.out)))
  clear Hy1 Gy1 Ty1 Hy2 Gy2 Ty2 Hy3 Gy3 Ty3 Hy4 Gy4 Ty4 HS2 HF2 HFy
  go_wp2_with (first
    | ((with_reducible refine K.atO (.build 46 _) ?_); refine wpL_valZ rfl (.agg (flV fx0 (.slice none 0 0) (.slice none 0 0)).toArray) (exec_bld _ [(0, .const (.int .i64 3)), (2, .const (.string (sb sCn))), (3, .const (.string (sb [97, 108, 32, 98, 111])))] rfl [(0, (.int .i64 3)), (2, (.string (sb sCn))), (3, (.string (sb [97, 108, 32, 98, 111])))] rfl _ _ (bfx0 _)) ?_; simp only [Act.put, K.put3])
    | fail)
  refine (Eval_any X b ex2 _ en2 fx0 _ y4 HS0.out HE0.out (fl_lit (fun i => i ≠ b) y4 3 sCn [97, 108, 32, 98, 111] [] [] ⟨by decide, by decide⟩ (sz_s (by decide)) (sz_s (by decide)) (sm_s (by decide)) (sm_s (by decide))) (fun i hi => hi) (fun i hi => hi) en2_s).mono ?_
  rintro e a1 ⟨rfl, hs, f⟩
  rw [rfx0]
  have HS1 := hid (HS0.out.step hs f); have HA1 : Hid (Fr No w a1) := hid (HFBH.out _ _ HA0.out f); have HE1 := hid (HE0.out.fr f (fun i hi _ e => hi e))
  clear hs f HS0 HA0 HE0
  go_wp2_with (first
    | ((with_reducible refine K.atO (.build 46 _) ?_); refine wpL_valZ rfl (.agg (flV fx1 (.slice none 0 0) (.slice none 0 0)).toArray) (exec_bld _ [(0, .const (.int .i64 3)), (2, .const (.string (sb sDc))), (3, .const (.string (sb [120])))] rfl [(0, (.int .i64 3)), (2, (.string (sb sDc))), (3, (.string (sb [120])))] rfl _ _ (bfx1 _)) ?_; simp only [Act.put, K.put3])
    | fail)
  refine (Eval_any X b ex2 _ en2 fx1 _ a1 HS1.out HE1.out (fl_lit (fun i => i ≠ b) a1 3 sDc [120] [] [] ⟨by decide, by decide⟩ (sz_s (by decide)) (sz_s (by decide)) (sm_s (by decide)) (sm_s (by decide))) (fun i hi => hi) (fun i hi => hi) en2_s).mono ?_
  rintro e a2 ⟨rfl, hs, f⟩
  rw [rfx1]
  have HS2 := hid (HS1.out.step hs f); have HA2 : Hid (Fr No w a2) := hid (HFBH.out _ _ HA1.out f); have HE2 := hid (HE1.out.fr f (fun i hi _ e => hi e))
  clear hs f HS1 HA1 HE1
  go_wp2_with (first
    | ((with_reducible refine K.atO (.build 46 _) ?_); refine wpL_valZ rfl (.agg (flV fx2 (.slice none 0 0) (.slice none 0 0)).toArray) (exec_bld _ [(0, .const (.int .i64 7)), (2, .const (.string (sb [110, 111, 110, 101])))] rfl [(0, (.int .i64 7)), (2, (.string (sb [110, 111, 110, 101])))] rfl _ _ (bfx2 _)) ?_; simp only [Act.put, K.put3])
    | fail)
  refine (Eval_any X b ex2 _ en2 fx2 _ a2 HS2.out HE2.out (fl_lit (fun i => i ≠ b) a2 7 [110, 111, 110, 101] [] [] [] ⟨by decide, by decide⟩ (sz_s (by decide)) (sz_s (by decide)) (sm_s (by decide)) (sm_s (by decide))) (fun i hi => hi) (fun i hi => hi) en2_s).mono ?_
  rintro e a3 ⟨rfl, hs, f⟩
  rw [rfx2]
  have HS3 := hid (HS2.out.step hs f); have HA3 : Hid (Fr No w a3) := hid (HFBH.out _ _ HA2.out f); have HE3 := hid (HE2.out.fr f (fun i hi _ e => hi e))
  clear hs f HS2 HA2 HE2
  go_wp2_with (first
    | ((with_reducible refine K.atO (.build 46 _) ?_); refine wpL_valZ rfl (.agg (flV fx3 (.slice none 0 0) (.slice none 0 0)).toArray) (exec_bld _ [(0, .const (.int .i64 5)), (2, .const (.string (sb sAge))), (3, .const (.string (sb [53])))] rfl [(0, (.int .i64 5)), (2, (.string (sb sAge))), (3, (.string (sb [53])))] rfl _ _ (bfx3 _)) ?_; simp only [Act.put, K.put3])
    | fail)
  refine (Eval_any X b ex2 _ en2 fx3 _ a3 HS3.out HE3.out (fl_lit (fun i => i ≠ b) a3 5 sAge [53] [] [] ⟨by decide, by decide⟩ (sz_s (by decide)) (sz_s (by decide)) (sm_s (by decide)) (sm_s (by decide))) (fun i hi => hi) (fun i hi => hi) en2_s).mono ?_
  rintro e a4 ⟨rfl, hs, f⟩
  rw [rfx3]
  have HS4 := hid (HS3.out.step hs f); have HA4 : Hid (Fr No w a4) := hid (HFBH.out _ _ HA3.out f); have HE4 := hid (HE3.out.fr f (fun i hi _ e => hi e))
  clear hs f HS3 HA3 HE3
  go_wp2_with (first
    | ((with_reducible refine K.atO (.build 46 _) ?_); refine wpL_valZ rfl (.agg (flV fx4 (.slice none 0 0) (.slice none 0 0)).toArray) (exec_bld _ [(0, .const (.int .i64 4)), (2, .const (.string (sb sCn))), (4, .const (.string (sb [97, 108, 32]))), (6, .const (.string (sb [111])))] rfl [(0, (.int .i64 4)), (2, (.string (sb sCn))), (4, (.string (sb [97, 108, 32]))), (6, (.string (sb [111])))] rfl _ _ (bfx4 _)) ?_; simp only [Act.put, K.put3])
    | fail)
  refine (Eval_any X b ex2 _ en2 fx4 _ a4 HS4.out HE4.out (fl_lit (fun i => i ≠ b) a4 4 sCn [] [97, 108, 32] [111] ⟨by decide, by decide⟩ (sz_s (by decide)) (sz_s (by decide)) (sm_s (by decide)) (sm_s (by decide))) (fun i hi => hi) (fun i hi => hi) en2_s).mono ?_
  rintro e a5 ⟨rfl, hs, f⟩
  rw [rfx4]
  have HS5 := hid (HS4.out.step hs f); have HA5 : Hid (Fr No w a5) := hid (HFBH.out _ _ HA4.out f); have HE5 := hid (HE4.out.fr f (fun i hi _ e => hi e))
  clear hs f HS4 HA4 HE4
  go_wp2_with (first
    | ((with_reducible refine K.atO (.buildSlice 44 _ _) ?_); refine wpL_buildAll rfl 44 9 [.const (.string (sb [108])), .const (.string (sb [108]))] rfl is _ Tryz.underlying44 IS.out ZS.out (by rw [SS.out]; decide) (by rw [SS.out]; decide) (by decide) [.string (sb [108]), .string (sb [108])] rfl (by intro v hv; rw [SS.out]; simp only [List.mem_cons, List.not_mem_nil, or_false] at hv; rcases hv with rfl | rfl <;> rfl) (strs [[108], [108]]) rfl ?_; intro z1 Hz1 Gz1 Tz1; simp only [Act.put, K.put3])
    | ((with_reducible refine K.atO (.build 46 _) ?_); refine wpL_valZ rfl (.agg (flV fx5 (.slice none 0 0) (.slice (some ⟨a5.heap.size, 0, none⟩) 2 2)).toArray) (exec_bld _ [(0, .const (.int .i64 4)), (2, .const (.string (sb sCn))), (5, .tmp 51)] rfl [(0, .int .i64 4), (2, .string (sb sCn)), (5, .slice (some ⟨a5.heap.size, 0, none⟩) 2 2)] rfl _ _ (bfx5 _ _)) ?_; simp only [Act.put, K.put3])
    | fail)
  have HL6 : Hid (LsIn (fun i => i ≠ b) z1 (.slice (some ⟨a5.heap.size, 0, none⟩) 2 2) [[108], [108]]) := hid (ls_blk [[108], [108]] Hz1.out (by have := HS5.out.lt; omega) (by decide) (by intro x hx; simp only [List.mem_cons, List.not_mem_nil, or_false] at hx; rcases hx with rfl | rfl <;> exact sz_s (by decide)))
  refine (Eval_any X b ex2 _ en2 fx5 _ z1 (HS5.out.no Gz1.out) (HE5.out.no Gz1.out) (fl_any HL6.out (by intro x hx; simp only [List.mem_cons, List.not_mem_nil, or_false] at hx; rcases hx with rfl | rfl <;> exact sm_s (by decide)) (by decide) 4 sCn [] [] [] ⟨by decide, by decide⟩ (sz_s (by decide)) (sz_s (by decide)) (sm_s (by decide)) (sm_s (by decide))) (fun i hi => hi) (fun i hi => hi) en2_s).mono ?_
  rintro e a6 ⟨rfl, hs, f⟩
  rw [rfx5]
  have HA6 : Hid (Fr No w a6) := hid (HFBH.out _ _ (HA5.out.trans' Gz1.out) f)
  clear hs f HS5 HA5 HE5 HL6 Hz1 Gz1 Tz1
  go_wp2_with (first
    | ((with_reducible refine K.atO (.buildSlice 44 _ _) ?_); refine wpL_buildAll rfl 44 9 [.const (.string (sb [42]))] rfl is _ Tryz.underlying44 IS.out ZS.out (by rw [SS.out]; decide) (by rw [SS.out]; decide) (by decide) [.string (sb [42])] rfl (by intro v hv; rw [List.mem_singleton.1 hv, SS.out]; rfl) (strs [[42]]) rfl ?_; intro z1 Hz1 Gz1 Tz1; simp only [Act.put, K.put3])
    | ((with_reducible refine K.atO (.build 46 _) ?_); (have := Hz2); refine wpL_valZ rfl (.agg (flV fx7 (.slice (some ⟨z1.heap.size, 0, none⟩) 1 1) (.slice none 0 0)).toArray) (exec_bld _ [(0, .const (.int .i64 2)), (1, .tmp 56)] rfl [(0, .int .i64 2), (1, .slice (some ⟨z1.heap.size, 0, none⟩) 1 1)] rfl _ _ (bfx7 _ _)) ?_; simp only [Act.put, K.put3])
    | ((with_reducible refine K.atO (.build 46 _) ?_); refine wpL_valZ rfl (.agg (flV fx6 (.slice none 0 0) (.slice (some ⟨a6.heap.size, 0, none⟩) 1 1)).toArray) (exec_bld _ [(0, .const (.int .i64 4)), (2, .const (.string (sb sCn))), (4, .const (.string (sb [97]))), (5, .tmp 54)] rfl [(0, .int .i64 4), (2, .string (sb sCn)), (4, .string (sb [97])), (5, .slice (some ⟨a6.heap.size, 0, none⟩) 1 1)] rfl _ _ (bfx6 _ _)) ?_; simp only [Act.put, K.put3])
    | ((with_reducible refine K.atO (.buildSlice 43 _ _) ?_); refine wpL_buildAll rfl 43 46 [.tmp 55] rfl fi _ Tryz.underlying43 IF.out ZF.out (by rw [SF.out]; decide) (by rw [SF.out]; decide) (by decide) [.agg (flV fx6 (.slice none 0 0) (.slice (some ⟨a6.heap.size, 0, none⟩) 1 1)).toArray] rfl (by intro v hv; rw [SF.out]; rw [List.mem_singleton.1 hv]; rfl) ([flV fx6 (.slice none 0 0) (.slice (some ⟨a6.heap.size, 0, none⟩) 1 1)] : List (List Value)).flatten (by simp [Value.cells]) ?_; intro z2 Hz2 Gz2 Tz2; simp only [Act.put, K.put3])
    | fail)
  have HL7 : Hid (FlC 2 (fun _ => True) z2 fx7 (flV fx7 (.slice (some ⟨z1.heap.size, 0, none⟩) 1 1) (.slice none 0 0))) := by
    have h1 : LsIn (fun _ => True) z2 (.slice (some ⟨a6.heap.size, 0, none⟩) 1 1) [[42]] := LsIn.mono (blk_ls [[42]] (Hz1.out.fr Gz2.out id) (by decide) (by intro x hx; rw [List.mem_singleton.1 hx]; exact sz_s (by decide))) (fun _ _ _ => trivial)
    have h2 : FlC 1 (fun _ => True) z2 fx6 (flV fx6 (.slice none 0 0) (.slice (some ⟨a6.heap.size, 0, none⟩) 1 1)) := fl_any h1 (by intro x hx; rw [List.mem_singleton.1 hx]; exact sm_s (by decide)) (by decide) 4 sCn [] [97] [] ⟨by decide, by decide⟩ (sz_s (by decide)) (sz_s (by decide)) (sm_s (by decide)) (sm_s (by decide))
    exact hid (fl_kids (kids_blk [fx6] [flV fx6 (.slice none 0 0) (.slice (some ⟨a6.heap.size, 0, none⟩) 1 1)] Hz2.out trivial rfl (fun j x c hx hc => by
      match j, hx, hc with
      | 0, hx, hc => cases hx; cases hc; exact h2
      | n + 1, hx, _ => simp at hx) (by decide)) 2 ⟨by decide, by decide⟩)
  have HA8 : Hid (Fr No w z2) := hid ((HA6.out.trans' Gz1.out).trans' Gz2.out)
  refine (Print_any fx7 _ z2 HL7.out (by rw [rfx7]; decide)).mono ?_
  rintro e a9 ⟨rfl, f⟩
  rw [rfx7]
  have HA9 := hid (HA8.out.trans' f)
  clear f HL7 HA8 HA6 Hz1 Gz1 Tz1 Hz2 Gz2 Tz2
  go_wp2_with (first
    | ((with_reducible refine K.atO (.binOp .eql 9 _ _ _) ?_); refine wpL_valZ rfl (.bool true) ((exec_eqS _ _ _ rfl tx7 tx7 rfl rfl _).trans (by simp)) ?_)
    | fail)
  go_ret
  exact ⟨rfl, HA9.out⟩
end Go.Proofs.YtdkkpfeiaaffhaaGreatDoor.FT

namespace Go.Proofs.YtdkkpfeiaaffhaaGreatDoor.FT
set_option maxRecDepth 100000
open Go.RowKit K Go.Proofs.YtdkkpfeiaaffhaaGreatDoor.BE Go.Proofs.YtdkkpfeiaaffhaaGreatDoor.DN Go.Proofs.YtdkkpfeiaaffhaaGreatDoor.SC

theorem _root_.Go.Proofs.YtdkkpfeiaaffhaaGreatDoor.SC.EnIn.bb {q : Nat} {w w' : World} {v : Value} {en : Ent} (h : EnIn (fun i => i ≠ q) w v en) (hf : Fr (fun k => k = q) w w') : EnIn (fun i => i ≠ q) w' v en := h.fr hf fun _ hi _ e => hi e
theorem FlC.bb {q M : Nat} {w w' : World} {f : Fl} {cs : List Value} (h : FlC M (fun i => i ≠ q) w f cs) (hf : Fr (fun k => k = q) w w') : FlC M (fun i => i ≠ q) w' f cs := h.fr hf fun _ hi _ e => hi e
end Go.Proofs.YtdkkpfeiaaffhaaGreatDoor.FT

namespace Go.Proofs.YtdkkpfeiaaffhaaGreatDoor.FT
set_option maxRecDepth 100000
open Go.RowKit K Go.Proofs.YtdkkpfeiaaffhaaGreatDoor.BE Go.Proofs.YtdkkpfeiaaffhaaGreatDoor.DN Go.Proofs.YtdkkpfeiaaffhaaGreatDoor.SC

theorem infoSc2 : (Tryz.prog.info? 25).map (·.size) = some 2 := by kernel_rfl
/-- What the law holds: the schema, the entry, two filters and where they lie. -/
def Two (X : Nat → Prop) (q : Nat) (s : Sch) (v : Value) (en : Ent) (M1 M2 : Nat) (f g : Fl) (cf cg : List Value) (bf bg : Nat) (w : World) : Prop :=
  Tn X q s w ∧ EnIn (fun i => i ≠ q) w v en ∧ FlC M1 (fun i => i ≠ q) w f cf ∧ FlC M2 (fun i => i ≠ q) w g cg ∧ w.rangeAt bf 0 cf ∧ w.rangeAt bg 0 cg ∧ bf ≠ q ∧ bg ≠ q
section
variable {X : Nat → Prop} {q : Nat} {s : Sch} {v : Value} {en : Ent} {M1 M2 : Nat} {f g : Fl} {cf cg : List Value} {bf bg : Nat} {w w' : World}
theorem Two.no (h : Two X q s v en M1 M2 f g cf cg bf bg w) (hf : Fr No w w') : Two X q s v en M1 M2 f g cf cg bf bg w' := by
  obtain ⟨h1, h2, h3, h4, h5, h6, h7, h8⟩ := h
  exact ⟨h1.no hf, h2.no hf, h3.no hf, h4.no hf, hf.range h5 id, hf.range h6 id, h7, h8⟩
theorem Two.step (h : Two X q s v en M1 M2 f g cf cg bf bg w) (hs : Sx w' X q s) (hf : Fr (fun k => k = q) w w') : Two X q s v en M1 M2 f g cf cg bf bg w' := by
  obtain ⟨h1, h2, h3, h4, h5, h6, h7, h8⟩ := h
  exact ⟨h1.step hs hf, h2.bb hf, h3.bb hf, h4.bb hf, hf.range h5 h7, hf.range h6 h8, h7, h8⟩
end
/-- A filter with kids alone. -/
def kidF (k : Int) (l : List Fl) : Fl := .mk k l [] [] [] [] []
def kidV (k : Int) (g n : Nat) : List Value := flV (kidF k []) (.slice (some ⟨g, 0, none⟩) n n) (.slice none 0 0)
attribute [irreducible] kidV
end Go.Proofs.YtdkkpfeiaaffhaaGreatDoor.FT

namespace Go.Proofs.YtdkkpfeiaaffhaaGreatDoor.FT
set_option maxRecDepth 100000
open Go.RowKit K Go.Proofs.YtdkkpfeiaaffhaaGreatDoor.BE Go.Proofs.YtdkkpfeiaaffhaaGreatDoor.DN Go.Proofs.YtdkkpfeiaaffhaaGreatDoor.SC

/-- A row of filters that a law makes. -/
def RwF (M : Nat) (S : Nat → Prop) (base : Nat) (w : World) (va : Option Addr) (vcp : Nat) (xs : List Fl) (L : List (List Value)) : Prop :=
  L.length = xs.length ∧ (∀ c ∈ L, c.length = 7) ∧ (∀ (j : Nat) (a : Fl) (c : List Value), xs[j]? = some a → L[j]? = some c → FlC M S w a c) ∧ w.ownsRow base 46 7 (.slice va xs.length vcp) xs.length L.flatten
section
variable {M : Nat} {S D : Nat → Prop} {base : Nat} {w w' : World} {va a5 : Option Addr} {vcp c5 : Nat} {xs : List Fl} {L : List (List Value)}
theorem RwF.nil : RwF M S base w none 0 [] [] := ⟨rfl, (fun _ h => by cases h), (fun _ _ _ h => by cases h), ⟨rfl, .inl ⟨rfl, rfl⟩⟩⟩
theorem RwF.fr (h : RwF M S base w va vcp xs L) (hf : Fr D w w') (hd : ∀ i, S i → i < w.heap.size → ¬ D i) (hb : ∀ i, base ≤ i → i < w.heap.size → ¬ D i) : RwF M S base w' va vcp xs L :=
  ⟨h.1, h.2.1, fun j a c hx hc => (h.2.2.1 j a c hx hc).fr hf hd, own_fr h.2.2.2 hf fun k e => hb k (own_ge h.2.2.2 k e).1 (own_ge h.2.2.2 k e).2⟩
theorem RwF.push {a : Fl} {c : List Value} (h : RwF M S base w va vcp xs L) (hf : Fr (fun k => base ≤ k) w w') (hS : ∀ i, S i → i < base) (hc : FlC M S w a c) (hO : w'.ownsRow base 46 7 (.slice a5 (xs.length + 1) c5) (xs.length + 1) (L.flatten ++ c)) : RwF M S base w' a5 c5 (xs ++ [a]) (L ++ [c]) := by
  have hlen : (xs ++ [a]).length = xs.length + 1 := by simp
  refine ⟨by rw [List.length_append, hlen, h.1]; rfl, ?_, ?_, by rw [hlen, List.flatten_append, List.flatten_singleton]; exact hO⟩
  · intro x hx
    rcases List.mem_append.1 hx with hx | hx
    · exact h.2.1 x hx
    · rw [List.mem_singleton.1 hx]
      exact hc.seven.1
  · intro j x y hx hy
    have hno : ∀ i, S i → i < w.heap.size → ¬ base ≤ i := fun i hi _ => by have := hS i hi; omega
    by_cases hj : j < xs.length
    · rw [List.getElem?_append_left hj] at hx
      rw [List.getElem?_append_left (by rw [h.1]; exact hj)] at hy
      exact (h.2.2.1 j x y hx hy).fr hf hno
    · rw [List.getElem?_append_right (by omega)] at hx
      rw [List.getElem?_append_right (by rw [h.1]; omega), h.1] at hy
      obtain ⟨k, hk⟩ : ∃ k, j - xs.length = k := ⟨_, rfl⟩
      rw [hk] at hx hy
      cases k with
      | zero => cases hx; cases hy; exact hc.fr hf hno
      | succ k => simp at hx
/-- What a row holds are kids. -/
theorem own_kids {q n : Nat} {v : Value} {cells : List Value} (h : w.ownsRow base 46 7 v n cells) (L : List (List Value)) (hL : L.flatten = cells) (hn : xs.length = n) (hLx : L.length = n) (hk : ∀ c ∈ L, c.length = 7) (hp : ∀ (j : Nat) (x : Fl) (c : List Value), xs[j]? = some x → L[j]? = some c → FlC M (fun i => i ≠ q) w x c) (hb : n ≤ 1048576 * 2) (hq : q < base) :
    Sl 7 (FlC M (fun i => i ≠ q) w) (fun i => i ≠ q) w v xs :=
  own_sl_S h L hL hn hLx hk hp (by omega) (fun g hg => by have := (own_ge h g hg).1; omega)
end
theorem bkidA (k : Int) (a : Option Addr) (n c : Nat) (w : World) : (Instr.build 46 [(0, .int .i64 k), (1, .slice a n c)].toArray).run Tryz.prog w = .ok (.agg (flV (kidF k []) (.slice a n c) (.slice none 0 0)).toArray) w := by kernel_rfl
theorem evF_kids (s : Sch) (en : Ent) (l : List Fl) : evF s en 6 (kidF 0 l) = joinE 0 1 (l.map (evF s en 5)) ∧ evF s en 6 (kidF 1 l) = joinE 1 0 (l.map (evF s en 5)) := by
  constructor <;> simp [evF, kidF, Fl.kind, Fl.kids]
theorem turned_ok (s : Sch) (en : Ent) (l : List Fl) (k : Int) (hk : k = 0 ∨ k = 1) : evF s en 6 (kidF k l.reverse) = evF s en 6 (kidF k l) ∧ evF s en 6 (kidF k (l ++ l)) = evF s en 6 (kidF k l) := by
  rcases hk with rfl | rfl
  · rw [(evF_kids s en _).1, (evF_kids s en _).1, (evF_kids s en _).1, List.map_reverse, List.map_append]
    exact ⟨joinE_back 0 1 (by decide) _, joinE_twice 0 1 (by decide) _⟩
  · rw [(evF_kids s en _).2, (evF_kids s en _).2, (evF_kids s en _).2, List.map_reverse, List.map_append]
    exact ⟨joinE_back 1 0 (by decide) _, joinE_twice 1 0 (by decide) _⟩
theorem rev_take {α : Type} {en : List α} {k : Nat} {x : α} (h : en[k]? = some x) : (en.drop k).reverse = (en.drop (k + 1)).reverse ++ [x] := by
  rw [(drop_at h).1, List.reverse_cons]
set_option maxHeartbeats 64000000 in
theorem turnedLaw {S S2 : Nat → Prop} {M : Nat} (vt vc v v2 : Value) (s : Sch) (en : Ent) (ks : List Fl) (bo : Bool) (w : World) (h : TysIn S w vt s.tys) (hy : ClsIn S2 w vc s.cls) (hG : Gm w) (he : EnIn (fun i => i < w.heap.size) w v en) (hE : EnS en) (hk : Sl 7 (FlC M (fun i => i < w.heap.size) w) (fun i => i < w.heap.size) w v2 ks) (hl : ks.length ≤ 1048576) :
    Calls Tryz.prog 8 #[.agg #[vt, vc], v, v2, .bool bo] w fun e w' => e = .returned (.bool true) ∧ Fr No w w' := by
  obtain ⟨X, hXe⟩ : ∃ X : Nat → Prop, X = fun k => k < w.heap.size := ⟨_, rfl⟩
  have HX := hid hXe
  have HGX : Hid (GM X) := hid (by rw [hXe]; exact hG.gx)
  have HG := hid hG; have HT := hid h; have HC := hid hy; have HE := hid he; have HES := hid hE; have HK := hid hk
  obtain ⟨fi, hfi, hzf, hsf, hbf⟩ := info_ex infoFl3
  have IF := hid hfi; have ZF := hid hzf; have SF := hid hsf; have BF := hid hbf
  obtain ⟨va, vcp, rfl, -, -⟩ := he.form
  obtain ⟨ka, kc, rfl, -, -⟩ := hk.form
  obtain ⟨n, hn⟩ : ∃ n, ks.length = n := ⟨_, rfl⟩
  rw [hn] at HK hl ⊢
  have HN := hid hn
  have HLE := hid hl
  have hni : (n : Int) ≤ 1048576 := by omega
  clear h hy hG hXe he hE hk hfi hzf hsf hbf hn
  go_enter Tryz.func8, Tryz.ntmps8
  go_wp2_with (first
    | ((with_reducible refine K.atO (.box 25 _) ?_); refine wpL_box rfl _ _ rfl _ rfl [vt, vc] rfl ?_; intro w1 HB1 HF1 HS1; refine Hid.out ?_)
    | fail)
  obtain ⟨b0, hb0⟩ : ∃ b, w.heap.size = b := ⟨_, rfl⟩
  rw [hb0] at HB1 ⊢
  clear hb0 HS1
  refine hid ?_
  go_wp2_with fail
  refine (awake_any w1 (HG.out.no HF1.out)).mono ?_
  rintro e w4 ⟨rfl, f4⟩
  have HR4 : Hid (w4.rangeAt b0 0 [vt, vc]) := hid ((HB1.out.fr f4 id).range 0 _ rfl)
  have HF4 : Hid (Fr No w w4) := hid (HF1.out.trans' f4)
  have HT4 := hid (TysIn.fr (D := No) HT.out HF4.out (fun _ _ _ e => e)); have HC4 := hid (ClsIn.fr (D := No) HC.out HF4.out (fun _ _ _ e => e))
  clear f4 HB1 HT HC HF1
  go_wp2_with (first
    | ((with_reducible refine K.atO (.load 25 _) ?_); refine wpL_valZ rfl (.agg #[vt, vc]) (exec_load _ _ rfl b0 0 rfl [vt, vc] _ rfl rfl infoSc2 w4 HR4.out) ?_)
    | fail)
  cases hok : okS s with
  | false =>
    refine (new_bad vt vc s w4 HT4.out HC4.out hok).mono ?_
    rintro e w5 ⟨rfl, f5⟩
    have HF5 := hid (HF4.out.trans' f5)
    clear f5 HT4 HC4 hok
    go_wp2_with fail
    go_ret
    exact ⟨rfl, HF5.out⟩
  | true =>
    refine (new_ok vt vc s w4 HT4.out HC4.out hok).mono ?_
    rintro e w5 ⟨q, rfl, hs, f5⟩
    have HF5 : Hid (Fr No w w5) := hid (HF4.out.trans' f5)
    have HTN : Hid (Tn X q s w5) := hid ⟨hs.less (fun k hk => by rw [HX.out] at hk; exact Nat.lt_of_lt_of_le hk HF4.out.size), fun k hk => by rw [HX.out] at hk; exact Nat.lt_of_lt_of_le hk HF5.out.size, HGX.out, HG.out.no HF5.out⟩
    have HQW : Hid (w.heap.size ≤ q) := hid (by have := HTN.out.1.nx; rw [HX.out] at this; omega)
    have HEN : Hid (EnIn (fun i => i ≠ q) w5 (.slice va en.length vcp) en) := hid ((HE.out.no HF5.out).mono (fun i hi _ e => by have := HQW.out; omega))
    have HKD : Hid (Sl 7 (FlC M (fun i => i < w.heap.size) w5) (fun i => i < w.heap.size) w5 (.slice ka n kc) ks) := hid (HK.out.fr HF5.out (fun _ _ _ e => e) (fun x c _ h => h.no HF5.out))
    have HFQ : Hid (∀ u v : World, Fr No w u → Fr (fun i => i = q) u v → Fr No w v) := hid (fun _ _ f g => f.trans g (fun i e => .inr (by rw [e]; exact HQW.out)))
    obtain ⟨base, hbase⟩ : ∃ b, w5.heap.size = b := ⟨_, rfl⟩
    have HBASE := hid hbase
    have HQB : Hid (q < base ∧ w.heap.size ≤ base) := hid (by rw [← hbase]; exact ⟨HTN.out.lt, HF5.out.size⟩)
    clear hs f5 HT4 HC4 hok HE HK HR4 HF4 hbase
    cases bo
    · go_wp2_with fail
      go_loopw [13, 14] (fun sv iv wr => ∃ (j : Nat) (va : Option Addr) (vcp : Nat) (L : List (List Value)), iv = .int .i64 ((j : Int) - 1) ∧ sv = .slice va (n - j) vcp ∧ j ≤ n ∧ Hid (RwF M (fun i => i < w.heap.size) base wr va vcp (ks.drop j).reverse L ∧ Fr No w5 wr ∧ (ks.drop j).reverse.length = n - j)) (fun _ iv _ => (intOf iv + 1).toNat)
      case atStart => exact ⟨n, none, 0, [], rfl, by rw [Nat.sub_self], Nat.le_refl _, hid (by rw [← HN.out, List.drop_length]; exact ⟨RwF.nil, Fr.refl _ _, by simp⟩)⟩
      case round =>
        obtain ⟨j, ba, bc, L, rfl, rfl, hj, HI⟩ := hrel
        cases j with
        | succ k =>
          obtain ⟨x, hx⟩ : ∃ x, ks[k]? = some x := ⟨_, List.getElem?_eq_getElem (by rw [HN.out]; omega)⟩
          have ek : (((k + 1 : Nat) : Int) - 1) = (k : Int) := by omega
          rw [ek]
          have hlti : (k : Int) < n := by omega
          have hi0 : (0 : Int) ≤ k := by omega
          obtain ⟨g, o, cq, c, e1, hgS, -, hr, hc7, hp⟩ := (HKD.out.fr HI.out.2.1 (fun _ _ _ e => e) (fun x c _ h => h.no HI.out.2.1)).get hx
          rw [HN.out] at e1
          simp only [Value.slice.injEq, true_and] at e1
          obtain ⟨rfl, rfl⟩ := e1
          have HP := hid hp; have HRR := hid hr
          have HI3 : Hid ((Tryz.prog.info? 46).map (·.size) = some c.length) := hid (by rw [hc7]; exact infoFl)
          have H7C := hid hp.seven
          have HJ := hid hj
          have HTK := hid (rev_take hx)
          have HNL := hid HI.out.2.2; have HRW := hid HI.out.1; have HFW := hid HI.out.2.1
          obtain ⟨xs, hxs⟩ : ∃ xs, (ks.drop (k + 1)).reverse = xs := ⟨_, rfl⟩
          rw [hxs] at HTK HNL HRW
          obtain ⟨m, hm⟩ : ∃ m, n - (k + 1) = m := ⟨_, rfl⟩
          have HM := hid hm
          rw [hm] at HNL ⊢
          clear hr hp hx hj hxs HI hgS ek hm hc7
          go_wp2_with (first
            | ((with_reducible refine K.atO (.load 46 _) ?_); refine wpL_load rfl _ _ rfl g (o + k * 7) rfl c _ HRR.out rfl rfl HI3.out ?_)
            | ((with_reducible refine K.atO (.buildSlice 43 _ _) ?_); refine wpL_buildOne rfl 43 46 _ rfl fi _ Tryz.underlying43 IF.out ZF.out (by rw [SF.out]; decide) (by rw [SF.out]; decide) (.agg c.toArray) c rfl rfl (by rw [SF.out]; exact H7C.out.1) ?_; intro y4 HB4 HF4y HS4y)
            | ((with_reducible refine K.atO (.call { callee := .builtin .append, args := _, argTypes := _ }) ?_); refine wpL_append rfl _ _ 43 rfl base 46 fi _ 7 120 Tryz.underlying43 IF.out ZF.out SF.out BF.out rfl (by decide) (.slice ba m bc) m L.flatten rfl (by have h := (HRW.out.fr (D := No) HF4y.out (fun _ _ _ e => e) (fun _ _ _ e => e)).2.2.2; rw [HNL.out] at h; exact h) (some ⟨wr.heap.size, 0, none⟩) 1 1 c rfl (by rw [H7C.out.1]) (.inr ⟨_, rfl, HB4.out.news⟩) H7C.out.2 (by unfold maxLen; have := HM.out; have := HLE.out; omega) (by have := HM.out; have := HJ.out; have := HLE.out; omega) (by have := HFW.out.size; have := HF4y.out.size; have := HBASE.out; omega) ?_; intro a5 c5 y5 HO5 HG5 HA5)
            | fail)
          have HRW2 : Hid (RwF M (fun i => i < w.heap.size) base y4 ba bc xs L) := hid (HRW.out.fr (D := No) HF4y.out (fun _ _ _ e => e) (fun _ _ _ e => e))
          have hown : y4.ownsRow base 46 7 (.slice ba m bc) m L.flatten := by have := HRW2.out.2.2.2; rw [HNL.out] at this; exact this
          have HFB : Hid (Fr (fun k => base ≤ k) y4 y5) := hid ((frown HG5.out).mono (fun k e => (own_ge hown k e).1))
          refine ⟨⟨k, a5, c5, _, by go_num, by rw [show n - k = m + 1 by have := HM.out; have := HJ.out; omega], by have := HJ.out; omega, hid (by
            rw [HTK.out]
            refine ⟨HRW2.out.push HFB.out (fun i hi => Nat.lt_of_lt_of_le hi HQB.out.2) (HP.out.no HF4y.out) (by rw [HNL.out]; exact HO5.out), (HFW.out.trans' HF4y.out).trans HFB.out (fun k e => .inr (by rw [HBASE.out]; exact e)), by rw [List.length_append, HNL.out]; have := HM.out; have := HJ.out; simp; omega⟩)⟩, ?_⟩
          simp [intOf]
        | zero =>
          have e0 : (((0 : Nat) : Int) - 1) = -1 := rfl
          rw [e0, Nat.sub_zero]
          have HBK : Hid (Sl 7 (FlC M (fun i => i ≠ q) wr) (fun i => i ≠ q) wr (.slice ba n bc) ks.reverse) := hid (by
            have h1 := HI.out.1
            have h2 := HI.out.2.2
            rw [List.drop_zero] at h1 h2
            obtain ⟨g1, g2, g3, g4⟩ := h1
            rw [h2] at g4 g1
            exact own_kids g4 L rfl h2 g1 g2 (fun j x c hx hc => (g3 j x c hx hc).mono (fun i hi _ e => by have := HQW.out; omega)) (by have := HLE.out; omega) HQB.out.1)
          have HFW : Hid (Fr No w wr) := hid (HF5.out.trans' HI.out.2.1)
          have HTN6 := hid (HTN.out.no HI.out.2.1); have HEN6 := hid (HEN.out.no HI.out.2.1)
          have HKD6 : Hid (Sl 7 (FlC M (fun i => i ≠ q) wr) (fun i => i ≠ q) wr (.slice ka n kc) ks) := hid (Sl.mono (HKD.out.fr HI.out.2.1 (fun _ _ _ e => e) (fun x c _ h => h.no HI.out.2.1)) (fun i hi _ e => by have := HQW.out; omega) (fun x c _ h => h.mono (fun i hi _ e => by have := HQW.out; omega)))
          clear HI hj e0 HKD HEN HTN
          obtain ⟨L2, hLl, hLk, hLp, hLr⟩ := slCells HKD6.out
          have HL := hid (show L2.length = n ∧ (∀ c ∈ L2, c.length = 7) ∧ (∀ (j : Nat) (x : Fl) (c : List Value), ks[j]? = some x → L2[j]? = some c → FlC M (fun i => i ≠ q) wr x c) from ⟨hLl, hLk, hLp⟩)
          have HFL : Hid (L2.flatten.length = n * 7) := hid (by rw [flat_length L2 hLk, hLl])
          have HONE : Hid (∀ v ∈ L2.flatten, v.oneCell' = true) := hid (fun v hv => by
            obtain ⟨c, hc, hvc⟩ := List.mem_flatten.1 hv
            obtain ⟨j, hj, rfl⟩ := List.mem_iff_getElem.1 hc
            have hjl : j < ks.length := by rw [HN.out]; omega
            exact (hLp j _ _ (List.getElem?_eq_getElem hjl) (List.getElem?_eq_getElem hj)).seven.2 v hvc)
          obtain ⟨V, hV⟩ : ∃ V, L2.flatten = V := ⟨_, rfl⟩
          have HV := hid hV
          rw [hV] at hLr HFL HONE
          have HR := hid hLr
          have HWRQ : Hid (q < wr.heap.size) := hid (HTN6.out.lt)
          clear hLl hLk hLp hV hLr
          go_wp2_with (first
            | ((with_reducible refine K.atO (.call { callee := .builtin .append, args := _, argTypes := _ }) ?_); (fail_if_success (have := Hx4)); refine wpL_appendNew rfl _ _ 43 rfl wr.heap.size 46 fi _ 7 120 Tryz.underlying43 IF.out ZF.out SF.out BF.out rfl (by decide) (.slice (some ⟨wr.heap.size, 0, none⟩) 0 0) rfl (Hx3.out.own (Nat.le_refl _) rfl (Nat.le_refl _) (by unfold maxLen; omega) rfl rfl) ka n kc V rfl HFL.out (HR.out.imp id (fun ⟨g, o, e, hg, hr⟩ => ⟨_, e, fun j u hj => by rw [Addr.add_mid]; exact (Gx3.out.range hr id) j u hj⟩)) HONE.out (by unfold maxLen; have := HLE.out; omega) (by have := HLE.out; omega) Gx3.out.size ?_; intro a4 c4 x4 Hx4 Gx4 Ax4; simp only [Act.put, K.put3]; (have HF4x : Hid (Fr No wr x4) := hid (Gx3.out.grown Gx4.out (fun k e => .inr (by cases e; exact Nat.le_refl _)))))
            | ((with_reducible refine K.atO (.call { callee := .builtin .append, args := _, argTypes := _ }) ?_); refine wpL_append rfl _ _ 43 rfl wr.heap.size 46 fi _ 7 120 Tryz.underlying43 IF.out ZF.out SF.out BF.out rfl (by decide) (.slice a4 n c4) n V rfl Hx4.out ka n kc V rfl HFL.out (HR.out.imp id (fun ⟨g, o, e, hg, hr⟩ => ⟨_, e, fun j u hj => by rw [Addr.add_mid]; exact (HF4x.out.range hr id) j u hj⟩)) HONE.out (by unfold maxLen; have := HLE.out; omega) (by have := HLE.out; omega) HF4x.out.size ?_; intro a5 c5 x5 Hx5 Gx5 Ax5; simp only [Act.put, K.put3])
            | ((with_reducible refine K.atO (.buildSlice 43 _ _) ?_); refine wpL_buildNone rfl 43 46 rfl (fun _ => by kernel_rfl) ?_; intro x3 Hx3 Gx3 Tx3; simp only [Act.put, K.put3])
            | ((with_reducible refine K.atO (.build 46 _) ?_); refine wpL_valZ rfl (.agg (flV (kidF 0 []) (.slice ka n kc) (.slice none 0 0)).toArray) (exec_bld _ [(0, .tmp 54), (1, .tmp 55)] rfl [(0, .int .i64 0), (1, .slice ka n kc)] rfl _ _ (bkidA _ _ _ _ _)) ?_; simp only [Act.put, K.put3])
            | fail)
          have HF5x : Hid (Fr No wr x5) := hid (HF4x.out.trans (frown Gx5.out) (fun k e => .inr (own_ge Hx4.out k e).1))
          have HTW : Hid (Sl 7 (FlC M (fun i => i ≠ q) x5) (fun i => i ≠ q) x5 (.slice a5 (n + n) c5) (ks ++ ks)) := hid (own_kids Hx5.out (L2 ++ L2) (by rw [List.flatten_append, HV.out]) (by rw [List.length_append, HN.out]) (by rw [List.length_append, HL.out.1]) (fun c hc => by rcases List.mem_append.1 hc with h | h <;> exact HL.out.2.1 c h) (fun j x c hx hc => by
            by_cases hj : j < n
            · rw [List.getElem?_append_left (by rw [HN.out]; exact hj)] at hx
              rw [List.getElem?_append_left (by rw [HL.out.1]; exact hj)] at hc
              exact (HL.out.2.2 j x c hx hc).no HF5x.out
            · rw [List.getElem?_append_right (by rw [HN.out]; omega), HN.out] at hx
              rw [List.getElem?_append_right (by rw [HL.out.1]; omega), HL.out.1] at hc
              exact (HL.out.2.2 _ x c hx hc).no HF5x.out) (by have := HLE.out; omega) HWRQ.out)
          have HTN7 := hid (HTN6.out.no HF5x.out); have HEN7 := hid (HEN6.out.no HF5x.out)
          have HKD7 : Hid (Sl 7 (FlC M (fun i => i ≠ q) x5) (fun i => i ≠ q) x5 (.slice ka n kc) ks) := hid (HKD6.out.fr HF5x.out (fun _ _ _ e => e) (fun x c _ h => h.no HF5x.out))
          have HBK7 : Hid (Sl 7 (FlC M (fun i => i ≠ q) x5) (fun i => i ≠ q) x5 (.slice ba n bc) ks.reverse) := hid (HBK.out.fr HF5x.out (fun _ _ _ e => e) (fun x c _ h => h.no HF5x.out))
          have HF7 : Hid (Fr No w x5) := hid (HFW.out.trans' HF5x.out)
          have HOKK := hid (turned_ok s en ks 0 (by decide))
          clear Hx3 Gx3 Tx3 Hx4 Gx4 Ax4 HF4x Hx5 Gx5 Ax5 HF5x HTN6 HEN6 HKD6 HBK HFW HL HFL HONE HV HR
          refine (Eval_any X q s _ en (kidF 0 ks) _ x5 HTN7.out HEN7.out (fl_kids HKD7.out 0 ⟨by decide, by decide⟩) (fun i hi => hi) (fun i hi => hi) HES.out).mono ?_
          rintro e a1 ⟨rfl, hs, f1⟩
          have HTN8 := hid (HTN7.out.step hs f1); have HEN8 := hid (HEN7.out.bb f1); have HF8 := hid (HFQ.out _ _ HF7.out f1)
          have HBK8 : Hid (Sl 7 (FlC M (fun i => i ≠ q) a1) (fun i => i ≠ q) a1 (.slice ba n bc) ks.reverse) := hid (HBK7.out.fr f1 (fun i hi _ e => hi e) (fun x c _ h => h.bb f1))
          have HTW8 : Hid (Sl 7 (FlC M (fun i => i ≠ q) a1) (fun i => i ≠ q) a1 (.slice a5 (n + n) c5) (ks ++ ks)) := hid (HTW.out.fr f1 (fun i hi _ e => hi e) (fun x c _ h => h.bb f1))
          clear hs f1 HTN7 HEN7 HF7 HBK7 HTW HKD7
          go_wp2_with (first
            | ((with_reducible refine K.atO (.build 46 _) ?_); refine wpL_valZ rfl (.agg (flV (kidF 0 []) (.slice ba n bc) (.slice none 0 0)).toArray) (exec_bld _ [(0, .tmp 60), (1, .tmp 61)] rfl [(0, .int .i64 0), (1, .slice ba n bc)] rfl _ _ (bkidA _ _ _ _ _)) ?_; simp only [Act.put, K.put3])
            | fail)
          refine (Eval_any X q s _ en (kidF 0 ks.reverse) _ a1 HTN8.out HEN8.out (fl_kids HBK8.out 0 ⟨by decide, by decide⟩) (fun i hi => hi) (fun i hi => hi) HES.out).mono ?_
          rintro e a2 ⟨rfl, hs, f1⟩
          have HTN9 := hid (HTN8.out.step hs f1); have HEN9 := hid (HEN8.out.bb f1); have HF9 := hid (HFQ.out _ _ HF8.out f1)
          have HTW9 : Hid (Sl 7 (FlC M (fun i => i ≠ q) a2) (fun i => i ≠ q) a2 (.slice a5 (n + n) c5) (ks ++ ks)) := hid (HTW8.out.fr f1 (fun i hi _ e => hi e) (fun x c _ h => h.bb f1))
          clear hs f1 HTN8 HEN8 HF8 HBK8 HTW8
          go_wp2_with (first
            | ((with_reducible refine K.atO (.build 46 _) ?_); refine wpL_valZ rfl (.agg (flV (kidF 0 []) (.slice a5 (n + n) c5) (.slice none 0 0)).toArray) (exec_bld _ [(0, .tmp 66), (1, .tmp 67)] rfl [(0, .int .i64 0), (1, .slice a5 (n + n) c5)] rfl _ _ (bkidA _ _ _ _ _)) ?_; simp only [Act.put, K.put3])
            | fail)
          refine (Eval_any X q s _ en (kidF 0 (ks ++ ks)) _ a2 HTN9.out HEN9.out (fl_kids HTW9.out 0 ⟨by decide, by decide⟩) (fun i hi => hi) (fun i hi => hi) HES.out).mono ?_
          rintro e a3 ⟨rfl, hs, f1⟩
          have HF10 := hid (HFQ.out _ _ HF9.out f1)
          obtain ⟨h1, h2⟩ := HOKK.out
          rw [h1, h2]
          generalize evF s en 6 (kidF 0 ks) = y
          clear hs f1 h1 h2 HTN9 HEN9 HF9 HTW9
          go_wp2_with fail
          go_ret
          exact ⟨by simp, HF10.out⟩
    · go_wp2_with fail
      go_loopw [13, 14] (fun sv iv wr => ∃ (j : Nat) (va : Option Addr) (vcp : Nat) (L : List (List Value)), iv = .int .i64 ((j : Int) - 1) ∧ sv = .slice va (n - j) vcp ∧ j ≤ n ∧ Hid (RwF M (fun i => i < w.heap.size) base wr va vcp (ks.drop j).reverse L ∧ Fr No w5 wr ∧ (ks.drop j).reverse.length = n - j)) (fun _ iv _ => (intOf iv + 1).toNat)
      case atStart => exact ⟨n, none, 0, [], rfl, by rw [Nat.sub_self], Nat.le_refl _, hid (by rw [← HN.out, List.drop_length]; exact ⟨RwF.nil, Fr.refl _ _, by simp⟩)⟩
      case round =>
        obtain ⟨j, ba, bc, L, rfl, rfl, hj, HI⟩ := hrel
        cases j with
        | succ k =>
          obtain ⟨x, hx⟩ : ∃ x, ks[k]? = some x := ⟨_, List.getElem?_eq_getElem (by rw [HN.out]; omega)⟩
          have ek : (((k + 1 : Nat) : Int) - 1) = (k : Int) := by omega
          rw [ek]
          have hlti : (k : Int) < n := by omega
          have hi0 : (0 : Int) ≤ k := by omega
          obtain ⟨g, o, cq, c, e1, hgS, -, hr, hc7, hp⟩ := (HKD.out.fr HI.out.2.1 (fun _ _ _ e => e) (fun x c _ h => h.no HI.out.2.1)).get hx
          rw [HN.out] at e1
          simp only [Value.slice.injEq, true_and] at e1
          obtain ⟨rfl, rfl⟩ := e1
          have HP := hid hp; have HRR := hid hr
          have HI3 : Hid ((Tryz.prog.info? 46).map (·.size) = some c.length) := hid (by rw [hc7]; exact infoFl)
          have H7C := hid hp.seven
          have HJ := hid hj
          have HTK := hid (rev_take hx)
          have HNL := hid HI.out.2.2; have HRW := hid HI.out.1; have HFW := hid HI.out.2.1
          obtain ⟨xs, hxs⟩ : ∃ xs, (ks.drop (k + 1)).reverse = xs := ⟨_, rfl⟩
          rw [hxs] at HTK HNL HRW
          obtain ⟨m, hm⟩ : ∃ m, n - (k + 1) = m := ⟨_, rfl⟩
          have HM := hid hm
          rw [hm] at HNL ⊢
          clear hr hp hx hj hxs HI hgS ek hm hc7
          go_wp2_with (first
            | ((with_reducible refine K.atO (.load 46 _) ?_); refine wpL_load rfl _ _ rfl g (o + k * 7) rfl c _ HRR.out rfl rfl HI3.out ?_)
            | ((with_reducible refine K.atO (.buildSlice 43 _ _) ?_); refine wpL_buildOne rfl 43 46 _ rfl fi _ Tryz.underlying43 IF.out ZF.out (by rw [SF.out]; decide) (by rw [SF.out]; decide) (.agg c.toArray) c rfl rfl (by rw [SF.out]; exact H7C.out.1) ?_; intro y4 HB4 HF4y HS4y)
            | ((with_reducible refine K.atO (.call { callee := .builtin .append, args := _, argTypes := _ }) ?_); refine wpL_append rfl _ _ 43 rfl base 46 fi _ 7 120 Tryz.underlying43 IF.out ZF.out SF.out BF.out rfl (by decide) (.slice ba m bc) m L.flatten rfl (by have h := (HRW.out.fr (D := No) HF4y.out (fun _ _ _ e => e) (fun _ _ _ e => e)).2.2.2; rw [HNL.out] at h; exact h) (some ⟨wr.heap.size, 0, none⟩) 1 1 c rfl (by rw [H7C.out.1]) (.inr ⟨_, rfl, HB4.out.news⟩) H7C.out.2 (by unfold maxLen; have := HM.out; have := HLE.out; omega) (by have := HM.out; have := HJ.out; have := HLE.out; omega) (by have := HFW.out.size; have := HF4y.out.size; have := HBASE.out; omega) ?_; intro a5 c5 y5 HO5 HG5 HA5)
            | fail)
          have HRW2 : Hid (RwF M (fun i => i < w.heap.size) base y4 ba bc xs L) := hid (HRW.out.fr (D := No) HF4y.out (fun _ _ _ e => e) (fun _ _ _ e => e))
          have hown : y4.ownsRow base 46 7 (.slice ba m bc) m L.flatten := by have := HRW2.out.2.2.2; rw [HNL.out] at this; exact this
          have HFB : Hid (Fr (fun k => base ≤ k) y4 y5) := hid ((frown HG5.out).mono (fun k e => (own_ge hown k e).1))
          refine ⟨⟨k, a5, c5, _, by go_num, by rw [show n - k = m + 1 by have := HM.out; have := HJ.out; omega], by have := HJ.out; omega, hid (by
            rw [HTK.out]
            refine ⟨HRW2.out.push HFB.out (fun i hi => Nat.lt_of_lt_of_le hi HQB.out.2) (HP.out.no HF4y.out) (by rw [HNL.out]; exact HO5.out), (HFW.out.trans' HF4y.out).trans HFB.out (fun k e => .inr (by rw [HBASE.out]; exact e)), by rw [List.length_append, HNL.out]; have := HM.out; have := HJ.out; simp; omega⟩)⟩, ?_⟩
          simp [intOf]
        | zero =>
          have e0 : (((0 : Nat) : Int) - 1) = -1 := rfl
          rw [e0, Nat.sub_zero]
          have HBK : Hid (Sl 7 (FlC M (fun i => i ≠ q) wr) (fun i => i ≠ q) wr (.slice ba n bc) ks.reverse) := hid (by
            have h1 := HI.out.1
            have h2 := HI.out.2.2
            rw [List.drop_zero] at h1 h2
            obtain ⟨g1, g2, g3, g4⟩ := h1
            rw [h2] at g4 g1
            exact own_kids g4 L rfl h2 g1 g2 (fun j x c hx hc => (g3 j x c hx hc).mono (fun i hi _ e => by have := HQW.out; omega)) (by have := HLE.out; omega) HQB.out.1)
          have HFW : Hid (Fr No w wr) := hid (HF5.out.trans' HI.out.2.1)
          have HTN6 := hid (HTN.out.no HI.out.2.1); have HEN6 := hid (HEN.out.no HI.out.2.1)
          have HKD6 : Hid (Sl 7 (FlC M (fun i => i ≠ q) wr) (fun i => i ≠ q) wr (.slice ka n kc) ks) := hid (Sl.mono (HKD.out.fr HI.out.2.1 (fun _ _ _ e => e) (fun x c _ h => h.no HI.out.2.1)) (fun i hi _ e => by have := HQW.out; omega) (fun x c _ h => h.mono (fun i hi _ e => by have := HQW.out; omega)))
          clear HI hj e0 HKD HEN HTN
          obtain ⟨L2, hLl, hLk, hLp, hLr⟩ := slCells HKD6.out
          have HL := hid (show L2.length = n ∧ (∀ c ∈ L2, c.length = 7) ∧ (∀ (j : Nat) (x : Fl) (c : List Value), ks[j]? = some x → L2[j]? = some c → FlC M (fun i => i ≠ q) wr x c) from ⟨hLl, hLk, hLp⟩)
          have HFL : Hid (L2.flatten.length = n * 7) := hid (by rw [flat_length L2 hLk, hLl])
          have HONE : Hid (∀ v ∈ L2.flatten, v.oneCell' = true) := hid (fun v hv => by
            obtain ⟨c, hc, hvc⟩ := List.mem_flatten.1 hv
            obtain ⟨j, hj, rfl⟩ := List.mem_iff_getElem.1 hc
            have hjl : j < ks.length := by rw [HN.out]; omega
            exact (hLp j _ _ (List.getElem?_eq_getElem hjl) (List.getElem?_eq_getElem hj)).seven.2 v hvc)
          obtain ⟨V, hV⟩ : ∃ V, L2.flatten = V := ⟨_, rfl⟩
          have HV := hid hV
          rw [hV] at hLr HFL HONE
          have HR := hid hLr
          have HWRQ : Hid (q < wr.heap.size) := hid (HTN6.out.lt)
          clear hLl hLk hLp hV hLr
          go_wp2_with (first
            | ((with_reducible refine K.atO (.call { callee := .builtin .append, args := _, argTypes := _ }) ?_); (fail_if_success (have := Hx4)); refine wpL_appendNew rfl _ _ 43 rfl wr.heap.size 46 fi _ 7 120 Tryz.underlying43 IF.out ZF.out SF.out BF.out rfl (by decide) (.slice (some ⟨wr.heap.size, 0, none⟩) 0 0) rfl (Hx3.out.own (Nat.le_refl _) rfl (Nat.le_refl _) (by unfold maxLen; omega) rfl rfl) ka n kc V rfl HFL.out (HR.out.imp id (fun ⟨g, o, e, hg, hr⟩ => ⟨_, e, fun j u hj => by rw [Addr.add_mid]; exact (Gx3.out.range hr id) j u hj⟩)) HONE.out (by unfold maxLen; have := HLE.out; omega) (by have := HLE.out; omega) Gx3.out.size ?_; intro a4 c4 x4 Hx4 Gx4 Ax4; simp only [Act.put, K.put3]; (have HF4x : Hid (Fr No wr x4) := hid (Gx3.out.grown Gx4.out (fun k e => .inr (by cases e; exact Nat.le_refl _)))))
            | ((with_reducible refine K.atO (.call { callee := .builtin .append, args := _, argTypes := _ }) ?_); refine wpL_append rfl _ _ 43 rfl wr.heap.size 46 fi _ 7 120 Tryz.underlying43 IF.out ZF.out SF.out BF.out rfl (by decide) (.slice a4 n c4) n V rfl Hx4.out ka n kc V rfl HFL.out (HR.out.imp id (fun ⟨g, o, e, hg, hr⟩ => ⟨_, e, fun j u hj => by rw [Addr.add_mid]; exact (HF4x.out.range hr id) j u hj⟩)) HONE.out (by unfold maxLen; have := HLE.out; omega) (by have := HLE.out; omega) HF4x.out.size ?_; intro a5 c5 x5 Hx5 Gx5 Ax5; simp only [Act.put, K.put3])
            | ((with_reducible refine K.atO (.buildSlice 43 _ _) ?_); refine wpL_buildNone rfl 43 46 rfl (fun _ => by kernel_rfl) ?_; intro x3 Hx3 Gx3 Tx3; simp only [Act.put, K.put3])
            | ((with_reducible refine K.atO (.build 46 _) ?_); refine wpL_valZ rfl (.agg (flV (kidF 1 []) (.slice ka n kc) (.slice none 0 0)).toArray) (exec_bld _ [(0, .tmp 54), (1, .tmp 55)] rfl [(0, .int .i64 1), (1, .slice ka n kc)] rfl _ _ (bkidA _ _ _ _ _)) ?_; simp only [Act.put, K.put3])
            | fail)
          have HF5x : Hid (Fr No wr x5) := hid (HF4x.out.trans (frown Gx5.out) (fun k e => .inr (own_ge Hx4.out k e).1))
          have HTW : Hid (Sl 7 (FlC M (fun i => i ≠ q) x5) (fun i => i ≠ q) x5 (.slice a5 (n + n) c5) (ks ++ ks)) := hid (own_kids Hx5.out (L2 ++ L2) (by rw [List.flatten_append, HV.out]) (by rw [List.length_append, HN.out]) (by rw [List.length_append, HL.out.1]) (fun c hc => by rcases List.mem_append.1 hc with h | h <;> exact HL.out.2.1 c h) (fun j x c hx hc => by
            by_cases hj : j < n
            · rw [List.getElem?_append_left (by rw [HN.out]; exact hj)] at hx
              rw [List.getElem?_append_left (by rw [HL.out.1]; exact hj)] at hc
              exact (HL.out.2.2 j x c hx hc).no HF5x.out
            · rw [List.getElem?_append_right (by rw [HN.out]; omega), HN.out] at hx
              rw [List.getElem?_append_right (by rw [HL.out.1]; omega), HL.out.1] at hc
              exact (HL.out.2.2 _ x c hx hc).no HF5x.out) (by have := HLE.out; omega) HWRQ.out)
          have HTN7 := hid (HTN6.out.no HF5x.out); have HEN7 := hid (HEN6.out.no HF5x.out)
          have HKD7 : Hid (Sl 7 (FlC M (fun i => i ≠ q) x5) (fun i => i ≠ q) x5 (.slice ka n kc) ks) := hid (HKD6.out.fr HF5x.out (fun _ _ _ e => e) (fun x c _ h => h.no HF5x.out))
          have HBK7 : Hid (Sl 7 (FlC M (fun i => i ≠ q) x5) (fun i => i ≠ q) x5 (.slice ba n bc) ks.reverse) := hid (HBK.out.fr HF5x.out (fun _ _ _ e => e) (fun x c _ h => h.no HF5x.out))
          have HF7 : Hid (Fr No w x5) := hid (HFW.out.trans' HF5x.out)
          have HOKK := hid (turned_ok s en ks 1 (by decide))
          clear Hx3 Gx3 Tx3 Hx4 Gx4 Ax4 HF4x Hx5 Gx5 Ax5 HF5x HTN6 HEN6 HKD6 HBK HFW HL HFL HONE HV HR
          refine (Eval_any X q s _ en (kidF 1 ks) _ x5 HTN7.out HEN7.out (fl_kids HKD7.out 1 ⟨by decide, by decide⟩) (fun i hi => hi) (fun i hi => hi) HES.out).mono ?_
          rintro e a1 ⟨rfl, hs, f1⟩
          have HTN8 := hid (HTN7.out.step hs f1); have HEN8 := hid (HEN7.out.bb f1); have HF8 := hid (HFQ.out _ _ HF7.out f1)
          have HBK8 : Hid (Sl 7 (FlC M (fun i => i ≠ q) a1) (fun i => i ≠ q) a1 (.slice ba n bc) ks.reverse) := hid (HBK7.out.fr f1 (fun i hi _ e => hi e) (fun x c _ h => h.bb f1))
          have HTW8 : Hid (Sl 7 (FlC M (fun i => i ≠ q) a1) (fun i => i ≠ q) a1 (.slice a5 (n + n) c5) (ks ++ ks)) := hid (HTW.out.fr f1 (fun i hi _ e => hi e) (fun x c _ h => h.bb f1))
          clear hs f1 HTN7 HEN7 HF7 HBK7 HTW HKD7
          go_wp2_with (first
            | ((with_reducible refine K.atO (.build 46 _) ?_); refine wpL_valZ rfl (.agg (flV (kidF 1 []) (.slice ba n bc) (.slice none 0 0)).toArray) (exec_bld _ [(0, .tmp 60), (1, .tmp 61)] rfl [(0, .int .i64 1), (1, .slice ba n bc)] rfl _ _ (bkidA _ _ _ _ _)) ?_; simp only [Act.put, K.put3])
            | fail)
          refine (Eval_any X q s _ en (kidF 1 ks.reverse) _ a1 HTN8.out HEN8.out (fl_kids HBK8.out 1 ⟨by decide, by decide⟩) (fun i hi => hi) (fun i hi => hi) HES.out).mono ?_
          rintro e a2 ⟨rfl, hs, f1⟩
          have HTN9 := hid (HTN8.out.step hs f1); have HEN9 := hid (HEN8.out.bb f1); have HF9 := hid (HFQ.out _ _ HF8.out f1)
          have HTW9 : Hid (Sl 7 (FlC M (fun i => i ≠ q) a2) (fun i => i ≠ q) a2 (.slice a5 (n + n) c5) (ks ++ ks)) := hid (HTW8.out.fr f1 (fun i hi _ e => hi e) (fun x c _ h => h.bb f1))
          clear hs f1 HTN8 HEN8 HF8 HBK8 HTW8
          go_wp2_with (first
            | ((with_reducible refine K.atO (.build 46 _) ?_); refine wpL_valZ rfl (.agg (flV (kidF 1 []) (.slice a5 (n + n) c5) (.slice none 0 0)).toArray) (exec_bld _ [(0, .tmp 66), (1, .tmp 67)] rfl [(0, .int .i64 1), (1, .slice a5 (n + n) c5)] rfl _ _ (bkidA _ _ _ _ _)) ?_; simp only [Act.put, K.put3])
            | fail)
          refine (Eval_any X q s _ en (kidF 1 (ks ++ ks)) _ a2 HTN9.out HEN9.out (fl_kids HTW9.out 1 ⟨by decide, by decide⟩) (fun i hi => hi) (fun i hi => hi) HES.out).mono ?_
          rintro e a3 ⟨rfl, hs, f1⟩
          have HF10 := hid (HFQ.out _ _ HF9.out f1)
          obtain ⟨h1, h2⟩ := HOKK.out
          rw [h1, h2]
          generalize evF s en 6 (kidF 1 ks) = y
          clear hs f1 h1 h2 HTN9 HEN9 HF9 HTW9
          go_wp2_with fail
          go_ret
          exact ⟨by simp, HF10.out⟩
end Go.Proofs.YtdkkpfeiaaffhaaGreatDoor.FT
