/-
  Part 25 of the proof: FtH, FtN, FtOw, FtPa.
-/
import Derived.Test.YtdkkpfeiaaffhaaGreatDoorFd20
import Derived.Test.YtdkkpfeiaaffhaaGreatDoorFd21
import Derived.Test.YtdkkpfeiaaffhaaGreatDoorFd24
import Derived.Test.YtdkkpfeiaaffhaaGreatDoorFd15
set_option linter.unusedSimpArgs false
set_option linter.unusedVariables false
namespace Go.Proofs.YtdkkpfeiaaffhaaGreatDoor.FT
set_option maxRecDepth 100000
open Go.RowKit K Go.Proofs.YtdkkpfeiaaffhaaGreatDoor.BE Go.Proofs.YtdkkpfeiaaffhaaGreatDoor.DN Go.Proofs.YtdkkpfeiaaffhaaGreatDoor.SC

def sAl : B := [65, 108, 32, 66, 111]
def en2 : Ent := [(sOC, [sPerson]), (sCn, [sAl]), (sAge, [[55]])]
theorem en2_s : EnS en2 := by
  intro a ha v hv
  simp only [en2, List.mem_cons, List.not_mem_nil, or_false] at ha
  rcases ha with rfl | rfl | rfl <;> (rw [List.mem_singleton.1 hv]; unfold Sm; decide)
theorem sm_s {l : B} (h : l.length ≤ 100) : Sm l := by unfold Sm; omega
/-- A filter without kids and parts, as a literal. -/
theorem fl_lit (S : Nat → Prop) (w : World) (k : Int) (t v p q : B) (hk : I64 k) (ht : Sz t) (hv : Sz v) (hp : Sm p) (hq : Sm q) : FlC 1 S w (.mk k [] t v p [] q) (flV (.mk k [] t v p [] q) (.slice none 0 0) (.slice none 0 0)) :=
  ⟨_, _, rfl, hk, ht, hv, hp, hq, ⟨⟨none, 0, rfl, Nat.le_refl _, by simp [Fl.any], .inl rfl⟩, fun x hx => by simp [Fl.any] at hx, by simp [Fl.any]⟩, ⟨none, 0, rfl, Nat.le_refl _, by simp [Fl.kids], .inl rfl⟩⟩
/-- With parts. -/
theorem fl_any {S : Nat → Prop} {w : World} {va : Value} {l : List B} (h : LsIn S w va l) (hs : ∀ x ∈ l, Sm x) (hl : l.length ≤ 4294967000) (k : Int) (t v p q : B) (hk : I64 k) (ht : Sz t) (hv : Sz v) (hp : Sm p) (hq : Sm q) : FlC 1 S w (.mk k [] t v p l q) (flV (.mk k [] t v p l q) (.slice none 0 0) va) :=
  ⟨_, _, rfl, hk, ht, hv, hp, hq, ⟨h, hs, hl⟩, ⟨none, 0, rfl, Nat.le_refl _, by simp [Fl.kids], .inl rfl⟩⟩
/-- With kids. -/
theorem fl_kids {S : Nat → Prop} {M : Nat} {w : World} {vk : Value} {l : List Fl} (h : Sl 7 (FlC M S w) S w vk l) (k : Int) (hk : I64 k) : FlC (M + 1) S w (.mk k l [] [] [] [] []) (flV (.mk k l [] [] [] [] []) vk (.slice none 0 0)) :=
  ⟨_, _, rfl, hk, by unfold Sz Fl.type; simp, by unfold Sz Fl.value; simp, by unfold Sm Fl.first; simp, by unfold Sm Fl.last; simp, ⟨⟨none, 0, rfl, Nat.le_refl _, by simp [Fl.any], .inl rfl⟩, fun x hx => by simp [Fl.any] at hx, by simp [Fl.any]⟩, h⟩
/-- Kids in a block of their own. -/
theorem kids_blk {S : Nat → Prop} {M g : Nat} {w : World} {t : TypeId} (l : List Fl) (L : List (List Value)) (h : Blk w g t L.flatten) (hg : S g) (hL : L.length = l.length) (hp : ∀ (j : Nat) (x : Fl) (c : List Value), l[j]? = some x → L[j]? = some c → FlC M S w x c) (hl : l.length ≤ 100) : Sl 7 (FlC M S w) S w (.slice (some ⟨g, 0, none⟩) l.length l.length) l :=
  Sl.mono (blk_sl (k := 7) (p := FlC M S w) l L h hL (fun c hc => by
    obtain ⟨j, hj⟩ := List.mem_iff_getElem?.1 hc
    have hjl : j < l.length := by rw [← hL]; exact (List.getElem?_eq_some_iff.1 hj).1
    exact (hp j _ c (List.getElem?_eq_getElem hjl) hj).seven.1) hp (by omega)) (fun i hi _ => by have hi : i = g := hi; rw [hi]; exact hg) (fun _ _ _ h => h)
theorem infoFl3 : (Tryz.prog.info? 46).map (fun i => (i.zero, i.size, i.bytes)) = some (some (.agg (flV fl0 (.slice none 0 0) (.slice none 0 0)).toArray), 7, 120) := by kernel_rfl
def fx0 : Fl := .mk 3 [] sCn [97, 108, 32, 98, 111] [] [] []
theorem bfx0 (w : World) : (Instr.build 46 [(0, (.int .i64 3)), (2, (.string (sb sCn))), (3, (.string (sb [97, 108, 32, 98, 111])))].toArray).run Tryz.prog w = .ok (.agg (flV fx0 (.slice none 0 0) (.slice none 0 0)).toArray) w := by kernel_rfl
theorem rfx0 : evF ex2 en2 6 fx0 = 1 := by decide +kernel
def fx1 : Fl := .mk 3 [] sDc [120] [] [] []
theorem bfx1 (w : World) : (Instr.build 46 [(0, (.int .i64 3)), (2, (.string (sb sDc))), (3, (.string (sb [120])))].toArray).run Tryz.prog w = .ok (.agg (flV fx1 (.slice none 0 0) (.slice none 0 0)).toArray) w := by kernel_rfl
theorem rfx1 : evF ex2 en2 6 fx1 = 0 := by decide +kernel
def fx2 : Fl := .mk 7 [] [110, 111, 110, 101] [] [] [] []
theorem bfx2 (w : World) : (Instr.build 46 [(0, (.int .i64 7)), (2, (.string (sb [110, 111, 110, 101])))].toArray).run Tryz.prog w = .ok (.agg (flV fx2 (.slice none 0 0) (.slice none 0 0)).toArray) w := by kernel_rfl
theorem rfx2 : evF ex2 en2 6 fx2 = 2 := by decide +kernel
def fx3 : Fl := .mk 5 [] sAge [53] [] [] []
theorem bfx3 (w : World) : (Instr.build 46 [(0, (.int .i64 5)), (2, (.string (sb sAge))), (3, (.string (sb [53])))].toArray).run Tryz.prog w = .ok (.agg (flV fx3 (.slice none 0 0) (.slice none 0 0)).toArray) w := by kernel_rfl
theorem rfx3 : evF ex2 en2 6 fx3 = 1 := by decide +kernel
def fx4 : Fl := .mk 4 [] sCn [] [97, 108, 32] [] [111]
theorem bfx4 (w : World) : (Instr.build 46 [(0, (.int .i64 4)), (2, (.string (sb sCn))), (4, (.string (sb [97, 108, 32]))), (6, (.string (sb [111])))].toArray).run Tryz.prog w = .ok (.agg (flV fx4 (.slice none 0 0) (.slice none 0 0)).toArray) w := by kernel_rfl
theorem rfx4 : evF ex2 en2 6 fx4 = 1 := by decide +kernel
def fx5 : Fl := .mk 4 [] sCn [] [] [[108], [108]] []
theorem bfx5 (p : Nat) (w : World) : (Instr.build 46 [(0, .int .i64 4), (2, .string (sb sCn)), (5, .slice (some ⟨p, 0, none⟩) 2 2)].toArray).run Tryz.prog w = .ok (.agg (flV fx5 (.slice none 0 0) (.slice (some ⟨p, 0, none⟩) 2 2)).toArray) w := by kernel_rfl
theorem rfx5 : evF ex2 en2 6 fx5 = 0 := by decide +kernel
def fx6 : Fl := .mk 4 [] sCn [] [97] [[42]] []
theorem bfx6 (p : Nat) (w : World) : (Instr.build 46 [(0, .int .i64 4), (2, .string (sb sCn)), (4, .string (sb [97])), (5, .slice (some ⟨p, 0, none⟩) 1 1)].toArray).run Tryz.prog w = .ok (.agg (flV fx6 (.slice none 0 0) (.slice (some ⟨p, 0, none⟩) 1 1)).toArray) w := by kernel_rfl
def fx7 : Fl := .mk 2 [fx6] [] [] [] [] []
theorem bfx7 (p : Nat) (w : World) : (Instr.build 46 [(0, .int .i64 2), (1, .slice (some ⟨p, 0, none⟩) 1 1)].toArray).run Tryz.prog w = .ok (.agg (flV fx7 (.slice (some ⟨p, 0, none⟩) 1 1) (.slice none 0 0)).toArray) w := by kernel_rfl
def tx7 : B := [40, 33, 40, 99, 110, 61, 97, 42, 92, 50, 97, 42, 41, 41]
theorem rfx7 : prF 6 fx7 = tx7 := by decide +kernel
set_option maxHeartbeats 16000000 in
theorem awake_any (w : World) (hG : Gm w) : Calls Tryz.prog 21 #[] w fun e w' => e = .returned (.bool true) ∧ Fr No w w' := by
  obtain ⟨X, hXe⟩ : ∃ X : Nat → Prop, X = fun k => k < w.heap.size := ⟨_, rfl⟩
  have HX := hid hXe
  have HGX : Hid (GM X) := hid (by rw [hXe]; exact hG.gx)
  have HG := hid hG
  obtain ⟨is, his, hzs, hss, hbs⟩ := info_ex infoS3
  obtain ⟨ia, hia, hza, hsa, hba⟩ := info_ex infoAt3
  obtain ⟨fi, hfi, hzf, hsf, hbf⟩ := info_ex infoFl3
  have IS := hid his; have ZS := hid hzs; have SS := hid hss
  have IA := hid hia; have ZA := hid hza; have SA := hid hsa
  have IF := hid hfi; have ZF := hid hzf; have SF := hid hsf
  clear his hzs hss hbs hia hza hsa hba hfi hzf hsf hbf hXe hG
  go_enter Tryz.func21, Tryz.ntmps21
  go_wp2_with fail
  refine (example_any _).mono ?_
  rintro e w1 ⟨vt, vc, rfl, ht, hc, f1⟩
  have HT := hid ht; have HC := hid hc; have HF1 := hid f1
  clear ht hc f1
  go_wp2_with fail
  refine (new_ok vt vc ex2 w1 HT.out HC.out ex2_ok).mono ?_
  rintro e w2 ⟨b, rfl, hs, f2⟩
  have HF2 : Hid (Fr No w w2) := hid (HF1.out.trans' f2)
  have HS2 : Hid (Tn X b ex2 w2) := hid ⟨hs.less (fun k hk => by rw [HX.out] at hk; exact Nat.lt_of_lt_of_le hk HF1.out.size), fun k hk => by rw [HX.out] at hk; exact Nat.lt_of_lt_of_le hk HF2.out.size, HGX.out, HG.out.no HF2.out⟩
  have HBW : Hid (w.heap.size ≤ b) := hid (by have := HS2.out.1.nx; rw [HX.out] at this; omega)
  have HBL := hid hs.lt
  clear hs f2 HT HC HF1
  go_wp2_with (first
    | ((with_reducible refine K.atO (.buildSlice 38 _ _) ?_); refine wpL_buildAll rfl 38 60 [.tmp 23, .tmp 25, .tmp 27] rfl ia _ Tryz.underlying38 IA.out ZA.out (by rw [SA.out]; decide) (by rw [SA.out]; decide) (by decide) [.agg #[.string (sb sOC), .slice (some ⟨w2.heap.size, 0, none⟩) 1 1], .agg #[.string (sb sCn), .slice (some ⟨y1.heap.size, 0, none⟩) 1 1], .agg #[.string (sb sAge), .slice (some ⟨y2.heap.size, 0, none⟩) 1 1]] rfl (by intro v hv; rw [SA.out]; simp only [List.mem_cons, List.not_mem_nil, or_false] at hv; rcases hv with rfl | rfl | rfl <;> rfl) [.string (sb sOC), .slice (some ⟨w2.heap.size, 0, none⟩) 1 1, .string (sb sCn), .slice (some ⟨y1.heap.size, 0, none⟩) 1 1, .string (sb sAge), .slice (some ⟨y2.heap.size, 0, none⟩) 1 1] rfl ?_; intro y4 Hy4 Gy4 Ty4; simp only [Act.put, K.put3])
    | ((with_reducible refine K.atO (.build 60 _) ?_); (have := Hy3); refine wpL_valZ rfl (.agg #[.string (sb sAge), .slice (some ⟨y2.heap.size, 0, none⟩) 1 1]) (exec_bld _ [(0, .const (.string (sb sAge))), (1, .tmp 26)] rfl [(0, (.string (sb sAge))), (1, .slice (some ⟨y2.heap.size, 0, none⟩) 1 1)] rfl _ _ (bat _ _ _ _)) ?_; simp only [Act.put, K.put3])
    | ((with_reducible refine K.atO (.build 60 _) ?_); (have := Hy2); refine wpL_valZ rfl (.agg #[.string (sb sCn), .slice (some ⟨y1.heap.size, 0, none⟩) 1 1]) (exec_bld _ [(0, .const (.string (sb sCn))), (1, .tmp 24)] rfl [(0, (.string (sb sCn))), (1, .slice (some ⟨y1.heap.size, 0, none⟩) 1 1)] rfl _ _ (bat _ _ _ _)) ?_; simp only [Act.put, K.put3])
    | ((with_reducible refine K.atO (.build 60 _) ?_); refine wpL_valZ rfl (.agg #[.string (sb sOC), .slice (some ⟨w2.heap.size, 0, none⟩) 1 1]) (exec_bld _ [(0, .const (.string (sb sOC))), (1, .tmp 22)] rfl [(0, (.string (sb sOC))), (1, .slice (some ⟨w2.heap.size, 0, none⟩) 1 1)] rfl _ _ (bat _ _ _ _)) ?_; simp only [Act.put, K.put3])
    | ((with_reducible refine K.atO (.buildSlice 44 _ _) ?_); (have := Hy2); refine wpL_buildAll rfl 44 9 [.const (.string (sb [55]))] rfl is _ Tryz.underlying44 IS.out ZS.out (by rw [SS.out]; decide) (by rw [SS.out]; decide) (by decide) [.string (sb [55])] rfl (by intro v hv; rw [List.mem_singleton.1 hv, SS.out]; rfl) (strs [[55]]) rfl ?_; intro y3 Hy3 Gy3 Ty3; simp only [Act.put, K.put3])
    | ((with_reducible refine K.atO (.buildSlice 44 _ _) ?_); (have := Hy1); refine wpL_buildAll rfl 44 9 [.const (.string (sb sAl))] rfl is _ Tryz.underlying44 IS.out ZS.out (by rw [SS.out]; decide) (by rw [SS.out]; decide) (by decide) [.string (sb sAl)] rfl (by intro v hv; rw [List.mem_singleton.1 hv, SS.out]; rfl) (strs [sAl]) rfl ?_; intro y2 Hy2 Gy2 Ty2; simp only [Act.put, K.put3])
    | ((with_reducible refine K.atO (.buildSlice 44 _ _) ?_); refine wpL_buildAll rfl 44 9 [.const (.string (sb sPerson))] rfl is _ Tryz.underlying44 IS.out ZS.out (by rw [SS.out]; decide) (by rw [SS.out]; decide) (by decide) [.string (sb sPerson)] rfl (by intro v hv; rw [List.mem_singleton.1 hv, SS.out]; rfl) (strs [sPerson]) rfl ?_; intro y1 Hy1 Gy1 Ty1; simp only [Act.put, K.put3])
    | fail)
  have HE0 : Hid (EnIn (fun i => i ≠ b) y4 (.slice (some ⟨y3.heap.size, 0, none⟩) 3 3) en2) := by
    have t1 := Ty1.out; have t2 := Ty2.out; have t3 := Ty3.out; have t4 := Ty4.out; have hbl := HBL.out
    refine hid (en_blk en2 [(.slice (some ⟨w2.heap.size, 0, none⟩) 1 1), (.slice (some ⟨y1.heap.size, 0, none⟩) 1 1), (.slice (some ⟨y2.heap.size, 0, none⟩) 1 1)] Hy4.out rfl (fun j a v hj hv => ?_) (by omega) (by decide))
    match j, hj, hv with
    | 0, hj, hv => cases hj; cases hv; exact ⟨sz_s (by decide), ls_blk [sPerson] (((Hy1.out.fr Gy2.out id).fr Gy3.out id).fr Gy4.out id) (by omega) (by decide) (by intro x hx; rw [List.mem_singleton.1 hx]; exact sz_s (by decide))⟩
    | 1, hj, hv => cases hj; cases hv; exact ⟨sz_s (by decide), ls_blk [sAl] ((Hy2.out.fr Gy3.out id).fr Gy4.out id) (by omega) (by decide) (by intro x hx; rw [List.mem_singleton.1 hx]; exact sz_s (by decide))⟩
    | 2, hj, hv => cases hj; cases hv; exact ⟨sz_s (by decide), ls_blk [[55]] (Hy3.out.fr Gy4.out id) (by omega) (by decide) (by intro x hx; rw [List.mem_singleton.1 hx]; exact sz_s (by decide))⟩
    | q + 3, hj, _ => simp [en2] at hj
  have HFy : Hid (Fr No w2 y4) := hid (((Gy1.out.trans' Gy2.out).trans' Gy3.out).trans' Gy4.out)
  have HA0 : Hid (Fr No w y4) := hid (HF2.out.trans' HFy.out)
  have HS0 : Hid (Tn X b ex2 y4) := hid (HS2.out.no HFy.out)
  generalize y3.heap.size = ea at HE0 ⊢
  have HFBH : Hid (∀ u v : World, Fr No w u → Fr (fun i => i = b) u v → Fr No w v) := hid (fun _ _ f g => f.trans g (fun i e => .inr (by rw [e]; exact HBW.out)))
  clear Hy1 Gy1 Ty1 Hy2 Gy2 Ty2 Hy3 Gy3 Ty3 Hy4 Gy4 Ty4 HS2 HF2 HFy
  go_wp2_with (first
    | ((with_reducible refine K.atO (.build 46 _) ?_); refine wpL_valZ rfl (.agg (flV fx0 (.slice none 0 0) (.slice none 0 0)).toArray) (exec_bld _ [(0, .const (.int .i64 3)), (2, .const (.string (sb sCn))), (3, .const (.string (sb [97, 108, 32, 98, 111])))] rfl [(0, (.int .i64 3)), (2, (.string (sb sCn))), (3, (.string (sb [97, 108, 32, 98, 111])))] rfl _ _ (bfx0 _)) ?_; simp only [Act.put, K.put3])
    | fail)
  refine (Eval_any X b ex2 _ en2 fx0 _ y4 HS0.out HE0.out (fl_lit (fun i => i ≠ b) y4 3 sCn [97, 108, 32, 98, 111] [] [] ⟨by decide, by decide⟩ (sz_s (by decide)) (sz_s (by decide)) (sm_s (by decide)) (sm_s (by decide))) (fun i hi => hi) (fun i hi => hi) en2_s).mono ?_
  rintro e a1 ⟨rfl, hs, f⟩
  rw [rfx0]
  have HS1 := hid (HS0.out.step hs f); have HA1 : Hid (Fr No w a1) := hid (HFBH.out _ _ HA0.out f); have HE1 := hid (HE0.out.fr f (fun i hi _ e => hi e))
  clear hs f HS0 HA0 HE0
  go_wp2_with (first
    | ((with_reducible refine K.atO (.build 46 _) ?_); refine wpL_valZ rfl (.agg (flV fx1 (.slice none 0 0) (.slice none 0 0)).toArray) (exec_bld _ [(0, .const (.int .i64 3)), (2, .const (.string (sb sDc))), (3, .const (.string (sb [120])))] rfl [(0, (.int .i64 3)), (2, (.string (sb sDc))), (3, (.string (sb [120])))] rfl _ _ (bfx1 _)) ?_; simp only [Act.put, K.put3])
    | fail)
  refine (Eval_any X b ex2 _ en2 fx1 _ a1 HS1.out HE1.out (fl_lit (fun i => i ≠ b) a1 3 sDc [120] [] [] ⟨by decide, by decide⟩ (sz_s (by decide)) (sz_s (by decide)) (sm_s (by decide)) (sm_s (by decide))) (fun i hi => hi) (fun i hi => hi) en2_s).mono ?_
  rintro e a2 ⟨rfl, hs, f⟩
  rw [rfx1]
  have HS2 := hid (HS1.out.step hs f); have HA2 : Hid (Fr No w a2) := hid (HFBH.out _ _ HA1.out f); have HE2 := hid (HE1.out.fr f (fun i hi _ e => hi e))
  clear hs f HS1 HA1 HE1
  go_wp2_with (first
    | ((with_reducible refine K.atO (.build 46 _) ?_); refine wpL_valZ rfl (.agg (flV fx2 (.slice none 0 0) (.slice none 0 0)).toArray) (exec_bld _ [(0, .const (.int .i64 7)), (2, .const (.string (sb [110, 111, 110, 101])))] rfl [(0, (.int .i64 7)), (2, (.string (sb [110, 111, 110, 101])))] rfl _ _ (bfx2 _)) ?_; simp only [Act.put, K.put3])
    | fail)
  refine (Eval_any X b ex2 _ en2 fx2 _ a2 HS2.out HE2.out (fl_lit (fun i => i ≠ b) a2 7 [110, 111, 110, 101] [] [] [] ⟨by decide, by decide⟩ (sz_s (by decide)) (sz_s (by decide)) (sm_s (by decide)) (sm_s (by decide))) (fun i hi => hi) (fun i hi => hi) en2_s).mono ?_
  rintro e a3 ⟨rfl, hs, f⟩
  rw [rfx2]
  have HS3 := hid (HS2.out.step hs f); have HA3 : Hid (Fr No w a3) := hid (HFBH.out _ _ HA2.out f); have HE3 := hid (HE2.out.fr f (fun i hi _ e => hi e))
  clear hs f HS2 HA2 HE2
  go_wp2_with (first
    | ((with_reducible refine K.atO (.build 46 _) ?_); refine wpL_valZ rfl (.agg (flV fx3 (.slice none 0 0) (.slice none 0 0)).toArray) (exec_bld _ [(0, .const (.int .i64 5)), (2, .const (.string (sb sAge))), (3, .const (.string (sb [53])))] rfl [(0, (.int .i64 5)), (2, (.string (sb sAge))), (3, (.string (sb [53])))] rfl _ _ (bfx3 _)) ?_; simp only [Act.put, K.put3])
    | fail)
  refine (Eval_any X b ex2 _ en2 fx3 _ a3 HS3.out HE3.out (fl_lit (fun i => i ≠ b) a3 5 sAge [53] [] [] ⟨by decide, by decide⟩ (sz_s (by decide)) (sz_s (by decide)) (sm_s (by decide)) (sm_s (by decide))) (fun i hi => hi) (fun i hi => hi) en2_s).mono ?_
  rintro e a4 ⟨rfl, hs, f⟩
  rw [rfx3]
  have HS4 := hid (HS3.out.step hs f); have HA4 : Hid (Fr No w a4) := hid (HFBH.out _ _ HA3.out f); have HE4 := hid (HE3.out.fr f (fun i hi _ e => hi e))
  clear hs f HS3 HA3 HE3
  go_wp2_with (first
    | ((with_reducible refine K.atO (.build 46 _) ?_); refine wpL_valZ rfl (.agg (flV fx4 (.slice none 0 0) (.slice none 0 0)).toArray) (exec_bld _ [(0, .const (.int .i64 4)), (2, .const (.string (sb sCn))), (4, .const (.string (sb [97, 108, 32]))), (6, .const (.string (sb [111])))] rfl [(0, (.int .i64 4)), (2, (.string (sb sCn))), (4, (.string (sb [97, 108, 32]))), (6, (.string (sb [111])))] rfl _ _ (bfx4 _)) ?_; simp only [Act.put, K.put3])
    | fail)
  refine (Eval_any X b ex2 _ en2 fx4 _ a4 HS4.out HE4.out (fl_lit (fun i => i ≠ b) a4 4 sCn [] [97, 108, 32] [111] ⟨by decide, by decide⟩ (sz_s (by decide)) (sz_s (by decide)) (sm_s (by decide)) (sm_s (by decide))) (fun i hi => hi) (fun i hi => hi) en2_s).mono ?_
  rintro e a5 ⟨rfl, hs, f⟩
  rw [rfx4]
  have HS5 := hid (HS4.out.step hs f); have HA5 : Hid (Fr No w a5) := hid (HFBH.out _ _ HA4.out f); have HE5 := hid (HE4.out.fr f (fun i hi _ e => hi e))
  clear hs f HS4 HA4 HE4
  go_wp2_with (first
    | ((with_reducible refine K.atO (.buildSlice 44 _ _) ?_); refine wpL_buildAll rfl 44 9 [.const (.string (sb [108])), .const (.string (sb [108]))] rfl is _ Tryz.underlying44 IS.out ZS.out (by rw [SS.out]; decide) (by rw [SS.out]; decide) (by decide) [.string (sb [108]), .string (sb [108])] rfl (by intro v hv; rw [SS.out]; simp only [List.mem_cons, List.not_mem_nil, or_false] at hv; rcases hv with rfl | rfl <;> rfl) (strs [[108], [108]]) rfl ?_; intro z1 Hz1 Gz1 Tz1; simp only [Act.put, K.put3])
    | ((with_reducible refine K.atO (.build 46 _) ?_); refine wpL_valZ rfl (.agg (flV fx5 (.slice none 0 0) (.slice (some ⟨a5.heap.size, 0, none⟩) 2 2)).toArray) (exec_bld _ [(0, .const (.int .i64 4)), (2, .const (.string (sb sCn))), (5, .tmp 51)] rfl [(0, .int .i64 4), (2, .string (sb sCn)), (5, .slice (some ⟨a5.heap.size, 0, none⟩) 2 2)] rfl _ _ (bfx5 _ _)) ?_; simp only [Act.put, K.put3])
    | fail)
  have HL6 : Hid (LsIn (fun i => i ≠ b) z1 (.slice (some ⟨a5.heap.size, 0, none⟩) 2 2) [[108], [108]]) := hid (ls_blk [[108], [108]] Hz1.out (by have := HS5.out.lt; omega) (by decide) (by intro x hx; simp only [List.mem_cons, List.not_mem_nil, or_false] at hx; rcases hx with rfl | rfl <;> exact sz_s (by decide)))
  refine (Eval_any X b ex2 _ en2 fx5 _ z1 (HS5.out.no Gz1.out) (HE5.out.no Gz1.out) (fl_any HL6.out (by intro x hx; simp only [List.mem_cons, List.not_mem_nil, or_false] at hx; rcases hx with rfl | rfl <;> exact sm_s (by decide)) (by decide) 4 sCn [] [] [] ⟨by decide, by decide⟩ (sz_s (by decide)) (sz_s (by decide)) (sm_s (by decide)) (sm_s (by decide))) (fun i hi => hi) (fun i hi => hi) en2_s).mono ?_
  rintro e a6 ⟨rfl, hs, f⟩
  rw [rfx5]
  have HA6 : Hid (Fr No w a6) := hid (HFBH.out _ _ (HA5.out.trans' Gz1.out) f)
  clear hs f HS5 HA5 HE5 HL6 Hz1 Gz1 Tz1
  go_wp2_with (first
    | ((with_reducible refine K.atO (.buildSlice 44 _ _) ?_); refine wpL_buildAll rfl 44 9 [.const (.string (sb [42]))] rfl is _ Tryz.underlying44 IS.out ZS.out (by rw [SS.out]; decide) (by rw [SS.out]; decide) (by decide) [.string (sb [42])] rfl (by intro v hv; rw [List.mem_singleton.1 hv, SS.out]; rfl) (strs [[42]]) rfl ?_; intro z1 Hz1 Gz1 Tz1; simp only [Act.put, K.put3])
    | ((with_reducible refine K.atO (.build 46 _) ?_); (have := Hz2); refine wpL_valZ rfl (.agg (flV fx7 (.slice (some ⟨z1.heap.size, 0, none⟩) 1 1) (.slice none 0 0)).toArray) (exec_bld _ [(0, .const (.int .i64 2)), (1, .tmp 56)] rfl [(0, .int .i64 2), (1, .slice (some ⟨z1.heap.size, 0, none⟩) 1 1)] rfl _ _ (bfx7 _ _)) ?_; simp only [Act.put, K.put3])
    | ((with_reducible refine K.atO (.build 46 _) ?_); refine wpL_valZ rfl (.agg (flV fx6 (.slice none 0 0) (.slice (some ⟨a6.heap.size, 0, none⟩) 1 1)).toArray) (exec_bld _ [(0, .const (.int .i64 4)), (2, .const (.string (sb sCn))), (4, .const (.string (sb [97]))), (5, .tmp 54)] rfl [(0, .int .i64 4), (2, .string (sb sCn)), (4, .string (sb [97])), (5, .slice (some ⟨a6.heap.size, 0, none⟩) 1 1)] rfl _ _ (bfx6 _ _)) ?_; simp only [Act.put, K.put3])
    | ((with_reducible refine K.atO (.buildSlice 43 _ _) ?_); refine wpL_buildAll rfl 43 46 [.tmp 55] rfl fi _ Tryz.underlying43 IF.out ZF.out (by rw [SF.out]; decide) (by rw [SF.out]; decide) (by decide) [.agg (flV fx6 (.slice none 0 0) (.slice (some ⟨a6.heap.size, 0, none⟩) 1 1)).toArray] rfl (by intro v hv; rw [SF.out]; rw [List.mem_singleton.1 hv]; rfl) ([flV fx6 (.slice none 0 0) (.slice (some ⟨a6.heap.size, 0, none⟩) 1 1)] : List (List Value)).flatten (by simp [Value.cells]) ?_; intro z2 Hz2 Gz2 Tz2; simp only [Act.put, K.put3])
    | fail)
  have HL7 : Hid (FlC 2 (fun _ => True) z2 fx7 (flV fx7 (.slice (some ⟨z1.heap.size, 0, none⟩) 1 1) (.slice none 0 0))) := by
    have h1 : LsIn (fun _ => True) z2 (.slice (some ⟨a6.heap.size, 0, none⟩) 1 1) [[42]] := LsIn.mono (blk_ls [[42]] (Hz1.out.fr Gz2.out id) (by decide) (by intro x hx; rw [List.mem_singleton.1 hx]; exact sz_s (by decide))) (fun _ _ _ => trivial)
    have h2 : FlC 1 (fun _ => True) z2 fx6 (flV fx6 (.slice none 0 0) (.slice (some ⟨a6.heap.size, 0, none⟩) 1 1)) := fl_any h1 (by intro x hx; rw [List.mem_singleton.1 hx]; exact sm_s (by decide)) (by decide) 4 sCn [] [97] [] ⟨by decide, by decide⟩ (sz_s (by decide)) (sz_s (by decide)) (sm_s (by decide)) (sm_s (by decide))
    exact hid (fl_kids (kids_blk [fx6] [flV fx6 (.slice none 0 0) (.slice (some ⟨a6.heap.size, 0, none⟩) 1 1)] Hz2.out trivial rfl (fun j x c hx hc => by
      match j, hx, hc with
      | 0, hx, hc => cases hx; cases hc; exact h2
      | n + 1, hx, _ => simp at hx) (by decide)) 2 ⟨by decide, by decide⟩)
  have HA8 : Hid (Fr No w z2) := hid ((HA6.out.trans' Gz1.out).trans' Gz2.out)
  refine (Print_any fx7 _ z2 HL7.out (by rw [rfx7]; decide)).mono ?_
  rintro e a9 ⟨rfl, f⟩
  rw [rfx7]
  have HA9 := hid (HA8.out.trans' f)
  clear f HL7 HA8 HA6 Hz1 Gz1 Tz1 Hz2 Gz2 Tz2
  go_wp2_with (first
    | ((with_reducible refine K.atO (.binOp .eql 9 _ _ _) ?_); refine wpL_valZ rfl (.bool true) ((exec_eqS _ _ _ rfl tx7 tx7 rfl rfl _).trans (by simp)) ?_)
    | fail)
  go_ret
  exact ⟨rfl, HA9.out⟩
end Go.Proofs.YtdkkpfeiaaffhaaGreatDoor.FT

namespace Go.Proofs.YtdkkpfeiaaffhaaGreatDoor.FT
set_option maxRecDepth 100000
open Go.RowKit K Go.Proofs.YtdkkpfeiaaffhaaGreatDoor.BE Go.Proofs.YtdkkpfeiaaffhaaGreatDoor.DN Go.Proofs.YtdkkpfeiaaffhaaGreatDoor.SC

theorem _root_.Go.Proofs.YtdkkpfeiaaffhaaGreatDoor.SC.EnIn.bb {q : Nat} {w w' : World} {v : Value} {en : Ent} (h : EnIn (fun i => i ≠ q) w v en) (hf : Fr (fun k => k = q) w w') : EnIn (fun i => i ≠ q) w' v en := h.fr hf fun _ hi _ e => hi e
theorem FlC.bb {q M : Nat} {w w' : World} {f : Fl} {cs : List Value} (h : FlC M (fun i => i ≠ q) w f cs) (hf : Fr (fun k => k = q) w w') : FlC M (fun i => i ≠ q) w' f cs := h.fr hf fun _ hi _ e => hi e
end Go.Proofs.YtdkkpfeiaaffhaaGreatDoor.FT

namespace Go.Proofs.YtdkkpfeiaaffhaaGreatDoor.FT
set_option maxRecDepth 100000
open Go.RowKit K Go.Proofs.YtdkkpfeiaaffhaaGreatDoor.BE Go.Proofs.YtdkkpfeiaaffhaaGreatDoor.DN Go.Proofs.YtdkkpfeiaaffhaaGreatDoor.SC

theorem infoSc3 : (Tryz.prog.info? 25).map (·.size) = some 2 := by kernel_rfl
/-- A filter of one type and one value. -/
def litF (k : Int) (n v : B) : Fl := .mk k [] n v [] [] []
theorem szNil : Sz ([] : B) := by unfold Sz; simp
attribute [irreducible] litF
end Go.Proofs.YtdkkpfeiaaffhaaGreatDoor.FT

namespace Go.Proofs.YtdkkpfeiaaffhaaGreatDoor.FT
set_option maxRecDepth 100000
open Go.RowKit K Go.Proofs.YtdkkpfeiaaffhaaGreatDoor.BE Go.Proofs.YtdkkpfeiaaffhaaGreatDoor.DN Go.Proofs.YtdkkpfeiaaffhaaGreatDoor.SC

theorem normE_len {s : Sch} {n v : B} {i : Nat} (hat : s.tyAt n = some i) (h : (normE s n v).2 = 0) : v.length ≤ 200 := by
  have ht := tyN_at hat
  unfold tyN at ht
  unfold normE at h
  rw [ht] at h
  simp only at h
  cases hv : normV (tyOf s n).syn v with
  | none => rw [hv] at h; simp at h
  | some x =>
    unfold normV at hv
    by_cases hl : 200 < v.length
    · rw [if_pos hl] at hv; cases hv
    · omega
theorem bown (n x z : B) (p : Nat) (w : World) : (Instr.build 46 [(0, .int .i64 4), (2, .string (sb n)), (4, .string (sb x)), (5, .slice (some ⟨p, 0, none⟩) 1 1), (6, .string (sb z))].toArray).run Tryz.prog w = .ok (.agg #[.int .i64 4, .slice none 0 0, .string (sb n), .string (sb []), .string (sb x), .slice (some ⟨p, 0, none⟩) 1 1, .string (sb z)]) w := by kernel_rfl
def ownV (n x z : B) (p : Nat) : List Value := [.int .i64 4, .slice none 0 0, .string (sb n), .string (sb []), .string (sb x), .slice (some ⟨p, 0, none⟩) 1 1, .string (sb z)]
theorem ownV_in {q p : Nat} {w : World} (n v : B) (i j : Nat) (z : B) (h : Blk w p 9 (strs [(v.drop i).take (j - i)])) (hp : p ≠ q) (hn : Sz n) (hv : v.length ≤ 200) (hz : z.length ≤ 100) : FlC 1 (fun i => i ≠ q) w (ownF n v i j z) (ownV n (v.take i) (v.drop j ++ z) p) :=
  fl_any (va := .slice (some ⟨p, 0, none⟩) 1 1) (ls_blk [(v.drop i).take (j - i)] h hp (by simp) (by intro x hx; rw [List.mem_singleton.1 hx]; unfold Sz; simp; omega)) (by intro x hx; rw [List.mem_singleton.1 hx]; unfold Sm; simp; omega) (by simp) 4 n [] (v.take i) (v.drop j ++ z) ⟨by decide, by decide⟩ hn szNil (by unfold Sm; simp; omega) (by unfold Sm; simp; omega)
theorem ev4l (X : Nat → Prop) (b p : Nat) (s : Sch) (ve : Value) (en : Ent) (n v : B) (i j : Nat) (z : B) (w : World) (h : Tn X b s w) (he : EnIn (fun i => i ≠ b) w ve en) (hE : EnS en) (hb : Blk w p 9 (strs [(v.drop i).take (j - i)])) (hp : p ≠ b) (hn : Sz n) (hv : v.length ≤ 200) (hz : z.length ≤ 100) :
    Calls Tryz.prog 22 #[.pointer (some ⟨b, 0, none⟩), ve, .agg (ownV n (v.take i) (v.drop j ++ z) p).toArray] w fun e w' => e = .returned (.int .i64 (leaf s en (ownF n v i j z))) ∧ Sx w' X b s ∧ Fr (fun k => k = b) w w' :=
  Eval_of X b s ve en _ _ w he rfl fun w' hw => (ev4 X b s ve en 5 (ownF n v i j z) _ w' (h.no hw) (he.no hw) (fun i hi => hi) (ownV_in n v i j z (hb.fr hw id) hp hn hv hz) (fun i hi => hi) (by decide) rfl hE).mono fun e w'' ⟨h1, h2⟩ => ⟨by rw [h1]; rfl, h2⟩
theorem ownV_seven (n x z : B) (p : Nat) : (ownV n x z p).length = 7 ∧ ∀ v ∈ ownV n x z p, v.oneCell' = true := ⟨rfl, by simp [ownV, Value.oneCell']⟩
theorem bat1 (n : B) (p : Nat) (w : World) : (Instr.build 60 [(0, .string (sb n)), (1, .slice (some ⟨p, 0, none⟩) 1 1)].toArray).run Tryz.prog w = .ok (.agg #[.string (sb n), .slice (some ⟨p, 0, none⟩) 1 1]) w := bat n p 1 w
theorem infoAt4 : (Tryz.prog.info? 60).map (fun i => (i.zero, i.size, i.bytes)) = some (some (.agg #[.string ⟨#[]⟩, .slice none 0 0]), 2, 40) := by kernel_rfl
/-- An entry of one attribute with one value. -/
def Ent1 (w : World) (g1 g2 : Nat) (n v : B) : Prop := Blk w g1 9 (strs [v]) ∧ Blk w g2 60 (List.zipWith (fun a u => [Value.string (sb a.1), u]) [(n, [v])] [(.slice (some ⟨g1, 0, none⟩) 1 1)]).flatten
theorem Ent1.fr {D : Nat → Prop} {w w' : World} {g1 g2 : Nat} {n v : B} (h : Ent1 w g1 g2 n v) (hf : Fr D w w') (h1 : ¬ D g1) (h2 : ¬ D g2) : Ent1 w' g1 g2 n v := ⟨h.1.fr hf h1, h.2.fr hf h2⟩
theorem Ent1.en {w : World} {g1 g2 q : Nat} {n v : B} (h : Ent1 w g1 g2 n v) (h1 : g1 ≠ q) (h2 : g2 ≠ q) (hn : Sz n) (hv : Sz v) : EnIn (fun i => i ≠ q) w (.slice (some ⟨g2, 0, none⟩) 1 1) [(n, [v])] :=
  en_blk [(n, [v])] [(.slice (some ⟨g1, 0, none⟩) 1 1)] h.2 rfl (fun j a u hj hu => by
    match j, hj, hu with
    | 0, hj, hu => cases hj; cases hu; exact ⟨hn, ls_blk [v] h.1 h1 (by simp) (by intro x hx; rw [List.mem_singleton.1 hx]; exact hv)⟩
    | q + 1, hj, _ => simp at hj) h2 (by simp)
set_option maxHeartbeats 32000000 in
theorem partsLaw {S S2 : Nat → Prop} (vt vc : Value) (s : Sch) (n v : B) (i j : Int) (w : World) (h : TysIn S w vt s.tys) (hy : ClsIn S2 w vc s.cls) (hG : Gm w) (hzn : Sz n) (hzv : Sz v) (hi : I64 i) (hj : I64 j) :
    Calls Tryz.prog 10 #[.agg #[vt, vc], .string (sb n), .string (sb v), .int .i64 i, .int .i64 j] w fun e w' => e = .returned (.bool true) ∧ Fr No w w' := by
  obtain ⟨X, hXe⟩ : ∃ X : Nat → Prop, X = fun k => k < w.heap.size := ⟨_, rfl⟩
  have HX := hid hXe
  have HGX : Hid (GM X) := hid (by rw [hXe]; exact hG.gx)
  have HG := hid hG; have HT := hid h; have HC := hid hy; have HI := hid (show I64 i ∧ I64 j from ⟨hi, hj⟩); have HZ := hid hzn; have HZV := hid hzv
  obtain ⟨V, hV⟩ : ∃ V, sb v = V := ⟨_, rfl⟩
  obtain ⟨m, hm⟩ : ∃ m, v.length = m := ⟨_, rfl⟩
  have hsz : (V.size : Int) = m := by rw [← hV, sb_size, hm]
  have hmi : (m : Int) ≤ 140737488351232 := by unfold Sz at hzv; omega
  have HV := hid hV; have HM := hid hm
  obtain ⟨is, his, hzs, hss, hbs⟩ := info_ex infoS3
  obtain ⟨ia, hia, hza, hsa, hba⟩ := info_ex infoAt4
  have IS := hid his; have ZS := hid hzs; have SS := hid hss
  have IA := hid hia; have ZA := hid hza; have SA := hid hsa
  rw [hV]
  clear h hy hG hXe hi hj hzn hzv hV hm his hzs hss hbs hia hza hsa hba
  go_enter Tryz.func10, Tryz.ntmps10
  go_wp2_with (first
    | ((with_reducible refine K.atO (.box 25 _) ?_); refine wpL_box rfl _ _ rfl _ rfl [vt, vc] rfl ?_; intro w1 HB1 HF1 HS1; refine Hid.out ?_)
    | fail)
  obtain ⟨b0, hb0⟩ : ∃ b, w.heap.size = b := ⟨_, rfl⟩
  rw [hb0] at HB1 ⊢
  clear hb0 HS1
  refine hid ?_
  go_wp2_with fail
  refine (awake_any w1 (HG.out.no HF1.out)).mono ?_
  rintro e w4 ⟨rfl, f4⟩
  have HR4 : Hid (w4.rangeAt b0 0 [vt, vc]) := hid ((HB1.out.fr f4 id).range 0 _ rfl)
  have HF4 : Hid (Fr No w w4) := hid (HF1.out.trans' f4)
  have HT4 := hid (TysIn.fr (D := No) HT.out HF4.out (fun _ _ _ e => e)); have HC4 := hid (ClsIn.fr (D := No) HC.out HF4.out (fun _ _ _ e => e))
  clear f4 HB1 HF1 HT HC
  go_wp2_with (first
    | ((with_reducible refine K.atO (.load 25 _) ?_); refine wpL_valZ rfl (.agg #[vt, vc]) (exec_load _ _ rfl b0 0 rfl [vt, vc] _ rfl rfl infoSc3 w4 HR4.out) ?_)
    | fail)
  cases hok : okS s with
  | false =>
    refine (new_bad vt vc s w4 HT4.out HC4.out hok).mono ?_
    rintro e w5 ⟨rfl, f5⟩
    have HF5 := hid (HF4.out.trans' f5)
    clear f5 HT4 HC4 hok
    go_wp2_with fail
    go_ret
    exact ⟨rfl, HF5.out⟩
  | true =>
    refine (new_ok vt vc s w4 HT4.out HC4.out hok).mono ?_
    rintro e w5 ⟨q, rfl, hs, f5⟩
    have HF5 : Hid (Fr No w w5) := hid (HF4.out.trans' f5)
    have HTn : Hid (Tn X q s w5) := hid ⟨hs.less (fun k hk => by rw [HX.out] at hk; exact Nat.lt_of_lt_of_le hk HF4.out.size), fun k hk => by rw [HX.out] at hk; exact Nat.lt_of_lt_of_le hk HF5.out.size, HGX.out, HG.out.no HF5.out⟩
    have HQW : Hid (w.heap.size ≤ q) := hid (by have := HTn.out.1.nx; rw [HX.out] at this; omega)
    have HFQ : Hid (∀ u v : World, Fr No w u → Fr (fun i => i = q) u v → Fr No w v) := hid (fun _ _ f g => f.trans g (fun i e => .inr (by rw [e]; exact HQW.out)))
    have HOK := hid hok
    clear hs f5 HT4 HC4 hok HR4 HF4
    go_wp2_with fail
    refine (type_any X q s n w5 HTn.out.1 HTn.out.2.1 HZ.out).mono ?_
    rintro e w6 ⟨rfl, hs, f⟩
    have HT6 := hid (HTn.out.step hs.sx f); have HF6 : Hid (Fr No w w6) := hid (HFQ.out _ _ HF5.out f)
    clear hs f HTn HF5
    go_wp2_with (first
      | ((with_reducible refine K.atO (.alloc 62) ?_); refine wpL_alloc rfl _ rfl _ zeroTy _ rfl ?_; intro y1 HY1 G1 T1)
      | ((with_reducible refine K.atO (.store 62 _ _) ?_); refine wpL_store rfl _ _ _ rfl w6.heap.size 0 (tyV (tyOf s n)) rfl rfl 62 _ HY1.out (by simp [tyV]) infoTy (oneTy _) ?_; intro y2 HY2 G2 T2; refine Hid.out ?_)
      | fail)
    obtain ⟨r, hr⟩ : ∃ r, w6.heap.size = r := ⟨_, rfl⟩
    have HRQ : Hid (r ≠ q) := hid (by have := HT6.out.1.lt; omega)
    have HG2 : Hid (Fr No w6 y2) := hid (G1.out.trans G2.out (fun k e => .inr (by have e : k = w6.heap.size := e; omega)))
    rw [hr] at HY1 HY2 ⊢
    have HB2 : Hid (Blk y2 r 62 (tyV (tyOf s n))) := hid HY2.out
    have HT8 := hid (HT6.out.no HG2.out); have HF8 := hid (HF6.out.trans' HG2.out)
    clear hr HY1 G1 T1 HY2 G2 T2 HT6 HF6 HG2
    refine hid ?_
    go_wp2_with fail
    rw [← HV.out]
    refine (norm_any X q s n v y2 HT8.out.1 HT8.out.2.1 HT8.out.2.2.1.1 HT8.out.2.2.2.1 HZ.out HZV.out).mono ?_
    rintro e w9 ⟨rfl, hs, f⟩
    rw [HV.out]
    have HT9 := hid (HT8.out.step hs.sx f); have HF9 : Hid (Fr No w w9) := hid (HFQ.out _ _ HF8.out f)
    have c5 : w9.cell? ⟨r, 1, none⟩ = some (.int .i64 (tyOf s n).syn) := (HB2.out.fr f HRQ.out).cell 1
    clear hs f HT8 HF8 HB2
    obtain ⟨er, her⟩ : ∃ er, (normE s n v).2 = er := ⟨_, rfl⟩
    have HER := hid her
    obtain ⟨nv, hnv⟩ : ∃ nv, sb (normE s n v).1 = nv := ⟨_, rfl⟩
    rw [her, hnv]
    clear her hnv
    cases hat : s.tyAt n with
    | none =>
      have e1 : (none : Option Nat).isSome = false := rfl
      rw [e1]
      clear hat e1 c5 hsz hmi
      go_wp2_with fail
      go_ret
      exact ⟨rfl, HF9.out⟩
    | some ti =>
    have e1 : (some ti).isSome = true := rfl
    rw [e1]
    clear e1
    have HAT := hid hat
    clear hat
    by_cases her0 : er = 0
    · subst her0
      have HNL := hid (normE_len HAT.out HER.out)
      by_cases h2 : 2 < (tyOf s n).syn
      · clear hsz hmi
        go_wp2_with fail
        go_ret
        exact ⟨rfl, HF9.out⟩
      · have H2 := hid h2
        by_cases hi0 : i < 0
        · clear hsz hmi
          go_wp2_with fail
          go_ret
          exact ⟨rfl, HF9.out⟩
        · by_cases hij : j < i
          · clear hsz hmi
            go_wp2_with fail
            go_ret
            exact ⟨rfl, HF9.out⟩
          · by_cases hjm : (m : Int) < j
            · go_wp2_with fail
              go_ret
              exact ⟨rfl, HF9.out⟩
            · go_wp2_with fail
              have hj0 : ¬ j < 0 := by omega
              have HIJ := hid (show 0 ≤ i ∧ i ≤ j ∧ j ≤ (m : Int) from ⟨by omega, by omega, by omega⟩)
              clear hi0 hij hjm hj0 h2 c5
              go_loopw [18] (fun iv wr => ∃ (g : Nat), iv = .int .i64 g ∧ g ≤ m ∧ Hid ((∀ c ∈ v.take g, c ≠ 32) ∧ Fr No w9 wr)) (fun iv _ => m - (intOf iv).toNat)
              case atStart => exact ⟨0, rfl, Nat.zero_le _, hid ⟨by simp, Fr.refl _ _⟩⟩
              case round =>
                obtain ⟨g, rfl, hg, HO⟩ := hrel
                by_cases hlt : g < m
                · obtain ⟨c, hc⟩ : ∃ c, v[g]? = some c := ⟨_, List.getElem?_eq_getElem (by rw [HM.out]; exact hlt)⟩
                  have hlti : (g : Int) < m := by omega
                  have hi0 : (0 : Int) ≤ g := by omega
                  have HC := hid hc
                  have HLT := hid hlt
                  by_cases h32 : c = 32
                  · subst h32
                    clear hc hlt
                    go_wp2_with (first
                      | ((with_reducible refine K.atO (.index 9 _ _) ?_); refine wpL_valZ (by rfl) (.int .u8 32) (exec_idxB _ _ rfl v HV.out g 32 HC.out _ rfl rfl rfl _) ?_)
                      | fail)
                    go_ret
                    exact ⟨rfl, HF9.out.trans' HO.out.2⟩
                  · have h33 : ((c.toNat : Int) == 32) = false := beqN (fun e => h32 (UInt8.toNat_inj.1 (by have : (32 : UInt8).toNat = 32 := rfl; omega)))
                    have HH := hid h32
                    clear hc hlt h32
                    go_wp2_with (first
                      | ((with_reducible refine K.atO (.index 9 _ _) ?_); refine wpL_valZ (by rfl) (.int .u8 (c.toNat : Int)) (exec_idxB _ _ rfl v HV.out g c HC.out _ rfl rfl rfl _) ?_)
                      | fail)
                    refine ⟨⟨g + 1, by go_num, HLT.out, hid ⟨fun d hd => ?_, HO.out.2⟩⟩, ?_⟩
                    · rw [List.take_add_one, HC.out] at hd
                      rcases List.mem_append.1 hd with h | h
                      · exact HO.out.1 d h
                      · have : d = c := by simpa using h
                        rw [this]; exact HH.out
                    · have := HLT.out
                      simp [intOf]; omega
                · obtain rfl : g = m := by omega
                  have HNS : Hid (∀ c ∈ v, c ≠ 32) := hid (by have h := HO.out.1; rwa [List.take_of_length_le (by rw [HM.out]; exact Nat.le_refl _)] at h)
                  have HTr := hid (HT9.out.no HO.out.2); have HFr : Hid (Fr No w wr) := hid (HF9.out.trans' HO.out.2)
                  obtain rfl := HV.out
                  obtain ⟨k, rfl⟩ : ∃ k : Nat, i = (k : Int) := ⟨i.toNat, by have := HIJ.out; omega⟩
                  obtain ⟨k2, rfl⟩ : ∃ k2 : Nat, j = (k2 : Int) := ⟨j.toNat, by have := HIJ.out; omega⟩
                  have HKK := hid (show k ≤ k2 ∧ k2 ≤ g ∧ g ≤ 200 ∧ (k : Int) ≤ 200 ∧ (k2 : Int) ≤ 200 from by have := HNL.out; have := HM.out; have := HIJ.out; omega)
                  clear hlt hg HO HT9 HF9 HIJ
                  go_wp2_with (first
                    | ((with_reducible refine K.atO (.buildSlice 44 _ _) ?_); (fail_if_success (have := HP1)); refine wpL_buildAll rfl 44 9 [.tmp 88] rfl is _ Tryz.underlying44 IS.out ZS.out (by rw [SS.out]; decide) (by rw [SS.out]; decide) (by decide) [.string (sb v)] rfl (by intro v hv; rw [List.mem_singleton.1 hv, SS.out]; rfl) (strs [v]) rfl ?_; intro p1 HP1 G1 T1; simp only [Act.put, K.put3])
                    | ((with_reducible refine K.atO (.build 60 _) ?_); refine wpL_valZ rfl (.agg #[.string (sb n), .slice (some ⟨wr.heap.size, 0, none⟩) 1 1]) (exec_bld _ [(0, .tmp 87), (1, .tmp 89)] rfl [(0, (.string (sb n))), (1, .slice (some ⟨wr.heap.size, 0, none⟩) 1 1)] rfl _ _ (bat1 _ _ _)) ?_; simp only [Act.put, K.put3])
                    | ((with_reducible refine K.atO (.buildSlice 38 _ _) ?_); refine wpL_buildAll rfl 38 60 [.tmp 90] rfl ia _ Tryz.underlying38 IA.out ZA.out (by rw [SA.out]; decide) (by rw [SA.out]; decide) (by decide) [.agg #[.string (sb n), .slice (some ⟨wr.heap.size, 0, none⟩) 1 1]] rfl (by intro v hv; rw [SA.out, List.mem_singleton.1 hv]; rfl) (List.zipWith (fun a v => [Value.string (sb a.1), v]) [(n, [v])] [(.slice (some ⟨wr.heap.size, 0, none⟩) 1 1)]).flatten rfl ?_; intro p2 HP2 G2 T2; simp only [Act.put, K.put3])
                    | ((with_reducible refine K.atO (.slice 9 _ _ _ _) ?_); refine wpL_valZ rfl (.string (sb (v.take k))) (exec_to _ (.tmp 94) rfl v k rfl rfl (by have := HM.out; have := HKK.out; omega) _ rfl _) ?_; simp only [Act.put, K.put3])
                    | ((with_reducible refine K.atO (.slice 9 _ _ _ _) ?_); refine wpL_valZ rfl (.string (sb ((v.drop k).take (k2 - k)))) (exec_two _ (.tmp 97) (.tmp 98) rfl v k k2 rfl rfl rfl HKK.out.1 (by have := HM.out; have := HKK.out; omega) _ rfl _) ?_; simp only [Act.put, K.put3])
                    | ((with_reducible refine K.atO (.slice 9 _ _ _ _) ?_); refine wpL_valZ rfl (.string (sb (v.drop k2))) (exec_from _ (.tmp 102) rfl v k2 rfl rfl (by have := HM.out; have := HKK.out; omega) _ rfl _) ?_; simp only [Act.put, K.put3])
                    | ((with_reducible refine K.atO (.buildSlice 44 _ _) ?_); refine wpL_buildAll rfl 44 9 [.tmp 99] rfl is _ Tryz.underlying44 IS.out ZS.out (by rw [SS.out]; decide) (by rw [SS.out]; decide) (by decide) [.string (sb ((v.drop k).take (k2 - k)))] rfl (by intro v hv; rw [List.mem_singleton.1 hv, SS.out]; rfl) (strs [(v.drop k).take (k2 - k)]) rfl ?_; intro p3 HP3 G3 T3; simp only [Act.put, K.put3])
                    | ((with_reducible refine K.atO (.build 46 _) ?_); refine wpL_valZ rfl (.agg (ownV n (v.take k) (v.drop k2) p2.heap.size).toArray) (exec_bld _ [(0, .const (.int .i64 4)), (2, .tmp 92), (4, .tmp 95), (5, .tmp 100), (6, .tmp 103)] rfl [(0, .int .i64 4), (2, .string (sb n)), (4, .string (sb (v.take k))), (5, .slice (some ⟨p2.heap.size, 0, none⟩) 1 1), (6, .string (sb (v.drop k2)))] rfl _ _ (bown _ _ _ _ _)) ?_; simp only [Act.put, K.put3])
                    | ((with_reducible refine K.atO (.alloc 46) ?_); refine wpL_alloc rfl _ rfl _ zeroFl' (flV fl0 (.slice none 0 0) (.slice none 0 0)) rfl ?_; intro p4 HP4 G4 T4; simp only [Act.put, K.put3])
                    | ((with_reducible refine K.atO (.store 46 _ _) ?_); refine wpL_store rfl _ _ _ rfl p3.heap.size 0 (ownV n (v.take k) (v.drop k2) p2.heap.size) rfl rfl 46 _ HP4.out (by simp [ownV, flV]) infoFl (ownV_seven _ _ _ _).2 ?_; intro p5 HP5 G5 T5; refine Hid.out ?_)
                    | fail)
                  have hold : Facts.hold [] p2.drew := Facts.nil_hold _
                  refine wpD_region hold (by kernel_rfl) 15 rfl ?_
                  (refine wpD_plain 0 (v := ?_) rfl (by kernel_rfl) (by kernel_rfl) (by kernel_rfl) (fun _ _ _ h => h) (by rfl) ?_ (by assumption) ?_; rotate_left; (intro _w; go_simp; try with_reducible rfl); simp only [Act.put, K.put3])
                  (refine wpD_plain 1 (v := ?_) rfl (by kernel_rfl) (by kernel_rfl) (by kernel_rfl) (fun _ _ _ h => h) (by rfl) ?_ (by assumption) ?_; rotate_left; (intro _w; go_simp; try with_reducible rfl); simp only [Act.put, K.put3])
                  (refine wpD_plain 2 (v := ?_) rfl (by kernel_rfl) (by kernel_rfl) (by kernel_rfl) (fun _ _ _ h => h) (by rfl) ?_ (by assumption) ?_; rotate_left; (intro _w; go_simp; try with_reducible rfl); simp only [Act.put, K.put3])
                  (refine wpD_plain 3 (v := (.string (sb (v.take k)))) rfl (by kernel_rfl) (by kernel_rfl) (by kernel_rfl) (fun _ _ _ h => h) (by rfl) ?_ (by assumption) ?_; (intro _w; exact exec_to _ (.tmp 94) rfl v k rfl rfl (by have := HM.out; have := HKK.out; omega) _ rfl _); simp only [Act.put, K.put3])
                  (refine wpD_plain 4 (v := ?_) rfl (by kernel_rfl) (by kernel_rfl) (by kernel_rfl) (fun _ _ _ h => h) (by rfl) ?_ (by assumption) ?_; rotate_left; (intro _w; go_simp; try with_reducible rfl); simp only [Act.put, K.put3])
                  (refine wpD_plain 5 (v := ?_) rfl (by kernel_rfl) (by kernel_rfl) (by kernel_rfl) (fun _ _ _ h => h) (by rfl) ?_ (by assumption) ?_; rotate_left; (intro _w; go_simp; try with_reducible rfl); simp only [Act.put, K.put3])
                  (refine wpD_plain 6 (v := ?_) rfl (by kernel_rfl) (by kernel_rfl) (by kernel_rfl) (fun _ _ _ h => h) (by rfl) ?_ (by assumption) ?_; rotate_left; (intro _w; go_simp; try with_reducible rfl); simp only [Act.put, K.put3])
                  (refine wpD_plain 7 (v := (.string (sb ((v.drop k).take (k2 - k))))) rfl (by kernel_rfl) (by kernel_rfl) (by kernel_rfl) (fun _ _ _ h => h) (by rfl) ?_ (by assumption) ?_; (intro _w; exact exec_two _ (.tmp 97) (.tmp 98) rfl v k k2 rfl rfl rfl HKK.out.1 (by have := HM.out; have := HKK.out; omega) _ rfl _); simp only [Act.put, K.put3])
                  (refine wpD_plain 9 (v := ?_) rfl (by kernel_rfl) (by kernel_rfl) (by kernel_rfl) (fun _ _ _ h => h) (by rfl) ?_ (by assumption) ?_; rotate_left; (intro _w; go_simp; try with_reducible rfl); simp only [Act.put, K.put3])
                  (refine wpD_plain 10 (v := ?_) rfl (by kernel_rfl) (by kernel_rfl) (by kernel_rfl) (fun _ _ _ h => h) (by rfl) ?_ (by assumption) ?_; rotate_left; (intro _w; go_simp; try with_reducible rfl); simp only [Act.put, K.put3])
                  (refine wpD_plain 11 (v := (.string (sb (v.drop k2)))) rfl (by kernel_rfl) (by kernel_rfl) (by kernel_rfl) (fun _ _ _ h => h) (by rfl) ?_ (by assumption) ?_; (intro _w; exact exec_from _ (.tmp 102) rfl v k2 rfl rfl (by have := HM.out; have := HKK.out; omega) _ rfl _); simp only [Act.put, K.put3])
                  clear hold
                  refine wpD_join (fun a a' w' => ∃ p y : Nat, a' = ((a.put (some 100) (.slice (some ⟨p, 0, none⟩) 1 1)).put (some 104) (.agg (ownV n (v.take k) (v.drop k2) p).toArray)).put (some 20) (.pointer (some ⟨y, 0, none⟩)) ∧ Blk w' p 9 (strs [(v.drop k).take (k2 - k)]) ∧ Blk w' y 46 (flV fl0 (.slice none 0 0) (.slice none 0 0)) ∧ Fr No p2 w' ∧ p2.heap.size ≤ p ∧ p2.heap.size ≤ y ∧ p ≠ y) [] 1 ((Array.replicate 15 true).setIfInBounds 14 false) (fun tail => ?_) ?_
                  · refine wpD_two 8 13 [] [] rfl rfl (by kernel_rfl) (by kernel_rfl) (by kernel_rfl) (by rfl) (by rfl) ?_ ?_
                    · intro K hK
                      refine wp_buildOne 44 9 (.tmp 99) rfl is _ Tryz.underlying44 IS.out ZS.out (by rw [SS.out]; decide) (by rw [SS.out]; decide) (.string (sb ((v.drop k).take (k2 - k)))) (strs [(v.drop k).take (k2 - k)]) rfl rfl (by rw [SS.out]; rfl) ?_
                      intro p3 HP3 G3 T3
                      refine hK _ _ (Facts.nil_hold _) ?_
                      clear hK K
                      simp only [Act.put, K.put3]
                      have hold : Facts.hold [] p3 := Facts.nil_hold _
                      (refine wpD_plain 12 (v := (.agg (ownV n (v.take k) (v.drop k2) p2.heap.size).toArray)) rfl (by kernel_rfl) (by kernel_rfl) (by kernel_rfl) (fun _ _ _ h => h) (by rfl) ?_ (by assumption) ?_; (intro _w; exact exec_bld _ [(0, .const (.int .i64 4)), (2, .tmp 92), (4, .tmp 95), (5, .tmp 100), (6, .tmp 103)] rfl [(0, .int .i64 4), (2, .string (sb n)), (4, .string (sb (v.take k))), (5, .slice (some ⟨p2.heap.size, 0, none⟩) 1 1), (6, .string (sb (v.drop k2)))] rfl _ _ (bown _ _ _ _ _)); simp only [Act.put, K.put3])
                      clear hold
                      refine wpD_only 13 [] rfl (by kernel_rfl) (by kernel_rfl) (by rfl) (fun K7 hK7 => ?_)
                      refine wp_alloc _ rfl _ zeroFl' (flV fl0 (.slice none 0 0) (.slice none 0 0)) rfl ?_
                      intro p4 HP4 G4 T4
                      refine hK7 _ _ (Facts.nil_hold _) ?_
                      clear hK7 K7
                      simp only [Act.put, K.put3]
                      have ht3 : p3.heap.size = p2.heap.size + 1 := T3.out
                      exact wpD_cast (by kernel_rfl) (tail _ _ ⟨p2.heap.size, p3.heap.size, rfl, HP3.out.fr G4.out id, HP4.out, ((Fr.refl No p2).drew.trans' G3.out).trans' G4.out, Nat.le_refl _, by omega, by omega⟩ (Facts.nil_hold _))
                    · intro K hK
                      refine wp_alloc _ rfl _ zeroFl' (flV fl0 (.slice none 0 0) (.slice none 0 0)) rfl ?_
                      intro p3 HP3 G3 T3
                      refine hK _ _ (Facts.nil_hold _) ?_
                      clear hK K
                      simp only [Act.put, K.put3]
                      refine wpD_only 8 [] rfl (by kernel_rfl) (by kernel_rfl) (by rfl) (fun K7 hK7 => ?_)
                      refine wp_buildOne 44 9 (.tmp 99) rfl is _ Tryz.underlying44 IS.out ZS.out (by rw [SS.out]; decide) (by rw [SS.out]; decide) (.string (sb ((v.drop k).take (k2 - k)))) (strs [(v.drop k).take (k2 - k)]) rfl rfl (by rw [SS.out]; rfl) ?_
                      intro p4 HP4 G4 T4
                      refine hK7 _ _ (Facts.nil_hold _) ?_
                      clear hK7 K7
                      simp only [Act.put, K.put3]
                      have hold : Facts.hold [] p4 := Facts.nil_hold _
                      (refine wpD_plain 12 (v := (.agg (ownV n (v.take k) (v.drop k2) p3.heap.size).toArray)) rfl (by kernel_rfl) (by kernel_rfl) (by kernel_rfl) (fun _ _ _ h => h) (by rfl) ?_ (by assumption) ?_; (intro _w; exact exec_bld _ [(0, .const (.int .i64 4)), (2, .tmp 92), (4, .tmp 95), (5, .tmp 100), (6, .tmp 103)] rfl [(0, .int .i64 4), (2, .string (sb n)), (4, .string (sb (v.take k))), (5, .slice (some ⟨p3.heap.size, 0, none⟩) 1 1), (6, .string (sb (v.drop k2)))] rfl _ _ (bown _ _ _ _ _)); simp only [Act.put, K.put3])
                      clear hold
                      have ht3 : p3.heap.size = p2.heap.size + 1 := T3.out
                      exact wpD_cast (by kernel_rfl) (tail _ _ ⟨p3.heap.size, p2.heap.size, rfl, HP4.out, HP3.out.fr G4.out id, ((Fr.refl No p2).drew.trans' G3.out).trans' G4.out, by omega, Nat.le_refl _, by omega⟩ (Facts.nil_hold _))
                  rintro a' w' ⟨p, y, rfl, hp, hy, hfr, hp2, hy2, hpy⟩ -
                  have HP3 := hid hp; have HY3 := hid hy; have HW3 := hid hfr; have HPY := hid (show p2.heap.size ≤ p ∧ p2.heap.size ≤ y ∧ p ≠ y from ⟨hp2, hy2, hpy⟩)
                  clear hp hy hfr hp2 hy2 hpy
                  simp only [Act.put, K.put3]
                  refine wpD_only 14 [] rfl (by kernel_rfl) (by kernel_rfl) (by rfl) (fun K8 hK8 => ?_)
                  refine wp_storeB 46 _ _ rfl y 0 (ownV n (v.take k) (v.drop k2) p) rfl rfl 46 _ HY3.out (by simp [ownV, flV]) infoFl (ownV_seven _ _ _ _).2 ?_
                  intro p5 HP5 G5 T5
                  refine hK8 _ _ (Facts.nil_hold _) ?_
                  clear hK8 K8
                  simp only [Act.put, K.put3]
                  refine wpD_done (by kernel_rfl) ?_ _
                  have HQ1 := hid (show wr.heap.size ≠ q ∧ p1.heap.size = wr.heap.size + 1 ∧ p2.heap.size = wr.heap.size + 2 ∧ q < wr.heap.size from by have := HTr.out.1.lt; have := T1.out; have := T2.out; omega)
                  have HFa : Hid (Fr No p2 p5) := hid (HW3.out.trans G5.out (fun e he => .inr (by have he : e = y := he; have := HPY.out; omega)))
                  have HFb : Hid (Fr No wr p5) := hid ((G1.out.trans' G2.out).trans' HFa.out)
                  have HB5 : Hid (Blk p5 y 46 (ownV n (v.take k) (v.drop k2) p)) := hid (by
                    have h := HP5.out
                    rw [spl_whole (flV fl0 (.slice none 0 0) (.slice none 0 0)) _ (by rw [(ownV_seven _ _ _ _).1]; rfl)] at h
                    exact h)
                  have HS5 : Hid (Blk p5 p 9 (strs [(v.drop k).take (k2 - k)])) := hid (HP3.out.fr G5.out (by show ¬ p = y; have := HPY.out; omega))
                  have HE5 : Hid (Ent1 p5 wr.heap.size p1.heap.size n v) := hid ⟨(HP1.out.fr G2.out id).fr HFa.out id, HP2.out.fr HFa.out id⟩
                  have HYW := hid (show w.heap.size ≤ y from by have := HPY.out; have := HQ1.out; have := HQW.out; omega)
                  have HGY : Hid (GM (fun k => k < y)) := hid (by
                    have h := HGX.out
                    rw [HX.out] at h
                    have hw := HYW.out
                    exact ⟨⟨Nat.lt_of_lt_of_le h.1.1 hw, Nat.lt_of_lt_of_le h.1.2.1 hw, Nat.lt_of_lt_of_le h.1.2.2 hw⟩, Nat.lt_of_lt_of_le h.2 hw⟩)
                  have HTf : Hid (Tn (Also X y) q s p5) := hid ((HTr.out.no (G1.out.trans' G2.out)).also HPY.out.2.1 HFa.out HB5.out.lt); have HFf := hid (HFr.out.trans' HFb.out)
                  have HNQ := hid (show p ≠ q ∧ y ≠ q ∧ p ≠ y ∧ wr.heap.size ≠ q ∧ p1.heap.size ≠ q ∧ wr.heap.size ≠ y ∧ p1.heap.size ≠ y from by have := HPY.out; have := HQ1.out; omega)
                  have HES := hid (show EnS [(n, [v])] from fun a ha x hx => by
                    rw [List.mem_singleton.1 ha] at hx
                    rw [List.mem_singleton.1 hx]
                    unfold Sm; have := HNL.out; omega)
                  obtain ⟨P1, P2⟩ := parts_ok HOK.out (tyN_at HAT.out) H2.out HNS.out k k2 HKK.out.1
                  have HL1 := hid P1; have HL2 := hid P2
                  have hd0 : v.drop k2 ++ [] = v.drop k2 := List.append_nil _
                  have EV := ev4l (Also X y) q p s _ [(n, [v])] n v k k2 [] p5 HTf.out (HE5.out.en HNQ.out.2.2.2.1 HNQ.out.2.2.2.2.1 HZ.out HZV.out) HES.out HS5.out HNQ.out.1 HZ.out HNL.out (by decide)
                  rw [hd0] at EV
                  have HEV := hid EV
                  obtain ⟨g1, hg1⟩ : ∃ b, wr.heap.size = b := ⟨_, rfl⟩
                  obtain ⟨g2, hg2⟩ : ∃ b, p1.heap.size = b := ⟨_, rfl⟩
                  rw [hg1, hg2] at HE5 HNQ
                  rw [hg2] at HEV
                  rw [hg1, hg2]
                  clear P1 P2 hd0 EV hg1 hg2 HP1 G1 T1 HP2 G2 T2 HP3 HW3 HPY HP5 G5 T5 HTr HFr HFa HFb HQ1
                  refine Hid.out ?_
                  refine hid ?_
                  go_wp2_with (first
                    | ((with_reducible refine K.atO (.load 46 _) ?_); refine wpL_load rfl _ _ rfl y 0 rfl (ownV n (v.take k) (v.drop k2) p) _ (HB5.out.range 0 _ rfl) rfl rfl infoFl ?_)
                    | fail)
                  refine HEV.out.mono ?_
                  rintro e a1 ⟨rfl, hs, f⟩
                  rw [HL1.out]
                  have HTg := hid (HTf.out.step hs f); have HFg : Hid (Fr No w a1) := hid (HFQ.out _ _ HFf.out f)
                  have HEg := hid (HE5.out.fr f HNQ.out.2.2.2.1 HNQ.out.2.2.2.2.1); have HBg := hid (HB5.out.fr f HNQ.out.2.1); have HSg := hid (HS5.out.fr f HNQ.out.1)
                  clear hs f HTf HFf HE5 HB5 HS5 HEV HL1
                  go_wp2_with (first
                    | ((with_reducible refine K.atO (.slice 9 _ _ _ _) ?_); refine wpL_valZ rfl (.string (sb (v.drop k2))) (exec_from _ (.tmp 110) rfl v k2 rfl rfl (by have := HM.out; have := HKK.out; omega) _ rfl _) ?_; simp only [Act.put, K.put3])
                    | ((with_reducible refine K.atO (.binOp .add 9 _ _ _) ?_); refine wpL_valZ rfl (.string (sb (v.drop k2 ++ [1]))) (exec_addS _ _ _ rfl (v.drop k2) [1] rfl rfl (by have := HNL.out; simp; omega) _ rfl _) ?_; simp only [Act.put, K.put3])
                    | ((with_reducible refine K.atO (.store 9 _ _) ?_); refine wpL_setV rfl _ _ _ rfl y 6 (.string (sb (v.drop k2 ++ [1]))) rfl rfl rfl rfl 46 _ HBg.out (by simp [ownV]) infoS1 ?_; intro y3 HY3 G3 T3; refine Hid.out ?_)
                    | fail)
                  have HBh : Hid (Blk y3 y 46 (ownV n (v.take k) (v.drop k2 ++ [1]) p)) := hid HY3.out
                  have HFh : Hid (Fr No w y3) := hid (HFg.out.trans G3.out (fun e he => .inr (by have he : e = y := he; have := HYW.out; omega)))
                  have HTh := hid (HTg.out.set G3.out HGY.out)
                  have HEh := hid (HEg.out.fr G3.out HNQ.out.2.2.2.2.2.1 HNQ.out.2.2.2.2.2.2); have HSh := hid (HSg.out.fr G3.out HNQ.out.2.2.1)
                  clear HY3 G3 T3 HTg HFg HEg HBg HSg HYW HGY
                  refine hid ?_
                  go_wp2_with (first
                    | ((with_reducible refine K.atO (.load 46 _) ?_); refine wpL_load rfl _ _ rfl y 0 rfl (ownV n (v.take k) (v.drop k2 ++ [1]) p) _ (HBh.out.range 0 _ rfl) rfl rfl infoFl ?_)
                    | fail)
                  refine (ev4l (Also X y) q p s _ [(n, [v])] n v k k2 [1] y3 HTh.out (HEh.out.en HNQ.out.2.2.2.1 HNQ.out.2.2.2.2.1 HZ.out HZV.out) HES.out HSh.out HNQ.out.1 HZ.out HNL.out (by decide)).mono ?_
                  rintro e a2 ⟨rfl, hs, f⟩
                  rw [HL2.out]
                  have HFi : Hid (Fr No w a2) := hid (HFQ.out _ _ HFh.out f)
                  clear hs f HTh HFh HEh HBh HSh HL2
                  go_wp2_with fail
                  go_ret
                  exact ⟨rfl, HFi.out⟩
    · have her1 := beqN her0
      clear hsz hmi c5
      go_wp2_with fail
      go_ret
      exact ⟨rfl, HF9.out⟩
end Go.Proofs.YtdkkpfeiaaffhaaGreatDoor.FT
