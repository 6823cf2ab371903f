/-
  Part 20 of the proof: SdF, ScL, SdR, SdS, FtPt.
-/
import Derived.Test.YtgbiicipkbpmeaaGreatDoorFe19
import Derived.Test.YtgbiicipkbpmeaaGreatDoorFe02
import Derived.Test.YtgbiicipkbpmeaaGreatDoorFe18
import Derived.Test.YtgbiicipkbpmeaaGreatDoorFe13
import Derived.Test.YtgbiicipkbpmeaaGreatDoorFe16
set_option linter.unusedSimpArgs false
set_option linter.unusedVariables false
namespace Go.Proofs.YtgbiicipkbpmeaaGreatDoor.SC
set_option maxRecDepth 100000
set_option maxHeartbeats 128000000
open Go.RowKit K BE DN
theorem infoAt3 : (Tryz.prog.info? 45).map (fun i => (i.zero, i.size, i.bytes)) = some (some (.agg #[.string ⟨#[]⟩, .slice none 0 0]), 2, 40) := by kernel_rfl
theorem bat (n : B) (p l : Nat) (w : World) : (Instr.build 45 [(0, .string (sb n)), (1, .slice (some ⟨p, 0, none⟩) l l)].toArray).run Tryz.prog w = .ok (.agg #[.string (sb n), .slice (some ⟨p, 0, none⟩) l l]) w := by kernel_rfl
def St (X : Nat → Prop) (w : World) (b c1 p1 c2 p2 : Nat) : Prop := Sx w X b exS ∧ Gs w ∧ (∀ k, X k → k < w.heap.size) ∧
 Blk w c1 45 [.string (sb sOC), .slice (some ⟨p1, 0, none⟩) 1 1] ∧ Blk w p1 9 (strs [sPerson]) ∧
 Blk w c2 45 [.string (sb sCn), .slice (some ⟨p2, 0, none⟩) 1 1] ∧ Blk w p2 9 (strs [[65]]) ∧ c1 ≠ b ∧ p1 ≠ b ∧ c2 ≠ b ∧ p2 ≠ b
section
variable {X : Nat → Prop} {w w' : World} {b c1 p1 c2 p2 : Nat}
theorem St.step (h : St X w b c1 p1 c2 p2) (hx : GX X) (hs : Sx w' X b exS) (hf : Fr (fun k => k = b) w w') : St X w' b c1 p1 c2 p2 := by
 obtain ⟨h1, h2, h3, h4, h5, h6, h7, h8, h9, h10, h11⟩ := h
 exact ⟨hs, hs.bb h2 hf hx, fun k hk => Nat.lt_of_lt_of_le (h3 k hk) hf.size, h4.fr hf h8, h5.fr hf h9, h6.fr hf h10, h7.fr hf h11, h8, h9, h10, h11⟩
theorem St.no (h : St X w b c1 p1 c2 p2) (hf : Fr No w w') : St X w' b c1 p1 c2 p2 := by
 obtain ⟨h1, h2, h3, h4, h5, h6, h7, h8, h9, h10, h11⟩ := h
 exact ⟨h1.no hf, h2.no hf, fun k hk => Nat.lt_of_lt_of_le (h3 k hk) hf.size, h4.fr hf id, h5.fr hf id, h6.fr hf id, h7.fr hf id, h8, h9, h10, h11⟩
theorem St.lt (h : St X w b c1 p1 c2 p2) : b < w.heap.size := h.1.lt
theorem ls_blk {p : Nat} (l : List B) (h : Blk w p 9 (strs l)) (hp : p ≠ b) (hl : l.length ≤ 140737488351232) (hz : ∀ x ∈ l, Sz x) : LsIn (fun i => i ≠ b) w (.slice (some ⟨p, 0, none⟩) l.length l.length) l :=
 LsIn.mono (blk_ls l h hl hz) (fun i hi _ => by have hi : i = p := hi; rw [hi]; exact hp)
theorem en_blk {e : Nat} (en : Ent) (vs : List Value) (h : Blk w e 45 (List.zipWith (fun a v => [Value.string (sb a.1), v]) en vs).flatten) (hl : vs.length = en.length) (hz : ∀ (j : Nat) (a : Atr) (v : Value), en[j]? = some a → vs[j]? = some v → Sz a.1 ∧ LsIn (fun i => i ≠ b) w v a.2) (he : e ≠ b) (hn : en.length ≤ 140737488351232) :
  EnIn (fun i => i ≠ b) w (.slice (some ⟨e, 0, none⟩) en.length en.length) en := by
 have := blk_sl (k := 2) (p := AtC (fun i => i ≠ b) w) en (List.zipWith (fun a v => [Value.string (sb a.1), v]) en vs) h (by rw [List.length_zipWith, hl, Nat.min_self]) (by
  intro c hc
  obtain ⟨j, hj, rfl⟩ := List.getElem_of_mem hc
  rw [List.getElem_zipWith]
  rfl) (fun j x c hx hc => by
  rw [List.getElem?_zipWith] at hc
  rw [hx] at hc
  cases hv : vs[j]? with
  | none => rw [hv] at hc; simp at hc
  | some v =>
   rw [hv] at hc
   have hc : [Value.string (sb x.1), v] = c := by simpa using hc
   obtain ⟨h1, h2⟩ := hz j x v hx hv
   exact ⟨v, hc.symm, h1, h2⟩) hn
 exact Sl.mono this (fun i hi _ => by have hi : i = e := hi; rw [hi]; exact he) (fun _ _ _ h => h)
theorem sz_s {l : B} (h : l.length ≤ 100) : Sz l := by unfold Sz; omega
end
theorem awake_any (w : World) (hG : Gs w) : Calls Tryz.prog 5 #[] w fun e w' => e = .returned (.bool true) ∧ Fr No w w' := by
 obtain ⟨X, hXe⟩ : ∃ X : Nat → Prop, X = fun k => k < w.heap.size := ⟨_, rfl⟩
 have HX := hid hXe
 have HGX : Hid (GX X) := hid (by rw [hXe]; exact hG.gx)
 have HG := hid hG
 obtain ⟨is, his, hzs, hss, hbs⟩ := info_ex infoS3
 obtain ⟨ia, hia, hza, hsa, hba⟩ := info_ex infoAt3
 have IS := hid his; have ZS := hid hzs; have SS := hid hss
 have IA := hid hia; have ZA := hid hza; have SA := hid hsa
 clear his hzs hss hbs hia hza hsa hba hXe hG
 go_enter Tryz.func5, Tryz.ntmps5
 go_wp2_with fail
 refine (example_any _).mono ?_
 rintro e w1 ⟨vt, vc, rfl, ht, hc, f1⟩
 have HT := hid ht; have HC := hid hc; have HF1 := hid f1
 clear ht hc f1
 go_wp2_with fail
 refine (new_ok vt vc exS w1 HT.out HC.out ex_ok).mono ?_
 rintro e w2 ⟨b, rfl, hs, f2⟩
 have HS2 : Hid (Sx w2 X b exS) := hid (hs.less (fun k hk => by rw [HX.out] at hk; exact Nat.lt_of_lt_of_le hk HF1.out.size))
 have HF2 : Hid (Fr No w w2) := hid (HF1.out.trans' f2)
 have HBW : Hid (w.heap.size ≤ b) := hid (by have := HS2.out.nx; rw [HX.out] at this; omega)
 have HBL := hid hs.lt
 clear hs f2 HT HC HF1
 go_wp2_with (first
  | ((with_reducible refine K.atO (.store 45 _ _) ?_); (have := Hy7); refine wpL_store rfl _ _ _ rfl y6.heap.size 0 [.string (sb sCn), .slice (some ⟨y4.heap.size, 0, none⟩) 1 1] rfl rfl 45 _ Hy7.out (by simp) infoAt (by simp [Value.oneCell']) ?_; intro y8 Hy8 Gy8 Ty8; simp only [K.pu])
  | ((with_reducible refine K.atO (.alloc 45) ?_); (have := Hy6); refine wpL_alloc rfl _ rfl _ zeroAt [.string ⟨#[]⟩, .slice none 0 0] rfl ?_; intro y7 Hy7 Gy7 Ty7; simp only [K.pu])
  | ((with_reducible refine K.atO (.build 45 _) ?_); (have := Hy6); refine wpL_valZ rfl (.agg #[.string (sb sCn), .slice (some ⟨y4.heap.size, 0, none⟩) 1 1]) (exec_bld _ [(0, .const (.string (sb sCn))), (1, .tmp 32)] rfl [(0, (.string (sb sCn))), (1, .slice (some ⟨y4.heap.size, 0, none⟩) 1 1)] rfl _ _ (bat _ _ _ _)) ?_; simp only [K.pu])
  | ((with_reducible refine K.atO (.buildSlice 37 _ _) ?_); (have := Hy4); refine wpL_buildAll rfl 37 9 [.const (.string (sb [65]))] rfl is _ Tryz.underlying37 IS.out ZS.out (by rw [SS.out]; decide) (by rw [SS.out]; decide) (by decide) [.string (sb [65])] rfl (by intro v hv; rw [List.mem_singleton.1 hv, SS.out]; rfl) (strs [[65]]) rfl ?_; intro y6 Hy6 Gy6 Ty6; simp only [K.pu])
  | ((with_reducible refine K.atO (.store 45 _ _) ?_); refine wpL_store rfl _ _ _ rfl y2.heap.size 0 [.string (sb sOC), .slice (some ⟨w2.heap.size, 0, none⟩) 1 1] rfl rfl 45 _ Hy3.out (by simp) infoAt (by simp [Value.oneCell']) ?_; intro y4 Hy4 Gy4 Ty4; simp only [K.pu])
  | ((with_reducible refine K.atO (.alloc 45) ?_); refine wpL_alloc rfl _ rfl _ zeroAt [.string ⟨#[]⟩, .slice none 0 0] rfl ?_; intro y3 Hy3 Gy3 Ty3; simp only [K.pu])
  | ((with_reducible refine K.atO (.build 45 _) ?_); refine wpL_valZ rfl (.agg #[.string (sb sOC), .slice (some ⟨w2.heap.size, 0, none⟩) 1 1]) (exec_bld _ [(0, .const (.string (sb sOC))), (1, .tmp 29)] rfl [(0, (.string (sb sOC))), (1, .slice (some ⟨w2.heap.size, 0, none⟩) 1 1)] rfl _ _ (bat _ _ _ _)) ?_; simp only [K.pu])
  | ((with_reducible refine K.atO (.buildSlice 37 _ _) ?_); refine wpL_buildAll rfl 37 9 [.const (.string (sb sPerson))] rfl is _ Tryz.underlying37 IS.out ZS.out (by rw [SS.out]; decide) (by rw [SS.out]; decide) (by decide) [.string (sb sPerson)] rfl (by intro v hv; rw [List.mem_singleton.1 hv, SS.out]; rfl) (strs [sPerson]) rfl ?_; intro y2 Hy2 Gy2 Ty2; simp only [K.pu]))
 have HST : Hid (St X y8 b y2.heap.size w2.heap.size y6.heap.size y4.heap.size) := by
  have t2 := Ty2.out; have t3 := Ty3.out; have t4 := Ty4.out; have t6 := Ty6.out; have t7 := Ty7.out; have hbl := HBL.out
  have fa : Fr No w2 y4 := (Gy2.out.trans' Gy3.out).trans Gy4.out (fun i e => .inr (by have e : i = y2.heap.size := e; omega))
  have fb : Fr No y4 y8 := (Gy6.out.trans' Gy7.out).trans Gy8.out (fun i e => .inr (by have e : i = y6.heap.size := e; omega))
  have f := fa.trans' fb
  exact hid ⟨HS2.out.no f, HG.out.no (HF2.out.trans' f), fun i hi => by rw [HX.out] at hi; exact Nat.lt_of_lt_of_le (show i < w.heap.size from hi) (HF2.out.trans' f).size,
   Hy4.out.fr fb id, ((Hy2.out.fr Gy3.out id).fr Gy4.out (by show ¬ w2.heap.size = y2.heap.size; omega)).fr fb id, Hy8.out, (Hy6.out.fr Gy7.out id).fr Gy8.out (by show ¬ y4.heap.size = y6.heap.size; omega), by omega, by omega, by omega, by omega⟩
 have HF8 : Hid (Fr No w y8) := by
  have t2 := Ty2.out; have t3 := Ty3.out; have t4 := Ty4.out; have t6 := Ty6.out; have t7 := Ty7.out
  have fa : Fr No w2 y4 := (Gy2.out.trans' Gy3.out).trans Gy4.out (fun i e => .inr (by have e : i = y2.heap.size := e; omega))
  have fb : Fr No y4 y8 := (Gy6.out.trans' Gy7.out).trans Gy8.out (fun i e => .inr (by have e : i = y6.heap.size := e; omega))
  exact hid (HF2.out.trans' (fa.trans' fb))
 generalize w2.heap.size = p1 at HST ⊢
 generalize y2.heap.size = c1 at HST ⊢
 generalize y4.heap.size = p2 at HST ⊢
 generalize y6.heap.size = c2 at HST ⊢
 clear Hy2 Gy2 Ty2 Hy3 Gy3 Ty3 Hy4 Gy4 Ty4 Hy6 Gy6 Ty6 Hy7 Gy7 Ty7 Hy8 Gy8 Ty8 HS2 HBL HF2
 have HA0 := HF8; clear HF8
 have HFB : ∀ u v : World, Fr No w u → Fr (fun i => i = b) u v → Fr No w v := fun _ _ f g => f.trans g (fun i e => .inr (by rw [e]; exact HBW.out))
 have HFBH := hid HFB
 clear HFB
 go_wp2_with fail
 refine (norm_any X b exS [67, 78] [32, 65, 32, 32, 98] y8 HST.out.1 HST.out.2.2.1 HGX.out HST.out.2.1 (sz_s (by decide)) (sz_s (by decide))).mono ?_
 rintro e a1 ⟨rfl, hs, f⟩
 have HS1 := hid (HST.out.step HGX.out hs.sx f); have HA1 : Hid (Fr No w a1) := hid (HFBH.out _ _ HA0.out f)
 simp only [ex_n1]
 clear hs f HST HA0
 go_wp2_with fail
 refine (norm_any X b exS sAge [48, 48, 55] a1 HS1.out.1 HS1.out.2.2.1 HGX.out HS1.out.2.1 (sz_s (by decide)) (sz_s (by decide))).mono ?_
 rintro e a2 ⟨rfl, hs, f⟩
 have HS2 := hid (HS1.out.step HGX.out hs.sx f); have HA2 : Hid (Fr No w a2) := hid (HFBH.out _ _ HA1.out f)
 simp only [ex_n2]
 clear hs f HS1 HA1
 go_wp2_with fail
 refine (cmp_any X b exS sAge [45, 53] [49, 50] a2 HS2.out.1 HS2.out.2.2.1 HGX.out HS2.out.2.1 (sz_s (by decide)) (sz_s (by decide)) (sz_s (by decide))).mono ?_
 rintro e a3 ⟨rfl, hs, f⟩
 have HS3 := hid (HS2.out.step HGX.out hs.sx f); have HA3 : Hid (Fr No w a3) := hid (HFBH.out _ _ HA2.out f)
 simp only [ex_c]
 clear hs f HS2 HA2
 have LD1 : Hid (a3.rangeAt c1 0 [.string (sb sOC), .slice (some ⟨p1, 0, none⟩) 1 1]) := hid (HS3.out.2.2.2.1.range 0 _ rfl)
 have LD2 : Hid (a3.rangeAt c2 0 [.string (sb sCn), .slice (some ⟨p2, 0, none⟩) 1 1]) := hid (HS3.out.2.2.2.2.2.1.range 0 _ rfl)
 go_wp2_with (first
  | ((with_reducible refine K.atO (.load 45 _) ?_); refine wpL_valZ rfl (.agg #[.string (sb sOC), .slice (some ⟨p1, 0, none⟩) 1 1]) (exec_load _ (.tmp 3) rfl c1 0 rfl [.string (sb sOC), .slice (some ⟨p1, 0, none⟩) 1 1] _ rfl rfl infoAt a3 LD1.out) ?_; simp only [K.pu])
  | ((with_reducible refine K.atO (.load 45 _) ?_); refine wpL_valZ rfl (.agg #[.string (sb sCn), .slice (some ⟨p2, 0, none⟩) 1 1]) (exec_load _ (.tmp 4) rfl c2 0 rfl [.string (sb sCn), .slice (some ⟨p2, 0, none⟩) 1 1] _ rfl rfl infoAt a3 LD2.out) ?_; simp only [K.pu])
  | ((with_reducible refine K.atO (.buildSlice 26 _ _) ?_); refine wpL_buildAll rfl 26 45 [.tmp 49, .tmp 50] rfl ia _ Tryz.underlying26 IA.out ZA.out (by rw [SA.out]; decide) (by rw [SA.out]; decide) (by decide) [.agg #[.string (sb sOC), .slice (some ⟨p1, 0, none⟩) 1 1], .agg #[.string (sb sCn), .slice (some ⟨p2, 0, none⟩) 1 1]] rfl (by intro v hv; rw [SA.out]; simp only [List.mem_cons, List.not_mem_nil, or_false] at hv; rcases hv with rfl | rfl <;> rfl) (List.zipWith (fun a v => [Value.string (sb a.1), v]) [aOC, aCn] [(.slice (some ⟨p1, 0, none⟩) 1 1), (.slice (some ⟨p2, 0, none⟩) 1 1)]).flatten rfl ?_; intro z2 Hz2 Gz2 Tz2; simp only [K.pu]))
 have HS4 := hid (HS3.out.no Gz2.out); have HA4 := hid (HA3.out.trans' Gz2.out)
 have HE4 : Hid (EnIn (fun i => i ≠ b) z2 (.slice (some ⟨a3.heap.size, 0, none⟩) 2 2) [aOC, aCn]) := by
  have hbl := HS3.out.lt
  obtain ⟨-, -, -, -, hp1, -, hp2, -, hn1, -, hn2⟩ := HS4.out
  refine hid (en_blk [aOC, aCn] [(.slice (some ⟨p1, 0, none⟩) 1 1), (.slice (some ⟨p2, 0, none⟩) 1 1)] Hz2.out rfl (fun j a v hj hv => ?_) (by omega) (by decide))
  match j, hj, hv with
  | 0, hj, hv => cases hj; cases hv; exact ⟨sz_s (by decide), ls_blk [sPerson] hp1 hn1 (by decide) (by intro x hx; rw [List.mem_singleton.1 hx]; exact sz_s (by decide))⟩
  | 1, hj, hv => cases hj; cases hv; exact ⟨sz_s (by decide), ls_blk [[65]] hp2 hn2 (by decide) (by intro x hx; rw [List.mem_singleton.1 hx]; exact sz_s (by decide))⟩
  | q + 2, hj, _ => simp at hj
 clear HS3 HA3 Hz2 Gz2 Tz2 LD1 LD2
 refine (check_any X b exS _ [aOC, aCn] z2 HS4.out.1 HS4.out.2.2.1 HGX.out HS4.out.2.1 HE4.out (fun i hi => hi)).mono ?_
 rintro e a5 ⟨rfl, hs, f⟩
 have HS5 := hid (HS4.out.step HGX.out hs f); have HA5 : Hid (Fr No w a5) := hid (HFBH.out _ _ HA4.out f)
 rw [ex_k1]
 clear hs f HS4 HA4 HE4
 have LD1 : Hid (a5.rangeAt c1 0 [.string (sb sOC), .slice (some ⟨p1, 0, none⟩) 1 1]) := hid (HS5.out.2.2.2.1.range 0 _ rfl)
 have LD2 : Hid (a5.rangeAt c2 0 [.string (sb sCn), .slice (some ⟨p2, 0, none⟩) 1 1]) := hid (HS5.out.2.2.2.2.2.1.range 0 _ rfl)
 go_wp2_with (first
  | ((with_reducible refine K.atO (.load 45 _) ?_); refine wpL_valZ rfl (.agg #[.string (sb sOC), .slice (some ⟨p1, 0, none⟩) 1 1]) (exec_load _ (.tmp 3) rfl c1 0 rfl [.string (sb sOC), .slice (some ⟨p1, 0, none⟩) 1 1] _ rfl rfl infoAt a5 LD1.out) ?_; simp only [K.pu])
  | ((with_reducible refine K.atO (.load 45 _) ?_); refine wpL_valZ rfl (.agg #[.string (sb sCn), .slice (some ⟨p2, 0, none⟩) 1 1]) (exec_load _ (.tmp 4) rfl c2 0 rfl [.string (sb sCn), .slice (some ⟨p2, 0, none⟩) 1 1] _ rfl rfl infoAt a5 LD2.out) ?_; simp only [K.pu])
  | ((with_reducible refine K.atO (.buildSlice 26 _ _) ?_); refine wpL_buildAll rfl 26 45 [.tmp 54] rfl ia _ Tryz.underlying26 IA.out ZA.out (by rw [SA.out]; decide) (by rw [SA.out]; decide) (by decide) [.agg #[.string (sb sOC), .slice (some ⟨p1, 0, none⟩) 1 1]] rfl (by intro v hv; rw [SA.out]; rw [List.mem_singleton.1 hv]; rfl) (List.zipWith (fun a v => [Value.string (sb a.1), v]) [aOC] [(.slice (some ⟨p1, 0, none⟩) 1 1)]).flatten rfl ?_; intro z2 Hz2 Gz2 Tz2; simp only [K.pu]))
 have HS6 := hid (HS5.out.no Gz2.out); have HA6 := hid (HA5.out.trans' Gz2.out)
 have HE6 : Hid (EnIn (fun i => i ≠ b) z2 (.slice (some ⟨a5.heap.size, 0, none⟩) 1 1) [aOC]) := by
  have hbl := HS5.out.lt
  obtain ⟨-, -, -, -, hp1, -, hp2, -, hn1, -, hn2⟩ := HS6.out
  refine hid (en_blk [aOC] [(.slice (some ⟨p1, 0, none⟩) 1 1)] Hz2.out rfl (fun j a v hj hv => ?_) (by omega) (by decide))
  match j, hj, hv with
  | 0, hj, hv => cases hj; cases hv; exact ⟨sz_s (by decide), ls_blk [sPerson] hp1 hn1 (by decide) (by intro x hx; rw [List.mem_singleton.1 hx]; exact sz_s (by decide))⟩
  | q + 1, hj, _ => simp at hj
 clear HS5 HA5 Hz2 Gz2 Tz2 LD1 LD2
 refine (check_any X b exS _ [aOC] z2 HS6.out.1 HS6.out.2.2.1 HGX.out HS6.out.2.1 HE6.out (fun i hi => hi)).mono ?_
 rintro e a7 ⟨rfl, hs, f⟩
 have HS7 := hid (HS6.out.step HGX.out hs f); have HA7 : Hid (Fr No w a7) := hid (HFBH.out _ _ HA6.out f)
 rw [ex_k2]
 clear hs f HS6 HA6 HE6
 have LD1 : Hid (a7.rangeAt c1 0 [.string (sb sOC), .slice (some ⟨p1, 0, none⟩) 1 1]) := hid (HS7.out.2.2.2.1.range 0 _ rfl)
 have LD2 : Hid (a7.rangeAt c2 0 [.string (sb sCn), .slice (some ⟨p2, 0, none⟩) 1 1]) := hid (HS7.out.2.2.2.2.2.1.range 0 _ rfl)
 go_wp2_with (first
  | ((with_reducible refine K.atO (.load 45 _) ?_); refine wpL_valZ rfl (.agg #[.string (sb sOC), .slice (some ⟨p1, 0, none⟩) 1 1]) (exec_load _ (.tmp 3) rfl c1 0 rfl [.string (sb sOC), .slice (some ⟨p1, 0, none⟩) 1 1] _ rfl rfl infoAt a7 LD1.out) ?_; simp only [K.pu])
  | ((with_reducible refine K.atO (.load 45 _) ?_); refine wpL_valZ rfl (.agg #[.string (sb sCn), .slice (some ⟨p2, 0, none⟩) 1 1]) (exec_load _ (.tmp 4) rfl c2 0 rfl [.string (sb sCn), .slice (some ⟨p2, 0, none⟩) 1 1] _ rfl rfl infoAt a7 LD2.out) ?_; simp only [K.pu])
  | ((with_reducible refine K.atO (.buildSlice 37 _ _) ?_); refine wpL_buildAll rfl 37 9 [.const (.string (sb [120]))] rfl is _ Tryz.underlying37 IS.out ZS.out (by rw [SS.out]; decide) (by rw [SS.out]; decide) (by decide) [.string (sb [120])] rfl (by intro v hv; rw [List.mem_singleton.1 hv, SS.out]; rfl) (strs [[120]]) rfl ?_; intro z1 Hz1 Gz1 Tz1; simp only [K.pu])
  | ((with_reducible refine K.atO (.build 45 _) ?_); refine wpL_valZ rfl (.agg #[.string (sb sDc), .slice (some ⟨a7.heap.size, 0, none⟩) 1 1]) (exec_bld _ [(0, .const (.string (sb sDc))), (1, .tmp 60)] rfl [(0, (.string (sb sDc))), (1, .slice (some ⟨a7.heap.size, 0, none⟩) 1 1)] rfl _ _ (bat _ _ _ _)) ?_; simp only [K.pu])
  | ((with_reducible refine K.atO (.buildSlice 26 _ _) ?_); refine wpL_buildAll rfl 26 45 [.tmp 58, .tmp 59, .tmp 61] rfl ia _ Tryz.underlying26 IA.out ZA.out (by rw [SA.out]; decide) (by rw [SA.out]; decide) (by decide) [.agg #[.string (sb sOC), .slice (some ⟨p1, 0, none⟩) 1 1], .agg #[.string (sb sCn), .slice (some ⟨p2, 0, none⟩) 1 1], .agg #[.string (sb sDc), .slice (some ⟨a7.heap.size, 0, none⟩) 1 1]] rfl (by intro v hv; rw [SA.out]; simp only [List.mem_cons, List.not_mem_nil, or_false] at hv; rcases hv with rfl | rfl | rfl <;> rfl) (List.zipWith (fun a v => [Value.string (sb a.1), v]) [aOC, aCn, (sDc, [[120]])] [(.slice (some ⟨p1, 0, none⟩) 1 1), (.slice (some ⟨p2, 0, none⟩) 1 1), (.slice (some ⟨a7.heap.size, 0, none⟩) 1 1)]).flatten rfl ?_; intro z2 Hz2 Gz2 Tz2; simp only [K.pu]))
 have HS8 := hid (HS7.out.no (Gz1.out.trans' Gz2.out)); have HA8 := hid (HA7.out.trans' (Gz1.out.trans' Gz2.out))
 have HE8 : Hid (EnIn (fun i => i ≠ b) z2 (.slice (some ⟨z1.heap.size, 0, none⟩) 3 3) [aOC, aCn, (sDc, [[120]])]) := by
  have hbl := HS7.out.lt
  obtain ⟨-, -, -, -, hp1, -, hp2, -, hn1, -, hn2⟩ := HS8.out
  have t1 := Tz1.out
  have hf := Hz1.out.fr Gz2.out id
  refine hid (en_blk [aOC, aCn, (sDc, [[120]])] [(.slice (some ⟨p1, 0, none⟩) 1 1), (.slice (some ⟨p2, 0, none⟩) 1 1), (.slice (some ⟨a7.heap.size, 0, none⟩) 1 1)] Hz2.out rfl (fun j a v hj hv => ?_) (by omega) (by decide))
  match j, hj, hv with
  | 0, hj, hv => cases hj; cases hv; exact ⟨sz_s (by decide), ls_blk [sPerson] hp1 hn1 (by decide) (by intro x hx; rw [List.mem_singleton.1 hx]; exact sz_s (by decide))⟩
  | 1, hj, hv => cases hj; cases hv; exact ⟨sz_s (by decide), ls_blk [[65]] hp2 hn2 (by decide) (by intro x hx; rw [List.mem_singleton.1 hx]; exact sz_s (by decide))⟩
  | 2, hj, hv => cases hj; cases hv; exact ⟨sz_s (by decide), ls_blk [[120]] hf (by omega) (by decide) (by intro x hx; rw [List.mem_singleton.1 hx]; exact sz_s (by decide))⟩
  | q + 3, hj, _ => simp at hj
 clear HS7 HA7 Hz2 Gz2 Tz2 LD1 LD2 Hz1 Gz1 Tz1
 refine (check_any X b exS _ [aOC, aCn, (sDc, [[120]])] z2 HS8.out.1 HS8.out.2.2.1 HGX.out HS8.out.2.1 HE8.out (fun i hi => hi)).mono ?_
 rintro e a9 ⟨rfl, hs, f⟩
 have HS9 := hid (HS8.out.step HGX.out hs f); have HA9 : Hid (Fr No w a9) := hid (HFBH.out _ _ HA8.out f)
 rw [ex_k3]
 clear hs f HS8 HA8 HE8
 have LD1 : Hid (a9.rangeAt c1 0 [.string (sb sOC), .slice (some ⟨p1, 0, none⟩) 1 1]) := hid (HS9.out.2.2.2.1.range 0 _ rfl)
 have LD2 : Hid (a9.rangeAt c2 0 [.string (sb sCn), .slice (some ⟨p2, 0, none⟩) 1 1]) := hid (HS9.out.2.2.2.2.2.1.range 0 _ rfl)
 go_wp2_with (first
  | ((with_reducible refine K.atO (.load 45 _) ?_); refine wpL_valZ rfl (.agg #[.string (sb sOC), .slice (some ⟨p1, 0, none⟩) 1 1]) (exec_load _ (.tmp 3) rfl c1 0 rfl [.string (sb sOC), .slice (some ⟨p1, 0, none⟩) 1 1] _ rfl rfl infoAt a9 LD1.out) ?_; simp only [K.pu])
  | ((with_reducible refine K.atO (.load 45 _) ?_); refine wpL_valZ rfl (.agg #[.string (sb sCn), .slice (some ⟨p2, 0, none⟩) 1 1]) (exec_load _ (.tmp 4) rfl c2 0 rfl [.string (sb sCn), .slice (some ⟨p2, 0, none⟩) 1 1] _ rfl rfl infoAt a9 LD2.out) ?_; simp only [K.pu])
  | ((with_reducible refine K.atO (.buildSlice 37 _ _) ?_); refine wpL_buildAll rfl 37 9 [.const (.string (sb [49])), .const (.string (sb [50]))] rfl is _ Tryz.underlying37 IS.out ZS.out (by rw [SS.out]; decide) (by rw [SS.out]; decide) (by decide) [.string (sb [49]), .string (sb [50])] rfl (by intro v hv; rw [SS.out]; simp only [List.mem_cons, List.not_mem_nil, or_false] at hv; rcases hv with rfl | rfl <;> rfl) (strs [[49], [50]]) rfl ?_; intro z1 Hz1 Gz1 Tz1; simp only [K.pu])
  | ((with_reducible refine K.atO (.build 45 _) ?_); refine wpL_valZ rfl (.agg #[.string (sb sAge), .slice (some ⟨a9.heap.size, 0, none⟩) 2 2]) (exec_bld _ [(0, .const (.string (sb sAge))), (1, .tmp 67)] rfl [(0, (.string (sb sAge))), (1, .slice (some ⟨a9.heap.size, 0, none⟩) 2 2)] rfl _ _ (bat _ _ _ _)) ?_; simp only [K.pu])
  | ((with_reducible refine K.atO (.buildSlice 26 _ _) ?_); refine wpL_buildAll rfl 26 45 [.tmp 65, .tmp 66, .tmp 68] rfl ia _ Tryz.underlying26 IA.out ZA.out (by rw [SA.out]; decide) (by rw [SA.out]; decide) (by decide) [.agg #[.string (sb sOC), .slice (some ⟨p1, 0, none⟩) 1 1], .agg #[.string (sb sCn), .slice (some ⟨p2, 0, none⟩) 1 1], .agg #[.string (sb sAge), .slice (some ⟨a9.heap.size, 0, none⟩) 2 2]] rfl (by intro v hv; rw [SA.out]; simp only [List.mem_cons, List.not_mem_nil, or_false] at hv; rcases hv with rfl | rfl | rfl <;> rfl) (List.zipWith (fun a v => [Value.string (sb a.1), v]) [aOC, aCn, (sAge, [[49], [50]])] [(.slice (some ⟨p1, 0, none⟩) 1 1), (.slice (some ⟨p2, 0, none⟩) 1 1), (.slice (some ⟨a9.heap.size, 0, none⟩) 2 2)]).flatten rfl ?_; intro z2 Hz2 Gz2 Tz2; simp only [K.pu]))
 have HS10 := hid (HS9.out.no (Gz1.out.trans' Gz2.out)); have HA10 := hid (HA9.out.trans' (Gz1.out.trans' Gz2.out))
 have HE10 : Hid (EnIn (fun i => i ≠ b) z2 (.slice (some ⟨z1.heap.size, 0, none⟩) 3 3) [aOC, aCn, (sAge, [[49], [50]])]) := by
  have hbl := HS9.out.lt
  obtain ⟨-, -, -, -, hp1, -, hp2, -, hn1, -, hn2⟩ := HS10.out
  have t1 := Tz1.out
  have hf := Hz1.out.fr Gz2.out id
  refine hid (en_blk [aOC, aCn, (sAge, [[49], [50]])] [(.slice (some ⟨p1, 0, none⟩) 1 1), (.slice (some ⟨p2, 0, none⟩) 1 1), (.slice (some ⟨a9.heap.size, 0, none⟩) 2 2)] Hz2.out rfl (fun j a v hj hv => ?_) (by omega) (by decide))
  match j, hj, hv with
  | 0, hj, hv => cases hj; cases hv; exact ⟨sz_s (by decide), ls_blk [sPerson] hp1 hn1 (by decide) (by intro x hx; rw [List.mem_singleton.1 hx]; exact sz_s (by decide))⟩
  | 1, hj, hv => cases hj; cases hv; exact ⟨sz_s (by decide), ls_blk [[65]] hp2 hn2 (by decide) (by intro x hx; rw [List.mem_singleton.1 hx]; exact sz_s (by decide))⟩
  | 2, hj, hv => cases hj; cases hv; exact ⟨sz_s (by decide), ls_blk [[49], [50]] hf (by omega) (by decide) (by intro x hx; simp only [List.mem_cons, List.not_mem_nil, or_false] at hx; rcases hx with rfl | rfl <;> exact sz_s (by decide))⟩
  | q + 3, hj, _ => simp at hj
 clear HS9 HA9 Hz2 Gz2 Tz2 LD1 LD2 Hz1 Gz1 Tz1
 refine (check_any X b exS _ [aOC, aCn, (sAge, [[49], [50]])] z2 HS10.out.1 HS10.out.2.2.1 HGX.out HS10.out.2.1 HE10.out (fun i hi => hi)).mono ?_
 rintro e a11 ⟨rfl, hs, f⟩
 have HS11 := hid (HS10.out.step HGX.out hs f); have HA11 : Hid (Fr No w a11) := hid (HFBH.out _ _ HA10.out f)
 rw [ex_k4]
 clear hs f HS10 HA10 HE10
 have LD1 : Hid (a11.rangeAt c1 0 [.string (sb sOC), .slice (some ⟨p1, 0, none⟩) 1 1]) := hid (HS11.out.2.2.2.1.range 0 _ rfl)
 have LD2 : Hid (a11.rangeAt c2 0 [.string (sb sCn), .slice (some ⟨p2, 0, none⟩) 1 1]) := hid (HS11.out.2.2.2.2.2.1.range 0 _ rfl)
 go_wp2_with (first
  | ((with_reducible refine K.atO (.load 45 _) ?_); refine wpL_valZ rfl (.agg #[.string (sb sOC), .slice (some ⟨p1, 0, none⟩) 1 1]) (exec_load _ (.tmp 3) rfl c1 0 rfl [.string (sb sOC), .slice (some ⟨p1, 0, none⟩) 1 1] _ rfl rfl infoAt a11 LD1.out) ?_; simp only [K.pu])
  | ((with_reducible refine K.atO (.load 45 _) ?_); refine wpL_valZ rfl (.agg #[.string (sb sCn), .slice (some ⟨p2, 0, none⟩) 1 1]) (exec_load _ (.tmp 4) rfl c2 0 rfl [.string (sb sCn), .slice (some ⟨p2, 0, none⟩) 1 1] _ rfl rfl infoAt a11 LD2.out) ?_; simp only [K.pu])
  | ((with_reducible refine K.atO (.buildSlice 37 _ _) ?_); refine wpL_buildAll rfl 37 9 [.const (.string (sb sTop))] rfl is _ Tryz.underlying37 IS.out ZS.out (by rw [SS.out]; decide) (by rw [SS.out]; decide) (by decide) [.string (sb sTop)] rfl (by intro v hv; rw [List.mem_singleton.1 hv, SS.out]; rfl) (strs [sTop]) rfl ?_; intro z1 Hz1 Gz1 Tz1; simp only [K.pu])
  | ((with_reducible refine K.atO (.build 45 _) ?_); refine wpL_valZ rfl (.agg #[.string (sb sOC), .slice (some ⟨a11.heap.size, 0, none⟩) 1 1]) (exec_bld _ [(0, .const (.string (sb sOC))), (1, .tmp 72)] rfl [(0, (.string (sb sOC))), (1, .slice (some ⟨a11.heap.size, 0, none⟩) 1 1)] rfl _ _ (bat _ _ _ _)) ?_; simp only [K.pu])
  | ((with_reducible refine K.atO (.buildSlice 26 _ _) ?_); refine wpL_buildAll rfl 26 45 [.tmp 73] rfl ia _ Tryz.underlying26 IA.out ZA.out (by rw [SA.out]; decide) (by rw [SA.out]; decide) (by decide) [.agg #[.string (sb sOC), .slice (some ⟨a11.heap.size, 0, none⟩) 1 1]] rfl (by intro v hv; rw [SA.out]; rw [List.mem_singleton.1 hv]; rfl) (List.zipWith (fun a v => [Value.string (sb a.1), v]) [(sOC, [sTop])] [(.slice (some ⟨a11.heap.size, 0, none⟩) 1 1)]).flatten rfl ?_; intro z2 Hz2 Gz2 Tz2; simp only [K.pu]))
 have HS12 := hid (HS11.out.no (Gz1.out.trans' Gz2.out)); have HA12 := hid (HA11.out.trans' (Gz1.out.trans' Gz2.out))
 have HE12 : Hid (EnIn (fun i => i ≠ b) z2 (.slice (some ⟨z1.heap.size, 0, none⟩) 1 1) [(sOC, [sTop])]) := by
  have hbl := HS11.out.lt
  obtain ⟨-, -, -, -, hp1, -, hp2, -, hn1, -, hn2⟩ := HS12.out
  have t1 := Tz1.out
  have hf := Hz1.out.fr Gz2.out id
  refine hid (en_blk [(sOC, [sTop])] [(.slice (some ⟨a11.heap.size, 0, none⟩) 1 1)] Hz2.out rfl (fun j a v hj hv => ?_) (by omega) (by decide))
  match j, hj, hv with
  | 0, hj, hv => cases hj; cases hv; exact ⟨sz_s (by decide), ls_blk [sTop] hf (by omega) (by decide) (by intro x hx; rw [List.mem_singleton.1 hx]; exact sz_s (by decide))⟩
  | q + 1, hj, _ => simp at hj
 clear HS11 HA11 Hz2 Gz2 Tz2 LD1 LD2 Hz1 Gz1 Tz1
 refine (check_any X b exS _ [(sOC, [sTop])] z2 HS12.out.1 HS12.out.2.2.1 HGX.out HS12.out.2.1 HE12.out (fun i hi => hi)).mono ?_
 rintro e a13 ⟨rfl, hs, f⟩
 have HS13 := hid (HS12.out.step HGX.out hs f); have HA13 : Hid (Fr No w a13) := hid (HFBH.out _ _ HA12.out f)
 rw [ex_k5]
 clear hs f HS12 HA12 HE12
 have LD1 : Hid (a13.rangeAt c1 0 [.string (sb sOC), .slice (some ⟨p1, 0, none⟩) 1 1]) := hid (HS13.out.2.2.2.1.range 0 _ rfl)
 have LD2 : Hid (a13.rangeAt c2 0 [.string (sb sCn), .slice (some ⟨p2, 0, none⟩) 1 1]) := hid (HS13.out.2.2.2.2.2.1.range 0 _ rfl)
 go_wp2_with (first
  | ((with_reducible refine K.atO (.load 45 _) ?_); refine wpL_valZ rfl (.agg #[.string (sb sOC), .slice (some ⟨p1, 0, none⟩) 1 1]) (exec_load _ (.tmp 3) rfl c1 0 rfl [.string (sb sOC), .slice (some ⟨p1, 0, none⟩) 1 1] _ rfl rfl infoAt a13 LD1.out) ?_; simp only [K.pu])
  | ((with_reducible refine K.atO (.load 45 _) ?_); refine wpL_valZ rfl (.agg #[.string (sb sCn), .slice (some ⟨p2, 0, none⟩) 1 1]) (exec_load _ (.tmp 4) rfl c2 0 rfl [.string (sb sCn), .slice (some ⟨p2, 0, none⟩) 1 1] _ rfl rfl infoAt a13 LD2.out) ?_; simp only [K.pu])
  | ((with_reducible refine K.atO (.buildSlice 26 _ _) ?_); refine wpL_buildAll rfl 26 45 [.tmp 77] rfl ia _ Tryz.underlying26 IA.out ZA.out (by rw [SA.out]; decide) (by rw [SA.out]; decide) (by decide) [.agg #[.string (sb sOC), .slice (some ⟨p1, 0, none⟩) 1 1]] rfl (by intro v hv; rw [SA.out]; rw [List.mem_singleton.1 hv]; rfl) (List.zipWith (fun a v => [Value.string (sb a.1), v]) [aOC] [(.slice (some ⟨p1, 0, none⟩) 1 1)]).flatten rfl ?_; intro z2 Hz2 Gz2 Tz2; simp only [K.pu]))
 have HS14 := hid (HS13.out.no Gz2.out); have HA14 := hid (HA13.out.trans' Gz2.out)
 have HE14 : Hid (EnIn (fun i => i ≠ b) z2 (.slice (some ⟨a13.heap.size, 0, none⟩) 1 1) [aOC]) := by
  have hbl := HS13.out.lt
  obtain ⟨-, -, -, -, hp1, -, hp2, -, hn1, -, hn2⟩ := HS14.out
  refine hid (en_blk [aOC] [(.slice (some ⟨p1, 0, none⟩) 1 1)] Hz2.out rfl (fun j a v hj hv => ?_) (by omega) (by decide))
  match j, hj, hv with
  | 0, hj, hv => cases hj; cases hv; exact ⟨sz_s (by decide), ls_blk [sPerson] hp1 hn1 (by decide) (by intro x hx; rw [List.mem_singleton.1 hx]; exact sz_s (by decide))⟩
  | q + 1, hj, _ => simp at hj
 clear HS13 HA13 Hz2 Gz2 Tz2 LD1 LD2
 refine (isA_any X b exS _ [aOC] [84, 79, 80] z2 HS14.out.1 HS14.out.2.2.1 HGX.out HS14.out.2.1 HE14.out (fun i hi => hi) (sz_s (by decide))).mono ?_
 rintro e a15 ⟨rfl, hs, f⟩
 have HS15 := hid (HS14.out.step HGX.out hs f); have HA15 : Hid (Fr No w a15) := hid (HFBH.out _ _ HA14.out f)
 rw [ex_i1]
 clear hs f HS14 HA14 HE14
 have LD1 : Hid (a15.rangeAt c1 0 [.string (sb sOC), .slice (some ⟨p1, 0, none⟩) 1 1]) := hid (HS15.out.2.2.2.1.range 0 _ rfl)
 have LD2 : Hid (a15.rangeAt c2 0 [.string (sb sCn), .slice (some ⟨p2, 0, none⟩) 1 1]) := hid (HS15.out.2.2.2.2.2.1.range 0 _ rfl)
 go_wp2_with (first
  | ((with_reducible refine K.atO (.load 45 _) ?_); refine wpL_valZ rfl (.agg #[.string (sb sOC), .slice (some ⟨p1, 0, none⟩) 1 1]) (exec_load _ (.tmp 3) rfl c1 0 rfl [.string (sb sOC), .slice (some ⟨p1, 0, none⟩) 1 1] _ rfl rfl infoAt a15 LD1.out) ?_; simp only [K.pu])
  | ((with_reducible refine K.atO (.load 45 _) ?_); refine wpL_valZ rfl (.agg #[.string (sb sCn), .slice (some ⟨p2, 0, none⟩) 1 1]) (exec_load _ (.tmp 4) rfl c2 0 rfl [.string (sb sCn), .slice (some ⟨p2, 0, none⟩) 1 1] _ rfl rfl infoAt a15 LD2.out) ?_; simp only [K.pu])
  | ((with_reducible refine K.atO (.buildSlice 26 _ _) ?_); refine wpL_buildAll rfl 26 45 [.tmp 81] rfl ia _ Tryz.underlying26 IA.out ZA.out (by rw [SA.out]; decide) (by rw [SA.out]; decide) (by decide) [.agg #[.string (sb sOC), .slice (some ⟨p1, 0, none⟩) 1 1]] rfl (by intro v hv; rw [SA.out]; rw [List.mem_singleton.1 hv]; rfl) (List.zipWith (fun a v => [Value.string (sb a.1), v]) [aOC] [(.slice (some ⟨p1, 0, none⟩) 1 1)]).flatten rfl ?_; intro z2 Hz2 Gz2 Tz2; simp only [K.pu]))
 have HS16 := hid (HS15.out.no Gz2.out); have HA16 := hid (HA15.out.trans' Gz2.out)
 have HE16 : Hid (EnIn (fun i => i ≠ b) z2 (.slice (some ⟨a15.heap.size, 0, none⟩) 1 1) [aOC]) := by
  have hbl := HS15.out.lt
  obtain ⟨-, -, -, -, hp1, -, hp2, -, hn1, -, hn2⟩ := HS16.out
  refine hid (en_blk [aOC] [(.slice (some ⟨p1, 0, none⟩) 1 1)] Hz2.out rfl (fun j a v hj hv => ?_) (by omega) (by decide))
  match j, hj, hv with
  | 0, hj, hv => cases hj; cases hv; exact ⟨sz_s (by decide), ls_blk [sPerson] hp1 hn1 (by decide) (by intro x hx; rw [List.mem_singleton.1 hx]; exact sz_s (by decide))⟩
  | q + 1, hj, _ => simp at hj
 clear HS15 HA15 Hz2 Gz2 Tz2 LD1 LD2
 refine (isA_any X b exS _ [aOC] sDomain z2 HS16.out.1 HS16.out.2.2.1 HGX.out HS16.out.2.1 HE16.out (fun i hi => hi) (sz_s (by decide))).mono ?_
 rintro e a17 ⟨rfl, hs, f⟩
 have HS17 := hid (HS16.out.step HGX.out hs f); have HA17 : Hid (Fr No w a17) := hid (HFBH.out _ _ HA16.out f)
 rw [ex_i2]
 clear hs f HS16 HA16 HE16
 go_wp2_with (first
  | ((with_reducible refine K.atO (.binOp .eql 9 _ _ _) ?_); refine wpL_valZ rfl (.bool true) ((exec_eqS _ _ _ rfl [97, 32, 98] [97, 32, 98] rfl rfl _).trans (by simp)) ?_))
 go_ret
 exact ⟨rfl, HA17.out⟩
end Go.Proofs.YtgbiicipkbpmeaaGreatDoor.SC
namespace Go.Proofs.YtgbiicipkbpmeaaGreatDoor.SC
set_option maxRecDepth 100000
open BE DN
end Go.Proofs.YtgbiicipkbpmeaaGreatDoor.SC
namespace Go.Proofs.YtgbiicipkbpmeaaGreatDoor.SC
set_option maxRecDepth 100000
set_option maxHeartbeats 128000000
open Go.RowKit K BE DN
def RwL (S : Nat → Prop) (base : Nat) (w : World) (va : Option Addr) (vcp : Nat) (xs : Ent) (L : List (List Value)) : Prop :=
 L.length = xs.length ∧ (∀ c ∈ L, c.length = 2) ∧ (∀ (j : Nat) (a : Atr) (c : List Value), xs[j]? = some a → L[j]? = some c → AtC S w a c) ∧ w.ownsRow base 45 2 (.slice va xs.length vcp) xs.length L.flatten
section
variable {S D : Nat → Prop} {base : Nat} {w w' : World} {va a5 : Option Addr} {vcp c5 : Nat} {xs : Ent} {L : List (List Value)}
theorem RwL.nil : RwL S base w none 0 [] [] := ⟨rfl, (fun _ h => by cases h), (fun _ _ _ h => by cases h), ⟨rfl, .inl ⟨rfl, rfl⟩⟩⟩
theorem RwL.fr (h : RwL S base w va vcp xs L) (hf : Fr D w w') (hd : ∀ i, S i → i < w.heap.size → ¬ D i) (hb : ∀ i, base ≤ i → i < w.heap.size → ¬ D i) : RwL S base w' va vcp xs L :=
 ⟨h.1, h.2.1, fun j a c hx hc => (h.2.2.1 j a c hx hc).fr hf hd, own_fr h.2.2.2 hf fun k e => hb k (own_ge h.2.2.2 k e).1 (own_ge h.2.2.2 k e).2⟩
theorem RwL.en (h : RwL S base w va vcp xs L) (hb : xs.length ≤ 140737488351232) : EnIn (fun i => S i ∨ base ≤ i) w (.slice va xs.length vcp) xs :=
 own_sl_S h.2.2.2 L rfl rfl h.1 h.2.1 (fun j x c hx hc => (h.2.2.1 j x c hx hc).mono (fun i hi _ => .inl hi)) hb (fun g hg => .inr (own_ge h.2.2.2 g hg).1)
end
theorem smallZ_any (s : B) (hs : Sz s) (w : World) : Calls Tryz.prog 58 #[.string (sb s)] w fun e w' => e = .returned (.string (sb (low s))) ∧ Fr No w w' := by
 obtain ⟨S, hS⟩ : ∃ S, sb s = S := ⟨_, rfl⟩
 obtain ⟨n, hn⟩ : ∃ n, s.length = n := ⟨_, rfl⟩
 have hsz : (S.size : Int) = n := by rw [← hS, sb_size, hn]
 have hni : (n : Int) ≤ 140737488351232 := by unfold Sz at hs; omega
 have HS := hid hS; have HN := hid hn
 rw [hS]
 clear hS hn hs
 go_enter Tryz.func58, Tryz.ntmps58
 go_wp2_with fail
 go_loopw [3, 4] (fun dv iv wr => ∃ (i : Nat), iv = .int .i64 i ∧ i ≤ n ∧ Hid (OwR 5 1 w wr dv i (u8s ((low s).take i)))) (fun _ iv _ => n - (intOf iv).toNat)
 case atStart => exact ⟨0, rfl, Nat.zero_le _, hid (owR_nil (Fr.refl _ _))⟩
 case round =>
  obtain ⟨i, rfl, hi, HO⟩ := hrel
  obtain ⟨va, vc, rfl⟩ := HO.out.1
  by_cases hlt : i < n
  ·obtain ⟨c, hc⟩ : ∃ c, s[i]? = some c := ⟨_, List.getElem?_eq_getElem (by rw [HN.out]; exact hlt)⟩
   have hlti : (i : Int) < n := by omega
   have hi0 : (0 : Int) ≤ i := by omega
   have HC := hid hc
   have HLT := hid hlt
   have HNX : Hid (u8s ((low s).take (i + 1)) = u8s ((low s).take i) ++ [.int .u8 ((lo c).toNat : Int)]) := hid (by
    have hl : (low s)[i]? = some (lo c) := by simp [low, hc]
    rw [List.take_add_one, hl]
    simp [u8s])
   by_cases hup : 65 ≤ c.toNat ∧ c.toNat ≤ 90
   ·have h1 : (65 : Int) ≤ (c.toNat : Int) := by omega
    have h2 : (c.toNat : Int) ≤ 90 := by omega
    have hlo : ((lo c).toNat : Int) = (c.toNat : Int) + 32 := by
     rw [lo_n, if_pos hup, UInt8.toNat_add]
     have : (32 : UInt8).toNat = 32 := rfl
     rw [this]
     omega
    rw [hlo] at HNX
    clear hup hlo hc hlt
    go_wp2_with (first
     | ((with_reducible refine K.atO (.index 9 _ _) ?_); refine idxZ HS HC rfl rfl rfl rfl ?_)
     | ((with_reducible refine K.atO (.buildSlice 150 _ _) ?_); refine wpL_app1 rfl rfl _ _ _ 150 5 rfl rfl Tryz.underlying150 infoU rfl (by decide) (by decide) HO.out (.int .u8 ((c.toNat : Int) + 32)) [.int .u8 ((c.toNat : Int) + 32)] rfl rfl rfl (by simp [Value.oneCell']) (fun _ => rfl) (fun _ => rfl) (by omega) (by omega) ?_; intro q a4 c4 w4 HO4 HF4))
    refine ⟨⟨i + 1, by go_num, HLT.out, hid (by rw [HNX.out]; exact HO4.out)⟩, ?_⟩
    have := HLT.out
    simp [intOf]; omega
   ·have hlo : lo c = c := by rw [lo_n, if_neg hup]
    rw [hlo] at HNX
    have hcase : c.toNat < 65 ∨ (65 ≤ c.toNat ∧ 90 < c.toNat) := by omega
    clear hup hlo hc hlt
    rcases hcase with h | ⟨h, h'⟩
    ·have h1 : ¬ (65 : Int) ≤ (c.toNat : Int) := by omega
     clear h
     go_wp2_with (first
      | ((with_reducible refine K.atO (.index 9 _ _) ?_); refine idxZ HS HC rfl rfl rfl rfl ?_)
      | ((with_reducible refine K.atO (.buildSlice 150 _ _) ?_); refine wpL_appU rfl rfl HO.out (c.toNat : Int) rfl ?_; intro q a4 c4 w4 HO4 HF4))
     refine ⟨⟨i + 1, by go_num, HLT.out, hid (by rw [HNX.out]; exact HO4.out)⟩, ?_⟩
     have := HLT.out
     simp [intOf]; omega
    ·have h1 : (65 : Int) ≤ (c.toNat : Int) := by omega
     have h2 : ¬ (c.toNat : Int) ≤ 90 := by omega
     clear h h'
     go_wp2_with (first
      | ((with_reducible refine K.atO (.index 9 _ _) ?_); refine idxZ HS HC rfl rfl rfl rfl ?_)
      | ((with_reducible refine K.atO (.buildSlice 150 _ _) ?_); refine wpL_appU rfl rfl HO.out (c.toNat : Int) rfl ?_; intro q a4 c4 w4 HO4 HF4))
     refine ⟨⟨i + 1, by go_num, HLT.out, hid (by rw [HNX.out]; exact HO4.out)⟩, ?_⟩
     have := HLT.out
     simp [intOf]; omega
  ·obtain rfl : i = n := by omega
   have hall : (low s).take i = low s := List.take_of_length_le (by rw [low_length, HN.out]; exact Nat.le_refl _)
   have HO2 : Hid (OwR 5 1 w wr (.slice va i vc) (low s).length (u8s (low s))) := hid (by rw [low_length, HN.out]; have h := HO.out; rw [hall] at h; exact h)
   have HDEN := hid (owR_bytes HO2.out)
   clear hall hlt
   go_wp2_with (first
    | ((with_reducible refine K.atO (.convert _ 9 _) ?_); refine wpL_stringOf rfl _ _ _ _ rfl _ _ (low s) rfl HDEN.out Tryz.underlying150 Tryz.underlying5 Tryz.underlying9 ?_))
   go_ret
   exact ⟨rfl, HO.out.fr⟩
theorem at_any {S : Nat → Prop} (ve : Value) (en : Ent) (m : B) (w : World) (h : EnIn S w ve en) (hz : Sz m) : Calls Tryz.prog 28 #[ve, .string (sb m)] w fun e w' => e = .returned (.int .i64 (idxI en fun a => low a.1 == low m)) ∧ Fr No w w' := by
 obtain ⟨va, vcp, rfl, -, hle⟩ := h.form
 obtain ⟨n, hn⟩ : ∃ n, en.length = n := ⟨_, rfl⟩
 have HE := hid h; have HN := hid hn; have HM := hid hz
 rw [hn] at HE hle ⊢
 obtain ⟨R, hR⟩ : ∃ R, idxI en (fun a => low a.1 == low m) = R := ⟨_, rfl⟩
 have HR := hid hR
 rw [hR]
 have hni : (n : Int) ≤ 140737488351232 := by omega
 clear h hn hz hR
 go_enter Tryz.func28, Tryz.ntmps28
 go_wp2_with fail
 refine (smallZ_any m HM.out w).mono ?_
 rintro e w1 ⟨rfl, f1⟩
 have HF1 := hid f1
 clear f1
 go_wp2_with fail
 go_loopw [6] (fun iv wr => ∃ (i : Nat), iv = .int .i64 i ∧ i ≤ n ∧ Hid ((en.take i).any (fun a => low a.1 == low m) = false ∧ Fr No w wr)) (fun iv _ => n - (intOf iv).toNat)
 case atStart => exact ⟨0, rfl, Nat.zero_le _, hid ⟨rfl, HF1.out⟩⟩
 case round =>
  obtain ⟨i, rfl, hi, HI⟩ := hrel
  by_cases hlt : i < n
  ·have hiX : i < en.length := by rw [HN.out]; exact hlt
   obtain ⟨⟨nm, ls⟩, hx⟩ : ∃ x, en[i]? = some x := ⟨_, List.getElem?_eq_getElem hiX⟩
   have hlti : (i : Int) < n := by omega
   have hi0 : (0 : Int) ≤ i := by omega
   obtain ⟨g, o, cq, cs, e1, -, -, hr, -, hp⟩ := (EnIn.fr (D := No) HE.out HI.out.2 (fun _ _ _ e => e)).get hx
   rw [HN.out] at e1
   obtain ⟨rfl, rfl⟩ := K.sj e1
   obtain ⟨u, rfl, hznm, -⟩ := hp
   have d0 : wr.cell? ⟨g, o + i * 2, none⟩ = some (.string (sb nm)) := by have := hr 0 _ rfl; simpa using this
   have HZN := hid hznm
   have HXX := hid hx
   have HLT := hid hlt
   have HNX : Hid ((en.take (i + 1)).any (fun a => low a.1 == low m) = ((low nm == low m) || false)) := hid (by
    have hxx : en[i] = (nm, ls) := by rw [List.getElem?_eq_getElem hiX] at hx; exact Option.some.inj hx
    rw [List.take_succ_eq_append_getElem hiX, List.any_append, HI.out.1, hxx]; simp)
   clear hr hznm hx hlt hiX
   go_wp2_with fail
   refine (smallZ_any nm HZN.out wr).mono ?_
   rintro e w2 ⟨rfl, f2⟩
   have HF2 := hid (HI.out.2.trans' f2)
   clear f2 d0
   cases hq : (low nm == low m) with
   | true =>
    have HQ := hid hq
    have HQE : Hid (decide (low nm = low m) = true) := hid (by simpa using hq)
    clear hq
    go_wp2_with (first
     | ((with_reducible refine K.atO (.binOp .eql 9 _ _ _) ?_); refine wpL_valZ rfl (.bool true) (by rw [← HQE.out]; exact exec_eqS _ _ _ rfl (low nm) (low m) rfl rfl _) ?_))
    go_ret
    exact ⟨by rw [← HR.out, idx_at HI.out.1 HXX.out HQ.out]; rfl, HF2.out⟩
   | false =>
    have HQ := hid hq
    have HQE : Hid (decide (low nm = low m) = false) := hid (by simpa using hq)
    clear hq
    go_wp2_with (first
     | ((with_reducible refine K.atO (.binOp .eql 9 _ _ _) ?_); refine wpL_valZ rfl (.bool false) (by rw [← HQE.out]; exact exec_eqS _ _ _ rfl (low nm) (low m) rfl rfl _) ?_))
    refine ⟨⟨i + 1, by go_num, HLT.out, hid ⟨by rw [HNX.out, HQ.out]; rfl, HF2.out⟩⟩, ?_⟩
    have := HLT.out
    simp [intOf]; omega
  ·obtain rfl : i = n := by omega
   go_wp2_with fail
   go_ret
   refine ⟨?_, HI.out.2⟩
   have h1 := HI.out.1
   rw [List.take_of_length_le (by rw [HN.out]; exact Nat.le_refl _)] at h1
   rw [← HR.out, idx_none h1]
   rfl
end Go.Proofs.YtgbiicipkbpmeaaGreatDoor.SC
namespace Go.Proofs.YtgbiicipkbpmeaaGreatDoor.FT
set_option maxRecDepth 100000
set_option maxHeartbeats 128000000
open Go.RowKit K BE DN SC
def lst (b : Bool) (l : B) : Bool := (l.getLast?.map (· == 32)).getD b
theorem lst_cons (b : Bool) (x : UInt8) (r : B) : lst b (x :: r) = lst (x == 32) r := by
 unfold lst
 rw [List.getLast?_cons]
 cases r.getLast? <;> rfl
theorem sqF_snoc (c : UInt8) : ∀ (l : B) (b : Bool), sqF b (l ++ [c]) = sqF b l ++ (if c = 32 then (if lst b l then [] else [32]) else [c])
 | [], b => by
  show sqF b [c] = _
  unfold sqF lst
  by_cases hc : c = 32
  ·rw [if_pos hc, if_pos hc]; cases b <;> rfl
  ·rw [if_neg hc, if_neg hc]; rfl
 | x :: r, b => by
  rw [lst_cons]
  show sqF b (x :: (r ++ [c])) = _
  by_cases hx : x = 32
  ·subst hx
   have h := sqF_snoc c r true
   cases b <;> simp [sqF, h]
  ·have h := sqF_snoc c r false
   have e : (x == 32) = false := by simpa using hx
   simp [sqF, hx, h, e]
theorem lst_out : ∀ (l : B) (b : Bool), lst b (sqF b l) = lst b l
 | [], _ => rfl
 | x :: r, b => by
  rw [lst_cons]
  unfold sqF
  by_cases hx : x = 32
  ·subst hx
   rw [if_pos rfl, show ((32 : UInt8) == 32) = true from rfl]
   cases b with
   | true => rw [if_pos rfl]; exact lst_out r true
   | false => rw [if_neg (by decide), lst_cons]; exact lst_out r true
  ·have e : (x == 32) = false := by simpa using hx
   rw [if_neg hx, lst_cons, e]
   exact lst_out r false
theorem sq_take (l : B) (i : Nat) (c : UInt8) (hc : l[i]? = some c) : sqF false (l.take (i + 1)) = sqF false (l.take i) ++ (if c = 32 then (if lst false (sqF false (l.take i)) then [] else [32]) else [c]) := by
 rw [List.take_add_one, hc, Option.toList_some, sqF_snoc, lst_out]
theorem rsqueeze_any (p : B) (hp : Sm p) (w : World) : Calls Tryz.prog 108 #[.string (sb p)] w fun e w' => e = .returned (.string (sb (squeeze p))) ∧ Fr No w w' := by
 have HSM := hid (smallZ_any p (by unfold Sm at hp; unfold Sz; omega) w)
 obtain ⟨l, hl⟩ : ∃ l, low p = l := ⟨_, rfl⟩
 have hq : squeeze p = sqF false l := by unfold squeeze; rw [hl]
 have hll : l.length ≤ 4294967000 := by rw [← hl, low_length]; exact hp
 rw [hq]
 rw [hl] at HSM
 obtain ⟨S, hS⟩ : ∃ S, sb l = S := ⟨_, rfl⟩
 obtain ⟨n, hn⟩ : ∃ n, l.length = n := ⟨_, rfl⟩
 have hsz : (S.size : Int) = n := by rw [← hS, sb_size, hn]
 have hni : (n : Int) ≤ 4294967000 := by omega
 have HS := hid hS; have HN := hid hn
 rw [hS] at HSM
 clear hS hn hp hq hl hll
 go_enter Tryz.func108, Tryz.ntmps108
 go_wp2_with fail
 refine HSM.out.mono ?_
 rintro e w1 ⟨rfl, f1⟩
 have HF1 := hid f1
 clear f1 HSM
 go_wp2_with fail
 go_loopw [4, 5] (fun dv iv wr => ∃ (i al : Nat), iv = .int .i64 i ∧ i ≤ n ∧ al ≤ n ∧ Hid (OwR 5 1 w wr dv al (u8s (sqF false (l.take i)))) ∧ Hid ((sqF false (l.take i)).length = al)) (fun _ iv _ => n - (intOf iv).toNat)
 case atStart => exact ⟨0, 0, rfl, Nat.zero_le _, Nat.zero_le _, hid (owR_nil HF1.out), hid rfl⟩
 case round =>
  obtain ⟨i, al, rfl, hi, hal, HO, HAL⟩ := hrel
  obtain ⟨va, vc, rfl⟩ := HO.out.1
  have hali : (al : Int) ≤ 4294967000 := by omega
  by_cases hlt : i < n
  ·obtain ⟨c, hc⟩ : ∃ c, l[i]? = some c := ⟨_, List.getElem?_eq_getElem (by rw [HN.out]; exact hlt)⟩
   have hlti : (i : Int) < n := by omega
   have hi0 : (0 : Int) ≤ i := by omega
   have HLT := hid hlt
   have HNX := hid (sq_take l i c hc)
   have HC := hid hc
   have HLN : Hid ((sqF false (l.take (i + 1))).length ≤ n) := hid (by have := sq_len false (l.take (i + 1)); rw [List.length_take] at this; have := HN.out; omega)
   clear hc hlt hal
   by_cases h32 : c = 32
   ·subst h32
    have h32c : (((32 : UInt8).toNat : Int) == 32) = true := rfl
    obtain ⟨m, hm⟩ : ∃ m, al = m := ⟨_, rfl⟩
    cases hm2 : m with
    | zero =>
     obtain rfl : al = 0 := by omega
     have HE : Hid (sqF false (l.take (i + 1)) = sqF false (l.take i) ++ [32]) := hid (by
      have h := HNX.out
      have h0 : sqF false (l.take i) = [] := List.eq_nil_of_length_eq_zero HAL.out
      rw [h0] at h
      rw [h, h0]; rfl)
     clear hm hm2
     go_wp2_with (first
      | ((with_reducible refine K.atO (.index 9 _ _) ?_); refine wpL_valZ (by rfl) (.int .u8 32) (exec_idxB _ _ rfl l HS.out i 32 HC.out _ rfl rfl rfl _) ?_)
      | ((with_reducible refine K.atO (.buildSlice 150 _ _) ?_); refine wpL_appU rfl rfl HO.out 32 rfl ?_; intro q a4 c4 w4 HO4 HF4))
     have HL4 : Hid ((sqF false (l.take (i + 1))).length = 1) := hid (by rw [HE.out, List.length_append, HAL.out]; rfl)
     refine ⟨⟨i + 1, 1, by go_num, HLT.out, by rw [← HL4.out]; exact HLN.out, hid ?_, HL4⟩, by have := HLT.out; simp [intOf]; omega⟩
     have h := HO4.out
     rw [HE.out]
     rwa [show u8s (sqF false (l.take i)) ++ [Value.int .u8 32] = u8s (sqF false (l.take i) ++ [32]) by simp [u8s]] at h
    | succ m =>
     obtain rfl : al = m + 1 := by omega
     obtain ⟨x, hx⟩ : ∃ x, (sqF false (l.take i))[m]? = some x := ⟨_, List.getElem?_eq_getElem (by rw [HAL.out]; omega)⟩
     have hlx : lst false (sqF false (l.take i)) = (x == 32) := by
      unfold lst
      rw [List.getLast?_eq_getElem?, HAL.out, Nat.add_sub_cancel, hx]; rfl
     have HLX := hid hlx
     obtain ⟨a2, cap2, e2, -, hor⟩ := HO.out.reads
     rcases hor with h0 | ⟨g, rfl, -, -, hr⟩
     ·omega
     simp only [Value.slice.injEq, true_and] at e2
     obtain ⟨rfl, rfl⟩ := e2
     have cx : wr.cell? ⟨g, m, none⟩ = some (.int .u8 (x.toNat : Int)) := by
      have := hr m (.int .u8 (x.toNat : Int)) (by simp [u8s, hx])
      simpa using this
     clear hx hlx hr hm hm2
     by_cases hx32 : x = 32
     ·subst hx32
      have HE : Hid (sqF false (l.take (i + 1)) = sqF false (l.take i)) := hid (by
       have h := HNX.out
       rw [HLX.out] at h
       rw [h]; simp)
      go_wp2_with (first
       | ((with_reducible refine K.atO (.index 9 _ _) ?_); refine wpL_valZ (by rfl) (.int .u8 32) (exec_idxB _ _ rfl l HS.out i 32 HC.out _ rfl rfl rfl _) ?_))
      refine ⟨⟨i + 1, m + 1, by go_num, HLT.out, by rw [← HAL.out, ← HE.out]; exact HLN.out, hid (by rw [HE.out]; exact HO.out), hid (by rw [HE.out]; exact HAL.out)⟩, by have := HLT.out; simp [intOf]; omega⟩
     ·have hx33 : ((x.toNat : Int) == 32) = false := beqN (fun e => hx32 (UInt8.toNat_inj.1 (by have : (32 : UInt8).toNat = 32 := rfl; omega)))
      have HE : Hid (sqF false (l.take (i + 1)) = sqF false (l.take i) ++ [32]) := hid (by
       have h := HNX.out
       have e : (x == 32) = false := by simpa using hx32
       rw [HLX.out, e] at h
       rw [h]; rfl)
      clear hx32
      go_wp2_with (first
       | ((with_reducible refine K.atO (.index 9 _ _) ?_); refine wpL_valZ (by rfl) (.int .u8 32) (exec_idxB _ _ rfl l HS.out i 32 HC.out _ rfl rfl rfl _) ?_)
       | ((with_reducible refine K.atO (.buildSlice 150 _ _) ?_); refine wpL_appU rfl rfl HO.out 32 rfl ?_; intro q a4 c4 w4 HO4 HF4))
      have HL4 : Hid ((sqF false (l.take (i + 1))).length = m + 1 + 1) := hid (by rw [HE.out, List.length_append, HAL.out]; rfl)
      refine ⟨⟨i + 1, m + 1 + 1, by go_num, HLT.out, by rw [← HL4.out]; exact HLN.out, hid ?_, HL4⟩, by have := HLT.out; simp [intOf]; omega⟩
      have h := HO4.out
      rw [HE.out]
      rwa [show u8s (sqF false (l.take i)) ++ [Value.int .u8 32] = u8s (sqF false (l.take i) ++ [32]) by simp [u8s]] at h
   ·have hc33 : ((c.toNat : Int) == 32) = false := beqN (fun e => h32 (UInt8.toNat_inj.1 (by have : (32 : UInt8).toNat = 32 := rfl; omega)))
    have HE : Hid (sqF false (l.take (i + 1)) = sqF false (l.take i) ++ [c]) := hid (by rw [HNX.out, if_neg h32])
    clear h32
    go_wp2_with (first
     | ((with_reducible refine K.atO (.index 9 _ _) ?_); refine idxZ HS HC rfl rfl rfl rfl ?_)
     | ((with_reducible refine K.atO (.buildSlice 150 _ _) ?_); refine wpL_appU rfl rfl HO.out (c.toNat : Int) rfl ?_; intro q a4 c4 w4 HO4 HF4))
    have HL4 : Hid ((sqF false (l.take (i + 1))).length = al + 1) := hid (by rw [HE.out, List.length_append, HAL.out]; rfl)
    refine ⟨⟨i + 1, al + 1, by go_num, HLT.out, by rw [← HL4.out]; exact HLN.out, hid ?_, HL4⟩, by have := HLT.out; simp [intOf]; omega⟩
    have h := HO4.out
    rw [HE.out]
    rwa [show u8s (sqF false (l.take i)) ++ [Value.int .u8 (c.toNat : Int)] = u8s (sqF false (l.take i) ++ [c]) by simp [u8s]] at h
  ·obtain rfl : i = n := by omega
   have hall : l.take i = l := List.take_of_length_le (by rw [HN.out]; exact Nat.le_refl _)
   have HO2 : Hid (OwR 5 1 w wr (.slice va al vc) (sqF false l).length (u8s (sqF false l))) := hid (by have h := HO.out; have h2 := HAL.out; rw [hall] at h h2; rw [h2]; exact h)
   have HDEN := hid (owR_bytes HO2.out)
   clear hall hlt
   go_wp2_with (first
    | ((with_reducible refine K.atO (.convert _ 9 _) ?_); refine wpL_stringOf rfl _ _ _ _ rfl _ _ (sqF false l) rfl HDEN.out Tryz.underlying150 Tryz.underlying5 Tryz.underlying9 ?_))
   go_ret
   exact ⟨rfl, HO.out.fr⟩
end Go.Proofs.YtgbiicipkbpmeaaGreatDoor.FT
