/-
  Part 17 of the proof: SdE, SdF, ScL, SdR, SdS.
-/
import Derived.Test.YtgbiicipkbpmeaaGreatDoorSk16
import Derived.Test.YtgbiicipkbpmeaaGreatDoorSk02
import Derived.Test.YtgbiicipkbpmeaaGreatDoorSk14
set_option linter.unusedSimpArgs false
set_option linter.unusedVariables false
namespace Go.Proofs.YtgbiicipkbpmeaaGreatDoor.SC
set_option maxRecDepth 100000
open Go.RowKit K BE DN
def exTv (i : Nat) : Value := .agg (tyV (exT.getD i ty0)).toArray
def exCv (i : Nat) (v1 v2 : Value) : Value := .agg (clV (exC.getD i ⟨[], 0, [], [], []⟩) v1 v2).toArray
theorem exec_bld {op : Oper} {a : Act} (t : TypeId) (fs : List (Nat × Operand)) (ho : op.op = .build t fs.toArray) (gs : List (Nat × Value)) (hx : (fs.map fun x => (x.1, a.eval x.2)) = gs) (v : Value) (w : World) (h : (Instr.build t gs.toArray).run Tryz.prog w = .ok v w) : (execOp a.eval op).run Tryz.prog w = .ok (.value v) w := by
 subst hx
 have e : (fs.toArray.map fun x => (x.1, a.eval x.2)) = (fs.map fun x => (x.1, a.eval x.2)).toArray := by simp
 simp only [execOp, ho]
 rw [e]
 simp [h, Result.andThen]
theorem bty0 (w : World) : (Instr.build 53 [(0, .string (sb sOC)), (1, .int .i64 1)].toArray).run Tryz.prog w = .ok (exTv 0) w := by kernel_rfl
theorem bty1 (w : World) : (Instr.build 53 [(0, .string (sb sCn)), (1, .int .i64 1)].toArray).run Tryz.prog w = .ok (exTv 1) w := by kernel_rfl
theorem bty2 (w : World) : (Instr.build 53 [(0, .string (sb sAge)), (1, .int .i64 3), (2, .bool true)].toArray).run Tryz.prog w = .ok (exTv 2) w := by kernel_rfl
theorem bty3 (w : World) : (Instr.build 53 [(0, .string (sb sDc)), (1, .int .i64 1)].toArray).run Tryz.prog w = .ok (exTv 3) w := by kernel_rfl
theorem bcl0 (w : World) : (Instr.build 55 [(0, .string (sb sTop))].toArray).run Tryz.prog w = .ok (exCv 0 (.slice none 0 0) (.slice none 0 0)) w := by kernel_rfl
theorem bcl1 (p q : Nat) (w : World) : (Instr.build 55 [(0, .string (sb sPerson)), (1, .int .i64 1), (2, .string (sb sTop)), (3, .slice (some ⟨p, 0, none⟩) 1 1), (4, .slice (some ⟨q, 0, none⟩) 1 1)].toArray).run Tryz.prog w = .ok (exCv 1 (.slice (some ⟨p, 0, none⟩) 1 1) (.slice (some ⟨q, 0, none⟩) 1 1)) w := by kernel_rfl
theorem bcl2 (p : Nat) (w : World) : (Instr.build 55 [(0, .string (sb sDomain)), (1, .int .i64 1), (2, .string (sb sTop)), (3, .slice (some ⟨p, 0, none⟩) 1 1)].toArray).run Tryz.prog w = .ok (exCv 2 (.slice (some ⟨p, 0, none⟩) 1 1) (.slice none 0 0)) w := by kernel_rfl
theorem bcl3 (p : Nat) (w : World) : (Instr.build 55 [(0, .string (sb sAged)), (1, .int .i64 2), (3, .slice (some ⟨p, 0, none⟩) 1 1)].toArray).run Tryz.prog w = .ok (exCv 3 (.slice (some ⟨p, 0, none⟩) 1 1) (.slice none 0 0)) w := by kernel_rfl
theorem bsc (p q : Nat) (w : World) : (Instr.build 25 [(0, .slice (some ⟨p, 0, none⟩) 4 4), (1, .slice (some ⟨q, 0, none⟩) 4 4)].toArray).run Tryz.prog w = .ok (.agg #[.slice (some ⟨p, 0, none⟩) 4 4, .slice (some ⟨q, 0, none⟩) 4 4]) w := by kernel_rfl
theorem fty : ([exTv 0, exTv 1, exTv 2, exTv 3].flatMap fun v => v.cells.toList) = (exT.map tyV).flatten := by kernel_rfl
theorem szty (i : Nat) : (exTv i).cells.size = 6 := rfl
theorem szcl (i : Nat) (u v : Value) : (exCv i u v).cells.size = 5 := rfl
theorem fcl (p q r s : Nat) : ([exCv 0 (.slice none 0 0) (.slice none 0 0), exCv 1 (.slice (some ⟨p, 0, none⟩) 1 1) (.slice (some ⟨q, 0, none⟩) 1 1), exCv 2 (.slice (some ⟨r, 0, none⟩) 1 1) (.slice none 0 0), exCv 3 (.slice (some ⟨s, 0, none⟩) 1 1) (.slice none 0 0)].flatMap fun v => v.cells.toList) = ([clV (exC.getD 0 ⟨[], 0, [], [], []⟩) (.slice none 0 0) (.slice none 0 0), clV (exC.getD 1 ⟨[], 0, [], [], []⟩) (.slice (some ⟨p, 0, none⟩) 1 1) (.slice (some ⟨q, 0, none⟩) 1 1), clV (exC.getD 2 ⟨[], 0, [], [], []⟩) (.slice (some ⟨r, 0, none⟩) 1 1) (.slice none 0 0), clV (exC.getD 3 ⟨[], 0, [], [], []⟩) (.slice (some ⟨s, 0, none⟩) 1 1) (.slice none 0 0)] : List (List Value)).flatten := by kernel_rfl
attribute [irreducible] exTv exCv
set_option maxHeartbeats 8000000 in
theorem example_any (w : World) : Calls Tryz.prog 14 #[] w fun e w' => ∃ vt vc, e = .returned (.agg #[vt, vc]) ∧ TysIn (fun i => w.heap.size ≤ i) w' vt exT ∧ ClsIn (fun i => w.heap.size ≤ i) w' vc exC ∧ Fr No w w' := by
 obtain ⟨is, his, hzs, hss, hbs⟩ := info_ex infoS3
 obtain ⟨it, hit, hzt, hst, hbt⟩ := info_ex infoTy3
 obtain ⟨ic, hic, hzc, hsc, hbc⟩ := info_ex infoCl3
 have IS := hid his; have ZS := hid hzs; have SS := hid hss
 have IT := hid hit; have ZT := hid hzt; have ST := hid hst
 have IC := hid hic; have ZC := hid hzc; have SC := hid hsc
 obtain ⟨base, hbase⟩ : ∃ b, w.heap.size = b := ⟨_, rfl⟩
 have HBASE := hid hbase
 clear his hzs hss hbs hit hzt hst hbt hic hzc hsc hbc hbase
 go_enter Tryz.func14, Tryz.ntmps14
 go_wp2_with (first
  | ((with_reducible refine K.atO (.alloc 25) ?_); refine wpL_alloc rfl _ rfl _ zeroSc _ rfl ?_; intro w1 HB1 F1 HS1; simp only [Act.put, K.put3])
  | ((with_reducible refine K.atO (.build 53 _) ?_); refine wpL_valZ rfl (exTv 0) (exec_bld _ [(0, .const (.string (sb sOC))), (1, .const (.int .i64 1))] rfl [(0, .string (sb sOC)), (1, .int .i64 1)] rfl _ _ (bty0 _)) ?_; simp only [Act.put, K.put3])
  | ((with_reducible refine K.atO (.build 53 _) ?_); refine wpL_valZ rfl (exTv 1) (exec_bld _ [(0, .const (.string (sb sCn))), (1, .const (.int .i64 1))] rfl [(0, .string (sb sCn)), (1, .int .i64 1)] rfl _ _ (bty1 _)) ?_; simp only [Act.put, K.put3])
  | ((with_reducible refine K.atO (.build 53 _) ?_); refine wpL_valZ rfl (exTv 2) (exec_bld _ [(0, .const (.string (sb sAge))), (1, .const (.int .i64 3)), (2, .const (.bool true))] rfl [(0, .string (sb sAge)), (1, .int .i64 3), (2, .bool true)] rfl _ _ (bty2 _)) ?_; simp only [Act.put, K.put3])
  | ((with_reducible refine K.atO (.build 53 _) ?_); refine wpL_valZ rfl (exTv 3) (exec_bld _ [(0, .const (.string (sb sDc))), (1, .const (.int .i64 1))] rfl [(0, .string (sb sDc)), (1, .int .i64 1)] rfl _ _ (bty3 _)) ?_; simp only [Act.put, K.put3])
  | ((with_reducible refine K.atO (.buildSlice 22 _ _) ?_); refine wpL_buildAll rfl 22 53 [.tmp 1, .tmp 2, .tmp 3, .tmp 4] rfl it _ Tryz.underlying22 IT.out ZT.out (by rw [ST.out]; decide) (by rw [ST.out]; decide) (by decide) [exTv 0, exTv 1, exTv 2, exTv 3] rfl (by intro v hv; rw [ST.out]; simp only [List.mem_cons, List.not_mem_nil, or_false] at hv; rcases hv with rfl | rfl | rfl | rfl <;> exact szty _) (exT.map tyV).flatten fty ?_; intro y1 HY1 G1 HT1; simp only [Act.put, K.put3])
  | ((with_reducible refine K.atO (.build 55 _) ?_); (have := HY5); refine wpL_valZ rfl (exCv 3 (.slice (some ⟨y4.heap.size, 0, none⟩) 1 1) (.slice none 0 0)) (exec_bld _ [(0, .const (.string (sb sAged))), (1, .const (.int .i64 2)), (3, .tmp 12)] rfl [(0, (.string (sb sAged))), (1, .int .i64 2), (3, (.slice (some ⟨y4.heap.size, 0, none⟩) 1 1))] rfl _ _ (bcl3 _ _)) ?_; simp only [Act.put, K.put3])
  | ((with_reducible refine K.atO (.build 55 _) ?_); (have := HY4); refine wpL_valZ rfl (exCv 2 (.slice (some ⟨y3.heap.size, 0, none⟩) 1 1) (.slice none 0 0)) (exec_bld _ [(0, .const (.string (sb sDomain))), (1, .const (.int .i64 1)), (2, .const (.string (sb sTop))), (3, .tmp 10)] rfl [(0, (.string (sb sDomain))), (1, .int .i64 1), (2, (.string (sb sTop))), (3, (.slice (some ⟨y3.heap.size, 0, none⟩) 1 1))] rfl _ _ (bcl2 _ _)) ?_; simp only [Act.put, K.put3])
  | ((with_reducible refine K.atO (.build 55 _) ?_); (have := HY3); refine wpL_valZ rfl (exCv 1 (.slice (some ⟨y1.heap.size, 0, none⟩) 1 1) (.slice (some ⟨y2.heap.size, 0, none⟩) 1 1)) (exec_bld _ [(0, .const (.string (sb sPerson))), (1, .const (.int .i64 1)), (2, .const (.string (sb sTop))), (3, .tmp 7), (4, .tmp 8)] rfl [(0, (.string (sb sPerson))), (1, .int .i64 1), (2, (.string (sb sTop))), (3, (.slice (some ⟨y1.heap.size, 0, none⟩) 1 1)), (4, (.slice (some ⟨y2.heap.size, 0, none⟩) 1 1))] rfl _ _ (bcl1 _ _ _)) ?_; simp only [Act.put, K.put3])
  | ((with_reducible refine K.atO (.build 55 _) ?_); refine wpL_valZ rfl (exCv 0 (.slice none 0 0) (.slice none 0 0)) (exec_bld _ [(0, .const (.string (sb sTop)))] rfl [(0, (.string (sb sTop)))] rfl _ _ (bcl0 _)) ?_; simp only [Act.put, K.put3])
  | ((with_reducible refine K.atO (.buildSlice 37 _ _) ?_); (have := HY4); refine wpL_buildAll rfl 37 9 [.const (.string (sb sAge))] rfl is _ Tryz.underlying37 IS.out ZS.out (by rw [SS.out]; decide) (by rw [SS.out]; decide) (by decide) [.string (sb sAge)] rfl (by intro v hv; rw [List.mem_singleton.1 hv, SS.out]; rfl) (strs [sAge]) rfl ?_; intro y5 HY5 G5 HT5; simp only [Act.put, K.put3])
  | ((with_reducible refine K.atO (.buildSlice 37 _ _) ?_); (have := HY3); refine wpL_buildAll rfl 37 9 [.const (.string (sb sDc))] rfl is _ Tryz.underlying37 IS.out ZS.out (by rw [SS.out]; decide) (by rw [SS.out]; decide) (by decide) [.string (sb sDc)] rfl (by intro v hv; rw [List.mem_singleton.1 hv, SS.out]; rfl) (strs [sDc]) rfl ?_; intro y4 HY4 G4 HT4; simp only [Act.put, K.put3])
  | ((with_reducible refine K.atO (.buildSlice 37 _ _) ?_); (have := HY2); refine wpL_buildAll rfl 37 9 [.const (.string (sb sAge))] rfl is _ Tryz.underlying37 IS.out ZS.out (by rw [SS.out]; decide) (by rw [SS.out]; decide) (by decide) [.string (sb sAge)] rfl (by intro v hv; rw [List.mem_singleton.1 hv, SS.out]; rfl) (strs [sAge]) rfl ?_; intro y3 HY3 G3 HT3; simp only [Act.put, K.put3])
  | ((with_reducible refine K.atO (.buildSlice 37 _ _) ?_); refine wpL_buildAll rfl 37 9 [.const (.string (sb sCn))] rfl is _ Tryz.underlying37 IS.out ZS.out (by rw [SS.out]; decide) (by rw [SS.out]; decide) (by decide) [.string (sb sCn)] rfl (by intro v hv; rw [List.mem_singleton.1 hv, SS.out]; rfl) (strs [sCn]) rfl ?_; intro y2 HY2 G2 HT2; simp only [Act.put, K.put3])
  | ((with_reducible refine K.atO (.buildSlice 23 _ _) ?_); refine wpL_buildAll rfl 23 55 [.tmp 6, .tmp 9, .tmp 11, .tmp 13] rfl ic _ Tryz.underlying23 IC.out ZC.out (by rw [SC.out]; decide) (by rw [SC.out]; decide) (by decide) [exCv 0 (.slice none 0 0) (.slice none 0 0), exCv 1 (.slice (some ⟨y1.heap.size, 0, none⟩) 1 1) (.slice (some ⟨y2.heap.size, 0, none⟩) 1 1), exCv 2 (.slice (some ⟨y3.heap.size, 0, none⟩) 1 1) (.slice none 0 0), exCv 3 (.slice (some ⟨y4.heap.size, 0, none⟩) 1 1) (.slice none 0 0)] rfl (by intro v hv; rw [SC.out]; simp only [List.mem_cons, List.not_mem_nil, or_false] at hv; rcases hv with rfl | rfl | rfl | rfl <;> exact szcl _ _ _) ([clV (exC.getD 0 ⟨[], 0, [], [], []⟩) (.slice none 0 0) (.slice none 0 0), clV (exC.getD 1 ⟨[], 0, [], [], []⟩) (.slice (some ⟨y1.heap.size, 0, none⟩) 1 1) (.slice (some ⟨y2.heap.size, 0, none⟩) 1 1), clV (exC.getD 2 ⟨[], 0, [], [], []⟩) (.slice (some ⟨y3.heap.size, 0, none⟩) 1 1) (.slice none 0 0), clV (exC.getD 3 ⟨[], 0, [], [], []⟩) (.slice (some ⟨y4.heap.size, 0, none⟩) 1 1) (.slice none 0 0)] : List (List Value)).flatten (fcl _ _ _ _) ?_; intro y6 HY6 G6 HT6; simp only [Act.put, K.put3])
  | ((with_reducible refine K.atO (.build 25 _) ?_); refine wpL_valZ rfl (.agg #[.slice (some ⟨w1.heap.size, 0, none⟩) 4 4, .slice (some ⟨y5.heap.size, 0, none⟩) 4 4]) (exec_bld _ [(0, .tmp 5), (1, .tmp 14)] rfl [(0, .slice (some ⟨w1.heap.size, 0, none⟩) 4 4), (1, .slice (some ⟨y5.heap.size, 0, none⟩) 4 4)] rfl _ _ (bsc _ _ _)) ?_; simp only [Act.put, K.put3])
  | ((with_reducible refine K.atO (.store 25 _ _) ?_); refine wpL_store rfl _ _ _ rfl w.heap.size 0 [.slice (some ⟨w1.heap.size, 0, none⟩) 4 4, .slice (some ⟨y5.heap.size, 0, none⟩) 4 4] rfl rfl 25 _ ((((((HB1.out.fr G1.out id).fr G2.out id).fr G3.out id).fr G4.out id).fr G5.out id).fr G6.out id) (by simp) infoSc (by simp [Value.oneCell']) ?_; intro y7 HY7 G7 HT7)
  | fail)
 have hs1 := HS1.out; have t1 := HT1.out; have t2 := HT2.out; have t3 := HT3.out; have t4 := HT4.out; have t5 := HT5.out; have t6 := HT6.out
 have hf : Fr No w y7 := (((((((F1.out.trans' G1.out).trans' G2.out).trans' G3.out).trans' G4.out).trans' G5.out).trans' G6.out).trans G7.out (fun k e => .inr (by have e : k = w.heap.size := e; omega)))
 have hg : ∀ {t : TypeId} {b : Nat} {cs : List Value} {u : World}, Blk u b t cs → Fr No u y6 → b ≠ w.heap.size → Blk y7 b t cs := fun h f hb => (h.fr f id).fr G7.out hb
 refine ret_cell rfl _ rfl HY7.out rfl rfl infoSc rfl ?_
 refine ⟨_, _, rfl, ?_, ?_, hf⟩
 ·have hb := hg HY1.out ((((G2.out.trans' G3.out).trans' G4.out).trans' G5.out).trans' G6.out) (by omega)
  have := blk_sl (k := 6) (p := TyC) exT (exT.map tyV) hb rfl (by intro c hc; obtain ⟨t, _, rfl⟩ := List.mem_map.1 hc; rfl) (fun j x c hx hc => by
   rw [List.getElem?_map, hx] at hc
   obtain rfl : tyV x = c := by simpa using hc
   have hm := List.mem_of_getElem? hx
   refine ⟨rfl, ?_⟩
   simp only [exT, List.mem_cons, List.not_mem_nil, or_false] at hm
   rcases hm with rfl | rfl | rfl | rfl <;> (unfold Sz; decide)) (by decide)
  exact Sl.mono this (fun i hi _ => by have hi : i = w1.heap.size := hi; omega) (fun _ _ _ h => h)
 ·have hb := hg HY6.out (Fr.refl _ _) (by omega)
  have l2 := LsIn.mono (S' := fun i => w.heap.size ≤ i) (blk_ls [sCn] (hg HY2.out (((G3.out.trans' G4.out).trans' G5.out).trans' G6.out) (by omega)) (by decide) (by intro x hx; rw [List.mem_singleton.1 hx]; unfold Sz; decide)) (fun i hi _ => by have hi : i = y1.heap.size := hi; omega)
  have l3 := LsIn.mono (S' := fun i => w.heap.size ≤ i) (blk_ls [sAge] (hg HY3.out ((G4.out.trans' G5.out).trans' G6.out) (by omega)) (by decide) (by intro x hx; rw [List.mem_singleton.1 hx]; unfold Sz; decide)) (fun i hi _ => by have hi : i = y2.heap.size := hi; omega)
  have l4 := LsIn.mono (S' := fun i => w.heap.size ≤ i) (blk_ls [sDc] (hg HY4.out (G5.out.trans' G6.out) (by omega)) (by decide) (by intro x hx; rw [List.mem_singleton.1 hx]; unfold Sz; decide)) (fun i hi _ => by have hi : i = y3.heap.size := hi; omega)
  have l5 := LsIn.mono (S' := fun i => w.heap.size ≤ i) (blk_ls [sAge] (hg HY5.out G6.out (by omega)) (by decide) (by intro x hx; rw [List.mem_singleton.1 hx]; unfold Sz; decide)) (fun i hi _ => by have hi : i = y4.heap.size := hi; omega)
  have l0 : LsIn (fun i => w.heap.size ≤ i) y7 (.slice none 0 0) [] := ⟨none, 0, rfl, Nat.le_refl _, by simp, .inl rfl⟩
  have := blk_sl (k := 5) (p := ClC (fun i => w.heap.size ≤ i) y7) exC [clV (exC.getD 0 ⟨[], 0, [], [], []⟩) (.slice none 0 0) (.slice none 0 0), clV (exC.getD 1 ⟨[], 0, [], [], []⟩) (.slice (some ⟨y1.heap.size, 0, none⟩) 1 1) (.slice (some ⟨y2.heap.size, 0, none⟩) 1 1), clV (exC.getD 2 ⟨[], 0, [], [], []⟩) (.slice (some ⟨y3.heap.size, 0, none⟩) 1 1) (.slice none 0 0), clV (exC.getD 3 ⟨[], 0, [], [], []⟩) (.slice (some ⟨y4.heap.size, 0, none⟩) 1 1) (.slice none 0 0)] hb rfl (by intro c hc; simp only [List.mem_cons, List.not_mem_nil, or_false] at hc; rcases hc with rfl | rfl | rfl | rfl <;> rfl) (fun j x c hx hc => by
   match j, hx, hc with
   | 0, hx, hc => cases hx; cases hc; exact ⟨_, _, rfl, by unfold Sz; decide, by unfold Sz; decide, l0, l0, by unfold LB; decide⟩
   | 1, hx, hc => cases hx; cases hc; exact ⟨_, _, rfl, by unfold Sz; decide, by unfold Sz; decide, l2, l3, by unfold LB; decide⟩
   | 2, hx, hc => cases hx; cases hc; exact ⟨_, _, rfl, by unfold Sz; decide, by unfold Sz; decide, l4, l0, by unfold LB; decide⟩
   | 3, hx, hc => cases hx; cases hc; exact ⟨_, _, rfl, by unfold Sz; decide, by unfold Sz; decide, l5, l0, by unfold LB; decide⟩
   | n + 4, hx, _ => simp [exC] at hx) (by decide)
  exact Sl.mono this (fun i hi _ => by have hi : i = y5.heap.size := hi; omega) (fun _ _ _ h => h)
end Go.Proofs.YtgbiicipkbpmeaaGreatDoor.SC
namespace Go.Proofs.YtgbiicipkbpmeaaGreatDoor.SC
set_option maxRecDepth 100000
open Go.RowKit K BE DN
theorem infoAt3 : (Tryz.prog.info? 45).map (fun i => (i.zero, i.size, i.bytes)) = some (some (.agg #[.string ⟨#[]⟩, .slice none 0 0]), 2, 40) := by kernel_rfl
theorem bat (n : B) (p l : Nat) (w : World) : (Instr.build 45 [(0, .string (sb n)), (1, .slice (some ⟨p, 0, none⟩) l l)].toArray).run Tryz.prog w = .ok (.agg #[.string (sb n), .slice (some ⟨p, 0, none⟩) l l]) w := by kernel_rfl
def St (X : Nat → Prop) (w : World) (b c1 p1 c2 p2 : Nat) : Prop := Sx w X b exS ∧ Gs w ∧ (∀ k, X k → k < w.heap.size) ∧
 Blk w c1 45 [.string (sb sOC), .slice (some ⟨p1, 0, none⟩) 1 1] ∧ Blk w p1 9 (strs [sPerson]) ∧
 Blk w c2 45 [.string (sb sCn), .slice (some ⟨p2, 0, none⟩) 1 1] ∧ Blk w p2 9 (strs [[65]]) ∧ c1 ≠ b ∧ p1 ≠ b ∧ c2 ≠ b ∧ p2 ≠ b
section
variable {X : Nat → Prop} {w w' : World} {b c1 p1 c2 p2 : Nat}
theorem St.step (h : St X w b c1 p1 c2 p2) (hx : GX X) (hs : Sx w' X b exS) (hf : Fr (fun k => k = b) w w') : St X w' b c1 p1 c2 p2 := by
 obtain ⟨h1, h2, h3, h4, h5, h6, h7, h8, h9, h10, h11⟩ := h
 exact ⟨hs, hs.bb h2 hf hx, fun k hk => Nat.lt_of_lt_of_le (h3 k hk) hf.size, h4.fr hf h8, h5.fr hf h9, h6.fr hf h10, h7.fr hf h11, h8, h9, h10, h11⟩
theorem St.no (h : St X w b c1 p1 c2 p2) (hf : Fr No w w') : St X w' b c1 p1 c2 p2 := by
 obtain ⟨h1, h2, h3, h4, h5, h6, h7, h8, h9, h10, h11⟩ := h
 exact ⟨h1.no hf, h2.no hf, fun k hk => Nat.lt_of_lt_of_le (h3 k hk) hf.size, h4.fr hf id, h5.fr hf id, h6.fr hf id, h7.fr hf id, h8, h9, h10, h11⟩
theorem St.lt (h : St X w b c1 p1 c2 p2) : b < w.heap.size := h.1.lt
theorem ls_blk {p : Nat} (l : List B) (h : Blk w p 9 (strs l)) (hp : p ≠ b) (hl : l.length ≤ 140737488351232) (hz : ∀ x ∈ l, Sz x) : LsIn (fun i => i ≠ b) w (.slice (some ⟨p, 0, none⟩) l.length l.length) l :=
 LsIn.mono (blk_ls l h hl hz) (fun i hi _ => by have hi : i = p := hi; rw [hi]; exact hp)
theorem en_blk {e : Nat} (en : Ent) (vs : List Value) (h : Blk w e 45 (List.zipWith (fun a v => [Value.string (sb a.1), v]) en vs).flatten) (hl : vs.length = en.length) (hz : ∀ (j : Nat) (a : Atr) (v : Value), en[j]? = some a → vs[j]? = some v → Sz a.1 ∧ LsIn (fun i => i ≠ b) w v a.2) (he : e ≠ b) (hn : en.length ≤ 140737488351232) :
  EnIn (fun i => i ≠ b) w (.slice (some ⟨e, 0, none⟩) en.length en.length) en := by
 have := blk_sl (k := 2) (p := AtC (fun i => i ≠ b) w) en (List.zipWith (fun a v => [Value.string (sb a.1), v]) en vs) h (by rw [List.length_zipWith, hl, Nat.min_self]) (by
  intro c hc
  obtain ⟨j, hj, rfl⟩ := List.getElem_of_mem hc
  rw [List.getElem_zipWith]
  rfl) (fun j x c hx hc => by
  rw [List.getElem?_zipWith] at hc
  rw [hx] at hc
  cases hv : vs[j]? with
  | none => rw [hv] at hc; simp at hc
  | some v =>
   rw [hv] at hc
   have hc : [Value.string (sb x.1), v] = c := by simpa using hc
   obtain ⟨h1, h2⟩ := hz j x v hx hv
   exact ⟨v, hc.symm, h1, h2⟩) hn
 exact Sl.mono this (fun i hi _ => by have hi : i = e := hi; rw [hi]; exact he) (fun _ _ _ h => h)
theorem sz_s {l : B} (h : l.length ≤ 100) : Sz l := by unfold Sz; omega
end
set_option maxHeartbeats 16000000 in
theorem awake_any (w : World) (hG : Gs w) : Calls Tryz.prog 5 #[] w fun e w' => e = .returned (.bool true) ∧ Fr No w w' := by
 obtain ⟨X, hXe⟩ : ∃ X : Nat → Prop, X = fun k => k < w.heap.size := ⟨_, rfl⟩
 have HX := hid hXe
 have HGX : Hid (GX X) := hid (by rw [hXe]; exact hG.gx)
 have HG := hid hG
 obtain ⟨is, his, hzs, hss, hbs⟩ := info_ex infoS3
 obtain ⟨ia, hia, hza, hsa, hba⟩ := info_ex infoAt3
 have IS := hid his; have ZS := hid hzs; have SS := hid hss
 have IA := hid hia; have ZA := hid hza; have SA := hid hsa
 clear his hzs hss hbs hia hza hsa hba hXe hG
 go_enter Tryz.func5, Tryz.ntmps5
 go_wp2_with fail
 refine (example_any _).mono ?_
 rintro e w1 ⟨vt, vc, rfl, ht, hc, f1⟩
 have HT := hid ht; have HC := hid hc; have HF1 := hid f1
 clear ht hc f1
 go_wp2_with fail
 refine (new_ok vt vc exS w1 HT.out HC.out ex_ok).mono ?_
 rintro e w2 ⟨b, rfl, hs, f2⟩
 have HS2 : Hid (Sx w2 X b exS) := hid (hs.less (fun k hk => by rw [HX.out] at hk; exact Nat.lt_of_lt_of_le hk HF1.out.size))
 have HF2 : Hid (Fr No w w2) := hid (HF1.out.trans' f2)
 have HBW : Hid (w.heap.size ≤ b) := hid (by have := HS2.out.nx; rw [HX.out] at this; omega)
 have HBL := hid hs.lt
 clear hs f2 HT HC HF1
 go_wp2_with (first
  | ((with_reducible refine K.atO (.store 45 _ _) ?_); (have := Hy7); refine wpL_store rfl _ _ _ rfl y6.heap.size 0 [.string (sb sCn), .slice (some ⟨y4.heap.size, 0, none⟩) 1 1] rfl rfl 45 _ Hy7.out (by simp) infoAt (by simp [Value.oneCell']) ?_; intro y8 Hy8 Gy8 Ty8; simp only [Act.put, K.put3])
  | ((with_reducible refine K.atO (.alloc 45) ?_); (have := Hy6); refine wpL_alloc rfl _ rfl _ zeroAt [.string ⟨#[]⟩, .slice none 0 0] rfl ?_; intro y7 Hy7 Gy7 Ty7; simp only [Act.put, K.put3])
  | ((with_reducible refine K.atO (.build 45 _) ?_); (have := Hy6); refine wpL_valZ rfl (.agg #[.string (sb sCn), .slice (some ⟨y4.heap.size, 0, none⟩) 1 1]) (exec_bld _ [(0, .const (.string (sb sCn))), (1, .tmp 32)] rfl [(0, (.string (sb sCn))), (1, .slice (some ⟨y4.heap.size, 0, none⟩) 1 1)] rfl _ _ (bat _ _ _ _)) ?_; simp only [Act.put, K.put3])
  | ((with_reducible refine K.atO (.buildSlice 37 _ _) ?_); (have := Hy4); refine wpL_buildAll rfl 37 9 [.const (.string (sb [65]))] rfl is _ Tryz.underlying37 IS.out ZS.out (by rw [SS.out]; decide) (by rw [SS.out]; decide) (by decide) [.string (sb [65])] rfl (by intro v hv; rw [List.mem_singleton.1 hv, SS.out]; rfl) (strs [[65]]) rfl ?_; intro y6 Hy6 Gy6 Ty6; simp only [Act.put, K.put3])
  | ((with_reducible refine K.atO (.store 45 _ _) ?_); refine wpL_store rfl _ _ _ rfl y2.heap.size 0 [.string (sb sOC), .slice (some ⟨w2.heap.size, 0, none⟩) 1 1] rfl rfl 45 _ Hy3.out (by simp) infoAt (by simp [Value.oneCell']) ?_; intro y4 Hy4 Gy4 Ty4; simp only [Act.put, K.put3])
  | ((with_reducible refine K.atO (.alloc 45) ?_); refine wpL_alloc rfl _ rfl _ zeroAt [.string ⟨#[]⟩, .slice none 0 0] rfl ?_; intro y3 Hy3 Gy3 Ty3; simp only [Act.put, K.put3])
  | ((with_reducible refine K.atO (.build 45 _) ?_); refine wpL_valZ rfl (.agg #[.string (sb sOC), .slice (some ⟨w2.heap.size, 0, none⟩) 1 1]) (exec_bld _ [(0, .const (.string (sb sOC))), (1, .tmp 29)] rfl [(0, (.string (sb sOC))), (1, .slice (some ⟨w2.heap.size, 0, none⟩) 1 1)] rfl _ _ (bat _ _ _ _)) ?_; simp only [Act.put, K.put3])
  | ((with_reducible refine K.atO (.buildSlice 37 _ _) ?_); refine wpL_buildAll rfl 37 9 [.const (.string (sb sPerson))] rfl is _ Tryz.underlying37 IS.out ZS.out (by rw [SS.out]; decide) (by rw [SS.out]; decide) (by decide) [.string (sb sPerson)] rfl (by intro v hv; rw [List.mem_singleton.1 hv, SS.out]; rfl) (strs [sPerson]) rfl ?_; intro y2 Hy2 Gy2 Ty2; simp only [Act.put, K.put3])
  | fail)
 have HST : Hid (St X y8 b y2.heap.size w2.heap.size y6.heap.size y4.heap.size) := by
  have t2 := Ty2.out; have t3 := Ty3.out; have t4 := Ty4.out; have t6 := Ty6.out; have t7 := Ty7.out; have hbl := HBL.out
  have fa : Fr No w2 y4 := (Gy2.out.trans' Gy3.out).trans Gy4.out (fun i e => .inr (by have e : i = y2.heap.size := e; omega))
  have fb : Fr No y4 y8 := (Gy6.out.trans' Gy7.out).trans Gy8.out (fun i e => .inr (by have e : i = y6.heap.size := e; omega))
  have f := fa.trans' fb
  exact hid ⟨HS2.out.no f, HG.out.no (HF2.out.trans' f), fun i hi => by rw [HX.out] at hi; exact Nat.lt_of_lt_of_le (show i < w.heap.size from hi) (HF2.out.trans' f).size,
   Hy4.out.fr fb id, ((Hy2.out.fr Gy3.out id).fr Gy4.out (by show ¬ w2.heap.size = y2.heap.size; omega)).fr fb id, Hy8.out, (Hy6.out.fr Gy7.out id).fr Gy8.out (by show ¬ y4.heap.size = y6.heap.size; omega), by omega, by omega, by omega, by omega⟩
 have HF8 : Hid (Fr No w y8) := by
  have t2 := Ty2.out; have t3 := Ty3.out; have t4 := Ty4.out; have t6 := Ty6.out; have t7 := Ty7.out
  have fa : Fr No w2 y4 := (Gy2.out.trans' Gy3.out).trans Gy4.out (fun i e => .inr (by have e : i = y2.heap.size := e; omega))
  have fb : Fr No y4 y8 := (Gy6.out.trans' Gy7.out).trans Gy8.out (fun i e => .inr (by have e : i = y6.heap.size := e; omega))
  exact hid (HF2.out.trans' (fa.trans' fb))
 generalize w2.heap.size = p1 at HST ⊢
 generalize y2.heap.size = c1 at HST ⊢
 generalize y4.heap.size = p2 at HST ⊢
 generalize y6.heap.size = c2 at HST ⊢
 clear Hy2 Gy2 Ty2 Hy3 Gy3 Ty3 Hy4 Gy4 Ty4 Hy6 Gy6 Ty6 Hy7 Gy7 Ty7 Hy8 Gy8 Ty8 HS2 HBL HF2
 have HA0 := HF8; clear HF8
 have HFB : ∀ u v : World, Fr No w u → Fr (fun i => i = b) u v → Fr No w v := fun _ _ f g => f.trans g (fun i e => .inr (by rw [e]; exact HBW.out))
 have HFBH := hid HFB
 clear HFB
 go_wp2_with fail
 refine (norm_any X b exS [67, 78] [32, 65, 32, 32, 98] y8 HST.out.1 HST.out.2.2.1 HGX.out HST.out.2.1 (sz_s (by decide)) (sz_s (by decide))).mono ?_
 rintro e a1 ⟨rfl, hs, f⟩
 have HS1 := hid (HST.out.step HGX.out hs.sx f); have HA1 : Hid (Fr No w a1) := hid (HFBH.out _ _ HA0.out f)
 simp only [ex_n1]
 clear hs f HST HA0
 go_wp2_with fail
 refine (norm_any X b exS sAge [48, 48, 55] a1 HS1.out.1 HS1.out.2.2.1 HGX.out HS1.out.2.1 (sz_s (by decide)) (sz_s (by decide))).mono ?_
 rintro e a2 ⟨rfl, hs, f⟩
 have HS2 := hid (HS1.out.step HGX.out hs.sx f); have HA2 : Hid (Fr No w a2) := hid (HFBH.out _ _ HA1.out f)
 simp only [ex_n2]
 clear hs f HS1 HA1
 go_wp2_with fail
 refine (cmp_any X b exS sAge [45, 53] [49, 50] a2 HS2.out.1 HS2.out.2.2.1 HGX.out HS2.out.2.1 (sz_s (by decide)) (sz_s (by decide)) (sz_s (by decide))).mono ?_
 rintro e a3 ⟨rfl, hs, f⟩
 have HS3 := hid (HS2.out.step HGX.out hs.sx f); have HA3 : Hid (Fr No w a3) := hid (HFBH.out _ _ HA2.out f)
 simp only [ex_c]
 clear hs f HS2 HA2
 have LD1 : Hid (a3.rangeAt c1 0 [.string (sb sOC), .slice (some ⟨p1, 0, none⟩) 1 1]) := hid (HS3.out.2.2.2.1.range 0 _ rfl)
 have LD2 : Hid (a3.rangeAt c2 0 [.string (sb sCn), .slice (some ⟨p2, 0, none⟩) 1 1]) := hid (HS3.out.2.2.2.2.2.1.range 0 _ rfl)
 go_wp2_with (first
  | ((with_reducible refine K.atO (.load 45 _) ?_); refine wpL_valZ rfl (.agg #[.string (sb sOC), .slice (some ⟨p1, 0, none⟩) 1 1]) (exec_load _ (.tmp 3) rfl c1 0 rfl [.string (sb sOC), .slice (some ⟨p1, 0, none⟩) 1 1] _ rfl rfl infoAt a3 LD1.out) ?_; simp only [Act.put, K.put3])
  | ((with_reducible refine K.atO (.load 45 _) ?_); refine wpL_valZ rfl (.agg #[.string (sb sCn), .slice (some ⟨p2, 0, none⟩) 1 1]) (exec_load _ (.tmp 4) rfl c2 0 rfl [.string (sb sCn), .slice (some ⟨p2, 0, none⟩) 1 1] _ rfl rfl infoAt a3 LD2.out) ?_; simp only [Act.put, K.put3])
  | ((with_reducible refine K.atO (.buildSlice 26 _ _) ?_); refine wpL_buildAll rfl 26 45 [.tmp 49, .tmp 50] rfl ia _ Tryz.underlying26 IA.out ZA.out (by rw [SA.out]; decide) (by rw [SA.out]; decide) (by decide) [.agg #[.string (sb sOC), .slice (some ⟨p1, 0, none⟩) 1 1], .agg #[.string (sb sCn), .slice (some ⟨p2, 0, none⟩) 1 1]] rfl (by intro v hv; rw [SA.out]; simp only [List.mem_cons, List.not_mem_nil, or_false] at hv; rcases hv with rfl | rfl <;> rfl) (List.zipWith (fun a v => [Value.string (sb a.1), v]) [aOC, aCn] [(.slice (some ⟨p1, 0, none⟩) 1 1), (.slice (some ⟨p2, 0, none⟩) 1 1)]).flatten rfl ?_; intro z2 Hz2 Gz2 Tz2; simp only [Act.put, K.put3])
  | fail)
 have HS4 := hid (HS3.out.no Gz2.out); have HA4 := hid (HA3.out.trans' Gz2.out)
 have HE4 : Hid (EnIn (fun i => i ≠ b) z2 (.slice (some ⟨a3.heap.size, 0, none⟩) 2 2) [aOC, aCn]) := by
  have hbl := HS3.out.lt
  obtain ⟨-, -, -, -, hp1, -, hp2, -, hn1, -, hn2⟩ := HS4.out
  refine hid (en_blk [aOC, aCn] [(.slice (some ⟨p1, 0, none⟩) 1 1), (.slice (some ⟨p2, 0, none⟩) 1 1)] Hz2.out rfl (fun j a v hj hv => ?_) (by omega) (by decide))
  match j, hj, hv with
  | 0, hj, hv => cases hj; cases hv; exact ⟨sz_s (by decide), ls_blk [sPerson] hp1 hn1 (by decide) (by intro x hx; rw [List.mem_singleton.1 hx]; exact sz_s (by decide))⟩
  | 1, hj, hv => cases hj; cases hv; exact ⟨sz_s (by decide), ls_blk [[65]] hp2 hn2 (by decide) (by intro x hx; rw [List.mem_singleton.1 hx]; exact sz_s (by decide))⟩
  | q + 2, hj, _ => simp at hj
 clear HS3 HA3 Hz2 Gz2 Tz2 LD1 LD2
 refine (check_any X b exS _ [aOC, aCn] z2 HS4.out.1 HS4.out.2.2.1 HGX.out HS4.out.2.1 HE4.out (fun i hi => hi)).mono ?_
 rintro e a5 ⟨rfl, hs, f⟩
 have HS5 := hid (HS4.out.step HGX.out hs f); have HA5 : Hid (Fr No w a5) := hid (HFBH.out _ _ HA4.out f)
 rw [ex_k1]
 clear hs f HS4 HA4 HE4
 have LD1 : Hid (a5.rangeAt c1 0 [.string (sb sOC), .slice (some ⟨p1, 0, none⟩) 1 1]) := hid (HS5.out.2.2.2.1.range 0 _ rfl)
 have LD2 : Hid (a5.rangeAt c2 0 [.string (sb sCn), .slice (some ⟨p2, 0, none⟩) 1 1]) := hid (HS5.out.2.2.2.2.2.1.range 0 _ rfl)
 go_wp2_with (first
  | ((with_reducible refine K.atO (.load 45 _) ?_); refine wpL_valZ rfl (.agg #[.string (sb sOC), .slice (some ⟨p1, 0, none⟩) 1 1]) (exec_load _ (.tmp 3) rfl c1 0 rfl [.string (sb sOC), .slice (some ⟨p1, 0, none⟩) 1 1] _ rfl rfl infoAt a5 LD1.out) ?_; simp only [Act.put, K.put3])
  | ((with_reducible refine K.atO (.load 45 _) ?_); refine wpL_valZ rfl (.agg #[.string (sb sCn), .slice (some ⟨p2, 0, none⟩) 1 1]) (exec_load _ (.tmp 4) rfl c2 0 rfl [.string (sb sCn), .slice (some ⟨p2, 0, none⟩) 1 1] _ rfl rfl infoAt a5 LD2.out) ?_; simp only [Act.put, K.put3])
  | ((with_reducible refine K.atO (.buildSlice 26 _ _) ?_); refine wpL_buildAll rfl 26 45 [.tmp 54] rfl ia _ Tryz.underlying26 IA.out ZA.out (by rw [SA.out]; decide) (by rw [SA.out]; decide) (by decide) [.agg #[.string (sb sOC), .slice (some ⟨p1, 0, none⟩) 1 1]] rfl (by intro v hv; rw [SA.out]; rw [List.mem_singleton.1 hv]; rfl) (List.zipWith (fun a v => [Value.string (sb a.1), v]) [aOC] [(.slice (some ⟨p1, 0, none⟩) 1 1)]).flatten rfl ?_; intro z2 Hz2 Gz2 Tz2; simp only [Act.put, K.put3])
  | fail)
 have HS6 := hid (HS5.out.no Gz2.out); have HA6 := hid (HA5.out.trans' Gz2.out)
 have HE6 : Hid (EnIn (fun i => i ≠ b) z2 (.slice (some ⟨a5.heap.size, 0, none⟩) 1 1) [aOC]) := by
  have hbl := HS5.out.lt
  obtain ⟨-, -, -, -, hp1, -, hp2, -, hn1, -, hn2⟩ := HS6.out
  refine hid (en_blk [aOC] [(.slice (some ⟨p1, 0, none⟩) 1 1)] Hz2.out rfl (fun j a v hj hv => ?_) (by omega) (by decide))
  match j, hj, hv with
  | 0, hj, hv => cases hj; cases hv; exact ⟨sz_s (by decide), ls_blk [sPerson] hp1 hn1 (by decide) (by intro x hx; rw [List.mem_singleton.1 hx]; exact sz_s (by decide))⟩
  | q + 1, hj, _ => simp at hj
 clear HS5 HA5 Hz2 Gz2 Tz2 LD1 LD2
 refine (check_any X b exS _ [aOC] z2 HS6.out.1 HS6.out.2.2.1 HGX.out HS6.out.2.1 HE6.out (fun i hi => hi)).mono ?_
 rintro e a7 ⟨rfl, hs, f⟩
 have HS7 := hid (HS6.out.step HGX.out hs f); have HA7 : Hid (Fr No w a7) := hid (HFBH.out _ _ HA6.out f)
 rw [ex_k2]
 clear hs f HS6 HA6 HE6
 have LD1 : Hid (a7.rangeAt c1 0 [.string (sb sOC), .slice (some ⟨p1, 0, none⟩) 1 1]) := hid (HS7.out.2.2.2.1.range 0 _ rfl)
 have LD2 : Hid (a7.rangeAt c2 0 [.string (sb sCn), .slice (some ⟨p2, 0, none⟩) 1 1]) := hid (HS7.out.2.2.2.2.2.1.range 0 _ rfl)
 go_wp2_with (first
  | ((with_reducible refine K.atO (.load 45 _) ?_); refine wpL_valZ rfl (.agg #[.string (sb sOC), .slice (some ⟨p1, 0, none⟩) 1 1]) (exec_load _ (.tmp 3) rfl c1 0 rfl [.string (sb sOC), .slice (some ⟨p1, 0, none⟩) 1 1] _ rfl rfl infoAt a7 LD1.out) ?_; simp only [Act.put, K.put3])
  | ((with_reducible refine K.atO (.load 45 _) ?_); refine wpL_valZ rfl (.agg #[.string (sb sCn), .slice (some ⟨p2, 0, none⟩) 1 1]) (exec_load _ (.tmp 4) rfl c2 0 rfl [.string (sb sCn), .slice (some ⟨p2, 0, none⟩) 1 1] _ rfl rfl infoAt a7 LD2.out) ?_; simp only [Act.put, K.put3])
  | ((with_reducible refine K.atO (.buildSlice 37 _ _) ?_); refine wpL_buildAll rfl 37 9 [.const (.string (sb [120]))] rfl is _ Tryz.underlying37 IS.out ZS.out (by rw [SS.out]; decide) (by rw [SS.out]; decide) (by decide) [.string (sb [120])] rfl (by intro v hv; rw [List.mem_singleton.1 hv, SS.out]; rfl) (strs [[120]]) rfl ?_; intro z1 Hz1 Gz1 Tz1; simp only [Act.put, K.put3])
  | ((with_reducible refine K.atO (.build 45 _) ?_); refine wpL_valZ rfl (.agg #[.string (sb sDc), .slice (some ⟨a7.heap.size, 0, none⟩) 1 1]) (exec_bld _ [(0, .const (.string (sb sDc))), (1, .tmp 60)] rfl [(0, (.string (sb sDc))), (1, .slice (some ⟨a7.heap.size, 0, none⟩) 1 1)] rfl _ _ (bat _ _ _ _)) ?_; simp only [Act.put, K.put3])
  | ((with_reducible refine K.atO (.buildSlice 26 _ _) ?_); refine wpL_buildAll rfl 26 45 [.tmp 58, .tmp 59, .tmp 61] rfl ia _ Tryz.underlying26 IA.out ZA.out (by rw [SA.out]; decide) (by rw [SA.out]; decide) (by decide) [.agg #[.string (sb sOC), .slice (some ⟨p1, 0, none⟩) 1 1], .agg #[.string (sb sCn), .slice (some ⟨p2, 0, none⟩) 1 1], .agg #[.string (sb sDc), .slice (some ⟨a7.heap.size, 0, none⟩) 1 1]] rfl (by intro v hv; rw [SA.out]; simp only [List.mem_cons, List.not_mem_nil, or_false] at hv; rcases hv with rfl | rfl | rfl <;> rfl) (List.zipWith (fun a v => [Value.string (sb a.1), v]) [aOC, aCn, (sDc, [[120]])] [(.slice (some ⟨p1, 0, none⟩) 1 1), (.slice (some ⟨p2, 0, none⟩) 1 1), (.slice (some ⟨a7.heap.size, 0, none⟩) 1 1)]).flatten rfl ?_; intro z2 Hz2 Gz2 Tz2; simp only [Act.put, K.put3])
  | fail)
 have HS8 := hid (HS7.out.no (Gz1.out.trans' Gz2.out)); have HA8 := hid (HA7.out.trans' (Gz1.out.trans' Gz2.out))
 have HE8 : Hid (EnIn (fun i => i ≠ b) z2 (.slice (some ⟨z1.heap.size, 0, none⟩) 3 3) [aOC, aCn, (sDc, [[120]])]) := by
  have hbl := HS7.out.lt
  obtain ⟨-, -, -, -, hp1, -, hp2, -, hn1, -, hn2⟩ := HS8.out
  have t1 := Tz1.out
  have hf := Hz1.out.fr Gz2.out id
  refine hid (en_blk [aOC, aCn, (sDc, [[120]])] [(.slice (some ⟨p1, 0, none⟩) 1 1), (.slice (some ⟨p2, 0, none⟩) 1 1), (.slice (some ⟨a7.heap.size, 0, none⟩) 1 1)] Hz2.out rfl (fun j a v hj hv => ?_) (by omega) (by decide))
  match j, hj, hv with
  | 0, hj, hv => cases hj; cases hv; exact ⟨sz_s (by decide), ls_blk [sPerson] hp1 hn1 (by decide) (by intro x hx; rw [List.mem_singleton.1 hx]; exact sz_s (by decide))⟩
  | 1, hj, hv => cases hj; cases hv; exact ⟨sz_s (by decide), ls_blk [[65]] hp2 hn2 (by decide) (by intro x hx; rw [List.mem_singleton.1 hx]; exact sz_s (by decide))⟩
  | 2, hj, hv => cases hj; cases hv; exact ⟨sz_s (by decide), ls_blk [[120]] hf (by omega) (by decide) (by intro x hx; rw [List.mem_singleton.1 hx]; exact sz_s (by decide))⟩
  | q + 3, hj, _ => simp at hj
 clear HS7 HA7 Hz2 Gz2 Tz2 LD1 LD2 Hz1 Gz1 Tz1
 refine (check_any X b exS _ [aOC, aCn, (sDc, [[120]])] z2 HS8.out.1 HS8.out.2.2.1 HGX.out HS8.out.2.1 HE8.out (fun i hi => hi)).mono ?_
 rintro e a9 ⟨rfl, hs, f⟩
 have HS9 := hid (HS8.out.step HGX.out hs f); have HA9 : Hid (Fr No w a9) := hid (HFBH.out _ _ HA8.out f)
 rw [ex_k3]
 clear hs f HS8 HA8 HE8
 have LD1 : Hid (a9.rangeAt c1 0 [.string (sb sOC), .slice (some ⟨p1, 0, none⟩) 1 1]) := hid (HS9.out.2.2.2.1.range 0 _ rfl)
 have LD2 : Hid (a9.rangeAt c2 0 [.string (sb sCn), .slice (some ⟨p2, 0, none⟩) 1 1]) := hid (HS9.out.2.2.2.2.2.1.range 0 _ rfl)
 go_wp2_with (first
  | ((with_reducible refine K.atO (.load 45 _) ?_); refine wpL_valZ rfl (.agg #[.string (sb sOC), .slice (some ⟨p1, 0, none⟩) 1 1]) (exec_load _ (.tmp 3) rfl c1 0 rfl [.string (sb sOC), .slice (some ⟨p1, 0, none⟩) 1 1] _ rfl rfl infoAt a9 LD1.out) ?_; simp only [Act.put, K.put3])
  | ((with_reducible refine K.atO (.load 45 _) ?_); refine wpL_valZ rfl (.agg #[.string (sb sCn), .slice (some ⟨p2, 0, none⟩) 1 1]) (exec_load _ (.tmp 4) rfl c2 0 rfl [.string (sb sCn), .slice (some ⟨p2, 0, none⟩) 1 1] _ rfl rfl infoAt a9 LD2.out) ?_; simp only [Act.put, K.put3])
  | ((with_reducible refine K.atO (.buildSlice 37 _ _) ?_); refine wpL_buildAll rfl 37 9 [.const (.string (sb [49])), .const (.string (sb [50]))] rfl is _ Tryz.underlying37 IS.out ZS.out (by rw [SS.out]; decide) (by rw [SS.out]; decide) (by decide) [.string (sb [49]), .string (sb [50])] rfl (by intro v hv; rw [SS.out]; simp only [List.mem_cons, List.not_mem_nil, or_false] at hv; rcases hv with rfl | rfl <;> rfl) (strs [[49], [50]]) rfl ?_; intro z1 Hz1 Gz1 Tz1; simp only [Act.put, K.put3])
  | ((with_reducible refine K.atO (.build 45 _) ?_); refine wpL_valZ rfl (.agg #[.string (sb sAge), .slice (some ⟨a9.heap.size, 0, none⟩) 2 2]) (exec_bld _ [(0, .const (.string (sb sAge))), (1, .tmp 67)] rfl [(0, (.string (sb sAge))), (1, .slice (some ⟨a9.heap.size, 0, none⟩) 2 2)] rfl _ _ (bat _ _ _ _)) ?_; simp only [Act.put, K.put3])
  | ((with_reducible refine K.atO (.buildSlice 26 _ _) ?_); refine wpL_buildAll rfl 26 45 [.tmp 65, .tmp 66, .tmp 68] rfl ia _ Tryz.underlying26 IA.out ZA.out (by rw [SA.out]; decide) (by rw [SA.out]; decide) (by decide) [.agg #[.string (sb sOC), .slice (some ⟨p1, 0, none⟩) 1 1], .agg #[.string (sb sCn), .slice (some ⟨p2, 0, none⟩) 1 1], .agg #[.string (sb sAge), .slice (some ⟨a9.heap.size, 0, none⟩) 2 2]] rfl (by intro v hv; rw [SA.out]; simp only [List.mem_cons, List.not_mem_nil, or_false] at hv; rcases hv with rfl | rfl | rfl <;> rfl) (List.zipWith (fun a v => [Value.string (sb a.1), v]) [aOC, aCn, (sAge, [[49], [50]])] [(.slice (some ⟨p1, 0, none⟩) 1 1), (.slice (some ⟨p2, 0, none⟩) 1 1), (.slice (some ⟨a9.heap.size, 0, none⟩) 2 2)]).flatten rfl ?_; intro z2 Hz2 Gz2 Tz2; simp only [Act.put, K.put3])
  | fail)
 have HS10 := hid (HS9.out.no (Gz1.out.trans' Gz2.out)); have HA10 := hid (HA9.out.trans' (Gz1.out.trans' Gz2.out))
 have HE10 : Hid (EnIn (fun i => i ≠ b) z2 (.slice (some ⟨z1.heap.size, 0, none⟩) 3 3) [aOC, aCn, (sAge, [[49], [50]])]) := by
  have hbl := HS9.out.lt
  obtain ⟨-, -, -, -, hp1, -, hp2, -, hn1, -, hn2⟩ := HS10.out
  have t1 := Tz1.out
  have hf := Hz1.out.fr Gz2.out id
  refine hid (en_blk [aOC, aCn, (sAge, [[49], [50]])] [(.slice (some ⟨p1, 0, none⟩) 1 1), (.slice (some ⟨p2, 0, none⟩) 1 1), (.slice (some ⟨a9.heap.size, 0, none⟩) 2 2)] Hz2.out rfl (fun j a v hj hv => ?_) (by omega) (by decide))
  match j, hj, hv with
  | 0, hj, hv => cases hj; cases hv; exact ⟨sz_s (by decide), ls_blk [sPerson] hp1 hn1 (by decide) (by intro x hx; rw [List.mem_singleton.1 hx]; exact sz_s (by decide))⟩
  | 1, hj, hv => cases hj; cases hv; exact ⟨sz_s (by decide), ls_blk [[65]] hp2 hn2 (by decide) (by intro x hx; rw [List.mem_singleton.1 hx]; exact sz_s (by decide))⟩
  | 2, hj, hv => cases hj; cases hv; exact ⟨sz_s (by decide), ls_blk [[49], [50]] hf (by omega) (by decide) (by intro x hx; simp only [List.mem_cons, List.not_mem_nil, or_false] at hx; rcases hx with rfl | rfl <;> exact sz_s (by decide))⟩
  | q + 3, hj, _ => simp at hj
 clear HS9 HA9 Hz2 Gz2 Tz2 LD1 LD2 Hz1 Gz1 Tz1
 refine (check_any X b exS _ [aOC, aCn, (sAge, [[49], [50]])] z2 HS10.out.1 HS10.out.2.2.1 HGX.out HS10.out.2.1 HE10.out (fun i hi => hi)).mono ?_
 rintro e a11 ⟨rfl, hs, f⟩
 have HS11 := hid (HS10.out.step HGX.out hs f); have HA11 : Hid (Fr No w a11) := hid (HFBH.out _ _ HA10.out f)
 rw [ex_k4]
 clear hs f HS10 HA10 HE10
 have LD1 : Hid (a11.rangeAt c1 0 [.string (sb sOC), .slice (some ⟨p1, 0, none⟩) 1 1]) := hid (HS11.out.2.2.2.1.range 0 _ rfl)
 have LD2 : Hid (a11.rangeAt c2 0 [.string (sb sCn), .slice (some ⟨p2, 0, none⟩) 1 1]) := hid (HS11.out.2.2.2.2.2.1.range 0 _ rfl)
 go_wp2_with (first
  | ((with_reducible refine K.atO (.load 45 _) ?_); refine wpL_valZ rfl (.agg #[.string (sb sOC), .slice (some ⟨p1, 0, none⟩) 1 1]) (exec_load _ (.tmp 3) rfl c1 0 rfl [.string (sb sOC), .slice (some ⟨p1, 0, none⟩) 1 1] _ rfl rfl infoAt a11 LD1.out) ?_; simp only [Act.put, K.put3])
  | ((with_reducible refine K.atO (.load 45 _) ?_); refine wpL_valZ rfl (.agg #[.string (sb sCn), .slice (some ⟨p2, 0, none⟩) 1 1]) (exec_load _ (.tmp 4) rfl c2 0 rfl [.string (sb sCn), .slice (some ⟨p2, 0, none⟩) 1 1] _ rfl rfl infoAt a11 LD2.out) ?_; simp only [Act.put, K.put3])
  | ((with_reducible refine K.atO (.buildSlice 37 _ _) ?_); refine wpL_buildAll rfl 37 9 [.const (.string (sb sTop))] rfl is _ Tryz.underlying37 IS.out ZS.out (by rw [SS.out]; decide) (by rw [SS.out]; decide) (by decide) [.string (sb sTop)] rfl (by intro v hv; rw [List.mem_singleton.1 hv, SS.out]; rfl) (strs [sTop]) rfl ?_; intro z1 Hz1 Gz1 Tz1; simp only [Act.put, K.put3])
  | ((with_reducible refine K.atO (.build 45 _) ?_); refine wpL_valZ rfl (.agg #[.string (sb sOC), .slice (some ⟨a11.heap.size, 0, none⟩) 1 1]) (exec_bld _ [(0, .const (.string (sb sOC))), (1, .tmp 72)] rfl [(0, (.string (sb sOC))), (1, .slice (some ⟨a11.heap.size, 0, none⟩) 1 1)] rfl _ _ (bat _ _ _ _)) ?_; simp only [Act.put, K.put3])
  | ((with_reducible refine K.atO (.buildSlice 26 _ _) ?_); refine wpL_buildAll rfl 26 45 [.tmp 73] rfl ia _ Tryz.underlying26 IA.out ZA.out (by rw [SA.out]; decide) (by rw [SA.out]; decide) (by decide) [.agg #[.string (sb sOC), .slice (some ⟨a11.heap.size, 0, none⟩) 1 1]] rfl (by intro v hv; rw [SA.out]; rw [List.mem_singleton.1 hv]; rfl) (List.zipWith (fun a v => [Value.string (sb a.1), v]) [(sOC, [sTop])] [(.slice (some ⟨a11.heap.size, 0, none⟩) 1 1)]).flatten rfl ?_; intro z2 Hz2 Gz2 Tz2; simp only [Act.put, K.put3])
  | fail)
 have HS12 := hid (HS11.out.no (Gz1.out.trans' Gz2.out)); have HA12 := hid (HA11.out.trans' (Gz1.out.trans' Gz2.out))
 have HE12 : Hid (EnIn (fun i => i ≠ b) z2 (.slice (some ⟨z1.heap.size, 0, none⟩) 1 1) [(sOC, [sTop])]) := by
  have hbl := HS11.out.lt
  obtain ⟨-, -, -, -, hp1, -, hp2, -, hn1, -, hn2⟩ := HS12.out
  have t1 := Tz1.out
  have hf := Hz1.out.fr Gz2.out id
  refine hid (en_blk [(sOC, [sTop])] [(.slice (some ⟨a11.heap.size, 0, none⟩) 1 1)] Hz2.out rfl (fun j a v hj hv => ?_) (by omega) (by decide))
  match j, hj, hv with
  | 0, hj, hv => cases hj; cases hv; exact ⟨sz_s (by decide), ls_blk [sTop] hf (by omega) (by decide) (by intro x hx; rw [List.mem_singleton.1 hx]; exact sz_s (by decide))⟩
  | q + 1, hj, _ => simp at hj
 clear HS11 HA11 Hz2 Gz2 Tz2 LD1 LD2 Hz1 Gz1 Tz1
 refine (check_any X b exS _ [(sOC, [sTop])] z2 HS12.out.1 HS12.out.2.2.1 HGX.out HS12.out.2.1 HE12.out (fun i hi => hi)).mono ?_
 rintro e a13 ⟨rfl, hs, f⟩
 have HS13 := hid (HS12.out.step HGX.out hs f); have HA13 : Hid (Fr No w a13) := hid (HFBH.out _ _ HA12.out f)
 rw [ex_k5]
 clear hs f HS12 HA12 HE12
 have LD1 : Hid (a13.rangeAt c1 0 [.string (sb sOC), .slice (some ⟨p1, 0, none⟩) 1 1]) := hid (HS13.out.2.2.2.1.range 0 _ rfl)
 have LD2 : Hid (a13.rangeAt c2 0 [.string (sb sCn), .slice (some ⟨p2, 0, none⟩) 1 1]) := hid (HS13.out.2.2.2.2.2.1.range 0 _ rfl)
 go_wp2_with (first
  | ((with_reducible refine K.atO (.load 45 _) ?_); refine wpL_valZ rfl (.agg #[.string (sb sOC), .slice (some ⟨p1, 0, none⟩) 1 1]) (exec_load _ (.tmp 3) rfl c1 0 rfl [.string (sb sOC), .slice (some ⟨p1, 0, none⟩) 1 1] _ rfl rfl infoAt a13 LD1.out) ?_; simp only [Act.put, K.put3])
  | ((with_reducible refine K.atO (.load 45 _) ?_); refine wpL_valZ rfl (.agg #[.string (sb sCn), .slice (some ⟨p2, 0, none⟩) 1 1]) (exec_load _ (.tmp 4) rfl c2 0 rfl [.string (sb sCn), .slice (some ⟨p2, 0, none⟩) 1 1] _ rfl rfl infoAt a13 LD2.out) ?_; simp only [Act.put, K.put3])
  | ((with_reducible refine K.atO (.buildSlice 26 _ _) ?_); refine wpL_buildAll rfl 26 45 [.tmp 77] rfl ia _ Tryz.underlying26 IA.out ZA.out (by rw [SA.out]; decide) (by rw [SA.out]; decide) (by decide) [.agg #[.string (sb sOC), .slice (some ⟨p1, 0, none⟩) 1 1]] rfl (by intro v hv; rw [SA.out]; rw [List.mem_singleton.1 hv]; rfl) (List.zipWith (fun a v => [Value.string (sb a.1), v]) [aOC] [(.slice (some ⟨p1, 0, none⟩) 1 1)]).flatten rfl ?_; intro z2 Hz2 Gz2 Tz2; simp only [Act.put, K.put3])
  | fail)
 have HS14 := hid (HS13.out.no Gz2.out); have HA14 := hid (HA13.out.trans' Gz2.out)
 have HE14 : Hid (EnIn (fun i => i ≠ b) z2 (.slice (some ⟨a13.heap.size, 0, none⟩) 1 1) [aOC]) := by
  have hbl := HS13.out.lt
  obtain ⟨-, -, -, -, hp1, -, hp2, -, hn1, -, hn2⟩ := HS14.out
  refine hid (en_blk [aOC] [(.slice (some ⟨p1, 0, none⟩) 1 1)] Hz2.out rfl (fun j a v hj hv => ?_) (by omega) (by decide))
  match j, hj, hv with
  | 0, hj, hv => cases hj; cases hv; exact ⟨sz_s (by decide), ls_blk [sPerson] hp1 hn1 (by decide) (by intro x hx; rw [List.mem_singleton.1 hx]; exact sz_s (by decide))⟩
  | q + 1, hj, _ => simp at hj
 clear HS13 HA13 Hz2 Gz2 Tz2 LD1 LD2
 refine (isA_any X b exS _ [aOC] [84, 79, 80] z2 HS14.out.1 HS14.out.2.2.1 HGX.out HS14.out.2.1 HE14.out (fun i hi => hi) (sz_s (by decide))).mono ?_
 rintro e a15 ⟨rfl, hs, f⟩
 have HS15 := hid (HS14.out.step HGX.out hs f); have HA15 : Hid (Fr No w a15) := hid (HFBH.out _ _ HA14.out f)
 rw [ex_i1]
 clear hs f HS14 HA14 HE14
 have LD1 : Hid (a15.rangeAt c1 0 [.string (sb sOC), .slice (some ⟨p1, 0, none⟩) 1 1]) := hid (HS15.out.2.2.2.1.range 0 _ rfl)
 have LD2 : Hid (a15.rangeAt c2 0 [.string (sb sCn), .slice (some ⟨p2, 0, none⟩) 1 1]) := hid (HS15.out.2.2.2.2.2.1.range 0 _ rfl)
 go_wp2_with (first
  | ((with_reducible refine K.atO (.load 45 _) ?_); refine wpL_valZ rfl (.agg #[.string (sb sOC), .slice (some ⟨p1, 0, none⟩) 1 1]) (exec_load _ (.tmp 3) rfl c1 0 rfl [.string (sb sOC), .slice (some ⟨p1, 0, none⟩) 1 1] _ rfl rfl infoAt a15 LD1.out) ?_; simp only [Act.put, K.put3])
  | ((with_reducible refine K.atO (.load 45 _) ?_); refine wpL_valZ rfl (.agg #[.string (sb sCn), .slice (some ⟨p2, 0, none⟩) 1 1]) (exec_load _ (.tmp 4) rfl c2 0 rfl [.string (sb sCn), .slice (some ⟨p2, 0, none⟩) 1 1] _ rfl rfl infoAt a15 LD2.out) ?_; simp only [Act.put, K.put3])
  | ((with_reducible refine K.atO (.buildSlice 26 _ _) ?_); refine wpL_buildAll rfl 26 45 [.tmp 81] rfl ia _ Tryz.underlying26 IA.out ZA.out (by rw [SA.out]; decide) (by rw [SA.out]; decide) (by decide) [.agg #[.string (sb sOC), .slice (some ⟨p1, 0, none⟩) 1 1]] rfl (by intro v hv; rw [SA.out]; rw [List.mem_singleton.1 hv]; rfl) (List.zipWith (fun a v => [Value.string (sb a.1), v]) [aOC] [(.slice (some ⟨p1, 0, none⟩) 1 1)]).flatten rfl ?_; intro z2 Hz2 Gz2 Tz2; simp only [Act.put, K.put3])
  | fail)
 have HS16 := hid (HS15.out.no Gz2.out); have HA16 := hid (HA15.out.trans' Gz2.out)
 have HE16 : Hid (EnIn (fun i => i ≠ b) z2 (.slice (some ⟨a15.heap.size, 0, none⟩) 1 1) [aOC]) := by
  have hbl := HS15.out.lt
  obtain ⟨-, -, -, -, hp1, -, hp2, -, hn1, -, hn2⟩ := HS16.out
  refine hid (en_blk [aOC] [(.slice (some ⟨p1, 0, none⟩) 1 1)] Hz2.out rfl (fun j a v hj hv => ?_) (by omega) (by decide))
  match j, hj, hv with
  | 0, hj, hv => cases hj; cases hv; exact ⟨sz_s (by decide), ls_blk [sPerson] hp1 hn1 (by decide) (by intro x hx; rw [List.mem_singleton.1 hx]; exact sz_s (by decide))⟩
  | q + 1, hj, _ => simp at hj
 clear HS15 HA15 Hz2 Gz2 Tz2 LD1 LD2
 refine (isA_any X b exS _ [aOC] sDomain z2 HS16.out.1 HS16.out.2.2.1 HGX.out HS16.out.2.1 HE16.out (fun i hi => hi) (sz_s (by decide))).mono ?_
 rintro e a17 ⟨rfl, hs, f⟩
 have HS17 := hid (HS16.out.step HGX.out hs f); have HA17 : Hid (Fr No w a17) := hid (HFBH.out _ _ HA16.out f)
 rw [ex_i2]
 clear hs f HS16 HA16 HE16
 go_wp2_with (first
  | ((with_reducible refine K.atO (.binOp .eql 9 _ _ _) ?_); refine wpL_valZ rfl (.bool true) ((exec_eqS _ _ _ rfl [97, 32, 98] [97, 32, 98] rfl rfl _).trans (by simp)) ?_)
  | fail)
 go_ret
 exact ⟨rfl, HA17.out⟩
end Go.Proofs.YtgbiicipkbpmeaaGreatDoor.SC
namespace Go.Proofs.YtgbiicipkbpmeaaGreatDoor.SC
set_option maxRecDepth 100000
open BE DN
end Go.Proofs.YtgbiicipkbpmeaaGreatDoor.SC
namespace Go.Proofs.YtgbiicipkbpmeaaGreatDoor.SC
set_option maxRecDepth 100000
open Go.RowKit K BE DN
def RwL (S : Nat → Prop) (base : Nat) (w : World) (va : Option Addr) (vcp : Nat) (xs : Ent) (L : List (List Value)) : Prop :=
 L.length = xs.length ∧ (∀ c ∈ L, c.length = 2) ∧ (∀ (j : Nat) (a : Atr) (c : List Value), xs[j]? = some a → L[j]? = some c → AtC S w a c) ∧ w.ownsRow base 45 2 (.slice va xs.length vcp) xs.length L.flatten
section
variable {S D : Nat → Prop} {base : Nat} {w w' : World} {va a5 : Option Addr} {vcp c5 : Nat} {xs : Ent} {L : List (List Value)}
theorem RwL.nil : RwL S base w none 0 [] [] := ⟨rfl, (fun _ h => by cases h), (fun _ _ _ h => by cases h), ⟨rfl, .inl ⟨rfl, rfl⟩⟩⟩
theorem RwL.fr (h : RwL S base w va vcp xs L) (hf : Fr D w w') (hd : ∀ i, S i → i < w.heap.size → ¬ D i) (hb : ∀ i, base ≤ i → i < w.heap.size → ¬ D i) : RwL S base w' va vcp xs L :=
 ⟨h.1, h.2.1, fun j a c hx hc => (h.2.2.1 j a c hx hc).fr hf hd, own_fr h.2.2.2 hf fun k e => hb k (own_ge h.2.2.2 k e).1 (own_ge h.2.2.2 k e).2⟩
theorem RwL.en (h : RwL S base w va vcp xs L) (hb : xs.length ≤ 140737488351232) : EnIn (fun i => S i ∨ base ≤ i) w (.slice va xs.length vcp) xs :=
 own_sl_S h.2.2.2 L rfl rfl h.1 h.2.1 (fun j x c hx hc => (h.2.2.1 j x c hx hc).mono (fun i hi _ => .inl hi)) hb (fun g hg => .inr (own_ge h.2.2.2 g hg).1)
end
set_option maxHeartbeats 8000000 in
theorem smallZ_any (s : B) (hs : Sz s) (w : World) : Calls Tryz.prog 58 #[.string (sb s)] w fun e w' => e = .returned (.string (sb (low s))) ∧ Fr No w w' := by
 obtain ⟨S, hS⟩ : ∃ S, sb s = S := ⟨_, rfl⟩
 obtain ⟨n, hn⟩ : ∃ n, s.length = n := ⟨_, rfl⟩
 have hsz : (S.size : Int) = n := by rw [← hS, sb_size, hn]
 have hni : (n : Int) ≤ 140737488351232 := by unfold Sz at hs; omega
 have HS := hid hS; have HN := hid hn
 rw [hS]
 clear hS hn hs
 go_enter Tryz.func58, Tryz.ntmps58
 go_wp2_with fail
 go_loopw [3, 4] (fun dv iv wr => ∃ (i : Nat), iv = .int .i64 i ∧ i ≤ n ∧ Hid (OwR 5 1 w wr dv i (u8s ((low s).take i)))) (fun _ iv _ => n - (intOf iv).toNat)
 case atStart => exact ⟨0, rfl, Nat.zero_le _, hid (owR_nil (Fr.refl _ _))⟩
 case round =>
  obtain ⟨i, rfl, hi, HO⟩ := hrel
  obtain ⟨va, vc, rfl⟩ := HO.out.1
  by_cases hlt : i < n
  ·obtain ⟨c, hc⟩ : ∃ c, s[i]? = some c := ⟨_, List.getElem?_eq_getElem (by rw [HN.out]; exact hlt)⟩
   have hlti : (i : Int) < n := by omega
   have hi0 : (0 : Int) ≤ i := by omega
   have HC := hid hc
   have HLT := hid hlt
   have HNX : Hid (u8s ((low s).take (i + 1)) = u8s ((low s).take i) ++ [.int .u8 ((lo c).toNat : Int)]) := hid (by
    have hl : (low s)[i]? = some (lo c) := by simp [low, hc]
    rw [List.take_add_one, hl]
    simp [u8s])
   by_cases hup : 65 ≤ c.toNat ∧ c.toNat ≤ 90
   ·have h1 : (65 : Int) ≤ (c.toNat : Int) := by omega
    have h2 : (c.toNat : Int) ≤ 90 := by omega
    have hlo : ((lo c).toNat : Int) = (c.toNat : Int) + 32 := by
     rw [lo_n, if_pos hup, UInt8.toNat_add]
     have : (32 : UInt8).toNat = 32 := rfl
     rw [this]
     omega
    rw [hlo] at HNX
    clear hup hlo hc hlt
    go_wp2_with (first
     | ((with_reducible refine K.atO (.index 9 _ _) ?_); refine wpL_valZ (by rfl) (.int .u8 (c.toNat : Int)) (exec_idxB _ _ rfl s HS.out i c HC.out _ rfl rfl rfl _) ?_)
     | ((with_reducible refine K.atO (.buildSlice 150 _ _) ?_); refine wpL_app1 rfl rfl _ _ _ 150 5 rfl rfl Tryz.underlying150 infoU rfl (by decide) (by decide) HO.out (.int .u8 ((c.toNat : Int) + 32)) [.int .u8 ((c.toNat : Int) + 32)] rfl rfl rfl (by simp [Value.oneCell']) (fun _ => rfl) (fun _ => rfl) (by omega) (by omega) ?_; intro q a4 c4 w4 HO4 HF4)
     | fail)
    refine ⟨⟨i + 1, by go_num, HLT.out, hid (by rw [HNX.out]; exact HO4.out)⟩, ?_⟩
    have := HLT.out
    simp [intOf]; omega
   ·have hlo : lo c = c := by rw [lo_n, if_neg hup]
    rw [hlo] at HNX
    have hcase : c.toNat < 65 ∨ (65 ≤ c.toNat ∧ 90 < c.toNat) := by omega
    clear hup hlo hc hlt
    rcases hcase with h | ⟨h, h'⟩
    ·have h1 : ¬ (65 : Int) ≤ (c.toNat : Int) := by omega
     clear h
     go_wp2_with (first
      | ((with_reducible refine K.atO (.index 9 _ _) ?_); refine wpL_valZ (by rfl) (.int .u8 (c.toNat : Int)) (exec_idxB _ _ rfl s HS.out i c HC.out _ rfl rfl rfl _) ?_)
      | ((with_reducible refine K.atO (.buildSlice 150 _ _) ?_); refine wpL_app1 rfl rfl _ _ _ 150 5 rfl rfl Tryz.underlying150 infoU rfl (by decide) (by decide) HO.out (.int .u8 (c.toNat : Int)) [.int .u8 (c.toNat : Int)] rfl rfl rfl (by simp [Value.oneCell']) (fun _ => rfl) (fun _ => rfl) (by omega) (by omega) ?_; intro q a4 c4 w4 HO4 HF4)
      | fail)
     refine ⟨⟨i + 1, by go_num, HLT.out, hid (by rw [HNX.out]; exact HO4.out)⟩, ?_⟩
     have := HLT.out
     simp [intOf]; omega
    ·have h1 : (65 : Int) ≤ (c.toNat : Int) := by omega
     have h2 : ¬ (c.toNat : Int) ≤ 90 := by omega
     clear h h'
     go_wp2_with (first
      | ((with_reducible refine K.atO (.index 9 _ _) ?_); refine wpL_valZ (by rfl) (.int .u8 (c.toNat : Int)) (exec_idxB _ _ rfl s HS.out i c HC.out _ rfl rfl rfl _) ?_)
      | ((with_reducible refine K.atO (.buildSlice 150 _ _) ?_); refine wpL_app1 rfl rfl _ _ _ 150 5 rfl rfl Tryz.underlying150 infoU rfl (by decide) (by decide) HO.out (.int .u8 (c.toNat : Int)) [.int .u8 (c.toNat : Int)] rfl rfl rfl (by simp [Value.oneCell']) (fun _ => rfl) (fun _ => rfl) (by omega) (by omega) ?_; intro q a4 c4 w4 HO4 HF4)
      | fail)
     refine ⟨⟨i + 1, by go_num, HLT.out, hid (by rw [HNX.out]; exact HO4.out)⟩, ?_⟩
     have := HLT.out
     simp [intOf]; omega
  ·obtain rfl : i = n := by omega
   have hall : (low s).take i = low s := List.take_of_length_le (by rw [low_length, HN.out]; exact Nat.le_refl _)
   have HO2 : Hid (OwR 5 1 w wr (.slice va i vc) (low s).length (u8s (low s))) := hid (by rw [low_length, HN.out]; have h := HO.out; rw [hall] at h; exact h)
   have HDEN := hid (owR_bytes HO2.out)
   clear hall hlt
   go_wp2_with (first
    | ((with_reducible refine K.atO (.convert _ 9 _) ?_); refine wpL_stringOf rfl _ _ _ _ rfl _ _ (low s) rfl HDEN.out Tryz.underlying150 Tryz.underlying5 Tryz.underlying9 ?_)
    | fail)
   go_ret
   exact ⟨rfl, HO.out.fr⟩
set_option maxHeartbeats 8000000 in
theorem at_any {S : Nat → Prop} (ve : Value) (en : Ent) (m : B) (w : World) (h : EnIn S w ve en) (hz : Sz m) : Calls Tryz.prog 28 #[ve, .string (sb m)] w fun e w' => e = .returned (.int .i64 (idxI en fun a => low a.1 == low m)) ∧ Fr No w w' := by
 obtain ⟨va, vcp, rfl, -, hle⟩ := h.form
 obtain ⟨n, hn⟩ : ∃ n, en.length = n := ⟨_, rfl⟩
 have HE := hid h; have HN := hid hn; have HM := hid hz
 rw [hn] at HE hle ⊢
 obtain ⟨R, hR⟩ : ∃ R, idxI en (fun a => low a.1 == low m) = R := ⟨_, rfl⟩
 have HR := hid hR
 rw [hR]
 have hni : (n : Int) ≤ 140737488351232 := by omega
 clear h hn hz hR
 go_enter Tryz.func28, Tryz.ntmps28
 go_wp2_with fail
 refine (smallZ_any m HM.out w).mono ?_
 rintro e w1 ⟨rfl, f1⟩
 have HF1 := hid f1
 clear f1
 go_wp2_with fail
 go_loopw [6] (fun iv wr => ∃ (i : Nat), iv = .int .i64 i ∧ i ≤ n ∧ Hid ((en.take i).any (fun a => low a.1 == low m) = false ∧ Fr No w wr)) (fun iv _ => n - (intOf iv).toNat)
 case atStart => exact ⟨0, rfl, Nat.zero_le _, hid ⟨rfl, HF1.out⟩⟩
 case round =>
  obtain ⟨i, rfl, hi, HI⟩ := hrel
  by_cases hlt : i < n
  ·have hiX : i < en.length := by rw [HN.out]; exact hlt
   obtain ⟨⟨nm, ls⟩, hx⟩ : ∃ x, en[i]? = some x := ⟨_, List.getElem?_eq_getElem hiX⟩
   have hlti : (i : Int) < n := by omega
   have hi0 : (0 : Int) ≤ i := by omega
   obtain ⟨g, o, cq, cs, e1, -, -, hr, -, hp⟩ := (EnIn.fr (D := No) HE.out HI.out.2 (fun _ _ _ e => e)).get hx
   rw [HN.out] at e1
   simp only [Value.slice.injEq, true_and] at e1
   obtain ⟨rfl, rfl⟩ := e1
   obtain ⟨u, rfl, hznm, -⟩ := hp
   have d0 : wr.cell? ⟨g, o + i * 2, none⟩ = some (.string (sb nm)) := by have := hr 0 _ rfl; simpa using this
   have HZN := hid hznm
   have HXX := hid hx
   have HLT := hid hlt
   have HNX : Hid ((en.take (i + 1)).any (fun a => low a.1 == low m) = ((low nm == low m) || false)) := hid (by
    have hxx : en[i] = (nm, ls) := by rw [List.getElem?_eq_getElem hiX] at hx; exact Option.some.inj hx
    rw [List.take_succ_eq_append_getElem hiX, List.any_append, HI.out.1, hxx]; simp)
   clear hr hznm hx hlt hiX
   go_wp2_with fail
   refine (smallZ_any nm HZN.out wr).mono ?_
   rintro e w2 ⟨rfl, f2⟩
   have HF2 := hid (HI.out.2.trans' f2)
   clear f2 d0
   cases hq : (low nm == low m) with
   | true =>
    have HQ := hid hq
    have HQE : Hid (decide (low nm = low m) = true) := hid (by simpa using hq)
    clear hq
    go_wp2_with (first
     | ((with_reducible refine K.atO (.binOp .eql 9 _ _ _) ?_); refine wpL_valZ rfl (.bool true) (by rw [← HQE.out]; exact exec_eqS _ _ _ rfl (low nm) (low m) rfl rfl _) ?_)
     | fail)
    go_ret
    exact ⟨by rw [← HR.out, idx_at HI.out.1 HXX.out HQ.out]; rfl, HF2.out⟩
   | false =>
    have HQ := hid hq
    have HQE : Hid (decide (low nm = low m) = false) := hid (by simpa using hq)
    clear hq
    go_wp2_with (first
     | ((with_reducible refine K.atO (.binOp .eql 9 _ _ _) ?_); refine wpL_valZ rfl (.bool false) (by rw [← HQE.out]; exact exec_eqS _ _ _ rfl (low nm) (low m) rfl rfl _) ?_)
     | fail)
    refine ⟨⟨i + 1, by go_num, HLT.out, hid ⟨by rw [HNX.out, HQ.out]; rfl, HF2.out⟩⟩, ?_⟩
    have := HLT.out
    simp [intOf]; omega
  ·obtain rfl : i = n := by omega
   go_wp2_with fail
   go_ret
   refine ⟨?_, HI.out.2⟩
   have h1 := HI.out.1
   rw [List.take_of_length_le (by rw [HN.out]; exact Nat.le_refl _)] at h1
   rw [← HR.out, idx_none h1]
   rfl
end Go.Proofs.YtgbiicipkbpmeaaGreatDoor.SC
