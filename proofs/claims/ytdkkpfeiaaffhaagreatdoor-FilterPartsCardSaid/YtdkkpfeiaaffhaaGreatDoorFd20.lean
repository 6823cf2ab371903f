/-
  Part 20 of the proof: SdE, FtG, FtJ.
-/
import Derived.Test.YtdkkpfeiaaffhaaGreatDoorFd19
import Derived.Test.YtdkkpfeiaaffhaaGreatDoorFd16
import Derived.Test.YtdkkpfeiaaffhaaGreatDoorFd17
set_option linter.unusedSimpArgs false
set_option linter.unusedVariables false
namespace Go.Proofs.YtdkkpfeiaaffhaaGreatDoor.SC
set_option maxRecDepth 100000
open Go.RowKit K Go.Proofs.YtdkkpfeiaaffhaaGreatDoor.BE Go.Proofs.YtdkkpfeiaaffhaaGreatDoor.DN

def exTv (i : Nat) : Value := .agg (tyV (exT.getD i ty0)).toArray
def exCv (i : Nat) (v1 v2 : Value) : Value := .agg (clV (exC.getD i ⟨[], 0, [], [], []⟩) v1 v2).toArray
theorem exec_bld {op : Oper} {a : Act} (t : TypeId) (fs : List (Nat × Operand)) (ho : op.op = .build t fs.toArray) (gs : List (Nat × Value)) (hx : (fs.map fun x => (x.1, a.eval x.2)) = gs) (v : Value) (w : World) (h : (Instr.build t gs.toArray).run Tryz.prog w = .ok v w) : (execOp a.eval op).run Tryz.prog w = .ok (.value v) w := by
  subst hx
  have e : (fs.toArray.map fun x => (x.1, a.eval x.2)) = (fs.map fun x => (x.1, a.eval x.2)).toArray := by simp
  simp only [execOp, ho]
  rw [e]
  simp [h, Result.andThen]
theorem bty0 (w : World) : (Instr.build 62 [(0, .string (sb sOC)), (1, .int .i64 1)].toArray).run Tryz.prog w = .ok (exTv 0) w := by kernel_rfl
theorem bty1 (w : World) : (Instr.build 62 [(0, .string (sb sCn)), (1, .int .i64 1)].toArray).run Tryz.prog w = .ok (exTv 1) w := by kernel_rfl
theorem bty2 (w : World) : (Instr.build 62 [(0, .string (sb sAge)), (1, .int .i64 3), (2, .bool true)].toArray).run Tryz.prog w = .ok (exTv 2) w := by kernel_rfl
theorem bty3 (w : World) : (Instr.build 62 [(0, .string (sb sDc)), (1, .int .i64 1)].toArray).run Tryz.prog w = .ok (exTv 3) w := by kernel_rfl
theorem bcl0 (w : World) : (Instr.build 71 [(0, .string (sb sTop))].toArray).run Tryz.prog w = .ok (exCv 0 (.slice none 0 0) (.slice none 0 0)) w := by kernel_rfl
theorem bcl1 (p q : Nat) (w : World) : (Instr.build 71 [(0, .string (sb sPerson)), (1, .int .i64 1), (2, .string (sb sTop)), (3, .slice (some ⟨p, 0, none⟩) 1 1), (4, .slice (some ⟨q, 0, none⟩) 1 1)].toArray).run Tryz.prog w = .ok (exCv 1 (.slice (some ⟨p, 0, none⟩) 1 1) (.slice (some ⟨q, 0, none⟩) 1 1)) w := by kernel_rfl
theorem bcl2 (p : Nat) (w : World) : (Instr.build 71 [(0, .string (sb sDomain)), (1, .int .i64 1), (2, .string (sb sTop)), (3, .slice (some ⟨p, 0, none⟩) 1 1)].toArray).run Tryz.prog w = .ok (exCv 2 (.slice (some ⟨p, 0, none⟩) 1 1) (.slice none 0 0)) w := by kernel_rfl
theorem bcl3 (p : Nat) (w : World) : (Instr.build 71 [(0, .string (sb sAged)), (1, .int .i64 2), (3, .slice (some ⟨p, 0, none⟩) 1 1)].toArray).run Tryz.prog w = .ok (exCv 3 (.slice (some ⟨p, 0, none⟩) 1 1) (.slice none 0 0)) w := by kernel_rfl
theorem bsc (p q : Nat) (w : World) : (Instr.build 25 [(0, .slice (some ⟨p, 0, none⟩) 4 4), (1, .slice (some ⟨q, 0, none⟩) 4 4)].toArray).run Tryz.prog w = .ok (.agg #[.slice (some ⟨p, 0, none⟩) 4 4, .slice (some ⟨q, 0, none⟩) 4 4]) w := by kernel_rfl
theorem fty : ([exTv 0, exTv 1, exTv 2, exTv 3].flatMap fun v => v.cells.toList) = (exT.map tyV).flatten := by kernel_rfl
theorem szty (i : Nat) : (exTv i).cells.size = 6 := rfl
theorem szcl (i : Nat) (u v : Value) : (exCv i u v).cells.size = 5 := rfl
theorem fcl (p q r s : Nat) : ([exCv 0 (.slice none 0 0) (.slice none 0 0), exCv 1 (.slice (some ⟨p, 0, none⟩) 1 1) (.slice (some ⟨q, 0, none⟩) 1 1), exCv 2 (.slice (some ⟨r, 0, none⟩) 1 1) (.slice none 0 0), exCv 3 (.slice (some ⟨s, 0, none⟩) 1 1) (.slice none 0 0)].flatMap fun v => v.cells.toList) = ([clV (exC.getD 0 ⟨[], 0, [], [], []⟩) (.slice none 0 0) (.slice none 0 0), clV (exC.getD 1 ⟨[], 0, [], [], []⟩) (.slice (some ⟨p, 0, none⟩) 1 1) (.slice (some ⟨q, 0, none⟩) 1 1), clV (exC.getD 2 ⟨[], 0, [], [], []⟩) (.slice (some ⟨r, 0, none⟩) 1 1) (.slice none 0 0), clV (exC.getD 3 ⟨[], 0, [], [], []⟩) (.slice (some ⟨s, 0, none⟩) 1 1) (.slice none 0 0)] : List (List Value)).flatten := by kernel_rfl
attribute [irreducible] exTv exCv
set_option maxHeartbeats 8000000 in
theorem example_any (w : World) : Calls Tryz.prog 32 #[] w fun e w' => ∃ vt vc, e = .returned (.agg #[vt, vc]) ∧ TysIn (fun i => w.heap.size ≤ i) w' vt exT ∧ ClsIn (fun i => w.heap.size ≤ i) w' vc exC ∧ Fr No w w' := by
  obtain ⟨is, his, hzs, hss, hbs⟩ := info_ex infoS3
  obtain ⟨it, hit, hzt, hst, hbt⟩ := info_ex infoTy3
  obtain ⟨ic, hic, hzc, hsc, hbc⟩ := info_ex infoCl3
  have IS := hid his; have ZS := hid hzs; have SS := hid hss
  have IT := hid hit; have ZT := hid hzt; have ST := hid hst
  have IC := hid hic; have ZC := hid hzc; have SC := hid hsc
  obtain ⟨base, hbase⟩ : ∃ b, w.heap.size = b := ⟨_, rfl⟩
  have HBASE := hid hbase
  clear his hzs hss hbs hit hzt hst hbt hic hzc hsc hbc hbase
  go_enter Tryz.func32, Tryz.ntmps32
  go_wp2_with (first
    | ((with_reducible refine K.atO (.alloc 25) ?_); refine wpL_alloc rfl _ rfl _ zeroSc _ rfl ?_; intro w1 HB1 F1 HS1; simp only [Act.put, K.put3])
    | ((with_reducible refine K.atO (.build 62 _) ?_); refine wpL_valZ rfl (exTv 0) (exec_bld _ [(0, .const (.string (sb sOC))), (1, .const (.int .i64 1))] rfl [(0, .string (sb sOC)), (1, .int .i64 1)] rfl _ _ (bty0 _)) ?_; simp only [Act.put, K.put3])
    | ((with_reducible refine K.atO (.build 62 _) ?_); refine wpL_valZ rfl (exTv 1) (exec_bld _ [(0, .const (.string (sb sCn))), (1, .const (.int .i64 1))] rfl [(0, .string (sb sCn)), (1, .int .i64 1)] rfl _ _ (bty1 _)) ?_; simp only [Act.put, K.put3])
    | ((with_reducible refine K.atO (.build 62 _) ?_); refine wpL_valZ rfl (exTv 2) (exec_bld _ [(0, .const (.string (sb sAge))), (1, .const (.int .i64 3)), (2, .const (.bool true))] rfl [(0, .string (sb sAge)), (1, .int .i64 3), (2, .bool true)] rfl _ _ (bty2 _)) ?_; simp only [Act.put, K.put3])
    | ((with_reducible refine K.atO (.build 62 _) ?_); refine wpL_valZ rfl (exTv 3) (exec_bld _ [(0, .const (.string (sb sDc))), (1, .const (.int .i64 1))] rfl [(0, .string (sb sDc)), (1, .int .i64 1)] rfl _ _ (bty3 _)) ?_; simp only [Act.put, K.put3])
    | ((with_reducible refine K.atO (.buildSlice 22 _ _) ?_); refine wpL_buildAll rfl 22 62 [.tmp 1, .tmp 2, .tmp 3, .tmp 4] rfl it _ Tryz.underlying22 IT.out ZT.out (by rw [ST.out]; decide) (by rw [ST.out]; decide) (by decide) [exTv 0, exTv 1, exTv 2, exTv 3] rfl (by intro v hv; rw [ST.out]; simp only [List.mem_cons, List.not_mem_nil, or_false] at hv; rcases hv with rfl | rfl | rfl | rfl <;> exact szty _) (exT.map tyV).flatten fty ?_; intro y1 HY1 G1 HT1; simp only [Act.put, K.put3])
    | ((with_reducible refine K.atO (.build 71 _) ?_); (have := HY5); refine wpL_valZ rfl (exCv 3 (.slice (some ⟨y4.heap.size, 0, none⟩) 1 1) (.slice none 0 0)) (exec_bld _ [(0, .const (.string (sb sAged))), (1, .const (.int .i64 2)), (3, .tmp 12)] rfl [(0, (.string (sb sAged))), (1, .int .i64 2), (3, (.slice (some ⟨y4.heap.size, 0, none⟩) 1 1))] rfl _ _ (bcl3 _ _)) ?_; simp only [Act.put, K.put3])
    | ((with_reducible refine K.atO (.build 71 _) ?_); (have := HY4); refine wpL_valZ rfl (exCv 2 (.slice (some ⟨y3.heap.size, 0, none⟩) 1 1) (.slice none 0 0)) (exec_bld _ [(0, .const (.string (sb sDomain))), (1, .const (.int .i64 1)), (2, .const (.string (sb sTop))), (3, .tmp 10)] rfl [(0, (.string (sb sDomain))), (1, .int .i64 1), (2, (.string (sb sTop))), (3, (.slice (some ⟨y3.heap.size, 0, none⟩) 1 1))] rfl _ _ (bcl2 _ _)) ?_; simp only [Act.put, K.put3])
    | ((with_reducible refine K.atO (.build 71 _) ?_); (have := HY3); refine wpL_valZ rfl (exCv 1 (.slice (some ⟨y1.heap.size, 0, none⟩) 1 1) (.slice (some ⟨y2.heap.size, 0, none⟩) 1 1)) (exec_bld _ [(0, .const (.string (sb sPerson))), (1, .const (.int .i64 1)), (2, .const (.string (sb sTop))), (3, .tmp 7), (4, .tmp 8)] rfl [(0, (.string (sb sPerson))), (1, .int .i64 1), (2, (.string (sb sTop))), (3, (.slice (some ⟨y1.heap.size, 0, none⟩) 1 1)), (4, (.slice (some ⟨y2.heap.size, 0, none⟩) 1 1))] rfl _ _ (bcl1 _ _ _)) ?_; simp only [Act.put, K.put3])
    | ((with_reducible refine K.atO (.build 71 _) ?_); refine wpL_valZ rfl (exCv 0 (.slice none 0 0) (.slice none 0 0)) (exec_bld _ [(0, .const (.string (sb sTop)))] rfl [(0, (.string (sb sTop)))] rfl _ _ (bcl0 _)) ?_; simp only [Act.put, K.put3])
    | ((with_reducible refine K.atO (.buildSlice 44 _ _) ?_); (have := HY4); refine wpL_buildAll rfl 44 9 [.const (.string (sb sAge))] rfl is _ Tryz.underlying44 IS.out ZS.out (by rw [SS.out]; decide) (by rw [SS.out]; decide) (by decide) [.string (sb sAge)] rfl (by intro v hv; rw [List.mem_singleton.1 hv, SS.out]; rfl) (strs [sAge]) rfl ?_; intro y5 HY5 G5 HT5; simp only [Act.put, K.put3])
    | ((with_reducible refine K.atO (.buildSlice 44 _ _) ?_); (have := HY3); refine wpL_buildAll rfl 44 9 [.const (.string (sb sDc))] rfl is _ Tryz.underlying44 IS.out ZS.out (by rw [SS.out]; decide) (by rw [SS.out]; decide) (by decide) [.string (sb sDc)] rfl (by intro v hv; rw [List.mem_singleton.1 hv, SS.out]; rfl) (strs [sDc]) rfl ?_; intro y4 HY4 G4 HT4; simp only [Act.put, K.put3])
    | ((with_reducible refine K.atO (.buildSlice 44 _ _) ?_); (have := HY2); refine wpL_buildAll rfl 44 9 [.const (.string (sb sAge))] rfl is _ Tryz.underlying44 IS.out ZS.out (by rw [SS.out]; decide) (by rw [SS.out]; decide) (by decide) [.string (sb sAge)] rfl (by intro v hv; rw [List.mem_singleton.1 hv, SS.out]; rfl) (strs [sAge]) rfl ?_; intro y3 HY3 G3 HT3; simp only [Act.put, K.put3])
    | ((with_reducible refine K.atO (.buildSlice 44 _ _) ?_); refine wpL_buildAll rfl 44 9 [.const (.string (sb sCn))] rfl is _ Tryz.underlying44 IS.out ZS.out (by rw [SS.out]; decide) (by rw [SS.out]; decide) (by decide) [.string (sb sCn)] rfl (by intro v hv; rw [List.mem_singleton.1 hv, SS.out]; rfl) (strs [sCn]) rfl ?_; intro y2 HY2 G2 HT2; simp only [Act.put, K.put3])
    | ((with_reducible refine K.atO (.buildSlice 23 _ _) ?_); refine wpL_buildAll rfl 23 71 [.tmp 6, .tmp 9, .tmp 11, .tmp 13] rfl ic _ Tryz.underlying23 IC.out ZC.out (by rw [SC.out]; decide) (by rw [SC.out]; decide) (by decide) [exCv 0 (.slice none 0 0) (.slice none 0 0), exCv 1 (.slice (some ⟨y1.heap.size, 0, none⟩) 1 1) (.slice (some ⟨y2.heap.size, 0, none⟩) 1 1), exCv 2 (.slice (some ⟨y3.heap.size, 0, none⟩) 1 1) (.slice none 0 0), exCv 3 (.slice (some ⟨y4.heap.size, 0, none⟩) 1 1) (.slice none 0 0)] rfl (by intro v hv; rw [SC.out]; simp only [List.mem_cons, List.not_mem_nil, or_false] at hv; rcases hv with rfl | rfl | rfl | rfl <;> exact szcl _ _ _) ([clV (exC.getD 0 ⟨[], 0, [], [], []⟩) (.slice none 0 0) (.slice none 0 0), clV (exC.getD 1 ⟨[], 0, [], [], []⟩) (.slice (some ⟨y1.heap.size, 0, none⟩) 1 1) (.slice (some ⟨y2.heap.size, 0, none⟩) 1 1), clV (exC.getD 2 ⟨[], 0, [], [], []⟩) (.slice (some ⟨y3.heap.size, 0, none⟩) 1 1) (.slice none 0 0), clV (exC.getD 3 ⟨[], 0, [], [], []⟩) (.slice (some ⟨y4.heap.size, 0, none⟩) 1 1) (.slice none 0 0)] : List (List Value)).flatten (fcl _ _ _ _) ?_; intro y6 HY6 G6 HT6; simp only [Act.put, K.put3])
    | ((with_reducible refine K.atO (.build 25 _) ?_); refine wpL_valZ rfl (.agg #[.slice (some ⟨w1.heap.size, 0, none⟩) 4 4, .slice (some ⟨y5.heap.size, 0, none⟩) 4 4]) (exec_bld _ [(0, .tmp 5), (1, .tmp 14)] rfl [(0, .slice (some ⟨w1.heap.size, 0, none⟩) 4 4), (1, .slice (some ⟨y5.heap.size, 0, none⟩) 4 4)] rfl _ _ (bsc _ _ _)) ?_; simp only [Act.put, K.put3])
    | ((with_reducible refine K.atO (.store 25 _ _) ?_); refine wpL_store rfl _ _ _ rfl w.heap.size 0 [.slice (some ⟨w1.heap.size, 0, none⟩) 4 4, .slice (some ⟨y5.heap.size, 0, none⟩) 4 4] rfl rfl 25 _ ((((((HB1.out.fr G1.out id).fr G2.out id).fr G3.out id).fr G4.out id).fr G5.out id).fr G6.out id) (by simp) infoSc (by simp [Value.oneCell']) ?_; intro y7 HY7 G7 HT7)
    | fail)
  have hs1 := HS1.out; have t1 := HT1.out; have t2 := HT2.out; have t3 := HT3.out; have t4 := HT4.out; have t5 := HT5.out; have t6 := HT6.out
  have hf : Fr No w y7 := (((((((F1.out.trans' G1.out).trans' G2.out).trans' G3.out).trans' G4.out).trans' G5.out).trans' G6.out).trans G7.out (fun k e => .inr (by have e : k = w.heap.size := e; omega)))
  have hg : ∀ {t : TypeId} {b : Nat} {cs : List Value} {u : World}, Blk u b t cs → Fr No u y6 → b ≠ w.heap.size → Blk y7 b t cs := fun h f hb => (h.fr f id).fr G7.out hb
  refine ret_cell rfl _ rfl HY7.out rfl rfl infoSc rfl ?_
  refine ⟨_, _, rfl, ?_, ?_, hf⟩
  · have hb := hg HY1.out ((((G2.out.trans' G3.out).trans' G4.out).trans' G5.out).trans' G6.out) (by omega)
    have := blk_sl (k := 6) (p := TyC) exT (exT.map tyV) hb rfl (by intro c hc; obtain ⟨t, _, rfl⟩ := List.mem_map.1 hc; rfl) (fun j x c hx hc => by
      rw [List.getElem?_map, hx] at hc
      obtain rfl : tyV x = c := by simpa using hc
      have hm := List.mem_of_getElem? hx
      refine ⟨rfl, ?_⟩
      simp only [exT, List.mem_cons, List.not_mem_nil, or_false] at hm
      rcases hm with rfl | rfl | rfl | rfl <;> (unfold Sz; decide)) (by decide)
    exact Sl.mono this (fun i hi _ => by have hi : i = w1.heap.size := hi; omega) (fun _ _ _ h => h)
  · have hb := hg HY6.out (Fr.refl _ _) (by omega)
    have l2 := LsIn.mono (S' := fun i => w.heap.size ≤ i) (blk_ls [sCn] (hg HY2.out (((G3.out.trans' G4.out).trans' G5.out).trans' G6.out) (by omega)) (by decide) (by intro x hx; rw [List.mem_singleton.1 hx]; unfold Sz; decide)) (fun i hi _ => by have hi : i = y1.heap.size := hi; omega)
    have l3 := LsIn.mono (S' := fun i => w.heap.size ≤ i) (blk_ls [sAge] (hg HY3.out ((G4.out.trans' G5.out).trans' G6.out) (by omega)) (by decide) (by intro x hx; rw [List.mem_singleton.1 hx]; unfold Sz; decide)) (fun i hi _ => by have hi : i = y2.heap.size := hi; omega)
    have l4 := LsIn.mono (S' := fun i => w.heap.size ≤ i) (blk_ls [sDc] (hg HY4.out (G5.out.trans' G6.out) (by omega)) (by decide) (by intro x hx; rw [List.mem_singleton.1 hx]; unfold Sz; decide)) (fun i hi _ => by have hi : i = y3.heap.size := hi; omega)
    have l5 := LsIn.mono (S' := fun i => w.heap.size ≤ i) (blk_ls [sAge] (hg HY5.out G6.out (by omega)) (by decide) (by intro x hx; rw [List.mem_singleton.1 hx]; unfold Sz; decide)) (fun i hi _ => by have hi : i = y4.heap.size := hi; omega)
    have l0 : LsIn (fun i => w.heap.size ≤ i) y7 (.slice none 0 0) [] := ⟨none, 0, rfl, Nat.le_refl _, by simp, .inl rfl⟩
    have := blk_sl (k := 5) (p := ClC (fun i => w.heap.size ≤ i) y7) exC [clV (exC.getD 0 ⟨[], 0, [], [], []⟩) (.slice none 0 0) (.slice none 0 0), clV (exC.getD 1 ⟨[], 0, [], [], []⟩) (.slice (some ⟨y1.heap.size, 0, none⟩) 1 1) (.slice (some ⟨y2.heap.size, 0, none⟩) 1 1), clV (exC.getD 2 ⟨[], 0, [], [], []⟩) (.slice (some ⟨y3.heap.size, 0, none⟩) 1 1) (.slice none 0 0), clV (exC.getD 3 ⟨[], 0, [], [], []⟩) (.slice (some ⟨y4.heap.size, 0, none⟩) 1 1) (.slice none 0 0)] hb rfl (by intro c hc; simp only [List.mem_cons, List.not_mem_nil, or_false] at hc; rcases hc with rfl | rfl | rfl | rfl <;> rfl) (fun j x c hx hc => by
      match j, hx, hc with
      | 0, hx, hc => cases hx; cases hc; exact ⟨_, _, rfl, by unfold Sz; decide, by unfold Sz; decide, l0, l0, by unfold LB; decide⟩
      | 1, hx, hc => cases hx; cases hc; exact ⟨_, _, rfl, by unfold Sz; decide, by unfold Sz; decide, l2, l3, by unfold LB; decide⟩
      | 2, hx, hc => cases hx; cases hc; exact ⟨_, _, rfl, by unfold Sz; decide, by unfold Sz; decide, l4, l0, by unfold LB; decide⟩
      | 3, hx, hc => cases hx; cases hc; exact ⟨_, _, rfl, by unfold Sz; decide, by unfold Sz; decide, l5, l0, by unfold LB; decide⟩
      | n + 4, hx, _ => simp [exC] at hx) (by decide)
    exact Sl.mono this (fun i hi _ => by have hi : i = y5.heap.size := hi; omega) (fun _ _ _ h => h)
end Go.Proofs.YtdkkpfeiaaffhaaGreatDoor.SC

namespace Go.Proofs.YtdkkpfeiaaffhaaGreatDoor.FT
set_option maxRecDepth 100000
open Go.RowKit K Go.Proofs.YtdkkpfeiaaffhaaGreatDoor.BE Go.Proofs.YtdkkpfeiaaffhaaGreatDoor.DN Go.Proofs.YtdkkpfeiaaffhaaGreatDoor.SC

def ex2C : List Cl := [⟨sTop, 0, [], [], []⟩, ⟨sPerson, 1, sTop, [sCn], [sAge]⟩]
def ex2 : Sch := ⟨exT, ex2C⟩
theorem ex2_ok : okS ex2 = true := by decide +kernel
theorem bsc2 (p q : Nat) (w : World) : (Instr.build 25 [(0, .slice (some ⟨p, 0, none⟩) 4 4), (1, .slice (some ⟨q, 0, none⟩) 2 2)].toArray).run Tryz.prog w = .ok (.agg #[.slice (some ⟨p, 0, none⟩) 4 4, .slice (some ⟨q, 0, none⟩) 2 2]) w := by kernel_rfl
theorem fcl2 (p q : Nat) : ([exCv 0 (.slice none 0 0) (.slice none 0 0), exCv 1 (.slice (some ⟨p, 0, none⟩) 1 1) (.slice (some ⟨q, 0, none⟩) 1 1)].flatMap fun v => v.cells.toList) = ([clV (ex2C.getD 0 ⟨[], 0, [], [], []⟩) (.slice none 0 0) (.slice none 0 0), clV (ex2C.getD 1 ⟨[], 0, [], [], []⟩) (.slice (some ⟨p, 0, none⟩) 1 1) (.slice (some ⟨q, 0, none⟩) 1 1)] : List (List Value)).flatten := by kernel_rfl
set_option maxHeartbeats 8000000 in
theorem example_any (w : World) : Calls Tryz.prog 54 #[] w fun e w' => ∃ vt vc, e = .returned (.agg #[vt, vc]) ∧ TysIn (fun i => w.heap.size ≤ i) w' vt exT ∧ ClsIn (fun i => w.heap.size ≤ i) w' vc ex2C ∧ Fr No w w' := by
  obtain ⟨is, his, hzs, hss, hbs⟩ := info_ex infoS3
  obtain ⟨it, hit, hzt, hst, hbt⟩ := info_ex infoTy3
  obtain ⟨ic, hic, hzc, hsc, hbc⟩ := info_ex infoCl3
  have IS := hid his; have ZS := hid hzs; have SS := hid hss
  have IT := hid hit; have ZT := hid hzt; have ST := hid hst
  have IC := hid hic; have ZC := hid hzc; have SC := hid hsc
  obtain ⟨base, hbase⟩ : ∃ b, w.heap.size = b := ⟨_, rfl⟩
  have HBASE := hid hbase
  clear his hzs hss hbs hit hzt hst hbt hic hzc hsc hbc hbase
  go_enter Tryz.func54, Tryz.ntmps54
  go_wp2_with (first
    | ((with_reducible refine K.atO (.alloc 25) ?_); refine wpL_alloc rfl _ rfl _ zeroSc _ rfl ?_; intro w1 HB1 F1 HS1; simp only [Act.put, K.put3])
    | ((with_reducible refine K.atO (.build 62 _) ?_); refine wpL_valZ rfl (exTv 0) (exec_bld _ [(0, .const (.string (sb sOC))), (1, .const (.int .i64 1))] rfl [(0, .string (sb sOC)), (1, .int .i64 1)] rfl _ _ (bty0 _)) ?_; simp only [Act.put, K.put3])
    | ((with_reducible refine K.atO (.build 62 _) ?_); refine wpL_valZ rfl (exTv 1) (exec_bld _ [(0, .const (.string (sb sCn))), (1, .const (.int .i64 1))] rfl [(0, .string (sb sCn)), (1, .int .i64 1)] rfl _ _ (bty1 _)) ?_; simp only [Act.put, K.put3])
    | ((with_reducible refine K.atO (.build 62 _) ?_); refine wpL_valZ rfl (exTv 2) (exec_bld _ [(0, .const (.string (sb sAge))), (1, .const (.int .i64 3)), (2, .const (.bool true))] rfl [(0, .string (sb sAge)), (1, .int .i64 3), (2, .bool true)] rfl _ _ (bty2 _)) ?_; simp only [Act.put, K.put3])
    | ((with_reducible refine K.atO (.build 62 _) ?_); refine wpL_valZ rfl (exTv 3) (exec_bld _ [(0, .const (.string (sb sDc))), (1, .const (.int .i64 1))] rfl [(0, .string (sb sDc)), (1, .int .i64 1)] rfl _ _ (bty3 _)) ?_; simp only [Act.put, K.put3])
    | ((with_reducible refine K.atO (.buildSlice 22 _ _) ?_); refine wpL_buildAll rfl 22 62 [.tmp 1, .tmp 2, .tmp 3, .tmp 4] rfl it _ Tryz.underlying22 IT.out ZT.out (by rw [ST.out]; decide) (by rw [ST.out]; decide) (by decide) [exTv 0, exTv 1, exTv 2, exTv 3] rfl (by intro v hv; rw [ST.out]; simp only [List.mem_cons, List.not_mem_nil, or_false] at hv; rcases hv with rfl | rfl | rfl | rfl <;> exact szty _) (exT.map tyV).flatten fty ?_; intro y1 HY1 G1 HT1; simp only [Act.put, K.put3])
    | ((with_reducible refine K.atO (.build 71 _) ?_); (have := HY3); refine wpL_valZ rfl (exCv 1 (.slice (some ⟨y1.heap.size, 0, none⟩) 1 1) (.slice (some ⟨y2.heap.size, 0, none⟩) 1 1)) (exec_bld _ [(0, .const (.string (sb sPerson))), (1, .const (.int .i64 1)), (2, .const (.string (sb sTop))), (3, .tmp 7), (4, .tmp 8)] rfl [(0, (.string (sb sPerson))), (1, .int .i64 1), (2, (.string (sb sTop))), (3, (.slice (some ⟨y1.heap.size, 0, none⟩) 1 1)), (4, (.slice (some ⟨y2.heap.size, 0, none⟩) 1 1))] rfl _ _ (bcl1 _ _ _)) ?_; simp only [Act.put, K.put3])
    | ((with_reducible refine K.atO (.build 71 _) ?_); refine wpL_valZ rfl (exCv 0 (.slice none 0 0) (.slice none 0 0)) (exec_bld _ [(0, .const (.string (sb sTop)))] rfl [(0, (.string (sb sTop)))] rfl _ _ (bcl0 _)) ?_; simp only [Act.put, K.put3])
    | ((with_reducible refine K.atO (.buildSlice 44 _ _) ?_); (have := HY2); refine wpL_buildAll rfl 44 9 [.const (.string (sb sAge))] rfl is _ Tryz.underlying44 IS.out ZS.out (by rw [SS.out]; decide) (by rw [SS.out]; decide) (by decide) [.string (sb sAge)] rfl (by intro v hv; rw [List.mem_singleton.1 hv, SS.out]; rfl) (strs [sAge]) rfl ?_; intro y3 HY3 G3 HT3; simp only [Act.put, K.put3])
    | ((with_reducible refine K.atO (.buildSlice 44 _ _) ?_); refine wpL_buildAll rfl 44 9 [.const (.string (sb sCn))] rfl is _ Tryz.underlying44 IS.out ZS.out (by rw [SS.out]; decide) (by rw [SS.out]; decide) (by decide) [.string (sb sCn)] rfl (by intro v hv; rw [List.mem_singleton.1 hv, SS.out]; rfl) (strs [sCn]) rfl ?_; intro y2 HY2 G2 HT2; simp only [Act.put, K.put3])
    | ((with_reducible refine K.atO (.buildSlice 23 _ _) ?_); refine wpL_buildAll rfl 23 71 [.tmp 6, .tmp 9] rfl ic _ Tryz.underlying23 IC.out ZC.out (by rw [SC.out]; decide) (by rw [SC.out]; decide) (by decide) [exCv 0 (.slice none 0 0) (.slice none 0 0), exCv 1 (.slice (some ⟨y1.heap.size, 0, none⟩) 1 1) (.slice (some ⟨y2.heap.size, 0, none⟩) 1 1)] rfl (by intro v hv; rw [SC.out]; simp only [List.mem_cons, List.not_mem_nil, or_false] at hv; rcases hv with rfl | rfl <;> exact szcl _ _ _) ([clV (ex2C.getD 0 ⟨[], 0, [], [], []⟩) (.slice none 0 0) (.slice none 0 0), clV (ex2C.getD 1 ⟨[], 0, [], [], []⟩) (.slice (some ⟨y1.heap.size, 0, none⟩) 1 1) (.slice (some ⟨y2.heap.size, 0, none⟩) 1 1)] : List (List Value)).flatten (fcl2 _ _) ?_; intro y6 HY6 G6 HT6; simp only [Act.put, K.put3])
    | ((with_reducible refine K.atO (.build 25 _) ?_); refine wpL_valZ rfl (.agg #[.slice (some ⟨w1.heap.size, 0, none⟩) 4 4, .slice (some ⟨y3.heap.size, 0, none⟩) 2 2]) (exec_bld _ [(0, .tmp 5), (1, .tmp 10)] rfl [(0, .slice (some ⟨w1.heap.size, 0, none⟩) 4 4), (1, .slice (some ⟨y3.heap.size, 0, none⟩) 2 2)] rfl _ _ (bsc2 _ _ _)) ?_; simp only [Act.put, K.put3])
    | ((with_reducible refine K.atO (.store 25 _ _) ?_); refine wpL_store rfl _ _ _ rfl w.heap.size 0 [.slice (some ⟨w1.heap.size, 0, none⟩) 4 4, .slice (some ⟨y3.heap.size, 0, none⟩) 2 2] rfl rfl 25 _ ((((HB1.out.fr G1.out id).fr G2.out id).fr G3.out id).fr G6.out id) (by simp) infoSc (by simp [Value.oneCell']) ?_; intro y7 HY7 G7 HT7)
    | fail)
  have hs1 := HS1.out; have t1 := HT1.out; have t2 := HT2.out; have t3 := HT3.out; have t6 := HT6.out
  have hf : Fr No w y7 := ((((F1.out.trans' G1.out).trans' G2.out).trans' G3.out).trans' G6.out).trans G7.out (fun k e => .inr (by have e : k = w.heap.size := e; omega))
  have hg : ∀ {t : TypeId} {b : Nat} {cs : List Value} {u : World}, Blk u b t cs → Fr No u y6 → b ≠ w.heap.size → Blk y7 b t cs := fun h f hb => (h.fr f id).fr G7.out hb
  refine ret_cell rfl _ rfl HY7.out rfl rfl infoSc rfl ?_
  refine ⟨_, _, rfl, ?_, ?_, hf⟩
  · have hb := hg HY1.out ((G2.out.trans' G3.out).trans' G6.out) (by omega)
    have := blk_sl (k := 6) (p := TyC) exT (exT.map tyV) hb rfl (by intro c hc; obtain ⟨t, _, rfl⟩ := List.mem_map.1 hc; rfl) (fun j x c hx hc => by
      rw [List.getElem?_map, hx] at hc
      obtain rfl : tyV x = c := by simpa using hc
      have hm := List.mem_of_getElem? hx
      refine ⟨rfl, ?_⟩
      simp only [exT, List.mem_cons, List.not_mem_nil, or_false] at hm
      rcases hm with rfl | rfl | rfl | rfl <;> (unfold Sz; decide)) (by decide)
    exact Sl.mono this (fun i hi _ => by have hi : i = w1.heap.size := hi; omega) (fun _ _ _ h => h)
  · have hb := hg HY6.out (Fr.refl _ _) (by omega)
    have l2 := LsIn.mono (S' := fun i => w.heap.size ≤ i) (blk_ls [sCn] (hg HY2.out (G3.out.trans' G6.out) (by omega)) (by decide) (by intro x hx; rw [List.mem_singleton.1 hx]; unfold Sz; decide)) (fun i hi _ => by have hi : i = y1.heap.size := hi; omega)
    have l3 := LsIn.mono (S' := fun i => w.heap.size ≤ i) (blk_ls [sAge] (hg HY3.out G6.out (by omega)) (by decide) (by intro x hx; rw [List.mem_singleton.1 hx]; unfold Sz; decide)) (fun i hi _ => by have hi : i = y2.heap.size := hi; omega)
    have l0 : LsIn (fun i => w.heap.size ≤ i) y7 (.slice none 0 0) [] := ⟨none, 0, rfl, Nat.le_refl _, by simp, .inl rfl⟩
    have := blk_sl (k := 5) (p := ClC (fun i => w.heap.size ≤ i) y7) ex2C [clV (ex2C.getD 0 ⟨[], 0, [], [], []⟩) (.slice none 0 0) (.slice none 0 0), clV (ex2C.getD 1 ⟨[], 0, [], [], []⟩) (.slice (some ⟨y1.heap.size, 0, none⟩) 1 1) (.slice (some ⟨y2.heap.size, 0, none⟩) 1 1)] hb rfl (by
      intro c hc
      simp only [List.mem_cons, List.not_mem_nil, or_false] at hc
      rcases hc with rfl | rfl <;> rfl) (fun j x c hx hc => by
      match j, hx, hc with
      | 0, hx, hc => cases hx; cases hc; exact ⟨_, _, rfl, by unfold Sz; decide, by unfold Sz; decide, l0, l0, by unfold LB; decide⟩
      | 1, hx, hc => cases hx; cases hc; exact ⟨_, _, rfl, by unfold Sz; decide, by unfold Sz; decide, l2, l3, by unfold LB; decide⟩
      | n + 2, hx, _ => simp [ex2C] at hx) (by decide)
    exact Sl.mono this (fun i hi _ => by have hi : i = y3.heap.size := hi; omega) (fun _ _ _ h => h)
end Go.Proofs.YtdkkpfeiaaffhaaGreatDoor.FT

namespace Go.Proofs.YtdkkpfeiaaffhaaGreatDoor.FT
set_option maxRecDepth 100000
open Go.RowKit K Go.Proofs.YtdkkpfeiaaffhaaGreatDoor.BE Go.Proofs.YtdkkpfeiaaffhaaGreatDoor.DN Go.Proofs.YtdkkpfeiaaffhaaGreatDoor.SC

theorem zeroFl' : ∀ w, (zeroValue 46).run Tryz.prog w = .ok (.agg (flV fl0 (.slice none 0 0) (.slice none 0 0)).toArray) w := fun _ => by kernel_rfl
theorem spl_whole (cs c : List Value) (h : cs.length = c.length) : spl cs 0 c = c := by simp [spl, ← h]
def notE : List Int → Int
  | [] => 2
  | r :: _ => opp r
/-- Seven cells that may be stored. -/
def Seven (c : List Value) : Prop := c.length = 7 ∧ ∀ v ∈ c, v.oneCell' = true
set_option maxHeartbeats 16000000 in
theorem joined_any {α : Type} (f : FuncId) (first : List Value) (q : α → Int) (p : World → α → List Value → Prop) (D : Nat → Prop) (I : World → Prop) (E : Nat → Prop) (v0 : Value) (X : List α) (dec : Int) (w : World) (hp : ∀ w w' x c, p w x c → Fr D w w' → p w' x c) (h7 : ∀ w x c, p w x c → Seven c) (hD : ∀ i, E i → i < w.heap.size → ¬ D i) (hI : I w) (hIn : ∀ w w', I w → Fr No w w' → I w') (hdec : dec = 0 ∨ dec = 1)
    (h0 : Sl 7 (p w) E w v0 X) (hent : ∀ (vs : Array Value) (w : World), (callFunc f vs).run Tryz.prog w = .ok (.enter f vs) w)
    (hf : ∀ x ∈ X, ∀ c wv, p wv x c → I wv → Fr D w wv → Calls Tryz.prog f (first ++ [Value.agg c.toArray]).toArray wv fun e w' => e = .returned (.int .i64 (q x)) ∧ I w' ∧ Fr D wv w') :
    Calls Tryz.prog 88 #[v0, .int .i64 dec, .func (.func f) first.toArray #[]] w fun e w' => e = .returned (.int .i64 (joinE dec (opp dec) (X.map q))) ∧ I w' ∧ Fr D w w' := by
  obtain ⟨a, c, rfl, -, hl0⟩ := h0.form
  have HX0 := hid h0
  obtain ⟨n, hn⟩ : ∃ n, X.length = n := ⟨_, rfl⟩
  rw [hn] at HX0 hl0 ⊢
  have HNN := hid hn; have HP := hid hp; have HE := hid hent; have HF := hid hf; have HD := hid hD; have HI0 := hid hI; have HIN := hid hIn; have H7 := hid h7
  obtain ⟨R, hR⟩ : ∃ R, joinE dec (opp dec) (X.map q) = R := ⟨_, rfl⟩
  rw [hR]
  have HR := hid hR
  have HDEC := hid hdec
  have hni : (n : Int) ≤ 140737488351232 := by omega
  clear hp h0 hent hf hn hR hD hI hIn h7 hdec
  go_enter Tryz.func88, Tryz.ntmps88
  go_wp2_with fail
  refine (opposite_any dec w).mono ?_
  rintro e w1 ⟨rfl, rfl⟩
  go_wp2_with fail
  go_loopw [7, 14] (fun rv iv wr => ∃ (i : Nat) (res : Int), rv = .int .i64 res ∧ iv = .int .i64 i ∧ i ≤ n ∧ Hid (joinE dec res ((X.drop i).map q) = R ∧ I wr ∧ Fr D w1 wr)) (fun _ iv _ => n - (intOf iv).toNat)
  case atStart => exact ⟨0, opp dec, rfl, rfl, Nat.zero_le _, hid ⟨HR.out, HI0.out, Fr.refl _ _⟩⟩
  case round =>
    obtain ⟨i, res, rfl, rfl, hi, HI⟩ := hrel
    by_cases hlt : i < n
    · have hiX : i < X.length := by rw [HNN.out]; exact hlt
      obtain ⟨x, hx⟩ : ∃ x, X[i]? = some x := ⟨_, List.getElem?_eq_getElem hiX⟩
      have HXM := hid (List.mem_of_getElem? hx)
      have HJ : Hid ((if q x = dec then dec else joinE dec (if q x = 2 then 2 else res) ((X.drop (i + 1)).map q)) = R) := hid (by
        have h := HI.out.1
        rw [(drop_at hx).1, List.map_cons] at h
        exact h)
      have hlti : (i : Int) < n := by omega
      have hi0 : (0 : Int) ≤ i := by omega
      obtain ⟨g, o, cp, c, e1, hEg, hgw, hr, hc, hxa⟩ := (HX0.out.fr HI.out.2.2 HD.out (fun x c _ h => HP.out _ _ x c h HI.out.2.2)).get hx
      rw [HNN.out] at e1
      simp only [Value.slice.injEq, true_and] at e1
      obtain ⟨rfl, rfl⟩ := e1
      have HXA := hid hxa; have HRR := hid hr
      have H7C := hid (H7.out _ _ _ hxa)
      have HI3 : Hid ((Tryz.prog.info? 46).map (·.size) = some c.length) := hid (by rw [hc]; exact infoFl)
      have HLT := hid hlt
      clear hc hEg hgw hr hxa hx hlt hiX
      go_wp2_with (first
        | ((with_reducible refine K.atO (.load 46 _) ?_); (fail_if_success (have := HB2)); refine wpL_load rfl _ _ rfl g (o + i * 7) rfl c _ HRR.out rfl rfl HI3.out ?_)
        | ((with_reducible refine K.atO (.alloc 46) ?_); refine wpL_alloc rfl _ rfl _ zeroFl' (flV fl0 (.slice none 0 0) (.slice none 0 0)) rfl ?_; intro w2 HB2 HF2 HS2)
        | ((with_reducible refine K.atO (.store 46 _ _) ?_); refine wpL_store rfl _ _ _ rfl wr.heap.size 0 c rfl rfl 46 _ HB2.out (by rw [H7C.out.1]; simp [flV]) HI3.out H7C.out.2 ?_; intro w3 HB3 HF3 HS3; refine Hid.out ?_)
        | fail)
      have HF3' : Hid (Fr No wr w3) := hid (HF2.out.trans HF3.out (fun k e => .inr (by have e : k = wr.heap.size := e; omega)))
      have HB3' : Hid (Blk w3 wr.heap.size 46 c) := hid (by
        have h := HB3.out
        rw [spl_whole (flV fl0 (.slice none 0 0) (.slice none 0 0)) c (by rw [H7C.out.1]; rfl)] at h
        exact h)
      obtain ⟨r, hr⟩ : ∃ r, wr.heap.size = r := ⟨_, rfl⟩
      rw [hr] at HB3' ⊢
      have HXA3 := hid (HP.out _ _ x c HXA.out (HF3'.out.mono (fun _ e => e.elim)))
      have HI3' := hid (HIN.out _ _ HI.out.2.1 HF3'.out)
      have HFD3 : Hid (Fr D w1 w3) := hid (HI.out.2.2.trans' (HF3'.out.mono (fun _ e => e.elim)))
      clear hr HB2 HF2 HS2 HB3 HF3 HS3
      refine hid ?_
      go_wp2_with (first
        | ((with_reducible refine K.atO (.load 46 _) ?_); refine wpL_load rfl _ _ rfl r 0 rfl c _ (HB3'.out.range 0 _ (by simp)) rfl rfl HI3.out ?_)
        | ((with_reducible refine K.atO (.call { callee := .value _, args := _, argTypes := _ }) ?_); refine wpL_callF rfl _ [_] _ rfl f first [] rfl HE.out (first ++ [Value.agg c.toArray]) (by rw [List.append_nil]; rfl) ?_)
        | fail)
      refine (HF.out x HXM.out c w3 HXA3.out HI3'.out HFD3.out).mono ?_
      rintro e w4 ⟨rfl, i4, f4⟩
      refine ⟨_, rfl, ?_⟩
      have HF4 := hid (HFD3.out.trans' f4)
      have HI4 := hid i4
      generalize q x = y at HJ ⊢
      clear f4 i4 HXA HXA3 HRR HB3'
      by_cases hy : y = dec
      · have HRY : Hid (dec = R) := hid (by have h := HJ.out; rw [if_pos hy] at h; exact h)
        have ey := beqI hy
        clear hy
        go_wp2_with fail
        go_ret
        exact ⟨by rw [← HRY.out]; rfl, HI4.out, HF4.out⟩
      · have HRY : Hid (joinE dec (if y = 2 then 2 else res) ((X.drop (i + 1)).map q) = R) := hid (by have h := HJ.out; rw [if_neg hy] at h; exact h)
        have ey := beqN hy
        clear hy
        by_cases h2 : y = 2
        · have HRZ : Hid (joinE dec 2 ((X.drop (i + 1)).map q) = R) := hid (by have h := HRY.out; rw [if_pos h2] at h; exact h)
          have e2 := beqI h2
          clear h2
          go_wp2_with fail
          go_roundw
          case rel => exact ⟨i + 1, 2, rfl, by go_num, HLT.out, hid ⟨HRZ.out, HI4.out, HF4.out⟩⟩
          case measure => have := HLT.out; simp [intOf]; omega
        · have HRZ : Hid (joinE dec res ((X.drop (i + 1)).map q) = R) := hid (by have h := HRY.out; rw [if_neg h2] at h; exact h)
          have e2 := beqN h2
          clear h2
          go_wp2_with fail
          go_roundw
          case rel => exact ⟨i + 1, res, rfl, by go_num, HLT.out, hid ⟨HRZ.out, HI4.out, HF4.out⟩⟩
          case measure => have := HLT.out; simp [intOf]; omega
    · obtain rfl : i = n := by omega
      have HDN : Hid (res = R) := hid (by
        have h := HI.out.1
        rw [List.drop_eq_nil_of_le (by rw [HNN.out]; exact Nat.le_refl _)] at h
        exact h)
      go_wp2_with fail
      go_ret
      exact ⟨by rw [← HDN.out]; rfl, HI.out.2.1, HI.out.2.2⟩
set_option maxHeartbeats 8000000 in
theorem denied_any {α : Type} (f : FuncId) (first : List Value) (q : α → Int) (p : World → α → List Value → Prop) (D : Nat → Prop) (I : World → Prop) (E : Nat → Prop) (v0 : Value) (X : List α) (w : World) (hI : I w)
    (h0 : Sl 7 (p w) E w v0 X) (hent : ∀ (vs : Array Value) (w : World), (callFunc f vs).run Tryz.prog w = .ok (.enter f vs) w)
    (hf : ∀ x ∈ X, ∀ c wv, p wv x c → I wv → Fr D w wv → Calls Tryz.prog f (first ++ [Value.agg c.toArray]).toArray wv fun e w' => e = .returned (.int .i64 (q x)) ∧ I w' ∧ Fr D wv w') :
    Calls Tryz.prog 89 #[v0, .func (.func f) first.toArray #[]] w fun e w' => e = .returned (.int .i64 (notE (X.map q))) ∧ I w' ∧ Fr D w w' := by
  obtain ⟨a, c, rfl, -, hl0⟩ := h0.form
  cases X with
  | nil =>
    have HI0 := hid hI
    clear h0 hent hf hI
    go_enter Tryz.func89, Tryz.ntmps89
    go_wp2_with fail
    go_ret
    exact ⟨rfl, HI0.out, Fr.refl _ _⟩
  | cons x r =>
    have hx : (x :: r)[0]? = some x := rfl
    obtain ⟨g, o, cp, c, e1, hEg, hgw, hr, hc, hxa⟩ := h0.get hx
    simp only [Value.slice.injEq, true_and] at e1
    obtain ⟨rfl, rfl⟩ := e1
    have HF := hid (hf x List.mem_cons_self c w hxa hI (Fr.refl _ _))
    have HE := hid hent; have HRR : Hid (w.rangeAt g o c) := hid (by rw [Nat.zero_mul, Nat.add_zero] at hr; exact hr)
    have HI3 : Hid ((Tryz.prog.info? 46).map (·.size) = some c.length) := hid (by rw [hc]; exact infoFl)
    obtain ⟨n, hn⟩ : ∃ n, (x :: r).length = n := ⟨_, rfl⟩
    have hn0 : ((n : Int) == 0) = false := by rw [beq_eq_false_iff_ne]; simp at hn; omega
    have hn1 : (0 : Int) < n := by simp at hn; omega
    have hnb : (n : Int) ≤ 140737488351232 := by omega
    rw [hn]
    clear h0 hent hf hI hx hEg hgw hr hc hxa hl0 hn
    go_enter Tryz.func89, Tryz.ntmps89
    go_wp2_with (first
      | ((with_reducible refine K.atO (.load 46 _) ?_); refine wpL_load rfl _ _ rfl g o rfl c _ HRR.out rfl rfl HI3.out ?_)
      | ((with_reducible refine K.atO (.call { callee := .value _, args := _, argTypes := _ }) ?_); refine wpL_callF rfl _ [_] _ rfl f first [] rfl HE.out (first ++ [Value.agg c.toArray]) (by rw [List.append_nil]; rfl) ?_)
      | fail)
    refine HF.out.mono ?_
    rintro e w4 ⟨rfl, i4, f4⟩
    refine ⟨_, rfl, ?_⟩
    have HF4 := hid f4
    have HI4 := hid i4
    clear f4 i4
    go_wp2_with fail
    refine (opposite_any _ w4).mono ?_
    rintro e w5 ⟨rfl, rfl⟩
    go_wp2_with fail
    go_ret
    exact ⟨rfl, HI4.out, HF4.out⟩
end Go.Proofs.YtdkkpfeiaaffhaaGreatDoor.FT
