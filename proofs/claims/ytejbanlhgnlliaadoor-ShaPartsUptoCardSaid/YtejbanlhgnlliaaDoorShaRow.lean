/-
  What the rows of stage 7 need: the two tables, as the row's list lays them; a world in which they lie so.
-/
import Derived.Test.YtejbanlhgnlliaaDoorCards
import Derived.Test.YtejbanlhgnlliaaDoorTie
import Derived.Test.YtejbanlhgnlliaaDoorSumRow
import Derived.Test.YtejbanlhgnlliaaDoorShaG
import Derived.WalkKit
import Derived.ProofKit
import Derived.OpenShut
import Derived.Deep.DeepHandedRow
import Derived.Lib.LaidTab
import Derived.Stop.LaidErr
namespace Go.Proofs.YtejbanlhgnlliaaDoor.SH
set_option maxRecDepth 100000
open Go.ChangeShapes Go.WideShapes Go.ChangeAt Go.RowKit K AR

theorem gH : Tryd.prog.globalNamed "palatine/sha.initial" = some 0 := by kernel_rfl
theorem gK : Tryd.prog.globalNamed "palatine/sha.constants" = some 1 := by kernel_rfl
theorem gHT : (Tryd.prog.globals[0]?).map (·.type) = some 41 := by kernel_rfl
theorem gKT : (Tryd.prog.globals[1]?).map (·.type) = some 43 := by kernel_rfl
theorem cW : Tryd.prog.cellsOf 40 = 1 := by kernel_rfl
theorem cH : Tryd.prog.cellsOf 41 = 8 := by kernel_rfl
theorem cK : Tryd.prog.cellsOf 43 = 64 := by kernel_rfl
def laid : List (String × DataW Unit) := [("palatine/sha.initial", Rows.laid_palatine_sha_initial), ("palatine/sha.constants", Rows.laid_palatine_sha_constants)]
theorem laid_tabs : laid = [("palatine/sha.initial", Lib.tabData .u32 (hl.map fun n : Nat => (n : Int))), ("palatine/sha.constants", Lib.tabData .u32 (kl.map fun n : Nat => (n : Int)))] := by rfl
theorem range_of_tab {w : World} {g : Nat} {l : List Nat} {n : Nat} (hn : l.length = n) (f : Nat → Nat) (hf : ∀ i, f i = l.getD i 0) (h : ∀ i, i < n → w.cell? ⟨g, i, none⟩ = some (.int .u32 ((l.map fun n : Nat => (n : Int)).getD i 0))) : w.rangeAt g 0 (bw .u32 f n) := by
  intro j v hj
  have hjn : j < n := by have := (List.getElem?_eq_some_iff.1 hj).1; simpa using this
  rw [bw_get f hjn] at hj
  rw [Nat.zero_add, h j hjn, ← hj, hf]
  simp [List.getD, hn, hjn]
theorem gl_of {W : World} (h : laidMetH Tryd.prog laid W) : Gl W := by
  rw [laid_tabs] at h
  have hm : laidMet Tryd.prog _ W := h
  have t0 := Lib.tabIs_of_head gH gHT Tryd.underlying41 Tryd.underlying40 cW cH hm
  have t1 := Lib.tabIs_of_head (rest := []) gK gKT Tryd.underlying43 Tryd.underlying40 cW cK hm.tail
  exact ⟨range_of_tab (l := hl) rfl h0 (fun _ => rfl) fun i hi => t0.cell gH i (by simpa using hi), range_of_tab (l := kl) rfl kc (fun _ => rfl) fun i hi => t1.cell gK i (by simpa using hi)⟩
def lay (cs : Array Value) : Obj → Obj
  | .cells _ t frozen => .cells cs t frozen
  | o => o
noncomputable def laidWorld (os : Os) : World :=
  { World.holding Tryd.prog os ⟨#[], #[], []⟩ with heap := ((World.holding Tryd.prog os ⟨#[], #[], []⟩).heap.modify 0 (lay (bw .u32 h0 8).toArray)).modify 1 (lay (bw .u32 kc 64).toArray) }
end Go.Proofs.YtejbanlhgnlliaaDoor.SH
