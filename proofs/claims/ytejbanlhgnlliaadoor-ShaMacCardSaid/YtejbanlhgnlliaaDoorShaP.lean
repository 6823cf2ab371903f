/-
  The document's sha: R, first, constants.
-/
import Derived.Test.YtejbanlhgnlliaaDoorOwB
import Derived.Test.YtejbanlhgnlliaaDoorArr
import Derived.Test.YtejbanlhgnlliaaDoorShaK
namespace Go.Proofs.YtejbanlhgnlliaaDoor.SH
set_option maxRecDepth 100000
open Go.RowKit K AR

theorem or32 {a b : Nat} (ha : a < 4294967296) (hb : b < 4294967296) : bits .or .u32 (a : Int) (b : Int) = ((a ||| b : Nat) : Int) := u32_or_nat a b ha hb
theorem xor32 {a b : Nat} (ha : a < 4294967296) (hb : b < 4294967296) : bits .xor .u32 (a : Int) (b : Int) = ((a ^^^ b : Nat) : Int) := u32_xor_nat a b ha hb
theorem and32 {a b : Nat} (ha : a < 4294967296) (hb : b < 4294967296) : bits .and .u32 (a : Int) (b : Int) = ((a &&& b : Nat) : Int) := u32_and_nat a b ha hb
theorem R_eq {x n : Nat} (hx : x < 4294967296) : bits .or .u32 ((x : Int) / 2 ^ n) ((x : Int) * 2 ^ (32 - n) % 4294967296) = ((R n x : Nat) : Int) := by
  have e1 : ((x : Int) / 2 ^ n) = ((x / 2 ^ n : Nat) : Int) := by simp
  have e2 : ((x : Int) * 2 ^ (32 - n) % 4294967296) = ((x * 2 ^ (32 - n) % 4294967296 : Nat) : Int) := by simp
  rw [e1, e2, or32 (Nat.lt_of_le_of_lt (Nat.div_le_self _ _) hx) (Nat.mod_lt _ (by decide))]
  rfl
theorem R_any (x n : Nat) (w : World) (hx : x < 4294967296) (h0 : 0 < n) (hn : n < 32) : Calls Tryd.prog 20 #[.int .u32 (x : Int), .int .i64 (n : Int)] w fun e w' =>
    e = .returned (.int .u32 (R n x : Nat)) ∧ ∃ q, w' = w.drewN q := by
  have HX := hid hx; clear hx
  go_enter Tryd.func20, Tryd.ntmps20
  go_wp2
  go_quiet (fail)
  go_wp2
  go_ret
  refine ⟨?_, _, rfl⟩
  show Ending.returned (.int .u32 (bits .or .u32 ((x : Int) / 2 ^ n) ((x : Int) * 2 ^ (32 - n) % 4294967296))) = _
  rw [R_eq HX.out]
theorem zero8w (w : World) : (zeroValue 41).run Tryd.prog w = .ok (ba .u32 (fun _ => 0) 8) w := by kernel_rfl
theorem zero64w (w : World) : (zeroValue 43).run Tryd.prog w = .ok (ba .u32 (fun _ => 0) 64) w := by kernel_rfl
theorem zero32b (w : World) : (zeroValue 24).run Tryd.prog w = .ok (ba .u8 (fun _ => 0) 32) w := by kernel_rfl
theorem info8w : (Tryd.prog.info? 41).map (·.size) = some 8 := by kernel_rfl
theorem info64w : (Tryd.prog.info? 43).map (·.size) = some 64 := by kernel_rfl
theorem info32b : (Tryd.prog.info? 24).map (·.size) = some 32 := by kernel_rfl
theorem infoW : (Tryd.prog.info? 40).map (·.size) = some 1 := by kernel_rfl
theorem infoU8 : (Tryd.prog.info? 5).map (·.size) = some 1 := by kernel_rfl
theorem first_any (w : World) : Calls Tryd.prog 18 #[] w fun e w' => e = .returned (ba .u32 h0 8) ∧ Fr No w w' := by
  go_enter Tryd.func18, Tryd.ntmps18
  go_wp2_with (first
    | ((with_reducible show wpList _ _ _ ({ dst := _, op := .alloc 41, type := _, pos := _, after := _, guard := _ } :: _) _ _); refine wpL_alloc rfl _ rfl _ zero8w (bw .u32 (fun _ => 0) 8) rfl ?_; intro w1 HB1 HF1 HS1)
    | ((with_reducible show wpList _ _ _ ({ dst := _, op := .store 41 _ _, type := _, pos := _, after := _, guard := _ } :: _) _ _); refine wpL_whole rfl _ _ _ rfl w.heap.size h0 8 rfl (by rfl) _ _ HB1.out info8w ?_; intro w2 HB2 HF2 HS2))
  refine ret_cell rfl _ rfl HB2.out rfl rfl (by simpa using info8w) rfl ?_
  exact ⟨rfl, HF1.out.trans HF2.out fun i e => .inr (by have : i = w.heap.size := e; omega)⟩
def kparts : List (Nat × Operand) := [(0, .const (.int .u32 1116352408)), (1, .const (.int .u32 1899447441)), (2, .const (.int .u32 3049323471)), (3, .const (.int .u32 3921009573)), (4, .const (.int .u32 961987163)), (5, .const (.int .u32 1508970993)), (6, .const (.int .u32 2453635748)), (7, .const (.int .u32 2870763221)), (8, .const (.int .u32 3624381080)), (9, .const (.int .u32 310598401)), (10, .const (.int .u32 607225278)), (11, .const (.int .u32 1426881987)), (12, .const (.int .u32 1925078388)), (13, .const (.int .u32 2162078206)), (14, .const (.int .u32 2614888103)), (15, .const (.int .u32 3248222580)), (16, .const (.int .u32 3835390401)), (17, .const (.int .u32 4022224774)), (18, .const (.int .u32 264347078)), (19, .const (.int .u32 604807628)), (20, .const (.int .u32 770255983)), (21, .const (.int .u32 1249150122)), (22, .const (.int .u32 1555081692)), (23, .const (.int .u32 1996064986)), (24, .const (.int .u32 2554220882)), (25, .const (.int .u32 2821834349)), (26, .const (.int .u32 2952996808)), (27, .const (.int .u32 3210313671)), (28, .const (.int .u32 3336571891)), (29, .const (.int .u32 3584528711)), (30, .const (.int .u32 113926993)), (31, .const (.int .u32 338241895)), (32, .const (.int .u32 666307205)), (33, .const (.int .u32 773529912)), (34, .const (.int .u32 1294757372)), (35, .const (.int .u32 1396182291)), (36, .const (.int .u32 1695183700)), (37, .const (.int .u32 1986661051)), (38, .const (.int .u32 2177026350)), (39, .const (.int .u32 2456956037)), (40, .const (.int .u32 2730485921)), (41, .const (.int .u32 2820302411)), (42, .const (.int .u32 3259730800)), (43, .const (.int .u32 3345764771)), (44, .const (.int .u32 3516065817)), (45, .const (.int .u32 3600352804)), (46, .const (.int .u32 4094571909)), (47, .const (.int .u32 275423344)), (48, .const (.int .u32 430227734)), (49, .const (.int .u32 506948616)), (50, .const (.int .u32 659060556)), (51, .const (.int .u32 883997877)), (52, .const (.int .u32 958139571)), (53, .const (.int .u32 1322822218)), (54, .const (.int .u32 1537002063)), (55, .const (.int .u32 1747873779)), (56, .const (.int .u32 1955562222)), (57, .const (.int .u32 2024104815)), (58, .const (.int .u32 2227730452)), (59, .const (.int .u32 2361852424)), (60, .const (.int .u32 2428436474)), (61, .const (.int .u32 2756734187)), (62, .const (.int .u32 3204031479)), (63, .const (.int .u32 3329325298))]
theorem buildK (w : World) : (Instr.build 43 #[(0, .int .u32 1116352408), (1, .int .u32 1899447441), (2, .int .u32 3049323471), (3, .int .u32 3921009573), (4, .int .u32 961987163), (5, .int .u32 1508970993), (6, .int .u32 2453635748), (7, .int .u32 2870763221), (8, .int .u32 3624381080), (9, .int .u32 310598401), (10, .int .u32 607225278), (11, .int .u32 1426881987), (12, .int .u32 1925078388), (13, .int .u32 2162078206), (14, .int .u32 2614888103), (15, .int .u32 3248222580), (16, .int .u32 3835390401), (17, .int .u32 4022224774), (18, .int .u32 264347078), (19, .int .u32 604807628), (20, .int .u32 770255983), (21, .int .u32 1249150122), (22, .int .u32 1555081692), (23, .int .u32 1996064986), (24, .int .u32 2554220882), (25, .int .u32 2821834349), (26, .int .u32 2952996808), (27, .int .u32 3210313671), (28, .int .u32 3336571891), (29, .int .u32 3584528711), (30, .int .u32 113926993), (31, .int .u32 338241895), (32, .int .u32 666307205), (33, .int .u32 773529912), (34, .int .u32 1294757372), (35, .int .u32 1396182291), (36, .int .u32 1695183700), (37, .int .u32 1986661051), (38, .int .u32 2177026350), (39, .int .u32 2456956037), (40, .int .u32 2730485921), (41, .int .u32 2820302411), (42, .int .u32 3259730800), (43, .int .u32 3345764771), (44, .int .u32 3516065817), (45, .int .u32 3600352804), (46, .int .u32 4094571909), (47, .int .u32 275423344), (48, .int .u32 430227734), (49, .int .u32 506948616), (50, .int .u32 659060556), (51, .int .u32 883997877), (52, .int .u32 958139571), (53, .int .u32 1322822218), (54, .int .u32 1537002063), (55, .int .u32 1747873779), (56, .int .u32 1955562222), (57, .int .u32 2024104815), (58, .int .u32 2227730452), (59, .int .u32 2361852424), (60, .int .u32 2428436474), (61, .int .u32 2756734187), (62, .int .u32 3204031479), (63, .int .u32 3329325298)]).run Tryd.prog w = .ok (ba .u32 kc 64) w := by kernel_rfl
theorem constants_any (w : World) : Calls Tryd.prog 19 #[] w fun e w' => e = .returned (ba .u32 kc 64) ∧ Fr No w w' := by
  go_enter Tryd.func19, Tryd.ntmps19
  go_wp2_with (first
    | ((with_reducible show wpList _ _ _ ({ dst := _, op := .alloc 43, type := _, pos := _, after := _, guard := _ } :: _) _ _); refine wpL_alloc rfl _ rfl _ zero64w (bw .u32 (fun _ => 0) 64) rfl ?_; intro w1 HB1 HF1 HS1)
    | ((with_reducible show wpList _ _ _ ({ dst := _, op := .build 43 _, type := _, pos := _, after := _, guard := _ } :: _) _ _); refine wpL_build rfl _ kparts rfl (ba .u32 kc 64) (buildK _) ?_)
    | ((with_reducible show wpList _ _ _ ({ dst := _, op := .store 43 _ _, type := _, pos := _, after := _, guard := _ } :: _) _ _); refine wpL_whole rfl _ _ _ rfl w.heap.size kc 64 rfl rfl _ _ HB1.out info64w ?_; intro w2 HB2 HF2 HS2))
  refine ret_cell rfl _ rfl HB2.out rfl rfl (by simpa using info64w) rfl ?_
  exact ⟨rfl, HF1.out.trans HF2.out fun i e => .inr (by have : i = w.heap.size := e; omega)⟩
end Go.Proofs.YtejbanlhgnlliaaDoor.SH
