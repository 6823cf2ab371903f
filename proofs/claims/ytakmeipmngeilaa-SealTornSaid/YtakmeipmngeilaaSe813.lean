/-
  Part 13 of the proof: SeAw, ThaO, SeE, SeJ, SeL.
-/
import Derived.Test.YtakmeipmngeilaaSe812
import Derived.Test.YtakmeipmngeilaaSe804
import Derived.Lib.AppendZerosOnto
set_option linter.unusedVariables false
set_option linter.unusedSimpArgs false
set_option linter.unusedSectionVars false
namespace Go.Proofs.Ytakmeipmngeilaa.SE
set_option maxRecDepth 100000
open Go.RowKit K
variable [SH.Tab]

theorem k1_good : good [K1] = true := decide_eq_true ⟨by decide, fun k hk => by obtain rfl := List.mem_singleton.1 hk; unfold K1; rw [sb_size, keyL_length]⟩
theorem eight7 : eight 7 = [0, 0, 0, 0, 0, 0, 0, 7] := by decide +kernel
set_option maxHeartbeats 4000000 in
theorem awake_any (w : World) (hg : SH.Gl w) : Calls Try.prog 8 #[] w fun e w' => e = .returned (.bool true) ∧ Fr No w w' := by
  have HG := hid hg
  clear hg
  go_enter Try.func8, Try.ntmps8
  go_wp2_with fail
  refine (key_any 1 (by decide) _).mono ?_
  rintro e w1 ⟨rfl, hf1⟩
  have HF1 := hid hf1
  clear hf1
  go_wp2_with (first
    | ((with_reducible show wpList _ _ _ (⟨_, .buildSlice 22 _ _, _, _, _, _⟩ :: _) _ _); refine wpL_buildSlice rfl _ 9 1 [(0, .tmp 19)] rfl [.string K1] (buildKeys _ _) ?_; intro w2 HB2 HF2 HS2)
    | fail)
  have HF02 := hid (HF1.out.trans' HF2.out)
  refine (new_any _ [K1] _ ⟨_, _, rfl, fun _ => ⟨_, 0, rfl, HB2.out.range 0 _ (by rfl)⟩⟩ (by decide)).mono ?_
  rintro e w3 hnew
  obtain ⟨-, b, rfl, hown, hf3⟩ : good [K1] = true ∧ ∃ b, e = .returned (.tuple #[.pointer (some ⟨b, 0, none⟩), .int .i64 0]) ∧ Own w2 w3 56 b (vals [K1] 1) ∧ Fr No w2 w3 := by
    rcases hnew with h | h
    · exact h
    · rw [k1_good] at h; cases h.1
  have HO3 := hid hown
  have HF3 := hid (HF02.out.trans' hf3)
  have HFW := hid (show w.heap.size ≤ w3.heap.size from HF3.out.size)
  clear hnew hown hf3 HB2 HF2 HS2 HF1 HF02
  go_wp2_with fail
  refine (newIdeal_any 1 (by decide) _).mono ?_
  rintro e w4 hnew
  obtain ⟨-, x, bm, rfl, hid4, hf4⟩ : (0 ≤ (1 : Int) ∧ (1 : Int) ≤ 16) ∧ ∃ b bm, e = .returned (.tuple #[.pointer (some ⟨b, 0, none⟩), .int .i64 0]) ∧ IdAt w3 w4 b 1 0 bm no ∧ Fr No w3 w4 := by
    rcases hnew with h | h
    · exact h
    · exact absurd ⟨by decide, by decide⟩ h.1
  have HO4 := hid (HO3.out.no hf4)
  have HI4 := hid hid4
  have HF4 := hid (HF3.out.trans' hf4)
  clear hnew hid4 hf4 HO3 HF3
  go_wp2_with fail
  refine (boxSeal_any w2 _ [K1] 1 b (by decide) HO4.out (HG.out.no HF4.out) 0 (by decide) 7 (by decide) (sb ab)).mono ?_
  rintro e w5 ⟨rfl, hf5⟩
  rw [sb_list, aw1]
  have hop := aw2
  have hlen := (kyv 0 K1).seal_length (n := sb (eight 7)) (by rw [sb_size, eight_length]) ab
  have htk : ((kyv 0 K1).seal (sb (eight 7)) ab).take 8 = eight 7 := by
    unfold Ky.seal Ky.ahead
    rw [sb_list, List.append_assoc, List.take_append_of_le_length (by rw [eight_length]; exact Nat.le_refl _), List.take_of_length_le (by rw [eight_length]; exact Nat.le_refl _)]
  obtain ⟨L, hL⟩ : ∃ L, (kyv 0 K1).seal (sb (eight 7)) ab = L := ⟨_, rfl⟩
  rw [hL] at hop hlen htk ⊢
  have hLs : (sb L).size = 26 := by rw [sb_size, hlen]; rfl
  have HOP := hid hop; have HLS := hid hLs; have HTK := hid htk
  have HO5 := hid (HO4.out.no hf5)
  have HI5 := hid (HI4.out.no hf5)
  have HF5 := hid (HF4.out.trans' hf5)
  clear hop hlen htk hLs hL hf5 HO4 HI4 HF4
  unfold told
  go_wp2_with fail
  refine (boxOpen_any w2 _ [K1] 1 b (by decide) HO5.out (HG.out.no HF5.out) 0 (by decide) (sb L) (by rw [HLS.out]; decide)).mono ?_
  rintro e w6 ⟨rfl, hf6⟩
  rw [sb_list, HOP.out]
  have HO6 := hid (HO5.out.no hf6)
  have HI6 := hid (HI5.out.no hf6)
  have HF6 := hid (HF5.out.trans' hf6)
  clear hf6 HO5 HI5 HF5
  unfold told
  go_wp2_with fail
  refine (boxOpen_any w2 _ [K1] 1 b (by decide) HO6.out (HG.out.no HF6.out) 1 (by decide) (sb L) (by rw [HLS.out]; decide)).mono ?_
  rintro e w7 ⟨rfl, hf7⟩
  rw [sb_list, aw3]
  have HI7 := hid (HI6.out.no hf7)
  have HF7 := hid (HF6.out.trans' hf7)
  clear hf7 HO6 HI6 HF6
  unfold told
  go_wp2_with fail
  refine (idSeal_any w3 _ x 1 0 (by decide) (by decide) bm no HI7.out 0 (by decide) 7 (by decide) (sb ab)).mono ?_
  rintro e w8 ⟨rfl, hid8, hf8⟩
  rw [sb_list] at hid8 ⊢
  rw [aw4]
  have HBM : Hid (∀ k, Bms 1 bm k → w.heap.size ≤ k) := hid (fun k ⟨i, hi, e⟩ => by
    have h1 := HI7.out.2.2.1 i hi
    have h2 := HFW.out
    omega)
  have HI8 := hid hid8
  have HF8 := hid (HF7.out.trans hf8 fun k e => .inr (HBM.out k e))
  clear hid8 hf8 HI7 HF7
  unfold told
  go_wp2_with fail
  refine (idSeal_any w3 _ x 1 1 (by decide) (by decide) bm _ HI8.out 0 (by decide) 7 (by decide) (sb [99])).mono ?_
  rintro e w9 ⟨rfl, hid9, hf9⟩
  rw [sb_list] at hid9 ⊢
  rw [aw7 [99] (by decide)] at hid9
  rw [aw6 [99] (by decide)]
  have HI9 := hid hid9
  have HF9 := hid (HF8.out.trans hf9 fun k e => .inr (HBM.out k e))
  clear hid9 hf9 HI8 HF8
  unfold told
  go_wp2_with fail
  have hfs : (sb (form 0 (eight 7) 2)).size = 26 := by rw [sb_size, form_length, eight_length]
  have HFS := hid hfs
  refine (idOpen_any w3 _ x 1 2 (by decide) bm _ (no_short.next 1 0 7 ab) HI9.out 0 (by decide) (sb (form 0 (eight 7) 2)) (by rw [hfs]; decide)).mono ?_
  rintro e w10 ⟨rfl, hf10⟩
  rw [sb_list, aw8]
  have HF10 := hid (HF9.out.trans' hf10)
  clear hf10 hfs HI9 HF9
  unfold told
  go_wp2_with fail
  refine (long_any 2 (by decide) (by decide) _).mono ?_
  rintro e w11 ⟨rfl, rfl⟩
  have hi1 : ((sb L).size : Int) = 26 := by rw [HLS.out]; rfl
  have hi2 : ((sb (form 0 (eight 7) 2)).size : Int) = 26 := by rw [HFS.out]; rfl
  have hex : (sb L).extract 0 8 = sb (eight 7) := by rw [ext_sb, sb_list, List.drop_zero, HTK.out]
  have hb1 : ((sb (eight 7)).toList == [0, 0, 0, 0, 0, 0, 0, 7]) = true := by
    rw [ByteArray.toList_eq, sb_list, eight7]
    decide
  have hb2 : ((sb ab).toList == [97, 98]) = true := by
    rw [ByteArray.toList_eq, sb_list]
    decide
  go_wp2_with fail
  go_ret
  exact ⟨rfl, HF10.out⟩
end Go.Proofs.Ytakmeipmngeilaa.SE

set_option linter.unusedVariables false
set_option linter.unusedSimpArgs false
namespace Go.Proofs.Ytakmeipmngeilaa.K
set_option maxRecDepth 100000
open Go.RowKit

section
variable {ops : Array Oper} {rest : List Oper} {op : Oper} {a : Act} {w : World} {Q : Exit → Act → World → Prop}
theorem zeros_one (m : Nat) : (Builtin.zeroCells (Value.int .u8 0).cells m).toList = u8s (List.replicate m (0 : UInt8)) := by
  simp only [Builtin.zeroCells, Value.cells, u8s, List.map_replicate]
  refine List.ext_getElem (by simp) fun i h1 h2 => ?_
  simp [Nat.mod_one]
theorem run_append_room_zeros (ty : TypeId) (g n cap m : Nat) (hroom : n + m ≤ cap) (hm : m ≤ 140737488355328) (hc : ∀ j, j < m → (w.cell? ⟨g, n + j, none⟩).isSome = true) (hf : ∀ j, j < m → w.frozen? ⟨g, n + j, none⟩ = false) :
    (Builtin.append_ #[38, 3] ty #[.slice (some ⟨g, 0, none⟩) n cap, .int .i64 m]).run Try.prog w = .ok (.slice (some ⟨g, 0, none⟩) (n + m) cap) (w.setCells g n (u8s (List.replicate m 0))) := by
  obtain ⟨i, hi, hz, hs, hbb⟩ := Go.info_parts infoB
  have hw : IntKind.i64.wrap (m : Int) = m := by rw [IntKind.wrap_i64]; omega
  have hneg : ¬ ((m : Int) < 0) := by omega
  have h48i : ¬ (281474976710656 < (m : Int) * (i.bytes : Int)) := by rw [hbb]; omega
  have hst := run_storeCells_cells (P := Try.prog) g n (u8s (List.replicate m 0)) 0 w (by simpa [u8s_length] using hc) (by simpa [u8s_length] using hf) (u8s_one _)
  simp only [Nat.add_zero] at hst
  by_cases h0 : m = 0
  · subst h0
    have hw0 : IntKind.i64.wrap 0 = 0 := by decide
    have hroom0 : n ≤ cap := by omega
    simp [hw0, hroom0, Builtin.append_, run_underlying Try.underlying38, run_underlying Try.underlying3, sizeOf, typeInfo, zeroValue, hi, hz, hs, asInt, asIntOf, hw, hneg, h48i, hroom, storeCells, u8s, World.setCells]
  · have hz1 := zeros_one m
    have e : (⟨g, 0, none⟩ : Addr).add (n * 1) = ⟨g, n, none⟩ := by rw [Addr.add_mid]; simp
    simp [Builtin.append_, run_underlying Try.underlying38, run_underlying Try.underlying3, sizeOf, typeInfo, zeroValue, hi, hz, hs, h0, asInt, asIntOf, hw, hneg, h48i, hroom, hz1, Addr.add_lit, hst]
theorem wpL_appZ (hgd : op.guard = none) (s x : Operand) (ho : op.op = .call { callee := .builtin .append, args := #[s, x], argTypes := #[38, 3] }) {w0 : World} {v : Value} {l : List UInt8} (hown : OwB w0 w v l) (hsome : v.ownBlock ≠ none) (hv : a.eval s = v)
    (m : Nat) (hx : a.eval x = .int .i64 (m : Int)) (n : Nat) (hn : l.length + m = n) (r : List UInt8) (hr : l ++ List.replicate m 0 = r) (hb : n ≤ 140737488355328)
    (h : ∀ a' cap' w', Hid (OwB w0 w' (.slice a' n cap') r) → Hid (Fr (fun k => v.ownBlock = some k) w w') → wpList Try.prog ops Q rest (a.put op.dst (.slice a' n cap')) w') : wpList Try.prog ops Q (op :: rest) a w := by
  subst hn; subst hr
  obtain ⟨hsl, hrow, hfr⟩ := hown
  rcases hrow.2 with ⟨rfl, _⟩ | ⟨g, cap, cur, rfl, hbg, hg, hnc, hcm, hcs, htake⟩
  · exact absurd rfl hsome
  have hB : Blk w g 5 cur.toList := by simpa [Blk] using hg
  have hcs1 : cur.toList.length = cap := by simpa using hcs
  have hrl : (l ++ List.replicate m (0 : UInt8)).length = l.length + m := by simp
  refine wpList_plain hgd fun K hK => ?_
  by_cases hroom : l.length + m ≤ cap
  · have hth := hB.there l.length m (by omega)
    have hrun := run_append_room_zeros (w := w) op.type g l.length cap m hroom (by omega) (fun j hj => (hth j hj).1) (fun j hj => (hth j hj).2)
    unfold Oper.wp execOp
    simp only [ho, resolve, invoke, builtin, Sem.run_bind, Sem.run_pure, Result.andThen_ok, List.map_toArray, List.map_cons, List.map_nil, hv, hx, hrun]
    have hf1 : Fr (fun k => (Value.slice (some ⟨g, 0, none⟩) l.length cap).ownBlock = some k) w (w.setCells g l.length (u8s (List.replicate m 0))) := (Fr.refl _ w).setCells g l.length _ (.inl rfl)
    refine hK _ _ (h _ _ _ (hid ⟨⟨_, _, by rw [hrl]⟩, ?_, hfr.trans hf1 fun k e => .inr (by cases e; exact hbg)⟩) (hid hf1))
    have hs := hB.sets (u8s (List.replicate m 0)) l.length (by rw [u8s_length, List.length_replicate]; omega)
    rw [hrl]
    refine hs.own hbg (by rw [u8s_length, hrl, Nat.mul_one]) hroom hcm (by rw [spl_length _ _ _ (by rw [u8s_length, List.length_replicate]; omega), hcs1, Nat.mul_one]) ?_
    have ht : cur.toList.take l.length = u8s l := by simpa using htake
    unfold spl
    rw [ht, Nat.mul_one, u8s_append, List.take_left' (by simp [u8s_length])]
  · obtain ⟨i, hi, hz, hs, hbb⟩ := Go.info_parts infoB
    have hold := run_firstCells_some (P := Try.prog) w.drew i.size l.length ⟨g, 0, none⟩ l.length cap (u8s l) (by rw [u8s_length, hs, Nat.mul_one]) (hrow.cells (g := g) rfl)
    have hrun := Lib.run_append_grow_zeros (P := Try.prog) w 38 3 op.type 5 i (.int .u8 0) .i64 .i64 Try.underlying38 Try.underlying3 hi hz (some ⟨g, 0, none⟩) l.length cap (u8s l) hold m (by omega) (by omega) (by omega) (by omega) (by rw [hbb]; omega) (growslice_fits (by omega) (by rw [hbb]; omega))
    have hg1 := grownCap_ge w (l.length + m) cap 5
    have hg2 := grownCap_le_maxLen w (l.length + m) cap 5 (by unfold maxLen; omega)
    unfold Oper.wp execOp
    simp only [ho, resolve, invoke, builtin, Sem.run_bind, Sem.run_pure, Result.andThen_ok, List.map_toArray, List.map_cons, List.map_nil, hv, hx, hrun]
    refine hK _ _ (h _ _ _ (hid ⟨⟨_, _, by rw [hrl]⟩, ?_, hfr.trans' (((Fr.refl No w).drew).alloc _)⟩) (hid (((Fr.refl _ w).drew).alloc _)))
    refine ⟨by simp [u8s_length], .inr ⟨w.heap.size, _, _, by rw [hrl], hfr.size, heap_alloc_new w.drew _, by rw [hrl]; exact hg1, hg2, ?_, ?_⟩⟩
    · have h1 : (Builtin.zeroCells (Value.int .u8 0).cells m).size = m := by rw [← Array.length_toList, zeros_one, u8s_length, List.length_replicate]
      have h2 : (Builtin.zeroCells (Value.int .u8 0).cells (grownCap w (l.length + m) cap 5 - (l.length + m))).size = grownCap w (l.length + m) cap 5 - (l.length + m) := by rw [← Array.length_toList, zeros_one, u8s_length, List.length_replicate]
      simp only [Array.size_append, List.size_toArray, u8s_length, h1, h2]
      omega
    · rw [hrl, u8s_append]
      simp only [Array.toList_append, zeros_one]
      rw [List.take_left' (by simp [u8s_length])]
/-- A guarded operation that is wanted and yields a value. -/
theorem wpL_val {P : Program} (hw : Region.wanted op (yielded ops a.tmps) = true) (v : Value) (hy : (execOp a.eval op).run P w = .ok (.value v) w) (h : wpList P ops Q rest (a.put op.dst v) w) : wpList P ops Q (op :: rest) a w := by
  unfold wpList
  rw [if_pos hw]
  left
  unfold Oper.wp
  rw [hy]
  exact h
end
end Go.Proofs.Ytakmeipmngeilaa.K

set_option linter.unusedVariables false
set_option linter.unusedSimpArgs false
set_option linter.unusedSectionVars false
namespace Go.Proofs.Ytakmeipmngeilaa.SE
set_option maxRecDepth 100000
open Go.RowKit K
variable [SH.Tab]

theorem eight_take (n : Nat) {m : Nat} (h : m < 8) : (eight n).take m ++ [SH.be8 n m] = (eight n).take (m + 1) := by
  rw [List.take_succ_eq_append_getElem (by rw [eight_length]; exact h)]
  simp [eight]
set_option maxHeartbeats 1000000 in
theorem reight_any (n : Nat) (hn : n < 18446744073709551616) (w : World) : Calls Try.prog 24 #[.int .u64 (n : Int)] w fun e w' => ∃ v, e = .returned v ∧ OwB w w' v (eight n) := by
  obtain ⟨i5, hi5, hz5, hs5, hb5⟩ := Go.info_parts infoB
  have I5 := hid hi5; have Z5 := hid hz5; have S5 := hid hs5; have B5 := hid hb5
  clear hi5 hz5 hs5 hb5 hn
  go_enter Try.func24, Try.ntmps24
  go_wp2_with fail
  have HG := hid (show OwB w w (.slice none 0 0) ((eight n).take 0) from owB_nil (Fr.refl No w))
  go_loopw [3, 4] (fun x i wr => ∃ (m : Nat) (a' : Option Addr) (c' : Nat), m ≤ 8 ∧ x = .slice a' m c' ∧ i = .int .i64 (7 - (m : Int)) ∧ Hid (OwB w wr (.slice a' m c') ((eight n).take m))) (fun _ i _ => (intOf i + 1).toNat)
  case atStart => exact ⟨0, none, 0, by omega, rfl, rfl, HG⟩
  case round =>
    clear HG
    obtain ⟨m, a7, c7, hm, rfl, rfl, HG⟩ := hrel
    by_cases hlt : m < 8
    · obtain ⟨k, hk⟩ : ∃ k : Nat, 7 - m = k := ⟨_, rfl⟩
      have hk1 : (7 : Int) - (m : Int) = (k : Int) := by omega
      obtain ⟨q, hq⟩ : ∃ q : Nat, 8 * k = q := ⟨_, rfl⟩
      have hq1 : (8 : Int) * (k : Int) = (q : Int) := by omega
      have hq56 : (q : Int) ≤ 56 := by omega
      have hk7 : (k : Int) ≤ 7 := by omega
      have hv : ((n : Int) / 2 ^ q % 256) = (((SH.be8 n m).toNat : Nat) : Int) := by
        unfold SH.be8
        rw [show 8 * (7 - m) = q by omega, UInt8.toNat_ofNat', Nat.mod_mod]
        simp
      obtain ⟨x, hx⟩ : ∃ x, SH.be8 n m = x := ⟨_, rfl⟩
      rw [hx] at hv
      have HX := hid hx; have HLT := hid hlt; have HK := hid hk
      rw [hk1]
      have HK1 := hid hk1
      have HV := hid hv
      clear hx hlt hk hq hk1
      go_wp2_with (first
        | ((with_reducible show wpList _ _ _ (⟨_, .buildSlice 38 _ _, _, _, _, _⟩ :: _) _ _); refine wpL_buildOne rfl 38 5 _ rfl i5 _ Try.underlying38 I5.out Z5.out (by rw [S5.out]; decide) (by rw [S5.out]; decide) (.int .u8 (x.toNat : Int)) [.int .u8 (x.toNat : Int)] (by first | rfl | exact congrArg (Value.int .u8) HV.out) rfl (by rw [S5.out]; rfl) ?_; intro w4 HB4 HF4 HS4; have HO4 := hid (HG.out.no HF4.out))
        | ((with_reducible show wpList _ _ _ (⟨_, .call { callee := .builtin .append, args := _, argTypes := _ }, _, _, _, _⟩ :: _) _ _); refine wpL_appB rfl _ _ rfl HO4.out rfl _ 1 1 [x] rfl rfl (one_src HB4.out) (m + 1) (by rw [List.length_take, eight_length]; have := HLT.out; omega) ((eight n).take (m + 1)) (by rw [← HX.out]; exact eight_take n HLT.out) (by omega) ?_; intro a8 c8 w8 HO8 HG8 HA8)
        | fail)
      go_roundw
      case rel => exact ⟨m + 1, a8, c8, by have := HLT.out; omega, rfl, by have := HK1.out; exact congrArg (Value.int .i64) (by omega), HO8⟩
      case measure => simp [intOf]
    · obtain rfl : m = 8 := by omega
      have hO := HG.out
      rw [List.take_of_length_le (by rw [eight_length]; exact Nat.le_refl _)] at hO
      have HO := hid hO
      clear hO HG
      go_wp2_with fail
      go_ret
      exact ⟨_, rfl, HO.out⟩
/-- What was sealed: a tenant, a nonce, a text. -/
structure Use where
  t : Nat
  n : Nat
  p : S
def Use.cells (u : Use) : List Value := [.int .i64 (u.t : Int), .int .u64 (u.n : Int), .string u.p]
def Use.val (u : Use) : Value := .agg u.cells.toArray
def Use.form (u : Use) : List UInt8 := SE.form (UInt8.ofNat u.t) (eight u.n) u.p.size
theorem own_some {w1 w' : World} {a : Option Addr} {k c : Nat} {l : List UInt8} (h : OwB w1 w' (.slice a k c) l) (hl : 0 < l.length) : (Value.slice a k c).ownBlock ≠ none := by
  rcases h.2.1.2 with ⟨_, h0⟩ | ⟨g, cap, cur, hv, _⟩
  · omega
  · rw [hv]; simp [Value.ownBlock]
set_option maxHeartbeats 1000000 in
theorem rform_any (u : Use) (ht : u.t ≤ 16) (hn : u.n < 18446744073709551616) (hp : u.p.size ≤ 200) (w : World) : Calls Try.prog 29 #[u.val] w fun e w' => e = .returned (.string (sb u.form)) ∧ Fr No w w' := by
  obtain ⟨i5, hi5, hz5, hs5, hb5⟩ := Go.info_parts infoB
  have I5 := hid hi5; have Z5 := hid hz5; have S5 := hid hs5; have B5 := hid hb5
  have HT := hid ht; have HN := hid hn; have HP := hid hp
  have htw : (u.t : Int) % 256 = (u.t : Int) := by omega
  have htt : (((UInt8.ofNat u.t).toNat : Nat) : Int) = (u.t : Int) := by rw [UInt8.toNat_ofNat', Nat.mod_eq_of_lt (by omega)]
  have HTT := hid htt
  have hpi : (u.p.size : Int) ≤ 200 := by omega
  clear hi5 hz5 hs5 hb5 ht hn hp htt
  go_enter Try.func29, Try.ntmps29
  go_wp2_with (first
    | ((with_reducible show wpList _ _ _ (⟨_, .box 70 _, _, _, _, _⟩ :: _) _ _); refine wpL_box rfl _ _ rfl u.val rfl u.cells rfl ?_; intro w1 HB1 HF1 HS1; have x0 : w1.cell? ⟨w.heap.size, 0, none⟩ = some (.int .i64 (u.t : Int)) := HB1.out.cell 0; have x1 : w1.cell? ⟨w.heap.size, 1, none⟩ = some (.int .u64 (u.n : Int)) := HB1.out.cell 1; have x2 : w1.cell? ⟨w.heap.size, 2, none⟩ = some (.string u.p) := HB1.out.cell 2)
    | fail)
  refine (reight_any u.n HN.out _).mono ?_
  rintro e w2 ⟨v2, rfl, hO2⟩
  have y0 := hO2.fr.cell x0 id
  have y2 := hO2.fr.cell x2 id
  have hf2 := hO2.fr
  obtain ⟨⟨a2, c2, rfl⟩, hrow2, -⟩ := hO2
  have hO2 : OwB w1 w2 (.slice a2 (eight u.n).length c2) (eight u.n) := ⟨⟨_, _, rfl⟩, hrow2, hf2⟩
  obtain ⟨a2', c2', hv2, -, hg2⟩ := own_form hrow2
  obtain ⟨g2, rfl⟩ : ∃ g, a2 = some ⟨g, 0, none⟩ := by
    obtain ⟨g, hg⟩ := hg2 (by rw [eight_length]; decide)
    cases hv2
    exact ⟨g, hg⟩
  have hge : w1.heap.size ≤ g2 := hO2.ge g2 rfl
  have HGE := hid (show w.heap.size < g2 by have := HB1.out.lt; omega)
  rw [eight_length] at hO2 ⊢
  have HO2 := hid hO2
  have HF2 := hid HF1.out
  have HS1' := hid (show w.heap.size < w1.heap.size from HB1.out.lt)
  clear hrow2 hf2 hO2 hv2 hg2 hge HB1 HF1 HS1 x0 x1 x2
  go_wp2_with (first
    | ((with_reducible show wpList _ _ _ (⟨_, .call { callee := .builtin .append, args := _, argTypes := _ }, _, _, _, _⟩ :: _) _ _); refine wpL_appZ rfl _ _ rfl HO2.out (by simp [Value.ownBlock]) rfl u.p.size rfl (8 + u.p.size) (by rw [eight_length]) _ rfl (by have := HP.out; omega) ?_; intro a3 c3 w3 HO3 HF3; have z0 := HF3.out.cell y0 (fun e => by have e' := Option.some.inj e; have := HGE.out; simp at e'; omega))
    | ((with_reducible show wpList _ _ _ (⟨_, .buildSlice 38 _ _, _, _, _, _⟩ :: _) _ _); refine wpL_buildOne rfl 38 5 _ rfl i5 _ Try.underlying38 I5.out Z5.out (by rw [S5.out]; decide) (by rw [S5.out]; decide) (.int .u8 ((UInt8.ofNat u.t).toNat : Int)) [.int .u8 ((UInt8.ofNat u.t).toNat : Int)] (congrArg (Value.int .u8) HTT.out.symm) rfl (by rw [S5.out]; rfl) ?_; intro w4 HB4 HF4 HS4; have HO4 := hid (HO3.out.no HF4.out))
    | ((with_reducible show wpList _ _ _ (⟨_, .call { callee := .builtin .append, args := _, argTypes := _ }, _, _, _, _⟩ :: _) _ _); refine wpL_appB rfl _ _ rfl HO4.out rfl _ 1 1 [UInt8.ofNat u.t] rfl rfl (one_src HB4.out) (8 + u.p.size + 1) (by rw [List.length_append, eight_length, List.length_replicate]) _ rfl (by have := HP.out; omega) ?_; intro a5 c5 w5 HO5 HG5 HA5)
    | ((with_reducible show wpList _ _ _ (⟨_, .call { callee := .builtin .append, args := _, argTypes := _ }, _, _, _, _⟩ :: _) _ _); refine wpL_appZ rfl _ _ rfl HO5.out (own_some HO5.out (by rw [List.length_append]; simp)) rfl 15 rfl (8 + u.p.size + 1 + 15) (by simp [eight_length]; omega) u.form (by unfold Use.form SE.form; simp) (by have := HP.out; omega) ?_; intro a6 c6 w6 HO6 HF6; have HBI := hid HO6.out.bytes)
    | ((with_reducible show wpList _ _ _ (⟨_, .convert _ 9 _, _, _, _, _⟩ :: _) _ _); refine wpL_stringS rfl _ rfl _ _ u.form rfl HBI.out ?_)
    | fail)
  go_ret
  exact ⟨rfl, HF2.out.trans' HO6.out.fr⟩
end Go.Proofs.Ytakmeipmngeilaa.SE

set_option linter.unusedVariables false
set_option linter.unusedSimpArgs false
set_option linter.unusedSectionVars false
namespace Go.Proofs.Ytakmeipmngeilaa.SE
set_option maxRecDepth 100000
open Go.RowKit K
variable [SH.Tab]

def ucs (us : List Use) : List Value := us.flatMap Use.cells
theorem ucs_length (us : List Use) : (ucs us).length = us.length * 3 := by
  induction us with
  | nil => rfl
  | cons u r ih =>
    have e : ucs (u :: r) = u.cells ++ ucs r := rfl
    rw [e, List.length_append, ih]
    have : u.cells.length = 3 := rfl
    simp [this]; omega
theorem ucs_at : ∀ (us : List Use) {j : Nat} {u : Use}, us[j]? = some u → ∀ k, k < 3 → (ucs us)[j * 3 + k]? = u.cells[k]?
  | x :: r, 0, u, h, k, hk => by
    cases h
    have e : ucs (x :: r) = x.cells ++ ucs r := rfl
    rw [e, Nat.zero_mul, Nat.zero_add, List.getElem?_append_left (by show k < 3; exact hk)]
  | x :: r, j + 1, u, h, k, hk => by
    have e : ucs (x :: r) = x.cells ++ ucs r := rfl
    rw [e, List.getElem?_append_right (by show 3 ≤ _; omega), show (j + 1) * 3 + k - x.cells.length = j * 3 + k by show (j + 1) * 3 + k - 3 = _; omega]
    exact ucs_at r (by simpa using h) k hk
theorem ucs_snoc (us : List Use) (u : Use) : ucs us ++ u.cells = ucs (us ++ [u]) := by simp [ucs]
theorem infoUse : (Try.prog.info? 70).map (fun i => (i.zero, i.size, i.bytes)) = some (some (.agg #[.int .i64 0, .int .u64 0, .string ⟨#[]⟩]), 3, 32) := by kernel_rfl
theorem infoUse3 : (Try.prog.info? 70).map (·.size) = some 3 := by kernel_rfl
theorem infoUses : (Try.prog.info? 45).map (·.size) = some 1 := by kernel_rfl
/-- The document's ideal sealer at block r: n tenants, the uses us; made since W. -/
def DocAt (W w : World) (r n : Nat) (us : List Use) : Prop :=
  ∃ v, Blk w r 47 [.int .i64 (n : Int), v] ∧ w.ownsRow W.heap.size 70 3 v us.length (ucs us) ∧ W.heap.size ≤ r ∧ ∀ g, v.ownBlock = some g → g ≠ r
theorem DocAt.fr {W w w' : World} {r n : Nat} {us : List Use} {D : Nat → Prop} (h : DocAt W w r n us) (hf : Fr D w w') (hd : ∀ k, W.heap.size ≤ k → k < w.heap.size → (∃ c t fz, w.heap[k]? = some (.cells c t fz)) → ¬ D k) : DocAt W w' r n us := by
  obtain ⟨v, h1, h2, h3, h4⟩ := h
  refine ⟨v, h1.fr hf (hd r h3 h1.lt ⟨_, _, _, h1⟩), own_fr h2 hf (fun k hk => ?_), h3, h4⟩
  rcases h2.2 with ⟨rfl, _⟩ | ⟨g, cap, cur, rfl, hb, hg, _⟩
  · cases hk
  · cases hk
    exact hd g hb (Array.getElem?_eq_some_iff.1 hg).1 ⟨_, _, _, hg⟩
theorem DocAt.no {W w w' : World} {r n : Nat} {us : List Use} (h : DocAt W w r n us) (hf : Fr No w w') : DocAt W w' r n us := h.fr hf fun _ _ _ _ e => e
/-- What the document's Seal tells. -/
def isUse (i nn : Nat) (u : Use) : Bool := decide (u.t = i ∧ u.n = nn)
def rsealL (us : List Use) (n : Nat) (i : Int) (nn : Nat) (p : S) : List UInt8 × Nat :=
  if inside i n = false then ([], 81) else if 200 < p.size then ([], 2) else if us.any (isUse i.toNat nn) then ([], 80) else ((⟨i.toNat, nn, p⟩ : Use).form, 0)
def rnext (us : List Use) (n : Nat) (i : Int) (nn : Nat) (p : S) : List Use := if (rsealL us n i nn p).2 = 0 then us ++ [⟨i.toNat, nn, p⟩] else us
def fits (s : List UInt8) (i : Nat) (u : Use) : Bool := decide (u.t = i ∧ u.form = s)
/-- What the document's Open tells. -/
def ropenL (us : List Use) (n : Nat) (i : Int) (s : List UInt8) : List UInt8 × Nat :=
  if inside i n = false then ([], 81) else match us.find? (fits s i.toNat) with
    | some u => (u.p.data.toList, 0)
    | none => ([], 80)
/-- Uses as they may be. -/
def Uses (n : Nat) (us : List Use) : Prop := ∀ u ∈ us, u.t < n ∧ u.n < 18446744073709551616 ∧ u.p.size ≤ 200
theorem doc_cells {W w : World} {r n : Nat} {us : List Use} (h : DocAt W w r n us) : ∃ a c, w.cell? ⟨r, 1, none⟩ = some (.slice a us.length c) ∧ w.cell? ⟨r, 0, none⟩ = some (.int .i64 (n : Int)) ∧
    ∀ (j : Nat) (u : Use), us[j]? = some u → ∃ g, a = some ⟨g, 0, none⟩ ∧ w.rangeAt g (j * 3) u.cells := by
  obtain ⟨v, h1, h2, h3, h4⟩ := h
  rcases h2.2 with ⟨rfl, h0⟩ | ⟨g, cap, cur, rfl, hb, hg, -⟩
  · refine ⟨none, 0, ?_, h1.cell 0, fun j u hu => ?_⟩
    · rw [h0]; exact h1.cell 1
    · have := (List.getElem?_eq_some_iff.1 hu).1; omega
  · refine ⟨some ⟨g, 0, none⟩, cap, h1.cell 1, h1.cell 0, fun j u hu => ⟨g, rfl, fun k x hk => ?_⟩⟩
    have hk3 : k < 3 := (List.getElem?_eq_some_iff.1 hk).1
    have := h2.cells (g := g) rfl (j * 3 + k) x (by rw [ucs_at us hu k hk3]; exact hk)
    rwa [Addr.add_mid, Nat.zero_add] at this
theorem zeroUse (w : World) : (zeroValue 70).run Try.prog w = .ok (.agg #[.int .i64 0, .int .u64 0, .string ⟨#[]⟩]) w := by kernel_rfl
theorem buildUse (t n : Int) (p : S) (w : World) : (Instr.build 70 #[(0, .int .i64 t), (1, .int .u64 n), (2, .string p)]).run Try.prog w = .ok (.agg #[.int .i64 t, .int .u64 n, .string p]) w := by kernel_rfl
theorem rseal_out (W w : World) (r n : Nat) (us : List Use) (h : DocAt W w r n us) (i : Int) (nn : Nat) (p : S) (ho : inside i n = false) :
    Calls Try.prog 18 #[.pointer (some ⟨r, 0, none⟩), .int .i64 i, .int .u64 (nn : Int), .string p] w fun e w' => e = told [] 81 ∧ w' = w := by
  obtain ⟨a, c, c1, c0, -⟩ := doc_cells h
  clear h
  by_cases h0 : i < 0
  · go_enter Try.func18, Try.ntmps18
    go_wp2_with fail
    go_ret2
    exact ⟨rfl, rfl⟩
  · have h0' : 0 ≤ i := by omega
    have h1 : (n : Int) ≤ i := by have := of_decide_eq_false ho; omega
    clear h0 ho
    go_enter Try.func18, Try.ntmps18
    go_wp2_with fail
    go_ret2
    exact ⟨rfl, rfl⟩
theorem rseal_long (W w : World) (r n : Nat) (us : List Use) (h : DocAt W w r n us) (i : Int) (nn : Nat) (p : S) (ho : inside i n = true) (hp : 200 < p.size) :
    Calls Try.prog 18 #[.pointer (some ⟨r, 0, none⟩), .int .i64 i, .int .u64 (nn : Int), .string p] w fun e w' => e = told [] 2 ∧ w' = w := by
  obtain ⟨a, c, c1, c0, -⟩ := doc_cells h
  have h1 := of_decide_eq_true ho
  have h0' : 0 ≤ i := h1.1
  have h2' : i < (n : Int) := h1.2
  have hpi : (200 : Int) < (p.size : Int) := by omega
  clear h ho h1 hp
  go_enter Try.func18, Try.ntmps18
  go_wp2_with fail
  go_ret2
  exact ⟨rfl, rfl⟩
/-- Block k holds cells of type t. -/
def Ty (w : World) (k : Nat) (t : TypeId) : Prop := ∃ c fz, w.heap[k]? = some (.cells c t fz)
/-- What the document's Seal may turn. -/
def DD (W w : World) : Nat → Prop := fun k => W.heap.size ≤ k ∧ (Ty w k 47 ∨ Ty w k 70)
theorem any_of {us : List Use} {f : Use → Bool} {j : Nat} {u : Use} (h : us[j]? = some u) (hf : f u = true) : us.any f = true := by
  rw [List.any_eq_true]
  exact ⟨u, List.mem_of_getElem? h, hf⟩
theorem any_none {us : List Use} {f : Use → Bool} (h : ∀ (j : Nat) (u : Use), us[j]? = some u → f u = false) : us.any f = false := by
  rw [List.any_eq_false]
  intro u hu
  obtain ⟨j, hj⟩ := List.getElem?_of_mem hu
  rw [h j u hj]
  decide
def RsPost (W w : World) (r n : Nat) (us : List Use) (i : Int) (nn : Nat) (p : S) (e : Ending) (w' : World) : Prop :=
  e = told (rsealL us n i nn p).1 (rsealL us n i nn p).2 ∧ DocAt W w' r n (rnext us n i nn p) ∧ Fr (DD W w) w w'
set_option maxHeartbeats 8000000 in
theorem rseal_in (W w : World) (r n : Nat) (us : List Use) (h : DocAt W w r n us) (hW : W.heap.size ≤ w.heap.size) (k nn : Nat) (p : S) (hk : k < n) (hn : n ≤ 16) (hp : p.size ≤ 200) (hnn : nn < 18446744073709551616) (hus : us.length ≤ 1000) :
    Calls Try.prog 18 #[.pointer (some ⟨r, 0, none⟩), .int .i64 (k : Int), .int .u64 (nn : Int), .string p] w (RsPost W w r n us (k : Int) nn p) := by
  obtain ⟨i5, hi5, hz5, hs5, hb5⟩ := Go.info_parts infoUse
  have I5 := hid hi5; have Z5 := hid hz5; have S5 := hid hs5; have B5 := hid hb5
  obtain ⟨a, c, c1, c0, hcs⟩ := doc_cells h
  have hin : inside (k : Int) n = true := decide_eq_true (by omega)
  have hrs : rsealL us n (k : Int) nn p = (if us.any (isUse k nn) then ([], 80) else ((⟨k, nn, p⟩ : Use).form, 0)) := by
    unfold rsealL
    rw [if_neg (by rw [hin]; decide), if_neg (by omega)]
    rfl
  have HRS := hid hrs; have HH := hid h; have HCS := hid hcs; have HK := hid hk; have HN := hid hn; have HNN := hid hnn; have HP := hid hp; have HUS := hid hus; have HWW := hid hW
  have hki : (k : Int) < (n : Int) := by omega
  have hni : (n : Int) ≤ 16 := by omega
  have hpi : (p.size : Int) ≤ 200 := by omega
  have hui : (us.length : Int) ≤ 1000 := by omega
  clear hi5 hz5 hs5 hb5 hin hrs h hcs hk hn hp hnn hus hW
  go_enter Try.func18, Try.ntmps18
  go_wp2_with fail
  have HR := hid (show (∀ (j : Nat) (u : Use), j < 0 → us[j]? = some u → isUse k nn u = false) from fun j u hj => by omega)
  go_loopw [10] (fun i wr => ∃ m : Nat, m ≤ us.length ∧ i = .int .i64 m ∧ wr = w ∧ Hid (∀ (j : Nat) (u : Use), j < m → us[j]? = some u → isUse k nn u = false)) (fun i _ => us.length - (intOf i).toNat)
  case atStart => exact ⟨0, by omega, rfl, rfl, HR⟩
  case round =>
    clear HR
    obtain ⟨m, hm, rfl, rfl, HR⟩ := hrel
    by_cases hlt : m < us.length
    · have hlti : (m : Int) < (us.length : Int) := by omega
      obtain ⟨u, hu⟩ : ∃ u, us[m]? = some u := ⟨_, List.getElem?_eq_getElem hlt⟩
      obtain ⟨g, rfl, hrow⟩ := HCS.out m u hu
      have ct : wr.cell? ⟨g, m * 3, none⟩ = some (.int .i64 (u.t : Int)) := by have := hrow 0 _ rfl; simpa using this
      have cn : wr.cell? ⟨g, m * 3 + 1, none⟩ = some (.int .u64 (u.n : Int)) := hrow 1 _ rfl
      have HU := hid hu; have HLT := hid hlt
      clear hrow hu hlt
      by_cases ht : u.t = k
      · have hti : ((u.t : Int) == (k : Int)) = true := by rw [beq_iff_eq]; omega
        by_cases hnu : u.n = nn
        · have hnui : ((u.n : Int) == (nn : Int)) = true := by rw [beq_iff_eq]; omega
          have HA := hid (any_of (f := isUse k nn) HU.out (decide_eq_true ⟨ht, hnu⟩))
          clear ht hnu
          go_wp2_with fail
          go_ret2
          have he : rsealL us n (k : Int) nn p = ([], 80) := by rw [HRS.out, if_pos HA.out]
          refine ⟨by rw [he]; rfl, ?_, Fr.refl _ _⟩
          unfold rnext
          rw [he, if_neg (show ¬ ((80 : Nat) = 0) by decide)]
          exact HH.out
        · have hnui : ((u.n : Int) == (nn : Int)) = false := by rw [beq_eq_false_iff_ne]; omega
          have HA := hid (show isUse k nn u = false from decide_eq_false fun e => hnu e.2)
          clear ht hnu
          go_wp2_with fail
          go_roundw
          case rel => exact ⟨m + 1, by have := HLT.out; omega, by go_num, trivial, hid fun j x hj hx => by
            by_cases hjm : j = m
            · subst hjm; rw [HU.out] at hx; cases hx; exact HA.out
            · exact HR.out j x (by omega) hx⟩
          case measure => simp [intOf]; have := HLT.out; omega
      · have hti : ((u.t : Int) == (k : Int)) = false := by rw [beq_eq_false_iff_ne]; omega
        have HA := hid (show isUse k nn u = false from decide_eq_false fun e => ht e.1)
        clear ht
        go_wp2_with fail
        go_roundw
        case rel => exact ⟨m + 1, by have := HLT.out; omega, by go_num, trivial, hid fun j x hj hx => by
            by_cases hjm : j = m
            · subst hjm; rw [HU.out] at hx; cases hx; exact HA.out
            · exact HR.out j x (by omega) hx⟩
        case measure => simp [intOf]; have := HLT.out; omega
    · obtain rfl : m = us.length := by omega
      have HA := hid (any_none (us := us) (f := isUse k nn) fun j u hj => HR.out j u (List.getElem?_eq_some_iff.1 hj).1 hj)
      clear hlt
      go_wp2_with (first
        | ((with_reducible show wpList _ _ _ (⟨_, .build 70 _, _, _, _, _⟩ :: _) _ _); refine wpL_build rfl _ [(0, .tmp 56), (1, .tmp 57), (2, .tmp 58)] rfl (.agg #[.int .i64 (k : Int), .int .u64 (nn : Int), .string p]) (buildUse _ _ _ _) ?_)
        | ((with_reducible show wpList _ _ _ (⟨_, .alloc 70, _, _, _, _⟩ :: _) _ _); refine wpL_alloc rfl _ rfl _ zeroUse [.int .i64 0, .int .u64 0, .string ⟨#[]⟩] rfl ?_; intro w2 HB2 HF2 HS2)
        | ((with_reducible show wpList _ _ _ (⟨_, .store 70 _ _, _, _, _, _⟩ :: _) _ _); refine wpL_store rfl _ _ _ rfl wr.heap.size 0 [.int .i64 (k : Int), .int .u64 (nn : Int), .string p] rfl rfl _ _ HB2.out (Nat.le_refl 3) infoUse3 (fun v hv => by simp at hv; rcases hv with rfl | rfl | rfl <;> rfl) ?_; intro w3 HB3 HF3 HS3)
        | fail)
      obtain ⟨bu, hbu⟩ : ∃ b, wr.heap.size = b := ⟨_, rfl⟩
      have hB3 := HB3.out
      rw [spl_whole _ _ (by rfl), hbu] at hB3
      have HB3' := hid hB3
      have hF3 : Fr No wr w3 := HF2.out.trans HF3.out fun j e => .inr (Nat.le_of_eq (by have : j = wr.heap.size := e; exact this.symm))
      have HF3' := hid hF3
      obtain ⟨v1, q1', q2', q3, q4⟩ := HH.out
      have HLow := hid (show r < wr.heap.size ∧ ∀ g, v1.ownBlock = some g → g < wr.heap.size from ⟨q1'.lt, fun g hg => (q2'.lt g hg).2⟩)
      have q1 := q1'.fr hF3 id
      have q2 := own_fr q2' hF3 (fun _ _ e => e)
      have hBr := q1
      have HQ1 := hid q1; have HQ2 := hid q2; have HQ3 := hid q3; have HQ4 := hid q4
      have hv1 : w3.cell? ⟨r, 1, none⟩ = some v1 := q1.cell 1
      have hru : w3.rangeAt bu 0 (⟨k, nn, p⟩ : Use).cells := hB3.range 0 _ (by rfl)
      have HV1 := hid hv1; have HRU := hid hru
      rw [hbu]
      have HBU := hid hbu
      clear HB2 HF2 HS2 HB3 HF3 HS3 hB3 hF3 q1 q2 q1' q2' q3 q4 hBr hv1 hru hbu c1 c0
      have hold : Facts.hold [(4, fun w' => w'.cell? ⟨r, 1, none⟩ = some v1), (5, fun w' => w'.rangeAt bu 0 (⟨k, nn, p⟩ : Use).cells)] w3.drew := Facts.cons_hold HV1.out (Facts.cons_hold HRU.out (Facts.nil_hold _))
      refine wpD_region hold (by kernel_rfl) 11 rfl ?_
      (refine wpD_plain 0 (v := ?_) rfl (by kernel_rfl) (by kernel_rfl) (by kernel_rfl) (fun _ _ _ h => h) (by rfl) ?_ (by assumption) ?_; rotate_left; (intro _w; go_simp; try with_reducible rfl); simp only [Act.put, List.setIfInBounds_toArray, List.set_cons_zero, List.set_cons_succ])
      (refine wpD_plain 1 (v := ?_) rfl (by kernel_rfl) (by kernel_rfl) (by kernel_rfl) (fun _ _ _ h => h) (by rfl) ?_ (by assumption) ?_; rotate_left; (intro _w; go_simp; try with_reducible rfl); simp only [Act.put, List.setIfInBounds_toArray, List.set_cons_zero, List.set_cons_succ])
      (refine wpD_plain 2 (v := ?_) rfl (by kernel_rfl) (by kernel_rfl) (by kernel_rfl) (fun _ _ _ h => h) (by rfl) ?_ (by assumption) ?_; rotate_left; (intro _w; go_simp; try with_reducible rfl); simp only [Act.put, List.setIfInBounds_toArray, List.set_cons_zero, List.set_cons_succ])
      (refine wpD_plain 3 (v := ?_) rfl (by kernel_rfl) (by kernel_rfl) (by kernel_rfl) (fun _ _ _ h => h) (by rfl) ?_ (by assumption) ?_; rotate_left; (intro _w; go_simp; try with_reducible rfl); simp only [Act.put, List.setIfInBounds_toArray, List.set_cons_zero, List.set_cons_succ])
      (refine wpD_take 4 _ rfl (by kernel_rfl) (by kernel_rfl) (by kernel_rfl) (fun _ _ _ h => h) List.mem_cons_self (by rfl) (v := ?_) ?_ (by assumption) ?_; rotate_left; (intro _w _hw; go_simp; try with_reducible rfl); simp only [Act.put, List.setIfInBounds_toArray, List.set_cons_zero, List.set_cons_succ])
      (refine wpD_take 5 _ rfl (by kernel_rfl) (by kernel_rfl) (by kernel_rfl) (fun _ _ _ h => h) (List.mem_cons_of_mem _ List.mem_cons_self) (by rfl) (exec_load _ _ rfl bu 0 rfl _ _ rfl rfl infoUse3) (by assumption) ?_; simp only [Act.put, List.setIfInBounds_toArray, List.set_cons_zero, List.set_cons_succ])
      clear hold
      refine wpD_only 6 [(4, fun w' => w'.cell? ⟨r, 1, none⟩ = some v1)] rfl (by kernel_rfl) (by kernel_rfl) (by rfl) (fun K6 hK6 => ?_)
      refine wp_buildOne 45 70 _ rfl i5 _ Try.underlying45 I5.out Z5.out (by rw [S5.out]; decide) (by rw [S5.out]; decide) (⟨k, nn, p⟩ : Use).val (⟨k, nn, p⟩ : Use).cells rfl rfl (by rw [S5.out]; rfl) ?_
      intro w5 HB5 HF5 HS5
      obtain ⟨b5, hb5⟩ : ∃ b, w3.drew.heap.size = b := ⟨_, rfl⟩
      have HB5' := hid (show Blk w5 b5 70 (⟨k, nn, p⟩ : Use).cells by rw [← hb5]; exact HB5.out)
      have hF35 : Fr No w3 w5 := (Fr.refl No w3).drew.trans' HF5.out
      have HF35 := hid hF35
      refine hK6 _ _ (Facts.cons_hold (hF35.cell HV1.out id) (Facts.nil_hold _)) ?_
      rw [hb5]
      clear hK6 K6 HB5 HF5 HS5 hb5 hF35
      simp only [Act.put, List.setIfInBounds_toArray, List.set_cons_zero, List.set_cons_succ]
      refine wpD_only 7 [] rfl (by kernel_rfl) (by kernel_rfl) (by rfl) (fun K7 hK7 => ?_)
      have hown := own_fr HQ2.out HF35.out (fun _ _ e => e)
      refine wp_appendX _ _ 45 rfl W.heap.size 70 i5 _ 3 32 Try.underlying45 I5.out Z5.out S5.out B5.out rfl (by decide) v1 us.length (ucs us) rfl hown (some ⟨b5, 0, none⟩) 1 1 (⟨k, nn, p⟩ : Use).cells rfl rfl (.inr ⟨_, rfl, HB5'.out.news⟩) (fun v hv => by simp [Use.cells] at hv; rcases hv with rfl | rfl | rfl <;> rfl) (by have := HUS.out; unfold maxLen; omega) (by have := HUS.out; omega) (by have := HF3'.out.size; have := HF35.out.size; have := HWW.out; omega) ?_
      intro a6 c6 w6 HO6 HG6 HA6
      have hfx : Fr (fun j => v1.ownBlock = some j) w5 w6 := frGrown HG6.out
      have hrb : ¬ v1.ownBlock = some r := fun e => HQ4.out r e rfl
      have HBr := hid (show Blk w6 r 47 [.int .i64 (n : Int), v1] from (HQ1.out.fr HF35.out id).fr hfx hrb)
      have hvD : ∀ j, v1.ownBlock = some j → j < wr.heap.size → DD W wr j := fun j hj hlt => by
        refine ⟨own_low HQ2.out j hj, .inr ?_⟩
        rcases HQ2.out.2 with ⟨rfl, _⟩ | ⟨g, cap, cur, rfl, hb, hg, _⟩
        · cases hj
        · cases hj
          exact ⟨_, _, (HF3'.out.block _ hlt id).symm.trans hg⟩
      have HBu6 := hid (show Blk w6 bu 70 (⟨k, nn, p⟩ : Use).cells from (HB3'.out.fr HF35.out id).fr hfx (fun e => by have := HLow.out.2 bu e; have := HBU.out; omega))
      have HFW := hid (show Fr (DD W wr) wr w6 from (HF3'.out.no.trans' HF35.out.no).trans hfx (fun j e => by
        by_cases hlt : j < wr.heap.size
        · exact .inl (hvD j e hlt)
        · exact .inr (by omega)))
      have hO6 := HO6.out
      rw [ucs_snoc] at hO6
      have HGT : Hid (∀ g, (Value.slice a6 (us.length + 1) c6).ownBlock = some g → g ≠ r) := hid (fun g hg => by
        rcases HA6.out with h | h
        · rw [h] at hg; exact HQ4.out g hg
        · rw [h] at hg
          cases hg
          have := (HQ1.out.fr HF35.out id).lt; omega)
      refine hK7 _ _ (Facts.nil_hold _) ?_
      clear hK7 K7 hfx hrb hown HG6 HA6 HO6 hvD
      simp only [Act.put, List.setIfInBounds_toArray, List.set_cons_zero, List.set_cons_succ]
      have HO6 := hid hO6
      have hold := Facts.nil_hold w6
      (refine wpD_plain 8 (v := ?_) rfl (by kernel_rfl) (by kernel_rfl) (by kernel_rfl) (fun _ _ _ h => h) (by rfl) ?_ (by assumption) ?_; rotate_left; (intro _w; go_simp; try with_reducible rfl); simp only [Act.put, List.setIfInBounds_toArray, List.set_cons_zero, List.set_cons_succ])
      (refine wpD_plain 9 (v := ?_) rfl (by kernel_rfl) (by kernel_rfl) (by kernel_rfl) (fun _ _ _ h => h) (by rfl) ?_ (by assumption) ?_; rotate_left; (intro _w; go_simp; try with_reducible rfl); simp only [Act.put, List.setIfInBounds_toArray, List.set_cons_zero, List.set_cons_succ])
      refine wpD_only 10 [] rfl (by kernel_rfl) (by kernel_rfl) (by rfl) (fun K10 hK10 => ?_)
      refine wp_setV 45 _ _ rfl r 1 (.slice a6 (us.length + 1) c6) rfl rfl rfl rfl _ _ HBr.out (Nat.lt_succ_self 1) infoUses ?_
      intro w7 HB7 HF7 HS7
      refine hK10 _ _ (Facts.nil_hold _) ?_
      clear hK10 K10 hold hO6
      simp only [Act.put, List.setIfInBounds_toArray, List.set_cons_zero, List.set_cons_succ]
      refine wpD_done (by kernel_rfl) ?_ _
      have HBr3 := hid (HQ1.out)
      have HD7 := hid (show DocAt W w7 r n (us ++ [⟨k, nn, p⟩]) from ⟨.slice a6 (us.length + 1) c6, HB7.out, by
          have := own_fr HO6.out HF7.out (fun g hg e => HGT.out g hg e)
          rwa [List.length_append], HQ3.out, HGT.out⟩)
      have HF7' := hid (show Fr (DD W wr) wr w7 from HFW.out.trans HF7.out (fun j e => by
        have hj : j = r := e
        by_cases hlt : j < wr.heap.size
        · exact .inl ⟨by rw [hj]; exact HQ3.out, .inl ⟨_, _, by rw [hj]; exact (HF3'.out.block r (by omega) id).symm.trans HQ1.out⟩⟩
        · exact .inr (by omega)))
      have HB7u := hid (show Blk w7 bu 70 (⟨k, nn, p⟩ : Use).cells from HBu6.out.fr HF7.out (fun e => by have : bu = r := e; have := HLow.out.1; have := HBU.out; omega))
      clear HB7 HF7 HS7 HBr HBr3 HBu6 HFW HO6 HGT HV1 HRU HF35 HB5' HB3' HQ1 HQ2
      go_wp2_with (first
        | ((with_reducible show wpList _ _ _ (⟨_, .load 70 _, _, _, _, _⟩ :: _) _ _); refine wpL_load rfl _ _ rfl bu 0 rfl (⟨k, nn, p⟩ : Use).cells _ (HB7u.out.range 0 _ (by rfl)) Try.underlying70 rfl infoUse3 ?_)
        | fail)
      refine (rform_any ⟨k, nn, p⟩ (by show k ≤ 16; have := HK.out; have := HN.out; omega) HNN.out HP.out _).mono ?_
      rintro e w8 ⟨rfl, hf8⟩
      have HD8 := hid (HD7.out.no hf8)
      have HF8 := hid (HF7'.out.trans hf8 fun j e => e.elim)
      clear hf8 HB7u HD7 HF7'
      go_wp2_with fail
      go_ret2
      have he : rsealL us n (k : Int) nn p = ((⟨k, nn, p⟩ : Use).form, 0) := by rw [HRS.out, HA.out]; rfl
      refine ⟨by rw [he]; rfl, ?_, HF8.out⟩
      unfold rnext
      rw [he, if_pos rfl]
      exact HD8.out
end Go.Proofs.Ytakmeipmngeilaa.SE

set_option linter.unusedVariables false
set_option linter.unusedSimpArgs false
set_option linter.unusedSectionVars false
namespace Go.Proofs.Ytakmeipmngeilaa.SE
set_option maxRecDepth 100000
open Go.RowKit K
variable [SH.Tab]

theorem find_first {us : List Use} {f : Use → Bool} {m : Nat} {u : Use} (hu : us[m]? = some u) (hf : f u = true) (h : ∀ (j : Nat) (x : Use), j < m → us[j]? = some x → f x = false) : us.find? f = some u := by
  induction us generalizing m with
  | nil => cases hu
  | cons x r ih =>
    cases m with
    | zero => cases hu; simp [hf]
    | succ m =>
      have h0 := h 0 x (by omega) rfl
      rw [List.find?_cons_of_neg (by rw [h0]; decide)]
      exact ih (by simpa using hu) fun j y hj hy => h (j + 1) y (by omega) (by simpa using hy)
theorem find_none {us : List Use} {f : Use → Bool} (h : ∀ (j : Nat) (x : Use), us[j]? = some x → f x = false) : us.find? f = none := by
  rw [List.find?_eq_none]
  intro u hu
  obtain ⟨j, hj⟩ := List.getElem?_of_mem hu
  rw [h j u hj]
  decide
set_option maxHeartbeats 8000000 in
theorem ropenL_any (W w : World) (r n : Nat) (us : List Use) (h : DocAt W w r n us) (hn : n ≤ 16) (hus : us.length ≤ 1000) (hok : Uses n us) (i : Int) (hi : -9223372036854775808 ≤ i ∧ i ≤ 9223372036854775807) (s : S) :
    Calls Try.prog 20 #[.pointer (some ⟨r, 0, none⟩), .int .i64 i, .string s] w (Told w (ropenL us n i s.data.toList)) := by
  obtain ⟨a, c, c1, c0, hcs⟩ := doc_cells h
  have hni : (n : Int) ≤ 16 := by omega
  have hui : (us.length : Int) ≤ 1000 := by omega
  cases hin : inside i n with
  | false =>
    have he : ropenL us n i s.data.toList = ([], 81) := by unfold ropenL; rw [if_pos hin]
    rw [he]
    by_cases h0 : i < 0
    · clear hcs
      go_enter Try.func20, Try.ntmps20
      go_wp2_with fail
      go_ret2
      exact ⟨rfl, Fr.refl _ _⟩
    · have h0' : 0 ≤ i := by omega
      have h1 : (n : Int) ≤ i := by have := of_decide_eq_false hin; omega
      clear h0 hin hcs
      go_enter Try.func20, Try.ntmps20
      go_wp2_with fail
      go_ret2
      exact ⟨rfl, Fr.refl _ _⟩
  | true =>
    obtain ⟨k, rfl, hk⟩ := in_of hin
    have he : ropenL us n (k : Int) s.data.toList = (match us.find? (fits s.data.toList k) with | some u => (u.p.data.toList, 0) | none => ([], 80)) := by
      unfold ropenL
      rw [if_neg (by rw [hin]; decide)]
      rfl
    obtain ⟨R, hR⟩ : ∃ R, ropenL us n (k : Int) s.data.toList = R := ⟨_, rfl⟩
    rw [hR] at he ⊢
    have HE := hid he; have HCS := hid hcs; have HOK := hid hok; have HN := hid hn; have HK := hid hk
    have hki : (k : Int) < (n : Int) := by omega
    have HC1 := hid c1
    have hd1 : decide (n ≤ k) = false := decide_eq_false (by omega)
    have hd2 : decide ((k : Int) < 0) = false := decide_eq_false (by omega)
    clear he hcs hok hn hk h hin hR hus hi
    go_enter Try.func20, Try.ntmps20
    go_wp2_with fail
    have HR := hid (show (∀ (j : Nat) (u : Use), j < 0 → us[j]? = some u → fits s.data.toList k u = false) ∧ Fr No w w from ⟨fun j u hj => by omega, Fr.refl _ _⟩)
    clear c1 c0
    go_loopw [8] (fun i wr => ∃ m : Nat, m ≤ us.length ∧ i = .int .i64 m ∧ Hid ((∀ (j : Nat) (u : Use), j < m → us[j]? = some u → fits s.data.toList k u = false) ∧ Fr No w wr)) (fun i _ => us.length - (intOf i).toNat)
    case atStart => exact ⟨0, by omega, rfl, HR⟩
    case round =>
      clear HR
      obtain ⟨m, hm, rfl, HR⟩ := hrel
      have c1 := HR.out.2.cell HC1.out id
      by_cases hlt : m < us.length
      · have hlti : (m : Int) < (us.length : Int) := by omega
        obtain ⟨u, hu⟩ : ∃ u, us[m]? = some u := ⟨_, List.getElem?_eq_getElem hlt⟩
        obtain ⟨g, rfl, hrow⟩ := HCS.out m u hu
        have HRow := hid hrow
        have HU := hid hu; have HLT := hid hlt
        have huo := HOK.out u (List.mem_of_getElem? hu)
        have HUO := hid huo
        clear hrow hu hlt huo
        go_wp2_with (first
          | ((with_reducible show wpList _ _ _ (⟨_, .load 70 _, _, _, _, _⟩ :: _) _ _); refine wpL_load rfl _ _ rfl g (m * 3) (by first | rfl | (congr 3; omega)) u.cells _ (HR.out.2.range HRow.out id) Try.underlying70 rfl infoUse3 ?_)
          | fail)
        refine (rform_any u (by have := HUO.out.1; have := HN.out; omega) HUO.out.2.1 HUO.out.2.2 _).mono ?_
        rintro e w2 ⟨rfl, hf2⟩
        have HF2 := hid (HR.out.2.trans' hf2)
        have c2 := hf2.cell c1 id
        have ct : w2.cell? ⟨g, m * 3, none⟩ = some (.int .i64 (u.t : Int)) := by have := HF2.out.range HRow.out id 0 _ rfl; simpa using this
        have cp : w2.cell? ⟨g, m * 3 + 2, none⟩ = some (.string u.p) := HF2.out.range HRow.out id 2 _ rfl
        obtain ⟨F, hF⟩ : ∃ F, u.form = F := ⟨_, rfl⟩
        rw [hF]
        have HFF := hid hF
        have hcmp := neq_s (sb F) s
        rw [sb_list] at hcmp
        clear hf2 c1 hF
        by_cases ht : u.t = k
        · have hti : ((u.t : Int) == (k : Int)) = true := by rw [beq_iff_eq]; omega
          by_cases hnu : F = s.data.toList
          · rw [decide_eq_true hnu] at hcmp
            have HA := hid (find_first (f := fits s.data.toList k) HU.out (decide_eq_true ⟨ht, by rw [HFF.out]; exact hnu⟩) HR.out.1)
            clear ht hnu
            go_wp2_with fail
            go_ret2
            refine ⟨?_, HF2.out⟩
            rw [HE.out, HA.out]
            unfold told
            rw [sb_of]
            rfl
          · rw [decide_eq_false hnu] at hcmp
            have HA := hid (show fits s.data.toList k u = false from decide_eq_false fun e => hnu (by rw [← HFF.out]; exact e.2))
            clear ht hnu
            go_wp2_with fail
            go_roundw
            case rel => exact ⟨m + 1, by have := HLT.out; omega, by go_num, hid ⟨fun j x hj hx => by
              by_cases hjm : j = m
              · subst hjm; rw [HU.out] at hx; cases hx; exact HA.out
              · exact HR.out.1 j x (by omega) hx, HF2.out⟩⟩
            case measure => simp [intOf]; have := HLT.out; omega
        · have hti : ((u.t : Int) == (k : Int)) = false := by rw [beq_eq_false_iff_ne]; omega
          have HA := hid (show fits s.data.toList k u = false from decide_eq_false fun e => ht e.1)
          clear ht hcmp
          go_wp2_with fail
          go_roundw
          case rel => exact ⟨m + 1, by have := HLT.out; omega, by go_num, hid ⟨fun j x hj hx => by
              by_cases hjm : j = m
              · subst hjm; rw [HU.out] at hx; cases hx; exact HA.out
              · exact HR.out.1 j x (by omega) hx, HF2.out⟩⟩
          case measure => simp [intOf]; have := HLT.out; omega
      · obtain rfl : m = us.length := by omega
        have HA := hid (find_none (us := us) (f := fits s.data.toList k) fun j u hj => HR.out.1 j u (List.getElem?_eq_some_iff.1 hj).1 hj)
        clear hlt
        go_wp2_with fail
        go_ret2
        refine ⟨?_, HR.out.2⟩
        rw [HE.out, HA.out]
        rfl
/-! ### Both tell the same -/
/-- The maps say what the uses say. -/
structure Like (n : Nat) (fs : Nat → Mp) (us : List Use) : Prop where
  ok : Uses n us
  to : ∀ k t p, fs k t = some p → ∃ u ∈ us, u.t = k ∧ eight u.n = t ∧ u.p.data.toList = p
  back : ∀ u ∈ us, fs u.t (eight u.n) = some u.p.data.toList
theorem like_nil (n : Nat) : Like n no [] := ⟨fun u hu => (by cases hu), fun k t p h => (by cases h), fun u hu => (by cases hu)⟩
theorem be8_nat (n i : Nat) : (SH.be8 n i).toNat = n / 2 ^ (8 * (7 - i)) % 256 := by
  unfold SH.be8
  rw [UInt8.toNat_ofNat', Nat.mod_mod]
theorem eight_byte {m n : Nat} (h : eight m = eight n) {i : Nat} (hi : i < 8) : m / 2 ^ (8 * (7 - i)) % 256 = n / 2 ^ (8 * (7 - i)) % 256 := by
  rw [← be8_nat, ← be8_nat, ← eight_get m hi, ← eight_get n hi, h]
theorem eight_inj {m n : Nat} (hm : m < 18446744073709551616) (hn : n < 18446744073709551616) (h : eight m = eight n) : m = n := by
  have h0 := eight_byte h (i := 0) (by decide); have h1 := eight_byte h (i := 1) (by decide); have h2 := eight_byte h (i := 2) (by decide); have h3 := eight_byte h (i := 3) (by decide)
  have h4 := eight_byte h (i := 4) (by decide); have h5 := eight_byte h (i := 5) (by decide); have h6 := eight_byte h (i := 6) (by decide); have h7 := eight_byte h (i := 7) (by decide)
  simp only [Nat.sub_zero, Nat.reduceMul, Nat.reduceSub, Nat.reducePow, Nat.div_one] at h0 h1 h2 h3 h4 h5 h6 h7
  omega
theorem form_take (u : Use) : u.form.take 8 = eight u.n := by
  unfold Use.form SE.form
  rw [List.take_append_of_le_length (by rw [eight_length]; exact Nat.le_refl _), List.take_of_length_le (by rw [eight_length]; exact Nat.le_refl _)]
theorem form_long (u : Use) : 8 ≤ u.form.length := by unfold Use.form; rw [form_length, eight_length]; omega
theorem seal_like {n : Nat} {fs : Nat → Mp} {us : List Use} (h : Like n fs us) (i : Int) {nn : Nat} (hnn : nn < 18446744073709551616) (p : S) : iseal fs n i nn p.data.toList = rsealL us n i nn p := by
  unfold iseal rsealL
  by_cases hin : inside i n = false
  · rw [if_pos hin, if_pos hin]
  rw [if_neg hin, if_neg hin, size_list]
  by_cases hp : 200 < p.size
  · rw [if_pos hp, if_pos hp]
  rw [if_neg hp, if_neg hp]
  cases hf : fs i.toNat (eight nn) with
  | some q =>
    obtain ⟨u, hu, ht, hn, -⟩ := h.to _ _ _ hf
    have hnn' := eight_inj (h.ok u hu).2.1 hnn hn
    rw [if_pos (List.any_eq_true.2 ⟨u, hu, decide_eq_true ⟨ht, hnn'⟩⟩)]
  | none =>
    rw [if_neg (fun e => by
      obtain ⟨u, hu, hm⟩ := List.any_eq_true.1 e
      obtain ⟨ht, hn⟩ := of_decide_eq_true hm
      have := h.back u hu
      rw [ht, hn, hf] at this
      cases this)]
    rfl
theorem next_like {n : Nat} {fs : Nat → Mp} {us : List Use} (h : Like n fs us) (i : Int) {nn : Nat} (hnn : nn < 18446744073709551616) (p : S) : Like n (inext fs n i nn p.data.toList) (rnext us n i nn p) := by
  have he := seal_like h i hnn p
  unfold inext rnext
  rw [he]
  by_cases h0 : (rsealL us n i nn p).2 = 0
  · rw [if_pos h0, if_pos h0]
    have hin : inside i n = true := by
      cases hin : inside i n with
      | true => rfl
      | false => unfold rsealL at h0; rw [if_pos hin] at h0; cases h0
    have hp : p.size ≤ 200 := by
      by_cases hp : 200 < p.size
      · unfold rsealL at h0
        rw [if_neg (by rw [hin]; decide), if_pos hp] at h0
        cases h0
      · omega
    have hna : us.any (isUse i.toNat nn) = false := by
      cases hna : us.any (isUse i.toNat nn) with
      | false => rfl
      | true =>
        unfold rsealL at h0
        rw [if_neg (by rw [hin]; decide), if_neg (by omega), if_pos hna] at h0
        cases h0
    obtain ⟨k, rfl, hk⟩ := in_of hin
    refine ⟨fun u hu => ?_, fun j t q hq => ?_, fun u hu => ?_⟩
    · rcases List.mem_append.1 hu with hu | hu
      · exact h.ok u hu
      · obtain rfl := List.mem_singleton.1 hu
        exact ⟨hk, hnn, hp⟩
    · by_cases hj : j = (k : Int).toNat
      · simp only [hj, if_true] at hq
        unfold updM at hq
        by_cases ht : t = eight nn
        · rw [if_pos ht] at hq
          cases hq
          exact ⟨_, List.mem_append_right _ (List.mem_singleton.2 rfl), hj.symm, ht.symm, rfl⟩
        · rw [if_neg ht] at hq
          obtain ⟨u, hu, h1, h2, h3⟩ := h.to _ _ _ hq
          exact ⟨u, List.mem_append_left _ hu, h1.trans hj.symm, h2, h3⟩
      · simp only [hj, if_false] at hq
        obtain ⟨u, hu, h1, h2, h3⟩ := h.to _ _ _ hq
        exact ⟨u, List.mem_append_left _ hu, h1, h2, h3⟩
    · rcases List.mem_append.1 hu with hu | hu
      · have hb := h.back u hu
        show (if u.t = (k : Int).toNat then updM (fs (k : Int).toNat) (eight nn) p.data.toList else fs u.t) (eight u.n) = _
        by_cases hj : u.t = (k : Int).toNat
        · rw [if_pos hj]
          unfold updM
          rw [if_neg (fun e => by
            have hnn' := eight_inj (h.ok u hu).2.1 hnn e
            have := (List.any_eq_false.1 hna) u hu
            exact this (decide_eq_true ⟨hj, hnn'⟩)), ← hj]
          exact hb
        · rw [if_neg hj]; exact hb
      · obtain rfl := List.mem_singleton.1 hu
        show (if (k : Int).toNat = (k : Int).toNat then updM (fs (k : Int).toNat) (eight nn) p.data.toList else _) (eight nn) = _
        rw [if_pos rfl]
        unfold updM
        rw [if_pos rfl]
  · rw [if_neg h0, if_neg h0]; exact h
theorem open_like {n : Nat} {fs : Nat → Mp} {us : List Use} (h : Like n fs us) (i : Int) (s : List UInt8) : iopen fs n i s = ropenL us n i s := by
  unfold iopen ropenL
  by_cases hin : inside i n = false
  · rw [if_pos hin, if_pos hin]
  rw [if_neg hin, if_neg hin]
  obtain ⟨k, hk⟩ : ∃ k, i.toNat = k := ⟨_, rfl⟩
  rw [hk]
  -- who fits tells what the map says
  have hfit : ∀ u ∈ us, fits s k u = true → fs k (s.take 8) = some u.p.data.toList ∧ s = form (UInt8.ofNat k) (s.take 8) u.p.data.toList.length := fun u hu hf => by
    obtain ⟨ht, hs⟩ := of_decide_eq_true hf
    have hb := h.back u hu
    have h8 : s.take 8 = eight u.n := by rw [← hs, form_take]
    rw [ht] at hb
    refine ⟨by rw [h8]; exact hb, ?_⟩
    rw [h8, size_list, ← ht]
    exact hs.symm
  unfold ropen
  by_cases h8 : s.length < 8
  · rw [if_pos h8]
    have hn : us.find? (fits s k) = none := List.find?_eq_none.2 fun u hu hf => by
      obtain ⟨-, hs⟩ := of_decide_eq_true hf
      have := form_long u
      rw [hs] at this
      omega
    rw [hn]
  rw [if_neg h8]
  cases hf : fs k (s.take 8) with
  | none =>
    have hn : us.find? (fits s k) = none := List.find?_eq_none.2 fun u hu hft => by
      have := (hfit u hu hft).1
      rw [hf] at this
      cases this
    rw [hn]
  | some p =>
    by_cases hs : s = form (UInt8.ofNat k) (s.take 8) p.length
    · obtain ⟨u, hu, ht, hn, hp⟩ := h.to _ _ _ hf
      have hft : fits s k u = true := decide_eq_true ⟨ht, by
        unfold Use.form
        rw [ht, hn, ← size_list, hp]
        exact hs.symm⟩
      cases hfd : us.find? (fits s k) with
      | none => exact absurd hft (List.find?_eq_none.1 hfd u hu)
      | some u' =>
        have h1 := (hfit u' (List.mem_of_find?_eq_some hfd) (List.find?_some hfd)).1
        rw [hf] at h1
        show (if s = form (UInt8.ofNat k) (s.take 8) p.length then (p, 0) else ([], 80)) = (u'.p.data.toList, 0)
        rw [if_pos hs, Option.some.inj h1]
    · have hn : us.find? (fits s k) = none := List.find?_eq_none.2 fun u hu hft => by
        obtain ⟨h1, h2⟩ := hfit u hu hft
        rw [hf] at h1
        rw [Option.some.inj h1] at hs
        exact hs h2
      rw [hn]
      exact if_neg hs
end Go.Proofs.Ytakmeipmngeilaa.SE
