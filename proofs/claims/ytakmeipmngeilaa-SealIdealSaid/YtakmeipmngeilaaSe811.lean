/-
  Part 11 of the proof: SeN, SeV, SeP, SeR.
-/
import Derived.Test.YtakmeipmngeilaaSe810
import Derived.Maps.OwnSet
set_option linter.unusedVariables false
set_option linter.unusedSimpArgs false
set_option linter.unusedSectionVars false
namespace Go.Proofs.Ytakmeipmngeilaa.SE
set_option maxRecDepth 100000
open Go.RowKit K
variable [SH.Tab]

/-- The cells of a tenant whose key is not there yet. -/
def raw (n : Int) (a b : List UInt8) : List Value := .int .u8 n :: (u8s a ++ u8s b)
def z16 : List UInt8 := List.replicate 16 0
theorem zeroKy (w : World) : (zeroValue 59).run Try.prog w = .ok (.agg (raw 0 z16 z16).toArray) w := by kernel_rfl
theorem buildKy (n : Int) (w : World) : (Instr.build 59 #[(0, .int .u8 n)]).run Try.prog w = .ok (.agg (raw n z16 z16).toArray) w := by kernel_rfl
theorem raw_enc (n : Int) {a b c : List UInt8} (ha : a.length = 16) (hc : c.length = 16) : spl (raw n a b) 1 (u8s c) = raw n c b := by
  unfold spl raw
  rw [List.take_succ_cons, List.take_zero, u8s_length, hc, show 1 + 16 = 16 + 1 by rfl, List.drop_succ_cons, List.drop_append_of_le_length (by rw [u8s_length, ha]; exact Nat.le_refl _), List.drop_of_length_le (by rw [u8s_length, ha]; exact Nat.le_refl _)]
  simp
theorem raw_aut (n : Int) {a b c : List UInt8} (ha : a.length = 16) (hb : b.length = 16) (hc : c.length = 16) : spl (raw n a b) 17 (u8s c) = raw n a c := by
  unfold spl raw
  rw [List.take_succ_cons, List.take_append_of_le_length (by rw [u8s_length, ha]; exact Nat.le_refl _), List.take_of_length_le (by rw [u8s_length, ha]; exact Nat.le_refl _), u8s_length, hc, show 17 + 16 = 32 + 1 by rfl, List.drop_succ_cons, List.drop_of_length_le (by simp [u8s_length, ha, hb])]
  simp
theorem raw_length (n : Int) {a b : List UInt8} (ha : a.length = 16) (hb : b.length = 16) : (raw n a b).length = 33 := by simp [raw, u8s_length, ha, hb]
theorem raw_one (n : Int) (a b : List UInt8) : ∀ v ∈ raw n a b, v.oneCell' = true := by
  intro v hv
  rcases List.mem_cons.1 hv with rfl | hv
  · rfl
  rcases List.mem_append.1 hv with hv | hv
  · exact u8s_one _ v hv
  · exact u8s_one _ v hv
theorem z16_length : z16.length = 16 := by rfl
theorem raw_ky (n : Nat) (hn : n < 256) (key : S) (h : key.size = 32) : raw (n : Int) (key.data.toList.take 16) (key.data.toList.drop 16) = (kyOf (UInt8.ofNat n) key h).cells := by
  unfold raw Ky.cells kyOf
  have e : u8s (key.data.toList.take 16) = AE.b8 (fun i => (key.data.toList.getD i 0).toNat) 16 := b8_u8s _ _ 16 (by rw [List.length_take, size_list, h]; rfl) fun i hi => by
    rw [List.getElem_take, List.getD_eq_getElem?_getD, List.getElem?_eq_getElem (by rw [size_list, h]; omega)]
    rfl
  rw [e]
  simp only [UInt8.toNat_ofNat', Nat.mod_eq_of_lt (show n < 2 ^ 8 from hn)]
theorem spl_whole (cs vs : List Value) (h : vs.length = cs.length) : spl cs 0 vs = vs := by
  unfold spl
  rw [List.take_zero, List.nil_append, Nat.zero_add, h, List.drop_length, List.append_nil]
set_option maxHeartbeats 1000000 in
theorem newKeyed_any (n : Nat) (hn : n < 256) (key : S) (h : key.size = 32) (w : World) : Calls Try.prog 22 #[.int .i64 (n : Int), .string key] w fun e w' =>
    e = .returned (kyOf (UInt8.ofNat n) key h).val ∧ Fr No w w' := by
  have HN := hid hn; have HS := hid h
  have hwr : (n : Int) % 256 = (n : Int) := by omega
  have hal : (key.data.toList.take 16).length = 16 := by rw [List.length_take, size_list, h]; rfl
  have hbl : (key.data.toList.drop 16).length = 16 := by rw [List.length_drop, size_list, h]
  have HAL := hid hal; have HBL := hid hbl
  have HV := hid (raw_ky n hn key h)
  obtain ⟨V, hV⟩ : ∃ V, (kyOf (UInt8.ofNat n) key h).cells = V := ⟨_, rfl⟩
  have hvv : (kyOf (UInt8.ofNat n) key h).val = .agg V.toArray := by unfold Ky.val; rw [hV]
  rw [hvv]
  rw [hV] at HV
  have hVl : V.length = 33 := by rw [← hV, Ky.cells_length]
  have HVl := hid hVl
  clear hn h hal hbl hV hvv hVl
  go_enter Try.func22, Try.ntmps22
  go_wp2_with (first
    | ((with_reducible show wpList _ _ _ (⟨_, .alloc 59, _, _, _, _⟩ :: _) _ _); have := HB1; refine wpL_alloc rfl _ rfl _ zeroKy (raw 0 z16 z16) rfl ?_; intro w2 HB2 HF2 HS2)
    | ((with_reducible show wpList _ _ _ (⟨_, .alloc 59, _, _, _, _⟩ :: _) _ _); refine wpL_alloc rfl _ rfl _ zeroKy (raw 0 z16 z16) rfl ?_; intro w1 HB1 HF1 HS1)
    | ((with_reducible show wpList _ _ _ (⟨_, .build 59 _, _, _, _, _⟩ :: _) _ _); refine wpL_build rfl _ [(0, .tmp 7)] rfl (.agg (raw (n : Int) z16 z16).toArray) (buildKy _ _) ?_)
    | ((with_reducible show wpList _ _ _ (⟨_, .store 59 _ _, _, _, _, _⟩ :: _) _ _); refine wpL_store rfl _ _ _ rfl w1.heap.size 0 (raw (n : Int) z16 z16) rfl rfl _ _ HB2.out (by rw [raw_length _ z16_length z16_length, raw_length _ z16_length z16_length]; decide) (by rw [raw_length _ z16_length z16_length]; exact infoKy) (raw_one _ _ _) ?_; intro w3 HB3 HF3 HS3)
    | fail)
  obtain ⟨b1, hb1⟩ : ∃ b, w.heap.size = b := ⟨_, rfl⟩
  obtain ⟨b2, hb2⟩ : ∃ b, w1.heap.size = b := ⟨_, rfl⟩
  have HLT := hid (show b1 < b2 ∧ w.heap.size = b1 by have := HS1.out; omega)
  have hB3 := HB3.out
  rw [spl_whole _ _ (by rw [raw_length _ z16_length z16_length, raw_length _ z16_length z16_length])] at hB3
  have HR := hid (show Blk w3.drew b1 59 (raw 0 z16 z16) ∧ Blk w3.drew b2 59 (raw (n : Int) z16 z16) ∧ Fr No w w3.drew by
    rw [← hb1, ← hb2]
    exact ⟨(((HB1.out.fr HF2.out id).fr HF3.out (fun e => by have : w.heap.size = w1.heap.size := e; have := HS1.out; omega))).drew, hB3.drew, ((HF1.out.trans' HF2.out).trans HF3.out fun j e => .inr (by have : j = w1.heap.size := e; have := HS1.out; omega)).drew⟩)
  rw [hb1, hb2]
  clear HB1 HF1 HS1 HB2 HF2 HS2 HB3 HF3 HS3 hB3 hb1 hb2 this
  have hold : Facts.hold [] w3.drew := Facts.nil_hold _
  refine wpD_region hold (by kernel_rfl) 5 rfl ?_
  (refine wpD_plain 0 (v := ?_) rfl (by kernel_rfl) (by kernel_rfl) (by kernel_rfl) (fun _ _ _ h => h) (by rfl) ?_ (by assumption) ?_; rotate_left; (intro _w; go_simp; try with_reducible rfl); simp only [Act.put, List.setIfInBounds_toArray, List.set_cons_zero, List.set_cons_succ])
  (refine wpD_plain 1 (v := ?_) rfl (by kernel_rfl) (by kernel_rfl) (by kernel_rfl) (fun _ _ _ h => h) (by rfl) ?_ (by assumption) ?_; rotate_left; (intro _w; go_simp; try with_reducible rfl); simp only [Act.put, List.setIfInBounds_toArray, List.set_cons_zero, List.set_cons_succ])
  (refine wpD_plain 2 (v := ?_) rfl (by kernel_rfl) (by kernel_rfl) (by kernel_rfl) (fun _ _ _ h => h) (by rfl) ?_ (by assumption) ?_; rotate_left; (intro _w; go_simp; try with_reducible rfl); simp only [Act.put, List.setIfInBounds_toArray, List.set_cons_zero, List.set_cons_succ])
  (refine wpD_plain 3 (v := (.string (sb (key.data.toList.take 16)))) rfl (by kernel_rfl) (by kernel_rfl) (by kernel_rfl) (fun _ _ _ h => h) (by rfl) ?_ (by assumption) ?_; (intro _w; exact exec_to _ _ rfl key 16 rfl rfl (by rw [HS.out]; decide) _ rfl _w); simp only [Act.put, List.setIfInBounds_toArray, List.set_cons_zero, List.set_cons_succ])
  refine wpD_only 4 [] rfl (by kernel_rfl) (by kernel_rfl) (by rfl) (fun K4 hK4 => ?_)
  refine wp_copyS _ _ _ _ rfl 5 rfl size8 b2 1 16 16 rfl (sb (key.data.toList.take 16)) rfl 59 _ HR.out.2.1 (key.data.toList.take 16) (by rw [sb_list, List.take_take]; rfl) (by rw [HAL.out, raw_length _ z16_length z16_length]; decide) ?_
  intro w4 HB4 HF4 HS4
  refine hK4 _ _ (Facts.nil_hold _) ?_
  clear hK4 K4 hold
  simp only [Act.put, List.setIfInBounds_toArray, List.set_cons_zero, List.set_cons_succ]
  refine wpD_done (by kernel_rfl) ?_ _
  have hB4 := HB4.out
  rw [raw_enc _ z16_length HAL.out] at hB4
  have HR4 := hid (show Blk w4.drew b1 59 (raw 0 z16 z16) ∧ Blk w4.drew b2 59 (raw (n : Int) (key.data.toList.take 16) z16) ∧ Fr No w w4.drew from
    ⟨(HR.out.1.fr HF4.out (fun e => by have : b1 = b2 := e; have := HLT.out; omega)).drew, hB4.drew, (HR.out.2.2.trans HF4.out fun j e => .inr (by have : j = b2 := e; have := HLT.out; omega)).drew⟩)
  clear HR HB4 HF4 HS4 hB4
  go_wp2_with fail
  have hold : Facts.hold [] w4.drew := Facts.nil_hold _
  refine wpD_region hold (by kernel_rfl) 5 rfl ?_
  (refine wpD_plain 0 (v := ?_) rfl (by kernel_rfl) (by kernel_rfl) (by kernel_rfl) (fun _ _ _ h => h) (by rfl) ?_ (by assumption) ?_; rotate_left; (intro _w; go_simp; try with_reducible rfl); simp only [Act.put, List.setIfInBounds_toArray, List.set_cons_zero, List.set_cons_succ])
  (refine wpD_plain 1 (v := ?_) rfl (by kernel_rfl) (by kernel_rfl) (by kernel_rfl) (fun _ _ _ h => h) (by rfl) ?_ (by assumption) ?_; rotate_left; (intro _w; go_simp; try with_reducible rfl); simp only [Act.put, List.setIfInBounds_toArray, List.set_cons_zero, List.set_cons_succ])
  (refine wpD_plain 2 (v := ?_) rfl (by kernel_rfl) (by kernel_rfl) (by kernel_rfl) (fun _ _ _ h => h) (by rfl) ?_ (by assumption) ?_; rotate_left; (intro _w; go_simp; try with_reducible rfl); simp only [Act.put, List.setIfInBounds_toArray, List.set_cons_zero, List.set_cons_succ])
  (refine wpD_plain 3 (v := (.string (sb (key.data.toList.drop 16)))) rfl (by kernel_rfl) (by kernel_rfl) (by kernel_rfl) (fun _ _ _ h => h) (by rfl) ?_ (by assumption) ?_; (intro _w; exact exec_from _ _ rfl key 16 rfl rfl (by rw [HS.out]; decide) _ rfl _w); simp only [Act.put, List.setIfInBounds_toArray, List.set_cons_zero, List.set_cons_succ])
  refine wpD_only 4 [] rfl (by kernel_rfl) (by kernel_rfl) (by rfl) (fun K4 hK4 => ?_)
  refine wp_copyS _ _ _ _ rfl 5 rfl size8 b2 17 16 16 rfl (sb (key.data.toList.drop 16)) rfl 59 _ HR4.out.2.1 (key.data.toList.drop 16) (by rw [sb_list, List.take_of_length_le (by rw [HBL.out]; decide)]) (by rw [HBL.out, raw_length _ HAL.out z16_length]; decide) ?_
  intro w5 HB5 HF5 HS5
  refine hK4 _ _ (Facts.nil_hold _) ?_
  clear hK4 K4 hold
  simp only [Act.put, List.setIfInBounds_toArray, List.set_cons_zero, List.set_cons_succ]
  refine wpD_done (by kernel_rfl) ?_ _
  have hB5 := HB5.out
  rw [raw_aut _ HAL.out z16_length HBL.out, HV.out] at hB5
  have HR5 := hid (show Blk w5 b1 59 (raw 0 z16 z16) ∧ Blk w5 b2 59 V ∧ Fr No w w5 from
    ⟨HR4.out.1.fr HF5.out (fun e => by have : b1 = b2 := e; have := HLT.out; omega), hB5, HR4.out.2.2.trans HF5.out fun j e => .inr (by have : j = b2 := e; have := HLT.out; omega)⟩)
  clear HR4 HB5 HF5 HS5 hB5
  have hV1 : ∀ v ∈ V, v.oneCell' = true := by rw [← HV.out]; exact raw_one _ _ _
  have HV1 := hid hV1
  clear hV1
  go_wp2_with (first
    | ((with_reducible show wpList _ _ _ (⟨_, .load 59 _, _, _, _, _⟩ :: _) _ _); refine wpL_load rfl _ _ rfl b2 0 rfl V _ (HR5.out.2.1.range 0 _ (by rw [List.drop_zero, List.take_length])) Try.underlying59 rfl (by rw [HVl.out]; exact infoKy) ?_)
    | ((with_reducible show wpList _ _ _ (⟨_, .store 59 _ _, _, _, _, _⟩ :: _) _ _); refine wpL_store rfl _ _ _ rfl b1 0 V rfl rfl _ _ HR5.out.1 (by rw [HVl.out, raw_length _ z16_length z16_length]; decide) (by rw [HVl.out]; exact infoKy) HV1.out ?_; intro w6 HB6 HF6 HS6)
    | fail)
  have hB6 := HB6.out
  rw [spl_whole _ _ (by rw [HVl.out, raw_length _ z16_length z16_length])] at hB6
  refine ret_cell rfl _ rfl hB6 rfl rfl (by rw [HVl.out]; exact infoKy) rfl ?_
  exact ⟨rfl, HR5.out.2.2.trans HF6.out fun j e => .inr (by have : j = b1 := e; have := HLT.out; omega)⟩
end Go.Proofs.Ytakmeipmngeilaa.SE

set_option linter.unusedVariables false
set_option linter.unusedSimpArgs false
set_option linter.unusedSectionVars false
namespace Go.Proofs.Ytakmeipmngeilaa.SE
set_option maxRecDepth 100000
open Go.RowKit K
variable [SH.Tab]

/-- A slice v of the tenants xs. -/
def Row (w : World) (v : Value) (xs : List Value) : Prop := ∃ a c, v = .slice a xs.length c ∧ (0 < xs.length → ∃ g, a = some ⟨g, 0, none⟩ ∧ w.rangeAt g 0 xs)
theorem Row.fr {w w' : World} {v : Value} {xs : List Value} {D : Nat → Prop} (h : Row w v xs) (hf : Fr D w w') (hd : ∀ k, v.ownBlock = some k → ¬ D k) : Row w' v xs := by
  obtain ⟨a, c, rfl, h1⟩ := h
  refine ⟨a, c, rfl, fun hx => ?_⟩
  obtain ⟨g, rfl, h2⟩ := h1 hx
  exact ⟨g, rfl, hf.range h2 (hd g rfl)⟩
theorem Row.no {w w' : World} {v : Value} {xs : List Value} (h : Row w v xs) (hf : Fr No w w') : Row w' v xs := h.fr hf fun _ _ e => e
theorem Row.at_ {w : World} {a : Option Addr} {n c : Nat} {xs : List Value} (h : Row w (.slice a n c) xs) {i : Nat} {x : Value} (hx : xs[i]? = some x) : ∃ g, a = some ⟨g, 0, none⟩ ∧ w.cell? ⟨g, i, none⟩ = some x := by
  obtain ⟨a', c', e, h1⟩ := h
  cases e
  obtain ⟨g, rfl, h2⟩ := h1 (by have := (List.getElem?_eq_some_iff.1 hx).1; omega)
  refine ⟨g, rfl, ?_⟩
  have := h2 i x hx
  rwa [Nat.zero_add] at this
/-- A call whose function and arguments are known. -/
theorem wp_enter {P : Program} {op : Oper} {a : Act} {w : World} {K : Act → World → Prop} {Q : Exit → Act → World → Prop} (f : FuncId) (vs : List Value) (e : (execOp a.eval op).run P w = .ok (.enter f vs.toArray) w)
    (hc : Calls P f vs.toArray w fun e w' => ∃ v, e = .returned v ∧ K (a.put op.dst v) w') : op.wp P a w K Q := by
  unfold Oper.wp
  rw [e]
  show Calls P f vs.toArray w _
  refine hc.mono ?_
  rintro e w' ⟨v, rfl, h⟩
  exact h
def inside (i : Int) (n : Nat) : Bool := decide (0 ≤ i ∧ i < n)
theorem has_any (a : Option Addr) (n c : Nat) (i : Int) (hn : n ≤ 140737488355328) (hi : -9223372036854775808 ≤ i ∧ i ≤ 9223372036854775807) (w : World) : Calls Try.prog 30 #[.slice a n c, .int .i64 i] w fun e w' => e = .returned (.bool (inside i n)) ∧ w' = w := by
  have hni : (n : Int) ≤ 140737488355328 := by omega
  by_cases h0 : 0 ≤ i
  · by_cases h1 : i < n
    · have hh : inside i n = true := decide_eq_true ⟨h0, h1⟩
      rw [hh]
      go_enter Try.func30, Try.ntmps30
      go_wp2_with fail
      go_ret
      exact ⟨rfl, rfl⟩
    · have hh : inside i n = false := decide_eq_false fun h => h1 h.2
      rw [hh]
      have h1' : (n : Int) ≤ i := by omega
      have hb : decide (i < (n : Int)) = false := decide_eq_false h1
      clear h1
      go_enter Try.func30, Try.ntmps30
      go_wp2_with fail
      go_ret
      exact ⟨rfl, rfl⟩
  · have hh : inside i n = false := decide_eq_false fun h => h0 h.1
    rw [hh]
    have h0' : i < 0 := by omega
    clear h0
    go_enter Try.func30, Try.ntmps30
    go_wp2_with fail
    go_ret
    exact ⟨rfl, rfl⟩
/-- A text and an error are told, of which Q holds. -/
def Tl (Q : List UInt8 → Nat → World → Prop) (e : Ending) (w' : World) : Prop := ∃ l c, e = told l c ∧ Q l c w'
theorem Tl.mk {Q : List UInt8 → Nat → World → Prop} {l : List UInt8} {c : Nat} {w' : World} (h : Q l c w') : Tl Q (told l c) w' := ⟨l, c, rfl, h⟩
/-- Who is asked for a tenant that is there asks that tenant. -/
def sealOf (ty : TypeId) (f : FuncId) : Prop := (ty = 59 ∧ f = 61) ∨ (ty = 67 ∧ f = 93)
def openOf (ty : TypeId) (f : FuncId) : Prop := (ty = 59 ∧ f = 60) ∨ (ty = 67 ∧ f = 92)
theorem tseal_out (a : Option Addr) (n c : Nat) (i : Int) (nn : Nat) (p : S) (hn : n ≤ 16) (hi : -9223372036854775808 ≤ i ∧ i ≤ 9223372036854775807) (ho : inside i n = false) (w : World) :
    Calls Try.prog 23 #[.slice a n c, .int .i64 i, .int .u64 (nn : Int), .string p] w fun e w' => e = told [] 81 ∧ w' = w := by
  have HI := hid hi; have HO := hid ho
  clear hi ho
  go_enter Try.func23, Try.ntmps23
  go_wp2_with fail
  refine (has_any a n c i (by omega) HI.out _).mono ?_
  rintro e w1 ⟨rfl, rfl⟩
  rw [HO.out]
  go_wp2_with fail
  go_ret2
  exact ⟨rfl, rfl⟩
theorem tseal_long (a : Option Addr) (n c : Nat) (i : Int) (nn : Nat) (p : S) (hn : n ≤ 16) (hi : -9223372036854775808 ≤ i ∧ i ≤ 9223372036854775807) (ho : inside i n = true) (hp : 200 < p.size) (w : World) :
    Calls Try.prog 23 #[.slice a n c, .int .i64 i, .int .u64 (nn : Int), .string p] w fun e w' => e = told [] 2 ∧ w' = w := by
  have HI := hid hi; have HO := hid ho
  have hpi : (200 : Int) < (p.size : Int) := by omega
  clear hi ho
  go_enter Try.func23, Try.ntmps23
  go_wp2_with fail
  refine (has_any a n c i (by omega) HI.out _).mono ?_
  rintro e w1 ⟨rfl, rfl⟩
  rw [HO.out]
  go_wp2_with fail
  go_ret2
  exact ⟨rfl, rfl⟩
set_option maxHeartbeats 1000000 in
theorem tseal_in (v : Value) (xs : List Value) (i nn : Nat) (p : S) (w : World) (hr : Row w v xs) (hn : xs.length ≤ 16) (ty : TypeId) (v0 : Value) (hx : xs[i]? = some (.iface ty v0)) (f : FuncId) (hf : sealOf ty f) (hp : p.size ≤ 200) (hnn : nn < 18446744073709551616) (Q : List UInt8 → Nat → World → Prop) (hq : ∀ l c w', Q l c w' → Row w' v xs)
    (hc : ∀ w1, Fr No w w1 → Calls Try.prog f #[v0, .string (sb (eight nn)), .string p] w1 (Tl Q)) :
    Calls Try.prog 23 #[v, .int .i64 (i : Int), .int .u64 (nn : Int), .string p] w (Tl Q) := by
  have HR := hid hr; have HC := hid hc; have HF := hid hf; have HNN := hid hnn
  obtain ⟨a, c, rfl, -⟩ := hr
  have HKp : Hid (∀ l c w', Q l c w' → ∃ g, a = some ⟨g, 0, none⟩ ∧ w'.cell? ⟨g, i, none⟩ = some (.iface ty v0)) := hid fun l c w' h => (hq l c w' h).at_ hx
  obtain ⟨n, hln⟩ : ∃ n, xs.length = n := ⟨_, rfl⟩
  have hin : i < n := by rw [← hln]; exact (List.getElem?_eq_some_iff.1 hx).1
  rw [hln] at HR hn ⊢
  obtain ⟨g, rfl, hcell⟩ := HR.out.at_ hx
  have hini : (i : Int) < (n : Int) := by omega
  have hni : (n : Int) ≤ 16 := by omega
  have hpi : (p.size : Int) ≤ 200 := by omega
  have hins : inside (i : Int) n = true := decide_eq_true (by omega)
  have HI := hid (show i < n ∧ n ≤ 16 from ⟨hin, hn⟩); have HIN := hid hins; have HCE := hid hcell
  clear hc hf hx hln hin hn hp hins hcell hnn hq
  go_enter Try.func23, Try.ntmps23
  go_wp2_with fail
  refine (has_any _ n c i (by have := HI.out; omega) (by have := HI.out; omega) _).mono ?_
  rintro e w1 ⟨rfl, rfl⟩
  rw [HIN.out]
  go_wp2_with fail
  have hold : Facts.hold [(3, fun w' => w'.cell? ⟨g, i, none⟩ = some (.iface ty v0))] w1.drew := Facts.cons_hold HCE.out (Facts.nil_hold _)
  refine wpD_region hold (by kernel_rfl) 14 rfl ?_
  (refine wpD_plain 0 (v := ?_) rfl (by kernel_rfl) (by kernel_rfl) (by kernel_rfl) (fun _ _ _ h => h) (by rfl) ?_ (by assumption) ?_; rotate_left; (intro _w; go_simp; try with_reducible rfl); simp only [Act.put, List.setIfInBounds_toArray, List.set_cons_zero, List.set_cons_succ])
  (refine wpD_plain 1 (v := ?_) rfl (by kernel_rfl) (by kernel_rfl) (by kernel_rfl) (fun _ _ _ h => h) (by rfl) ?_ (by assumption) ?_; rotate_left; (intro _w; go_simp; try with_reducible rfl); simp only [Act.put, List.setIfInBounds_toArray, List.set_cons_zero, List.set_cons_succ])
  (refine wpD_plain 2 (v := ?_) rfl (by kernel_rfl) (by kernel_rfl) (by kernel_rfl) (fun _ _ _ h => h) (by rfl) ?_ (by assumption) ?_; rotate_left; (intro _w; go_simp; try with_reducible rfl); simp only [Act.put, List.setIfInBounds_toArray, List.set_cons_zero, List.set_cons_succ])
  (refine wpD_take 3 _ rfl (by kernel_rfl) (by kernel_rfl) (by kernel_rfl) (fun _ _ _ h => h) List.mem_cons_self (by rfl) (v := ?_) ?_ (by assumption) ?_; rotate_left; (intro _w _hw; go_simp; try with_reducible rfl); simp only [Act.put, List.setIfInBounds_toArray, List.set_cons_zero, List.set_cons_succ])
  (refine wpD_plain 4 (v := ?_) rfl (by kernel_rfl) (by kernel_rfl) (by kernel_rfl) (fun _ _ _ h => h) (by rfl) ?_ (by assumption) ?_; rotate_left; (intro _w; go_simp; try with_reducible rfl); simp only [Act.put, List.setIfInBounds_toArray, List.set_cons_zero, List.set_cons_succ])
  (refine wpD_plain 6 (v := ?_) rfl (by kernel_rfl) (by kernel_rfl) (by kernel_rfl) (fun _ _ _ h => h) (by rfl) ?_ (by assumption) ?_; rotate_left; (intro _w; go_simp; try with_reducible rfl); simp only [Act.put, List.setIfInBounds_toArray, List.set_cons_zero, List.set_cons_succ])
  (refine wpD_plain 7 (v := ?_) rfl (by kernel_rfl) (by kernel_rfl) (by kernel_rfl) (fun _ _ _ h => h) (by rfl) ?_ (by assumption) ?_; rotate_left; (intro _w; go_simp; try with_reducible rfl); simp only [Act.put, List.setIfInBounds_toArray, List.set_cons_zero, List.set_cons_succ])
  (refine wpD_plain 8 (v := ?_) rfl (by kernel_rfl) (by kernel_rfl) (by kernel_rfl) (fun _ _ _ h => h) (by rfl) ?_ (by assumption) ?_; rotate_left; (intro _w; go_simp; try with_reducible rfl); simp only [Act.put, List.setIfInBounds_toArray, List.set_cons_zero, List.set_cons_succ])
  refine wpD_only 5 [(3, fun w' => w'.cell? ⟨g, i, none⟩ = some (.iface ty v0))] rfl (by kernel_rfl) (by kernel_rfl) (by rfl) (fun K5 hK5 => ?_)
  refine wp_call _ [_] _ rfl _ [] rfl (fun _ _ => by kernel_rfl) [.int .u64 (nn : Int)] rfl ?_
  refine (bytesOf_any nn HNN.out _).mono ?_
  rintro e w2 ⟨rfl, hf2⟩
  have hc2 : w2.cell? ⟨g, i, none⟩ = some (.iface ty v0) := hf2.cell (w := w1.drew) HCE.out id
  refine ⟨_, rfl, hK5 _ _ (Facts.cons_hold hc2 (Facts.nil_hold _)) ?_⟩
  have hcc := HC.out w2 ((Fr.refl No w1).drew.trans' hf2)
  clear hK5 K5 hold hf2
  simp only [Act.put, List.setIfInBounds_toArray, List.set_cons_zero, List.set_cons_succ]
  refine wpD_only 9 [(3, fun w' => w'.cell? ⟨g, i, none⟩ = some (.iface ty v0))] rfl (by kernel_rfl) (by kernel_rfl) (by rfl) (fun K9 hK9 => ?_)
  rcases HF.out with ⟨rfl, rfl⟩ | ⟨rfl, rfl⟩
  · refine wp_enter 61 [v0, .string (sb (eight nn)), .string p] (by kernel_rfl) ?_
    refine hcc.mono ?_
    rintro e w3 ⟨l, cc, rfl, hq⟩
    obtain ⟨g', eg, hc3⟩ := HKp.out _ _ _ hq
    cases eg
    have hold : Facts.hold [(3, fun w' => w'.cell? ⟨g, i, none⟩ = some (.iface 59 v0))] w3 := Facts.cons_hold hc3 (Facts.nil_hold _)
    refine ⟨_, rfl, hK9 _ _ hold ?_⟩
    clear hK9 K9 hcc
    simp only [Act.put, List.setIfInBounds_toArray, List.set_cons_zero, List.set_cons_succ]
    (refine wpD_plain 10 (v := ?_) rfl (by kernel_rfl) (by kernel_rfl) (by kernel_rfl) (fun _ _ _ h => h) (by rfl) ?_ (by assumption) ?_; rotate_left; (intro _w; go_simp; try with_reducible rfl); simp only [Act.put, List.setIfInBounds_toArray, List.set_cons_zero, List.set_cons_succ])
    (refine wpD_plain 11 (v := ?_) rfl (by kernel_rfl) (by kernel_rfl) (by kernel_rfl) (fun _ _ _ h => h) (by rfl) ?_ (by assumption) ?_; rotate_left; (intro _w; go_simp; try with_reducible rfl); simp only [Act.put, List.setIfInBounds_toArray, List.set_cons_zero, List.set_cons_succ])
    (refine wpD_plain 12 (v := ?_) rfl (by kernel_rfl) (by kernel_rfl) (by kernel_rfl) (fun _ _ _ h => h) (by rfl) ?_ (by assumption) ?_; rotate_left; (intro _w; go_simp; try with_reducible rfl); simp only [Act.put, List.setIfInBounds_toArray, List.set_cons_zero, List.set_cons_succ])
    (refine wpD_plain 13 (v := ?_) rfl (by kernel_rfl) (by kernel_rfl) (by kernel_rfl) (fun _ _ _ h => h) (by rfl) ?_ (by assumption) ?_; rotate_left; (intro _w; go_simp; try with_reducible rfl); simp only [Act.put, List.setIfInBounds_toArray, List.set_cons_zero, List.set_cons_succ])
    refine wpD_done (by kernel_rfl) ?_ _
    go_wp2_with fail
    go_ret2
    exact ⟨l, cc, rfl, hq⟩
  · refine wp_enter 93 [v0, .string (sb (eight nn)), .string p] (by kernel_rfl) ?_
    refine hcc.mono ?_
    rintro e w3 ⟨l, cc, rfl, hq⟩
    obtain ⟨g', eg, hc3⟩ := HKp.out _ _ _ hq
    cases eg
    have hold : Facts.hold [(3, fun w' => w'.cell? ⟨g, i, none⟩ = some (.iface 67 v0))] w3 := Facts.cons_hold hc3 (Facts.nil_hold _)
    refine ⟨_, rfl, hK9 _ _ hold ?_⟩
    clear hK9 K9 hcc
    simp only [Act.put, List.setIfInBounds_toArray, List.set_cons_zero, List.set_cons_succ]
    (refine wpD_plain 10 (v := ?_) rfl (by kernel_rfl) (by kernel_rfl) (by kernel_rfl) (fun _ _ _ h => h) (by rfl) ?_ (by assumption) ?_; rotate_left; (intro _w; go_simp; try with_reducible rfl); simp only [Act.put, List.setIfInBounds_toArray, List.set_cons_zero, List.set_cons_succ])
    (refine wpD_plain 11 (v := ?_) rfl (by kernel_rfl) (by kernel_rfl) (by kernel_rfl) (fun _ _ _ h => h) (by rfl) ?_ (by assumption) ?_; rotate_left; (intro _w; go_simp; try with_reducible rfl); simp only [Act.put, List.setIfInBounds_toArray, List.set_cons_zero, List.set_cons_succ])
    (refine wpD_plain 12 (v := ?_) rfl (by kernel_rfl) (by kernel_rfl) (by kernel_rfl) (fun _ _ _ h => h) (by rfl) ?_ (by assumption) ?_; rotate_left; (intro _w; go_simp; try with_reducible rfl); simp only [Act.put, List.setIfInBounds_toArray, List.set_cons_zero, List.set_cons_succ])
    (refine wpD_plain 13 (v := ?_) rfl (by kernel_rfl) (by kernel_rfl) (by kernel_rfl) (fun _ _ _ h => h) (by rfl) ?_ (by assumption) ?_; rotate_left; (intro _w; go_simp; try with_reducible rfl); simp only [Act.put, List.setIfInBounds_toArray, List.set_cons_zero, List.set_cons_succ])
    refine wpD_done (by kernel_rfl) ?_ _
    go_wp2_with fail
    go_ret2
    exact ⟨l, cc, rfl, hq⟩
theorem topen_out (a : Option Addr) (n c : Nat) (i : Int) (p : S) (hn : n ≤ 16) (hi : -9223372036854775808 ≤ i ∧ i ≤ 9223372036854775807) (ho : inside i n = false) (w : World) :
    Calls Try.prog 27 #[.slice a n c, .int .i64 i, .string p] w fun e w' => e = told [] 81 ∧ w' = w := by
  have HI := hid hi; have HO := hid ho
  clear hi ho
  go_enter Try.func27, Try.ntmps27
  go_wp2_with fail
  refine (has_any a n c i (by omega) HI.out _).mono ?_
  rintro e w1 ⟨rfl, rfl⟩
  rw [HO.out]
  go_wp2_with fail
  go_ret2
  exact ⟨rfl, rfl⟩
set_option maxHeartbeats 1000000 in
theorem topen_in (v : Value) (xs : List Value) (i : Nat) (p : S) (w : World) (hr : Row w v xs) (hn : xs.length ≤ 16) (ty : TypeId) (v0 : Value) (hx : xs[i]? = some (.iface ty v0)) (f : FuncId) (hf : openOf ty f) (Q : List UInt8 → Nat → World → Prop)
    (hc : Calls Try.prog f #[v0, .string p] w (Tl Q)) :
    Calls Try.prog 27 #[v, .int .i64 (i : Int), .string p] w (Tl Q) := by
  have HR := hid hr; have HC := hid hc; have HF := hid hf
  obtain ⟨a, c, rfl, -⟩ := hr
  obtain ⟨n, hln⟩ : ∃ n, xs.length = n := ⟨_, rfl⟩
  have hin : i < n := by rw [← hln]; exact (List.getElem?_eq_some_iff.1 hx).1
  rw [hln] at HR hn ⊢
  obtain ⟨g, rfl, hcell⟩ := HR.out.at_ hx
  have hini : (i : Int) < (n : Int) := by omega
  have hni : (n : Int) ≤ 16 := by omega
  have hins : inside (i : Int) n = true := decide_eq_true (by omega)
  have HI := hid (show i < n ∧ n ≤ 16 from ⟨hin, hn⟩); have HIN := hid hins
  clear hc hf hx hln hin hn hins
  rcases HF.out with ⟨rfl, rfl⟩ | ⟨rfl, rfl⟩
  · go_enter Try.func27, Try.ntmps27
    go_wp2_with fail
    refine (has_any _ n c i (by have := HI.out; omega) (by have := HI.out; omega) _).mono ?_
    rintro e w1 ⟨rfl, rfl⟩
    rw [HIN.out]
    go_wp2_with (first | ((with_reducible show wpList _ _ _ (⟨_, .call { callee := .invoke _ _, args := _, argTypes := _ }, _, _, _, _⟩ :: _) _ _); refine wpList_plain rfl fun K hK => wp_enter 60 [v0, .string p] (by kernel_rfl) ?_) | fail)
    refine HC.out.mono ?_
    rintro e w3 ⟨l, cc, rfl, hq⟩
    refine ⟨_, rfl, hK _ _ ?_⟩
    go_wp2_with fail
    go_ret2
    exact ⟨l, cc, rfl, hq⟩
  · go_enter Try.func27, Try.ntmps27
    go_wp2_with fail
    refine (has_any _ n c i (by have := HI.out; omega) (by have := HI.out; omega) _).mono ?_
    rintro e w1 ⟨rfl, rfl⟩
    rw [HIN.out]
    go_wp2_with (first | ((with_reducible show wpList _ _ _ (⟨_, .call { callee := .invoke _ _, args := _, argTypes := _ }, _, _, _, _⟩ :: _) _ _); refine wpList_plain rfl fun K hK => wp_enter 92 [v0, .string p] (by kernel_rfl) ?_) | fail)
    refine HC.out.mono ?_
    rintro e w3 ⟨l, cc, rfl, hq⟩
    refine ⟨_, rfl, hK _ _ ?_⟩
    go_wp2_with fail
    go_ret2
    exact ⟨l, cc, rfl, hq⟩
end Go.Proofs.Ytakmeipmngeilaa.SE

set_option linter.unusedVariables false
set_option linter.unusedSimpArgs false
namespace Go.Proofs.Ytakmeipmngeilaa.SE
set_option maxRecDepth 100000
open Go.RowKit K

/-- How a remembered value reads. -/
def RV : Value → Option (DataW Unit × List MemPlace)
  | .agg cs => match cs.toList with
    | [.string s] => some (.lit (.string s.data.toList), [])
    | _ => none
  | _ => none
theorem RV_mk (s : S) : RV (.agg #[.string s]) = some (.lit (.string s.data.toList), []) := rfl
theorem RV_inv {v : Value} {l : List UInt8} {ps : List MemPlace} (h : RV v = some (.lit (.string l), ps)) : v = .agg #[.string (sb l)] := by
  unfold RV at h
  split at h
  · rename_i cs
    split at h
    · rename_i s he
      simp only [Option.some.injEq, Prod.mk.injEq, DataW.lit.injEq, Lit.string.injEq] at h
      obtain ⟨h1, -⟩ := h
      have : cs = #[.string s] := Array.toList_inj.1 he
      rw [this, ← h1, sb_of]
    · cases h
  · cases h
abbrev kstr : Go.Maps.Keyed Try.prog 9 := Go.Maps.string_keyed Try.underlying9
/-- Block b is a map of at most n entries that says f. -/
def MpAt (w : World) (b n : Nat) (f : List UInt8 → Option (List UInt8)) : Prop :=
  ∃ D, w.ownsMap Try.prog 9 RV b n D ∧ ∀ s : List UInt8, s.length ≤ 1000 → Go.Maps.has D (.string s) = (f s).isSome ∧ ∀ p, f s = some p → D.atKey (.string s) (.lit (.string [])) = .lit (.string p)
def updM (f : List UInt8 → Option (List UInt8)) (s p : List UInt8) : List UInt8 → Option (List UInt8) := fun t => if t = s then some p else f t
theorem MpAt.lt {w : World} {b n : Nat} {f : List UInt8 → Option (List UInt8)} (h : MpAt w b n f) : b < w.heap.size := h.elim fun _ h => h.1.lt
theorem MpAt.fr {D : Nat → Prop} {w w' : World} {b n : Nat} {f : List UInt8 → Option (List UInt8)} (h : MpAt w b n f) (hf : Fr D w w') (hn : ¬ D b) : MpAt w' b n f := by
  obtain ⟨E, ⟨es, clock, hb, r⟩, h2⟩ := h
  exact ⟨E, ⟨es, clock, (hf.block b (Array.getElem?_eq_some_iff.1 hb).1 hn).trans hb, r⟩, h2⟩
theorem keyOf_s (s : S) (h : s.size ≤ 1000) : keyOf Try.prog 9 (.string s) = some (.string s.data.toList) := by
  rw [keyOf_string Try.underlying9]
  unfold mapKey
  rw [Try.underlying9]
  have : s.size ≤ maxLen := by unfold maxLen; omega
  simp [this]
theorem zeroVal (w : World) : (zeroValue 140).run Try.prog w = .ok (.agg #[.string ⟨#[]⟩]) w := by kernel_rfl
theorem RV_zero : RV (.agg #[.string ⟨#[]⟩]) = some (.lit (.string []), []) := rfl
/-- What a key that is not there tells. -/
def got (f : List UInt8 → Option (List UInt8)) (s : List UInt8) : List UInt8 := (f s).getD []
theorem MpAt.run_look {w : World} {b n : Nat} {f : List UInt8 → Option (List UInt8)} (h : MpAt w b n f) (s : S) (hs : s.size ≤ 1000) :
    ∃ v, (Instr.lookup 65 (.map (some b)) (.string s) true).run Try.prog w = .ok (.tuple #[v, .bool (f s.data.toList).isSome]) w ∧ (∀ p, f s.data.toList = some p → v = .agg #[.string (sb p)]) ∧ ∃ x, v = .agg #[.string x] := by
  obtain ⟨D, hD, h2⟩ := h
  obtain ⟨h3, h4⟩ := h2 s.data.toList (by rw [size_list]; exact hs)
  obtain ⟨v, ps, hr, hv⟩ := hD.look_ok kstr Try.underlying65 (zeroVal w) RV_zero (keyOf_s s hs)
  rw [h3] at hr
  refine ⟨v, hr, fun p hp => ?_, ?_⟩
  · rw [h4 p hp] at hv
    exact RV_inv hv
  · unfold RV at hv
    split at hv
    · rename_i cs
      split at hv
      · rename_i x he
        exact ⟨x, congrArg Value.agg (Array.toList_inj.1 he)⟩
      · cases hv
    · cases hv
theorem MpAt.run_upd {w : World} {b n : Nat} {f : List UInt8 → Option (List UInt8)} (h : MpAt w b n f) (s p : S) (hs : s.size ≤ 1000) (hn : n < 1000000) :
    ∃ w', (Instr.mapUpdate 65 (.map (some b)) (.string s) (.agg #[.string p])).run Try.prog w = .ok () w' ∧ MpAt w' b (n + 1) (updM f s.data.toList p.data.toList) ∧ Fr (fun k => k = b) w w' := by
  obtain ⟨D, hD, h2⟩ := h
  have hk : WideAt.IsKeyLit (Lit.string s.data.toList) := trivial
  obtain ⟨w', hr, ho, hg⟩ := hD.update kstr Try.underlying65 (by unfold maxLen; omega) (keyOf_s s hs) (RV_mk p)
  refine ⟨w', hr, ⟨_, ho, fun t ht => ?_⟩, (frGrown hg).mono fun k e => by have : (some b : Option Nat) = some k := e; exact (Option.some.inj this).symm⟩
  unfold updM
  by_cases he : t = s.data.toList
  · subst he
    rw [if_pos rfl]
    exact ⟨Go.Maps.has_put_same hD.isMap hk _, fun q hq => by rw [Go.Maps.atKey_put_same hD.isMap hk]; cases hq; rfl⟩
  · rw [if_neg he]
    have hne : (Lit.string t) ≠ Lit.string s.data.toList := fun e => he (Lit.string.inj e)
    rw [Go.Maps.has_put_other hne]
    refine ⟨(h2 t ht).1, fun q hq => ?_⟩
    rw [Go.Maps.atKey_put_other hne]
    exact (h2 t ht).2 q hq
theorem MpAt.made (w : World) : MpAt (w.alloc (.map #[] 0)) w.heap.size 0 fun _ => none :=
  ⟨.map [], World.ownsMap_made w _ _ _, fun s _ => ⟨rfl, fun p hp => by cases hp⟩⟩
section
variable {ops : Array Oper} {rest : List Oper} {op : Oper} {a : Act} {w : World} {Q : Exit → Act → World → Prop}
theorem wpL_look (hgd : op.guard = none) (x y : Operand) (ho : op.op = .lookup 65 x y true) (b n : Nat) (f : List UInt8 → Option (List UInt8)) (hx : a.eval x = .map (some b)) (s : S) (hy : a.eval y = .string s) (h : MpAt w b n f) (hs : s.size ≤ 1000)
    (hK : ∀ x : S, Hid (∀ p, f s.data.toList = some p → x = sb p) → wpList Try.prog ops Q rest (a.put op.dst (.tuple #[.agg #[.string x], .bool (f s.data.toList).isSome])) w) : wpList Try.prog ops Q (op :: rest) a w := by
  refine wpList_plain hgd fun K hK' => ?_
  obtain ⟨v, hr, h1, x', rfl⟩ := h.run_look s hs
  have h2 := hK x' (hid fun p hp => by have := h1 p hp; simpa using this)
  unfold Oper.wp
  simp [execOp, ho, hx, hy, hr, Result.andThen]
  exact hK' _ _ h2
theorem wpL_upd (hgd : op.guard = none) (x y z : Operand) (ho : op.op = .mapUpdate 65 x y z) (b n : Nat) (f : List UInt8 → Option (List UInt8)) (hx : a.eval x = .map (some b)) (s p : S) (hy : a.eval y = .string s) (hz : a.eval z = .agg #[.string p]) (h : MpAt w b n f) (hs : s.size ≤ 1000) (hn : n < 1000000)
    (hK : ∀ w', Hid (MpAt w' b (n + 1) (updM f s.data.toList p.data.toList)) → Hid (Fr (fun k => k = b) w w') → wpList Try.prog ops Q rest (a.put op.dst undef) w') : wpList Try.prog ops Q (op :: rest) a w := by
  refine wpList_plain hgd fun K hK' => ?_
  obtain ⟨w', hr, h1, h2⟩ := h.run_upd s p hs hn
  have h3 := hK w' (hid h1) (hid h2)
  unfold Oper.wp
  simp [execOp, ho, hx, hy, hz, hr, Result.andThen]
  exact hK' _ _ h3
theorem wpL_makeMap (hgd : op.guard = none) (t : TypeId) (ho : op.op = .makeMap t none)
    (hK : ∀ w', Hid (MpAt w' w.heap.size 0 fun _ => none) → Hid (Fr No w w') → Hid (w'.heap.size = w.heap.size + 1) → wpList Try.prog ops Q rest (a.put op.dst (.map (some w.heap.size))) w') : wpList Try.prog ops Q (op :: rest) a w := by
  refine wpList_plain hgd fun K hK' => ?_
  have h3 := hK _ (hid (MpAt.made w)) (hid ((Fr.refl No w).alloc _)) (hid (by simp))
  unfold Oper.wp
  simp [execOp, ho, run_makeMap, Result.andThen]
  exact hK' _ _ h3
end
end Go.Proofs.Ytakmeipmngeilaa.SE

set_option linter.unusedVariables false
set_option linter.unusedSimpArgs false
set_option linter.unusedSectionVars false
namespace Go.Proofs.Ytakmeipmngeilaa.SE
set_option maxRecDepth 100000
open Go.RowKit K
variable [SH.Tab]

def rem (num : UInt8) (b : Nat) : Value := .agg #[.int .u8 (num.toNat : Int), .map (some b)]
def rcells (num : UInt8) (b : Nat) : List Value := [.int .u8 (num.toNat : Int), .map (some b)]
/-- What a text of n bytes under a nonce is told as. -/
def form (num : UInt8) (nonce : List UInt8) (n : Nat) : List UInt8 := nonce ++ (List.replicate n 0 ++ (num :: List.replicate 15 0))
theorem form_length (num : UInt8) (nonce : List UInt8) (n : Nat) : (form num nonce n).length = nonce.length + n + 16 := by simp [form]; omega
theorem infoRem : (Try.prog.info? 67).map (·.size) = some 2 := by kernel_rfl
theorem row_set (n : Nat) (num : UInt8) : ((List.replicate ((n + 16) * 1) (Value.int .u8 0)).set n (.int .u8 (num.toNat : Int))) = u8s (List.replicate n 0 ++ (num :: List.replicate 15 0)) := by
  have e : (List.replicate ((n + 16) * 1) (Value.int .u8 0)) = u8s (List.replicate (n + 16) 0) := by simp [u8s]
  rw [e, u8s_set]
  congr 1
  rw [show n + 16 = n + (15 + 1) by omega, ← List.replicate_append_replicate, List.set_append_right _ _ (by simp), List.length_replicate, Nat.sub_self, List.replicate_succ, List.set_cons_zero]
theorem wpL_setV {P : Program} {ops : Array Oper} {rest : List Oper} {op : Oper} {a : Act} {w : World} {Q : Exit → Act → World → Prop} (hgd : op.guard = none) (ty : TypeId) (x y : Operand) (ho : op.op = .store ty x y) (b o : Nat) (v : Value) (hx : a.eval x = .pointer (some ⟨b, o, none⟩)) (hy : a.eval y = v) (hv : v.cells = #[v]) (h1 : v.oneCell' = true)
    (t : TypeId) (cs : List Value) (hB : Blk w b t cs) (hle : o < cs.length) (hi : (P.info? ty).map (·.size) = some 1)
    (h : ∀ w', Hid (Blk w' b t (cs.set o v)) → Hid (Fr (fun k => k = b) w w') → Hid (w'.heap.size = w.heap.size) → wpList P ops Q rest (a.put op.dst undef) w') : wpList P ops Q (op :: rest) a w := by
  refine wpList_plain hgd fun K hK => ?_
  have hS := hB.sets [v] o (by simp; omega)
  have e : spl cs o [v] = cs.set o v := by rw [← spl_cons _ _ _ _ hle, spl_nil]
  rw [e] at hS
  have hrun := AR.run_put (P := P) w b o ty v hv (hB.there o 1 (by omega)) hi h1
  unfold Oper.wp execOp
  simp only [ho, hx, hy, Instr.storeAt, Instr.sureAddr, Sem.run_bind, Sem.run_pure, Result.andThen_ok, hrun]
  exact hK _ _ (h _ (hid hS) (hid ((Fr.refl (fun k => k = b) w).setCells b o _ (.inl rfl))) (hid (by simp)))
set_option maxHeartbeats 1000000 in
theorem rtext_any (num : UInt8) (b : Nat) (n : S) (L : Nat) (hn : n.size = 8) (hL : L ≤ 200) (w : World) : Calls Try.prog 94 #[rem num b, .string n, .int .i64 (L : Int)] w fun e w' =>
    e = .returned (.string (sb (form num n.data.toList L))) ∧ Fr No w w' := by
  obtain ⟨i5, hi5, hz5, hs5, hb5⟩ := Go.info_parts infoB
  have I5 := hid hi5; have Z5 := hid hz5; have S5 := hid hs5; have B5 := hid hb5
  have HN := hid hn; have HL := hid hL
  have hLi : (L : Int) ≤ 200 := by omega
  have hL16 : ((L : Int) + 16) = ((L + 16 : Nat) : Int) := by omega
  have HL16 := hid hL16
  clear hi5 hz5 hs5 hb5 hn hL hL16
  go_enter Try.func94, Try.ntmps94
  go_wp2_with (first
    | ((with_reducible show wpList _ _ _ (⟨_, .box 67 _, _, _, _, _⟩ :: _) _ _); refine wpL_box rfl _ _ rfl (rem num b) rfl (rcells num b) rfl ?_; intro w1 HB1 HF1 HS1; have x0 : w1.cell? ⟨w.heap.size, 0, none⟩ = some (.int .u8 (num.toNat : Int)) := HB1.out.cell 0)
    | ((with_reducible show wpList _ _ _ (⟨_, .makeSlice 38 _ _, _, _, _, _⟩ :: _) _ _); refine wpL_make rfl _ _ _ rfl _ i5 _ (.int .u8 0) 1 Try.underlying38 I5.out Z5.out rfl (by decide) S5.out _ _ (L + 16) (congrArg (Value.int .i64) HL16.out) (congrArg (Value.int .i64) HL16.out) (by rw [B5.out]; have := HL.out; omega) (by have := HL.out; unfold maxLen; omega) ?_; intro w2 HB2 HF2 HS2; have y0 := HF2.out.cell x0 id)
    | ((with_reducible show wpList _ _ _ (⟨_, .convert _ 9 _, _, _, _, _⟩ :: _) _ _); refine Hid.out ?_)
    | ((with_reducible show wpList _ _ _ (⟨_, .store 5 _ _, _, _, _, _⟩ :: _) _ _); refine wpL_setV rfl _ _ _ rfl w1.heap.size L (.int .u8 (num.toNat : Int)) rfl rfl rfl rfl _ _ HB2.out (by rw [List.length_replicate]; omega) AE.info1 ?_; intro w3 HB3 HF3 HS3)
    | fail)
  have hB3 := HB3.out
  rw [row_set] at hB3
  obtain ⟨F, hF⟩ : ∃ F, (List.replicate L 0 ++ (num :: List.replicate 15 0) : List UInt8) = F := ⟨_, rfl⟩
  have hFl : F.length = L + 16 := by rw [← hF]; simp
  rw [hF] at hB3
  have hfm : form num n.data.toList L = n.data.toList ++ F := by rw [← hF]; rfl
  have HFM := hid hfm
  have HBI : Hid (BytesIn w3 Any (.slice (some ⟨w1.heap.size, 0, none⟩) (L + 16) (L + 16)) F) := hid (by have := blk_bytes hB3; rwa [hFl] at this)
  have hf8 : ((sb F).size : Int) ≤ 8388608 := by rw [sb_size, hFl]; have := HL.out; omega
  have hn8 : (n.size : Int) ≤ 8388608 := by have := HN.out; omega
  have HF := hid ((HF1.out.trans' HF2.out).trans HF3.out fun j e => .inr (by have := HS1.out; have : j = w1.heap.size := e; omega))
  clear hB3 hF hFl hfm HB1 HF1 HS1 HB2 HF2 HS2 HB3 HF3 HS3 x0 y0
  refine hid ?_
  go_wp2_with (first
    | ((with_reducible show wpList _ _ _ (⟨_, .convert _ 9 _, _, _, _, _⟩ :: _) _ _); refine wpL_stringS rfl _ rfl _ _ F rfl HBI.out ?_)
    | fail)
  rw [app_sb, ← HFM.out]
  go_ret
  exact ⟨rfl, HF.out⟩
theorem zeroRem (w : World) : (zeroValue 67).run Try.prog w = .ok (.agg #[.int .u8 0, .map none]) w := by kernel_rfl
theorem buildRem (n : Int) (b : Nat) (w : World) : (Instr.build 67 #[(0, .int .u8 n), (1, .map (some b))]).run Try.prog w = .ok (.agg #[.int .u8 n, .map (some b)]) w := by kernel_rfl
theorem zeroVl (w : World) : (zeroValue 140).run Try.prog w = .ok (.agg #[.string ⟨#[]⟩]) w := by kernel_rfl
theorem infoVl : (Try.prog.info? 140).map (·.size) = some 1 := by kernel_rfl
theorem buildVl (s : S) (w : World) : (Instr.build 140 #[(0, .string s)]).run Try.prog w = .ok (.agg #[.string s]) w := by kernel_rfl
set_option maxHeartbeats 1000000 in
theorem newRem_any (n : Nat) (hn : n < 256) (w : World) : Calls Try.prog 28 #[.int .i64 (n : Int)] w fun e w' =>
    e = .returned (rem (UInt8.ofNat n) (w.heap.size + 1)) ∧ MpAt w' (w.heap.size + 1) 0 (fun _ => none) ∧ Fr No w w' := by
  have hwr : (n : Int) % 256 = (n : Int) := by omega
  have hnn : ((UInt8.ofNat n).toNat : Int) = (n : Int) := by rw [UInt8.toNat_ofNat', Nat.mod_eq_of_lt hn]
  have HNN := hid hnn
  clear hnn hn
  go_enter Try.func28, Try.ntmps28
  go_wp2_with (first
    | ((with_reducible show wpList _ _ _ (⟨_, .alloc 67, _, _, _, _⟩ :: _) _ _); refine wpL_alloc rfl _ rfl _ zeroRem [.int .u8 0, .map none] rfl ?_; intro w1 HB1 HF1 HS1)
    | ((with_reducible show wpList _ _ _ (⟨_, .makeMap _ _, _, _, _, _⟩ :: _) _ _); refine wpL_makeMap rfl _ rfl ?_; intro w2 HM2 HF2 HS2)
    | ((with_reducible show wpList _ _ _ (⟨_, .build 67 _, _, _, _, _⟩ :: _) _ _); refine wpL_build rfl _ [(0, .tmp 4), (1, .tmp 5)] rfl (.agg #[.int .u8 (n : Int), .map (some w1.heap.size)]) (buildRem _ _ _) ?_)
    | ((with_reducible show wpList _ _ _ (⟨_, .store 67 _ _, _, _, _, _⟩ :: _) _ _); refine Hid.out ?_)
    | fail)
  refine hid ?_
  refine wpL_store rfl _ _ _ rfl w.heap.size 0 [.int .u8 (n : Int), .map (some w1.heap.size)] rfl rfl _ _ (HB1.out.fr HF2.out id) (Nat.le_refl 2) infoRem (fun v hv => by rcases List.mem_cons.1 hv with rfl | hv; rfl; rcases List.mem_cons.1 hv with rfl | hv; rfl; cases hv) ?_; intro w3 HB3 HF3 HS3
  go_wp2_with fail
  have hB3 := HB3.out
  rw [spl_whole _ _ (by rfl)] at hB3
  refine ret_cell rfl _ rfl hB3 rfl rfl (by simpa using infoRem) rfl ?_
  have hs1 := HS1.out
  rw [← hs1]
  refine ⟨?_, HM2.out.fr HF3.out (fun e => by have : w1.heap.size = w.heap.size := e; omega), (HF1.out.trans' HF2.out).trans HF3.out fun j e => .inr (by have : j = w.heap.size := e; omega)⟩
  unfold rem
  rw [HNN.out]
set_option maxHeartbeats 1000000 in
theorem rseal_used (num : UInt8) (b m : Nat) (f : List UInt8 → Option (List UInt8)) (n p : S) (w : World) (h : MpAt w b m f) (hn : n.size = 8) (q : List UInt8) (hq : f n.data.toList = some q) :
    Calls Try.prog 93 #[rem num b, .string n, .string p] w fun e w' => e = told [] 80 ∧ Fr No w w' := by
  have HN := hid hn; have HM := hid h
  have hs : (f n.data.toList).isSome = true := by rw [hq]; rfl
  have HS := hid hs
  clear hn h hq hs
  go_enter Try.func93, Try.ntmps93
  go_wp2_with (first
    | ((with_reducible show wpList _ _ _ (⟨_, .box 67 _, _, _, _, _⟩ :: _) _ _); refine wpL_box rfl _ _ rfl (rem num b) rfl (rcells num b) rfl ?_; intro w1 HB1 HF1 HS1; have x1 : w1.cell? ⟨w.heap.size, 1, none⟩ = some (.map (some b)) := HB1.out.cell 1)
    | ((with_reducible show wpList _ _ _ (⟨_, .lookup _ _ _ _, _, _, _, _⟩ :: _) _ _); refine wpL_look rfl _ _ rfl b m f rfl n rfl (HM.out.fr HF1.out id) (by rw [HN.out]; decide) ?_; intro x2 HX2; rw [HS.out])
    | ((with_reducible show wpList _ _ _ (⟨_, .alloc 140, _, _, _, _⟩ :: _) _ _); refine wpL_alloc rfl _ rfl _ zeroVl [.string ⟨#[]⟩] rfl ?_; intro w3 HB3 HF3 HS3)
    | ((with_reducible show wpList _ _ _ (⟨_, .store 140 _ _, _, _, _, _⟩ :: _) _ _); refine wpL_store rfl _ _ _ rfl w1.heap.size 0 [.string x2] rfl rfl _ _ HB3.out (Nat.le_refl 1) infoVl (fun v hv => by obtain rfl := List.mem_singleton.1 hv; rfl) ?_; intro w4 HB4 HF4 HS4)
    | fail)
  go_ret2
  exact ⟨rfl, (HF1.out.trans' HF3.out).trans HF4.out fun j e => .inr (by have := HS1.out; have : j = w1.heap.size := e; omega)⟩
set_option maxHeartbeats 1000000 in
theorem rseal_new (num : UInt8) (b m : Nat) (f : List UInt8 → Option (List UInt8)) (n p : S) (w : World) (h : MpAt w b m f) (hn : n.size = 8) (hp : p.size ≤ 200) (hm : m < 1000000) (hq : f n.data.toList = none) :
    Calls Try.prog 93 #[rem num b, .string n, .string p] w fun e w' => e = told (form num n.data.toList p.size) 0 ∧ MpAt w' b (m + 1) (updM f n.data.toList p.data.toList) ∧ Fr (fun k => k = b) w w' := by
  have HN := hid hn; have HM := hid h; have HP := hid hp; have HMm := hid hm
  have hs : (f n.data.toList).isSome = false := by rw [hq]; rfl
  have HS := hid hs
  have HBW := hid h.lt
  clear hn h hq hs hp hm
  go_enter Try.func93, Try.ntmps93
  go_wp2_with (first
    | ((with_reducible show wpList _ _ _ (⟨_, .box 67 _, _, _, _, _⟩ :: _) _ _); refine wpL_box rfl _ _ rfl (rem num b) rfl (rcells num b) rfl ?_; intro w1 HB1 HF1 HS1; have x1 : w1.cell? ⟨w.heap.size, 1, none⟩ = some (.map (some b)) := HB1.out.cell 1)
    | ((with_reducible show wpList _ _ _ (⟨_, .lookup _ _ _ _, _, _, _, _⟩ :: _) _ _); refine wpL_look rfl _ _ rfl b m f rfl n rfl (HM.out.fr HF1.out id) (by rw [HN.out]; decide) ?_; intro x2 HX2; rw [HS.out])
    | ((with_reducible show wpList _ _ _ (⟨_, .alloc 140, _, _, _, _⟩ :: _) _ _); refine wpL_alloc rfl _ rfl _ zeroVl [.string ⟨#[]⟩] rfl ?_; intro w3 HB3 HF3 HS3)
    | ((with_reducible show wpList _ _ _ (⟨_, .store 140 _ _, _, _, _, _⟩ :: _) _ _); refine wpL_store rfl _ _ _ rfl w1.heap.size 0 [.string x2] rfl rfl _ _ HB3.out (Nat.le_refl 1) infoVl (fun v hv => by obtain rfl := List.mem_singleton.1 hv; rfl) ?_; intro w4 HB4 HF4 HS4; have x4 : w4.cell? ⟨w.heap.size, 1, none⟩ = some (.map (some b)) := HF4.out.cell (HF3.out.cell x1 id) (fun e => by have := HS1.out; have : w.heap.size = w1.heap.size := e; omega))
    | ((with_reducible show wpList _ _ _ (⟨_, .build 140 _, _, _, _, _⟩ :: _) _ _); refine wpL_build rfl _ [(0, .tmp 21)] rfl (.agg #[.string p]) (buildVl _ _) ?_)
    | ((with_reducible show wpList _ _ _ (⟨_, .mapUpdate _ _ _ _, _, _, _, _⟩ :: _) _ _); refine Hid.out ?_)
    | fail)
  have HF := hid ((HF1.out.trans' HF3.out).trans HF4.out (D' := fun k => k = w1.heap.size) fun j e => .inr (by have := HS1.out; have : j = w1.heap.size := e; omega))
  have HR4 := hid (show Blk w4 w.heap.size 67 (rcells num b) from ((HB1.out.fr HF3.out id).fr HF4.out (fun e => by have := HS1.out; have : w.heap.size = w1.heap.size := e; omega)))
  have HM4 := hid (HM.out.fr HF.out id)
  clear HB1 HF1 HS1 x1 HB3 HF3 HS3 HB4 HF4 HS4 x4 HX2
  refine hid ?_
  go_wp2_with (first
    | ((with_reducible show wpList _ _ _ (⟨_, .mapUpdate _ _ _ _, _, _, _, _⟩ :: _) _ _); refine wpL_upd rfl _ _ _ rfl b m f rfl n p rfl rfl HM4.out (by rw [HN.out]; decide) HMm.out ?_; intro w5 HM5 HF5)
    | ((with_reducible show wpList _ _ _ (⟨_, .load 67 _, _, _, _, _⟩ :: _) _ _); refine wpL_load rfl _ _ rfl w.heap.size 0 rfl (rcells num b) _ ((HR4.out.fr HF5.out (fun e => by have := HBW.out; have : w.heap.size = b := e; omega)).range 0 _ (by rfl)) Try.underlying67 rfl infoRem ?_)
    | fail)
  refine (rtext_any num b n p.size HN.out HP.out _).mono ?_
  rintro e w6 ⟨rfl, hf6⟩
  have HM6 := hid (HM5.out.fr hf6 id)
  have HF6 := hid (((HF.out.no (D := fun k => k = b)).trans' HF5.out).trans hf6 fun j e => e.elim)
  clear hf6 HM5 HF5 HR4 HM4
  go_wp2_with fail
  go_ret2
  exact ⟨rfl, HM6.out, HF6.out⟩
/-- What is opened, and the error. -/
def ropen (num : UInt8) (f : List UInt8 → Option (List UInt8)) (s : List UInt8) : List UInt8 × Nat :=
  if s.length < 8 then ([], 80) else match f (s.take 8) with
    | none => ([], 80)
    | some p => if s = form num (s.take 8) p.length then (p, 0) else ([], 80)
set_option maxHeartbeats 2000000 in
theorem ropen_any (num : UInt8) (b m : Nat) (f : List UInt8 → Option (List UInt8)) (s : S) (w : World) (h : MpAt w b m f) (hb : ∀ t p, f t = some p → p.length ≤ 200) (hs : s.size ≤ 140737488355328) :
    Calls Try.prog 92 #[rem num b, .string s] w fun e w' => e = told (ropen num f s.data.toList).1 (ropen num f s.data.toList).2 ∧ Fr No w w' := by
  have HM := hid h; have HB := hid hb
  have hsi : (s.size : Int) ≤ 140737488355328 := by omega
  obtain ⟨R, hR⟩ : ∃ R, ropen num f s.data.toList = R := ⟨_, rfl⟩
  rw [hR]
  have HR := hid hR
  clear h hb hR
  by_cases h8 : s.size < 8
  · have hi : (s.size : Int) < 8 := by omega
    have hr : R = ([], 80) := by rw [← HR.out]; unfold ropen; rw [if_pos (by rw [size_list]; exact h8)]
    have HRR := hid hr
    clear hr h8
    go_enter Try.func92, Try.ntmps92
    go_wp2_with (first
      | ((with_reducible show wpList _ _ _ (⟨_, .box 67 _, _, _, _, _⟩ :: _) _ _); refine wpL_box rfl _ _ rfl (rem num b) rfl (rcells num b) rfl ?_; intro w1 HB1 HF1 HS1)
      | fail)
    go_ret2
    refine ⟨?_, HF1.out⟩
    rw [HRR.out]
    rfl
  have hi : (8 : Int) ≤ (s.size : Int) := by omega
  have hrr : R = (match f (s.data.toList.take 8) with
    | none => ([], 80)
    | some p => if s.data.toList = form num (s.data.toList.take 8) p.length then (p, 0) else ([], 80)) := by rw [← HR.out]; unfold ropen; rw [if_neg (by rw [size_list]; exact h8)]
  obtain ⟨N, hN⟩ : ∃ N, s.data.toList.take 8 = N := ⟨_, rfl⟩
  rw [hN] at hrr
  have hNl : N.length = 8 := by rw [← hN, List.length_take, size_list]; omega
  have hex : s.extract 0 8 = sb N := by rw [ext_sb, List.drop_zero, hN]
  have HEX := hid hex; have HNl := hid hNl; have HRr := hid hrr
  clear h8 hrr hN hNl HR
  cases hf : f N with
  | none =>
    have hr : R = ([], 80) := by rw [HRr.out, hf]
    have HRR := hid hr
    have hs' : (f (sb N).data.toList).isSome = false := by rw [sb_list, hf]; rfl
    have HS := hid hs'
    clear hr hf hs'
    go_enter Try.func92, Try.ntmps92
    go_wp2_with (first
      | ((with_reducible show wpList _ _ _ (⟨_, .box 67 _, _, _, _, _⟩ :: _) _ _); refine wpL_box rfl _ _ rfl (rem num b) rfl (rcells num b) rfl ?_; intro w1 HB1 HF1 HS1; have x1 : w1.cell? ⟨w.heap.size, 1, none⟩ = some (.map (some b)) := HB1.out.cell 1)
      | ((with_reducible show wpList _ _ _ (⟨_, .lookup _ _ _ _, _, _, _, _⟩ :: _) _ _); refine wpL_look rfl _ _ rfl b m f rfl (sb N) rfl (HM.out.fr HF1.out id) (by rw [sb_size, HNl.out]; decide) ?_; intro x2 HX2; rw [HS.out])
      | ((with_reducible show wpList _ _ _ (⟨_, .alloc 140, _, _, _, _⟩ :: _) _ _); refine wpL_alloc rfl _ rfl _ zeroVl [.string ⟨#[]⟩] rfl ?_; intro w3 HB3 HF3 HS3)
      | ((with_reducible show wpList _ _ _ (⟨_, .store 140 _ _, _, _, _, _⟩ :: _) _ _); refine wpL_store rfl _ _ _ rfl w1.heap.size 0 [.string x2] rfl rfl _ _ HB3.out (Nat.le_refl 1) infoVl (fun v hv => by obtain rfl := List.mem_singleton.1 hv; rfl) ?_; intro w4 HB4 HF4 HS4)
      | fail)
    go_ret2
    refine ⟨?_, (HF1.out.trans' HF3.out).trans HF4.out fun j e => .inr (by have := HS1.out; have : j = w1.heap.size := e; omega)⟩
    rw [HRR.out]
    rfl
  | some p =>
    have hr : R = (if s.data.toList = form num N p.length then (p, 0) else ([], 80)) := by rw [HRr.out, hf]
    have HRR := hid hr
    have hs' : (f (sb N).data.toList).isSome = true := by rw [sb_list, hf]; rfl
    have HS := hid hs'
    have HFp := hid (show f (sb N).data.toList = some p by rw [sb_list]; exact hf)
    have HPl := hid (HB.out N p hf)
    clear hr hf hs'
    go_enter Try.func92, Try.ntmps92
    go_wp2_with (first
      | ((with_reducible show wpList _ _ _ (⟨_, .box 67 _, _, _, _, _⟩ :: _) _ _); refine wpL_box rfl _ _ rfl (rem num b) rfl (rcells num b) rfl ?_; intro w1 HB1 HF1 HS1; have x1 : w1.cell? ⟨w.heap.size, 1, none⟩ = some (.map (some b)) := HB1.out.cell 1)
      | ((with_reducible show wpList _ _ _ (⟨_, .lookup _ _ _ _, _, _, _, _⟩ :: _) _ _); refine wpL_look rfl _ _ rfl b m f rfl (sb N) rfl (HM.out.fr HF1.out id) (by rw [sb_size, HNl.out]; decide) ?_; intro x2 HX2; rw [HS.out])
      | ((with_reducible show wpList _ _ _ (⟨_, .alloc 140, _, _, _, _⟩ :: _) _ _); refine wpL_alloc rfl _ rfl _ zeroVl [.string ⟨#[]⟩] rfl ?_; intro w3 HB3 HF3 HS3)
      | ((with_reducible show wpList _ _ _ (⟨_, .store 140 _ _, _, _, _, _⟩ :: _) _ _); refine wpL_store rfl _ _ _ rfl w1.heap.size 0 [.string x2] rfl rfl _ _ HB3.out (Nat.le_refl 1) infoVl (fun v hv => by obtain rfl := List.mem_singleton.1 hv; rfl) ?_; intro w4 HB4 HF4 HS4)
      | ((with_reducible show wpList _ _ _ (⟨_, .load 67 _, _, _, _, _⟩ :: _) _ _); refine Hid.out ?_)
      | fail)
    have hx2 : x2 = sb p := HX2.out p HFp.out
    have c4 : w4.cell? ⟨w1.heap.size, 0, none⟩ = some (.string x2) := by have := HB4.out.cell 0; simpa [spl] using this
    have HF := hid ((HF1.out.trans' HF3.out).trans HF4.out (D' := fun k => k = w1.heap.size) fun j e => .inr (by have := HS1.out; have : j = w1.heap.size := e; omega))
    have HR4 := hid (show Blk w4 w.heap.size 67 (rcells num b) from ((HB1.out.fr HF3.out id).fr HF4.out (fun e => by have := HS1.out; have : w.heap.size = w1.heap.size := e; omega)))
    rw [hx2] at c4 ⊢
    clear HB1 HF1 HS1 x1 HB3 HF3 HS3 HB4 HF4 HS4 HX2 hx2
    refine hid ?_
    go_wp2_with (first
      | ((with_reducible show wpList _ _ _ (⟨_, .load 67 _, _, _, _, _⟩ :: _) _ _); refine wpL_valZ rfl (rem num b) (exec_load _ _ rfl w.heap.size 0 rfl (rcells num b) _ Try.underlying67 rfl infoRem _ (HR4.out.range 0 _ (by rfl))) ?_)
      | fail)
    refine (rtext_any num b (sb N) (sb p).size (by rw [sb_size, HNl.out]) (by rw [sb_size]; exact HPl.out) _).mono ?_
    rintro e w6 ⟨rfl, hf6⟩
    rw [sb_list, sb_size]
    have c6 := hf6.cell c4 id
    have HF6 := hid (HF.out.trans' hf6)
    obtain ⟨G, hG⟩ : ∃ G, form num N p.length = G := ⟨_, rfl⟩
    have hrr := HRR.out
    rw [hG] at hrr ⊢
    have HRr2 := hid hrr
    have hcmp := neq_s s (sb G)
    rw [sb_list] at hcmp
    clear c4 hf6 HF HR4 hG hrr HRR
    by_cases hGT : s.data.toList = G
    · rw [decide_eq_true hGT] at hcmp
      have hr : R = (p, 0) := by rw [HRr2.out, if_pos hGT]
      have HRR := hid hr
      clear hGT hr
      go_wp2_with fail
      go_ret2
      refine ⟨?_, HF6.out⟩
      rw [HRR.out]
      rfl
    · rw [decide_eq_false hGT] at hcmp
      have hr : R = ([], 80) := by rw [HRr2.out, if_neg hGT]
      have HRR := hid hr
      clear hGT hr
      go_wp2_with fail
      go_ret2
      refine ⟨?_, HF6.out⟩
      rw [HRR.out]
      rfl
end Go.Proofs.Ytakmeipmngeilaa.SE
