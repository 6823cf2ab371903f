/-
  Part 12 of the proof: SeW, SeX, SeY, SeA.
-/
import Derived.Test.YtakmeipmngeilaaSe811
set_option linter.unusedVariables false
set_option linter.unusedSimpArgs false
set_option linter.unusedSectionVars false
namespace Go.Proofs.Ytakmeipmngeilaa.SE
set_option maxRecDepth 100000
open Go.RowKit K

theorem wp_appendX {P : Program} {Q : Exit → Act → World → Prop} {K : Act → World → Prop} {op : Oper} {a : Act} {w : World} (s x : Operand) (t : TypeId) (ho : op.op = .call { callee := .builtin .append, args := #[s, x], argTypes := #[t, t] })
    (base : Nat) (e : TypeId) (i : TypeInfo) (z : Value) (size bytes : Nat) (ht : P.underlying t = some (.slice e)) (hi : P.info? e = some i) (hz : i.zero = some z)
    (hsize : i.size = size) (hby : i.bytes = bytes) (hzs : z.cells.size = size) (hsz : 0 < size) (v : Value) (n : Nat) (xs : List Value) (hv : a.eval s = v) (hown : w.ownsRow base e size v n xs)
    (sp : Option Addr) (m c : Nat) (news : List Value) (hx : a.eval x = .slice sp m c) (hl : news.length = m * size) (hsrc : m = 0 ∨ ∃ ad, sp = some ad ∧ ∀ j u, news[j]? = some u → w.cell? (ad.add j) = some u) (h1 : ∀ u ∈ news, u.oneCell' = true)
    (h63 : n + m ≤ maxLen) (hbytes : (n + m) * bytes ≤ 140737488355328) (hbase : base ≤ w.heap.size)
    (h : ∀ a' cap' w', Hid (w'.ownsRow base e size (.slice a' (n + m) cap') (n + m) (xs ++ news)) → Hid (w.grownBy w' v.ownBlock) → Hid ((Value.slice a' (n + m) cap').ownBlock = v.ownBlock ∨ (Value.slice a' (n + m) cap').ownBlock = some w.heap.size) →
      K (a.put op.dst (.slice a' (n + m) cap')) w') : op.wp P a w K Q := by
  obtain ⟨v', w', hr, h2, h3, h4, a', cap', rfl⟩ := run_append_any (P := P) (w := w) t op.type base e i z size bytes ht hi hz hsize hby hzs hsz v n xs hown sp m c news hl hsrc h1 h63 hbytes hbase
  unfold Oper.wp execOp
  simp only [ho, resolve, invoke, builtin, Sem.run_bind, Sem.run_pure, Result.andThen_ok, List.map_toArray, List.map_cons, List.map_nil, hv, hx, hr]
  exact h a' cap' w' h2 h3 h4


theorem wp_setV {P : Program} {op : Oper} {a : Act} {w : World} {K : Act → World → Prop} {Q : Exit → Act → World → Prop} (ty : TypeId) (x y : Operand) (ho : op.op = .store ty x y) (b o : Nat) (v : Value) (hx : a.eval x = .pointer (some ⟨b, o, none⟩)) (hy : a.eval y = v) (hv : v.cells = #[v]) (h1 : v.oneCell' = true)
    (t : TypeId) (cs : List Value) (hB : Blk w b t cs) (hle : o < cs.length) (hi : (P.info? ty).map (·.size) = some 1)
    (h : ∀ w', Hid (Blk w' b t (cs.set o v)) → Hid (Fr (fun k => k = b) w w') → Hid (w'.heap.size = w.heap.size) → K (a.put op.dst undef) w') : op.wp P a w K Q := by
  have hS := hB.sets [v] o (by simp; omega)
  have e : spl cs o [v] = cs.set o v := by rw [← spl_cons _ _ _ _ hle, spl_nil]
  rw [e] at hS
  have hrun := AR.run_put (P := P) w b o ty v hv (hB.there o 1 (by omega)) hi h1
  unfold Oper.wp execOp
  simp only [ho, hx, hy, Instr.storeAt, Instr.sureAddr, Sem.run_bind, Sem.run_pure, Result.andThen_ok, hrun]
  exact h _ (hid hS) (hid ((Fr.refl (fun k => k = b) w).setCells b o _ (.inl rfl))) (hid (by simp))
theorem infoTns : (Try.prog.info? 54).map (·.size) = some 1 := by kernel_rfl
variable [SH.Tab]
/-- A slice v of texts. -/
def Strs (w : World) (v : Value) (ks : List S) : Prop := ∃ a c, v = .slice a ks.length c ∧ (0 < ks.length → ∃ g o, a = some ⟨g, o, none⟩ ∧ w.rangeAt g o (ks.map Value.string))
theorem Strs.no {w w' : World} {v : Value} {ks : List S} (h : Strs w v ks) (hf : Fr No w w') : Strs w' v ks := by
  obtain ⟨a, c, rfl, h1⟩ := h
  refine ⟨a, c, rfl, fun hx => ?_⟩
  obtain ⟨g, o, rfl, h2⟩ := h1 hx
  exact ⟨g, o, rfl, hf.range h2 id⟩
/-- The tenant of number i with key k. -/
def kyv (i : Nat) (k : S) : Ky := if h : k.size = 32 then kyOf (UInt8.ofNat i) k h else ⟨0, fun _ => 0, z16, fun _ => (by decide : (0 : Nat) < 256), rfl⟩
theorem kyv_of (i : Nat) (k : S) (h : k.size = 32) : kyv i k = kyOf (UInt8.ofNat i) k h := dif_pos h
/-- The first m tenants. -/
def vals (ks : List S) (m : Nat) : List Value := (List.range m).map fun i => .iface 59 (kyv i (ks.getD i ⟨#[]⟩)).val
theorem vals_length (ks : List S) (m : Nat) : (vals ks m).length = m := by simp [vals]
theorem vals_next (ks : List S) (m : Nat) : vals ks m ++ [.iface 59 (kyv m (ks.getD m ⟨#[]⟩)).val] = vals ks (m + 1) := by simp [vals, List.range_succ]
theorem vals_at (ks : List S) {m i : Nat} (h : i < m) : (vals ks m)[i]? = some (.iface 59 (kyv i (ks.getD i ⟨#[]⟩)).val) := by simp [vals, h]
/-- A sealer at block b, of the tenants xs; all of it made since W; t: its type. -/
def Own (W w : World) (t : TypeId) (b : Nat) (xs : List Value) : Prop :=
  ∃ v, Blk w b t [v] ∧ w.ownsRow W.heap.size 74 1 v xs.length xs ∧ W.heap.size ≤ b ∧ ∀ g, v.ownBlock = some g → b < g
theorem Own.fr {W w w' : World} {t : TypeId} {b : Nat} {xs : List Value} {D : Nat → Prop} (h : Own W w t b xs) (hf : Fr D w w') (hd : ∀ k, b ≤ k → k < w.heap.size → ¬ D k) : Own W w' t b xs := by
  obtain ⟨v, h1, h2, h3, h4⟩ := h
  exact ⟨v, h1.fr hf (hd b (Nat.le_refl _) h1.lt), own_fr h2 hf (fun k hk => hd k (Nat.le_of_lt (h4 k hk)) (h2.lt k hk).2), h3, h4⟩
theorem Own.no {W w w' : World} {t : TypeId} {b : Nat} {xs : List Value} (h : Own W w t b xs) (hf : Fr No w w') : Own W w' t b xs := h.fr hf fun _ _ _ e => e
theorem row_of_own {W w : World} {v : Value} {xs : List Value} (h : w.ownsRow W.heap.size 74 1 v xs.length xs) : Row w v xs := by
  obtain ⟨a, c, rfl, -, h1⟩ := own_form h
  refine ⟨a, c, rfl, fun hx => ?_⟩
  obtain ⟨g, rfl⟩ := h1 hx
  exact ⟨g, rfl, fun j u hj => by have := (own_at h j u hj).1; rwa [Nat.zero_add]⟩
theorem Own.row {W w : World} {t : TypeId} {b : Nat} {xs : List Value} (h : Own W w t b xs) : ∃ v, Blk w b t [v] ∧ Row w v xs := by
  obtain ⟨v, h1, h2, -, -⟩ := h
  exact ⟨v, h1, row_of_own h2⟩
def good (ks : List S) : Bool := decide (ks.length ≤ 16 ∧ ∀ k ∈ ks, k.size = 32)
def NewPost (w : World) (ks : List S) (e : Ending) (w' : World) : Prop :=
  (good ks = true ∧ ∃ b, e = .returned (.tuple #[.pointer (some ⟨b, 0, none⟩), .int .i64 0]) ∧ Own w w' 56 b (vals ks ks.length) ∧ Fr No w w') ∨
  (good ks = false ∧ e = .returned (.tuple #[.pointer none, .int .i64 1]) ∧ Fr No w w')
theorem infoTn : (Try.prog.info? 74).map (fun i => (i.zero, i.size, i.bytes)) = some (some .nilIface, 1, 16) := by kernel_rfl
theorem buildBox (w : World) : (Instr.build 56 #[]).run Try.prog w = .ok (.agg #[.slice none 0 0]) w := by kernel_rfl
theorem good_long {ks : List S} (h : 16 < ks.length) : good ks = false := decide_eq_false fun e => by omega
theorem good_bad {ks : List S} {m : Nat} (hm : m < ks.length) (h : (ks.getD m ⟨#[]⟩).size ≠ 32) : good ks = false := decide_eq_false fun e => h (by
  rw [List.getD_eq_getElem?_getD, List.getElem?_eq_getElem hm]
  exact e.2 _ (List.getElem_mem hm))
theorem good_all {ks : List S} (h16 : ks.length ≤ 16) (h : ∀ j, j < ks.length → (ks.getD j ⟨#[]⟩).size = 32) : good ks = true := decide_eq_true ⟨h16, fun k hk => by
  obtain ⟨j, hj, rfl⟩ := List.getElem_of_mem hk
  have := h j hj
  rwa [List.getD_eq_getElem?_getD, List.getElem?_eq_getElem hj] at this⟩
set_option maxHeartbeats 4000000 in
theorem new_any (v : Value) (ks : List S) (w : World) (hk : Strs w v ks) (hl : ks.length ≤ 140737488355328) : Calls Try.prog 9 #[v] w (NewPost w ks) := by
  obtain ⟨i5, hi5, hz5, hs5, hb5⟩ := Go.info_parts infoTn
  have I5 := hid hi5; have Z5 := hid hz5; have S5 := hid hs5; have B5 := hid hb5
  have HK := hid hk
  obtain ⟨a, c, rfl, -⟩ := hk
  obtain ⟨n, hn⟩ : ∃ n, ks.length = n := ⟨_, rfl⟩
  rw [hn] at hl
  have HN := hid hn
  have hni : (n : Int) ≤ 140737488355328 := by omega
  rw [hn] at HK ⊢
  clear hi5 hz5 hs5 hb5 hn hl
  by_cases h16 : 16 < n
  · have hi : (16 : Int) < (n : Int) := by omega
    have HB := hid (good_long (ks := ks) (by rw [HN.out]; exact h16))
    clear h16
    go_enter Try.func9, Try.ntmps9
    go_wp2_with fail
    go_ret2
    exact .inr ⟨HB.out, rfl, Fr.refl No w⟩
  have hi : (n : Int) ≤ 16 := by omega
  clear h16
  go_enter Try.func9, Try.ntmps9
  go_wp2_with (first
    | ((with_reducible show wpList _ _ _ (⟨_, .build 56 _, _, _, _, _⟩ :: _) _ _); refine wpL_build rfl _ [] rfl (.agg #[.slice none 0 0]) (buildBox _) ?_)
    | ((with_reducible show wpList _ _ _ (⟨_, .box 56 _, _, _, _, _⟩ :: _) _ _); refine wpL_box rfl _ _ rfl (.agg #[.slice none 0 0]) rfl [.slice none 0 0] rfl ?_; intro w1 HB1 HF1 HS1)
    | fail)
  obtain ⟨bB, hbB⟩ : ∃ b, w.heap.size = b := ⟨_, rfl⟩
  have HW := hid hbB
  have HR := hid (show (∀ j, j < 0 → (ks.getD j ⟨#[]⟩).size = 32) ∧ Own w w1 56 bB (vals ks 0) ∧ Fr No w w1 ∧ 0 ≤ n from
    ⟨fun j hj => by omega, ⟨.slice none 0 0, by rw [← hbB]; exact HB1.out, ⟨rfl, .inl ⟨rfl, rfl⟩⟩, by omega, fun g hg => by cases hg⟩, HF1.out, Nat.zero_le _⟩)
  rw [hbB]
  clear HB1 HF1 HS1 hbB
  go_loopw [14] (fun i wr => ∃ m : Nat, m ≤ n ∧ i = .int .i64 m ∧ Hid ((∀ j, j < m → (ks.getD j ⟨#[]⟩).size = 32) ∧ Own w wr 56 bB (vals ks m) ∧ Fr No w wr ∧ m ≤ n)) (fun i _ => n - (intOf i).toNat)
  case atStart => exact ⟨0, by omega, rfl, HR⟩
  case round =>
    clear HR
    obtain ⟨m, hm, rfl, HR⟩ := hrel
    by_cases hlt : m < n
    · have hlti : (m : Int) < (n : Int) := by omega
      obtain ⟨k, hkk⟩ : ∃ k, ks.getD m ⟨#[]⟩ = k := ⟨_, rfl⟩
      obtain ⟨g, o, hae, hcell⟩ : ∃ g o, a = some ⟨g, o, none⟩ ∧ wr.cell? ⟨g, o + m, none⟩ = some (.string k) := by
        obtain ⟨a', c', e, h1⟩ := HK.out.no HR.out.2.2.1
        cases e
        obtain ⟨g, o, rfl, h2⟩ := h1 (by have := HN.out; omega)
        refine ⟨g, o, rfl, h2 m _ ?_⟩
        rw [List.getElem?_map, List.getElem?_eq_getElem (by have := HN.out; omega)]
        rw [List.getD_eq_getElem?_getD, List.getElem?_eq_getElem (by have := HN.out; omega)] at hkk
        exact congrArg (fun x => some (Value.string x)) hkk
      have HLT := hid hlt; have HKK := hid hkk
      subst hae
      clear hlt hkk
      by_cases h32 : k.size = 32
      · have hb32 : ((k.size : Int) != 32) = false := by rw [bne_eq_false_iff_eq]; omega
        have H32 := hid h32
        clear h32
        obtain ⟨v1, hB1, hO1, hle1, hg1⟩ := HR.out.2.1
        have HB1 := hid hB1; have HO1 := hid hO1; have HG1 := hid hg1
        have c0 : wr.cell? ⟨bB, 0, none⟩ = some v1 := hB1.cell 0
        have HC0 := hid c0
        clear hB1 hO1 hle1 hg1 c0
        go_wp2_with fail
        have hold : Facts.hold [(4, fun w' => w'.cell? ⟨bB, 0, none⟩ = some v1)] wr.drew := Facts.cons_hold HC0.out (Facts.nil_hold _)
        refine wpD_region hold (by kernel_rfl) 14 rfl ?_
        (refine wpD_plain 0 (v := ?_) rfl (by kernel_rfl) (by kernel_rfl) (by kernel_rfl) (fun _ _ _ h => h) (by rfl) ?_ (by assumption) ?_; rotate_left; (intro _w; go_simp; try with_reducible rfl); simp only [Act.put, List.setIfInBounds_toArray, List.set_cons_zero, List.set_cons_succ])
        (refine wpD_plain 1 (v := ?_) rfl (by kernel_rfl) (by kernel_rfl) (by kernel_rfl) (fun _ _ _ h => h) (by rfl) ?_ (by assumption) ?_; rotate_left; (intro _w; go_simp; try with_reducible rfl); simp only [Act.put, List.setIfInBounds_toArray, List.set_cons_zero, List.set_cons_succ])
        (refine wpD_plain 2 (v := ?_) rfl (by kernel_rfl) (by kernel_rfl) (by kernel_rfl) (fun _ _ _ h => h) (by rfl) ?_ (by assumption) ?_; rotate_left; (intro _w; go_simp; try with_reducible rfl); simp only [Act.put, List.setIfInBounds_toArray, List.set_cons_zero, List.set_cons_succ])
        (refine wpD_plain 3 (v := ?_) rfl (by kernel_rfl) (by kernel_rfl) (by kernel_rfl) (fun _ _ _ h => h) (by rfl) ?_ (by assumption) ?_; rotate_left; (intro _w; go_simp; try with_reducible rfl); simp only [Act.put, List.setIfInBounds_toArray, List.set_cons_zero, List.set_cons_succ])
        (refine wpD_take 4 _ rfl (by kernel_rfl) (by kernel_rfl) (by kernel_rfl) (fun _ _ _ h => h) List.mem_cons_self (by rfl) (v := ?_) ?_ (by assumption) ?_; rotate_left; (intro _w _hw; go_simp; try with_reducible rfl); simp only [Act.put, List.setIfInBounds_toArray, List.set_cons_zero, List.set_cons_succ])
        (refine wpD_plain 5 (v := ?_) rfl (by kernel_rfl) (by kernel_rfl) (by kernel_rfl) (fun _ _ _ h => h) (by rfl) ?_ (by assumption) ?_; rotate_left; (intro _w; go_simp; try with_reducible rfl); simp only [Act.put, List.setIfInBounds_toArray, List.set_cons_zero, List.set_cons_succ])
        (refine wpD_plain 6 (v := ?_) rfl (by kernel_rfl) (by kernel_rfl) (by kernel_rfl) (fun _ _ _ h => h) (by rfl) ?_ (by assumption) ?_; rotate_left; (intro _w; go_simp; try with_reducible rfl); simp only [Act.put, List.setIfInBounds_toArray, List.set_cons_zero, List.set_cons_succ])
        clear hold
        have hky := kyv_of m k H32.out
        obtain ⟨ky, hkye⟩ : ∃ ky, kyv m k = ky := ⟨_, rfl⟩
        rw [hkye] at hky
        have HKY := hid hkye
        clear hkye
        refine wpD_only 7 [(4, fun w' => w'.cell? ⟨bB, 0, none⟩ = some v1)] rfl (by kernel_rfl) (by kernel_rfl) (by rfl) (fun K7 hK7 => ?_)
        refine wp_call _ [_, _] _ rfl _ [] rfl (fun _ _ => by kernel_rfl) [.int .i64 (m : Int), .string k] rfl ?_
        refine (newKeyed_any m (by omega) k H32.out _).mono ?_
        rintro e w4 ⟨rfl, hf4⟩
        rw [← hky]
        have HC4 := hid (hf4.cell (w := wr.drew) HC0.out id)
        have HF4 := hid (show Fr No wr w4 from (Fr.refl No wr).drew.trans' hf4)
        refine ⟨_, rfl, hK7 _ _ (Facts.cons_hold HC4.out (Facts.nil_hold _)) ?_⟩
        clear hK7 K7 hf4 hky
        simp only [Act.put, List.setIfInBounds_toArray, List.set_cons_zero, List.set_cons_succ]
        have hold : Facts.hold [(4, fun w' => w'.cell? ⟨bB, 0, none⟩ = some v1)] w4 := Facts.cons_hold HC4.out (Facts.nil_hold _)
        (refine wpD_plain 8 (v := ?_) rfl (by kernel_rfl) (by kernel_rfl) (by kernel_rfl) (fun _ _ _ h => h) (by rfl) ?_ (by assumption) ?_; rotate_left; (intro _w; go_simp; try with_reducible rfl); simp only [Act.put, List.setIfInBounds_toArray, List.set_cons_zero, List.set_cons_succ])
        clear hold
        refine wpD_only 9 [(4, fun w' => w'.cell? ⟨bB, 0, none⟩ = some v1)] rfl (by kernel_rfl) (by kernel_rfl) (by rfl) (fun K9 hK9 => ?_)
        refine wp_buildOne 54 74 _ rfl i5 _ Try.underlying54 I5.out Z5.out (by rw [S5.out]; decide) (by rw [S5.out]; decide) (.iface 59 ky.val) [.iface 59 ky.val] rfl rfl (by rw [S5.out]; rfl) ?_
        intro w5 HB5 HF5 HS5
        have HF5' := hid (HF4.out.trans' HF5.out)
        obtain ⟨b5, hb5⟩ : ∃ b, w4.heap.size = b := ⟨_, rfl⟩
        have HB5' := hid (show Blk w5 b5 74 [.iface 59 ky.val] by rw [← hb5]; exact HB5.out)
        refine hK9 _ _ (Facts.cons_hold (HF5.out.cell HC4.out id) (Facts.nil_hold _)) ?_
        rw [hb5]
        clear hK9 K9 HC4 HF4 HB5 HF5 HS5 hb5
        simp only [Act.put, List.setIfInBounds_toArray, List.set_cons_zero, List.set_cons_succ]
        refine wpD_only 10 [] rfl (by kernel_rfl) (by kernel_rfl) (by rfl) (fun K10 hK10 => ?_)
        have hown : w5.ownsRow w.heap.size 74 1 v1 m (vals ks m) := by
          have := own_fr HO1.out HF5'.out (fun _ _ e => e)
          rwa [vals_length] at this
        refine wp_appendX _ _ 54 rfl w.heap.size 74 i5 _ 1 16 Try.underlying54 I5.out Z5.out S5.out B5.out rfl (by decide) v1 m (vals ks m) rfl hown (some ⟨b5, 0, none⟩) 1 1 [.iface 59 ky.val] rfl rfl (.inr ⟨_, rfl, HB5'.out.news⟩) (fun u hu => by obtain rfl := List.mem_singleton.1 hu; rfl) (by unfold maxLen; omega) (by omega) (by have := HR.out.2.2.1.size; have := HF5'.out.size; omega) ?_
        intro a6 c6 w6 HO6 HG6 HA6
        have hfx : Fr (fun j => v1.ownBlock = some j) w5 w6 := frGrown HG6.out
        have HF6 := hid (HR.out.2.2.1.trans (HF5'.out.no.trans' hfx) (fun j e => .inr (own_low HO1.out j e)))
        have HBB := hid (show Blk w6 bB 56 [v1] from (HB1.out.fr HF5'.out id).fr hfx (fun e => by have := HG1.out bB e; omega))
        have hO6 := HO6.out
        have hvn := vals_next ks m
        rw [HKK.out, HKY.out] at hvn
        rw [hvn] at hO6
        have HGT : Hid (∀ g, (Value.slice a6 (m + 1) c6).ownBlock = some g → bB < g) := hid (fun g hg => by
          rcases HA6.out with h | h
          · rw [h] at hg; exact HG1.out g hg
          · rw [h] at hg
            cases hg
            have := HB1.out.lt; have := HF5'.out.size; omega)
        refine hK10 _ _ (Facts.nil_hold _) ?_
        clear hK10 K10 hfx hown HG6 HA6 HO6 hvn
        simp only [Act.put, List.setIfInBounds_toArray, List.set_cons_zero, List.set_cons_succ]
        have HO6 := hid hO6
        have hold := Facts.nil_hold w6
        (refine wpD_plain 11 (v := ?_) rfl (by kernel_rfl) (by kernel_rfl) (by kernel_rfl) (fun _ _ _ h => h) (by rfl) ?_ (by assumption) ?_; rotate_left; (intro _w; go_simp; try with_reducible rfl); simp only [Act.put, List.setIfInBounds_toArray, List.set_cons_zero, List.set_cons_succ])
        (refine wpD_plain 12 (v := ?_) rfl (by kernel_rfl) (by kernel_rfl) (by kernel_rfl) (fun _ _ _ h => h) (by rfl) ?_ (by assumption) ?_; rotate_left; (intro _w; go_simp; try with_reducible rfl); simp only [Act.put, List.setIfInBounds_toArray, List.set_cons_zero, List.set_cons_succ])
        refine wpD_only 13 [] rfl (by kernel_rfl) (by kernel_rfl) (by rfl) (fun K13 hK13 => ?_)
        refine wp_setV 54 _ _ rfl bB 0 (.slice a6 (m + 1) c6) rfl rfl rfl rfl _ _ HBB.out (Nat.lt_succ_self 0) infoTns ?_
        intro w7 HB7 HF7 HS7
        refine hK13 _ _ (Facts.nil_hold _) ?_
        clear hK13 K13 hold hO6
        simp only [Act.put, List.setIfInBounds_toArray, List.set_cons_zero, List.set_cons_succ]
        refine wpD_done (by kernel_rfl) ?_ _
        have HR' := hid (show (∀ j, j < m + 1 → (ks.getD j ⟨#[]⟩).size = 32) ∧ Own w w7 56 bB (vals ks (m + 1)) ∧ Fr No w w7 ∧ m + 1 ≤ n from
          ⟨fun j hj => by
            by_cases hjm : j = m
            · rw [hjm, HKK.out]; exact H32.out
            · exact HR.out.1 j (by omega),
           ⟨.slice a6 (m + 1) c6, HB7.out, by
              have := own_fr HO6.out HF7.out (fun g hg e => by have := HGT.out g hg; have : g = bB := e; omega)
              rwa [vals_length], by have := HW.out; omega, HGT.out⟩,
           HF6.out.trans HF7.out (fun j e => .inr (by have := HW.out; have : j = bB := e; omega)), HLT.out⟩)
        clear HR HB1 HO1 HG1 HC0 HF5' HB5' HF6 HBB HO6 HGT HB7 HF7 HS7
        go_wp2_with fail
        go_roundw
        case rel => exact ⟨m + 1, by have := HLT.out; omega, by go_num, HR'⟩
        case measure => simp [intOf]; have := HLT.out; omega
      · have hb32 : ((k.size : Int) != 32) = true := by rw [bne_iff_ne]; omega
        have HB := hid (good_bad (ks := ks) (m := m) (by rw [HN.out]; exact HLT.out) (by rw [HKK.out]; exact h32))
        clear h32
        go_wp2_with fail
        go_ret2
        exact .inr ⟨HB.out, rfl, HR.out.2.2.1⟩
    · obtain rfl : m = n := by omega
      have HG := hid (good_all (ks := ks) (by rw [HN.out]; omega) (by rw [HN.out]; exact HR.out.1))
      clear hlt
      go_wp2_with fail
      go_ret2
      exact .inl ⟨HG.out, bB, rfl, by rw [HN.out]; exact HR.out.2.1, HR.out.2.2.1⟩
end Go.Proofs.Ytakmeipmngeilaa.SE

set_option linter.unusedVariables false
set_option linter.unusedSimpArgs false
set_option linter.unusedSectionVars false
namespace Go.Proofs.Ytakmeipmngeilaa.SE
set_option maxRecDepth 100000
open Go.RowKit K
variable [SH.Tab]

/-- The first m tenants of an ideal sealer, whose maps lie in the blocks bm. -/
def rvals (bm : Nat → Nat) (m : Nat) : List Value := (List.range m).map fun i => .iface 67 (rem (UInt8.ofNat i) (bm i))
theorem rvals_length (bm : Nat → Nat) (m : Nat) : (rvals bm m).length = m := by simp [rvals]
theorem rvals_next (bm : Nat → Nat) (m : Nat) : rvals bm m ++ [.iface 67 (rem (UInt8.ofNat m) (bm m))] = rvals bm (m + 1) := by simp [rvals, List.range_succ]
theorem rvals_at (bm : Nat → Nat) {m i : Nat} (h : i < m) : (rvals bm m)[i]? = some (.iface 67 (rem (UInt8.ofNat i) (bm i))) := by simp [rvals, h]
theorem rvals_cg {bm bm' : Nat → Nat} {m : Nat} (h : ∀ i, i < m → bm i = bm' i) : rvals bm m = rvals bm' m := List.map_congr_left fun i hi => by rw [h i (List.mem_range.1 hi)]
abbrev Mp := List UInt8 → Option (List UInt8)
/-- An ideal sealer at block b: n tenants, each of which has its own map; none of them holds more than m values. -/
def IdAt (W w : World) (b n m : Nat) (bm : Nat → Nat) (fs : Nat → Mp) : Prop :=
  Own W w 64 b (rvals bm n) ∧ (∀ i, i < n → MpAt w (bm i) m (fs i)) ∧ (∀ i, i < n → W.heap.size ≤ bm i) ∧ ∀ i j, i < n → j < n → bm i = bm j → i = j
theorem mp_not_cells {w : World} {b m : Nat} {f : Mp} (h : MpAt w b m f) {cs : Array Value} {t : TypeId} {fz : Nat × Nat} (hb : w.heap[b]? = some (.cells cs t fz)) : False := by
  obtain ⟨D, ⟨es, clock, he, -⟩, -⟩ := h
  rw [he] at hb
  cases hb
theorem own_not_map {W w : World} {t : TypeId} {b : Nat} {xs : List Value} (h : Own W w t b xs) {c m : Nat} {f : Mp} (hm : MpAt w c m f) : b ≠ c ∧ ∀ v, Blk w b t [v] → v.ownBlock ≠ some c := by
  obtain ⟨v, h1, h2, h3, h4⟩ := h
  refine ⟨fun e => by subst e; exact mp_not_cells hm h1, fun v' hv' e => ?_⟩
  have hvv : v' = v := by
    have := (hv'.cell 0).symm.trans (h1.cell 0)
    simpa using this
  subst hvv
  rcases h2.2 with ⟨rfl, -⟩ | ⟨g, cap, cur, rfl, -, hg, -⟩
  · cases e
  · cases e; exact mp_not_cells hm hg
theorem IdAt.no {W w w' : World} {b n m : Nat} {bm : Nat → Nat} {fs : Nat → Mp} (h : IdAt W w b n m bm fs) (hf : Fr No w w') : IdAt W w' b n m bm fs :=
  ⟨h.1.no hf, fun i hi => (h.2.1 i hi).fr hf id, h.2.2⟩
theorem MpAt.mono {w : World} {b n m : Nat} {f : Mp} (h : MpAt w b n f) (hn : n ≤ m) : MpAt w b m f := by
  obtain ⟨D, h1, h2⟩ := h
  exact ⟨D, h1.mono hn, h2⟩
/-- One map is written. -/
theorem IdAt.put {W w w' : World} {b n m k : Nat} {bm : Nat → Nat} {fs : Nat → Mp} (h : IdAt W w b n m bm fs) (hk : k < n) (hf : Fr (fun j => j = bm k) w w') {f : Mp} (hm : MpAt w' (bm k) (m + 1) f) :
    IdAt W w' b n (m + 1) bm (fun i => if i = k then f else fs i) := by
  obtain ⟨h1, h2, h3, h4⟩ := h
  obtain ⟨hne, hnr⟩ := own_not_map h1 (h2 k hk)
  refine ⟨?_, fun i hi => ?_, h3, h4⟩
  · obtain ⟨v, p1, p2, p3, p4⟩ := h1
    exact ⟨v, p1.fr hf hne, own_fr p2 hf (fun j hj e => hnr v p1 (by have : j = bm k := e; rw [← this]; exact hj)), p3, p4⟩
  · show MpAt w' (bm i) (m + 1) (if i = k then f else fs i)
    by_cases he : i = k
    · subst he; rw [if_pos rfl]; exact hm
    · rw [if_neg he]
      exact ((h2 i hi).fr hf (fun e => he (h4 i k hi hk e))).mono (Nat.le_succ _)
def NewIdPost (w : World) (n : Int) (e : Ending) (w' : World) : Prop :=
  ((0 ≤ n ∧ n ≤ 16) ∧ ∃ b bm, e = .returned (.tuple #[.pointer (some ⟨b, 0, none⟩), .int .i64 0]) ∧ IdAt w w' b n.toNat 0 bm (fun _ _ => none) ∧ Fr No w w') ∨
  (¬ (0 ≤ n ∧ n ≤ 16) ∧ e = .returned (.tuple #[.pointer none, .int .i64 1]) ∧ Fr No w w')
theorem buildId (w : World) : (Instr.build 64 #[]).run Try.prog w = .ok (.agg #[.slice none 0 0]) w := by kernel_rfl
def setF (bm : Nat → Nat) (m x : Nat) : Nat → Nat := fun i => if i = m then x else bm i
set_option maxHeartbeats 4000000 in
theorem newIdeal_any (n : Int) (hr : -9223372036854775808 ≤ n ∧ n ≤ 9223372036854775807) (w : World) : Calls Try.prog 16 #[.int .i64 n] w (NewIdPost w n) := by
  obtain ⟨i5, hi5, hz5, hs5, hb5⟩ := Go.info_parts infoTn
  have I5 := hid hi5; have Z5 := hid hz5; have S5 := hid hs5; have B5 := hid hb5
  clear hi5 hz5 hs5 hb5
  by_cases h0 : n < 0
  · go_enter Try.func16, Try.ntmps16
    go_wp2_with fail
    go_ret2
    exact .inr ⟨by omega, rfl, Fr.refl No w⟩
  have h0' : 0 ≤ n := by omega
  by_cases h16 : 16 < n
  · go_enter Try.func16, Try.ntmps16
    go_wp2_with fail
    go_ret2
    exact .inr ⟨by omega, rfl, Fr.refl No w⟩
  have h16' : n ≤ 16 := by omega
  obtain ⟨N, rfl⟩ : ∃ N : Nat, n = (N : Int) := ⟨n.toNat, by omega⟩
  clear h0 h16 hr h0'
  go_enter Try.func16, Try.ntmps16
  go_wp2_with (first
    | ((with_reducible show wpList _ _ _ (⟨_, .build 64 _, _, _, _, _⟩ :: _) _ _); refine wpL_build rfl _ [] rfl (.agg #[.slice none 0 0]) (buildId _) ?_)
    | ((with_reducible show wpList _ _ _ (⟨_, .box 64 _, _, _, _, _⟩ :: _) _ _); refine wpL_box rfl _ _ rfl (.agg #[.slice none 0 0]) rfl [.slice none 0 0] rfl ?_; intro w1 HB1 HF1 HS1)
    | fail)
  obtain ⟨bB, hbB⟩ : ∃ b, w.heap.size = b := ⟨_, rfl⟩
  have HW := hid hbB
  have HR := hid (show IdAt w w1 bB 0 0 (fun _ => 0) (fun _ _ => none) ∧ Fr No w w1 ∧ 0 ≤ N from
    ⟨⟨⟨.slice none 0 0, by rw [← hbB]; exact HB1.out, ⟨rfl, .inl ⟨rfl, rfl⟩⟩, by omega, fun g hg => by cases hg⟩, fun i hi => by omega, fun i hi => by omega, fun i j hi => by omega⟩, HF1.out, Nat.zero_le _⟩)
  rw [hbB]
  clear HB1 HF1 HS1 hbB
  go_loopw [15] (fun i wr => ∃ (m : Nat) (bm : Nat → Nat), m ≤ N ∧ i = .int .i64 m ∧ Hid (IdAt w wr bB m 0 bm (fun _ _ => none) ∧ Fr No w wr ∧ m ≤ N)) (fun i _ => N - (intOf i).toNat)
  case atStart => exact ⟨0, fun _ => 0, by omega, rfl, HR⟩
  case round =>
    clear HR
    obtain ⟨m, bm, hm, rfl, HR⟩ := hrel
    by_cases hlt : m < N
    · have hlti : (m : Int) < (N : Int) := by omega
      have HLT := hid hlt
      clear hlt
      obtain ⟨v1, hB1, hO1, hle1, hg1⟩ := HR.out.1.1
      have HB1 := hid hB1; have HO1 := hid hO1; have HG1 := hid hg1
      have c0 : wr.cell? ⟨bB, 0, none⟩ = some v1 := hB1.cell 0
      have HC0 := hid c0
      clear hB1 hO1 hle1 hg1 c0
      go_wp2_with fail
      have hold : Facts.hold [(4, fun w' => w'.cell? ⟨bB, 0, none⟩ = some v1)] wr.drew := Facts.cons_hold HC0.out (Facts.nil_hold _)
      refine wpD_region hold (by kernel_rfl) 13 rfl ?_
      (refine wpD_plain 0 (v := ?_) rfl (by kernel_rfl) (by kernel_rfl) (by kernel_rfl) (fun _ _ _ h => h) (by rfl) ?_ (by assumption) ?_; rotate_left; (intro _w; go_simp; try with_reducible rfl); simp only [Act.put, List.setIfInBounds_toArray, List.set_cons_zero, List.set_cons_succ])
      (refine wpD_plain 1 (v := ?_) rfl (by kernel_rfl) (by kernel_rfl) (by kernel_rfl) (fun _ _ _ h => h) (by rfl) ?_ (by assumption) ?_; rotate_left; (intro _w; go_simp; try with_reducible rfl); simp only [Act.put, List.setIfInBounds_toArray, List.set_cons_zero, List.set_cons_succ])
      (refine wpD_plain 2 (v := ?_) rfl (by kernel_rfl) (by kernel_rfl) (by kernel_rfl) (fun _ _ _ h => h) (by rfl) ?_ (by assumption) ?_; rotate_left; (intro _w; go_simp; try with_reducible rfl); simp only [Act.put, List.setIfInBounds_toArray, List.set_cons_zero, List.set_cons_succ])
      (refine wpD_plain 3 (v := ?_) rfl (by kernel_rfl) (by kernel_rfl) (by kernel_rfl) (fun _ _ _ h => h) (by rfl) ?_ (by assumption) ?_; rotate_left; (intro _w; go_simp; try with_reducible rfl); simp only [Act.put, List.setIfInBounds_toArray, List.set_cons_zero, List.set_cons_succ])
      (refine wpD_take 4 _ rfl (by kernel_rfl) (by kernel_rfl) (by kernel_rfl) (fun _ _ _ h => h) List.mem_cons_self (by rfl) (v := ?_) ?_ (by assumption) ?_; rotate_left; (intro _w _hw; go_simp; try with_reducible rfl); simp only [Act.put, List.setIfInBounds_toArray, List.set_cons_zero, List.set_cons_succ])
      (refine wpD_plain 5 (v := ?_) rfl (by kernel_rfl) (by kernel_rfl) (by kernel_rfl) (fun _ _ _ h => h) (by rfl) ?_ (by assumption) ?_; rotate_left; (intro _w; go_simp; try with_reducible rfl); simp only [Act.put, List.setIfInBounds_toArray, List.set_cons_zero, List.set_cons_succ])
      clear hold
      refine wpD_only 6 [(4, fun w' => w'.cell? ⟨bB, 0, none⟩ = some v1)] rfl (by kernel_rfl) (by kernel_rfl) (by rfl) (fun K7 hK7 => ?_)
      refine wp_call _ [_] _ rfl _ [] rfl (fun _ _ => by kernel_rfl) [.int .i64 (m : Int)] rfl ?_
      refine (newRem_any m (by omega) _).mono ?_
      rintro e w4 ⟨rfl, hmp, hf4⟩
      obtain ⟨bx, hbx⟩ : ∃ b, wr.drew.heap.size + 1 = b := ⟨_, rfl⟩
      have HBX := hid (show wr.heap.size < bx by have : wr.drew.heap.size = wr.heap.size := rfl; omega)
      rw [hbx] at hmp ⊢
      have HMP := hid hmp
      have HC4 := hid (hf4.cell (w := wr.drew) HC0.out id)
      have HF4 := hid (show Fr No wr w4 from (Fr.refl No wr).drew.trans' hf4)
      refine ⟨_, rfl, hK7 _ _ (Facts.cons_hold HC4.out (Facts.nil_hold _)) ?_⟩
      clear hK7 K7 hf4 hbx hmp
      simp only [Act.put, List.setIfInBounds_toArray, List.set_cons_zero, List.set_cons_succ]
      have hold : Facts.hold [(4, fun w' => w'.cell? ⟨bB, 0, none⟩ = some v1)] w4 := Facts.cons_hold HC4.out (Facts.nil_hold _)
      (refine wpD_plain 7 (v := ?_) rfl (by kernel_rfl) (by kernel_rfl) (by kernel_rfl) (fun _ _ _ h => h) (by rfl) ?_ (by assumption) ?_; rotate_left; (intro _w; go_simp; try with_reducible rfl); simp only [Act.put, List.setIfInBounds_toArray, List.set_cons_zero, List.set_cons_succ])
      clear hold
      refine wpD_only 8 [(4, fun w' => w'.cell? ⟨bB, 0, none⟩ = some v1)] rfl (by kernel_rfl) (by kernel_rfl) (by rfl) (fun K9 hK9 => ?_)
      refine wp_buildOne 54 74 _ rfl i5 _ Try.underlying54 I5.out Z5.out (by rw [S5.out]; decide) (by rw [S5.out]; decide) (.iface 67 (rem (UInt8.ofNat m) bx)) [.iface 67 (rem (UInt8.ofNat m) bx)] rfl rfl (by rw [S5.out]; rfl) ?_
      intro w5 HB5 HF5 HS5
      have HF5' := hid (HF4.out.trans' HF5.out)
      obtain ⟨b5, hb5⟩ : ∃ b, w4.heap.size = b := ⟨_, rfl⟩
      have HB5' := hid (show Blk w5 b5 74 [.iface 67 (rem (UInt8.ofNat m) bx)] by rw [← hb5]; exact HB5.out)
      have HMP5 := hid (HMP.out.fr HF5.out id)
      refine hK9 _ _ (Facts.cons_hold (HF5.out.cell HC4.out id) (Facts.nil_hold _)) ?_
      rw [hb5]
      clear hK9 K9 HC4 HF4 HB5 HF5 HS5 hb5 HMP
      simp only [Act.put, List.setIfInBounds_toArray, List.set_cons_zero, List.set_cons_succ]
      refine wpD_only 9 [] rfl (by kernel_rfl) (by kernel_rfl) (by rfl) (fun K10 hK10 => ?_)
      have hown : w5.ownsRow w.heap.size 74 1 v1 m (rvals bm m) := by
        have := own_fr HO1.out HF5'.out (fun _ _ e => e)
        rwa [rvals_length] at this
      refine wp_appendX _ _ 54 rfl w.heap.size 74 i5 _ 1 16 Try.underlying54 I5.out Z5.out S5.out B5.out rfl (by decide) v1 m (rvals bm m) rfl hown (some ⟨b5, 0, none⟩) 1 1 [.iface 67 (rem (UInt8.ofNat m) bx)] rfl rfl (.inr ⟨_, rfl, HB5'.out.news⟩) (fun u hu => by obtain rfl := List.mem_singleton.1 hu; rfl) (by unfold maxLen; omega) (by omega) (by have := HR.out.2.1.size; have := HF5'.out.size; omega) ?_
      intro a6 c6 w6 HO6 HG6 HA6
      have hfx : Fr (fun j => v1.ownBlock = some j) w5 w6 := frGrown HG6.out
      have HF6 := hid (HR.out.2.1.trans (HF5'.out.no.trans' hfx) (fun j e => .inr (own_low HO1.out j e)))
      have HBB := hid (show Blk w6 bB 64 [v1] from (HB1.out.fr HF5'.out id).fr hfx (fun e => by have := HG1.out bB e; omega))
      have HMs : Hid (∀ i, i < m → MpAt w6 (bm i) 0 fun _ => none) := hid (fun i hi => by
        have h1 := HR.out.1.2.1 i hi
        exact (h1.fr HF5'.out id).fr hfx (fun e => (own_not_map HR.out.1.1 h1).2 v1 HB1.out e))
      have hnb : v1.ownBlock ≠ some bx := fun e => by
        have := (HO1.out.lt bx e).2
        have := HBX.out; omega
      have HMP6 := hid (HMP5.out.fr hfx hnb)
      have hO6 := HO6.out
      have hvn := rvals_next (setF bm m bx) m
      rw [show setF bm m bx m = bx from if_pos rfl, rvals_cg (bm := setF bm m bx) (bm' := bm) (fun i hi => if_neg (by omega))] at hvn
      rw [hvn] at hO6
      have HGT : Hid (∀ g, (Value.slice a6 (m + 1) c6).ownBlock = some g → bB < g) := hid (fun g hg => by
        rcases HA6.out with h | h
        · rw [h] at hg; exact HG1.out g hg
        · rw [h] at hg
          cases hg
          have := HB1.out.lt; have := HF5'.out.size; omega)
      refine hK10 _ _ (Facts.nil_hold _) ?_
      clear hK10 K10 hfx hown HG6 HA6 HO6 hvn hnb HMP5
      simp only [Act.put, List.setIfInBounds_toArray, List.set_cons_zero, List.set_cons_succ]
      have HO6 := hid hO6
      have hold := Facts.nil_hold w6
      (refine wpD_plain 10 (v := ?_) rfl (by kernel_rfl) (by kernel_rfl) (by kernel_rfl) (fun _ _ _ h => h) (by rfl) ?_ (by assumption) ?_; rotate_left; (intro _w; go_simp; try with_reducible rfl); simp only [Act.put, List.setIfInBounds_toArray, List.set_cons_zero, List.set_cons_succ])
      (refine wpD_plain 11 (v := ?_) rfl (by kernel_rfl) (by kernel_rfl) (by kernel_rfl) (fun _ _ _ h => h) (by rfl) ?_ (by assumption) ?_; rotate_left; (intro _w; go_simp; try with_reducible rfl); simp only [Act.put, List.setIfInBounds_toArray, List.set_cons_zero, List.set_cons_succ])
      refine wpD_only 12 [] rfl (by kernel_rfl) (by kernel_rfl) (by rfl) (fun K13 hK13 => ?_)
      refine wp_setV 54 _ _ rfl bB 0 (.slice a6 (m + 1) c6) rfl rfl rfl rfl _ _ HBB.out (Nat.lt_succ_self 0) infoTns ?_
      intro w7 HB7 HF7 HS7
      refine hK13 _ _ (Facts.nil_hold _) ?_
      clear hK13 K13 hold hO6
      simp only [Act.put, List.setIfInBounds_toArray, List.set_cons_zero, List.set_cons_succ]
      refine wpD_done (by kernel_rfl) ?_ _
      have HR' := hid (show IdAt w w7 bB (m + 1) 0 (setF bm m bx) (fun _ _ => none) ∧ Fr No w w7 ∧ m + 1 ≤ N from
        ⟨⟨⟨.slice a6 (m + 1) c6, HB7.out, by
              have := own_fr HO6.out HF7.out (fun g hg e => by have := HGT.out g hg; have : g = bB := e; omega)
              rwa [rvals_length], by have := HW.out; omega, HGT.out⟩,
          fun i hi => by
            by_cases he : i = m
            · subst he
              rw [show setF bm i bx i = bx from if_pos rfl]
              exact HMP6.out.fr HF7.out (fun e => by have : bx = bB := e; have := HBX.out; have := HB1.out.lt; omega)
            · rw [show setF bm m bx i = bm i from if_neg he]
              exact (HMs.out i (by omega)).fr HF7.out (fun e => (own_not_map HR.out.1.1 (HR.out.1.2.1 i (by omega))).1 e.symm),
          fun i hi => by
            by_cases he : i = m
            · subst he
              rw [show setF bm i bx i = bx from if_pos rfl]
              have := HBX.out; have := HR.out.2.1.size; omega
            · rw [show setF bm m bx i = bm i from if_neg he]
              exact HR.out.1.2.2.1 i (by omega),
          fun i j hi hj e => by
            have hlt' : ∀ q, q < m → bm q < bx := fun q hq => by have := (HR.out.1.2.1 q hq).lt; have := HBX.out; omega
            by_cases he : i = m
            · by_cases hf : j = m
              · omega
              · rw [he, show setF bm m bx m = bx from if_pos rfl, show setF bm m bx j = bm j from if_neg hf] at e
                have := hlt' j (by omega); omega
            · by_cases hf : j = m
              · rw [hf, show setF bm m bx m = bx from if_pos rfl, show setF bm m bx i = bm i from if_neg he] at e
                have := hlt' i (by omega); omega
              · rw [show setF bm m bx i = bm i from if_neg he, show setF bm m bx j = bm j from if_neg hf] at e
                exact HR.out.1.2.2.2 i j (by omega) (by omega) e⟩,
         HF6.out.trans HF7.out (fun j e => .inr (by have := HW.out; have : j = bB := e; omega)), HLT.out⟩)
      clear HR HB1 HO1 HG1 HC0 HF5' HB5' HF6 HBB HO6 HGT HB7 HF7 HS7 HMs HMP6 HBX
      go_wp2_with fail
      go_roundw
      case rel => exact ⟨m + 1, setF bm m bx, by have := HLT.out; omega, by go_num, HR'⟩
      case measure => simp [intOf]; have := HLT.out; omega
    · obtain rfl : m = N := by omega
      clear hlt
      go_wp2_with fail
      go_ret2
      exact .inl ⟨⟨by omega, h16'⟩, bB, bm, rfl, HR.out.1, HR.out.2.1⟩
end Go.Proofs.Ytakmeipmngeilaa.SE

set_option linter.unusedVariables false
set_option linter.unusedSimpArgs false
set_option linter.unusedSectionVars false
namespace Go.Proofs.Ytakmeipmngeilaa.SE
set_option maxRecDepth 100000
open Go.RowKit K
variable [SH.Tab]

theorem in_of {i : Int} {n : Nat} (h : inside i n = true) : ∃ k : Nat, i = (k : Int) ∧ k < n := by
  have := of_decide_eq_true h
  exact ⟨i.toNat, by omega, by omega⟩
/-- What Box.Seal tells. -/
def bseal (ks : List S) (n : Nat) (i : Int) (nn : Nat) (p : List UInt8) : List UInt8 × Nat :=
  if inside i n = false then ([], 81) else if 200 < p.length then ([], 2) else ((kyv i.toNat (ks.getD i.toNat ⟨#[]⟩)).seal (sb (eight nn)) p, 0)
/-- What Box.Open tells. -/
def bopen (ks : List S) (n : Nat) (i : Int) (s : List UInt8) : List UInt8 × Nat :=
  if inside i n = false then ([], 81) else (kyv i.toNat (ks.getD i.toNat ⟨#[]⟩)).open_ s
def Told (w : World) (r : List UInt8 × Nat) (e : Ending) (w' : World) : Prop := e = told r.1 r.2 ∧ Fr No w w'
theorem kseal_row (ks : List S) (n : Nat) (hn : n ≤ 16) (v : Value) (w : World) (hr : Row w v (vals ks n)) (hg : SH.Gl w) (i : Int) (hi : -9223372036854775808 ≤ i ∧ i ≤ 9223372036854775807) (nn : Nat) (hnn : nn < 18446744073709551616) (p : S) :
    Calls Try.prog 23 #[v, .int .i64 i, .int .u64 (nn : Int), .string p] w (Told w (bseal ks n i nn p.data.toList)) := by
  cases hin : inside i n with
  | false =>
    obtain ⟨a, c, rfl, -⟩ := hr
    have hl := vals_length ks n
    refine (tseal_out a _ c i nn p (by omega) hi (by rw [hl]; exact hin) w).mono ?_
    rintro e w' ⟨rfl, rfl⟩
    exact ⟨by unfold bseal; rw [if_pos hin], Fr.refl No _⟩
  | true =>
    by_cases hp : 200 < p.size
    · obtain ⟨a, c, rfl, -⟩ := hr
      have hl := vals_length ks n
      refine (tseal_long a _ c i nn p (by omega) hi (by rw [hl]; exact hin) hp w).mono ?_
      rintro e w' ⟨rfl, rfl⟩
      refine ⟨?_, Fr.refl No _⟩
      unfold bseal
      rw [if_neg (by rw [hin]; decide), if_pos (by rw [size_list]; exact hp)]
    · obtain ⟨k, rfl, hk⟩ := in_of hin
      have hp' : p.size ≤ 200 := by omega
      refine (tseal_in v (vals ks n) k nn p w hr (by rw [vals_length]; exact hn) 59 _ (vals_at ks hk) 61 (.inl ⟨rfl, rfl⟩) hp' hnn
        (fun l c w' => l = (kyv k (ks.getD k ⟨#[]⟩)).seal (sb (eight nn)) p.data.toList ∧ c = 0 ∧ Fr No w w') (fun l c w' h => hr.no h.2.2) (fun w1 hf => ?_)).mono ?_
      · refine (kseal_any _ (sb (eight nn)) p (by rw [sb_size, eight_length]) hp' w1 (hg.no hf)).mono ?_
        rintro e w' ⟨rfl, hf'⟩
        exact ⟨_, _, rfl, rfl, rfl, hf.trans' hf'⟩
      · rintro e w' ⟨l, c, rfl, rfl, rfl, hf⟩
        refine ⟨?_, hf⟩
        unfold bseal
        rw [if_neg (by rw [hin]; decide), if_neg (by rw [size_list]; exact hp)]
        rfl
theorem kopen_row (ks : List S) (n : Nat) (hn : n ≤ 16) (v : Value) (w : World) (hr : Row w v (vals ks n)) (hg : SH.Gl w) (i : Int) (hi : -9223372036854775808 ≤ i ∧ i ≤ 9223372036854775807) (s : S) (hs : s.size ≤ 1000000) :
    Calls Try.prog 27 #[v, .int .i64 i, .string s] w (Told w (bopen ks n i s.data.toList)) := by
  cases hin : inside i n with
  | false =>
    obtain ⟨a, c, rfl, -⟩ := hr
    have hl := vals_length ks n
    refine (topen_out a _ c i s (by omega) hi (by rw [hl]; exact hin) w).mono ?_
    rintro e w' ⟨rfl, rfl⟩
    exact ⟨by unfold bopen; rw [if_pos hin], Fr.refl No _⟩
  | true =>
    obtain ⟨k, rfl, hk⟩ := in_of hin
    refine (topen_in v (vals ks n) k s w hr (by rw [vals_length]; exact hn) 59 _ (vals_at ks hk) 60 (.inl ⟨rfl, rfl⟩)
      (fun l c w' => l = ((kyv k (ks.getD k ⟨#[]⟩)).open_ s.data.toList).1 ∧ c = ((kyv k (ks.getD k ⟨#[]⟩)).open_ s.data.toList).2 ∧ Fr No w w') ?_).mono ?_
    · refine (kopen_any _ s hs w hg).mono ?_
      rintro e w' ⟨rfl, hf'⟩
      exact ⟨_, _, rfl, rfl, rfl, hf'⟩
    · rintro e w' ⟨l, c, rfl, rfl, rfl, hf⟩
      refine ⟨?_, hf⟩
      unfold bopen
      rw [if_neg (by rw [hin]; decide)]
      rfl
theorem boxSeal_any (W w : World) (ks : List S) (n b : Nat) (hn : n ≤ 16) (h : Own W w 56 b (vals ks n)) (hg : SH.Gl w) (i : Int) (hi : -9223372036854775808 ≤ i ∧ i ≤ 9223372036854775807) (nn : Nat) (hnn : nn < 18446744073709551616) (p : S) :
    Calls Try.prog 11 #[.pointer (some ⟨b, 0, none⟩), .int .i64 i, .int .u64 (nn : Int), .string p] w (Told w (bseal ks n i nn p.data.toList)) := by
  obtain ⟨v, hB, hr⟩ := h.row
  have HR := hid hr; have HG := hid hg; have HI := hid hi; have HNN := hid hnn; have HN := hid hn
  have c0 : w.cell? ⟨b, 0, none⟩ = some v := hB.cell 0
  obtain ⟨R, hR⟩ : ∃ R, bseal ks n i nn p.data.toList = R := ⟨_, rfl⟩
  rw [hR]
  have HRR := hid hR
  obtain ⟨a, c, rfl, -⟩ := hr
  clear h hB hg hi hnn hR hn
  go_enter Try.func11, Try.ntmps11
  go_wp2_with fail
  refine (kseal_row ks n HN.out _ w HR.out HG.out i HI.out nn HNN.out p).mono ?_
  rintro e w' ⟨rfl, hf⟩
  rw [HRR.out]
  have HF := hid hf
  clear hf
  unfold told
  go_wp2_with fail
  go_ret2
  exact ⟨rfl, HF.out⟩
theorem boxOpen_any (W w : World) (ks : List S) (n b : Nat) (hn : n ≤ 16) (h : Own W w 56 b (vals ks n)) (hg : SH.Gl w) (i : Int) (hi : -9223372036854775808 ≤ i ∧ i ≤ 9223372036854775807) (s : S) (hs : s.size ≤ 1000000) :
    Calls Try.prog 13 #[.pointer (some ⟨b, 0, none⟩), .int .i64 i, .string s] w (Told w (bopen ks n i s.data.toList)) := by
  obtain ⟨v, hB, hr⟩ := h.row
  have HR := hid hr; have HG := hid hg; have HI := hid hi; have HS := hid hs; have HN := hid hn
  have c0 : w.cell? ⟨b, 0, none⟩ = some v := hB.cell 0
  obtain ⟨R, hR⟩ : ∃ R, bopen ks n i s.data.toList = R := ⟨_, rfl⟩
  rw [hR]
  have HRR := hid hR
  obtain ⟨a, c, rfl, -⟩ := hr
  clear h hB hg hi hR hn hs
  go_enter Try.func13, Try.ntmps13
  go_wp2_with fail
  refine (kopen_row ks n HN.out _ w HR.out HG.out i HI.out s HS.out).mono ?_
  rintro e w' ⟨rfl, hf⟩
  rw [HRR.out]
  have HF := hid hf
  clear hf
  unfold told
  go_wp2_with fail
  go_ret2
  exact ⟨rfl, HF.out⟩
/-! ### The ideal one -/
/-- What Ideal.Seal tells. -/
def iseal (fs : Nat → Mp) (n : Nat) (i : Int) (nn : Nat) (p : List UInt8) : List UInt8 × Nat :=
  if inside i n = false then ([], 81) else if 200 < p.length then ([], 2) else match fs i.toNat (eight nn) with
    | some _ => ([], 80)
    | none => (form (UInt8.ofNat i.toNat) (eight nn) p.length, 0)
/-- What is remembered behind it. -/
def inext (fs : Nat → Mp) (n : Nat) (i : Int) (nn : Nat) (p : List UInt8) : Nat → Mp :=
  if (iseal fs n i nn p).2 = 0 then fun j => if j = i.toNat then updM (fs i.toNat) (eight nn) p else fs j else fs
def iopen (fs : Nat → Mp) (n : Nat) (i : Int) (s : List UInt8) : List UInt8 × Nat :=
  if inside i n = false then ([], 81) else ropen (UInt8.ofNat i.toNat) (fs i.toNat) s
def Short (fs : Nat → Mp) : Prop := ∀ i t p, fs i t = some p → p.length ≤ 200
theorem Short.next {fs : Nat → Mp} (h : Short fs) (n : Nat) (i : Int) (nn : Nat) (p : List UInt8) : Short (inext fs n i nn p) := by
  unfold inext
  by_cases h0 : (iseal fs n i nn p).2 = 0
  · rw [if_pos h0]
    intro j t q hq
    by_cases hj : j = i.toNat
    · simp only [hj, if_true] at hq
      unfold updM at hq
      by_cases ht : t = eight nn
      · rw [if_pos ht] at hq
        cases hq
        unfold iseal at h0
        by_cases h1 : inside i n = false
        · rw [if_pos h1] at h0; cases h0
        · rw [if_neg h1] at h0
          by_cases h2 : 200 < p.length
          · rw [if_pos h2] at h0; cases h0
          · omega
      · rw [if_neg ht] at hq; exact h _ _ _ hq
    · simp only [hj, if_false] at hq
      exact h _ _ _ hq
  · rw [if_neg h0]; exact h
def IdPost (W : World) (b n m : Nat) (bm : Nat → Nat) (fs : Nat → Mp) (D : Nat → Prop) (w : World) (r : List UInt8 × Nat) (e : Ending) (w' : World) : Prop := e = told r.1 r.2 ∧ IdAt W w' b n m bm fs ∧ Fr D w w'
theorem IdAt.mono {W w : World} {b n m m' : Nat} {bm : Nat → Nat} {fs : Nat → Mp} (h : IdAt W w b n m bm fs) (hm : m ≤ m') : IdAt W w b n m' bm fs :=
  ⟨h.1, fun i hi => (h.2.1 i hi).mono hm, h.2.2⟩
/-- The blocks of the maps. -/
def Bms (n : Nat) (bm : Nat → Nat) : Nat → Prop := fun k => ∃ i, i < n ∧ k = bm i
theorem iseal_row (W w : World) (b n m : Nat) (hn : n ≤ 16) (hm : m < 1000000) (bm : Nat → Nat) (fs : Nat → Mp) (v : Value) (hv : Blk w b 64 [v]) (hr : Row w v (rvals bm n)) (h : IdAt W w b n m bm fs) (i : Int) (hi : -9223372036854775808 ≤ i ∧ i ≤ 9223372036854775807) (nn : Nat) (hnn : nn < 18446744073709551616) (p : S) :
    Calls Try.prog 23 #[v, .int .i64 i, .int .u64 (nn : Int), .string p] w (IdPost W b n (m + 1) bm (inext fs n i nn p.data.toList) (Bms n bm) w (iseal fs n i nn p.data.toList)) := by
  cases hin : inside i n with
  | false =>
    obtain ⟨a, c, rfl, -⟩ := hr
    have hl := rvals_length bm n
    refine (tseal_out a _ c i nn p (by omega) hi (by rw [hl]; exact hin) w).mono ?_
    rintro e w' ⟨rfl, rfl⟩
    have he : iseal fs n i nn p.data.toList = ([], 81) := by unfold iseal; rw [if_pos hin]
    refine ⟨by rw [he], ?_, Fr.refl _ _⟩
    unfold inext
    rw [he, if_neg (by decide)]
    exact h.mono (Nat.le_succ _)
  | true =>
    by_cases hp : 200 < p.size
    · obtain ⟨a, c, rfl, -⟩ := hr
      have hl := rvals_length bm n
      refine (tseal_long a _ c i nn p (by omega) hi (by rw [hl]; exact hin) hp w).mono ?_
      rintro e w' ⟨rfl, rfl⟩
      have he : iseal fs n i nn p.data.toList = ([], 2) := by unfold iseal; rw [if_neg (by rw [hin]; decide), if_pos (by rw [size_list]; exact hp)]
      refine ⟨by rw [he], ?_, Fr.refl _ _⟩
      unfold inext
      rw [he, if_neg (by decide)]
      exact h.mono (Nat.le_succ _)
    · obtain ⟨k, rfl, hk⟩ := in_of hin
      have hp' : p.size ≤ 200 := by omega
      have hb : iseal fs n (k : Int) nn p.data.toList = (match fs k (eight nn) with | some _ => ([], 80) | none => (form (UInt8.ofNat k) (eight nn) p.data.toList.length, 0)) := by
        unfold iseal
        rw [if_neg (by rw [hin]; decide), if_neg (by rw [size_list]; exact hp)]
        rfl
      obtain ⟨hne, hnr⟩ := own_not_map h.1 (h.2.1 k hk)
      have hmem : Bms n bm (bm k) := ⟨k, hk, rfl⟩
      refine (tseal_in v (rvals bm n) k nn p w hr (by rw [rvals_length]; exact hn) 67 _ (rvals_at bm hk) 93 (.inr ⟨rfl, rfl⟩) hp' hnn
        (fun l c w' => (l, c) = iseal fs n (k : Int) nn p.data.toList ∧ IdAt W w' b n (m + 1) bm (inext fs n (k : Int) nn p.data.toList) ∧ Fr (fun j => j = bm k) w w') (fun l c w' hq => hr.fr hq.2.2 (fun j hj e => hnr v hv (by have : j = bm k := e; rw [← this]; exact hj))) (fun w1 hf => ?_)).mono ?_
      · have h1 := h.no hf
        cases hfs : fs k (eight nn) with
        | some q =>
          rw [hfs] at hb
          refine (rseal_used (UInt8.ofNat k) (bm k) m (fs k) (sb (eight nn)) p w1 (h1.2.1 k hk) (by rw [sb_size, eight_length]) q (by rw [sb_list]; exact hfs)).mono ?_
          rintro e w' ⟨rfl, hf'⟩
          refine ⟨_, _, rfl, by rw [hb], ?_, (hf.trans' hf').no⟩
          unfold inext
          rw [hb, if_neg (show ¬ ((80 : Nat) = 0) by decide)]
          exact (h1.no hf').mono (Nat.le_succ _)
        | none =>
          rw [hfs] at hb
          refine (rseal_new (UInt8.ofNat k) (bm k) m (fs k) (sb (eight nn)) p w1 (h1.2.1 k hk) (by rw [sb_size, eight_length]) hp' hm (by rw [sb_list]; exact hfs)).mono ?_
          rintro e w' ⟨rfl, hm', hf'⟩
          rw [sb_list] at hm'
          refine ⟨_, _, rfl, by rw [hb, sb_list, size_list], ?_, hf.no.trans' hf'⟩
          unfold inext
          rw [hb, if_pos rfl]
          exact h1.put hk hf' hm'
      · rintro e w' ⟨l, c, rfl, hlc, hid', hf⟩
        exact ⟨by rw [← hlc], hid', hf.mono fun j e => by have : j = bm k := e; rw [this]; exact hmem⟩
theorem iopen_row (W w : World) (b n m : Nat) (hn : n ≤ 16) (bm : Nat → Nat) (fs : Nat → Mp) (hsh : Short fs) (v : Value) (hr : Row w v (rvals bm n)) (h : IdAt W w b n m bm fs) (i : Int) (hi : -9223372036854775808 ≤ i ∧ i ≤ 9223372036854775807) (s : S) (hs : s.size ≤ 140737488355328) :
    Calls Try.prog 27 #[v, .int .i64 i, .string s] w (Told w (iopen fs n i s.data.toList)) := by
  cases hin : inside i n with
  | false =>
    obtain ⟨a, c, rfl, -⟩ := hr
    have hl := rvals_length bm n
    refine (topen_out a _ c i s (by omega) hi (by rw [hl]; exact hin) w).mono ?_
    rintro e w' ⟨rfl, rfl⟩
    exact ⟨by unfold iopen; rw [if_pos hin], Fr.refl No _⟩
  | true =>
    obtain ⟨k, rfl, hk⟩ := in_of hin
    refine (topen_in v (rvals bm n) k s w hr (by rw [rvals_length]; exact hn) 67 _ (rvals_at bm hk) 92 (.inr ⟨rfl, rfl⟩)
      (fun l c w' => (l, c) = ropen (UInt8.ofNat k) (fs k) s.data.toList ∧ Fr No w w') ?_).mono ?_
    · refine (ropen_any (UInt8.ofNat k) (bm k) m (fs k) s w (h.2.1 k hk) (hsh k) hs).mono ?_
      rintro e w' ⟨rfl, hf'⟩
      exact ⟨_, _, rfl, rfl, hf'⟩
    · rintro e w' ⟨l, c, rfl, hlc, hf⟩
      have he : iopen fs n (k : Int) s.data.toList = (l, c) := by
        unfold iopen
        rw [if_neg (by rw [hin]; decide)]
        exact hlc.symm
      exact ⟨by rw [he], hf⟩
theorem idSeal_any (W w : World) (b n m : Nat) (hn : n ≤ 16) (hm : m < 1000000) (bm : Nat → Nat) (fs : Nat → Mp) (h : IdAt W w b n m bm fs) (i : Int) (hi : -9223372036854775808 ≤ i ∧ i ≤ 9223372036854775807) (nn : Nat) (hnn : nn < 18446744073709551616) (p : S) :
    Calls Try.prog 17 #[.pointer (some ⟨b, 0, none⟩), .int .i64 i, .int .u64 (nn : Int), .string p] w (IdPost W b n (m + 1) bm (inext fs n i nn p.data.toList) (Bms n bm) w (iseal fs n i nn p.data.toList)) := by
  obtain ⟨v, hB, hr⟩ := h.1.row
  have HR := hid hr; have HH := hid h; have HI := hid hi; have HNN := hid hnn; have HN := hid hn; have HM := hid hm; have HB := hid hB
  have c0 : w.cell? ⟨b, 0, none⟩ = some v := hB.cell 0
  obtain ⟨R, hR⟩ : ∃ R, iseal fs n i nn p.data.toList = R := ⟨_, rfl⟩
  obtain ⟨X, hX⟩ : ∃ X, inext fs n i nn p.data.toList = X := ⟨_, rfl⟩
  rw [hR, hX]
  have HRR := hid hR; have HXX := hid hX
  obtain ⟨a, c, rfl, -⟩ := hr
  clear h hB hi hnn hR hn hm hX
  go_enter Try.func17, Try.ntmps17
  go_wp2_with fail
  refine (iseal_row W w b n m HN.out HM.out bm fs _ HB.out HR.out HH.out i HI.out nn HNN.out p).mono ?_
  rintro e w' ⟨rfl, hf⟩
  rw [HRR.out]
  rw [HXX.out] at hf
  have HF := hid hf
  clear hf
  unfold told
  go_wp2_with fail
  go_ret2
  exact ⟨rfl, HF.out⟩
theorem idOpen_any (W w : World) (b n m : Nat) (hn : n ≤ 16) (bm : Nat → Nat) (fs : Nat → Mp) (hsh : Short fs) (h : IdAt W w b n m bm fs) (i : Int) (hi : -9223372036854775808 ≤ i ∧ i ≤ 9223372036854775807) (s : S) (hs : s.size ≤ 140737488355328) :
    Calls Try.prog 19 #[.pointer (some ⟨b, 0, none⟩), .int .i64 i, .string s] w (Told w (iopen fs n i s.data.toList)) := by
  obtain ⟨v, hB, hr⟩ := h.1.row
  have HR := hid hr; have HH := hid h; have HI := hid hi; have HS := hid hs; have HN := hid hn; have HSh := hid hsh
  have c0 : w.cell? ⟨b, 0, none⟩ = some v := hB.cell 0
  obtain ⟨R, hR⟩ : ∃ R, iopen fs n i s.data.toList = R := ⟨_, rfl⟩
  rw [hR]
  have HRR := hid hR
  obtain ⟨a, c, rfl, -⟩ := hr
  clear h hB hi hR hn hs hsh
  go_enter Try.func19, Try.ntmps19
  go_wp2_with fail
  refine (iopen_row W w b n m HN.out bm fs HSh.out _ HR.out HH.out i HI.out s HS.out).mono ?_
  rintro e w' ⟨rfl, hf⟩
  rw [HRR.out]
  have HF := hid hf
  clear hf
  unfold told
  go_wp2_with fail
  go_ret2
  exact ⟨rfl, HF.out⟩
end Go.Proofs.Ytakmeipmngeilaa.SE

set_option linter.unusedVariables false
set_option linter.unusedSimpArgs false
set_option linter.unusedSectionVars false
namespace Go.Proofs.Ytakmeipmngeilaa.SE
set_option maxRecDepth 100000
open Go.RowKit K

theorem exec_eqS {op : Oper} {a : Act} (x y : Operand) (u : TypeId) (ho : op.op = .binOp .eql 9 x y u) (p q : ByteArray) (hx : a.eval x = .string p) (hy : a.eval y = .string q) (r : Bool) (h : decide (p.data.toList = q.data.toList) = r) (w : World) :
    (execOp a.eval op).run Try.prog w = .ok (.value (.bool r)) w := by
  subst h
  unfold execOp
  simp only [ho, hx, hy]
  have e : (binOp .eql 9 (.string p) (.string q)).run Try.prog w = .ok (.bool (decide (p.data.toList = q.data.toList))) w := by
    rw [← neq_s]
    simp [binOp]
    rfl
  simp [e, eqGuard, Result.andThen]
theorem bw_u8s (c : Nat) (hc : c < 256) (n : Nat) : AR.bw .u8 (fun _ => c) n = u8s (List.replicate n (UInt8.ofNat c)) := by
  unfold AR.bw u8s
  rw [List.map_replicate, UInt8.toNat_ofNat', Nat.mod_eq_of_lt (show c < 2 ^ 8 from hc)]
  exact List.ext_getElem? fun i => by by_cases h : i < n <;> simp [h]
def keyL (c : Nat) : List UInt8 := List.replicate 32 (UInt8.ofNat c)
theorem keyL_length (c : Nat) : (keyL c).length = 32 := by simp [keyL]
variable [SH.Tab]
theorem key_any (c : Nat) (hc : c < 256) (w : World) : Calls Try.prog 21 #[.int .u8 (c : Int)] w fun e w' => e = .returned (.string (sb (keyL c))) ∧ Fr No w w' := by
  obtain ⟨i5, hi5, hz5, hs5, hb5⟩ := Go.info_parts infoB
  have I5 := hid hi5; have Z5 := hid hz5; have S5 := hid hs5; have B5 := hid hb5
  have HC := hid hc
  clear hi5 hz5 hs5 hb5 hc
  go_enter Try.func21, Try.ntmps21
  go_wp2_with (first
    | ((with_reducible show wpList _ _ _ (⟨_, .makeSlice 38 _ _, _, _, _, _⟩ :: _) _ _); refine wpL_make rfl _ _ _ rfl _ i5 _ (.int .u8 0) 1 Try.underlying38 I5.out Z5.out rfl (by decide) S5.out _ _ 32 rfl rfl (by rw [B5.out]; decide) (by decide) ?_; intro w2 HB2 HF2 HS2)
    | fail)
  obtain ⟨b, hb⟩ : ∃ b, w.heap.size = b := ⟨_, rfl⟩
  have HW := hid hb
  have HR := hid (show Blk w2 b 5 (AR.bw .u8 (AR.upto 0 (fun _ => c) fun _ => 0) 32) ∧ Fr No w w2 by rw [AR.upto_zero, ← hb]; exact ⟨HB2.out, HF2.out⟩)
  rw [hb]
  clear HB2 HF2 HS2 hb
  go_loopw [4] (fun i wr => ∃ m : Nat, m ≤ 32 ∧ i = .int .i64 m ∧ Hid (Blk wr b 5 (AR.bw .u8 (AR.upto m (fun _ => c) fun _ => 0) 32) ∧ Fr No w wr)) (fun i _ => 32 - (intOf i).toNat)
  case atStart => exact ⟨0, by omega, rfl, HR⟩
  case round =>
    clear HR
    obtain ⟨m, hm, rfl, HR⟩ := hrel
    by_cases hlt : m < 32
    · go_wp2_with (first
        | ((with_reducible show wpList _ _ _ (⟨_, .store 5 _ _, _, _, _, _⟩ :: _) _ _); refine AR.wpL_put rfl _ _ _ rfl b m c rfl rfl _ _ 32 HR.out.1 hlt SH.infoU8 ?_; intro w5 HB5 HF5 HS5)
        | fail)
      have HR' := hid (show Blk w5 b 5 (AR.bw .u8 (AR.upto (m + 1) (fun _ => c) fun _ => 0) 32) ∧ Fr No w w5 by
        rw [← AR.upto_set]
        exact ⟨HB5.out, HR.out.2.trans HF5.out fun i e => .inr (by have := HW.out; have : i = b := e; omega)⟩)
      clear HR HB5 HF5 HS5
      go_wp2_with fail
      go_roundw
      case rel => exact ⟨m + 1, by omega, by go_num, HR'⟩
      case measure => simp [intOf]; omega
    · obtain rfl : m = 32 := by omega
      have hB := HR.out.1
      rw [AR.upto_all, bw_u8s c HC.out] at hB
      have HBI := hid (blk_bytes hB)
      rw [show (List.replicate 32 (UInt8.ofNat c)).length = 32 by simp] at HBI
      have HF := hid HR.out.2
      clear hB HR
      go_wp2_with (first
        | ((with_reducible show wpList _ _ _ (⟨_, .convert _ 9 _, _, _, _, _⟩ :: _) _ _); refine wpL_stringS rfl _ rfl _ _ (keyL c) rfl HBI.out ?_)
        | fail)
      go_ret
      exact ⟨rfl, HF.out⟩
theorem buildKeys (s : S) (w : World) : (Instr.buildSlice 22 1 #[(0, .string s)]).run Try.prog w = .ok (.slice (some ⟨w.heap.size, 0, none⟩) 1 1) (w.alloc (.cells #[.string s] 9)) := by kernel_rfl
def K1 : S := sb (keyL 1)
def no : Nat → Mp := fun _ _ => none
def ab : List UInt8 := [97, 98]
theorem aw1 : bseal [K1] 1 0 7 ab = ((kyv 0 K1).seal (sb (eight 7)) ab, 0) := by
  unfold bseal
  rw [if_neg (by decide), if_neg (by decide)]
  rfl
theorem aw2 : bopen [K1] 1 0 ((kyv 0 K1).seal (sb (eight 7)) ab) = (ab, 0) := by
  unfold bopen
  rw [if_neg (by decide)]
  exact Ky.open_seal _ (by rw [sb_size, eight_length]) (by decide)
theorem aw3 (s : List UInt8) : bopen [K1] 1 1 s = ([], 81) := by
  unfold bopen
  rw [if_pos (by decide)]
theorem aw4 : iseal no 1 0 7 ab = (form 0 (eight 7) 2, 0) := by
  unfold iseal
  rw [if_neg (by decide), if_neg (by decide)]
  rfl
theorem aw5 : inext no 1 0 7 ab = fun j => if j = 0 then updM (fun _ => none) (eight 7) ab else no j := by
  unfold inext
  rw [aw4, if_pos rfl]
  rfl
theorem aw6 (p : List UInt8) (hp : p.length ≤ 200) : iseal (inext no 1 0 7 ab) 1 0 7 p = ([], 80) := by
  unfold iseal
  rw [if_neg (by decide), if_neg (by omega), aw5]
  simp only [Int.toNat_zero, if_true, updM]
theorem aw7 (p : List UInt8) (hp : p.length ≤ 200) : inext (inext no 1 0 7 ab) 1 0 7 p = inext no 1 0 7 ab := by
  show (if (iseal (inext no 1 0 7 ab) 1 0 7 p).2 = 0 then _ else inext no 1 0 7 ab) = _
  rw [aw6 p hp, if_neg (show ¬ ((80 : Nat) = 0) by decide)]
theorem ropen_form (num : UInt8) (f : Mp) (n p : List UInt8) (hn : n.length = 8) (hf : f n = some p) : ropen num f (form num n p.length) = (p, 0) := by
  have e8 : (form num n p.length).take 8 = n := by
    unfold form
    rw [List.take_append_of_le_length (by omega), List.take_of_length_le (by omega)]
  unfold ropen
  rw [if_neg (by rw [form_length]; omega), e8, hf]
  exact if_pos rfl
theorem aw8 : iopen (inext no 1 0 7 ab) 1 0 (form 0 (eight 7) 2) = (ab, 0) := by
  unfold iopen
  rw [if_neg (by decide), aw5]
  exact ropen_form 0 _ (eight 7) ab (eight_length 7) (by simp [updM])
theorem no_short : Short no := fun _ _ _ h => by cases h
end Go.Proofs.Ytakmeipmngeilaa.SE
