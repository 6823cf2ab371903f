/-
  Part 24 of the proof: StM, StN, StY.
-/
import Derived.Test.YtflfmkokfbgclaaGreatRc23
import Derived.Test.YtflfmkokfbgclaaGreatRc21
import Derived.Test.YtflfmkokfbgclaaGreatRc06
set_option linter.unusedSimpArgs false
set_option linter.unusedVariables false
namespace Go.Proofs.YtflfmkokfbgclaaGreat.ST
set_option maxRecDepth 100000
open Go.RowKit K

/-- 'make([]T, 0, n)'. -/
theorem wpL_makeCap {P : Program} {ops : Array Oper} {rest : List Oper} {op : Oper} {a : Act} {w : World} {Q : Exit → Act → World → Prop} (hgd : op.guard = none) (l c : Operand) (t : TypeId) (ho : op.op = .makeSlice t l c) (e : TypeId) (i : TypeInfo) (z v : Value) (m : Nat) (hu : P.underlying t = some (.slice e)) (hi : P.info? e = some i)
    (hz : i.zero = some z) (hzm : z.cells = (List.replicate m v).toArray) (hm : 0 < m) (hs : i.size = m) (kl kc : IntKind) (n : Nat) (hl : a.eval l = .int kl 0) (hc : a.eval c = .int kc n) (b2 : i.bytes * n ≤ 281474976710656) (b3 : n ≤ maxLen)
    (h : ∀ w', Hid (Blk w' w.heap.size e (List.replicate (n * m) v)) → Hid (Fr No w w') → Hid (w'.heap.size = w.heap.size + 1) → wpList P ops Q rest (a.put op.dst (.slice (some ⟨w.heap.size, 0, none⟩) 0 n)) w') : wpList P ops Q (op :: rest) a w := by
  refine wpList_plain hgd fun K hK => ?_
  have hrun := run_make (P := P) w t e i z hu hi hz kl kc 0 n (by omega) (by omega) (by omega) (by unfold maxLen at b3; omega)
  rw [made_one z.cells v _ m hzm hm, hs] at hrun
  unfold Oper.wp
  simp [execOp, ho, hl, hc, hrun, Result.andThen]
  exact hK _ _ (h _ (hid (by simpa using Blk.new w e (List.replicate (n * m) v))) (hid ((Fr.refl _ _).alloc _)) (hid (by simp)))
def toCh (p : S × S) : Ch := ⟨p.1, p.2, false⟩
/-- The bytes of a tree's image. -/
def imgS (l : TR.L) : List UInt8 := recS (l.map toCh)
theorem imgS_length : ∀ (l : TR.L), (imgS l).length = imgN l
  | [] => rfl
  | x :: r => by
    have ih := imgS_length r
    show ((toCh x).bytes ++ imgS r).length = _
    rw [List.length_append, bytes_length, ih]
    rfl
theorem imgS_snoc (l : TR.L) (x : S × S) : imgS (l ++ [x]) = imgS l ++ (toCh x).bytes := by unfold imgS; rw [List.map_append]; exact recS_snoc _ _
theorem imgN_take : ∀ (l : TR.L) (j : Nat), imgN (l.take j) ≤ imgN l
  | [], j => by simp [imgN]
  | x :: r, 0 => by simp [imgN]
  | x :: r, j + 1 => by
    have := imgN_take r j
    simp only [List.take_succ_cons, imgN]
    omega
theorem infoPair : (Tryz.prog.info? 71).map (·.size) = some 2 := by kernel_rfl
theorem zeroPair (w : World) : (zeroValue 71).run Tryz.prog w = .ok (.agg #[.string ⟨#[]⟩, .string ⟨#[]⟩]) w := by kernel_rfl
theorem buildCh2 (k v : S) (w : World) : (Instr.build 55 #[(0, .string k), (1, .string v)]).run Tryz.prog w = .ok (.agg #[.string k, .string v, .bool false]) w := by kernel_rfl
set_option maxHeartbeats 16000000 in
theorem image_any (W w : World) (b o : Nat) (tb : TypeId) (cs : List Value) (bt : Nat) (T : TR.TD) (l : TR.L) (h : Ct W w b o tb cs bt T l) (hn : imgN l ≤ 500000) (hl : l.length ≤ 100000) :
    Calls Tryz.prog 43 #[.pointer (some ⟨b, o, none⟩)] w fun e w' => e = .returned (L.str (imgS l)) ∧ Fr No w w' := by
  have H := hid h; have HN := hid hn; have HLL := hid hl
  obtain ⟨n0, hn0⟩ : ∃ n : Nat, imgN l = n := ⟨_, rfl⟩
  have c1 : w.cell? ⟨b, o + 1, none⟩ = some (.int .i64 (n0 : Int)) := by rw [← hn0]; exact h.len
  have hn0b : n0 ≤ 500000 := by omega
  have HN0 := hid hn0b
  have hn0i : (n0 : Int) ≤ 500000 := by omega
  obtain ⟨i5, hi5, hz5, hs5, hb5⟩ := Go.info_parts info5z
  have I5 := hid hi5; have Z5 := hid hz5; have S5 := hid hs5; have B5 := hid hb5
  have hbc := buildCh2
  clear h hn hl hn0 hn0b hi5 hz5 hs5 hb5
  go_enter Tryz.func43, Tryz.ntmps43
  go_wp2_with ((with_reducible show wpList _ _ _ (⟨_, .makeSlice 40 _ _, _, _, _, _⟩ :: _) _ _); refine wpL_makeCap rfl _ _ _ rfl _ i5 _ (.int .u8 0) 1 rfl I5.out Z5.out rfl (by decide) S5.out _ _ n0 rfl rfl (by rw [B5.out]; omega) (by have := HN0.out; unfold maxLen; omega) ?_; intro w1 HB1 F1 HS1; have t1 : w1.cell? ⟨b, o, none⟩ = some (pt bt) := (H.out.no F1.out).ptr)
  refine ((H.out.no F1.out).t.all (by have := HLL.out; omega)).mono ?_
  rintro e w2 ⟨pv, rfl, p2, -, f2⟩
  have HF2 : Hid (Fr No w w2) := hid (F1.out.trans' f2)
  have HB2 := hid (HB1.out.fr f2 id)
  have HP2 := hid p2
  obtain ⟨pa, pc, rfl, hpp⟩ := p2
  have HPP := hid hpp
  have hli : (l.length : Int) ≤ 100000 := by have := HLL.out; omega
  clear f2 hpp t1 c1
  go_wp2_with fail
  go_loopw [3, 17] (fun rv iv wr => ∃ (j : Nat) (ra : Option Addr) (rc : Nat), j ≤ l.length ∧ iv = .int .i64 (j : Int) ∧ rv = .slice ra (imgS (l.take j)).length rc ∧ Hid (wr.ownsRow w.heap.size 5 1 rv (imgS (l.take j)).length (u8s (imgS (l.take j)))) ∧ Hid (∀ k, (Value.slice ra (imgS (l.take j)).length rc).ownBlock = some k → k = w.heap.size ∨ w2.heap.size ≤ k) ∧ Hid (l = [] ∨ ∃ g, pa = some ⟨g, 0, none⟩ ∧ wr.rangeAt g 0 (TR.pcs l) ∧ w1.heap.size ≤ g ∧ g < w2.heap.size) ∧ Hid (w2.heap.size ≤ wr.heap.size) ∧ Hid (Fr No w wr)) (fun _ iv _ => l.length - (intOf iv).toNat)
  case atStart =>
    refine ⟨0, some ⟨w.heap.size, 0, none⟩, n0, by omega, rfl, rfl, hid ?_, hid (fun k e => .inl (by have h : some w.heap.size = some k := e; exact (Option.some.inj h).symm)), HPP, hid (Nat.le_refl _), HF2⟩
    exact HB2.out.own (n := 0) (cap := n0) (Nat.le_refl _) rfl (Nat.zero_le _) (by have := HN0.out; unfold maxLen; omega) (by simp) rfl
  case round =>
    obtain ⟨j, ra, rc, hj, rfl, rfl, HO, HK, HR, HZ, HF⟩ := hrel
    by_cases hlt : j < l.length
    · have hlt' : (j : Int) < (l.length : Int) := by omega
      obtain ⟨x, hx⟩ : ∃ x, l[j]? = some x := ⟨_, List.getElem?_eq_getElem hlt⟩
      have htk : l.take (j + 1) = l.take j ++ [x] := by rw [List.take_add_one, hx]; rfl
      have HTQ : Hid (imgS (l.take (j + 1)) = imgS (l.take j) ++ (toCh x).bytes) := hid (by rw [htk, imgS_snoc])
      have hql : (imgS (l.take j)).length ≤ 468 * l.length := by
        rw [imgS_length]
        have h1 := imgN_le (l.take j) (fun p hp => H.out.m p (List.mem_of_mem_take hp))
        have h2 := List.length_take_le j l
        omega
      have hqs : (imgS (l.take j)).length ≤ 1000000 := by
        rw [imgS_length]
        have := imgN_take l j
        have := HN.out
        omega
      have HQS := hid hqs
      have HXM : Hid (x.1.size ≤ 64 ∧ x.2.size ≤ 400) := hid (H.out.m x (List.mem_of_getElem? hx))
      obtain ⟨g, rfl, hrg, hg1, hg2⟩ : ∃ g, pa = some ⟨g, 0, none⟩ ∧ wr.rangeAt g 0 (TR.pcs l) ∧ w1.heap.size ≤ g ∧ g < w2.heap.size := by
        rcases HR.out with e | h
        · rw [e] at hlt; simp at hlt
        · exact h
      have HG := hid hg1; have HG2 := hid hg2
      have HRG := hid hrg
      have HGR : Hid (wr.rangeAt g (j * 2) [.string x.1, .string x.2]) := hid (by have h := TR.range_pr hrg hx; rwa [Nat.zero_add] at h)
      have HONE : Hid (∀ u ∈ [Value.string x.1, .string x.2], u.oneCell' = true) := hid (by intro u hu; simp at hu; rcases hu with rfl | rfl <;> rfl)
      have hqi : ((imgS (l.take j)).length : Int) ≤ 1000000 := by omega
      generalize imgS (l.take j) = q at HO HK HTQ HQS hqi ⊢
      clear htk hx hql hqs hrg hg1 hg2
      go_wp2_with (first
        | ((with_reducible show wpList _ _ _ (⟨_, .load 71 _, _, _, _, _⟩ :: _) _ _); refine wpL_load rfl _ _ rfl g (j * 2) rfl [.string x.1, .string x.2] _ HGR.out rfl rfl infoPair ?_)
        | ((with_reducible show wpList _ _ _ (⟨_, .alloc 71, _, _, _, _⟩ :: _) _ _); refine wpL_alloc rfl _ rfl _ zeroPair [.string ⟨#[]⟩, .string ⟨#[]⟩] rfl ?_; intro w4 HB4 F4 HS4)
        | ((with_reducible show wpList _ _ _ (⟨_, .store 71 _ _, _, _, _, _⟩ :: _) _ _); refine TR.wpL_storeV rfl _ _ _ rfl wr.heap.size 0 (.agg #[.string x.1, .string x.2]) [.string x.1, .string x.2] rfl rfl rfl _ _ HB4.out (by simp) infoPair HONE.out ?_; intro w5 HB5 F5 HS5;
            have HBx : Hid (Blk w5 wr.heap.size 71 [.string x.1, .string x.2]) := hid (by have h := HB5.out; simpa [spl] using h);
            have x0 : w5.cell? ⟨wr.heap.size, 0, none⟩ = some (.string x.1) := HBx.out.cell 0; have x1 : w5.cell? ⟨wr.heap.size, 1, none⟩ = some (.string x.2) := HBx.out.cell 1))
      have HF5 : Hid (Fr No wr w5) := hid (F4.out.trans F5.out (fun k hk => .inr (Nat.le_of_eq (Eq.symm hk))))
      have HO5 : Hid (w5.ownsRow w.heap.size 5 1 (.slice ra q.length rc) q.length (u8s q)) := hid (own_fr HO.out HF5.out (fun _ _ e => e))
      refine (add_any w.heap.size (toCh x) (.slice ra q.length rc) q w5 HO5.out HQS.out HXM.out.1 HXM.out.2 (Nat.le_trans HF.out.size HF5.out.size)).mono ?_
      rintro e w7 ⟨a7, c7, rfl, o7, f7, g7⟩
      have HO7 := hid o7
      have HF7 : Hid (Fr No w w7) := hid ((HF.out.trans' HF5.out).trans f7 (fun k hk => .inr (own_low HO5.out k hk)))
      have HK7 : Hid (∀ k, (Value.slice a7 (q ++ (toCh x).bytes).length c7).ownBlock = some k → k = w.heap.size ∨ w2.heap.size ≤ k) := hid (fun k hk => (g7 k hk).elim (HK.out k) (fun e => .inr (Nat.le_trans HZ.out (Nat.le_trans HF5.out.size e))))
      have HR7 : Hid (l = [] ∨ ∃ g', some (⟨g, 0, none⟩ : Addr) = some ⟨g', 0, none⟩ ∧ w7.rangeAt g' 0 (TR.pcs l) ∧ w1.heap.size ≤ g' ∧ g' < w2.heap.size) := hid (.inr ⟨g, rfl, f7.range (HF5.out.range HRG.out id) (fun e => by
        rcases HK.out g e with e1 | e1
        · have h1 := HG.out; have h2 := HB1.out.lt; omega
        · have h1 := HG2.out; omega), HG.out, HG2.out⟩)
      have HZ7 : Hid (w2.heap.size ≤ w7.heap.size) := hid (Nat.le_trans HZ.out (Nat.le_trans HF5.out.size f7.size))
      clear o7 f7 g7 x0 x1
      go_wp2_with fail
      refine ⟨⟨j + 1, a7, c7, by omega, by go_num, by rw [HTQ.out, List.length_append], hid ?_, hid ?_, HR7, HZ7, HF7⟩, by simp [intOf]; omega⟩
      · rw [HTQ.out]
        have h := HO7.out
        simpa only [List.length_append] using h
      · rw [HTQ.out]
        exact HK7.out
    · have hje : j = l.length := by omega
      have hge : ¬ ((j : Int) < (l.length : Int)) := by omega
      have htl : l.take j = l := by rw [hje, List.take_length]
      rw [htl] at HO ⊢
      clear htl hje hlt
      go_wp2_with ((with_reducible show wpList _ _ _ (⟨_, .convert _ 9 _, _, _, _, _⟩ :: _) _ _); refine wpL_stringOf rfl 40 9 5 _ rfl _ (fun k => w.heap.size ≤ k) (imgS l) rfl (own_bytes HO.out) Tryz.underlying40 Tryz.underlying5 Tryz.underlying9 ?_)
      go_ret
      exact ⟨rfl, HF.out⟩
end Go.Proofs.YtflfmkokfbgclaaGreat.ST

namespace Go.Proofs.YtflfmkokfbgclaaGreat.ST
set_option maxRecDepth 100000
open Go.RowKit K

/-- Two results, the first of which lies in memory. -/
theorem ret_cell2 {P : Program} {a : Act} {w : World} {fn : Func} {R : Ending → World → Prop} {p q : Tmp} {ty : TypeId} {b : Nat} {t : TypeId} {cs : List Value} (hr : fn.results = #[.cell p ty, .tmp q]) (d : TypeDesc) (hp : a.tmps.getD p undef = .pointer (some ⟨b, 0, none⟩)) (hB : Blk w b t cs)
    (hu : P.underlying ty = some d) (hd : (match d with | .struct _ | .array _ _ => true | _ => false) = true) (hi : (P.info? ty).map (·.size) = some cs.length) (hdf : a.defers = [])
    (h : R (.returned (.tuple #[.agg cs.toArray, a.tmps.getD q undef])) w) : bodyPost P fn R .ret a w := by
  refine bodyPost_ret ?_ hdf h
  have hp' : a.tmps[p]?.getD undef = .pointer (some ⟨b, 0, none⟩) := by simpa using hp
  simp [results, hr, hp', asAddr, run_loadVar_row w b t ty cs.toArray (0, 0) d hB hu hd (by simpa using hi)]
/-- The tree that a string is the image of. -/
def conG : Nat → S → S → TR.L → Option TR.L
  | 0, _, _, l => some l
  | n + 1, s, last, l => if s.size = 0 then some l else match cutS s with
    | none => none
    | some (c, r) => if c.gone = true ∨ TR.lt last c.key = false then none else conG n r c.key (appC l c)
def conS (s : S) : Option TR.L := conG (s.size + 1) s ⟨#[]⟩ []
theorem run_leqs (x y : S) (w : World) : (binOp .leq 9 (.string x) (.string y)).run Tryz.prog w = .ok (.bool (!TR.lt y x)) w := by
  have hb : (Op.bytesLess x.toList y.toList || x.toList == y.toList) = !TR.lt y x := by
    rw [TR.eq_beq]
    show (TR.lt x y || decide (x = y)) = !TR.lt y x
    by_cases he : x = y
    · subst he; simp [TR.lt_irr]
    · cases h : TR.lt x y
      · cases h' : TR.lt y x
        · exact absurd (TR.lt_tot h h') he
        · simp [he]
      · simp [TR.lt_asymm h]
  rw [← hb]; rfl
theorem infoCon : (Tryz.prog.info? 63).map (·.size) = some 2 := by kernel_rfl
theorem zeroCon (w : World) : (zeroValue 63).run Tryz.prog w = .ok (.agg #[.pointer none, .int .i64 0]) w := by kernel_rfl
theorem buildCon0 (w : World) : (Instr.build 63 #[]).run Tryz.prog w = .ok (.agg #[.pointer none, .int .i64 0]) w := by kernel_rfl
theorem buildCon (b : Nat) (w : World) : (Instr.build 63 #[(0, pt b)]).run Tryz.prog w = .ok (.agg #[pt b, .int .i64 0]) w := by kernel_rfl
/-- What contentsOf gives. -/
def ConV (w : World) (r : Option TR.L) (e : Ending) (w' : World) : Prop := match r with
  | none => e = .returned (.tuple #[.agg #[.pointer none, .int .i64 0], .bool false]) ∧ Fr No w w'
  | some l => ∃ bt T, e = .returned (.tuple #[.agg #[pt bt, .int .i64 (imgN l : Int)], .bool true]) ∧ TR.Lv w w' bt T l ∧ Mays l
set_option maxHeartbeats 16000000 in
theorem contentsOf_any (s : S) (w : World) (hs : s.size ≤ 1000000) : Calls Tryz.prog 51 #[.string s] w (ConV w (conS s)) := by
  obtain ⟨r, hr⟩ : ∃ r, conS s = r := ⟨_, rfl⟩
  have HR := hid hr
  have HSZ := hid hs
  rw [hr]
  clear hr hs
  obtain ⟨ic, hic, hzc, hsc, hbc⟩ := Go.info_parts infozCh
  have IC := hid hic; have ZC := hid hzc; have SC := hid hsc
  clear hic hzc hsc hbc
  go_enter Tryz.func51, Tryz.ntmps51
  go_wp2_with (first
    | ((with_reducible show wpList _ _ _ (⟨_, .alloc 63, _, _, _, _⟩ :: _) _ _); refine wpL_alloc rfl _ rfl _ zeroCon [.pointer none, .int .i64 0] rfl ?_; intro w1 HB1 HF1 HS1)
    | fail)
  refine (TR.new_any _).mono ?_
  rintro e w2 ⟨bt, T, rfl, hT⟩
  have HT2 := hid (hT.pre HF1.out)
  have HB2 := hid (HB1.out.fr hT.fr id)
  have hTge := hT.ge
  have HNB := hid (show ¬ T.fp w.heap.size from fun e => by have := hTge _ e; have := HS1.out; omega)
  clear hT hTge HB1
  go_wp2_with (first
    | ((with_reducible show wpList _ _ _ (⟨_, .build 63 _, _, _, _, _⟩ :: _) _ _); refine wpL_build rfl _ [(0, .tmp 8)] rfl (.agg #[pt bt, .int .i64 0]) (buildCon bt _) ?_)
    | ((with_reducible show wpList _ _ _ (⟨_, .store 63 _ _, _, _, _, _⟩ :: _) _ _); refine TR.wpL_storeV rfl _ _ _ rfl w.heap.size 0 (.agg #[pt bt, .int .i64 0]) [pt bt, .int .i64 0] rfl rfl rfl _ _ HB2.out (by simp) infoCon (by intro u hu; simp at hu; rcases hu with rfl | rfl <;> rfl) ?_; intro w3 HB3 HF3 HS3)
    | fail)
  obtain ⟨b, hb⟩ : ∃ b, w.heap.size = b := ⟨_, rfl⟩
  have HC := hid (show Ct w w3 b 0 63 [pt bt, .int .i64 0] bt T [] by
    rw [← hb]
    exact ⟨⟨HT2.out.b, HT2.out.at_.fr HF3.out (fun k hk e => HNB.out (by have e' : k = w.heap.size := e; rw [← e']; exact hk)), HT2.out.fr.trans HF3.out (fun k e => .inr (by have e' : k = w.heap.size := e; omega)), HT2.out.ge⟩,
      by have h := HB3.out; simpa [spl, imgN] using h, rfl, Nat.lt_succ_self 1, HNB.out, by omega, fun p hp => by simp at hp⟩)
  have HBW := hid hb
  rw [hb]
  clear HB2 HF1 HS1 HT2 HB3 HF3 HS3 HNB hb
  go_wp2_with fail
  go_loopw [0, 4] (fun tv lv wr => ∃ (t last : S) (l : TR.L) (T : TR.TD) (n : Nat), tv = .string t ∧ lv = .string last ∧ t.size ≤ 1000000 ∧ Hid (t.size < n) ∧ Hid (conG n t last l = r) ∧ Hid (l.length + t.size ≤ 1000000) ∧ Hid (Ct w wr b 0 63 [pt bt, .int .i64 0] bt T l)) (fun tv _ _ => strLen tv)
  case atStart => exact ⟨s, ⟨#[]⟩, [], T, s.size + 1, rfl, rfl, HSZ.out, hid (Nat.lt_succ_self _), HR, hid (by have := HSZ.out; simpa using this), HC⟩
  case round =>
    clear HC
    obtain ⟨t, last, l, T, n, rfl, rfl, hts, HN, HD, HL, HC⟩ := hrel
    have hes := empty_size t
    obtain ⟨m, rfl⟩ : ∃ m, n = m + 1 := ⟨n - 1, by have := HN.out; omega⟩
    by_cases h0 : t.size = 0
    · have hte : t.toList.isEmpty = true := by rw [hes]; simp [h0]
      have hrn : r = some l := by rw [← HD.out]; unfold conG; rw [if_pos h0]
      have HRN := hid hrn
      clear hrn h0 hes
      have hrg := HC.out.blk.range 0 [pt bt, .int .i64 (imgN l : Int)] rfl
      go_wp2_with (first
        | ((with_reducible show wpList _ _ _ (⟨_, .load 63 _, _, _, _, _⟩ :: _) _ _); refine wpL_load rfl _ _ rfl b 0 rfl [pt bt, .int .i64 (imgN l : Int)] _ hrg rfl rfl infoCon ?_)
        | ((with_reducible show wpList _ _ _ (⟨_, .store 63 _ _, _, _, _, _⟩ :: _) _ _); refine TR.wpL_storeV rfl _ _ _ rfl b 0 (.agg #[pt bt, .int .i64 (imgN l : Int)]) [pt bt, .int .i64 (imgN l : Int)] rfl rfl rfl _ _ HC.out.blk (by simp) infoCon (by intro u hu; simp at hu; rcases hu with rfl | rfl <;> rfl) ?_; intro w4 HB4 HF4 HS4)
        | fail)
      refine ret_cell2 rfl _ rfl HB4.out rfl rfl (by simp [spl, infoCon]) rfl ?_
      rw [HRN.out]
      have hbw := HBW.out
      refine ⟨bt, T, by simp [spl], ⟨HC.out.t.b, HC.out.t.at_.fr HF4.out (fun k hk e => HC.out.nb (by have e' : k = b := e; rw [← e']; exact hk)), HC.out.t.fr.trans HF4.out (fun k e => .inr (by have e' : k = b := e; omega)), HC.out.t.ge⟩, HC.out.m⟩
    · have hte : t.toList.isEmpty = false := by rw [hes]; simp [h0]
      have HD2 : Hid ((match cutS t with
        | none => none
        | some (c, r) => if c.gone = true ∨ TR.lt last c.key = false then none else conG m r c.key (appC l c)) = r) := hid (by have h := HD.out; unfold conG at h; rwa [if_neg h0] at h)
      clear hes h0
      go_wp2_with fail
      refine (cut_any t wr (by omega)).mono ?_
      rintro e w2 ⟨rfl, f2⟩
      have HF2 := hid f2
      have HC2 := hid (HC.out.no f2)
      clear f2 HC
      cases hc : cutS t with
      | none =>
        have hrn : r = none := by have h := HD2.out; rw [hc] at h; exact h.symm
        have HRN := hid hrn
        clear hrn hc
        unfold cutV
        simp only
        go_wp2_with (first
          | ((with_reducible show wpList _ _ _ (⟨_, .alloc 55, _, _, _, _⟩ :: _) _ _); refine wpL_alloc rfl _ rfl _ zeroCh [.string ⟨#[]⟩, .string ⟨#[]⟩, .bool false] rfl ?_; intro w4 HB4 F4 HS4; have HC4 := hid (HC2.out.no F4.out))
          | ((with_reducible show wpList _ _ _ (⟨_, .store 55 _ _, _, _, _, _⟩ :: _) _ _); refine TR.wpL_storeV rfl _ _ _ rfl w2.heap.size 0 noCh.agg [.string ⟨#[]⟩, .string ⟨#[]⟩, .bool false] rfl rfl rfl _ _ HB4.out (by simp) infoCh (by intro u hu; simp at hu; rcases hu with rfl | rfl <;> rfl) ?_; intro w5 HB5 F5 HS5; have HN5 := hid (HC4.out.blk.fr F5.out (fun e => by have := HC2.out.blk.lt; have : b = w2.heap.size := e; omega)))
          | ((with_reducible show wpList _ _ _ (⟨_, .build 63 _, _, _, _, _⟩ :: _) _ _); refine wpL_build rfl _ [] rfl (.agg #[.pointer none, .int .i64 0]) (buildCon0 _) ?_)
          | ((with_reducible show wpList _ _ _ (⟨_, .store 63 _ _, _, _, _, _⟩ :: _) _ _); refine TR.wpL_storeV rfl _ _ _ rfl b 0 (.agg #[.pointer none, .int .i64 0]) [.pointer none, .int .i64 0] rfl rfl rfl _ _ HN5.out (by simp) infoCon (by intro u hu; simp at hu; rcases hu with rfl | rfl <;> rfl) ?_; intro w6 HB6 HF6 HS6)
          | fail)
        refine ret_cell2 rfl _ rfl HB6.out rfl rfl (by simp [spl, infoCon]) rfl ?_
        rw [HRN.out]
        have hbw := HBW.out
        have h2 := HC2.out.t.fr
        exact ⟨by simp [spl], ((h2.trans' F4.out).trans F5.out (fun k hk => .inr (by have e' : k = w2.heap.size := hk; have := h2.size; omega))).trans HF6.out (fun k e => .inr (by have e' : k = b := e; omega))⟩
      | some p =>
        obtain ⟨x, t'⟩ := p
        have hless := cut_less hc
        have hms := may_sizes (cut_sizes hc)
        have HD3 : Hid ((if x.gone = true ∨ TR.lt last x.key = false then none else conG m t' x.key (appC l x)) = r) := hid (by have h := HD2.out; rw [hc] at h; exact h)
        have HONE : Hid (∀ u ∈ [Value.string x.key, .string x.value, .bool x.gone], u.oneCell' = true) := hid (by intro u hu; simp at hu; rcases hu with rfl | rfl | rfl <;> rfl)
        have HLE := hid hless; have HMS := hid hms
        clear hc hless HD2 hms
        unfold cutV
        simp only
        go_wp2_with (first
          | ((with_reducible show wpList _ _ _ (⟨_, .alloc 55, _, _, _, _⟩ :: _) _ _); refine wpL_alloc rfl _ rfl _ zeroCh [.string ⟨#[]⟩, .string ⟨#[]⟩, .bool false] rfl ?_; intro w4 HB4 F4 HS4)
          | ((with_reducible show wpList _ _ _ (⟨_, .store 55 _ _, _, _, _, _⟩ :: _) _ _); refine Hid.out ?_)
          | fail)
        refine hid ?_
        refine TR.wpL_storeV rfl _ _ _ rfl w2.heap.size 0 x.agg [.string x.key, .string x.value, .bool x.gone] rfl rfl rfl _ _ HB4.out (by simp) infoCh HONE.out ?_
        intro w5 HB5 F5 HS5
        have HBx : Hid (Blk w5 w2.heap.size 55 [.string x.key, .string x.value, .bool x.gone]) := hid (by have h := HB5.out; simpa [spl] using h)
        have HF5 : Hid (Fr No w2 w5) := hid (F4.out.trans F5.out (fun k hk => .inr (Nat.le_of_eq (Eq.symm hk))))
        have HC5 := hid (HC2.out.no HF5.out)
        obtain ⟨bx, hbx⟩ : ∃ b, w2.heap.size = b := ⟨_, rfl⟩
        rw [hbx] at HBx ⊢
        have HBX := hid hbx
        clear HB4 F4 HS4 HB5 F5 HS5 hbx
        have hk := fun w => run_leqs x.key last w
        by_cases hbad : x.gone = true ∨ TR.lt last x.key = false
        · have hrn : r = none := by have h := HD3.out; rw [if_pos hbad] at h; exact h.symm
          have HRN := hid hrn
          clear hrn
          cases hg : x.gone with
          | true =>
            have e2 : w5.cell? ⟨bx, 2, none⟩ = some (.bool true) := by have := HBx.out.cell 2; rw [hg] at this; exact this
            clear hbad hk
            go_wp2_with (first
              | ((with_reducible show wpList _ _ _ (⟨_, .build 63 _, _, _, _, _⟩ :: _) _ _); refine wpL_build rfl _ [] rfl (.agg #[.pointer none, .int .i64 0]) (buildCon0 _) ?_)
              | ((with_reducible show wpList _ _ _ (⟨_, .store 63 _ _, _, _, _, _⟩ :: _) _ _); refine TR.wpL_storeV rfl _ _ _ rfl b 0 (.agg #[.pointer none, .int .i64 0]) [.pointer none, .int .i64 0] rfl rfl rfl _ _ HC5.out.blk (by simp) infoCon (by intro u hu; simp at hu; rcases hu with rfl | rfl <;> rfl) ?_; intro w6 HB6 HF6 HS6)
              | fail)
            refine ret_cell2 rfl _ rfl HB6.out rfl rfl (by simp [spl, infoCon]) rfl ?_
            rw [HRN.out]
            have hbw := HBW.out
            exact ⟨by simp [spl], HC5.out.t.fr.trans HF6.out (fun k e => .inr (by have e' : k = b := e; omega))⟩
          | false =>
            have e2 : w5.cell? ⟨bx, 2, none⟩ = some (.bool false) := by have := HBx.out.cell 2; rw [hg] at this; exact this
            have e0 : w5.cell? ⟨bx, 0, none⟩ = some (.string x.key) := HBx.out.cell 0
            have hl : TR.lt last x.key = false := by rcases hbad with h | h; (rw [hg] at h; cases h); exact h
            rw [hl] at hk
            clear hbad hl
            go_wp2_with (first
              | ((with_reducible show wpList _ _ _ (⟨_, .build 63 _, _, _, _, _⟩ :: _) _ _); refine wpL_build rfl _ [] rfl (.agg #[.pointer none, .int .i64 0]) (buildCon0 _) ?_)
              | ((with_reducible show wpList _ _ _ (⟨_, .store 63 _ _, _, _, _, _⟩ :: _) _ _); refine TR.wpL_storeV rfl _ _ _ rfl b 0 (.agg #[.pointer none, .int .i64 0]) [.pointer none, .int .i64 0] rfl rfl rfl _ _ HC5.out.blk (by simp) infoCon (by intro u hu; simp at hu; rcases hu with rfl | rfl <;> rfl) ?_; intro w6 HB6 HF6 HS6)
              | fail)
            refine ret_cell2 rfl _ rfl HB6.out rfl rfl (by simp [spl, infoCon]) rfl ?_
            rw [HRN.out]
            have hbw := HBW.out
            exact ⟨by simp [spl], HC5.out.t.fr.trans HF6.out (fun k e => .inr (by have e' : k = b := e; omega))⟩
        · have hg : x.gone = false := by cases h : x.gone with
            | true => exact absurd (.inl h) hbad
            | false => rfl
          have hl : TR.lt last x.key = true := by cases h : TR.lt last x.key with
            | true => rfl
            | false => exact absurd (.inr h) hbad
          have HD4 : Hid (conG m t' x.key (appC l x) = r) := hid (by have h := HD3.out; rwa [if_neg hbad] at h)
          have e2 : w5.cell? ⟨bx, 2, none⟩ = some (.bool false) := by have := HBx.out.cell 2; rw [hg] at this; exact this
          have e0 : w5.cell? ⟨bx, 0, none⟩ = some (.string x.key) := HBx.out.cell 0
          rw [hl] at hk
          clear hbad hl HD3 hg
          go_wp2_with (first
            | ((with_reducible show wpList _ _ _ (⟨_, .load 55 _, _, _, _, _⟩ :: _) _ _); refine wpL_load rfl _ _ rfl bx 0 rfl [.string x.key, .string x.value, .bool x.gone] _ (HBx.out.range 0 _ rfl) rfl rfl infoCh ?_)
            | ((with_reducible show wpList _ _ _ (⟨_, .buildSlice 22 _ _, _, _, _, _⟩ :: _) _ _); refine wpL_buildOne rfl _ 55 _ rfl ic _ rfl IC.out ZC.out (by rw [SC.out]; decide) (by rw [SC.out]; decide) _ [.string x.key, .string x.value, .bool x.gone] rfl rfl (by rw [SC.out]; rfl) ?_; intro w6 HB6 F6 HS6)
            | fail)
          have HC6 := hid (HC5.out.no F6.out)
          have hchin : ChIn w6 (fun k => k = w5.heap.size) (.slice (some ⟨w5.heap.size, 0, none⟩) 1 1) [x] := ⟨_, 1, rfl, .inr ⟨_, 0, rfl, rfl, HB6.out.lt, by have := HB6.out.range 0 [.string x.key, .string x.value, .bool x.gone] rfl; simpa [chs, Ch.cells] using this⟩⟩
          refine (apply_any w w6 b 0 _ _ bt T l _ [x] _ HC6.out hchin (fun k e => ⟨fun hk => by have := HC5.out.t.at_.lt k hk; have e' : k = w5.heap.size := e; omega, fun h => by have := HC5.out.blk.lt; have e' : k = w5.heap.size := e; omega⟩) (by intro y hy; simp at hy; subst hy; exact ⟨HMS.out.1, HMS.out.2.1⟩) (by have := HL.out; simp; omega)).mono ?_
          rintro e w7 ⟨rfl, T', hC7, hf7, hg7⟩
          have HC7 := hid (show Ct w w7 b 0 63 [pt bt, .int .i64 0] bt T' (appC l x) from hC7)
          have HB7 := hid ((HBx.out.fr F6.out id).fr hf7 (fun e => e.elim (fun h => by have := HC2.out.t.at_.lt _ h; have := HBX.out; omega) (fun h => by have := HC2.out.blk.lt; have := HBX.out; omega)))
          have e0' : w7.cell? ⟨bx, 0, none⟩ = some (.string x.key) := HB7.out.cell 0
          clear hC7 hf7 hg7 hchin e0 e2 hk
          go_wp2_with fail
          have hal := app_length l x
          have hle := HLE.out
          exact ⟨⟨t', x.key, appC l x, T', m, rfl, rfl, by omega, hid (by have := HN.out; omega), HD4, hid (by have := HL.out; omega), HC7⟩, by simp only [strLen]; omega⟩
end Go.Proofs.YtflfmkokfbgclaaGreat.ST

namespace Go.Proofs.YtflfmkokfbgclaaGreat.ST
set_option maxRecDepth 100000
open Go.RowKit K L

/-- What readRoot tells of a disk, and its error. -/
def rootU (u : U) : Rt × Int :=
  if u.up = false then (⟨0, 0, 0, 0⟩, 10)
  else if 1 < (rtOf (u.sec 0)).area ∨ areaN u.L.length * 64 < (rtOf (u.sec 0)).len ∨ (rtOf (u.sec 0)).sec ≠ u.sec 0 then (⟨1, 0, 0, 0⟩, 0) else (rtOf (u.sec 0), 0)
theorem nm4_lt (l : List UInt8) : nm (l.take 4) < 4294967296 := Nat.lt_of_lt_of_le (nm_lt _) (Nat.pow_le_pow_right (by decide) (by simp; omega) : 256 ^ (l.take 4).length ≤ 256 ^ 4)
theorem rtOf_ok (l : List UInt8) : (rtOf l).Ok := ⟨(l.getD 6 0).toNat_lt, nm4_lt _, nm4_lt _, nm4_lt _⟩
theorem rt_one (r : Rt) : ∀ v ∈ r.cells, v.oneCell' = true := by
  intro v hv; simp [Rt.cells] at hv; rcases hv with rfl | rfl | rfl | rfl <;> rfl
theorem buildRt0 (w : World) : (Instr.build 66 #[]).run Tryz.prog w = .ok (.agg (Rt.cells ⟨0, 0, 0, 0⟩).toArray) w := by kernel_rfl
theorem buildRt1 (w : World) : (Instr.build 66 #[(0, .int .i64 1)]).run Tryz.prog w = .ok (.agg (Rt.cells ⟨1, 0, 0, 0⟩).toArray) w := by kernel_rfl
theorem zeroRt' (w : World) : (zeroValue 66).run Tryz.prog w = .ok (.agg (Rt.cells ⟨0, 0, 0, 0⟩).toArray) w := by kernel_rfl
theorem hentCap (vs : Array Value) (w : World) : (callFunc 36 vs).run Tryz.prog w = .ok (.enter 36 vs) w := by kernel_rfl
theorem hentSec (vs : Array Value) (w : World) : (callFunc 69 vs).run Tryz.prog w = .ok (.enter 69 vs) w := by kernel_rfl
theorem spl_rt (r r' : Rt) : spl r.cells 0 r'.cells = r'.cells := by simp [spl, Rt.cells]
theorem spl_full {cs vs : List Value} (h : vs.length = cs.length) : spl cs 0 vs = vs := by simp [spl, h]
section
variable {w : World} {bd : Nat} {Z : Nat → Prop} {u : U}
set_option maxHeartbeats 16000000 in
theorem readRoot_any (h : Dk w bd Z u) : Calls Tryz.prog 49 #[vol bd] w fun e w' => e = .returned (.tuple #[.agg (rootU u).1.cells.toArray, .int .i64 (rootU u).2]) ∧ Fr No w w' := by
  have H := hid h
  have hl := dk_len h
  obtain ⟨R, hR⟩ : ∃ R, rootU u = R := ⟨_, rfl⟩
  have HR := hid hR
  rw [hR]
  clear h hR
  have HN := hid hl.1
  clear hl
  go_enter Tryz.func49, Tryz.ntmps49
  go_wp2_with (first
    | ((with_reducible show wpList _ _ _ (⟨_, .box 59 _, _, _, _, _⟩ :: _) _ _); refine wpL_box rfl _ _ rfl _ rfl [pt bd] rfl ?_; intro w1 HB1 F1 HS1)
    | ((with_reducible show wpList _ _ _ (⟨_, .alloc 66, _, _, _, _⟩ :: _) _ _); refine wpL_alloc rfl _ rfl _ zeroRt' (Rt.cells ⟨0, 0, 0, 0⟩) rfl ?_; intro w2 HB2 F2 HS2; have x0 : w2.cell? ⟨w.heap.size, 0, none⟩ = some (pt bd) := F2.out.cell (HB1.out.cell 0) id)
    | fail)
  have HV2 := hid (HB1.out.fr F2.out id)
  have HZ2 : Hid (Fr No w w2) := hid (F1.out.trans' F2.out)
  have H2 := hid (D.Rep.no H.out HZ2.out)
  obtain ⟨br, hbr⟩ : ∃ b, w1.heap.size = b := ⟨_, rfl⟩
  obtain ⟨b0, hb0⟩ : ∃ b, w.heap.size = b := ⟨_, rfl⟩
  have HLE : Hid (b0 < br ∧ w.heap.size = b0 ∧ br < w2.heap.size) := hid (by have := HS1.out; have := HS2.out; omega)
  rw [hb0] at x0 HV2 ⊢
  rw [hbr] at HB2 ⊢
  clear hbr hb0 HB1 F1 HS1 F2 HS2
  cases hup : u.up with
  | false =>
    have HR2 : Hid (R = (⟨0, 0, 0, 0⟩, 10)) := hid (by have h := HR.out; unfold rootU at h; rw [if_pos hup] at h; exact h.symm)
    refine (dread_down 0 H2.out HN.out hup).mono ?_
    rintro e w3 ⟨ad, cap, rfl, f3⟩
    have HF3 := hid f3
    have HB3 := hid (HB2.out.fr f3 id)
    clear f3 HB2 hup HR
    go_wp2_with (first
      | ((with_reducible show wpList _ _ _ (⟨_, .build 66 _, _, _, _, _⟩ :: _) _ _); refine wpL_build rfl _ [] rfl (.agg (Rt.cells ⟨0, 0, 0, 0⟩).toArray) (buildRt0 _) ?_)
      | ((with_reducible show wpList _ _ _ (⟨_, .store 66 _ _, _, _, _, _⟩ :: _) _ _); refine TR.wpL_storeV rfl _ _ _ rfl br 0 (.agg (Rt.cells ⟨0, 0, 0, 0⟩).toArray) (Rt.cells ⟨0, 0, 0, 0⟩) rfl rfl rfl _ _ HB3.out (by simp [Rt.cells]) infoRt (rt_one _) ?_; intro w4 HB4 HF4 HS4)
      | fail)
    refine ret_cell2 rfl _ rfl HB4.out rfl rfl (by simp [spl, infoRt, Rt.cells]) rfl ?_
    rw [HR2.out, spl_rt]
    have hle := HLE.out
    exact ⟨rfl, (HZ2.out.trans' HF3.out).trans HF4.out (fun k hk => .inr (by have e' : k = br := hk; omega))⟩
  | true =>
    have h64 := sec64 H2.out HN.out
    obtain ⟨s, hs⟩ : ∃ s, u.sec 0 = s := ⟨_, rfl⟩
    have HR2 : Hid ((if 1 < (rtOf s).area ∨ areaN u.L.length * 64 < (rtOf s).len ∨ (rtOf s).sec ≠ s then (⟨1, 0, 0, 0⟩, 0) else (rtOf s, 0)) = R) := hid (by have h := HR.out; unfold rootU at h; rw [if_neg (by simp [hup]), hs] at h; exact h)
    refine (dread_any 0 H2.out HN.out hup).mono ?_
    rintro e w3 ⟨ad, cap, rfl, hcap, hat, ⟨k0, o0, rfl, hk1, hk2⟩, f3⟩
    rw [hs] at h64 hat
    have HS64 := hid h64; have HAT := hid hat
    have HF3 := hid f3
    have HB3 := hid (HB2.out.fr f3 id); have HV3 := hid (HV2.out.fr f3 id)
    have HK := hid (And.intro hk1 hk2)
    clear f3 HB2 HV2 hup HR hs h64 hat hk1 hk2 x0
    have hrg := at_range HAT.out
    go_wp2_with (first
      | ((with_reducible show wpList _ _ _ (⟨_, .sliceToArrayPointer 101 _, _, _, _, _⟩ :: _) _ _); refine wpL_toArr rfl _ _ rfl 64 _ Tryz.underlying101 _ _ _ rfl (Nat.le_refl _) ?_)
      | ((with_reducible show wpList _ _ _ (⟨_, .load 101 _, _, _, _, _⟩ :: _) _ _); refine wpL_load rfl _ _ rfl k0 o0 rfl (u8s s) _ hrg rfl rfl (by simp [info101, u8s_length, HS64.out]) ?_)
      | ((with_reducible show wpList _ _ _ (⟨_, .alloc 101, _, _, _, _⟩ :: _) _ _); refine wpL_alloc rfl _ rfl _ zero89 (u8s zeros64) rfl ?_; intro w4 HB4 F4 HS4)
      | ((with_reducible show wpList _ _ _ (⟨_, .store 101 _ _, _, _, _, _⟩ :: _) _ _); refine TR.wpL_storeV rfl _ _ _ rfl w3.heap.size 0 (.agg (u8s s).toArray) (u8s s) rfl rfl rfl _ _ HB4.out (by simp [u8s_length, HS64.out, zeros64]) (by simp [info101, u8s_length, HS64.out]) (u8s_one _) ?_; intro w5 HB5 F5 HS5; refine Hid.out ?_)
      | fail)
    refine hid ?_
    have HB5s : Hid (Blk w5 w3.heap.size 101 (u8s s)) := hid (by have h := HB5.out; rwa [spl_full (by simp [u8s_length, HS64.out, zeros64])] at h)
    have HF5 : Hid (Fr No w2 w5) := hid ((HF3.out.trans' F4.out).trans F5.out (fun k hk => .inr (by have e' : k = w3.heap.size := hk; have := HF3.out.size; omega)))
    have hbs : w2.heap.size ≤ w3.heap.size := HF3.out.size
    obtain ⟨bs, hbse⟩ : ∃ b, w3.heap.size = b := ⟨_, rfl⟩
    have HNS := hid (show br < bs by have := HLE.out; omega)
    have HB5r := hid (HB3.out.fr (F4.out.no.trans F5.out (fun k hk => .inl hk)) (fun e => by have e' : br = w3.heap.size := e; have := HNS.out; omega))
    have HV5 := hid (HV3.out.fr (F4.out.no.trans F5.out (fun k hk => .inl hk)) (fun e => by have e' : b0 = w3.heap.size := e; have := HNS.out; have := HLE.out; omega))
    rw [hbse] at HB5s ⊢
    clear hbse hbs HB4 F4 HS4 HB5 F5 HS5 HB3 HV3 HAT hrg HF3
    have hrs := HB5s.out.range 0 (u8s s) (by simp)
    go_wp2_with (first
      | ((with_reducible show wpList _ _ _ (⟨_, .load 101 _, _, _, _, _⟩ :: _) _ _); refine wpL_load rfl _ _ rfl bs 0 rfl (u8s s) _ hrs rfl rfl (by simp [info101, u8s_length, HS64.out]) ?_)
      | fail)
    refine (rootOf_any s HS64.out w5).mono ?_
    rintro e w6 ⟨rfl, f6⟩
    have HOK := hid (rtOf_ok s)
    obtain ⟨r, hr⟩ : ∃ r, rtOf s = r := ⟨_, rfl⟩
    rw [hr] at HR2 HOK ⊢
    have HF6 := hid (HF5.out.trans' f6)
    have HB6s := hid (HB5s.out.fr f6 id); have HB6r := hid (HB5r.out.fr f6 id); have HV6 := hid (HV5.out.fr f6 id)
    clear f6 hr HB5s HB5r HV5 HF5 hrs
    go_wp2_with (first
      | ((with_reducible show wpList _ _ _ (⟨_, .alloc 66, _, _, _, _⟩ :: _) _ _); refine wpL_alloc rfl _ rfl _ zeroRt' (Rt.cells ⟨0, 0, 0, 0⟩) rfl ?_; intro w7 HB7 F7 HS7)
      | ((with_reducible show wpList _ _ _ (⟨_, .store 66 _ _, _, _, _, _⟩ :: _) _ _); refine TR.wpL_storeV rfl _ _ _ rfl w6.heap.size 0 (.agg r.cells.toArray) r.cells rfl rfl rfl _ _ HB7.out (by simp [Rt.cells]) infoRt (rt_one _) ?_; intro w8 HB8 F8 HS8; refine Hid.out ?_)
      | fail)
    refine hid ?_
    have hle := HLE.out
    have h26 := HF6.out.size
    have HNB := hid (show bs < w6.heap.size from HB6s.out.lt)
    obtain ⟨bq, hbq⟩ : ∃ b, w6.heap.size = b := ⟨_, rfl⟩
    have f68 : Fr (fun k => k = bq) w6 w8 := F7.out.no.trans F8.out (fun k hk => .inl (by have e' : k = w6.heap.size := hk; omega))
    have HF8 : Hid (Fr No w w8.drew) := hid ((HZ2.out.trans' (HF6.out.trans f68 (fun k hk => .inr (by have e' : k = bq := hk; omega)))).drew)
    rw [hbq] at HNB
    have HNQ := hid (show br < bq ∧ b0 < bq ∧ bs < bq by have := HNB.out; have := HNS.out; omega)
    have HB8s := hid (HB6s.out.fr f68 (fun e => by have e' : bs = bq := e; have := HNQ.out; omega)).drew
    have HB8r := hid (HB6r.out.fr f68 (fun e => by have e' : br = bq := e; have := HNQ.out; omega)).drew
    have HV8 := hid (HV6.out.fr f68 (fun e => by have e' : b0 = bq := e; have := HNQ.out; omega)).drew
    have HB8q : Hid (Blk w8.drew bq 66 r.cells) := hid (by have h := HB8.out; rw [spl_rt, hbq] at h; exact h.drew)
    rw [hbq]
    have H8 := hid (D.Rep.no H.out HF8.out)
    clear f68 hbq hle h26 HB7 F7 HS7 HB8 F8 HS8 HB6s HB6r HV6 HF6 HZ2 H2
    go_wp2_with fail
    have q0 : w8.cell? ⟨bq, 0, none⟩ = some (.int .i64 (r.area : Int)) := HB8q.out.cell 0
    have q2 : w8.cell? ⟨bq, 2, none⟩ = some (.int .i64 (r.len : Int)) := HB8q.out.cell 2
    have hold : Facts.hold [(1, fun w' => w'.cell? ⟨bq, 0, none⟩ = some (.int .i64 (r.area : Int))), (5, fun w' => w'.cell? ⟨bq, 2, none⟩ = some (.int .i64 (r.len : Int))), (6, fun w' => w'.rangeAt b0 0 [pt bd]), (11, fun w' => w'.rangeAt bq 0 r.cells), (13, fun w' => w'.rangeAt bs 0 (u8s s))] w8.drew := Facts.cons_hold q0 (Facts.cons_hold q2 (Facts.cons_hold (HV8.out.range 0 _ rfl) (Facts.cons_hold (HB8q.out.range 0 _ rfl) (Facts.cons_hold (HB8s.out.range 0 _ (by simp)) (Facts.nil_hold _)))))
    by_cases ha : 1 < r.area
    · have HR3 : Hid (R = (⟨1, 0, 0, 0⟩, 0)) := hid (by have h := HR2.out; rw [if_pos (.inl ha)] at h; exact h.symm)
      have hai : (1 : Int) < r.area := by omega
      refine wpD_region hold (by kernel_rfl) 16 rfl ?_
      (refine wpD_plain 0 (v := ?_) rfl (by kernel_rfl) (by kernel_rfl) (by kernel_rfl) (fun _ _ _ h => h) (by rfl) ?_ (by assumption) ?_; rotate_left; (intro _w; go_simp; try with_reducible rfl); simp only [Act.put, List.setIfInBounds_toArray, List.set_cons_zero, List.set_cons_succ])
      (refine wpD_take 1 _ rfl (by kernel_rfl) (by kernel_rfl) (by kernel_rfl) (fun _ _ _ h => h) List.mem_cons_self (by rfl) (v := ?_) ?_ (by assumption) ?_; rotate_left; (intro _w _hw; go_simp; try with_reducible rfl); simp only [Act.put, List.setIfInBounds_toArray, List.set_cons_zero, List.set_cons_succ])
      (refine wpD_plain 2 (v := (.bool true)) rfl (by kernel_rfl) (by kernel_rfl) (by kernel_rfl) (fun _ _ _ h => h) (by rfl) ?_ (by assumption) ?_; (intro _w; go_simp; skip); simp only [Act.put, List.setIfInBounds_toArray, List.set_cons_zero, List.set_cons_succ])
      (refine wpD_plain 3 (v := ?_) rfl (by kernel_rfl) (by kernel_rfl) (by kernel_rfl) (fun _ _ _ h => h) (by rfl) ?_ (by assumption) ?_; rotate_left; (intro _w; go_simp; try with_reducible rfl); simp only [Act.put, List.setIfInBounds_toArray, List.set_cons_zero, List.set_cons_succ])
      (refine wpD_skip 4 rfl (by kernel_rfl) (by kernel_rfl) (by kernel_rfl) (fun _ _ _ h => h) (by rfl) (by assumption) ?_; simp only [Act.put, List.setIfInBounds_toArray, List.set_cons_zero, List.set_cons_succ])
      (refine wpD_skip 5 rfl (by kernel_rfl) (by kernel_rfl) (by kernel_rfl) (fun _ _ _ h => h) (by rfl) (by assumption) ?_; simp only [Act.put, List.setIfInBounds_toArray, List.set_cons_zero, List.set_cons_succ])
      (refine wpD_skip 6 rfl (by kernel_rfl) (by kernel_rfl) (by kernel_rfl) (fun _ _ _ h => h) (by rfl) (by assumption) ?_; simp only [Act.put, List.setIfInBounds_toArray, List.set_cons_zero, List.set_cons_succ])
      (refine wpD_skip 7 rfl (by kernel_rfl) (by kernel_rfl) (by kernel_rfl) (fun _ _ _ h => h) (by rfl) (by assumption) ?_; simp only [Act.put, List.setIfInBounds_toArray, List.set_cons_zero, List.set_cons_succ])
      (refine wpD_skip 8 rfl (by kernel_rfl) (by kernel_rfl) (by kernel_rfl) (fun _ _ _ h => h) (by rfl) (by assumption) ?_; simp only [Act.put, List.setIfInBounds_toArray, List.set_cons_zero, List.set_cons_succ])
      (refine wpD_plain 9 (v := ?_) rfl (by kernel_rfl) (by kernel_rfl) (by kernel_rfl) (fun _ _ _ h => h) (by rfl) ?_ (by assumption) ?_; rotate_left; (intro _w; go_simp; try with_reducible rfl); simp only [Act.put, List.setIfInBounds_toArray, List.set_cons_zero, List.set_cons_succ])
      (refine wpD_plain 10 (v := ?_) rfl (by kernel_rfl) (by kernel_rfl) (by kernel_rfl) (fun _ _ _ h => h) (by rfl) ?_ (by assumption) ?_; rotate_left; (intro _w; go_simp; try with_reducible rfl); simp only [Act.put, List.setIfInBounds_toArray, List.set_cons_zero, List.set_cons_succ])
      (refine wpD_skip 11 rfl (by kernel_rfl) (by kernel_rfl) (by kernel_rfl) (fun _ _ _ h => h) (by rfl) (by assumption) ?_; simp only [Act.put, List.setIfInBounds_toArray, List.set_cons_zero, List.set_cons_succ])
      (refine wpD_skip 12 rfl (by kernel_rfl) (by kernel_rfl) (by kernel_rfl) (fun _ _ _ h => h) (by rfl) (by assumption) ?_; simp only [Act.put, List.setIfInBounds_toArray, List.set_cons_zero, List.set_cons_succ])
      (refine wpD_skip 13 rfl (by kernel_rfl) (by kernel_rfl) (by kernel_rfl) (fun _ _ _ h => h) (by rfl) (by assumption) ?_; simp only [Act.put, List.setIfInBounds_toArray, List.set_cons_zero, List.set_cons_succ])
      (refine wpD_skip 14 rfl (by kernel_rfl) (by kernel_rfl) (by kernel_rfl) (fun _ _ _ h => h) (by rfl) (by assumption) ?_; simp only [Act.put, List.setIfInBounds_toArray, List.set_cons_zero, List.set_cons_succ])
      (refine wpD_plain 15 (v := ?_) rfl (by kernel_rfl) (by kernel_rfl) (by kernel_rfl) (fun _ _ _ h => h) (by rfl) ?_ (by assumption) ?_; rotate_left; (intro _w; go_simp; try with_reducible rfl); simp only [Act.put, List.setIfInBounds_toArray, List.set_cons_zero, List.set_cons_succ])
      refine wpD_done (by kernel_rfl) ?_ _
      clear hold
      go_wp2_with (first
        | ((with_reducible show wpList _ _ _ (⟨_, .build 66 _, _, _, _, _⟩ :: _) _ _); refine wpL_build rfl _ [(0, .const (.int .i64 1))] rfl (.agg (Rt.cells ⟨1, 0, 0, 0⟩).toArray) (buildRt1 _) ?_)
        | ((with_reducible show wpList _ _ _ (⟨_, .store 66 _ _, _, _, _, _⟩ :: _) _ _); refine TR.wpL_storeV rfl _ _ _ rfl br 0 (.agg (Rt.cells ⟨1, 0, 0, 0⟩).toArray) (Rt.cells ⟨1, 0, 0, 0⟩) rfl rfl rfl _ _ HB8r.out (by simp [Rt.cells]) infoRt (rt_one _) ?_; intro w4 HB4 HF4 HS4)
        | fail)
      refine ret_cell2 rfl _ rfl HB4.out rfl rfl (by simp [spl, infoRt, Rt.cells]) rfl ?_
      rw [HR3.out, spl_rt]
      have hle := HLE.out
      exact ⟨rfl, HF8.out.trans HF4.out (fun k hk => .inr (by have e' : k = br := hk; omega))⟩
    · have hai : ¬ (1 : Int) < r.area := by omega
      by_cases hn : areaN u.L.length * 64 < r.len
      · have HR3 : Hid (R = (⟨1, 0, 0, 0⟩, 0)) := hid (by have h := HR2.out; rw [if_pos (.inr (.inl hn))] at h; exact h.symm)
        have hni : ((areaN u.L.length * 64 : Nat) : Int) < r.len := by omega
        obtain ⟨c, hc⟩ : ∃ c, ((areaN u.L.length * 64 : Nat) : Int) = c := ⟨_, rfl⟩
        have HCP := hid hc
        rw [hc] at hni
        clear hc
        refine wpD_region hold (by kernel_rfl) 16 rfl ?_
        (refine wpD_plain 0 (v := ?_) rfl (by kernel_rfl) (by kernel_rfl) (by kernel_rfl) (fun _ _ _ h => h) (by rfl) ?_ (by assumption) ?_; rotate_left; (intro _w; go_simp; try with_reducible rfl); simp only [Act.put, List.setIfInBounds_toArray, List.set_cons_zero, List.set_cons_succ])
        (refine wpD_take 1 _ rfl (by kernel_rfl) (by kernel_rfl) (by kernel_rfl) (fun _ _ _ h => h) List.mem_cons_self (by rfl) (v := ?_) ?_ (by assumption) ?_; rotate_left; (intro _w _hw; go_simp; try with_reducible rfl); simp only [Act.put, List.setIfInBounds_toArray, List.set_cons_zero, List.set_cons_succ])
        (refine wpD_plain 2 (v := (.bool false)) rfl (by kernel_rfl) (by kernel_rfl) (by kernel_rfl) (fun _ _ _ h => h) (by rfl) ?_ (by assumption) ?_; (intro _w; go_simp; skip); simp only [Act.put, List.setIfInBounds_toArray, List.set_cons_zero, List.set_cons_succ])
        (refine wpD_plain 3 (v := ?_) rfl (by kernel_rfl) (by kernel_rfl) (by kernel_rfl) (fun _ _ _ h => h) (by rfl) ?_ (by assumption) ?_; rotate_left; (intro _w; go_simp; try with_reducible rfl); simp only [Act.put, List.setIfInBounds_toArray, List.set_cons_zero, List.set_cons_succ])
        (refine wpD_plain 4 (v := ?_) rfl (by kernel_rfl) (by kernel_rfl) (by kernel_rfl) (fun _ _ _ h => h) (by rfl) ?_ (by assumption) ?_; rotate_left; (intro _w; go_simp; try with_reducible rfl); simp only [Act.put, List.setIfInBounds_toArray, List.set_cons_zero, List.set_cons_succ])
        (refine wpD_take 5 _ rfl (by kernel_rfl) (by kernel_rfl) (by kernel_rfl) (fun _ _ _ h => h) (List.mem_cons_of_mem _ List.mem_cons_self) (by rfl) (v := ?_) ?_ (by assumption) ?_; rotate_left; (intro _w _hw; go_simp; try with_reducible rfl); simp only [Act.put, List.setIfInBounds_toArray, List.set_cons_zero, List.set_cons_succ])
        (refine wpD_take 6 _ rfl (by kernel_rfl) (by kernel_rfl) (by kernel_rfl) (fun _ _ _ h => h) (List.mem_cons_of_mem _ (List.mem_cons_of_mem _ List.mem_cons_self)) (by rfl) (exec_load _ _ rfl b0 0 rfl _ _ rfl rfl infoVol) (by assumption) ?_; simp only [Act.put, List.setIfInBounds_toArray, List.set_cons_zero, List.set_cons_succ])
        clear hold
        refine wpD_only 7 [(1, fun w' => w'.cell? ⟨bq, 0, none⟩ = some (.int .i64 (r.area : Int))), (5, fun w' => w'.cell? ⟨bq, 2, none⟩ = some (.int .i64 (r.len : Int))), (11, fun w' => w'.rangeAt bq 0 r.cells), (13, fun w' => w'.rangeAt bs 0 (u8s s))] rfl (by kernel_rfl) (by kernel_rfl) (by rfl) (fun K7 hK7 => ?_)
        refine wp_call (.func 36) _ _ rfl 36 [] rfl hentCap [vol bd] (by rfl) ?_
        refine (capacity_any H8.out).mono ?_
        rintro e w9 ⟨rfl, f9⟩
        have hold : Facts.hold [(1, fun w' => w'.cell? ⟨bq, 0, none⟩ = some (.int .i64 (r.area : Int))), (5, fun w' => w'.cell? ⟨bq, 2, none⟩ = some (.int .i64 (r.len : Int))), (11, fun w' => w'.rangeAt bq 0 r.cells), (13, fun w' => w'.rangeAt bs 0 (u8s s))] w9 := Facts.cons_hold (f9.cell (w := w8.drew) q0 id) (Facts.cons_hold (f9.cell (w := w8.drew) q2 id) (Facts.cons_hold ((HB8q.out.fr f9 id).range 0 _ rfl) (Facts.cons_hold ((HB8s.out.fr f9 id).range 0 _ (by simp)) (Facts.nil_hold _))))
        refine ⟨_, rfl, hK7 _ _ hold ?_⟩
        clear hK7 K7
        have HB9r := hid (HB8r.out.fr f9 id)
        have HF9 := hid (HF8.out.trans' f9)
        have HB9q := hid (HB8q.out.fr f9 id)
        have HB9s := hid (HB8s.out.fr f9 id)
        clear f9
        simp only [Act.put, List.setIfInBounds_toArray, List.set_cons_zero, List.set_cons_succ]
        rw [HCP.out]
        (refine wpD_plain 8 (v := (.bool true)) rfl (by kernel_rfl) (by kernel_rfl) (by kernel_rfl) (fun _ _ _ h => h) (by rfl) ?_ (by assumption) ?_; (intro _w; go_simp; skip); simp only [Act.put, List.setIfInBounds_toArray, List.set_cons_zero, List.set_cons_succ])
        (refine wpD_plain 9 (v := ?_) rfl (by kernel_rfl) (by kernel_rfl) (by kernel_rfl) (fun _ _ _ h => h) (by rfl) ?_ (by assumption) ?_; rotate_left; (intro _w; go_simp; try with_reducible rfl); simp only [Act.put, List.setIfInBounds_toArray, List.set_cons_zero, List.set_cons_succ])
        (refine wpD_plain 10 (v := ?_) rfl (by kernel_rfl) (by kernel_rfl) (by kernel_rfl) (fun _ _ _ h => h) (by rfl) ?_ (by assumption) ?_; rotate_left; (intro _w; go_simp; try with_reducible rfl); simp only [Act.put, List.setIfInBounds_toArray, List.set_cons_zero, List.set_cons_succ])
        (refine wpD_skip 11 rfl (by kernel_rfl) (by kernel_rfl) (by kernel_rfl) (fun _ _ _ h => h) (by rfl) (by assumption) ?_; simp only [Act.put, List.setIfInBounds_toArray, List.set_cons_zero, List.set_cons_succ])
        (refine wpD_skip 12 rfl (by kernel_rfl) (by kernel_rfl) (by kernel_rfl) (fun _ _ _ h => h) (by rfl) (by assumption) ?_; simp only [Act.put, List.setIfInBounds_toArray, List.set_cons_zero, List.set_cons_succ])
        (refine wpD_skip 13 rfl (by kernel_rfl) (by kernel_rfl) (by kernel_rfl) (fun _ _ _ h => h) (by rfl) (by assumption) ?_; simp only [Act.put, List.setIfInBounds_toArray, List.set_cons_zero, List.set_cons_succ])
        (refine wpD_skip 14 rfl (by kernel_rfl) (by kernel_rfl) (by kernel_rfl) (fun _ _ _ h => h) (by rfl) (by assumption) ?_; simp only [Act.put, List.setIfInBounds_toArray, List.set_cons_zero, List.set_cons_succ])
        (refine wpD_plain 15 (v := ?_) rfl (by kernel_rfl) (by kernel_rfl) (by kernel_rfl) (fun _ _ _ h => h) (by rfl) ?_ (by assumption) ?_; rotate_left; (intro _w; go_simp; try with_reducible rfl); simp only [Act.put, List.setIfInBounds_toArray, List.set_cons_zero, List.set_cons_succ])
        refine wpD_done (by kernel_rfl) ?_ _
        clear hold
        go_wp2_with (first
          | ((with_reducible show wpList _ _ _ (⟨_, .build 66 _, _, _, _, _⟩ :: _) _ _); refine wpL_build rfl _ [(0, .const (.int .i64 1))] rfl (.agg (Rt.cells ⟨1, 0, 0, 0⟩).toArray) (buildRt1 _) ?_)
          | ((with_reducible show wpList _ _ _ (⟨_, .store 66 _ _, _, _, _, _⟩ :: _) _ _); refine TR.wpL_storeV rfl _ _ _ rfl br 0 (.agg (Rt.cells ⟨1, 0, 0, 0⟩).toArray) (Rt.cells ⟨1, 0, 0, 0⟩) rfl rfl rfl _ _ HB9r.out (by simp [Rt.cells]) infoRt (rt_one _) ?_; intro w4 HB4 HF4 HS4)
          | fail)
        refine ret_cell2 rfl _ rfl HB4.out rfl rfl (by simp [spl, infoRt, Rt.cells]) rfl ?_
        rw [HR3.out, spl_rt]
        have hle := HLE.out
        exact ⟨rfl, HF9.out.trans HF4.out (fun k hk => .inr (by have e' : k = br := hk; omega))⟩
      · have hni : ¬ ((areaN u.L.length * 64 : Nat) : Int) < r.len := by omega
        obtain ⟨c, hc⟩ : ∃ c, ((areaN u.L.length * 64 : Nat) : Int) = c := ⟨_, rfl⟩
        have HCP := hid hc
        have HNA := hid (And.intro ha hn)
        rw [hc] at hni
        clear hc ha hn
        refine wpD_region hold (by kernel_rfl) 16 rfl ?_
        (refine wpD_plain 0 (v := ?_) rfl (by kernel_rfl) (by kernel_rfl) (by kernel_rfl) (fun _ _ _ h => h) (by rfl) ?_ (by assumption) ?_; rotate_left; (intro _w; go_simp; try with_reducible rfl); simp only [Act.put, List.setIfInBounds_toArray, List.set_cons_zero, List.set_cons_succ])
        (refine wpD_take 1 _ rfl (by kernel_rfl) (by kernel_rfl) (by kernel_rfl) (fun _ _ _ h => h) List.mem_cons_self (by rfl) (v := ?_) ?_ (by assumption) ?_; rotate_left; (intro _w _hw; go_simp; try with_reducible rfl); simp only [Act.put, List.setIfInBounds_toArray, List.set_cons_zero, List.set_cons_succ])
        (refine wpD_plain 2 (v := (.bool false)) rfl (by kernel_rfl) (by kernel_rfl) (by kernel_rfl) (fun _ _ _ h => h) (by rfl) ?_ (by assumption) ?_; (intro _w; go_simp; skip); simp only [Act.put, List.setIfInBounds_toArray, List.set_cons_zero, List.set_cons_succ])
        (refine wpD_plain 3 (v := ?_) rfl (by kernel_rfl) (by kernel_rfl) (by kernel_rfl) (fun _ _ _ h => h) (by rfl) ?_ (by assumption) ?_; rotate_left; (intro _w; go_simp; try with_reducible rfl); simp only [Act.put, List.setIfInBounds_toArray, List.set_cons_zero, List.set_cons_succ])
        (refine wpD_plain 4 (v := ?_) rfl (by kernel_rfl) (by kernel_rfl) (by kernel_rfl) (fun _ _ _ h => h) (by rfl) ?_ (by assumption) ?_; rotate_left; (intro _w; go_simp; try with_reducible rfl); simp only [Act.put, List.setIfInBounds_toArray, List.set_cons_zero, List.set_cons_succ])
        (refine wpD_take 5 _ rfl (by kernel_rfl) (by kernel_rfl) (by kernel_rfl) (fun _ _ _ h => h) (List.mem_cons_of_mem _ List.mem_cons_self) (by rfl) (v := ?_) ?_ (by assumption) ?_; rotate_left; (intro _w _hw; go_simp; try with_reducible rfl); simp only [Act.put, List.setIfInBounds_toArray, List.set_cons_zero, List.set_cons_succ])
        (refine wpD_take 6 _ rfl (by kernel_rfl) (by kernel_rfl) (by kernel_rfl) (fun _ _ _ h => h) (List.mem_cons_of_mem _ (List.mem_cons_of_mem _ List.mem_cons_self)) (by rfl) (exec_load _ _ rfl b0 0 rfl _ _ rfl rfl infoVol) (by assumption) ?_; simp only [Act.put, List.setIfInBounds_toArray, List.set_cons_zero, List.set_cons_succ])
        clear hold
        refine wpD_only 7 [(1, fun w' => w'.cell? ⟨bq, 0, none⟩ = some (.int .i64 (r.area : Int))), (5, fun w' => w'.cell? ⟨bq, 2, none⟩ = some (.int .i64 (r.len : Int))), (11, fun w' => w'.rangeAt bq 0 r.cells), (13, fun w' => w'.rangeAt bs 0 (u8s s))] rfl (by kernel_rfl) (by kernel_rfl) (by rfl) (fun K7 hK7 => ?_)
        refine wp_call (.func 36) _ _ rfl 36 [] rfl hentCap [vol bd] (by rfl) ?_
        refine (capacity_any H8.out).mono ?_
        rintro e w9 ⟨rfl, f9⟩
        have hold : Facts.hold [(1, fun w' => w'.cell? ⟨bq, 0, none⟩ = some (.int .i64 (r.area : Int))), (5, fun w' => w'.cell? ⟨bq, 2, none⟩ = some (.int .i64 (r.len : Int))), (11, fun w' => w'.rangeAt bq 0 r.cells), (13, fun w' => w'.rangeAt bs 0 (u8s s))] w9 := Facts.cons_hold (f9.cell (w := w8.drew) q0 id) (Facts.cons_hold (f9.cell (w := w8.drew) q2 id) (Facts.cons_hold ((HB8q.out.fr f9 id).range 0 _ rfl) (Facts.cons_hold ((HB8s.out.fr f9 id).range 0 _ (by simp)) (Facts.nil_hold _))))
        refine ⟨_, rfl, hK7 _ _ hold ?_⟩
        clear hK7 K7
        have HB9r := hid (HB8r.out.fr f9 id)
        have HF9 := hid (HF8.out.trans' f9)
        have HB9q := hid (HB8q.out.fr f9 id)
        have HB9s := hid (HB8s.out.fr f9 id)
        clear f9
        simp only [Act.put, List.setIfInBounds_toArray, List.set_cons_zero, List.set_cons_succ]
        rw [HCP.out]
        (refine wpD_plain 8 (v := (.bool false)) rfl (by kernel_rfl) (by kernel_rfl) (by kernel_rfl) (fun _ _ _ h => h) (by rfl) ?_ (by assumption) ?_; (intro _w; go_simp; skip); simp only [Act.put, List.setIfInBounds_toArray, List.set_cons_zero, List.set_cons_succ])
        (refine wpD_plain 9 (v := ?_) rfl (by kernel_rfl) (by kernel_rfl) (by kernel_rfl) (fun _ _ _ h => h) (by rfl) ?_ (by assumption) ?_; rotate_left; (intro _w; go_simp; try with_reducible rfl); simp only [Act.put, List.setIfInBounds_toArray, List.set_cons_zero, List.set_cons_succ])
        (refine wpD_plain 10 (v := ?_) rfl (by kernel_rfl) (by kernel_rfl) (by kernel_rfl) (fun _ _ _ h => h) (by rfl) ?_ (by assumption) ?_; rotate_left; (intro _w; go_simp; try with_reducible rfl); simp only [Act.put, List.setIfInBounds_toArray, List.set_cons_zero, List.set_cons_succ])
        (refine wpD_take 11 _ rfl (by kernel_rfl) (by kernel_rfl) (by kernel_rfl) (fun _ _ _ h => h) (List.mem_cons_of_mem _ (List.mem_cons_of_mem _ List.mem_cons_self)) (by rfl) (exec_load _ _ rfl bq 0 rfl _ _ rfl rfl infoRt) (by assumption) ?_; simp only [Act.put, List.setIfInBounds_toArray, List.set_cons_zero, List.set_cons_succ])
        (refine wpD_take 13 _ rfl (by kernel_rfl) (by kernel_rfl) (by kernel_rfl) (fun _ _ _ h => h) (List.mem_cons_of_mem _ (List.mem_cons_of_mem _ (List.mem_cons_of_mem _ List.mem_cons_self))) (by rfl) (exec_load _ _ rfl bs 0 rfl _ _ rfl rfl (by simp [info101, u8s_length, HS64.out])) (by assumption) ?_; simp only [Act.put, List.setIfInBounds_toArray, List.set_cons_zero, List.set_cons_succ])
        clear hold
        refine wpD_only 12 [(1, fun w' => w'.cell? ⟨bq, 0, none⟩ = some (.int .i64 (r.area : Int))), (5, fun w' => w'.cell? ⟨bq, 2, none⟩ = some (.int .i64 (r.len : Int))), (13, fun w' => w'.rangeAt bs 0 (u8s s))] rfl (by kernel_rfl) (by kernel_rfl) (by rfl) (fun K12 hK12 => ?_)
        refine wp_call (.func 69) _ _ rfl 69 [] rfl hentSec [.agg r.cells.toArray] (by rfl) ?_
        refine (sector_any r HOK.out w9).mono ?_
        rintro e w10 ⟨rfl, f10⟩
        have g0 : w10.cell? ⟨bq, 0, none⟩ = some (.int .i64 (r.area : Int)) := (HB9q.out.fr f10 id).cell 0
        have g2 : w10.cell? ⟨bq, 2, none⟩ = some (.int .i64 (r.len : Int)) := (HB9q.out.fr f10 id).cell 2
        have hold : Facts.hold [(1, fun w' => w'.cell? ⟨bq, 0, none⟩ = some (.int .i64 (r.area : Int))), (5, fun w' => w'.cell? ⟨bq, 2, none⟩ = some (.int .i64 (r.len : Int))), (13, fun w' => w'.rangeAt bs 0 (u8s s))] w10 := Facts.cons_hold g0 (Facts.cons_hold g2 (Facts.cons_hold ((HB9s.out.fr f10 id).range 0 _ (by simp)) (Facts.nil_hold _)))
        refine ⟨_, rfl, hK12 _ _ hold ?_⟩
        clear hK12 K12
        have HB10r := hid (HB9r.out.fr f10 id)
        have HF10 := hid (HF9.out.trans' f10)
        have HB10q := hid (HB9q.out.fr f10 id)
        clear f10
        simp only [Act.put, List.setIfInBounds_toArray, List.set_cons_zero, List.set_cons_succ]
        by_cases hs : r.sec = s
        · have HR3 : Hid (R = (r, 0)) := hid (by have h := HR2.out; rw [if_neg (by intro hx; rcases hx with h | h | h; exact HNA.out.1 h; exact HNA.out.2 h; exact h hs)] at h; exact h.symm)
          refine wpD_plain 14 (v := .bool false) rfl (by kernel_rfl) (by kernel_rfl) (by kernel_rfl) (fun _ _ _ h => h) (by rfl) (exec_neq64 _ _ _ rfl r.sec s (Rt.sec_len r) HS64.out false (by simp [hs]) rfl rfl) hold ?_
          simp only [Act.put, List.setIfInBounds_toArray, List.set_cons_zero, List.set_cons_succ]
          (refine wpD_plain 15 (v := ?_) rfl (by kernel_rfl) (by kernel_rfl) (by kernel_rfl) (fun _ _ _ h => h) (by rfl) ?_ (by assumption) ?_; rotate_left; (intro _w; go_simp; try with_reducible rfl); simp only [Act.put, List.setIfInBounds_toArray, List.set_cons_zero, List.set_cons_succ])
          refine wpD_done (by kernel_rfl) ?_ _
          clear hold
          have hrq := HB10q.out.range 0 r.cells rfl
          go_wp2_with (first
            | ((with_reducible show wpList _ _ _ (⟨_, .load 66 _, _, _, _, _⟩ :: _) _ _); refine wpL_load rfl _ _ rfl bq 0 rfl r.cells _ hrq rfl rfl infoRt ?_)
            | ((with_reducible show wpList _ _ _ (⟨_, .store 66 _ _, _, _, _, _⟩ :: _) _ _); refine TR.wpL_storeV rfl _ _ _ rfl br 0 (.agg r.cells.toArray) r.cells rfl rfl rfl _ _ HB10r.out (by simp [Rt.cells]) infoRt (rt_one _) ?_; intro w4 HB4 HF4 HS4)
            | fail)
          refine ret_cell2 rfl _ rfl HB4.out rfl rfl (by simp [spl, infoRt, Rt.cells]) rfl ?_
          rw [HR3.out, spl_rt]
          have hle := HLE.out
          exact ⟨rfl, HF10.out.trans HF4.out (fun k hk => .inr (by have e' : k = br := hk; omega))⟩
        · have HR3 : Hid (R = (⟨1, 0, 0, 0⟩, 0)) := hid (by have h := HR2.out; rw [if_pos (.inr (.inr hs))] at h; exact h.symm)
          refine wpD_plain 14 (v := .bool true) rfl (by kernel_rfl) (by kernel_rfl) (by kernel_rfl) (fun _ _ _ h => h) (by rfl) (exec_neq64 _ _ _ rfl r.sec s (Rt.sec_len r) HS64.out true (by simp [hs]) rfl rfl) hold ?_
          simp only [Act.put, List.setIfInBounds_toArray, List.set_cons_zero, List.set_cons_succ]
          (refine wpD_plain 15 (v := ?_) rfl (by kernel_rfl) (by kernel_rfl) (by kernel_rfl) (fun _ _ _ h => h) (by rfl) ?_ (by assumption) ?_; rotate_left; (intro _w; go_simp; try with_reducible rfl); simp only [Act.put, List.setIfInBounds_toArray, List.set_cons_zero, List.set_cons_succ])
          refine wpD_done (by kernel_rfl) ?_ _
          clear hold
          go_wp2_with (first
            | ((with_reducible show wpList _ _ _ (⟨_, .build 66 _, _, _, _, _⟩ :: _) _ _); refine wpL_build rfl _ [(0, .const (.int .i64 1))] rfl (.agg (Rt.cells ⟨1, 0, 0, 0⟩).toArray) (buildRt1 _) ?_)
            | ((with_reducible show wpList _ _ _ (⟨_, .store 66 _ _, _, _, _, _⟩ :: _) _ _); refine TR.wpL_storeV rfl _ _ _ rfl br 0 (.agg (Rt.cells ⟨1, 0, 0, 0⟩).toArray) (Rt.cells ⟨1, 0, 0, 0⟩) rfl rfl rfl _ _ HB10r.out (by simp [Rt.cells]) infoRt (rt_one _) ?_; intro w4 HB4 HF4 HS4)
            | fail)
          refine ret_cell2 rfl _ rfl HB4.out rfl rfl (by simp [spl, infoRt, Rt.cells]) rfl ?_
          rw [HR3.out, spl_rt]
          have hle := HLE.out
          exact ⟨rfl, HF10.out.trans HF4.out (fun k hk => .inr (by have e' : k = br := hk; omega))⟩
end
end Go.Proofs.YtflfmkokfbgclaaGreat.ST
