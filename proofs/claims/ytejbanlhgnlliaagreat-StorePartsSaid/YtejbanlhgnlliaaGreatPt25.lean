/-
  Part 25 of the proof: StM, StN.
-/
import Derived.Test.YtejbanlhgnlliaaGreatPt24
import Derived.Test.YtejbanlhgnlliaaGreatPt22
import Derived.Test.YtejbanlhgnlliaaGreatPt06
namespace Go.Proofs.YtejbanlhgnlliaaGreat.ST
set_option maxRecDepth 100000
open Go.RowKit K

/-- 'make([]T, 0, n)'. -/
theorem wpL_makeCap {P : Program} {ops : Array Oper} {rest : List Oper} {op : Oper} {a : Act} {w : World} {Q : Exit → Act → World → Prop} (hgd : op.guard = none) (l c : Operand) (t : TypeId) (ho : op.op = .makeSlice t l c) (e : TypeId) (i : TypeInfo) (z v : Value) (m : Nat) (hu : P.underlying t = some (.slice e)) (hi : P.info? e = some i)
    (hz : i.zero = some z) (hzm : z.cells = (List.replicate m v).toArray) (hm : 0 < m) (hs : i.size = m) (kl kc : IntKind) (n : Nat) (hl : a.eval l = .int kl 0) (hc : a.eval c = .int kc n) (b2 : i.bytes * n ≤ 281474976710656) (b3 : n ≤ maxLen)
    (h : ∀ w', Hid (Blk w' w.heap.size e (List.replicate (n * m) v)) → Hid (Fr No w w') → Hid (w'.heap.size = w.heap.size + 1) → wpList P ops Q rest (a.put op.dst (.slice (some ⟨w.heap.size, 0, none⟩) 0 n)) w') : wpList P ops Q (op :: rest) a w := by
  refine wpList_plain hgd fun K hK => ?_
  have hrun := run_make (P := P) w t e i z hu hi hz kl kc 0 n (by omega) (by omega) (by omega) (by unfold maxLen at b3; omega)
  rw [made_one z.cells v _ m hzm hm, hs] at hrun
  unfold Oper.wp
  simp [execOp, ho, hl, hc, hrun, Result.andThen]
  exact hK _ _ (h _ (hid (by simpa using Blk.new w e (List.replicate (n * m) v))) (hid ((Fr.refl _ _).alloc _)) (hid (by simp)))
def toCh (p : S × S) : Ch := ⟨p.1, p.2, false⟩
/-- The bytes of a tree's image. -/
def imgS (l : TR.L) : List UInt8 := recS (l.map toCh)
theorem imgS_length : ∀ (l : TR.L), (imgS l).length = imgN l
  | [] => rfl
  | x :: r => by
    have ih := imgS_length r
    show ((toCh x).bytes ++ imgS r).length = _
    rw [List.length_append, bytes_length, ih]
    rfl
theorem imgS_snoc (l : TR.L) (x : S × S) : imgS (l ++ [x]) = imgS l ++ (toCh x).bytes := by unfold imgS; rw [List.map_append]; exact recS_snoc _ _
theorem imgN_take : ∀ (l : TR.L) (j : Nat), imgN (l.take j) ≤ imgN l
  | [], j => by simp [imgN]
  | x :: r, 0 => by simp [imgN]
  | x :: r, j + 1 => by
    have := imgN_take r j
    simp only [List.take_succ_cons, imgN]
    omega
theorem infoPair : (Tryz.prog.info? 71).map (·.size) = some 2 := by kernel_rfl
theorem zeroPair (w : World) : (zeroValue 71).run Tryz.prog w = .ok (.agg #[.string ⟨#[]⟩, .string ⟨#[]⟩]) w := by kernel_rfl
theorem buildCh2 (k v : S) (w : World) : (Instr.build 55 #[(0, .string k), (1, .string v)]).run Tryz.prog w = .ok (.agg #[.string k, .string v, .bool false]) w := by kernel_rfl
set_option maxHeartbeats 16000000 in
theorem image_any (W w : World) (b o : Nat) (tb : TypeId) (cs : List Value) (bt : Nat) (T : TR.TD) (l : TR.L) (h : Ct W w b o tb cs bt T l) (hn : imgN l ≤ 500000) (hl : l.length ≤ 100000) :
    Calls Tryz.prog 43 #[.pointer (some ⟨b, o, none⟩)] w fun e w' => e = .returned (L.str (imgS l)) ∧ Fr No w w' := by
  have H := hid h; have HN := hid hn; have HLL := hid hl
  obtain ⟨n0, hn0⟩ : ∃ n : Nat, imgN l = n := ⟨_, rfl⟩
  have c1 : w.cell? ⟨b, o + 1, none⟩ = some (.int .i64 (n0 : Int)) := by rw [← hn0]; exact h.len
  have hn0b : n0 ≤ 500000 := by omega
  have HN0 := hid hn0b
  have hn0i : (n0 : Int) ≤ 500000 := by omega
  obtain ⟨i5, hi5, hz5, hs5, hb5⟩ := Go.info_parts info5z
  have I5 := hid hi5; have Z5 := hid hz5; have S5 := hid hs5; have B5 := hid hb5
  have hbc := buildCh2
  clear h hn hl hn0 hn0b hi5 hz5 hs5 hb5
  go_enter Tryz.func43, Tryz.ntmps43
  go_wp2_with ((with_reducible show wpList _ _ _ ({ dst := _, op := .makeSlice 40 _ _, type := _, pos := _, after := _, guard := _ } :: _) _ _); refine wpL_makeCap rfl _ _ _ rfl _ i5 _ (.int .u8 0) 1 rfl I5.out Z5.out rfl (by decide) S5.out _ _ n0 rfl rfl (by rw [B5.out]; omega) (by have := HN0.out; unfold maxLen; omega) ?_; intro w1 HB1 F1 HS1; have t1 : w1.cell? ⟨b, o, none⟩ = some (pt bt) := (H.out.no F1.out).ptr)
  refine ((H.out.no F1.out).t.all (by have := HLL.out; omega)).mono ?_
  rintro e w2 ⟨pv, rfl, p2, -, f2⟩
  have HF2 : Hid (Fr No w w2) := hid (F1.out.trans' f2)
  have HB2 := hid (HB1.out.fr f2 id)
  have HP2 := hid p2
  obtain ⟨pa, pc, rfl, hpp⟩ := p2
  have HPP := hid hpp
  have hli : (l.length : Int) ≤ 100000 := by have := HLL.out; omega
  clear f2 hpp t1 c1
  go_wp2_with fail
  go_loopw [3, 17] (fun rv iv wr => ∃ (j : Nat) (ra : Option Addr) (rc : Nat), j ≤ l.length ∧ iv = .int .i64 (j : Int) ∧ rv = .slice ra (imgS (l.take j)).length rc ∧ Hid (wr.ownsRow w.heap.size 5 1 rv (imgS (l.take j)).length (u8s (imgS (l.take j)))) ∧ Hid (∀ k, (Value.slice ra (imgS (l.take j)).length rc).ownBlock = some k → k = w.heap.size ∨ w2.heap.size ≤ k) ∧ Hid (l = [] ∨ ∃ g, pa = some ⟨g, 0, none⟩ ∧ wr.rangeAt g 0 (TR.pcs l) ∧ w1.heap.size ≤ g ∧ g < w2.heap.size) ∧ Hid (w2.heap.size ≤ wr.heap.size) ∧ Hid (Fr No w wr)) (fun _ iv _ => l.length - (intOf iv).toNat)
  case atStart =>
    refine ⟨0, some ⟨w.heap.size, 0, none⟩, n0, by omega, rfl, rfl, hid ?_, hid (fun k e => .inl (by have h : some w.heap.size = some k := e; exact (Option.some.inj h).symm)), HPP, hid (Nat.le_refl _), HF2⟩
    exact HB2.out.own (n := 0) (cap := n0) (Nat.le_refl _) rfl (Nat.zero_le _) (by have := HN0.out; unfold maxLen; omega) (by simp) rfl
  case round =>
    obtain ⟨j, ra, rc, hj, rfl, rfl, HO, HK, HR, HZ, HF⟩ := hrel
    by_cases hlt : j < l.length
    · have hlt' : (j : Int) < (l.length : Int) := by omega
      obtain ⟨x, hx⟩ : ∃ x, l[j]? = some x := ⟨_, List.getElem?_eq_getElem hlt⟩
      have htk : l.take (j + 1) = l.take j ++ [x] := by rw [List.take_add_one, hx]; rfl
      have HTQ : Hid (imgS (l.take (j + 1)) = imgS (l.take j) ++ (toCh x).bytes) := hid (by rw [htk, imgS_snoc])
      have hql : (imgS (l.take j)).length ≤ 468 * l.length := by
        rw [imgS_length]
        have h1 := imgN_le (l.take j) (fun p hp => H.out.m p (List.mem_of_mem_take hp))
        have h2 := List.length_take_le j l
        omega
      have hqs : (imgS (l.take j)).length ≤ 1000000 := by
        rw [imgS_length]
        have := imgN_take l j
        have := HN.out
        omega
      have HQS := hid hqs
      have HXM : Hid (x.1.size ≤ 64 ∧ x.2.size ≤ 400) := hid (H.out.m x (List.mem_of_getElem? hx))
      obtain ⟨g, rfl, hrg, hg1, hg2⟩ : ∃ g, pa = some ⟨g, 0, none⟩ ∧ wr.rangeAt g 0 (TR.pcs l) ∧ w1.heap.size ≤ g ∧ g < w2.heap.size := by
        rcases HR.out with e | h
        · rw [e] at hlt; simp at hlt
        · exact h
      have HG := hid hg1; have HG2 := hid hg2
      have HRG := hid hrg
      have HGR : Hid (wr.rangeAt g (j * 2) [.string x.1, .string x.2]) := hid (by have h := TR.range_pr hrg hx; rwa [Nat.zero_add] at h)
      have HONE : Hid (∀ u ∈ [Value.string x.1, .string x.2], u.oneCell' = true) := hid (by intro u hu; simp at hu; rcases hu with rfl | rfl <;> rfl)
      have hqi : ((imgS (l.take j)).length : Int) ≤ 1000000 := by omega
      generalize imgS (l.take j) = q at HO HK HTQ HQS hqi ⊢
      clear htk hx hql hqs hrg hg1 hg2
      go_wp2_with (first
        | ((with_reducible show wpList _ _ _ ({ dst := _, op := .load 71 _, type := _, pos := _, after := _, guard := _ } :: _) _ _); refine wpL_load rfl _ _ rfl g (j * 2) rfl [.string x.1, .string x.2] _ HGR.out rfl rfl infoPair ?_)
        | ((with_reducible show wpList _ _ _ ({ dst := _, op := .alloc 71, type := _, pos := _, after := _, guard := _ } :: _) _ _); refine wpL_alloc rfl _ rfl _ zeroPair [.string ⟨#[]⟩, .string ⟨#[]⟩] rfl ?_; intro w4 HB4 F4 HS4)
        | ((with_reducible show wpList _ _ _ ({ dst := _, op := .store 71 _ _, type := _, pos := _, after := _, guard := _ } :: _) _ _); refine TR.wpL_storeV rfl _ _ _ rfl wr.heap.size 0 (.agg #[.string x.1, .string x.2]) [.string x.1, .string x.2] rfl rfl rfl _ _ HB4.out (by simp) infoPair HONE.out ?_; intro w5 HB5 F5 HS5;
            have HBx : Hid (Blk w5 wr.heap.size 71 [.string x.1, .string x.2]) := hid (by have h := HB5.out; simpa [spl] using h);
            have x0 : w5.cell? ⟨wr.heap.size, 0, none⟩ = some (.string x.1) := HBx.out.cell 0; have x1 : w5.cell? ⟨wr.heap.size, 1, none⟩ = some (.string x.2) := HBx.out.cell 1))
      have HF5 : Hid (Fr No wr w5) := hid (F4.out.trans F5.out (fun k hk => .inr (Nat.le_of_eq (Eq.symm hk))))
      have HO5 : Hid (w5.ownsRow w.heap.size 5 1 (.slice ra q.length rc) q.length (u8s q)) := hid (own_fr HO.out HF5.out (fun _ _ e => e))
      refine (add_any w.heap.size (toCh x) (.slice ra q.length rc) q w5 HO5.out HQS.out HXM.out.1 HXM.out.2 (Nat.le_trans HF.out.size HF5.out.size)).mono ?_
      rintro e w7 ⟨a7, c7, rfl, o7, f7, g7⟩
      have HO7 := hid o7
      have HF7 : Hid (Fr No w w7) := hid ((HF.out.trans' HF5.out).trans f7 (fun k hk => .inr (own_low HO5.out k hk)))
      have HK7 : Hid (∀ k, (Value.slice a7 (q ++ (toCh x).bytes).length c7).ownBlock = some k → k = w.heap.size ∨ w2.heap.size ≤ k) := hid (fun k hk => (g7 k hk).elim (HK.out k) (fun e => .inr (Nat.le_trans HZ.out (Nat.le_trans HF5.out.size e))))
      have HR7 : Hid (l = [] ∨ ∃ g', some (⟨g, 0, none⟩ : Addr) = some ⟨g', 0, none⟩ ∧ w7.rangeAt g' 0 (TR.pcs l) ∧ w1.heap.size ≤ g' ∧ g' < w2.heap.size) := hid (.inr ⟨g, rfl, f7.range (HF5.out.range HRG.out id) (fun e => by
        rcases HK.out g e with e1 | e1
        · have h1 := HG.out; have h2 := HB1.out.lt; omega
        · have h1 := HG2.out; omega), HG.out, HG2.out⟩)
      have HZ7 : Hid (w2.heap.size ≤ w7.heap.size) := hid (Nat.le_trans HZ.out (Nat.le_trans HF5.out.size f7.size))
      clear o7 f7 g7 x0 x1
      go_wp2_with fail
      refine ⟨⟨j + 1, a7, c7, by omega, by go_num, by rw [HTQ.out, List.length_append], hid ?_, hid ?_, HR7, HZ7, HF7⟩, by simp [intOf]; omega⟩
      · rw [HTQ.out]
        have h := HO7.out
        simpa only [List.length_append] using h
      · rw [HTQ.out]
        exact HK7.out
    · have hje : j = l.length := by omega
      have hge : ¬ ((j : Int) < (l.length : Int)) := by omega
      have htl : l.take j = l := by rw [hje, List.take_length]
      rw [htl] at HO ⊢
      clear htl hje hlt
      go_wp2_with ((with_reducible show wpList _ _ _ ({ dst := _, op := .convert _ 9 _, type := _, pos := _, after := _, guard := _ } :: _) _ _); refine wpL_stringOf rfl 40 9 5 _ rfl _ (fun k => w.heap.size ≤ k) (imgS l) rfl (own_bytes HO.out) Tryz.underlying40 Tryz.underlying5 Tryz.underlying9 ?_)
      go_ret
      exact ⟨rfl, HF.out⟩
end Go.Proofs.YtejbanlhgnlliaaGreat.ST

namespace Go.Proofs.YtejbanlhgnlliaaGreat.ST
set_option maxRecDepth 100000
open Go.RowKit K

/-- Two results, the first of which lies in memory. -/
theorem ret_cell2 {P : Program} {a : Act} {w : World} {fn : Func} {R : Ending → World → Prop} {p q : Tmp} {ty : TypeId} {b : Nat} {t : TypeId} {cs : List Value} (hr : fn.results = #[.cell p ty, .tmp q]) (d : TypeDesc) (hp : a.tmps.getD p undef = .pointer (some ⟨b, 0, none⟩)) (hB : Blk w b t cs)
    (hu : P.underlying ty = some d) (hd : (match d with | .struct _ | .array _ _ => true | _ => false) = true) (hi : (P.info? ty).map (·.size) = some cs.length) (hdf : a.defers = [])
    (h : R (.returned (.tuple #[.agg cs.toArray, a.tmps.getD q undef])) w) : bodyPost P fn R .ret a w := by
  refine bodyPost_ret ?_ hdf h
  have hp' : a.tmps[p]?.getD undef = .pointer (some ⟨b, 0, none⟩) := by simpa using hp
  simp [results, hr, hp', asAddr, run_loadVar_row w b t ty cs.toArray (0, 0) d hB hu hd (by simpa using hi)]
/-- The tree that a string is the image of. -/
def conG : Nat → S → S → TR.L → Option TR.L
  | 0, _, _, l => some l
  | n + 1, s, last, l => if s.size = 0 then some l else match cutS s with
    | none => none
    | some (c, r) => if c.gone = true ∨ TR.lt last c.key = false then none else conG n r c.key (appC l c)
def conS (s : S) : Option TR.L := conG (s.size + 1) s ⟨#[]⟩ []
theorem run_leqs (x y : S) (w : World) : (binOp .leq 9 (.string x) (.string y)).run Tryz.prog w = .ok (.bool (!TR.lt y x)) w := by
  have hb : (Op.bytesLess x.toList y.toList || x.toList == y.toList) = !TR.lt y x := by
    rw [TR.eq_beq]
    show (TR.lt x y || decide (x = y)) = !TR.lt y x
    by_cases he : x = y
    · subst he; simp [TR.lt_irr]
    · cases h : TR.lt x y
      · cases h' : TR.lt y x
        · exact absurd (TR.lt_tot h h') he
        · simp [he]
      · simp [TR.lt_asymm h]
  rw [← hb]; rfl
theorem infoCon : (Tryz.prog.info? 63).map (·.size) = some 2 := by kernel_rfl
theorem zeroCon (w : World) : (zeroValue 63).run Tryz.prog w = .ok (.agg #[.pointer none, .int .i64 0]) w := by kernel_rfl
theorem buildCon0 (w : World) : (Instr.build 63 #[]).run Tryz.prog w = .ok (.agg #[.pointer none, .int .i64 0]) w := by kernel_rfl
theorem buildCon (b : Nat) (w : World) : (Instr.build 63 #[(0, pt b)]).run Tryz.prog w = .ok (.agg #[pt b, .int .i64 0]) w := by kernel_rfl
theorem hentApply (vs : Array Value) (w : World) : (callFunc 40 vs).run Tryz.prog w = .ok (.enter 40 vs) w := by kernel_rfl
/-- What contentsOf gives. -/
def ConV (w : World) (r : Option TR.L) (e : Ending) (w' : World) : Prop := match r with
  | none => e = .returned (.tuple #[.agg #[.pointer none, .int .i64 0], .bool false]) ∧ Fr No w w'
  | some l => ∃ bt T, e = .returned (.tuple #[.agg #[pt bt, .int .i64 (imgN l : Int)], .bool true]) ∧ TR.Lv w w' bt T l ∧ Mays l
set_option maxHeartbeats 16000000 in
theorem contentsOf_any (s : S) (w : World) (hs : s.size ≤ 1000000) : Calls Tryz.prog 51 #[.string s] w (ConV w (conS s)) := by
  obtain ⟨r, hr⟩ : ∃ r, conS s = r := ⟨_, rfl⟩
  have HR := hid hr
  have HSZ := hid hs
  rw [hr]
  clear hr hs
  obtain ⟨ic, hic, hzc, hsc, hbc⟩ := Go.info_parts infozCh
  have IC := hid hic; have ZC := hid hzc; have SC := hid hsc
  clear hic hzc hsc hbc
  go_enter Tryz.func51, Tryz.ntmps51
  go_wp2_with (first
    | ((with_reducible show wpList _ _ _ ({ dst := _, op := .alloc 63, type := _, pos := _, after := _, guard := _ } :: _) _ _); refine wpL_alloc rfl _ rfl _ zeroCon [.pointer none, .int .i64 0] rfl ?_; intro w1 HB1 HF1 HS1)
    | fail)
  refine (TR.new_any _).mono ?_
  rintro e w2 ⟨bt, T, rfl, hT⟩
  have HT2 := hid (hT.pre HF1.out)
  have HB2 := hid (HB1.out.fr hT.fr id)
  have hTge := hT.ge
  have HNB := hid (show ¬ T.fp w.heap.size from fun e => by have := hTge _ e; have := HS1.out; omega)
  clear hT hTge HB1
  go_wp2_with (first
    | ((with_reducible show wpList _ _ _ ({ dst := _, op := .build 63 _, type := _, pos := _, after := _, guard := _ } :: _) _ _); refine wpL_build rfl _ [(0, .tmp 8)] rfl (.agg #[pt bt, .int .i64 0]) (buildCon bt _) ?_)
    | ((with_reducible show wpList _ _ _ ({ dst := _, op := .store 63 _ _, type := _, pos := _, after := _, guard := _ } :: _) _ _); refine TR.wpL_storeV rfl _ _ _ rfl w.heap.size 0 (.agg #[pt bt, .int .i64 0]) [pt bt, .int .i64 0] rfl rfl rfl _ _ HB2.out (by simp) infoCon (by intro u hu; simp at hu; rcases hu with rfl | rfl <;> rfl) ?_; intro w3 HB3 HF3 HS3)
    | fail)
  obtain ⟨b, hb⟩ : ∃ b, w.heap.size = b := ⟨_, rfl⟩
  have HC := hid (show Ct w w3 b 0 63 [pt bt, .int .i64 0] bt T [] by
    rw [← hb]
    exact ⟨⟨HT2.out.b, HT2.out.at_.fr HF3.out (fun k hk e => HNB.out (by have e' : k = w.heap.size := e; rw [← e']; exact hk)), HT2.out.fr.trans HF3.out (fun k e => .inr (by have e' : k = w.heap.size := e; omega)), HT2.out.ge⟩,
      by have h := HB3.out; simpa [spl, imgN] using h, rfl, Nat.lt_succ_self 1, HNB.out, by omega, fun p hp => by simp at hp⟩)
  have HBW := hid hb
  rw [hb]
  clear HB2 HF1 HS1 HT2 HB3 HF3 HS3 HNB hb
  go_wp2_with fail
  go_loopw [0, 4] (fun tv lv wr => ∃ (t last : S) (l : TR.L) (T : TR.TD) (n : Nat), tv = .string t ∧ lv = .string last ∧ t.size ≤ 1000000 ∧ Hid (t.size < n) ∧ Hid (conG n t last l = r) ∧ Hid (l.length + t.size ≤ 1000000) ∧ Hid (Ct w wr b 0 63 [pt bt, .int .i64 0] bt T l)) (fun tv _ _ => strLen tv)
  case atStart => exact ⟨s, ⟨#[]⟩, [], T, s.size + 1, rfl, rfl, HSZ.out, hid (Nat.lt_succ_self _), HR, hid (by have := HSZ.out; simpa using this), HC⟩
  case round =>
    clear HC
    obtain ⟨t, last, l, T, n, rfl, rfl, hts, HN, HD, HL, HC⟩ := hrel
    have hes := empty_size t
    obtain ⟨m, rfl⟩ : ∃ m, n = m + 1 := ⟨n - 1, by have := HN.out; omega⟩
    by_cases h0 : t.size = 0
    · have hte : t.toList.isEmpty = true := by rw [hes]; simp [h0]
      have hrn : r = some l := by rw [← HD.out]; unfold conG; rw [if_pos h0]
      have HRN := hid hrn
      clear hrn h0 hes
      have hrg := HC.out.blk.range 0 [pt bt, .int .i64 (imgN l : Int)] rfl
      go_wp2_with (first
        | ((with_reducible show wpList _ _ _ ({ dst := _, op := .load 63 _, type := _, pos := _, after := _, guard := _ } :: _) _ _); refine wpL_load rfl _ _ rfl b 0 rfl [pt bt, .int .i64 (imgN l : Int)] _ hrg rfl rfl infoCon ?_)
        | ((with_reducible show wpList _ _ _ ({ dst := _, op := .store 63 _ _, type := _, pos := _, after := _, guard := _ } :: _) _ _); refine TR.wpL_storeV rfl _ _ _ rfl b 0 (.agg #[pt bt, .int .i64 (imgN l : Int)]) [pt bt, .int .i64 (imgN l : Int)] rfl rfl rfl _ _ HC.out.blk (by simp) infoCon (by intro u hu; simp at hu; rcases hu with rfl | rfl <;> rfl) ?_; intro w4 HB4 HF4 HS4)
        | fail)
      refine ret_cell2 rfl _ rfl HB4.out rfl rfl (by simp [spl, infoCon]) rfl ?_
      rw [HRN.out]
      have hbw := HBW.out
      refine ⟨bt, T, by simp [spl], ⟨HC.out.t.b, HC.out.t.at_.fr HF4.out (fun k hk e => HC.out.nb (by have e' : k = b := e; rw [← e']; exact hk)), HC.out.t.fr.trans HF4.out (fun k e => .inr (by have e' : k = b := e; omega)), HC.out.t.ge⟩, HC.out.m⟩
    · have hte : t.toList.isEmpty = false := by rw [hes]; simp [h0]
      have HD2 : Hid ((match cutS t with
        | none => none
        | some (c, r) => if c.gone = true ∨ TR.lt last c.key = false then none else conG m r c.key (appC l c)) = r) := hid (by have h := HD.out; unfold conG at h; rwa [if_neg h0] at h)
      clear hes h0
      go_wp2_with fail
      refine (cut_any t wr (by omega)).mono ?_
      rintro e w2 ⟨rfl, f2⟩
      have HF2 := hid f2
      have HC2 := hid (HC.out.no f2)
      clear f2 HC
      cases hc : cutS t with
      | none =>
        have hrn : r = none := by have h := HD2.out; rw [hc] at h; exact h.symm
        have HRN := hid hrn
        clear hrn hc
        unfold cutV
        simp only
        go_wp2_with (first
          | ((with_reducible show wpList _ _ _ ({ dst := _, op := .alloc 55, type := _, pos := _, after := _, guard := _ } :: _) _ _); refine wpL_alloc rfl _ rfl _ zeroCh [.string ⟨#[]⟩, .string ⟨#[]⟩, .bool false] rfl ?_; intro w4 HB4 F4 HS4; have HC4 := hid (HC2.out.no F4.out))
          | ((with_reducible show wpList _ _ _ ({ dst := _, op := .store 55 _ _, type := _, pos := _, after := _, guard := _ } :: _) _ _); refine TR.wpL_storeV rfl _ _ _ rfl w2.heap.size 0 noCh.agg [.string ⟨#[]⟩, .string ⟨#[]⟩, .bool false] rfl rfl rfl _ _ HB4.out (by simp) infoCh (by intro u hu; simp at hu; rcases hu with rfl | rfl <;> rfl) ?_; intro w5 HB5 F5 HS5; have HN5 := hid (HC4.out.blk.fr F5.out (fun e => by have := HC2.out.blk.lt; have : b = w2.heap.size := e; omega)))
          | ((with_reducible show wpList _ _ _ ({ dst := _, op := .build 63 _, type := _, pos := _, after := _, guard := _ } :: _) _ _); refine wpL_build rfl _ [] rfl (.agg #[.pointer none, .int .i64 0]) (buildCon0 _) ?_)
          | ((with_reducible show wpList _ _ _ ({ dst := _, op := .store 63 _ _, type := _, pos := _, after := _, guard := _ } :: _) _ _); refine TR.wpL_storeV rfl _ _ _ rfl b 0 (.agg #[.pointer none, .int .i64 0]) [.pointer none, .int .i64 0] rfl rfl rfl _ _ HN5.out (by simp) infoCon (by intro u hu; simp at hu; rcases hu with rfl | rfl <;> rfl) ?_; intro w6 HB6 HF6 HS6)
          | fail)
        refine ret_cell2 rfl _ rfl HB6.out rfl rfl (by simp [spl, infoCon]) rfl ?_
        rw [HRN.out]
        have hbw := HBW.out
        have h2 := HC2.out.t.fr
        exact ⟨by simp [spl], ((h2.trans' F4.out).trans F5.out (fun k hk => .inr (by have e' : k = w2.heap.size := hk; have := h2.size; omega))).trans HF6.out (fun k e => .inr (by have e' : k = b := e; omega))⟩
      | some p =>
        obtain ⟨x, t'⟩ := p
        have hless := cut_less hc
        have hms := may_sizes (cut_sizes hc)
        have HD3 : Hid ((if x.gone = true ∨ TR.lt last x.key = false then none else conG m t' x.key (appC l x)) = r) := hid (by have h := HD2.out; rw [hc] at h; exact h)
        have HONE : Hid (∀ u ∈ [Value.string x.key, .string x.value, .bool x.gone], u.oneCell' = true) := hid (by intro u hu; simp at hu; rcases hu with rfl | rfl | rfl <;> rfl)
        have HLE := hid hless; have HMS := hid hms
        clear hc hless HD2 hms
        unfold cutV
        simp only
        go_wp2_with (first
          | ((with_reducible show wpList _ _ _ ({ dst := _, op := .alloc 55, type := _, pos := _, after := _, guard := _ } :: _) _ _); refine wpL_alloc rfl _ rfl _ zeroCh [.string ⟨#[]⟩, .string ⟨#[]⟩, .bool false] rfl ?_; intro w4 HB4 F4 HS4)
          | ((with_reducible show wpList _ _ _ ({ dst := _, op := .store 55 _ _, type := _, pos := _, after := _, guard := _ } :: _) _ _); refine Hid.out ?_)
          | fail)
        refine hid ?_
        refine TR.wpL_storeV rfl _ _ _ rfl w2.heap.size 0 x.agg [.string x.key, .string x.value, .bool x.gone] rfl rfl rfl _ _ HB4.out (by simp) infoCh HONE.out ?_
        intro w5 HB5 F5 HS5
        have HBx : Hid (Blk w5 w2.heap.size 55 [.string x.key, .string x.value, .bool x.gone]) := hid (by have h := HB5.out; simpa [spl] using h)
        have HF5 : Hid (Fr No w2 w5) := hid (F4.out.trans F5.out (fun k hk => .inr (Nat.le_of_eq (Eq.symm hk))))
        have HC5 := hid (HC2.out.no HF5.out)
        obtain ⟨bx, hbx⟩ : ∃ b, w2.heap.size = b := ⟨_, rfl⟩
        rw [hbx] at HBx ⊢
        have HBX := hid hbx
        clear HB4 F4 HS4 HB5 F5 HS5 hbx
        have hk := fun w => run_leqs x.key last w
        by_cases hbad : x.gone = true ∨ TR.lt last x.key = false
        · have hrn : r = none := by have h := HD3.out; rw [if_pos hbad] at h; exact h.symm
          have HRN := hid hrn
          clear hrn
          cases hg : x.gone with
          | true =>
            have e2 : w5.cell? ⟨bx, 2, none⟩ = some (.bool true) := by have := HBx.out.cell 2; rw [hg] at this; exact this
            clear hbad hk
            go_wp2_with (first
              | ((with_reducible show wpList _ _ _ ({ dst := _, op := .build 63 _, type := _, pos := _, after := _, guard := _ } :: _) _ _); refine wpL_build rfl _ [] rfl (.agg #[.pointer none, .int .i64 0]) (buildCon0 _) ?_)
              | ((with_reducible show wpList _ _ _ ({ dst := _, op := .store 63 _ _, type := _, pos := _, after := _, guard := _ } :: _) _ _); refine TR.wpL_storeV rfl _ _ _ rfl b 0 (.agg #[.pointer none, .int .i64 0]) [.pointer none, .int .i64 0] rfl rfl rfl _ _ HC5.out.blk (by simp) infoCon (by intro u hu; simp at hu; rcases hu with rfl | rfl <;> rfl) ?_; intro w6 HB6 HF6 HS6)
              | fail)
            refine ret_cell2 rfl _ rfl HB6.out rfl rfl (by simp [spl, infoCon]) rfl ?_
            rw [HRN.out]
            have hbw := HBW.out
            exact ⟨by simp [spl], HC5.out.t.fr.trans HF6.out (fun k e => .inr (by have e' : k = b := e; omega))⟩
          | false =>
            have e2 : w5.cell? ⟨bx, 2, none⟩ = some (.bool false) := by have := HBx.out.cell 2; rw [hg] at this; exact this
            have e0 : w5.cell? ⟨bx, 0, none⟩ = some (.string x.key) := HBx.out.cell 0
            have hl : TR.lt last x.key = false := by rcases hbad with h | h; (rw [hg] at h; cases h); exact h
            rw [hl] at hk
            clear hbad hl
            go_wp2_with (first
              | ((with_reducible show wpList _ _ _ ({ dst := _, op := .build 63 _, type := _, pos := _, after := _, guard := _ } :: _) _ _); refine wpL_build rfl _ [] rfl (.agg #[.pointer none, .int .i64 0]) (buildCon0 _) ?_)
              | ((with_reducible show wpList _ _ _ ({ dst := _, op := .store 63 _ _, type := _, pos := _, after := _, guard := _ } :: _) _ _); refine TR.wpL_storeV rfl _ _ _ rfl b 0 (.agg #[.pointer none, .int .i64 0]) [.pointer none, .int .i64 0] rfl rfl rfl _ _ HC5.out.blk (by simp) infoCon (by intro u hu; simp at hu; rcases hu with rfl | rfl <;> rfl) ?_; intro w6 HB6 HF6 HS6)
              | fail)
            refine ret_cell2 rfl _ rfl HB6.out rfl rfl (by simp [spl, infoCon]) rfl ?_
            rw [HRN.out]
            have hbw := HBW.out
            exact ⟨by simp [spl], HC5.out.t.fr.trans HF6.out (fun k e => .inr (by have e' : k = b := e; omega))⟩
        · have hg : x.gone = false := by cases h : x.gone with
            | true => exact absurd (.inl h) hbad
            | false => rfl
          have hl : TR.lt last x.key = true := by cases h : TR.lt last x.key with
            | true => rfl
            | false => exact absurd (.inr h) hbad
          have HD4 : Hid (conG m t' x.key (appC l x) = r) := hid (by have h := HD3.out; rwa [if_neg hbad] at h)
          have e2 : w5.cell? ⟨bx, 2, none⟩ = some (.bool false) := by have := HBx.out.cell 2; rw [hg] at this; exact this
          have e0 : w5.cell? ⟨bx, 0, none⟩ = some (.string x.key) := HBx.out.cell 0
          rw [hl] at hk
          clear hbad hl HD3 hg
          go_wp2_with (first
            | ((with_reducible show wpList _ _ _ ({ dst := _, op := .load 55 _, type := _, pos := _, after := _, guard := _ } :: _) _ _); refine wpL_load rfl _ _ rfl bx 0 rfl [.string x.key, .string x.value, .bool x.gone] _ (HBx.out.range 0 _ rfl) rfl rfl infoCh ?_)
            | ((with_reducible show wpList _ _ _ ({ dst := _, op := .buildSlice 22 _ _, type := _, pos := _, after := _, guard := _ } :: _) _ _); refine wpL_buildOne rfl _ 55 _ rfl ic _ rfl IC.out ZC.out (by rw [SC.out]; decide) (by rw [SC.out]; decide) _ [.string x.key, .string x.value, .bool x.gone] rfl rfl (by rw [SC.out]; rfl) ?_; intro w6 HB6 F6 HS6)
            | fail)
          have HC6 := hid (HC5.out.no F6.out)
          have hchin : ChIn w6 (fun k => k = w5.heap.size) (.slice (some ⟨w5.heap.size, 0, none⟩) 1 1) [x] := ⟨_, 1, rfl, .inr ⟨_, 0, rfl, rfl, HB6.out.lt, by have := HB6.out.range 0 [.string x.key, .string x.value, .bool x.gone] rfl; simpa [chs, Ch.cells] using this⟩⟩
          refine (apply_any w w6 b 0 _ _ bt T l _ [x] _ HC6.out hchin (fun k e => ⟨fun hk => by have := HC5.out.t.at_.lt k hk; have e' : k = w5.heap.size := e; omega, fun h => by have := HC5.out.blk.lt; have e' : k = w5.heap.size := e; omega⟩) (by intro y hy; simp at hy; subst hy; exact ⟨HMS.out.1, HMS.out.2.1⟩) (by have := HL.out; simp; omega)).mono ?_
          rintro e w7 ⟨rfl, T', hC7, hf7, hg7⟩
          have HC7 := hid (show Ct w w7 b 0 63 [pt bt, .int .i64 0] bt T' (appC l x) from hC7)
          have HB7 := hid ((HBx.out.fr F6.out id).fr hf7 (fun e => e.elim (fun h => by have := HC2.out.t.at_.lt _ h; have := HBX.out; omega) (fun h => by have := HC2.out.blk.lt; have := HBX.out; omega)))
          have e0' : w7.cell? ⟨bx, 0, none⟩ = some (.string x.key) := HB7.out.cell 0
          clear hC7 hf7 hg7 hchin e0 e2 hk
          go_wp2_with fail
          have hal := app_length l x
          have hle := HLE.out
          exact ⟨⟨t', x.key, appC l x, T', m, rfl, rfl, by omega, hid (by have := HN.out; omega), HD4, hid (by have := HL.out; omega), HC7⟩, by simp only [strLen]; omega⟩
end Go.Proofs.YtejbanlhgnlliaaGreat.ST
