/-
  Part 17 of the proof: FtRow, FtEd, FtJ, FtV, DrA, DrB.
-/
import Derived.Test.YtgbiicipkbpmeaaGreatDoorFe03
import Derived.Test.YtgbiicipkbpmeaaGreatDoorFe16
import Derived.HandedShaped
import Derived.Shelf.LaysM
import Derived.Test.YtgbiicipkbpmeaaGreatDoorFe14
import Derived.Test.YtgbiicipkbpmeaaGreatDoorFe13
import Derived.Test.YtgbiicipkbpmeaaGreatDoorFe15
import Derived.Test.YtgbiicipkbpmeaaGreatDoorFe05
import Derived.Test.YtgbiicipkbpmeaaGreatDoorFe04
import Derived.Test.YtgbiicipkbpmeaaGreatDoorFe08
set_option linter.unusedSimpArgs false
set_option linter.unusedVariables false
namespace Go.Proofs.YtgbiicipkbpmeaaGreatDoor.FT
set_option maxRecDepth 100000
open Go.ChangeShapes Go.WideShapes Go.ChangeAt Go.RowKit K BE DN SC
def laid : List (String × DataW Unit) := [("math/bits.deBruijn32tab", Rows.laid_math_bits_deBruijn32tab), ("math/bits.deBruijn64tab", Rows.laid_math_bits_deBruijn64tab), ("internal/strconv.uint64pow10", Rows.laid_internal_strconv_uint64pow10), ("unicode/utf8.acceptRanges", Rows.laid_unicode_utf8_acceptRanges), ("strconv.ErrRange", Rows.laid_strconv_ErrRange), ("strconv.ErrSyntax", Rows.laid_strconv_ErrSyntax), ("unicode/utf8.first", Rows.laid_unicode_utf8_first)]
theorem gs_of {W : World} (h : laidMetH Tryz.prog laid W) : Gs W := by
 have h0 : laidMet Tryz.prog laid W := h
 refine ⟨?_, ?_, ?_⟩
 ·obtain ⟨a, s, hv, -⟩ := laid_sentinel (nm := "*errors.errorString") h0.tail.tail.tail.tail.tail gSyn gSynT Tryz.underlying134 rowES Tryz.underlying269 Tryz.underlying271 rfl rfl Tryz.underlying9 cES cS
  exact ⟨_, _, by simpa using World.var?_cell gSyn hv 0⟩
 ·obtain ⟨a, s, hv, -⟩ := laid_sentinel (nm := "*errors.errorString") h0.tail.tail.tail.tail gRng gRngT Tryz.underlying134 rowES Tryz.underlying269 Tryz.underlying271 rfl rfl Tryz.underlying9 cES cS
  exact ⟨_, _, by simpa using World.var?_cell gRng hv 0⟩
 ·have h2 : laidMet Tryz.prog (("internal/strconv.uint64pow10", Lib.tabData .u64 Lib.pow10Tab) :: [("unicode/utf8.acceptRanges", Rows.laid_unicode_utf8_acceptRanges), ("strconv.ErrRange", Rows.laid_strconv_ErrRange), ("strconv.ErrSyntax", Rows.laid_strconv_ErrSyntax), ("unicode/utf8.first", Rows.laid_unicode_utf8_first)]) W := h0.tail.tail
  exact Lib.tabIs_of_head gTab gTabT Tryz.underlying272 Tryz.underlying242 (by kernel_rfl) (by kernel_rfl) h2
theorem gm_of {W : World} (h : laidMetH Tryz.prog laid W) (hs : W.ShapedOpen Tryz.prog) : Gm W :=
 ⟨gs_of h, cell_of_shapedOpen_int (t := 3) (zero := #[.int .i64 0]) hs (of_decide_eq_true (by kernel_rfl)) (by kernel_rfl) rfl (by kernel_rfl) (by kernel_rfl) Tryz.underlying3⟩
mutual
def flatD : DataW Unit → List Value
 | .lit (.int k n) => [Value.int k n]
 | .agg xs => flatDs xs
 | _ => [undef]
def flatDs : List (DataW Unit) → List Value
 | [] => []
 | x :: r => flatD x ++ flatDs r
end
noncomputable def laidWorld (os : Os) : World :=
 let w0 := World.holding Tryz.prog os ⟨#[.cells #[.string (sb [118, 97, 108, 117, 101, 32, 111, 117, 116, 32, 111, 102, 32, 114, 97, 110, 103, 101])] 271, .cells #[.string (sb [105, 110, 118, 97, 108, 105, 100, 32, 115, 121, 110, 116, 97, 120])] 271], #[], []⟩
 { w0 with heap := ((((((w0.heap.modify 6 (lay (flatD Rows.laid_math_bits_deBruijn32tab).toArray)).modify 7 (lay (flatD Rows.laid_math_bits_deBruijn64tab).toArray)).modify 3 (lay (flatD Rows.laid_internal_strconv_uint64pow10).toArray)).modify 5 (lay (flatD Rows.laid_unicode_utf8_acceptRanges).toArray)).modify 2 (lay #[.iface 269 (.pointer (some ⟨lowG, 0, none⟩))])).modify 1 (lay #[.iface 269 (.pointer (some ⟨lowG + 1, 0, none⟩))])).modify 4 (lay (flatD Rows.laid_unicode_utf8_first).toArray) }
def FlB (k : Nat) : Nat → Fl → Prop
 | 0, _ => True
 | d + 1, f => f.type.length ≤ k ∧ f.value.length ≤ k ∧ f.first.length ≤ k ∧ f.last.length ≤ k ∧ f.any.length ≤ k ∧ (∀ a ∈ f.any, a.length ≤ k) ∧ f.kids.length ≤ k ∧ ∀ x ∈ f.kids, FlB k d x
theorem cFl : Tryz.prog.cellsOf 39 = 7 := by kernel_rfl
theorem cFls : Tryz.prog.cellsOf 36 = 1 := by kernel_rfl
theorem bFl : 1 ≤ Tryz.prog.bytesOf 39 := by rw [show Tryz.prog.bytesOf 39 = 120 by kernel_rfl]; decide
theorem int_b {k f : Nat} {w : World} {cs : List Value} (h : ReadsB k f w 3 cs) : ∃ n, cs = [.int .i64 n] ∧ I64 n := by
 obtain ⟨H, enc, x, h1, -, -⟩ := h
 obtain ⟨n, e, -, hn⟩ := DataW.trod_int Tryz.underlying3 h1
 refine ⟨n, e, ?_⟩
 have : -9223372036854775808 ≤ n ∧ n ≤ 9223372036854775807 := by simpa [Lit.wf, IntKind.min, IntKind.signed, IntKind.bits] using hn
 exact this
theorem fl_b {k : Nat} (hk : k ≤ 4294967000) : ∀ (f : Nat) (w : World) (cs : List Value), ReadsB k f w 39 cs → ∃ x, FlC f (fun i => i < w.heap.size) w x cs ∧ ∀ d, FlB k d x := by
 intro f
 induction f using Nat.strongRecOn with
 | ind f ih =>
  intro w cs h
  obtain ⟨f1, rfl, hl, hf⟩ := h.struct Tryz.underlying39
  rw [cFl] at hl
  obtain ⟨c0, c1, c2, c3, c4, c5, c6, rfl⟩ : ∃ c0 c1 c2 c3 c4 c5 c6, cs = [c0, c1, c2, c3, c4, c5, c6] := by
   match cs, hl with
   | [c0, c1, c2, c3, c4, c5, c6], _ => exact ⟨c0, c1, c2, c3, c4, c5, c6, rfl⟩
  have k0 : ReadsB k f1 w 3 (([c0, c1, c2, c3, c4, c5, c6].drop 0).take (Tryz.prog.cellsOf 3)) := hf 0 _ rfl
  have k1 : ReadsB k f1 w 36 (([c0, c1, c2, c3, c4, c5, c6].drop 1).take (Tryz.prog.cellsOf 36)) := hf 1 _ rfl
  have k2 : ReadsB k f1 w 9 (([c0, c1, c2, c3, c4, c5, c6].drop 2).take (Tryz.prog.cellsOf 9)) := hf 2 _ rfl
  have k3 : ReadsB k f1 w 9 (([c0, c1, c2, c3, c4, c5, c6].drop 3).take (Tryz.prog.cellsOf 9)) := hf 3 _ rfl
  have k4 : ReadsB k f1 w 9 (([c0, c1, c2, c3, c4, c5, c6].drop 4).take (Tryz.prog.cellsOf 9)) := hf 4 _ rfl
  have k5 : ReadsB k f1 w 37 (([c0, c1, c2, c3, c4, c5, c6].drop 5).take (Tryz.prog.cellsOf 37)) := hf 5 _ rfl
  have k6 : ReadsB k f1 w 9 (([c0, c1, c2, c3, c4, c5, c6].drop 6).take (Tryz.prog.cellsOf 9)) := hf 6 _ rfl
  rw [cIn] at k0
  rw [cFls] at k1
  rw [cS] at k2 k3 k4 k6
  rw [cLs] at k5
  obtain ⟨n, e0, g0⟩ := int_b k0
  obtain ⟨vk, ks, e1, s1, l1, q1⟩ := k1.rows (p := FlC f1 (fun i => i < w.heap.size) w) (q := fun x => ∀ d, FlB k d x) Tryz.underlying36 cFl (by decide) bFl (fun f2 cs' hlt hr => by
   obtain ⟨x, hx, hb⟩ := ih f2 (by omega) w cs' hr
   exact ⟨x, hx.le (by omega), hb⟩)
  obtain ⟨t2, e2, g2, b2⟩ := k2.string Tryz.underlying9
  obtain ⟨t3, e3, g3, b3⟩ := k3.string Tryz.underlying9
  obtain ⟨t4, e4, g4, b4⟩ := k4.string Tryz.underlying9
  obtain ⟨va, as_, e5, g5, ⟨l5, b5⟩, -⟩ := ls_b k5
  obtain ⟨t6, e6, g6, b6⟩ := k6.string Tryz.underlying9
  simp only [List.drop_zero, List.drop_succ_cons, List.take_succ_cons, List.take_zero, List.cons.injEq, and_true] at e0 e1 e2 e3 e4 e5 e6
  subst e0 e1 e2 e3 e4 e5 e6
  refine ⟨.mk n ks t2 t3 t4 as_ t6, ⟨c1, c5, rfl, g0, g2, g3, Nat.le_trans b4 hk, Nat.le_trans b6 hk, ⟨g5, fun x hx => Nat.le_trans (b5 x hx) hk, Nat.le_trans l5 hk⟩, s1⟩, fun d => ?_⟩
  cases d with
  | zero => trivial
  | succ d => exact ⟨b2, b3, b4, b6, l5, b5, l1, fun x hx => q1 x hx d⟩
theorem ens_of {k : Nat} {en : Ent} (h : EnB k en) (hk : k ≤ 4294967000) : EnS en := fun a ha v hv => Nat.le_trans ((h.2 a ha).2.2 v hv) hk
section
variable {H : Type} {enc : TypeId × Value → H} {W W' : World} {v : Value} {d : DataW H} {p : List MemPlace} {ts : List TypeId} {ds : List (DataW H)}
theorem arg_fl (hk : Rows.uptoBulk d ≤ 4294967000) (h : DataW.Trod enc Tryz.prog W 0 (fun _ => true) true 39 v d p) (hv : ∃ cs, v = .agg cs ∧ cs.size = Tryz.prog.cellsOf 39) (hsz : (DataW.weightsEach Tryz.prog ts ds).all (· ≤ reachBytes) = true) (j : Nat) (ht : ts[j]? = some 39) (hd : ds[j]? = some d) :
  ∃ M x cs, v = .agg cs.toArray ∧ FlC M (fun i => i < W.heap.size) W x cs ∧ ∀ e, FlB (Rows.uptoBulk d) e x := by
 obtain ⟨fuel, hr⟩ := h
 obtain ⟨cs, rfl, -⟩ := hv
 obtain ⟨x, h1, h2⟩ := fl_b hk fuel W cs.toList ⟨H, enc, _, by simpa [Value.cells] using hr, fun n hn => by simpa using List.all_eq_true.1 hsz n (DataW.weights_mem_each ht hd n hn), Nat.le_refl _⟩
 exact ⟨fuel, x, cs.toList, by simp, h1, h2⟩
end
end Go.Proofs.YtgbiicipkbpmeaaGreatDoor.FT
namespace Go.Proofs.YtgbiicipkbpmeaaGreatDoor.FT
set_option maxRecDepth 100000
open BE DN SC
def matchD (syn : Int) (v : B) (f : Fl) : Bool := if syn = 1 then hasP (fold v) (trimL (squeeze f.first)) (f.any.map squeeze) (trimR (squeeze f.last)) else hasP v f.first f.any f.last
def asksK (s : Sch) (f : Fl) : Bool :=
 if f.kind = 7 then true else if f.kind = 4 then decide ((tyOf s f.type).syn ≤ 2) else if f.kind = 3 then decide ((normE s f.type f.value).2 = 0)
 else if f.kind = 5 ∨ f.kind = 6 then decide ((normE s f.type f.value).2 = 0) && decide ((tyOf s f.type).syn ≤ 3) else false
def asksD (s : Sch) (f : Fl) : Bool := match s.tyAt f.type with
 | none => false
 | some _ => asksK s f
def holdsD (s : Sch) (f : Fl) (v : B) : Bool :=
 if f.kind = 4 then matchD (tyOf s f.type).syn v f
 else if (cmpE s f.type v f.value).2 = 0 then isOrd f.kind (cmpE s f.type v f.value).1 else false
def leafD (s : Sch) (en : Ent) (f : Fl) : Int :=
 if asksD s f then (match en.find? (fun a => low a.1 == low f.type) with
  | none => 0
  | some a => if f.kind = 7 then 1 else truI (a.2.any (holdsD s f)))
 else 2
theorem tyN_low {s : Sch} {m n : B} (h : low m = low n) : tyN s m = tyN s n := by
 unfold tyN Sch.tyAt fnd
 rw [h]
theorem tyN_nm {s : Sch} {n : B} {t : Ty} (h : tyN s n = some t) : low t.nm = low n := by
 obtain ⟨i, h1, h2⟩ := tyN_some h
 unfold Sch.tyAt Sch.tn at h1
 rw [fnd_ty] at h1
 obtain ⟨hi, hq, -⟩ := List.findIdx?_eq_some_iff_getElem.1 h1
 obtain ⟨hi2, h3⟩ := List.getElem?_eq_some_iff.1 h2
 rw [h3] at hq
 exact beq_iff_eq.1 hq
theorem attr_low {s : Sch} {n : B} {t : Ty} (h : tyN s n = some t) (en : Ent) : attrOf s en t.nm = en.find? fun a => low a.1 == low n := by
 unfold attrOf
 congr 1
 funext a
 by_cases hl : low a.1 = low n
 ·rw [tyN_low hl, h]
  simp [hl]
 ·have hb : (low a.1 == low n) = false := by rw [beq_eq_false_iff_ne]; exact hl
  rw [hb]
  cases ha : tyN s a.1 with
  | none => rfl
  | some u =>
   simp only [decide_eq_false_iff_not]
   intro e
   exact hl (by rw [← tyN_nm ha, e, tyN_nm h])
theorem syn_in {n : Int} (h1 : 1 ≤ n) : (([1] : List Int).contains n = decide (n = 1)) ∧ (([1, 2] : List Int).contains n = decide (n ≤ 2)) ∧ (([1, 2, 3] : List Int).contains n = decide (n ≤ 3)) := by
 refine ⟨?_, ?_, ?_⟩ <;> (rw [Bool.eq_iff_iff]; simp <;> omega)
theorem leaf_is {s : Sch} (hk : okS s = true) (en : Ent) (f : Fl) : leaf s en f = leafD s en f := by
 unfold leafD asksD
 cases hat : s.tyAt f.type with
 | none =>
  have hn : tyN s f.type = none := tyN_none hat
  have hs : ∀ L, hasSyn s f.type L = false := fun L => by unfold hasSyn; rw [hn]
  have ho : ∀ k, evOrd s en k f.type f.value = 2 := fun k => by unfold evOrd; rw [normE_none hat]; rfl
  unfold leaf
  simp only [hs, ho, Bool.false_eq_true, if_false, evPres, hn]
  split
  ·rfl
  ·split
   ·rfl
   ·split
    ·rfl
    ·split <;> rfl
 | some i =>
  have hn := tyN_at hat
  have hr := ((okS_iff s).1 hk).2.2.1 i _ (tyAt_tys hat)
  unfold rT at hr
  simp only [Bool.and_eq_true, decide_eq_true_eq] at hr
  obtain ⟨i1, i2, i3⟩ := syn_in hr.2.1
  have ha := attr_low hn en
  have hv : valsOf s en f.type = match en.find? (fun a => low a.1 == low f.type) with | none => [] | some a => a.2 := by
   unfold valsOf
   rw [hn]
   show (match attrOf s en (tyOf s f.type).nm with | none => [] | some a => a.2) = _
   rw [ha]
  have hs : ∀ L, hasSyn s f.type L = L.contains (tyOf s f.type).syn := fun L => by unfold hasSyn; rw [hn]
  have hp : evPres s en f.type = truI (en.find? fun a => low a.1 == low f.type).isSome := by
   unfold evPres
   rw [hn]
   show truI (attrOf s en (tyOf s f.type).nm).isSome = _
   rw [ha]
  unfold leaf evOrd evParts
  rw [hs, hs, hs, hp, hv, i1, i2, i3]
  show _ = if asksK s f = true then _ else 2
  unfold asksK
  generalize (normE s f.type f.value).2 = ne
  generalize en.find? (fun a => low a.1 == low f.type) = o
  by_cases h7 : f.kind = 7
  ·simp [h7]
   cases o <;> simp [truI]
  by_cases h4 : f.kind = 4
  ·simp only [h4, if_true, show ¬ ((4 : Int) = 5 ∨ (4 : Int) = 6) by decide, if_false, show ¬ ((4 : Int) = 3) by decide, show ¬ ((4 : Int) = 7) by decide, decide_eq_true_eq]
   split
   ·cases o with
    | none => simp [truI]
    | some a =>
     have hq : holdsD s f = fun x => matchD (tyOf s f.type).syn x f := by funext x; unfold holdsD; rw [if_pos h4]
     rw [hq]
     unfold matchD
     by_cases h1 : (tyOf s f.type).syn = 1
     ·simp only [h1, decide_true, if_true]
     ·simp only [h1, decide_false, if_false, Bool.false_eq_true]
   ·rfl
  have hh : ∀ k v, f.kind = k → (decide ((cmpE s f.type v f.value).2 = 0) && isOrd k (cmpE s f.type v f.value).1) = holdsD s f v := fun k v e => by
   unfold holdsD
   rw [if_neg h4, e]
   by_cases hc : (cmpE s f.type v f.value).2 = 0
   ·simp [hc]
   ·simp [hc]
  by_cases h3 : f.kind = 3
  ·simp only [h3, show ¬ ((3 : Int) = 5 ∨ (3 : Int) = 6) by decide, if_false, if_true, show ¬ ((3 : Int) = 7) by decide, show ¬ ((3 : Int) = 4) by decide, decide_eq_true_eq]
   split
   ·cases o with
    | none => simp [truI]
    | some a =>
     congr 2
     funext v
     exact hh 3 v h3
   ·rfl
  by_cases h56 : f.kind = 5 ∨ f.kind = 6
  ·simp only [h56, h7, h4, h3, if_true, if_false, decide_eq_true_eq, Bool.and_eq_true]
   by_cases hsy : (tyOf s f.type).syn ≤ 3
   ·simp only [hsy, if_true, and_true]
    split
    ·cases o with
     | none => simp [truI]
     | some a =>
      congr 2
      funext v
      exact hh _ v rfl
    ·rfl
   ·simp [hsy]
  ·simp [h56, h7, h4, h3]
theorem joinE_u (dec out : Int) (u : Bool) (r : Int) (t : List Int) (h : ¬ r = dec) : joinE dec (if u then 2 else out) (r :: t) = joinE dec (if u || decide (r = 2) then 2 else out) t := by
 rw [joinE, if_neg h]
 by_cases h2 : r = 2
 ·rw [if_pos h2, decide_eq_true h2, Bool.or_true]; rfl
 ·rw [if_neg h2, decide_eq_false h2, Bool.or_false]
theorem find_idx (en : Ent) (q : Atr → Bool) : (en.find? q = none ∧ idxI en q = -1) ∨ ∃ (i : Nat) (a : Atr), en.find? q = some a ∧ en[i]? = some a ∧ idxI en q = (i : Int) := by
 unfold idxI
 cases h : en.findIdx? q with
 | none => exact .inl ⟨List.find?_eq_none.2 (fun x hx => by have := List.findIdx?_eq_none_iff.1 h x hx; simp [this]), rfl⟩
 | some i =>
  obtain ⟨hi, hq, hb⟩ := List.findIdx?_eq_some_iff_getElem.1 h
  refine .inr ⟨i, en[i], ?_, List.getElem?_eq_getElem hi, rfl⟩
  rw [List.find?_eq_some_iff_getElem]
  exact ⟨hq, i, hi, rfl, fun j hj => by have := hb j hj; simpa using this⟩
end Go.Proofs.YtgbiicipkbpmeaaGreatDoor.FT
namespace Go.Proofs.YtgbiicipkbpmeaaGreatDoor.FT
set_option maxRecDepth 100000
set_option maxHeartbeats 128000000
open Go.RowKit K BE DN SC
theorem zeroFl' : ∀ w, (zeroValue 39).run Tryz.prog w = .ok (.agg (flV fl0 (.slice none 0 0) (.slice none 0 0)).toArray) w := fun _ => by kernel_rfl
theorem spl_whole (cs c : List Value) (h : cs.length = c.length) : spl cs 0 c = c := by simp [spl, ← h]
def notE : List Int → Int
 | [] => 2
 | r :: _ => opp r
def Seven (c : List Value) : Prop := c.length = 7 ∧ ∀ v ∈ c, v.oneCell' = true
theorem joined_any {α : Type} (f : FuncId) (first : List Value) (q : α → Int) (p : World → α → List Value → Prop) (D : Nat → Prop) (I : World → Prop) (E : Nat → Prop) (v0 : Value) (X : List α) (dec : Int) (w : World) (hp : ∀ w w' x c, p w x c → Fr D w w' → p w' x c) (h7 : ∀ w x c, p w x c → Seven c) (hD : ∀ i, E i → i < w.heap.size → ¬ D i) (hI : I w) (hIn : ∀ w w', I w → Fr No w w' → I w') (hdec : dec = 0 ∨ dec = 1)
  (h0 : Sl 7 (p w) E w v0 X) (hent : ∀ (vs : Array Value) (w : World), (callFunc f vs).run Tryz.prog w = .ok (.enter f vs) w)
  (hf : ∀ x ∈ X, ∀ c wv, p wv x c → I wv → Fr D w wv → Calls Tryz.prog f (first ++ [Value.agg c.toArray]).toArray wv fun e w' => e = .returned (.int .i64 (q x)) ∧ I w' ∧ Fr D wv w') :
  Calls Tryz.prog 60 #[v0, .int .i64 dec, .func (.func f) first.toArray #[]] w fun e w' => e = .returned (.int .i64 (joinE dec (opp dec) (X.map q))) ∧ I w' ∧ Fr D w w' := by
 obtain ⟨a, c, rfl, -, hl0⟩ := h0.form
 have HX0 := hid h0
 obtain ⟨n, hn⟩ : ∃ n, X.length = n := ⟨_, rfl⟩
 rw [hn] at HX0 hl0 ⊢
 have HNN := hid hn; have HP := hid hp; have HE := hid hent; have HF := hid hf; have HD := hid hD; have HI0 := hid hI; have HIN := hid hIn; have H7 := hid h7
 obtain ⟨R, hR⟩ : ∃ R, joinE dec (opp dec) (X.map q) = R := ⟨_, rfl⟩
 rw [hR]
 have HR := hid hR
 have HDEC := hid hdec
 have hni : (n : Int) ≤ 140737488351232 := by omega
 clear hp h0 hent hf hn hR hD hI hIn h7 hdec
 go_enter Tryz.func60, Tryz.ntmps60
 go_wp2_with fail
 refine (opposite_any dec w).mono ?_
 rintro e w1 ⟨rfl, rfl⟩
 go_wp2_with fail
 go_loopw [7, 14] (fun rv iv wr => ∃ (i : Nat) (res : Int), rv = .int .i64 res ∧ iv = .int .i64 i ∧ i ≤ n ∧ Hid (joinE dec res ((X.drop i).map q) = R ∧ I wr ∧ Fr D w1 wr)) (fun _ iv _ => n - (intOf iv).toNat)
 case atStart => exact ⟨0, opp dec, rfl, rfl, Nat.zero_le _, hid ⟨HR.out, HI0.out, Fr.refl _ _⟩⟩
 case round =>
  obtain ⟨i, res, rfl, rfl, hi, HI⟩ := hrel
  by_cases hlt : i < n
  ·have hiX : i < X.length := by rw [HNN.out]; exact hlt
   obtain ⟨x, hx⟩ : ∃ x, X[i]? = some x := ⟨_, List.getElem?_eq_getElem hiX⟩
   have HXM := hid (List.mem_of_getElem? hx)
   have HJ : Hid ((if q x = dec then dec else joinE dec (if q x = 2 then 2 else res) ((X.drop (i + 1)).map q)) = R) := hid (by
    have h := HI.out.1
    rw [(drop_at hx).1, List.map_cons] at h
    exact h)
   have hlti : (i : Int) < n := by omega
   have hi0 : (0 : Int) ≤ i := by omega
   obtain ⟨g, o, cp, c, e1, hEg, hgw, hr, hc, hxa⟩ := (HX0.out.fr HI.out.2.2 HD.out (fun x c _ h => HP.out _ _ x c h HI.out.2.2)).get hx
   rw [HNN.out] at e1
   obtain ⟨rfl, rfl⟩ := K.sj e1
   have HXA := hid hxa; have HRR := hid hr
   have H7C := hid (H7.out _ _ _ hxa)
   have HI3 : Hid ((Tryz.prog.info? 39).map (·.size) = some c.length) := hid (by rw [hc]; exact infoFl)
   have HLT := hid hlt
   clear hc hEg hgw hr hxa hx hlt hiX
   go_wp2_with (first
    | ((with_reducible refine K.atO (.load 39 _) ?_); (fail_if_success (have := HB2)); refine wpL_load rfl _ _ rfl g (o + i * 7) rfl c _ HRR.out rfl rfl HI3.out ?_)
    | ((with_reducible refine K.atO (.alloc 39) ?_); refine wpL_alloc rfl _ rfl _ zeroFl' (flV fl0 (.slice none 0 0) (.slice none 0 0)) rfl ?_; intro w2 HB2 HF2 HS2)
    | ((with_reducible refine K.atO (.store 39 _ _) ?_); refine wpL_store rfl _ _ _ rfl wr.heap.size 0 c rfl rfl 39 _ HB2.out (by rw [H7C.out.1]; simp [flV]) HI3.out H7C.out.2 ?_; intro w3 HB3 HF3 HS3; refine Hid.out ?_))
   have HF3' : Hid (Fr No wr w3) := hid (HF2.out.trans HF3.out (fun k e => .inr (by have e : k = wr.heap.size := e; omega)))
   have HB3' : Hid (Blk w3 wr.heap.size 39 c) := hid (by
    have h := HB3.out
    rw [spl_whole (flV fl0 (.slice none 0 0) (.slice none 0 0)) c (by rw [H7C.out.1]; rfl)] at h
    exact h)
   obtain ⟨r, hr⟩ : ∃ r, wr.heap.size = r := ⟨_, rfl⟩
   rw [hr] at HB3' ⊢
   have HXA3 := hid (HP.out _ _ x c HXA.out (HF3'.out.mono (fun _ e => e.elim)))
   have HI3' := hid (HIN.out _ _ HI.out.2.1 HF3'.out)
   have HFD3 : Hid (Fr D w1 w3) := hid (HI.out.2.2.trans' (HF3'.out.mono (fun _ e => e.elim)))
   clear hr HB2 HF2 HS2 HB3 HF3 HS3
   refine hid ?_
   go_wp2_with (first
    | ((with_reducible refine K.atO (.load 39 _) ?_); refine wpL_load rfl _ _ rfl r 0 rfl c _ (HB3'.out.range 0 _ (by simp)) rfl rfl HI3.out ?_)
    | ((with_reducible refine K.atO (.call { callee := .value _, args := _, argTypes := _ }) ?_); refine wpL_callF rfl _ [_] _ rfl f first [] rfl HE.out (first ++ [Value.agg c.toArray]) (by rw [List.append_nil]; rfl) ?_))
   refine (HF.out x HXM.out c w3 HXA3.out HI3'.out HFD3.out).mono ?_
   rintro e w4 ⟨rfl, i4, f4⟩
   refine ⟨_, rfl, ?_⟩
   have HF4 := hid (HFD3.out.trans' f4)
   have HI4 := hid i4
   generalize q x = y at HJ ⊢
   clear f4 i4 HXA HXA3 HRR HB3'
   by_cases hy : y = dec
   ·have HRY : Hid (dec = R) := hid (by have h := HJ.out; rw [if_pos hy] at h; exact h)
    have ey := beqI hy
    clear hy
    go_wp2_with fail
    go_ret
    exact ⟨by rw [← HRY.out]; rfl, HI4.out, HF4.out⟩
   ·have HRY : Hid (joinE dec (if y = 2 then 2 else res) ((X.drop (i + 1)).map q) = R) := hid (by have h := HJ.out; rw [if_neg hy] at h; exact h)
    have ey := beqN hy
    clear hy
    by_cases h2 : y = 2
    ·have HRZ : Hid (joinE dec 2 ((X.drop (i + 1)).map q) = R) := hid (by have h := HRY.out; rw [if_pos h2] at h; exact h)
     have e2 := beqI h2
     clear h2
     go_wp2_with fail
     go_roundw
     case rel => exact ⟨i + 1, 2, rfl, by go_num, HLT.out, hid ⟨HRZ.out, HI4.out, HF4.out⟩⟩
     case measure => have := HLT.out; simp [intOf]; omega
    ·have HRZ : Hid (joinE dec res ((X.drop (i + 1)).map q) = R) := hid (by have h := HRY.out; rw [if_neg h2] at h; exact h)
     have e2 := beqN h2
     clear h2
     go_wp2_with fail
     go_roundw
     case rel => exact ⟨i + 1, res, rfl, by go_num, HLT.out, hid ⟨HRZ.out, HI4.out, HF4.out⟩⟩
     case measure => have := HLT.out; simp [intOf]; omega
  ·obtain rfl : i = n := by omega
   have HDN : Hid (res = R) := hid (by
    have h := HI.out.1
    rw [List.drop_eq_nil_of_le (by rw [HNN.out]; exact Nat.le_refl _)] at h
    exact h)
   go_wp2_with fail
   go_ret
   exact ⟨by rw [← HDN.out]; rfl, HI.out.2.1, HI.out.2.2⟩
theorem denied_any {α : Type} (f : FuncId) (first : List Value) (q : α → Int) (p : World → α → List Value → Prop) (D : Nat → Prop) (I : World → Prop) (E : Nat → Prop) (v0 : Value) (X : List α) (w : World) (hI : I w)
  (h0 : Sl 7 (p w) E w v0 X) (hent : ∀ (vs : Array Value) (w : World), (callFunc f vs).run Tryz.prog w = .ok (.enter f vs) w)
  (hf : ∀ x ∈ X, ∀ c wv, p wv x c → I wv → Fr D w wv → Calls Tryz.prog f (first ++ [Value.agg c.toArray]).toArray wv fun e w' => e = .returned (.int .i64 (q x)) ∧ I w' ∧ Fr D wv w') :
  Calls Tryz.prog 61 #[v0, .func (.func f) first.toArray #[]] w fun e w' => e = .returned (.int .i64 (notE (X.map q))) ∧ I w' ∧ Fr D w w' := by
 obtain ⟨a, c, rfl, -, hl0⟩ := h0.form
 cases X with
 | nil =>
  have HI0 := hid hI
  clear h0 hent hf hI
  go_enter Tryz.func61, Tryz.ntmps61
  go_wp2_with fail
  go_ret
  exact ⟨rfl, HI0.out, Fr.refl _ _⟩
 | cons x r =>
  have hx : (x :: r)[0]? = some x := rfl
  obtain ⟨g, o, cp, c, e1, hEg, hgw, hr, hc, hxa⟩ := h0.get hx
  obtain ⟨rfl, rfl⟩ := K.sj e1
  have HF := hid (hf x List.mem_cons_self c w hxa hI (Fr.refl _ _))
  have HE := hid hent; have HRR : Hid (w.rangeAt g o c) := hid (by rw [Nat.zero_mul, Nat.add_zero] at hr; exact hr)
  have HI3 : Hid ((Tryz.prog.info? 39).map (·.size) = some c.length) := hid (by rw [hc]; exact infoFl)
  obtain ⟨n, hn⟩ : ∃ n, (x :: r).length = n := ⟨_, rfl⟩
  have hn0 : ((n : Int) == 0) = false := by rw [beq_eq_false_iff_ne]; simp at hn; omega
  have hn1 : (0 : Int) < n := by simp at hn; omega
  have hnb : (n : Int) ≤ 140737488351232 := by omega
  rw [hn]
  clear h0 hent hf hI hx hEg hgw hr hc hxa hl0 hn
  go_enter Tryz.func61, Tryz.ntmps61
  go_wp2_with (first
   | ((with_reducible refine K.atO (.load 39 _) ?_); refine wpL_load rfl _ _ rfl g o rfl c _ HRR.out rfl rfl HI3.out ?_)
   | ((with_reducible refine K.atO (.call { callee := .value _, args := _, argTypes := _ }) ?_); refine wpL_callF rfl _ [_] _ rfl f first [] rfl HE.out (first ++ [Value.agg c.toArray]) (by rw [List.append_nil]; rfl) ?_))
  refine HF.out.mono ?_
  rintro e w4 ⟨rfl, i4, f4⟩
  refine ⟨_, rfl, ?_⟩
  have HF4 := hid f4
  have HI4 := hid i4
  clear f4 i4
  go_wp2_with fail
  refine (opposite_any _ w4).mono ?_
  rintro e w5 ⟨rfl, rfl⟩
  go_wp2_with fail
  go_ret
  exact ⟨rfl, HI4.out, HF4.out⟩
end Go.Proofs.YtgbiicipkbpmeaaGreatDoor.FT
namespace Go.Proofs.YtgbiicipkbpmeaaGreatDoor.FT
set_option maxRecDepth 100000
open BE DN SC
def isEsc (c : UInt8) : Bool := c == 40 || c == 41 || c == 42 || c == 92 || c == 0
def escB (c : UInt8) : B := if isEsc c then [92, dgt (c / 16), dgt (c % 16)] else [c]
def escF (v : B) : B := v.flatMap escB
def anyT (l : List B) : B := l.flatMap fun p => escF p ++ [42]
def partsT (f : Fl) : B := escF f.first ++ [42] ++ anyT f.any ++ escF f.last
def prK (kids : List B) (k : UInt8) : B := [40, k] ++ kids.flatten ++ [41]
def prV (t o v : B) : B := [40] ++ t ++ o ++ escF v ++ [41]
def prQ : B := [40, 63, 41]
def prF : Nat → Fl → B
 | 0, _ => prQ
 | d + 1, f =>
  if f.kind = 0 then prK (f.kids.map (prF d)) 38
  else if f.kind = 1 then prK (f.kids.map (prF d)) 124
  else if f.kind = 2 then prK ((f.kids.take 1).map (prF d)) 33
  else if f.kind = 3 then prV f.type [61] f.value
  else if f.kind = 4 then [40] ++ f.type ++ [61] ++ partsT f ++ [41]
  else if f.kind = 5 then prV f.type [62, 61] f.value
  else if f.kind = 6 then prV f.type [60, 61] f.value
  else if f.kind = 7 then [40] ++ f.type ++ [61, 42, 41]
  else prQ
theorem escB_len (c : UInt8) : (escB c).length ≤ 3 := by unfold escB; split <;> simp
theorem escF_len : ∀ v : B, (escF v).length ≤ 3 * v.length
 | [] => by simp [escF]
 | c :: r => by
  have ih := escF_len r
  have := escB_len c
  have e : escF (c :: r) = escB c ++ escF r := rfl
  rw [e, List.length_append, List.length_cons]
  omega
theorem escF_snoc (v : B) (c : UInt8) : escF (v ++ [c]) = escF v ++ escB c := by simp [escF]
theorem escF_take (v : B) (i : Nat) : (escF (v.take i)).length ≤ 3 * v.length := by
 have := escF_len (v.take i)
 rw [List.length_take] at this
 omega
theorem anyT_snoc (l : List B) (p : B) : anyT (l ++ [p]) = anyT l ++ (escF p ++ [42]) := by simp [anyT]
theorem anyT_take (l : List B) (i : Nat) : (anyT (l.take i)).length ≤ (anyT l).length := by
 have : anyT l = anyT (l.take i) ++ anyT (l.drop i) := by
  unfold anyT
  rw [← List.flatMap_append, List.take_append_drop]
 rw [this, List.length_append]
 omega
theorem flat_take (l : List B) (i : Nat) : (l.take i).flatten.length ≤ l.flatten.length := by
 have : l.flatten = (l.take i).flatten ++ (l.drop i).flatten := by rw [← List.flatten_append, List.take_append_drop]
 rw [this, List.length_append]
 omega
theorem flat_mem (l : List B) (i : Nat) (x : B) (h : l[i]? = some x) : (l.take i).flatten.length + x.length ≤ l.flatten.length := by
 have := flat_take l (i + 1)
 rw [List.take_add_one, h] at this
 simpa using this
theorem any_mem (l : List B) (i : Nat) (x : B) (h : l[i]? = some x) : (anyT (l.take i)).length + (escF x ++ [42]).length ≤ (anyT l).length := by
 have := anyT_take l (i + 1)
 rw [List.take_add_one, h, Option.toList_some, anyT_snoc, List.length_append] at this
 exact this
end Go.Proofs.YtgbiicipkbpmeaaGreatDoor.FT
namespace Go.Proofs.YtgbiicipkbpmeaaGreatDoor.DN
set_option maxRecDepth 100000
set_option maxHeartbeats 128000000
open Go.RowKit K BE
theorem let_n (c : UInt8) : isLet c = decide ((97 ≤ c.toNat ∧ c.toNat ≤ 122) ∨ (65 ≤ c.toNat ∧ c.toNat ≤ 90)) := by
 have := u8_all (fun c => isLet c == decide ((97 ≤ c.toNat ∧ c.toNat ≤ 122) ∨ (65 ≤ c.toNat ∧ c.toNat ≤ 90))) (by decide +kernel) c
 simpa using this
theorem dig_n (c : UInt8) : isDig c = decide (48 ≤ c.toNat ∧ c.toNat ≤ 57) := by
 have := u8_all (fun c => isDig c == decide (48 ≤ c.toNat ∧ c.toNat ≤ 57)) (by decide +kernel) c
 simpa using this
theorem sign_n (c : UInt8) : sign c = decide (c.toNat = 34 ∨ c.toNat = 43 ∨ c.toNat = 44 ∨ c.toNat = 59 ∨ c.toNat = 60 ∨ c.toNat = 62 ∨ c.toNat = 92) := by
 have := u8_all (fun c => sign c == decide (c.toNat = 34 ∨ c.toNat = 43 ∨ c.toNat = 44 ∨ c.toNat = 59 ∨ c.toNat = 60 ∨ c.toNat = 62 ∨ c.toNat = 92)) (by decide +kernel) c
 simpa using this
def hexN (c : UInt8) : Nat := match hexv c with
 | some x => x.toNat
 | none => 16
theorem hex_n (c : UInt8) : hexN c = if 48 ≤ c.toNat ∧ c.toNat ≤ 57 then c.toNat - 48 else if 97 ≤ c.toNat ∧ c.toNat ≤ 102 then c.toNat - 87 else if 65 ≤ c.toNat ∧ c.toNat ≤ 70 then c.toNat - 55 else 16 := by
 have := u8_all (fun c => hexN c == if 48 ≤ c.toNat ∧ c.toNat ≤ 57 then c.toNat - 48 else if 97 ≤ c.toNat ∧ c.toNat ≤ 102 then c.toNat - 87 else if 65 ≤ c.toNat ∧ c.toNat ≤ 70 then c.toNat - 55 else 16) (by decide +kernel) c
 simpa using this
theorem letter_any (c : UInt8) (w : World) : Calls Tryz.prog 211 #[.int .u8 (c.toNat : Int)] w fun e w' => e = .returned (.bool (isLet c)) ∧ w' = w := by
 rw [let_n]
 generalize c.toNat = n
 have hc : n < 65 ∨ (65 ≤ n ∧ n ≤ 90) ∨ (90 < n ∧ n < 97) ∨ (97 ≤ n ∧ n ≤ 122) ∨ 122 < n := by omega
 rcases hc with h | h | h | h | h
 ·have h1 : ¬ (97 : Int) ≤ n := by omega
  have h2 : ¬ (65 : Int) ≤ n := by omega
  rw [decide_eq_false (by omega)]
  clear h
  go_enter Tryz.func211, Tryz.ntmps211
  go_wp2
  go_ret
  exact ⟨rfl, rfl⟩
 ·have h1 : ¬ (97 : Int) ≤ n := by omega
  have h2 : (65 : Int) ≤ n := by omega
  have h3 : (n : Int) ≤ 90 := by omega
  rw [decide_eq_true (by omega)]
  clear h
  go_enter Tryz.func211, Tryz.ntmps211
  go_wp2
  go_ret
  exact ⟨rfl, rfl⟩
 ·have h1 : ¬ (97 : Int) ≤ n := by omega
  have h2 : (65 : Int) ≤ n := by omega
  have h3 : ¬ (n : Int) ≤ 90 := by omega
  rw [decide_eq_false (by omega)]
  clear h
  go_enter Tryz.func211, Tryz.ntmps211
  go_wp2
  go_ret
  exact ⟨rfl, rfl⟩
 ·have h1 : (97 : Int) ≤ n := by omega
  have h2 : (n : Int) ≤ 122 := by omega
  rw [decide_eq_true (by omega)]
  clear h
  go_enter Tryz.func211, Tryz.ntmps211
  go_wp2
  go_ret
  exact ⟨rfl, rfl⟩
 ·have h1 : (97 : Int) ≤ n := by omega
  have h2 : ¬ (n : Int) ≤ 122 := by omega
  have h3 : (65 : Int) ≤ n := by omega
  have h4 : ¬ (n : Int) ≤ 90 := by omega
  rw [decide_eq_false (by omega)]
  clear h
  go_enter Tryz.func211, Tryz.ntmps211
  go_wp2
  go_ret
  exact ⟨rfl, rfl⟩
theorem digit_any (c : UInt8) (w : World) : Calls Tryz.prog 212 #[.int .u8 (c.toNat : Int)] w fun e w' => e = .returned (.bool (isDig c)) ∧ w' = w := by
 rw [dig_n]
 generalize c.toNat = n
 by_cases h1 : 48 ≤ n
 ·have h1i : (48 : Int) ≤ n := by omega
  by_cases h2 : n ≤ 57
  ·have h2i : (n : Int) ≤ 57 := by omega
   rw [decide_eq_true (by omega)]
   clear h1 h2
   go_enter Tryz.func212, Tryz.ntmps212
   go_wp2
   go_ret
   exact ⟨rfl, rfl⟩
  ·have h2i : ¬ (n : Int) ≤ 57 := by omega
   rw [decide_eq_false (by omega)]
   clear h1 h2
   go_enter Tryz.func212, Tryz.ntmps212
   go_wp2
   go_ret
   exact ⟨rfl, rfl⟩
 ·have h1i : ¬ (48 : Int) ≤ n := by omega
  rw [decide_eq_false (by omega)]
  clear h1
  go_enter Tryz.func212, Tryz.ntmps212
  go_wp2
  go_ret
  exact ⟨rfl, rfl⟩
theorem signs_any (c : UInt8) (w : World) : Calls Tryz.prog 173 #[.int .u8 (c.toNat : Int)] w fun e w' => e = .returned (.bool (sign c)) ∧ w' = w := by
 rw [sign_n]
 generalize c.toNat = n
 obtain ⟨R, hR⟩ : ∃ R, decide (n = 34 ∨ n = 43 ∨ n = 44 ∨ n = 59 ∨ n = 60 ∨ n = 62 ∨ n = 92) = R := ⟨_, rfl⟩
 rw [hR]
 have HR := hid hR
 clear hR
 go_enter Tryz.func173, Tryz.ntmps173
 go_wp2
 all_goals go_ret
 all_goals refine ⟨?_, rfl⟩
 all_goals have h := HR.out
 all_goals first
  | (rw [decide_eq_true (by omega)] at h; subst h; rfl)
  | (subst h; refine congrArg (fun b => Ending.returned (Value.bool b)) ?_; rw [Bool.eq_iff_iff]; simp; omega)
theorem hex_any (c : UInt8) (w : World) : Calls Tryz.prog 174 #[.int .u8 (c.toNat : Int)] w fun e w' => e = .returned (.int .i64 (hexN c : Int)) ∧ w' = w := by
 obtain ⟨H, hH⟩ : ∃ H, hexN c = H := ⟨_, rfl⟩
 have h0 := hex_n c
 have hc := c.toNat_lt
 rw [hH] at h0 ⊢
 generalize c.toNat = n at h0 hc
 have hn0 : (0 : Int) ≤ n := by omega
 have hn1 : (n : Int) < 256 := by omega
 have HH := hid h0
 clear h0 hH hc
 go_enter Tryz.func174, Tryz.ntmps174
 go_wp2
 all_goals go_ret
 all_goals refine ⟨congrArg (fun x : Int => Ending.returned (Value.int .i64 x)) ?_, rfl⟩
 all_goals have h := HH.out
 all_goals (repeat' split at h) <;> omega
theorem hexv_lt16 {c x : UInt8} (h : hexv c = some x) : x.toNat < 16 := by
 have := u8_all (fun c => match hexv c with | some x => decide (x.toNat < 16) | none => true) (by decide +kernel) c
 rw [h] at this
 simpa using this
theorem hex_join {x y : UInt8} (hx : x.toNat < 16) (hy : y.toNat < 16) : (16 * x + y).toNat = 16 * x.toNat + y.toNat := by
 rw [UInt8.toNat_add, UInt8.toNat_mul]
 have : (16 : UInt8).toNat = 16 := rfl
 rw [this]
 omega
theorem one_bare (den : B) (r : B) {c : UInt8} (h92 : c ≠ 92) (h44 : c ≠ 44) (h43 : c ≠ 43) : one den c r = if c = 0 ∨ sign c = true ∨ (den = [] ∧ (c = 35 ∨ c = 32)) then none else some (c, c == 32, r) := by
 unfold one sign
 rw [if_neg h92]
 by_cases k0 : c = 0 <;> by_cases k1 : c = 34 <;> by_cases k2 : c = 59 <;> by_cases k3 : c = 60 <;> by_cases k4 : c = 62 <;> by_cases k5 : c = 35 <;> by_cases k6 : c = 32 <;> by_cases k7 : den = [] <;> simp_all
theorem esc_ok {d : UInt8} {r : B} (h : (sign d || d == 35 || d == 61 || d == 32) = true) : esc (d :: r) = some (d, r) := by
 unfold esc
 simp only [h, if_true]
theorem esc_no {d : UInt8} {r : B} (h : ¬ (sign d || d == 35 || d == 61 || d == 32) = true) : esc (d :: r) = match r with
  | [] => none
  | d2 :: r' => match hexv d, hexv d2 with
   | some x, some y => some (16 * x + y, r')
   | _, _ => none := by
 unfold esc
 simp only [h, Bool.false_eq_true, if_false]
 cases r <;> rfl
theorem exec_idxB {op : Oper} {a : Act} (x y : Operand) (ho : op.op = .index 9 x y) (l : B) {S : ByteArray} (hS : sb l = S) (i : Nat) (b : UInt8) (hi : l[i]? = some b) (n : Int) (hn : n = (i : Int)) (hx : a.eval x = .string S) (hy : a.eval y = .int .i64 n) (w : World) : (execOp a.eval op).run Tryz.prog w = .ok (.value (.int .u8 (b.toNat : Int))) w := by
 subst hS
 exact exec_idx x y ho l i b hi n hn hx hy w
theorem ok_n (c : UInt8) (f : Bool) : okAt f c = (isLet c || (!f && (isDig c || decide (c.toNat = 45)))) := by
 have h : (c == 45) = decide (c.toNat = 45) := by
  have := u8_all (fun c => (c == 45) == decide (c.toNat = 45)) (by decide +kernel) c
  simpa using this
 unfold okAt
 rw [h]
theorem typ_at {s : B} : typ s = true ↔ 1 ≤ s.length ∧ s.length ≤ 20 ∧ ∀ j c, s[j]? = some c → okAt (j == 0) c = true := by
 unfold typ
 cases s with
 | nil => simp
 | cons d r =>
  simp only [Bool.and_eq_true, decide_eq_true_eq, List.all_eq_true]
  constructor
  ·rintro ⟨⟨h1, h2⟩, h3, h4⟩
   refine ⟨h1, h2, fun j c hj => ?_⟩
   cases j with
   | zero =>
    obtain rfl : d = c := by simpa using hj
    exact h3
   | succ j =>
    have hj : r[j]? = some c := by simpa using hj
    exact h4 c (List.mem_of_getElem? hj)
  ·rintro ⟨h1, h2, h3⟩
   refine ⟨⟨h1, h2⟩, h3 0 d rfl, fun c hc => ?_⟩
   obtain ⟨j, hj, rfl⟩ := List.mem_iff_getElem.1 hc
   exact h3 (j + 1) r[j] (by simp [hj])
theorem rType_any (s : B) (hs : Sz s) (w : World) : Calls Tryz.prog 175 #[.string (sb s)] w fun e w' => e = .returned (.bool (typ s)) ∧ w' = w := by
 obtain ⟨S, hS⟩ : ∃ S, sb s = S := ⟨_, rfl⟩
 obtain ⟨n, hn⟩ : ∃ n, s.length = n := ⟨_, rfl⟩
 obtain ⟨R, hR⟩ : ∃ R, typ s = R := ⟨_, rfl⟩
 have hsz : (S.size : Int) = n := by rw [← hS, sb_size, hn]
 have hni : (n : Int) ≤ 140737488351232 := by have := hs; unfold Sz at this; omega
 have HS := hid hS; have HN := hid hn; have HR := hid hR
 rw [hS, hR]
 clear hS hn hR hs
 go_enter Tryz.func175, Tryz.ntmps175
 go_wp2_with fail
 go_loopw [3] (fun iv wr => ∃ (i : Nat), iv = .int .i64 i ∧ i ≤ n ∧ wr = w ∧ Hid (∀ j c, j < i → s[j]? = some c → okAt (j == 0) c = true)) (fun iv _ => n - (intOf iv).toNat)
 case atStart => exact ⟨0, rfl, Nat.zero_le _, rfl, hid fun j c hj _ => by omega⟩
 case round =>
  obtain ⟨i, rfl, hi, rfl, HA⟩ := hrel
  by_cases hlt : i < n
  ·obtain ⟨c, hc⟩ : ∃ c, s[i]? = some c := ⟨_, List.getElem?_eq_getElem (by rw [HN.out]; exact hlt)⟩
   have hlti : (i : Int) < n := by omega
   have hi0 : (0 : Int) ≤ i := by omega
   have HC := hid hc
   have HLT := hid hlt
   have HOK := hid (ok_n c (i == 0))
   have HBAD : Hid (okAt (i == 0) c = false → R = false) := hid (fun h => by
    rw [← HR.out]
    cases ht : typ s with
    | false => rfl
    | true => rw [(typ_at.1 ht).2.2 i c HC.out] at h; cases h)
   have HGOOD : Hid (okAt (i == 0) c = true → ∀ j c, j < i + 1 → s[j]? = some c → okAt (j == 0) c = true) := hid (fun h j d hj hd => by
    by_cases hji : j = i
    ·subst hji
     rw [HC.out] at hd
     obtain rfl := Option.some.inj hd
     exact h
    ·exact HA.out j d (by omega) hd)
   obtain ⟨L, hL⟩ : ∃ L, isLet c = L := ⟨_, rfl⟩
   obtain ⟨D, hD⟩ : ∃ D, isDig c = D := ⟨_, rfl⟩
   have HLA := hid (letter_any c); have HDA := hid (digit_any c)
   rw [hL] at HLA HOK
   rw [hD] at HDA HOK
   obtain ⟨cn, hcn⟩ : ∃ cn, c.toNat = cn := ⟨_, rfl⟩
   have HCN := hid hcn
   rw [hcn] at HOK
   clear hlt hc hL hD hcn
   go_wp2_with (first
    | ((with_reducible refine K.atO (.index 9 _ _) ?_); refine wpL_valZ (by rfl) (.int .u8 (c.toNat : Int)) (exec_idxB _ _ rfl s HS.out i c HC.out _ rfl rfl rfl _) ?_))
   refine (HLA.out _).mono ?_
   rintro e w1 ⟨rfl, rfl⟩
   go_wp2_with (first
    | ((with_reducible refine K.atO (.index 9 _ _) ?_); refine wpL_valZ (by rfl) (.int .u8 (c.toNat : Int)) (exec_idxB _ _ rfl s HS.out i c HC.out _ rfl rfl rfl _) ?_))
   refine (HDA.out _).mono ?_
   rintro e w1 ⟨rfl, rfl⟩
   have hidx : ∀ w, (Instr.index 9 (.string S) (.int .i64 (i : Int))).run Tryz.prog w = .ok (.int .u8 (cn : Int)) w := fun w => by rw [← HS.out, ← HCN.out]; exact index_str s i c HC.out w
   have hcase : (i = 0 ∨ i ≠ 0) ∧ (cn = 45 ∨ cn ≠ 45) := ⟨by omega, by omega⟩
   cases L with
   | true =>
    go_wp2_with fail
    refine ⟨⟨i + 1, by go_num, HLT.out, trivial, hid (HGOOD.out (by rw [HOK.out]; rfl))⟩, ?_⟩
    have := HLT.out
    simp [intOf]; omega
   | false =>
    by_cases hi00 : i = 0
    ·subst hi00
     obtain rfl := HBAD.out (by rw [HOK.out]; rfl)
     go_wp2_with fail
     go_ret
     exact ⟨rfl, rfl⟩
    ·have hi1 : ¬ (i : Int) = 0 := by omega
     have hb : (i == 0) = false := by simp [hi00]
     cases D with
     | true =>
      go_wp2_with fail
      refine ⟨⟨i + 1, by go_num, HLT.out, trivial, hid (HGOOD.out (by rw [HOK.out, hb]; rfl))⟩, ?_⟩
      have := HLT.out
      simp [intOf]; omega
     | false =>
      by_cases h45 : cn = 45
      ·subst h45
       go_wp2_with fail
       refine ⟨⟨i + 1, by go_num, HLT.out, trivial, hid (HGOOD.out (by rw [HOK.out, hb]; rfl))⟩, ?_⟩
       have := HLT.out
       simp [intOf]; omega
      ·have h45i : ((cn : Int) != 45) = true := by simp; omega
       obtain rfl := HBAD.out (by rw [HOK.out, hb, decide_eq_false h45]; rfl)
       go_wp2_with fail
       go_ret
       exact ⟨rfl, rfl⟩
  ·obtain rfl : i = n := by omega
   have hR : R = (decide (1 ≤ i) && decide (i ≤ 20)) := by
    rw [← HR.out, Bool.eq_iff_iff, typ_at, HN.out]
    simp only [Bool.and_eq_true, decide_eq_true_eq]
    constructor
    ·rintro ⟨h1, h2, -⟩; exact ⟨h1, h2⟩
    ·rintro ⟨h1, h2⟩
     exact ⟨h1, h2, fun j c hj => HA.out j c (by have := (List.getElem?_eq_some_iff.1 hj).1; rw [HN.out] at this; exact this) hj⟩
   by_cases h1 : 1 ≤ i
   ·have h1i : (1 : Int) ≤ i := by omega
    by_cases h2 : i ≤ 20
    ·have h2i : (i : Int) ≤ 20 := by omega
     rw [decide_eq_true h1, decide_eq_true h2] at hR
     subst hR
     clear hlt
     go_wp2_with fail
     go_ret
     exact ⟨rfl, rfl⟩
    ·have h2i : ¬ (i : Int) ≤ 20 := by omega
     rw [decide_eq_true h1, decide_eq_false h2] at hR
     subst hR
     clear hlt
     go_wp2_with fail
     go_ret
     exact ⟨rfl, rfl⟩
   ·have h1i : ¬ (1 : Int) ≤ i := by omega
    rw [decide_eq_false h1] at hR
    subst hR
    clear hlt
    go_wp2_with fail
    go_ret
    exact ⟨rfl, rfl⟩
end Go.Proofs.YtgbiicipkbpmeaaGreatDoor.DN
