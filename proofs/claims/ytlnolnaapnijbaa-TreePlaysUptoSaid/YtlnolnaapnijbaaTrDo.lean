/-
  An act by the tree and by the document's: both at once, as data.
-/
import Derived.Test.YtlnolnaapnijbaaTrSm
import Derived.Test.YtlnolnaapnijbaaTrRd
import Derived.Test.YtlnolnaapnijbaaTrRow
namespace Go.Proofs.Ytlnolnaapnijbaa.TR
set_option maxRecDepth 100000
open Go.RowKit K

structure Ac where
  how : Int
  key : S
  value : S
  most : Int
def Ac.cells (x : Ac) : List Value := [.int .i64 x.how, .string x.key, .string x.value, .int .i64 x.most]
def Ac.agg (x : Ac) : Value := .agg #[.int .i64 x.how, .string x.key, .string x.value, .int .i64 x.most]
def stp (x : Ac) (l : L) : L := if x.how = 1 then put x.key x.value l else if x.how = 2 then del x.key l else l
theorem stp_sorted (x : Ac) {l : L} (h : Sorted l) : Sorted (stp x l) := by
  unfold stp
  split
  · exact put_sorted _ _ h
  · split
    · exact del_sorted _ h
    · exact h
theorem stp_length (x : Ac) (l : L) : (stp x l).length ≤ l.length + 1 := by
  unfold stp
  split
  · have := put_length x.key x.value l; split at this <;> omega
  · split
    · have := del_length x.key l; split at this <;> omega
    · omega
/-- The tree and the document's, apart. -/
structure Two (W w : World) (b : Nat) (T : TD) (lt : L) (br : Nat) (v : Value) (lr : L) : Prop where
  t : Lv W w b T lt
  r : Rt W w br v lr
  a1 : ¬ T.fp br
  a2 : ∀ g, v.ownBlock = some g → ¬ T.fp g
section
variable {W w w' : World} {b br : Nat} {T T' : TD} {lt lt' lr lr' : L} {v v' : Value}
theorem Two.no (h : Two W w b T lt br v lr) (hf : Fr No w w') : Two W w' b T lt br v lr := ⟨h.t.no hf, h.r.no hf, h.a1, h.a2⟩
theorem Two.ofT (h : Two W w b T lt br v lr) (t' : Lv W w' b T' lt') (f : Fr T.fp w w') (g : ∀ k, T'.fp k → T.fp k ∨ w.heap.size ≤ k) : Two W w' b T' lt' br v lr :=
  ⟨t', ⟨h.r.blk.fr f h.a1, own_fr h.r.row f (fun k hk => h.a2 k hk), h.r.off, h.r.ge, t'.fr⟩, fun e => (g _ e).elim h.a1 (fun e => by have : br < w.heap.size := h.r.blk.lt; omega),
    fun k hk e => (g _ e).elim (h.a2 k hk) (fun e => by have := (h.r.row.lt k hk).2; omega)⟩
theorem Two.ofR (h : Two W w b T lt br v lr) (r' : Rt W w' br v' lr') (f : Fr (fun k => k = br ∨ v.ownBlock = some k) w w') (g : ∀ k, v'.ownBlock = some k → v.ownBlock = some k ∨ w.heap.size ≤ k) : Two W w' b T lt br v' lr' :=
  ⟨⟨h.t.b, h.t.at_.fr f (fun k hk e => e.elim (fun e => h.a1 (by rw [← e]; exact hk)) (fun e => h.a2 k e hk)), r'.fr, h.t.ge⟩, r', h.a1, fun k hk e => (g k hk).elim (fun e2 => h.a2 k e2 e) (fun e2 => by have := h.t.at_.lt k e; omega)⟩
end
theorem scan_le (fr to : S) (most : Int) (l : L) : (scanS fr to most l).length ≤ l.length := by
  unfold scanS
  split
  · simp
  · have h1 := runS_length to most (ge fr l) []
    have h2 := ge_le fr l
    simp only [List.length_nil] at h1
    omega
/-- What both turn into. -/
def DPost (W w : World) (b : Nat) (T : TD) (br : Nat) (v : Value) (lt' lr' : L) (Q : Bool → Prop) (e : Ending) (w' : World) : Prop :=
  ∃ q T' v', e = .returned (.bool q) ∧ Q q ∧ Two W w' b T' lt' br v' lr' ∧ Fr (fun k => T.fp k ∨ k = br ∨ v.ownBlock = some k) w w' ∧ (∀ k, T'.fp k → T.fp k ∨ w.heap.size ≤ k) ∧ ∀ k, v'.ownBlock = some k → v.ownBlock = some k ∨ w.heap.size ≤ k
set_option maxHeartbeats 16000000 in
theorem does_any (W w : World) (b br : Nat) (T : TD) (v : Value) (lt lr : L) (x : Ac) (h : Two W w b T lt br v lr) (hs : Sorted lr) (hn : lt.length ≤ 4398046511103) (hm : lr.length ≤ 4398046511103) :
    Calls Try.prog 17 #[pt b, pt br, x.agg] w (DPost W w b T br v (stp x lt) (stp x lr) (fun q => lt = lr → q = true)) := by
  have H := hid h; have HS := hid hs; have HN := hid hn; have HM := hid hm
  obtain ⟨how, key, value, most⟩ := x
  show Calls _ _ #[pt b, pt br, .agg #[.int .i64 how, .string key, .string value, .int .i64 most]] _ _
  clear h hs hn hm
  by_cases h1 : how = 1
  · subst h1
    go_enter Try.func17, Try.ntmps17
    go_wp2_with ((with_reducible show wpList _ _ _ ({ dst := _, op := .box 53 _, type := _, pos := _, after := _, guard := _ } :: _) _ _); refine wpL_box rfl _ _ rfl _ rfl [.int .i64 1, .string key, .string value, .int .i64 most] rfl ?_; intro w1 HB1 F1 HS1; have H1 := hid (H.out.no F1.out); have x0 : w1.cell? ⟨w.heap.size, 0, none⟩ = some (.int .i64 1) := HB1.out.cell 0; have x1 : w1.cell? ⟨w.heap.size, 1, none⟩ = some (.string key) := HB1.out.cell 1; have x2 : w1.cell? ⟨w.heap.size, 2, none⟩ = some (.string value) := HB1.out.cell 2; have x3 : w1.cell? ⟨w.heap.size, 3, none⟩ = some (.int .i64 most) := HB1.out.cell 3)
    refine (H1.out.t.putTo HN.out _ _).mono ?_
    rintro e w2 ⟨rfl, T2, t2, f2, g2⟩
    have H2 := hid (H1.out.ofT t2 f2 g2); have F2 := hid f2; have G2 := hid g2
    clear t2 f2 g2
    have y1 : w2.cell? ⟨w.heap.size, 1, none⟩ = some (.string key) := F2.out.cell x1 (fun e => absurd (H.out.t.at_.lt _ e) (Nat.lt_irrefl _))
    have y2 : w2.cell? ⟨w.heap.size, 2, none⟩ = some (.string value) := F2.out.cell x2 (fun e => absurd (H.out.t.at_.lt _ e) (Nat.lt_irrefl _))
    clear x0 x1 x2 x3
    obtain ⟨p, hp⟩ : ∃ p, has key lt = p := ⟨_, rfl⟩
    rw [hp]
    have HP := hid hp
    clear hp
    go_wp2_with fail
    refine (rput_any W w2 br v lr _ _ H2.out.r HS.out (by have := HM.out; omega)).mono ?_
    rintro e w3 ⟨rfl, v3, r3, f3, g3⟩
    have H3 := hid (H2.out.ofR r3 f3 g3); have F3 := hid f3; have G3 := hid g3
    clear r3 f3 g3
    obtain ⟨q, hq⟩ : ∃ q, has key lr = q := ⟨_, rfl⟩
    rw [hq]
    have HQ := hid hq
    clear hq y1 y2
    go_wp2_with fail
    go_ret
    refine ⟨p == q, T2, v3, rfl, fun e => by rw [← HP.out, ← HQ.out, e]; simp, H3.out, ?_, ?_, ?_⟩
    · exact (F1.out.no.trans' (F2.out.mono (fun k e => .inl e))).trans' (F3.out.mono (fun k e => .inr e))
    · exact fun k e => (G2.out k e).imp id (fun e => Nat.le_trans F1.out.size e)
    · exact fun k e => (G3.out k e).imp id (fun e => Nat.le_trans (Nat.le_trans F1.out.size F2.out.size) e)
  by_cases h2 : how = 2
  · subst h2
    clear h1
    go_enter Try.func17, Try.ntmps17
    go_wp2_with ((with_reducible show wpList _ _ _ ({ dst := _, op := .box 53 _, type := _, pos := _, after := _, guard := _ } :: _) _ _); refine wpL_box rfl _ _ rfl _ rfl [.int .i64 2, .string key, .string value, .int .i64 most] rfl ?_; intro w1 HB1 F1 HS1; have H1 := hid (H.out.no F1.out); have x0 : w1.cell? ⟨w.heap.size, 0, none⟩ = some (.int .i64 2) := HB1.out.cell 0; have x1 : w1.cell? ⟨w.heap.size, 1, none⟩ = some (.string key) := HB1.out.cell 1; have x2 : w1.cell? ⟨w.heap.size, 2, none⟩ = some (.string value) := HB1.out.cell 2; have x3 : w1.cell? ⟨w.heap.size, 3, none⟩ = some (.int .i64 most) := HB1.out.cell 3)
    refine (H1.out.t.del (by have := HN.out; omega) _).mono ?_
    rintro e w2 ⟨rfl, T2, t2, f2, g2⟩
    have H2 := hid (H1.out.ofT t2 f2 g2); have F2 := hid f2; have G2 := hid g2
    clear t2 f2 g2
    have y1 : w2.cell? ⟨w.heap.size, 1, none⟩ = some (.string key) := F2.out.cell x1 (fun e => absurd (H.out.t.at_.lt _ e) (Nat.lt_irrefl _))
    clear x0 x1 x2 x3
    obtain ⟨p, hp⟩ : ∃ p, has key lt = p := ⟨_, rfl⟩
    rw [hp]
    have HP := hid hp
    clear hp
    go_wp2_with fail
    refine (rdel_any W w2 br v lr _ H2.out.r HS.out (by have := HM.out; omega)).mono ?_
    rintro e w3 ⟨rfl, v3, r3, f3, g3⟩
    have H3 := hid (H2.out.ofR r3 f3 g3); have F3 := hid f3; have G3 := hid g3
    clear r3 f3 g3
    obtain ⟨q, hq⟩ : ∃ q, has key lr = q := ⟨_, rfl⟩
    rw [hq]
    have HQ := hid hq
    clear hq y1
    go_wp2_with fail
    go_ret
    refine ⟨p == q, T2, v3, rfl, fun e => by rw [← HP.out, ← HQ.out, e]; simp, H3.out, ?_, ?_, ?_⟩
    · exact (F1.out.no.trans' (F2.out.mono (fun k e => .inl e))).trans' (F3.out.mono (fun k e => .inr e))
    · exact fun k e => (G2.out k e).imp id (fun e => Nat.le_trans F1.out.size e)
    · exact fun k e => (G3.out k e).imp id (fun e => Nat.le_trans (Nat.le_trans F1.out.size F2.out.size) e)
  by_cases h3 : how = 3
  · subst h3
    clear h1 h2
    go_enter Try.func17, Try.ntmps17
    go_wp2_with ((with_reducible show wpList _ _ _ ({ dst := _, op := .box 53 _, type := _, pos := _, after := _, guard := _ } :: _) _ _); refine wpL_box rfl _ _ rfl _ rfl [.int .i64 3, .string key, .string value, .int .i64 most] rfl ?_; intro w1 HB1 F1 HS1; have H1 := hid (H.out.no F1.out); have x0 : w1.cell? ⟨w.heap.size, 0, none⟩ = some (.int .i64 3) := HB1.out.cell 0; have x1 : w1.cell? ⟨w.heap.size, 1, none⟩ = some (.string key) := HB1.out.cell 1; have x2 : w1.cell? ⟨w.heap.size, 2, none⟩ = some (.string value) := HB1.out.cell 2; have x3 : w1.cell? ⟨w.heap.size, 3, none⟩ = some (.int .i64 most) := HB1.out.cell 3)
    refine (H1.out.t.get (by have := HN.out; omega) _).mono ?_
    rintro e w2 ⟨rfl, -, f2⟩
    have H2 := hid (H1.out.no f2); have F2 := hid f2
    have y1 : w2.cell? ⟨w.heap.size, 1, none⟩ = some (.string key) := f2.cell x1 id
    clear f2 x0 x1 x2 x3
    obtain ⟨o1, ho1⟩ : ∃ o, get key lt = o := ⟨_, rfl⟩
    rw [ho1]
    have HO1 := hid ho1
    clear ho1
    unfold getV
    obtain ⟨s1, hs1⟩ : ∃ s, o1.getD ⟨#[]⟩ = s := ⟨_, rfl⟩
    obtain ⟨p1, hp1⟩ : ∃ s, o1.isSome = s := ⟨_, rfl⟩
    rw [hs1, hp1]
    have HS1' := hid hs1; have HP1 := hid hp1
    clear hs1 hp1
    go_wp2_with fail
    refine (rget_any W w2 br v lr _ H2.out.r HS.out (by have := HM.out; omega)).mono ?_
    rintro e w3 ⟨rfl, f3⟩
    have H3 := hid (H2.out.no f3); have F3 := hid f3
    clear f3 y1
    obtain ⟨o2, ho2⟩ : ∃ o, get key lr = o := ⟨_, rfl⟩
    rw [ho2]
    have HO2 := hid ho2
    clear ho2
    unfold getV
    obtain ⟨s2, hs2⟩ : ∃ s, o2.getD ⟨#[]⟩ = s := ⟨_, rfl⟩
    obtain ⟨p2, hp2⟩ : ∃ s, o2.isSome = s := ⟨_, rfl⟩
    rw [hs2, hp2]
    have HS2' := hid hs2; have HP2 := hid hp2
    clear hs2 hp2
    have hst : ∀ l, stp ⟨3, key, value, most⟩ l = l := fun l => rfl
    have HST := hid hst
    clear hst
    have HALL : Hid (lt = lr → s1 = s2 ∧ p1 = p2) := hid (fun e => by rw [← HS1'.out, ← HS2'.out, ← HP1.out, ← HP2.out, ← HO1.out, ← HO2.out, e]; exact ⟨rfl, rfl⟩)
    by_cases hss : s1 = s2
    · have hse : s1.toList = s2.toList := by rw [hss]
      have HSS := hid hss
      clear hss
      go_wp2_with fail
      go_ret
      exact ⟨p1 == p2, T, v, rfl, fun e => by rw [(HALL.out e).2]; simp, by rw [HST.out, HST.out]; exact H3.out, ((F1.out.trans' F2.out).trans' F3.out).no, fun k e => .inl e, fun k e => .inl e⟩
    · have hse : ¬ (s1.toList = s2.toList) := fun e => hss (toList_inj e)
      have HSS := hid hss
      clear hss
      go_wp2_with fail
      go_ret
      exact ⟨false, T, v, rfl, fun e => absurd (HALL.out e).1 HSS.out, by rw [HST.out, HST.out]; exact H3.out, ((F1.out.trans' F2.out).trans' F3.out).no, fun k e => .inl e, fun k e => .inl e⟩
  by_cases h4 : how = 4
  · subst h4
    clear h1 h2 h3
    go_enter Try.func17, Try.ntmps17
    go_wp2_with ((with_reducible show wpList _ _ _ ({ dst := _, op := .box 53 _, type := _, pos := _, after := _, guard := _ } :: _) _ _); refine wpL_box rfl _ _ rfl _ rfl [.int .i64 4, .string key, .string value, .int .i64 most] rfl ?_; intro w1 HB1 F1 HS1; have H1 := hid (H.out.no F1.out); have x0 : w1.cell? ⟨w.heap.size, 0, none⟩ = some (.int .i64 4) := HB1.out.cell 0; have x1 : w1.cell? ⟨w.heap.size, 1, none⟩ = some (.string key) := HB1.out.cell 1; have x2 : w1.cell? ⟨w.heap.size, 2, none⟩ = some (.string value) := HB1.out.cell 2; have x3 : w1.cell? ⟨w.heap.size, 3, none⟩ = some (.int .i64 most) := HB1.out.cell 3)
    refine (H1.out.t.scan (by have := HN.out; omega) _ _ _).mono ?_
    rintro e w2 ⟨pv, rfl, p2, -, f2⟩
    have H2 := hid (H1.out.no f2); have F2 := hid f2
    have HP2 := hid p2.pr
    have y1 : w2.cell? ⟨w.heap.size, 1, none⟩ = some (.string key) := f2.cell x1 id
    have y2 : w2.cell? ⟨w.heap.size, 2, none⟩ = some (.string value) := f2.cell x2 id
    have y3 : w2.cell? ⟨w.heap.size, 3, none⟩ = some (.int .i64 most) := f2.cell x3 id
    obtain ⟨a2, c2, rfl, -⟩ := p2
    clear f2 x0 x1 x2 x3
    go_wp2_with fail
    refine (rscan_any W w2 br v lr _ _ _ H2.out.r HS.out (by have := HM.out; omega)).mono ?_
    rintro e w3 ⟨pv3, rfl, o3, f3⟩
    have H3 := hid (H2.out.no f3); have F3 := hid f3
    have HP3 := hid (pr_new o3).pr
    obtain ⟨a3, c3, rfl, -, -⟩ := own_form o3
    clear f3 y1 y2 y3 o3
    have hst : ∀ l, stp ⟨4, key, value, most⟩ l = l := fun l => rfl
    have HST := hid hst
    clear hst
    go_wp2_with fail
    refine (same_any w3 _ _ (scanS key value most lt) (scanS key value most lr) (HP2.out.no F3.out) HP3.out (by have := scan_le key value most lt; have := HN.out; omega) (by have := scan_le key value most lr; have := HM.out; omega)).mono ?_
    rintro e w4 ⟨rfl, f4⟩
    have H4 := hid (H3.out.no f4); have F4 := hid f4
    clear f4
    go_wp2_with fail
    go_ret
    exact ⟨_, T, v, rfl, fun e => by rw [e]; simp, by rw [HST.out, HST.out]; exact H4.out, (((F1.out.trans' F2.out).trans' F3.out).trans' F4.out).no, fun k e => .inl e, fun k e => .inl e⟩
  · have hst : ∀ l, stp ⟨how, key, value, most⟩ l = l := fun l => by simp [stp, h1, h2]
    have HST := hid hst
    clear hst
    go_enter Try.func17, Try.ntmps17
    go_wp2_with ((with_reducible show wpList _ _ _ ({ dst := _, op := .box 53 _, type := _, pos := _, after := _, guard := _ } :: _) _ _); refine wpL_box rfl _ _ rfl _ rfl [.int .i64 how, .string key, .string value, .int .i64 most] rfl ?_; intro w1 HB1 F1 HS1; have H1 := hid (H.out.no F1.out); have x0 : w1.cell? ⟨w.heap.size, 0, none⟩ = some (.int .i64 how) := HB1.out.cell 0; have x1 : w1.cell? ⟨w.heap.size, 1, none⟩ = some (.string key) := HB1.out.cell 1; have x2 : w1.cell? ⟨w.heap.size, 2, none⟩ = some (.string value) := HB1.out.cell 2; have x3 : w1.cell? ⟨w.heap.size, 3, none⟩ = some (.int .i64 most) := HB1.out.cell 3)
    go_ret
    exact ⟨true, T, v, rfl, fun _ => rfl, by rw [HST.out, HST.out]; exact H1.out, F1.out.no, fun k e => .inl e, fun k e => .inl e⟩
open Go.ChangeShapes Go.WideShapes Go.ChangeAt Go.RowKit K

/-- A slice of acts that reads so, in blocks below B. -/
def AcsIn (w : World) (B : Nat) (v : Value) (xs : List Ac) : Prop :=
  ∃ a cap, v = .slice a xs.length cap ∧ xs.length ≤ 4398046511104 ∧ ∀ (i : Nat) (x : Ac), xs[i]? = some x → ∃ g o, a = some ⟨g, o, none⟩ ∧ g < B ∧ w.rangeAt g (o + i * 4) x.cells
theorem AcsIn.fr {w w' : World} {B : Nat} {v : Value} {xs : List Ac} (h : AcsIn w B v xs) {D : Nat → Prop} (hf : Fr D w w') (hd : ∀ k, k < B → ¬ D k) : AcsIn w' B v xs := by
  obtain ⟨a, cap, h1, h3, h4⟩ := h
  refine ⟨a, cap, h1, h3, fun i x hi => ?_⟩
  obtain ⟨g, o, r1, r2, r3⟩ := h4 i x hi
  exact ⟨g, o, r1, r2, hf.range r3 (hd g r2)⟩
theorem cells4 : Try.prog.cellsOf 53 = 4 := by kernel_rfl
theorem bytes4 : Try.prog.bytesOf 53 = 48 := by kernel_rfl
theorem one3 : Try.prog.cellsOf 3 = 1 := by kernel_rfl
theorem act4_of {w : World} {cs : List Value} (h : Reads Try.prog w 53 cs) : ∃ x : Ac, cs = x.cells := by
  obtain ⟨hl, hf⟩ := h.struct Try.underlying53
  rw [cells4] at hl
  obtain ⟨c0, c1, c2, c3, rfl⟩ : ∃ c0 c1 c2 c3, cs = [c0, c1, c2, c3] := by
    match cs, hl with
    | [c0, c1, c2, c3], _ => exact ⟨c0, c1, c2, c3, rfl⟩
  have f0 : Reads Try.prog w 3 (([c0, c1, c2, c3].drop 0).take (Try.prog.cellsOf 3)) := hf 0 _ rfl
  have f1 : Reads Try.prog w 9 (([c0, c1, c2, c3].drop 1).take (Try.prog.cellsOf 9)) := hf 1 _ rfl
  have f2 : Reads Try.prog w 9 (([c0, c1, c2, c3].drop 2).take (Try.prog.cellsOf 9)) := hf 2 _ rfl
  have f3 : Reads Try.prog w 3 (([c0, c1, c2, c3].drop 3).take (Try.prog.cellsOf 3)) := hf 3 _ rfl
  rw [one3] at f0 f3
  rw [one9] at f1 f2
  obtain ⟨n0, e0, _⟩ := f0.int Try.underlying3
  obtain ⟨s1, e1, _⟩ := f1.string Try.underlying9
  obtain ⟨s2, e2, _⟩ := f2.string Try.underlying9
  obtain ⟨n3, e3, _⟩ := f3.int Try.underlying3
  simp only [List.drop_zero, List.drop_succ_cons, List.take_succ_cons, List.take_zero, List.cons.injEq, and_true] at e0 e1 e2 e3
  subst e0 e1 e2 e3
  exact ⟨⟨n0, s1, s2, n3⟩, rfl⟩
theorem acs_of {w : World} {cs : List Value} (h : Reads Try.prog w 43 cs) : ∃ v l, cs = [v] ∧ AcsIn w w.heap.size v l := by
  rcases h.slice Try.underlying43 with rfl | ⟨a, len, cap, rfl, hl, _, hb, hel⟩
  · exact ⟨_, [], rfl, none, 0, rfl, by simp, fun i x hi => by simp at hi⟩
  · rw [bytes4] at hb
    have hr : reachBytes = 140737488351232 := rfl
    rw [hr] at hb
    rw [cells4] at hel
    obtain ⟨xs, hxl, hxs⟩ := list_of (p := fun i (x : Ac) => ∀ j v, x.cells[j]? = some v → w.cell? (a.add (i * 4 + j)) = some v) len (fun i hi => by
      obtain ⟨cs', _, h2, h3⟩ := hel i (by omega)
      obtain ⟨x, rfl⟩ := act4_of h3
      exact ⟨x, h2⟩)
    refine ⟨_, xs, rfl, some a, cap, by rw [hxl], by omega, fun i x hi => ?_⟩
    cases xs with
    | nil => simp at hi
    | cons y r =>
      obtain ⟨g, o, rfl, hg⟩ := addr_of (hxs 0 y rfl 0 _ rfl)
      refine ⟨g, o, rfl, hg, fun j v hj => ?_⟩
      have := hxs i x hi j v hj
      rwa [Addr.add_mid, ← Nat.add_assoc] at this
section
variable {H : Type} {enc : TypeId × Value → H} {W W' : World} {v : Value} {d : DataW H} {p : List MemPlace} {ts : List TypeId} {ds : List (DataW H)}
theorem arg_acts4 (h : DataW.Trod enc Try.prog W 0 (fun _ => true) true 43 v d p) (hv : ∃ a l c, v = .slice a l c) (hsz : (DataW.weightsEach Try.prog ts ds).all (· ≤ reachBytes) = true) (j : Nat) (ht : ts[j]? = some 43) (hd : ds[j]? = some d) :
    ∃ l, AcsIn W W.heap.size v l := by
  obtain ⟨v', l, e, hx⟩ := acs_of (reads_of h hsz j ht hd)
  obtain ⟨a, n, c, rfl⟩ := hv
  simp [Value.cells] at e
  subst e
  exact ⟨l, hx⟩
end
end Go.Proofs.Ytlnolnaapnijbaa.TR
