/-
  Part 12 of the proof: DnRg, DnBw, DnBd, DnP.
-/
import Derived.Test.YtgbiicipkbpmeaaGreatDoorFe11
import Derived.Test.YtgbiicipkbpmeaaGreatDoorFe02
import Derived.Test.YtgbiicipkbpmeaaGreatDoorFe08
set_option linter.unusedSimpArgs false
set_option linter.unusedVariables false
namespace Go.Proofs.YtgbiicipkbpmeaaGreatDoor.K
set_option maxRecDepth 100000
open Go.RowKit
section
variable {P : Program}
def SeqP (P : Program) (gf : Nat) (lb : Array Value) (L : List (Array Value)) (bx : Nat → Prop) (w : World) : Prop :=
 ∀ (l : Nat) (J Jx : Nat → World → Prop) (W : World), w.heap.size ≤ W.heap.size → (∀ i, bx i → W.heap[i]? = w.heap[i]?) →
  (∀ k A B, J k A → Fr No A B → J k B) → (∀ k A B, Jx k A → Fr No A B → Jx k B) →
  (∀ k x W1, J k W1 → L[k]? = some x → YieldAt Fence.wide 1 P l x W1 fun e W' =>
   (e = .returned (.bool true) ∧ J (k + 1) W' ∧ W1.heap.size ≤ W'.heap.size ∧ ∀ i, bx i → W'.heap[i]? = W1.heap[i]?) ∨ (e = .returned (.bool false) ∧ Jx (k + 1) W')) →
  J 0 W →
  CallsIn Fence.wide 2 P gf (#[.func (.yield l) #[] #[]] ++ lb) W fun e W' => (∃ v, e = .returned v) ∧ (J L.length W' ∨ ∃ k, Jx k W')
def KP (bx : Nat → Prop) (n : Nat) (W W' : World) : Prop := W.heap.size ≤ W'.heap.size ∧ ∀ i, bx i ∨ i = n ∨ i = n + 1 → i < W.heap.size → W'.heap[i]? = W.heap[i]?
def postP (bx : Nat → Prop) (n : Nat) (I : Nat → World → Prop) (Ix : Nat → World → Prop) (k : Nat) (W : World) : Exit → Act → World → Prop
 | .normal, _, W' => KP bx n W W' ∧ I k W'
 | .ret, _, W' => KP bx n W W' ∧ Ix k W'
 | _, _, _ => False
theorem KP_fr {bx : Nat → Prop} {n : Nat} {D : Nat → Prop} {W W' : World} (h : Fr D W W') (hD : ∀ i, bx i ∨ i = n ∨ i = n + 1 → ¬ D i) : KP bx n W W' := ⟨h.size, fun i hi hl => h.block i hl (hD i hi)⟩
theorem wp_rangeP {g : Operand} {ps : Array Tmp} {assign body : Code} {Q : Exit → Act → World → Prop} {a : Act} {w : World} {gf : Nat} {lb : Array Value} (hg : a.eval g = .func (.func gf) #[] lb) (eg : ∀ args w, (callFunc gf args).run P w = .ok (.enter gf args) w)
  {L : List (Array Value)} {bx : Nat → Prop} (hbx : ∀ i, bx i → i < w.heap.size) (hseq : SeqP P gf lb L bx w) (hps : ∀ (k : Nat) x, L[k]? = some x → x.size = ps.size)
  (I Ix : Nat → World → Prop) (hI : ∀ k A B, I k A → Fr (fun i => i = w.heap.size ∨ i = w.heap.size + 1) A B → I k B) (hIx : ∀ k A B, Ix k A → Fr (fun i => i = w.heap.size ∨ i = w.heap.size + 1) A B → Ix k B) (h0 : I 0 w) (a₁ : Array Value → Act)
  (hassign : ∀ (l k : Nat) (x : Array Value) (W : World) (K : Act → World → Prop), L[k]? = some x → K (a₁ x) W →
   assign.wpIn (Fence.wide.inRound l) 1 P (Exit.then K (fun _ _ _ => False)) { tmps := (ps.zip x).foldl (fun t (p, v) => t.setIfInBounds p v) a.tmps, defers := [] } W)
  (hbody : ∀ (l k : Nat) (x : Array Value) (W : World), L[k]? = some x → w.heap.size + 2 ≤ W.heap.size → I k W → body.wpIn (Fence.wide.inRound l) 1 P (postP bx w.heap.size I Ix (k + 1) W) (a₁ x) W)
  (hdone : ∀ (W : World), I L.length W → W.heap[w.heap.size]? = some (.deferred (some [])) → Q .normal { a with defers := { target := .collected w.heap.size, args := #[] } :: a.defers } W)
  (hstop : ∀ (k : Nat) (W : World), Ix k W → W.heap[w.heap.size]? = some (.deferred (some [])) → Q .ret { a with defers := { target := .collected w.heap.size, args := #[] } :: a.defers } W) :
  (Code.rangeFunc g ps assign body).wp P Q a w := by
 refine (wpIn_wide (n := 3)).1 (wpIn_rangeFunc fun fn hfn => ?_)
 show ∃ (l : Nat) (mark : List Deferred) (w₁ : World) (d : Deferred) (w₁' : World) (f : FuncId) (args : Array Value) (w₂ : World), (Instr.enterLoop fn a.tmps ps assign body none).run P w = .ok (l, mark) w₁ ∧ _
 obtain ⟨n, hn⟩ : ∃ n, w.heap.size = n := ⟨_, rfl⟩
 obtain ⟨rec, hrec⟩ : ∃ rec : LoopState → Option Code → Loop, rec = fun st pe => { state := st, pending := pe, fn, tmps := a.tmps, params := ps, assign, body, defers := n } := ⟨_, rfl⟩
 obtain ⟨W1, hW1⟩ : ∃ W1, (w.alloc (.deferred (some []))).alloc (.loop (rec .ready none)) = W1 := ⟨_, rfl⟩
 have hf1 : Fr No w W1 := by rw [← hW1]; exact ((Fr.refl No w).alloc _).alloc _
 have hs1 : W1.heap.size = n + 2 := by rw [← hW1]; simp [hn]
 have hL1 : W1.heap[n + 1]? = some (.loop (rec .ready none)) := by
  rw [← hW1]
  have := World.alloc_heap_new (w.alloc (.deferred (some []))) (.loop (rec .ready none))
  rwa [World.size_alloc, hn] at this
 have hK1 : W1.heap[n]? = some (.deferred (some [])) := by
  rw [← hW1, ← hn]
  exact (Below.heap_alloc _ _ _ (by simp)).trans (World.alloc_heap_new w _)
 have hput : ∀ (W : World) (i : Nat) (o : Obj), i = n ∨ i = n + 1 → Fr (fun i => i = w.heap.size ∨ i = w.heap.size + 1) W (W.putObj i o) := fun W i o hi => (fr_put i o).mono fun k e => by
  rw [hn]
  have : k = i := e
  omega
 have hb : ∀ {A B : World} {i : Nat} {o : Obj}, Fr No A B → A.heap[i]? = some o → i = n ∨ i = n + 1 → B.heap[i]? = some o := fun {A B i o} hf h hi =>
  (hf.block i (Array.getElem?_eq_some_iff.1 h).1 id).trans h
 refine ⟨n + 1, [{ target := .collected n, args := #[] }], W1, { target := .fn (.func gf) lb, args := #[.func (.yield (n + 1)) #[] #[]] }, W1, gf, #[.func (.yield (n + 1)) #[] #[]] ++ lb, W1, ?_, ?_, fun _ _ => trivial, ?_, fun _ => by decide, ?_⟩
 ·rw [← hW1, hrec, ← hn]; exact run_enterLoop_outer _ _ _ _ _
 ·simp only [resolve, hg]
  simp [go_sem]
 ·simp [invoke, go_sem, eg]
 refine (hseq (n + 1) (fun k W => I k W ∧ W.heap[n + 1]? = some (.loop (rec .ready none)) ∧ W.heap[n]? = some (.deferred (some [])))
  (fun k W => Ix k W ∧ W.heap[n + 1]? = some (.loop (rec .done (some .ret))) ∧ W.heap[n]? = some (.deferred (some []))) W1 (by omega) (fun i hi => hf1.block i (by have := hbx i hi; omega) id)
  (fun k A B h hf => ⟨hI k A B h.1 hf.no, hb hf h.2.1 (.inr rfl), hb hf h.2.2 (.inl rfl)⟩)
  (fun k A B h hf => ⟨hIx k A B h.1 hf.no, hb hf h.2.1 (.inr rfl), hb hf h.2.2 (.inl rfl)⟩) ?_ ⟨hI 0 w W1 h0 hf1.no, hL1, hK1⟩).mono ?_
 ·rintro k x W ⟨hi, hl, hk⟩ hx
  have hlt : n + 1 < W.heap.size := (Array.getElem?_eq_some_iff.1 hl).1
  have hy := run_yield (P := P) (args := x) hl (by rw [hrec]; exact hps k x hx)
  rw [hrec] at hy
  refine ⟨fn, _, assign, body, hy, roundIn_of_wpIn hfn (hassign _ k x W _ hx ⟨_, run_beginRound hl (by rw [hrec]), ?_⟩)⟩
  obtain ⟨W2, hW2⟩ : ∃ W2, W.putObj (n + 1) (.loop { rec .ready none with state := .busy }) = W2 := ⟨_, rfl⟩
  have hl2 : W2.heap[n + 1]? = some (.loop { rec .ready none with state := .busy }) := by rw [← hW2]; exact World.putObj_heap_same hlt
  have hk2 : W2.heap[n]? = some (.deferred (some [])) := by rw [← hW2]; exact (World.putObj_heap_other (by omega)).trans hk
  have hs2 : W2.heap.size = W.heap.size := by rw [← hW2]; simp
  have hbx2 : ∀ i, bx i → W2.heap[i]? = W.heap[i]? := fun i hi => by rw [← hW2]; exact World.putObj_heap_other (by have := hbx i hi; omega)
  have hi2 : I k W2 := by rw [← hW2]; exact hI k _ _ hi (hput _ _ _ (.inr rfl))
  rw [hW2]
  have fin : ∀ (jump : Option Code) (W3 : World), KP bx n W2 W3 →
    (Instr.endRound (n + 1) jump).run P W3 = .ok (.bool jump.isNone) (W3.putObj (n + 1) (.loop (rec (if jump.isNone then .ready else .done) jump))) ∧
    (W3.putObj (n + 1) (.loop (rec (if jump.isNone then .ready else .done) jump))).heap[n + 1]? = some (.loop (rec (if jump.isNone then .ready else .done) jump)) ∧
    (W3.putObj (n + 1) (.loop (rec (if jump.isNone then .ready else .done) jump))).heap[n]? = some (.deferred (some [])) := fun jump W3 hk3 => by
   have hl3 := (hk3.2 (n + 1) (.inr (.inr rfl)) (by omega)).trans hl2
   have := run_endRound (P := P) jump hl3
   rw [hrec] at this ⊢
   exact ⟨this, World.putObj_heap_same (Array.getElem?_eq_some_iff.1 hl3).1, (World.putObj_heap_other (by omega)).trans ((hk3.2 n (.inr (.inl rfl)) (by omega)).trans hk2)⟩
  have hb2 := hbody (n + 1) k x W2 hx (by omega) hi2
  rw [hn] at hb2
  refine wpIn_mono hb2 ?_
  rintro e a3 W3 hp
  cases e with
  | normal =>
   obtain ⟨hk3, hi3⟩ := hp
   obtain ⟨hr, hl4, hk4⟩ := fin none W3 hk3
   refine ⟨_, _, hr, .inl ⟨rfl, ⟨hI _ _ _ hi3 (hput _ _ _ (.inr rfl)), hl4, hk4⟩, by have := hk3.1; simp; omega, ?_⟩⟩
   intro i hi
   exact (World.putObj_heap_other (by have := hbx i hi; omega)).trans ((hk3.2 i (.inl hi) (by have := hbx i hi; omega)).trans (hbx2 i hi))
  | ret =>
   obtain ⟨hk3, hi3⟩ := hp
   obtain ⟨hr, hl4, hk4⟩ := fin (some .ret) W3 hk3
   exact ⟨_, _, hr, .inr ⟨rfl, hIx _ _ _ hi3 (hput _ _ _ (.inr rfl)), hl4, hk4⟩⟩
  | exit id => exact hp.elim
  | goto t => exact hp.elim
  | panic ch => exact hp.elim
  | outgrown => exact hp.elim
 ·rintro e W2 ⟨⟨v, rfl⟩, (⟨hi, hl, hk⟩ | ⟨k, hi, hl, hk⟩)⟩
  ·refine ⟨none, W2.putObj (n + 1) (.loop { rec .ready none with state := .exhausted }), by have := run_endLoop (P := P) hl (by rw [hrec]; simp); rw [hrec] at this ⊢; exact this, ?_⟩
   have := hdone _ (hI _ _ _ hi (hput W2 (n + 1) (.loop { rec .ready none with state := .exhausted }) (.inr rfl))) (by rw [hn]; exact (World.putObj_heap_other (by omega)).trans hk)
   rw [hn] at this
   exact this
  ·refine ⟨some .ret, W2.putObj (n + 1) (.loop { rec .done (some .ret) with state := .exhausted }), by have := run_endLoop (P := P) hl (by rw [hrec]; simp); rw [hrec] at this ⊢; exact this, ?_⟩
   have := hstop k _ (hIx _ _ _ hi (hput W2 (n + 1) (.loop { rec .done (some .ret) with state := .exhausted }) (.inr rfl))) (by rw [hn]; exact (World.putObj_heap_other (by omega)).trans hk)
   rw [hn] at this
   exact wpIn_ret this
theorem wp_rangePb {g : Operand} {p q e id2 : Nat} {t2 : TypeId} {s2 : String} {body : Code} {Q : Exit → Act → World → Prop} {a : Act} {w : World} {gf : Nat} {lb : Array Value} (hg : a.eval g = .func (.func gf) #[] lb) (eg : ∀ args w, (callFunc gf args).run P w = .ok (.enter gf args) w)
  {L : List (Array Value)} {bx : Nat → Prop} (hbx : ∀ i, bx i → i < w.heap.size) (hseq : SeqP P gf lb L bx w) (hps : ∀ (k : Nat) x, L[k]? = some x → ∃ v0 v1, x = #[v0, v1]) (hq : q < a.tmps.size)
  (I Ix : Nat → World → Prop) (hI : ∀ k A B, I k A → Fr (fun i => i = w.heap.size ∨ i = w.heap.size + 1) A B → I k B) (hIx : ∀ k A B, Ix k A → Fr (fun i => i = w.heap.size ∨ i = w.heap.size + 1) A B → Ix k B) (h0 : I 0 w)
  (hbody : ∀ (l k : Nat) (v0 v1 : Value) (W : World), L[k]? = some #[v0, v1] → w.heap.size + 2 ≤ W.heap.size → I k W →
   body.wpIn (Fence.wide.inRound l) 1 P (postP bx w.heap.size I Ix (k + 1) W) { tmps := ((a.tmps.setIfInBounds p v0).setIfInBounds q v1).setIfInBounds e v1, defers := [] } W)
  (hdone : ∀ (W : World), I L.length W → W.heap[w.heap.size]? = some (.deferred (some [])) → Q .normal { a with defers := { target := .collected w.heap.size, args := #[] } :: a.defers } W)
  (hstop : ∀ (k : Nat) (W : World), Ix k W → W.heap[w.heap.size]? = some (.deferred (some [])) → Q .ret { a with defers := { target := .collected w.heap.size, args := #[] } :: a.defers } W) :
  (Code.rangeFunc g #[p, q] (Code.region id2 #[{ dst := some e, op := .assign (.tmp q), type := t2, pos := s2, after := #[], guard := none }] false) body).wp P Q a w := by
 refine wp_rangeP hg eg hbx hseq (fun k x hx => ?_) I Ix hI hIx h0
  (fun x => { tmps := ((a.tmps.setIfInBounds p (x.getD 0 undef)).setIfInBounds q (x.getD 1 undef)).setIfInBounds e (x.getD 1 undef), defers := [] }) (fun l k x W K hx hK => ?_) (fun l k x W hx hW hi => ?_) hdone hstop
 ·obtain ⟨v0, v1, rfl⟩ := hps k x hx
  rfl
 ·obtain ⟨v0, v1, rfl⟩ := hps k x hx
  refine wpIn_region_plain (ls := [{ dst := some e, op := .assign (.tmp q), type := t2, pos := s2, after := #[], guard := none }]) rfl (fun ⟨_, _, h⟩ => h) ?_
  refine wpList_plain rfl fun K2 hK2 => ?_
  unfold Oper.wp execOp
  have h2 : (({ tmps := (Array.zip #[p, q] #[v0, v1]).foldl (fun t (p, v) => t.setIfInBounds p v) a.tmps, defers := [] } : Act).eval (.tmp q)) = v1 := by
   simp [Act.eval, hq, Array.getElem?_setIfInBounds]
  simp only [h2, Sem.run_pure]
  refine hK2 _ _ (wpList_nil ?_)
  simpa [Act.put, Exit.then] using hK
 ·obtain ⟨v0, v1, rfl⟩ := hps k x hx
  exact hbody l k v0 v1 W hx hW hi
end
end Go.Proofs.YtgbiicipkbpmeaaGreatDoor.K
namespace Go.Proofs.YtgbiicipkbpmeaaGreatDoor.DN
set_option maxRecDepth 100000
set_option maxHeartbeats 128000000
open Go.RowKit K BE
theorem backward_any (v : Value) (hv : v.oneCell' = true) (w : World) : Calls Tryz.prog 117 #[v] w fun e w' =>
  e = .returned (.func (.func 154) #[] #[.pointer (some ⟨w.heap.size, 0, none⟩)]) ∧ Blk w' w.heap.size 128 [v] ∧ Fr No w w' ∧ w'.heap.size = w.heap.size + 1 := by
 have hmf : ∀ (fn : Fn) (first cap : Array Value) (w : World), (Instr.makeFunc fn first cap).run Tryz.prog w = .ok (.func fn first cap) w := fun _ _ _ _ => rfl
 go_enter Tryz.func117, Tryz.ntmps117
 go_wp2_with (first
  | ((with_reducible refine K.atO (.box 128 _) ?_); refine wpL_box rfl _ _ rfl v rfl [v] (by cases v <;> first | rfl | cases hv) ?_; intro w1 HB1 HF1 HS1))
 go_ret
 exact ⟨rfl, HB1.out, HF1.out, HS1.out⟩
def yb (n : Nat) (vs : List Value) : List (Array Value) := (List.range n).map fun k => #[.int .i64 ((n - 1 - k : Nat) : Int), vs.getD (n - 1 - k) undef]
theorem yb_length (n : Nat) (vs : List Value) : (yb n vs).length = n := by simp [yb]
theorem yb_get {n : Nat} {vs : List Value} {k : Nat} (hk : k < n) : (yb n vs)[k]? = some #[.int .i64 ((n - 1 - k : Nat) : Int), vs.getD (n - 1 - k) undef] := by simp [yb, hk]
theorem yb_at {n : Nat} {vs : List Value} {k : Nat} {x : Array Value} (h : (yb n vs)[k]? = some x) : k < n ∧ x = #[.int .i64 ((n - 1 - k : Nat) : Int), vs.getD (n - 1 - k) undef] := by
 have hk : k < n := by have := (List.getElem?_eq_some_iff.1 h).1; rwa [yb_length] at this
 rw [yb_get hk] at h
 exact ⟨hk, (Option.some.inj h).symm⟩
theorem range_same {w w' : World} {g o : Nat} {cs : List Value} (h : w.rangeAt g o cs) (e : w'.heap[g]? = w.heap[g]?) : w'.rangeAt g o cs := fun j v hj => by
 have := h j v hj
 unfold World.cell? at this ⊢
 simpa [e] using this
theorem blk_same {w w' : World} {b : Nat} {t : TypeId} {cs : List Value} (h : Blk w b t cs) (e : w'.heap[b]? = w.heap[b]?) : Blk w' b t cs := e.trans h
theorem backward_seq (bx g o n cap : Nat) (a : Option Addr) (vs : List Value) (hn : n ≤ 1048576) (hc : n ≤ cap) (hvn : vs.length = n) (w : World) (hb : Blk w bx 128 [.slice a n cap]) (h : n = 0 ∨ (a = some ⟨g, o, none⟩ ∧ w.rangeAt g o vs)) :
  SeqP Tryz.prog 154 #[.pointer (some ⟨bx, 0, none⟩)] (yb n vs) (fun i => i = bx ∨ i = g) w := by
 intro l J Jx W hW hWb hJ hJx hY h0
 have HB := hid (blk_same hb (hWb bx (.inl rfl)))
 have HA : Hid (n = 0 ∨ (a = some ⟨g, o, none⟩ ∧ W.rangeAt g o vs)) := hid (h.imp id fun h => ⟨h.1, range_same h.2 (hWb g (.inr rfl))⟩)
 have hni : (n : Int) ≤ 1048576 := by omega
 have c1 : W.cell? ⟨bx, 0, none⟩ = some (.slice a n cap) := HB.out.cell 0
 have HVN := hid hvn
 clear hb hWb hW h hvn
 refine callsIn_of_wp Tryz.func154 rfl trivial ?_ rfl
 simp only [Tryz.ntmps154, List.size_toArray, List.length_cons, List.length_nil, Nat.reduceAdd, Nat.reduceSub, Array.replicate_succ, Array.replicate_zero, List.push_toArray, List.append_toArray, List.nil_append, List.cons_append]
 gi_wp2_with fail
 gi_loopw [3] (fun iv wr => ∃ (k : Nat), iv = .int .i64 ((n : Int) - 1 - k) ∧ k ≤ n ∧ J k wr ∧ Hid (wr.heap[bx]? = W.heap[bx]? ∧ wr.heap[g]? = W.heap[g]?)) (fun iv _ => (intOf iv + 1).toNat)
 case atStart => exact ⟨0, by simp, Nat.zero_le _, h0, hid ⟨rfl, rfl⟩⟩
 case round =>
  obtain ⟨k, rfl, hk, hJs, HE⟩ := hrel
  by_cases hlt : k < n
  ·obtain ⟨i, hi⟩ : ∃ i : Nat, (n : Int) - 1 - k = i := ⟨n - 1 - k, by omega⟩
   have hin : n - 1 - k = i := by omega
   obtain ⟨rfl, hr⟩ := HA.out.resolve_left (by omega)
   have hx := yb_get (vs := vs) hlt
   rw [hin] at hx
   obtain ⟨v, hv⟩ : ∃ v, vs[i]? = some v := ⟨_, List.getElem?_eq_getElem (by rw [HVN.out]; omega)⟩
   have hvd : vs.getD i undef = v := by rw [List.getD_eq_getElem?_getD, hv]; rfl
   rw [hvd] at hx
   have d1 : wr.cell? ⟨bx, 0, none⟩ = some (.slice (some ⟨g, o, none⟩) n cap) := (blk_same HB.out HE.out.1).cell 0
   have d2 : wr.cell? ⟨g, o + i, none⟩ = some v := range_same hr HE.out.2 i v hv
   obtain ⟨fn, tmps, assign, body, hy, hR⟩ := hY k _ wr hJs hx
   have hi0 : (0 : Int) ≤ i := by omega
   have hil : (i : Int) < n := by omega
   have HI := hid (show (n : Int) - 1 - k = i ∧ k < n from ⟨hi, hlt⟩)
   rw [hi]
   clear hr hx hv hvd hlt hin hi hk c1
   gi_wp2_with fail
   refine hR.mono ?_
   rintro e3 W3 (⟨rfl, hJ3, -, hk3⟩ | ⟨rfl, hJx3⟩)
   ·have HE3 : Hid (W3.heap[bx]? = W.heap[bx]? ∧ W3.heap[g]? = W.heap[g]?) := hid ⟨(hk3 bx (.inl rfl)).trans HE.out.1, (hk3 g (.inr rfl)).trans HE.out.2⟩
    clear hk3 d1 d2
    gi_wp2_with fail
    go_roundw
    case rel => exact ⟨k + 1, by have := HI.out.1; congr 1; push_cast; omega, HI.out.2, hJ3, HE3⟩
    case measure =>
     have := HI.out
     first | (simp [intOf]; omega) | simp [intOf]
   ·gi_wp2_with fail
    refine bodyPost_ret (results_none rfl _ _ _) rfl ?_
    exact ⟨⟨_, rfl⟩, .inr ⟨_, hJx3⟩⟩
  ·obtain rfl : k = n := by omega
   have hneg : ¬ (0 : Int) ≤ (k : Int) - 1 - k := by omega
   have hneg2 : (k : Int) - 1 - k = -1 := by omega
   rw [hneg2]
   clear hneg hneg2
   gi_wp2_with fail
   refine bodyPost_end (results_none rfl _ _ _) rfl ?_
   exact ⟨⟨_, rfl⟩, .inl (by rw [yb_length]; exact hJs)⟩
def BW (base b : Nat) (l : B) (w : World) : Prop := b < base ∧ ∃ p v, Blk w b 170 [p, v] ∧ (p = .pointer none ∨ p = .pointer (some ⟨b, 0, none⟩)) ∧ w.ownsRow base 5 1 v l.length (u8s l)
def BDm (base b : Nat) (k : Nat) : Prop := k = b ∨ base ≤ k
theorem BW.fr {base b : Nat} {l : B} {D : Nat → Prop} {w w' : World} (h : BW base b l w) (hf : Fr D w w') (hD : ∀ k, D k → k ≠ b ∧ (k < base ∨ w.heap.size ≤ k)) : BW base b l w' := by
 obtain ⟨h1, p, v, h3, h4, h5⟩ := h
 exact ⟨h1, p, v, h3.fr hf (fun e => (hD _ e).1 rfl), h4, own_fr h5 hf fun k hk e => by have := own_ge h5 k hk; have := (hD k e).2; omega⟩
theorem BW.build {base b : Nat} {l : B} {w : World} (h : BW base b l w) (b0 : Nat) (h0 : b0 ≤ b) : Bld b0 b l w := by
 obtain ⟨h1, p, v, h3, h4, h5⟩ := h
 have hl : (Lib.byteCells l).length = l.length := by simp [Lib.byteCells]
 have hB : Lib.BuilderAt 170 5 b0 b p (Lib.byteCells l) w := by
  refine ⟨h0, v, h3, ?_, fun e => by have := own_ge h5 _ e; omega⟩
  rw [hl]
  show w.ownsRow b0 5 1 v l.length (u8s l)
  refine ⟨h5.1, ?_⟩
  rcases h5.2 with e | ⟨g, cap, cur, e1, e2, e3⟩
  ·exact .inl e
  ·exact .inr ⟨g, cap, cur, e1, by omega, e3⟩
 rcases h4 with rfl | rfl
 ·exact .inl hB
 ·exact .inr hB
theorem infoB8 : (Tryz.prog.info? 150).map (·.size) = some 1 := by kernel_rfl
theorem lays240 : Go.Proofs.Lays.n240 Tryz.prog lays156_ren := { lays156 with }
theorem copyCheck_any (base b : Nat) (l : B) (w : World) (h : BW base b l w) (hbw : base ≤ w.heap.size) : Calls Tryz.prog 156 #[.pointer (some ⟨b, 0, none⟩)] w fun e w' =>
  (∃ v, e = .returned v) ∧ (∃ v, Blk w' b 170 [.pointer (some ⟨b, 0, none⟩), v] ∧ w'.ownsRow base 5 1 v l.length (u8s l)) ∧ Fr (fun k => k = b) w w' := by
 obtain ⟨h1, p, v, h3, h4, h5⟩ := h
 rcases h4 with rfl | rfl
 ·refine (Any.Builder_copyCheck_fresh lays240 extra156.toX72 b w (h3.cell 0) ?_ (h3.frozen 0)).mono ?_
  ·have : w.heap[b]? = _ := h3
   simp [World.shape?, this]
   rfl
  ·rintro e w' ⟨rfl, rfl⟩
   have hf : Fr (fun k => k = b) w (w.setCell ⟨b, 0, none⟩ (.pointer (some ⟨b, 0, none⟩))) := (Fr.refl _ w).setCell _ _ (.inl rfl)
   refine ⟨⟨_, rfl⟩, ⟨v, h3.set 0 _, own_fr h5 hf fun k hk e => by have := own_ge h5 k hk; omega⟩, hf⟩
 ·refine (Any.Builder_copyCheck_used lays240 extra156.toX72 b w (h3.cell 0)).mono ?_
  rintro e w' ⟨rfl, rfl⟩
  exact ⟨⟨_, rfl⟩, ⟨v, h3, h5⟩, Fr.refl _ _⟩
theorem BW.fin {base b n m : Nat} {w w1 w3 w4 : World} {va a3 : Option Addr} {vc cp3 : Nat} {l L : B} (hb : b < base) (hbw : base ≤ w.heap.size) (f1 : Fr (fun k => k = b) w w1) (hO1 : w1.ownsRow base 5 1 (.slice va n vc) n (u8s l))
  (f3 : Fr (fun k => (Value.slice va n vc).ownBlock = some k) w1 w3) (hO3 : w3.ownsRow base 5 1 (.slice a3 m cp3) m (u8s L)) (hm : L.length = m)
  (hB4 : Blk w4 b 170 ([.pointer (some ⟨b, 0, none⟩), .slice va n vc].set 1 (.slice a3 m cp3))) (f4 : Fr (fun k => k = b) w3 w4) : BW base b L w4 ∧ Fr (BDm base b) w w4 := by
 subst hm
 have hf : Fr (BDm base b) w w4 := ((f1.mono fun k e => .inl e).trans' (f3.mono fun k e => .inr (own_ge hO1 k e).1)).trans' (f4.mono fun k e => .inl e)
 exact ⟨⟨hb, _, _, hB4, .inr rfl, own_fr hO3 f4 fun k hk e => by have := own_ge hO3 k hk; omega⟩, hf⟩
theorem writeByteW_any (base b : Nat) (l : B) (c : UInt8) (w : World) (h : BW base b l w) (hbw : base ≤ w.heap.size) (hl : l.length + 1 ≤ 140737488355328) :
  Calls Tryz.prog 121 #[.pointer (some ⟨b, 0, none⟩), .int .u8 (c.toNat : Int)] w fun e w' => (∃ v, e = .returned v) ∧ BW base b (l ++ [c]) w' ∧ Fr (BDm base b) w w' := by
 obtain ⟨i0, hi0, hz0, hs0, hb0⟩ := Go.info_parts infoU
 have HH := hid h
 have HL := hid hl
 have HBW := hid hbw
 have HIS := hid hi0; have HZS := hid hz0; have HSS := hid hs0; have HBS := hid hb0
 obtain ⟨C, hC⟩ : ∃ C : Int, (c.toNat : Int) = C := ⟨_, rfl⟩
 have HC := hid hC
 rw [hC]
 clear h hl hbw hi0 hz0 hs0 hb0 hC
 go_enter Tryz.func121, Tryz.ntmps121
 go_wp2_with fail
 refine (copyCheck_any base b l w HH.out HBW.out).mono ?_
 rintro e w1 ⟨⟨v0, rfl⟩, ⟨v, hB1, hO1⟩, f1⟩
 have HB1 := hid hB1; have HO1 := hid hO1; have HF1 := hid f1
 have HN := hid (show b < base ∧ base ≤ w1.heap.size from ⟨HH.out.1, Nat.le_trans HBW.out f1.size⟩)
 obtain ⟨va, vc, rfl, -, -⟩ := own_form hO1
 have c1 : w1.cell? ⟨b, 1, none⟩ = some (.slice va l.length vc) := hB1.cell 1
 clear hB1 hO1 f1
 go_wp2_with (first
  | ((with_reducible refine K.atO (.buildSlice 150 _ _) ?_); refine wpL_buildOne rfl _ 5 _ rfl i0 _ rfl HIS.out HZS.out (by rw [HSS.out]; decide) (by rw [HSS.out]; decide) _ [.int .u8 C] rfl rfl (by rw [HSS.out]; rfl) ?_; intro w2 HA2 FA2 SA2)
  | ((with_reducible refine K.atO (.call { callee := .builtin .append, args := _, argTypes := _ }) ?_); refine wpL_append rfl _ _ 150 rfl base 5 i0 _ 1 1 Tryz.underlying150 HIS.out HZS.out HSS.out HBS.out rfl (by decide) (.slice va l.length vc) l.length (u8s l) rfl (own_fr HO1.out FA2.out (fun _ _ e => e)) (some ⟨w1.heap.size, 0, none⟩) 1 1 [.int .u8 C] rfl rfl (.inr ⟨_, rfl, HA2.out.news⟩) (by intro u hu; simp at hu; subst hu; rfl) (by unfold maxLen; have := HL.out; omega) (by have := HL.out; omega) (Nat.le_trans HN.out.2 FA2.out.size) ?_; intro a3 cp3 w3 HO3 HG3 HA3;
        (have HF3 : Hid (Fr (fun k => (Value.slice va l.length vc).ownBlock = some k) w1 w3) := hid (FA2.out.no.trans' (frown HG3.out)));
        (have HB3 : Hid (Blk w3 b 170 [.pointer (some ⟨b, 0, none⟩), .slice va l.length vc]) := hid (HB1.out.fr HF3.out (fun e => by have := own_ge HO1.out _ e; have := HN.out; omega))))
  | ((with_reducible refine K.atO (.store 150 _ _) ?_); refine wpL_setV rfl _ _ _ rfl b 1 (.slice a3 (l.length + 1) cp3) rfl rfl rfl rfl _ _ HB3.out (by simp) infoB8 ?_; intro w4 HB4 F4 HS4))
 go_ret
 refine ⟨⟨_, rfl⟩, ?_⟩
 refine BW.fin (L := l ++ [c]) HN.out.1 HBW.out HF1.out HO1.out HF3.out (by rw [show u8s (l ++ [c]) = u8s l ++ [.int .u8 C] by rw [← HC.out]; simp [u8s]]; exact HO3.out) (by simp) HB4.out F4.out
theorem writeStringW_any (base b : Nat) (l s : B) (w : World) (h : BW base b l w) (hbw : base ≤ w.heap.size) (hl : l.length + s.length ≤ 140737488355328) :
  Calls Tryz.prog 119 #[.pointer (some ⟨b, 0, none⟩), .string (sb s)] w fun e w' => (∃ v, e = .returned v) ∧ BW base b (l ++ s) w' ∧ Fr (BDm base b) w w' := by
 obtain ⟨i0, hi0, hz0, hs0, hb0⟩ := Go.info_parts infoU
 have HH := hid h
 have HL := hid hl
 have HBW := hid hbw
 have HIS := hid hi0; have HZS := hid hz0; have HSS := hid hs0; have HBS := hid hb0
 obtain ⟨SS, hSS⟩ : ∃ SS, sb s = SS := ⟨_, rfl⟩
 have HSE := hid hSS
 have HSZ : Hid (SS.size = s.length) := hid (by rw [← hSS, sb_size])
 rw [hSS]
 clear h hl hbw hi0 hz0 hs0 hb0 hSS
 go_enter Tryz.func119, Tryz.ntmps119
 go_wp2_with fail
 refine (copyCheck_any base b l w HH.out HBW.out).mono ?_
 rintro e w1 ⟨⟨v0, rfl⟩, ⟨v, hB1, hO1⟩, f1⟩
 have HB1 := hid hB1; have HO1 := hid hO1; have HF1 := hid f1
 have HN := hid (show b < base ∧ base ≤ w1.heap.size from ⟨HH.out.1, Nat.le_trans HBW.out f1.size⟩)
 obtain ⟨va, vc, rfl, -, -⟩ := own_form hO1
 have c1 : w1.cell? ⟨b, 1, none⟩ = some (.slice va l.length vc) := hB1.cell 1
 clear hB1 hO1 f1
 go_wp2_with (first
  | ((with_reducible refine K.atO (.call { callee := .builtin .append, args := _, argTypes := _ }) ?_); refine wpList_plain rfl fun K hK => ?_; refine wp_appendStr _ _ 150 9 rfl base 5 i0 Tryz.underlying150 Tryz.underlying9 HIS.out HZS.out HSS.out HBS.out (.slice va l.length vc) l.length (u8s l) rfl HO1.out SS rfl (by unfold maxLen; have := HL.out; have := HSZ.out; omega) (by have := HL.out; have := HSZ.out; omega) HN.out.2 ?_; intro a3 cp3 w3 HO3 HG3 HA3; refine hK _ _ ?_; clear hK K;
        (have HF3 : Hid (Fr (fun k => (Value.slice va l.length vc).ownBlock = some k) w1 w3) := hid (frown HG3.out));
        (have HB3 : Hid (Blk w3 b 170 [.pointer (some ⟨b, 0, none⟩), .slice va l.length vc]) := hid (HB1.out.fr HF3.out (fun e => by have := own_ge HO1.out _ e; have := HN.out; omega))))
  | ((with_reducible refine K.atO (.store 150 _ _) ?_); refine wpL_setV rfl _ _ _ rfl b 1 (.slice a3 (l.length + SS.size) cp3) rfl rfl rfl rfl _ _ HB3.out (by simp) infoB8 ?_; intro w4 HB4 F4 HS4))
 first | go_ret2 | go_ret
 refine ⟨⟨_, rfl⟩, ?_⟩
 refine BW.fin (L := l ++ s) HN.out.1 HBW.out HF1.out HO1.out HF3.out (by rw [show u8s (l ++ s) = u8s l ++ u8s SS.data.toList by rw [← HSE.out, sb_list]; simp [u8s]]; exact HO3.out) (by simp [HSZ.out]) HB4.out F4.out
def SG : B := [34, 43, 44, 59, 60, 62, 92]
def DG : B := [48, 49, 50, 51, 52, 53, 54, 55, 56, 57, 97, 98, 99, 100, 101, 102]
theorem sg_index (c : UInt8) : decide ((0 : Int) ≤ Lib.indexByte SG c) = sign c := by
 have := u8_all (fun c => decide ((0 : Int) ≤ Lib.indexByte SG c) == sign c) (by decide +kernel) c
 simpa using this
theorem dg_hi (c : UInt8) (h : c < 32 ∨ c = 127) : DG[c.toNat / 16]? = some (dgt (c / 16)) ∧ DG[c.toNat % 16]? = some (dgt (c % 16)) := by
 have := u8_all (fun c => !(decide (c < 32 ∨ c = 127)) || ((DG[c.toNat / 16]? == some (dgt (c / 16))) && (DG[c.toNat % 16]? == some (dgt (c % 16))))) (by decide +kernel) c
 simpa [h] using this
theorem and15 (c : UInt8) : bits .and .u8 (c.toNat : Int) 15 = ((c.toNat % 16 : Nat) : Int) := by
 have h : ∀ n : Fin 256, bits .and .u8 (n.val : Int) 15 = ((n.val % 16 : Nat) : Int) := by decide +kernel
 simpa using h ⟨c.toNat, UInt8.toNat_lt c⟩
theorem shr4 (c : UInt8) : ((c.toNat : Int) / 16) = ((c.toNat / 16 : Nat) : Int) := by omega
theorem exec_shr4 {op : Oper} {a : Act} (c : UInt8) (q : Nat) (hq : ((c.toNat : Int) / 16) = (q : Int)) (x y : Operand) {u : TypeId} (ho : op.op = .binOp .shr 5 x y u) (hx : a.eval x = .int .u8 (c.toNat : Int)) (hy : a.eval y = .int .u64 4) (w : World) :
  (execOp a.eval op).run Tryz.prog w = .ok (.value (.int .u8 (q : Int))) w := by
 rw [← hq]
 unfold execOp
 simp only [ho, hx, hy]
 simp [go_sem, eqGuard, Result.andThen]
theorem exec_and15 {op : Oper} {a : Act} (c : UInt8) (q : Nat) (hq : bits .and .u8 (c.toNat : Int) 15 = (q : Int)) (x y : Operand) {u : TypeId} (ho : op.op = .binOp .and 5 x y u) (hx : a.eval x = .int .u8 (c.toNat : Int)) (hy : a.eval y = .int .u8 15) (w : World) :
  (execOp a.eval op).run Tryz.prog w = .ok (.value (.int .u8 (q : Int))) w := by
 rw [← hq]
 unfold execOp
 simp only [ho, hx, hy]
 simp [go_sem, eqGuard, Result.andThen]
theorem exec_idx8 {op : Oper} {a : Act} (x y : Operand) (ho : op.op = .index 9 x y) (l : B) (i : Nat) (b : UInt8) (hi : l[i]? = some b) (n : Int) (hn : n = (i : Int)) (hx : a.eval x = .string (sb l)) (hy : a.eval y = .int .u8 n) (w : World) : (execOp a.eval op).run Tryz.prog w = .ok (.value (.int .u8 (b.toNat : Int))) w := by
 subst hn
 obtain ⟨hl, hb⟩ := List.getElem?_eq_some_iff.1 hi
 have hz : (sb l).size = l.length := sb_size l
 have h1 : (0 : Int) ≤ (i : Int) ∧ (i : Int) < (sb l).size := ⟨by omega, by omega⟩
 have h : (Instr.index 9 (.string (sb l)) (.int .u8 (i : Int))).run Tryz.prog w = .ok (.int .u8 (b.toNat : Int)) w := by
  rw [Go.run_index_string (P := Tryz.prog) w 9 (sb l) .u8 (i : Int) Tryz.underlying9, dif_pos h1]
  have h2 : ((sb l)[(i : Int).toNat]'(by omega)) = b := hb
  rw [h2]
 simp [execOp, ho, hx, hy, h]
theorem wp_buildRun {P : Program} {op : Oper} {a : Act} {w : World} {K : Act → World → Prop} {Q : Exit → Act → World → Prop} (t e : TypeId) (n : Nat) (parts : List (Nat × Operand)) (ho : op.op = .buildSlice t n parts.toArray) (cs : List Value)
  (hrun : (Instr.buildSlice t n (parts.map fun x => (x.1, a.eval x.2)).toArray).run P w = .ok (.slice (some ⟨w.heap.size, 0, none⟩) n n) (w.alloc (.cells cs.toArray e)))
  (h : ∀ w', Hid (Blk w' w.heap.size e cs) → Hid (Fr No w w') → Hid (w'.heap.size = w.heap.size + 1) → K (a.put op.dst (.slice (some ⟨w.heap.size, 0, none⟩) n n)) w') : op.wp P a w K Q := by
 unfold Oper.wp
 have h1 := h (w.alloc (.cells cs.toArray e)) (hid (Blk.new w e cs)) (hid ((Fr.refl _ _).alloc _)) (hid (by simp))
 simp [execOp, ho, hrun, Result.andThen]
 exact h1
theorem run_bytes (vs : List Value) (hv0 : 0 < vs.length) (hl : vs.length ≤ 16) (hv : ∀ v ∈ vs, ∃ n, v = .int .u8 n) (w : World) : (Instr.buildSlice 150 vs.length ((vs.zipIdx 0).map fun x => (x.2, x.1)).toArray).run Tryz.prog w =
  .ok (.slice (some ⟨w.heap.size, 0, none⟩) vs.length vs.length) (w.alloc (.cells vs.toArray 5)) := by
 obtain ⟨i, hi, hz, hs, hb⟩ := Go.info_parts infoU
 have h := run_buildAll (P := Tryz.prog) 150 5 vs i _ Tryz.underlying150 hi hz (by rw [hs]; decide) (by rw [hs]; omega) hv0 (fun v h => by obtain ⟨n, rfl⟩ := hv v h; rw [hs]; rfl) w
 have e : (vs.flatMap fun v => v.cells.toList) = vs := by
  clear h hv0 hl
  induction vs with
  | nil => rfl
  | cons v r ih =>
   obtain ⟨n, rfl⟩ := hv v (by simp)
   rw [List.flatMap_cons, ih (fun q hq => hv q (by simp [hq]))]
   rfl
 rw [e] at h
 exact h
section
variable {ops : Array Oper} {rest : List Oper} {o1 o2 : Oper} {a : Act} {w : World} {Q : Exit → Act → World → Prop}
theorem wpL_app2 (hg1 : o1.guard = none) (hg2 : o2.guard = none) (x x2 s y : Operand) (ho1 : o1.op = .buildSlice 150 2 #[(0, x), (1, x2)]) (ho2 : o2.op = .call { callee := .builtin .append, args := #[s, y], argTypes := #[150, 150] })
  {w0 : World} {v : Value} {l : B} (hown : OwR 5 1 w0 w v l.length (u8s l)) (c d : UInt8) (hx : a.eval x = .int .u8 (c.toNat : Int)) (hx2 : a.eval x2 = .int .u8 (d.toNat : Int))
  (hs : ∀ q, (a.put o1.dst q).eval s = v) (hy : ∀ q, (a.put o1.dst q).eval y = q) (hb : l.length + 2 ≤ 140737488355328)
  (h : ∀ q a' cap' w', Hid (OwR 5 1 w0 w' (.slice a' (l.length + 2) cap') (l.length + 2) (u8s (l ++ [c, d]))) → wpList Tryz.prog ops Q rest ((a.put o1.dst q).put o2.dst (.slice a' (l.length + 2) cap')) w') : wpList Tryz.prog ops Q (o1 :: o2 :: rest) a w := by
 refine wpL_buildSlice hg1 150 5 2 [(0, x), (1, x2)] ho1 [.int .u8 (c.toNat : Int), .int .u8 (d.toNat : Int)] ?_ ?_
 ·have := run_bytes [.int .u8 (c.toNat : Int), .int .u8 (d.toNat : Int)] (by simp) (by simp) (by simp) w
  simpa [hx, hx2] using this
 ·intro w1 HB HF HS
  refine wpList_plain hg2 fun K hK => ?_
  refine wp_appR s y 150 5 ho2 Tryz.underlying150 infoU rfl (by decide) (hown.no HF.out) (hs _) w.heap.size 2 2 [.int .u8 (c.toNat : Int), .int .u8 (d.toNat : Int)] (hy _) rfl HB.out (by simp [Value.oneCell']) (by omega) hb ?_
  intro a' cap' w' p q
  refine hK _ _ (h _ a' cap' w' (hid ?_))
  have := p.out
  rwa [show u8s l ++ [Value.int .u8 (c.toNat : Int), .int .u8 (d.toNat : Int)] = u8s (l ++ [c, d]) by simp [u8s]] at this
end
theorem byT_ctl {a b : Bool} {c : UInt8} (h : c < 32 ∨ c = 127) : byT a b c = [92, dgt (c / 16), dgt (c % 16)] := by unfold byT; rw [if_pos h]
theorem byT_esc {a b : Bool} {c : UInt8} (h : ¬ (c < 32 ∨ c = 127)) (h2 : (sign c || (c == 35 && a) || (c == 32 && (a || b))) = true) : byT a b c = [92, c] := by unfold byT; rw [if_neg h, h2]; rfl
theorem byT_raw {a b : Bool} {c : UInt8} (h : ¬ (c < 32 ∨ c = 127)) (h2 : (sign c || (c == 35 && a) || (c == 32 && (a || b))) = false) : byT a b c = [c] := by unfold byT; rw [if_neg h, h2]; rfl
theorem ctl_nat (c : UInt8) : (c < 32 ∨ c = 127) ↔ (c.toNat < 32 ∨ c.toNat = 127) := by
 rw [UInt8.lt_iff_toNat_lt, ← UInt8.toNat_inj]
 exact Iff.rfl
theorem valueText_any (s : B) (hs : s.length ≤ 4294967296) (w : World) : Calls Tryz.prog 195 #[.string (sb s)] w fun e w' => e = .returned (.string (sb (valT s))) ∧ Fr No w w' := by
 have hz : (sb s).size = s.length := sb_size s
 obtain ⟨S, hS⟩ : ∃ S, sb s = S := ⟨_, rfl⟩
 obtain ⟨n, hn⟩ : ∃ n, s.length = n := ⟨_, rfl⟩
 obtain ⟨R, hR⟩ : ∃ R, valT s = R := ⟨_, rfl⟩
 rw [hS, hR]
 rw [hS, hn] at hz
 rw [hn] at hs
 have hni : (n : Int) ≤ 4294967296 := by omega
 have hszi : (S.size : Int) = n := by omega
 have HNN := hid hn; have HS := hid hS; have HR := hid hR
 clear hs hz hS hn hR
 go_enter Tryz.func195, Tryz.ntmps195
 go_wp2_with fail
 go_loopw [3, 10] (fun sv iv wr => ∃ (i : Nat) (acc : B), iv = .int .i64 i ∧ i ≤ n ∧ acc.length ≤ 3 * i ∧ Hid (OwR 5 1 w wr sv acc.length (u8s acc)) ∧ Hid (acc ++ valFrom (i == 0) (s.drop i) = R)) (fun _ iv _ => n - (intOf iv).toNat)
 case atStart => exact ⟨0, [], rfl, Nat.zero_le _, Nat.zero_le _, hid (owR_nil (Fr.refl _ _)), hid (by rw [← HR.out]; rfl)⟩
 case round =>
  obtain ⟨i, acc, rfl, hi, hal, HO, HA⟩ := hrel
  obtain ⟨va, vc, rfl⟩ := HO.out.1
  obtain ⟨al, hal2⟩ : ∃ al, acc.length = al := ⟨_, rfl⟩
  rw [hal2] at HO hal ⊢
  have HAL := hid hal2
  have hali : (al : Int) ≤ 12884901888 := by omega
  by_cases hlt : i < n
  ·obtain ⟨c, hc⟩ : ∃ c, s[i]? = some c := ⟨_, List.getElem?_eq_getElem (by rw [HNN.out]; exact hlt)⟩
   have HC := hid hc
   have hlti : (i : Int) < n := by omega
   have hi0 : (0 : Int) ≤ i := by omega
   have hsplit : s.drop i = c :: s.drop (i + 1) := by
    have hl : i < s.length := by rw [HNN.out]; exact hlt
    rw [List.drop_eq_getElem_cons hl]
    rw [List.getElem?_eq_getElem hl] at hc
    rw [Option.some.inj hc]
   have hlast : (s.drop (i + 1)).isEmpty = decide (i = n - 1) := by
    have h1 : (s.drop (i + 1)).length = n - (i + 1) := by rw [List.length_drop, HNN.out]
    cases hq : s.drop (i + 1) with
    | nil => rw [hq] at h1; simp at h1; rw [decide_eq_true (by omega)]; rfl
    | cons _ _ => rw [hq] at h1; simp at h1; rw [decide_eq_false (by omega)]; rfl
   have HA2 : Hid ((acc ++ byT (i == 0) (decide (i = n - 1)) c) ++ valFrom false (s.drop (i + 1)) = R) := hid (by
    have h := HA.out
    rw [hsplit] at h
    simp only [valFrom] at h
    rw [hlast] at h
    rw [List.append_assoc]
    exact h)
   have HLT := hid hlt
   have HAL3 := hid hal
   have hsg := sg_index c
   have HIX := hid (fun w => indexByte_any SG c w)
   obtain ⟨y, hy⟩ : ∃ y : Int, Lib.indexByte SG c = y := ⟨_, rfl⟩
   rw [hy] at hsg HIX
   have hctl := ctl_nat c
   have hd35 : (c == 35) = decide (c.toNat = 35) := by rw [Bool.eq_iff_iff]; simp [← UInt8.toNat_inj]
   have hd32 : (c == 32) = decide (c.toNat = 32) := by rw [Bool.eq_iff_iff]; simp [← UInt8.toNat_inj]
   have hlt256 := lt256 c
   clear hc hsplit hlast hy hlt hi hal HA
   by_cases hk : c < 32 ∨ c = 127
   ·have hn1 : (c.toNat : Int) < 32 ∨ (¬ (c.toNat : Int) < 32 ∧ (c.toNat : Int) = 127) := by
     rcases hctl.1 hk with h | h <;> omega
    have HQ : Hid ((acc ++ [92, dgt (c / 16), dgt (c % 16)]) ++ valFrom (i + 1 == 0) (s.drop (i + 1)) = R) := hid (by have h := HA2.out; rw [byT_ctl hk] at h; exact h)
    obtain ⟨hd1, hd2⟩ := dg_hi c hk
    have HD1 := hid hd1; have HD2 := hid hd2
    have h15 := and15 c
    have hs4 := shr4 c
    have H15 := hid h15; have HS4 := hid hs4
    have hdl1 : (((c.toNat / 16 : Nat)) : Int) < 16 := by omega
    have hdl2 : (((c.toNat % 16 : Nat)) : Int) < 16 := by omega
    obtain ⟨q1, hq1⟩ : ∃ q1, c.toNat / 16 = q1 := ⟨_, rfl⟩
    obtain ⟨q2, hq2⟩ : ∃ q2, c.toNat % 16 = q2 := ⟨_, rfl⟩
    rw [hq1] at HD1 HS4 hdl1; rw [hq2] at HD2 H15 hdl2
    clear hk hctl hd35 hd32 hsg hd1 hd2 h15 hs4 HA2 hlt256 hq1 hq2
    rcases hn1 with h1 | ⟨h1, h2⟩
    ·go_wp2_with (first | ((with_reducible refine K.atO (.index 9 _ _) ?_); refine idxZ HS HC rfl rfl rfl rfl ?_))
     have hold : Facts.hold [] wr.drew := Facts.nil_hold _
     refine wpD_region hold (by kernel_rfl) 10 rfl ?_
     (refine K.pl 0 (v := ?_) rfl ?_ ?_; rotate_left; (intro; go_simp; try with_reducible rfl); simp only [K.pu])
     (refine K.pl 1 (v := ?_) rfl ?_ ?_; rotate_left; (intro; go_simp; try with_reducible rfl); simp only [K.pu])
     (refine K.pl 2 (v := (.int .u8 (q1 : Int))) rfl ?_ ?_; (intro _w; exact exec_shr4 c q1 HS4.out _ _ rfl rfl rfl _w); simp only [K.pu])
     (refine K.pl 3 (v := (.int .u8 ((dgt (c / 16)).toNat : Int))) rfl ?_ ?_; (intro _w; exact exec_idx8 _ _ rfl DG q1 _ HD1.out _ rfl rfl rfl _w); simp only [K.pu])
     (refine K.pl 4 (v := ?_) rfl ?_ ?_; rotate_left; (intro; go_simp; try with_reducible rfl); simp only [K.pu])
     (refine K.pl 5 (v := (.int .u8 (q2 : Int))) rfl ?_ ?_; (intro _w; exact exec_and15 c q2 H15.out _ _ rfl rfl rfl _w); simp only [K.pu])
     (refine K.pl 6 (v := (.int .u8 ((dgt (c % 16)).toNat : Int))) rfl ?_ ?_; (intro _w; exact exec_idx8 _ _ rfl DG q2 _ HD2.out _ rfl rfl rfl _w); simp only [K.pu])
     clear hold
     refine K.on 7 [] rfl (fun K7 hK7 => ?_)
     refine wp_buildRun 150 5 3 [(0, .const (.int .u8 92)), (1, .tmp 37), (2, .tmp 40)] rfl [.int .u8 92, .int .u8 ((dgt (c / 16)).toNat : Int), .int .u8 ((dgt (c % 16)).toNat : Int)] (by
      have := run_bytes [.int .u8 92, .int .u8 ((dgt (c / 16)).toNat : Int), .int .u8 ((dgt (c % 16)).toNat : Int)] (by simp) (by simp) (by simp) wr.drew
      exact this) ?_
     intro w3 HB3 HF3 HS3
     refine hK7 _ _ (Facts.nil_hold _) ?_
     clear hK7 K7
     simp only [K.pu]
     have HO3 : Hid (OwR 5 1 w w3 (.slice va al vc) al (u8s acc)) := hid (OwR.no HO.out ((Fr.refl No wr).drew.trans' HF3.out))
     refine K.on 8 [] rfl (fun K8 hK8 => ?_)
     refine wp_appR _ _ 150 5 rfl Tryz.underlying150 infoU rfl (by decide) HO3.out rfl wr.heap.size 3 3 _ rfl rfl HB3.out (by simp [Value.oneCell']) (by omega) (by omega) ?_
     intro a4 c4 w4 HO4 HF4
     refine hK8 _ _ (Facts.nil_hold _) ?_
     clear hK8 K8
     simp only [K.pu]
     have hold : Facts.hold [] w4 := Facts.nil_hold _
     (refine K.pl 9 (v := ?_) rfl ?_ ?_; rotate_left; (intro; go_simp; try with_reducible rfl); simp only [K.pu])
     clear hold
     refine wpD_done (by kernel_rfl) ?_ _
     go_wp2_with fail
     refine ⟨⟨i + 1, acc ++ [92, dgt (c / 16), dgt (c % 16)], by go_num, HLT.out, by rw [List.length_append, HAL.out]; have := HAL3.out; simp; omega, hid ?_, hid HQ.out⟩, by have := HLT.out; simp [intOf]; omega⟩
     have h := HO4.out
     rw [show (acc ++ [92, dgt (c / 16), dgt (c % 16)]).length = al + 3 by rw [List.length_append, HAL.out]; rfl]
     rwa [show u8s acc ++ [Value.int .u8 92, .int .u8 ((dgt (c / 16)).toNat : Int), .int .u8 ((dgt (c % 16)).toNat : Int)] = u8s (acc ++ [92, dgt (c / 16), dgt (c % 16)]) by simp [u8s]] at h
    ·have h3 : ((c.toNat : Int) == 127) = true := by rw [beq_iff_eq]; omega
     clear h2
     go_wp2_with (first | ((with_reducible refine K.atO (.index 9 _ _) ?_); refine idxZ HS HC rfl rfl rfl rfl ?_))
     have hold : Facts.hold [] wr.drew := Facts.nil_hold _
     refine wpD_region hold (by kernel_rfl) 10 rfl ?_
     (refine K.pl 0 (v := ?_) rfl ?_ ?_; rotate_left; (intro; go_simp; try with_reducible rfl); simp only [K.pu])
     (refine K.pl 1 (v := ?_) rfl ?_ ?_; rotate_left; (intro; go_simp; try with_reducible rfl); simp only [K.pu])
     (refine K.pl 2 (v := (.int .u8 (q1 : Int))) rfl ?_ ?_; (intro _w; exact exec_shr4 c q1 HS4.out _ _ rfl rfl rfl _w); simp only [K.pu])
     (refine K.pl 3 (v := (.int .u8 ((dgt (c / 16)).toNat : Int))) rfl ?_ ?_; (intro _w; exact exec_idx8 _ _ rfl DG q1 _ HD1.out _ rfl rfl rfl _w); simp only [K.pu])
     (refine K.pl 4 (v := ?_) rfl ?_ ?_; rotate_left; (intro; go_simp; try with_reducible rfl); simp only [K.pu])
     (refine K.pl 5 (v := (.int .u8 (q2 : Int))) rfl ?_ ?_; (intro _w; exact exec_and15 c q2 H15.out _ _ rfl rfl rfl _w); simp only [K.pu])
     (refine K.pl 6 (v := (.int .u8 ((dgt (c % 16)).toNat : Int))) rfl ?_ ?_; (intro _w; exact exec_idx8 _ _ rfl DG q2 _ HD2.out _ rfl rfl rfl _w); simp only [K.pu])
     clear hold
     refine K.on 7 [] rfl (fun K7 hK7 => ?_)
     refine wp_buildRun 150 5 3 [(0, .const (.int .u8 92)), (1, .tmp 37), (2, .tmp 40)] rfl [.int .u8 92, .int .u8 ((dgt (c / 16)).toNat : Int), .int .u8 ((dgt (c % 16)).toNat : Int)] (by
      have := run_bytes [.int .u8 92, .int .u8 ((dgt (c / 16)).toNat : Int), .int .u8 ((dgt (c % 16)).toNat : Int)] (by simp) (by simp) (by simp) wr.drew
      exact this) ?_
     intro w3 HB3 HF3 HS3
     refine hK7 _ _ (Facts.nil_hold _) ?_
     clear hK7 K7
     simp only [K.pu]
     have HO3 : Hid (OwR 5 1 w w3 (.slice va al vc) al (u8s acc)) := hid (OwR.no HO.out ((Fr.refl No wr).drew.trans' HF3.out))
     refine K.on 8 [] rfl (fun K8 hK8 => ?_)
     refine wp_appR _ _ 150 5 rfl Tryz.underlying150 infoU rfl (by decide) HO3.out rfl wr.heap.size 3 3 _ rfl rfl HB3.out (by simp [Value.oneCell']) (by omega) (by omega) ?_
     intro a4 c4 w4 HO4 HF4
     refine hK8 _ _ (Facts.nil_hold _) ?_
     clear hK8 K8
     simp only [K.pu]
     have hold : Facts.hold [] w4 := Facts.nil_hold _
     (refine K.pl 9 (v := ?_) rfl ?_ ?_; rotate_left; (intro; go_simp; try with_reducible rfl); simp only [K.pu])
     clear hold
     refine wpD_done (by kernel_rfl) ?_ _
     go_wp2_with fail
     refine ⟨⟨i + 1, acc ++ [92, dgt (c / 16), dgt (c % 16)], by go_num, HLT.out, by rw [List.length_append, HAL.out]; have := HAL3.out; simp; omega, hid ?_, hid HQ.out⟩, by have := HLT.out; simp [intOf]; omega⟩
     have h := HO4.out
     rw [show (acc ++ [92, dgt (c / 16), dgt (c % 16)]).length = al + 3 by rw [List.length_append, HAL.out]; rfl]
     rwa [show u8s acc ++ [Value.int .u8 92, .int .u8 ((dgt (c / 16)).toNat : Int), .int .u8 ((dgt (c % 16)).toNat : Int)] = u8s (acc ++ [92, dgt (c / 16), dgt (c % 16)]) by simp [u8s]] at h
   ·have hn1 : ¬ (c.toNat : Int) < 32 := by intro h; exact hk (hctl.2 (.inl (by omega)))
    have hn2 : ¬ (c.toNat : Int) = 127 := by intro h; exact hk (hctl.2 (.inr (by omega)))
    have HOA : Hid (OwR 5 1 w wr (.slice va al vc) acc.length (u8s acc)) := hid (by rw [HAL.out]; exact HO.out)
    clear hctl
    cases hsn : sign c with
    | true =>
     rw [hsn] at hsg
     have hy0 := of_decide_eq_true hsg
     have HE : Hid ((sign c || (c == 35 && (i == 0)) || (c == 32 && ((i == 0) || decide (i = n - 1)))) = true) := hid (by rw [hsn]; rfl)
     clear hsg hd35 hd32 hsn hlt256
     have HQ : Hid ((acc ++ [92, c]) ++ valFrom (i + 1 == 0) (s.drop (i + 1)) = R) := hid (by have h := HA2.out; rw [byT_esc hk HE.out] at h; exact h)
     clear hk HA2 HE
     go_wp2_with (first | ((with_reducible refine K.atO (.index 9 _ _) ?_); refine idxZ HS HC rfl rfl rfl rfl ?_))
     refine (HIX.out _).mono ?_
     rintro e w2 ⟨rfl, rfl⟩
     go_wp2_with (first | ((with_reducible refine K.atO (.buildSlice 150 _ _) ?_); refine wpL_app2 rfl rfl _ _ _ _ rfl rfl HOA.out 92 c rfl rfl (fun _ => rfl) (fun _ => rfl) (by rw [HAL.out]; omega) ?_; intro q a4 c4 w4 HO4; rw [HAL.out] at HO4 ⊢))
     refine ⟨⟨i + 1, acc ++ [92, c], by go_num, HLT.out, by rw [List.length_append, HAL.out]; have := HAL3.out; simp; omega, hid ?_, hid HQ.out⟩, by have := HLT.out; simp [intOf]; omega⟩
     rw [show (acc ++ [92, c]).length = al + 2 by rw [List.length_append, HAL.out]; rfl]
     exact HO4.out
    | false =>
     rw [hsn] at hsg
     have hy0 := of_decide_eq_false hsg
     clear hsg
     by_cases h35 : c.toNat = 35
     ·have h35i : ((c.toNat : Int) == 35) = true := by rw [beq_iff_eq]; omega
      rw [decide_eq_true h35] at hd35
      rw [decide_eq_false (by omega)] at hd32
      by_cases hz0 : i = 0
      ·have hb0 : ((i : Int) == 0) = true := by subst hz0; rfl
       have HE : Hid ((sign c || (c == 35 && (i == 0)) || (c == 32 && ((i == 0) || decide (i = n - 1)))) = true) := hid (by rw [hd35, hz0]; simp)
       clear hd35 hd32 hsn hlt256 h35 hz0
       have HQ : Hid ((acc ++ [92, c]) ++ valFrom (i + 1 == 0) (s.drop (i + 1)) = R) := hid (by have h := HA2.out; rw [byT_esc hk HE.out] at h; exact h)
       clear hk HA2 HE
       go_wp2_with (first | ((with_reducible refine K.atO (.index 9 _ _) ?_); refine idxZ HS HC rfl rfl rfl rfl ?_))
       refine (HIX.out _).mono ?_
       rintro e w2 ⟨rfl, rfl⟩
       go_wp2_with (first | ((with_reducible refine K.atO (.buildSlice 150 _ _) ?_); refine wpL_app2 rfl rfl _ _ _ _ rfl rfl HOA.out 92 c rfl rfl (fun _ => rfl) (fun _ => rfl) (by rw [HAL.out]; omega) ?_; intro q a4 c4 w4 HO4; rw [HAL.out] at HO4 ⊢))
       refine ⟨⟨i + 1, acc ++ [92, c], by go_num, HLT.out, by rw [List.length_append, HAL.out]; have := HAL3.out; simp; omega, hid ?_, hid HQ.out⟩, by have := HLT.out; simp [intOf]; omega⟩
       rw [show (acc ++ [92, c]).length = al + 2 by rw [List.length_append, HAL.out]; rfl]
       exact HO4.out
      ·have hb0 : ((i : Int) == 0) = false := by rw [beq_eq_false_iff_ne]; omega
       have HE : Hid ((sign c || (c == 35 && (i == 0)) || (c == 32 && ((i == 0) || decide (i = n - 1)))) = false) := hid (by rw [hd35, hd32, hsn]; simpa using hz0)
       clear hd35 hd32 hsn hlt256 h35 hz0
       have HQ : Hid ((acc ++ [c]) ++ valFrom (i + 1 == 0) (s.drop (i + 1)) = R) := hid (by have h := HA2.out; rw [byT_raw hk HE.out] at h; exact h)
       clear hk HA2 HE
       go_wp2_with (first | ((with_reducible refine K.atO (.index 9 _ _) ?_); refine idxZ HS HC rfl rfl rfl rfl ?_))
       refine (HIX.out _).mono ?_
       rintro e w2 ⟨rfl, rfl⟩
       go_wp2_with (first | ((with_reducible refine K.atO (.buildSlice 150 _ _) ?_); refine wpL_appU rfl rfl HO.out (c.toNat : Int) rfl ?_; intro q a4 c4 w4 HO4 HF4))
       refine ⟨⟨i + 1, acc ++ [c], by go_num, HLT.out, by rw [List.length_append, HAL.out]; have := HAL3.out; simp; omega, hid ?_, hid HQ.out⟩, by have := HLT.out; simp [intOf]; omega⟩
       have h := HO4.out
       rw [show (acc ++ [c]).length = al + 1 by rw [List.length_append, HAL.out]; rfl]
       rwa [show u8s acc ++ [Value.int .u8 (c.toNat : Int)] = u8s (acc ++ [c]) by simp [u8s]] at h
     ·have h35i : ¬ (c.toNat : Int) = 35 := by omega
      rw [decide_eq_false h35] at hd35
      by_cases h32 : c.toNat = 32
      ·have h32i : ((c.toNat : Int) == 32) = true := by rw [beq_iff_eq]; omega
       have h35j : ((c.toNat : Int) == 35) = false := by rw [beq_eq_false_iff_ne]; omega
       clear h35i
       rw [decide_eq_true h32] at hd32
       by_cases hz0 : i = 0
       ·have hb0 : ((i : Int) == 0) = true := by subst hz0; rfl
        have HE : Hid ((sign c || (c == 35 && (i == 0)) || (c == 32 && ((i == 0) || decide (i = n - 1)))) = true) := hid (by rw [hd32, hz0]; simp)
        clear hd35 hd32 hsn hlt256 h35 hz0 h32
        have HQ : Hid ((acc ++ [92, c]) ++ valFrom (i + 1 == 0) (s.drop (i + 1)) = R) := hid (by have h := HA2.out; rw [byT_esc hk HE.out] at h; exact h)
        clear hk HA2 HE
        go_wp2_with (first | ((with_reducible refine K.atO (.index 9 _ _) ?_); refine idxZ HS HC rfl rfl rfl rfl ?_))
        refine (HIX.out _).mono ?_
        rintro e w2 ⟨rfl, rfl⟩
        go_wp2_with (first | ((with_reducible refine K.atO (.buildSlice 150 _ _) ?_); refine wpL_app2 rfl rfl _ _ _ _ rfl rfl HOA.out 92 c rfl rfl (fun _ => rfl) (fun _ => rfl) (by rw [HAL.out]; omega) ?_; intro q a4 c4 w4 HO4; rw [HAL.out] at HO4 ⊢))
        refine ⟨⟨i + 1, acc ++ [92, c], by go_num, HLT.out, by rw [List.length_append, HAL.out]; have := HAL3.out; simp; omega, hid ?_, hid HQ.out⟩, by have := HLT.out; simp [intOf]; omega⟩
        rw [show (acc ++ [92, c]).length = al + 2 by rw [List.length_append, HAL.out]; rfl]
        exact HO4.out
       ·have hb0 : ((i : Int) == 0) = false := by rw [beq_eq_false_iff_ne]; omega
        by_cases hz1 : i = n - 1
        ·have hb1 : ((i : Int) == (n : Int) - 1) = true := by rw [beq_iff_eq]; have := HLT.out; omega
         have HE : Hid ((sign c || (c == 35 && (i == 0)) || (c == 32 && ((i == 0) || decide (i = n - 1)))) = true) := hid (by rw [hd32, decide_eq_true hz1]; simp)
         clear hd35 hd32 hsn hlt256 h35 hz0 h32 hz1
         have HQ : Hid ((acc ++ [92, c]) ++ valFrom (i + 1 == 0) (s.drop (i + 1)) = R) := hid (by have h := HA2.out; rw [byT_esc hk HE.out] at h; exact h)
         clear hk HA2 HE
         go_wp2_with (first | ((with_reducible refine K.atO (.index 9 _ _) ?_); refine idxZ HS HC rfl rfl rfl rfl ?_))
         refine (HIX.out _).mono ?_
         rintro e w2 ⟨rfl, rfl⟩
         go_wp2_with (first | ((with_reducible refine K.atO (.buildSlice 150 _ _) ?_); refine wpL_app2 rfl rfl _ _ _ _ rfl rfl HOA.out 92 c rfl rfl (fun _ => rfl) (fun _ => rfl) (by rw [HAL.out]; omega) ?_; intro q a4 c4 w4 HO4; rw [HAL.out] at HO4 ⊢))
         refine ⟨⟨i + 1, acc ++ [92, c], by go_num, HLT.out, by rw [List.length_append, HAL.out]; have := HAL3.out; simp; omega, hid ?_, hid HQ.out⟩, by have := HLT.out; simp [intOf]; omega⟩
         rw [show (acc ++ [92, c]).length = al + 2 by rw [List.length_append, HAL.out]; rfl]
         exact HO4.out
        ·have hb1 : ((i : Int) == (n : Int) - 1) = false := by rw [beq_eq_false_iff_ne]; have := HLT.out; omega
         have HE : Hid ((sign c || (c == 35 && (i == 0)) || (c == 32 && ((i == 0) || decide (i = n - 1)))) = false) := hid (by rw [hd35, hsn, decide_eq_false hz1]; simpa using fun _ => hz0)
         clear hd35 hd32 hsn hlt256 h35 hz0 h32 hz1
         have HQ : Hid ((acc ++ [c]) ++ valFrom (i + 1 == 0) (s.drop (i + 1)) = R) := hid (by have h := HA2.out; rw [byT_raw hk HE.out] at h; exact h)
         clear hk HA2 HE
         go_wp2_with (first | ((with_reducible refine K.atO (.index 9 _ _) ?_); refine idxZ HS HC rfl rfl rfl rfl ?_))
         refine (HIX.out _).mono ?_
         rintro e w2 ⟨rfl, rfl⟩
         go_wp2_with (first | ((with_reducible refine K.atO (.buildSlice 150 _ _) ?_); refine wpL_appU rfl rfl HO.out (c.toNat : Int) rfl ?_; intro q a4 c4 w4 HO4 HF4))
         refine ⟨⟨i + 1, acc ++ [c], by go_num, HLT.out, by rw [List.length_append, HAL.out]; have := HAL3.out; simp; omega, hid ?_, hid HQ.out⟩, by have := HLT.out; simp [intOf]; omega⟩
         have h := HO4.out
         rw [show (acc ++ [c]).length = al + 1 by rw [List.length_append, HAL.out]; rfl]
         rwa [show u8s acc ++ [Value.int .u8 (c.toNat : Int)] = u8s (acc ++ [c]) by simp [u8s]] at h
      ·have h32i : ¬ (c.toNat : Int) = 32 := by omega
       rw [decide_eq_false h32] at hd32
       have HE : Hid ((sign c || (c == 35 && (i == 0)) || (c == 32 && ((i == 0) || decide (i = n - 1)))) = false) := hid (by rw [hd35, hd32, hsn]; rfl)
       clear hd35 hd32 hsn hlt256 h35 h32
       have HQ : Hid ((acc ++ [c]) ++ valFrom (i + 1 == 0) (s.drop (i + 1)) = R) := hid (by have h := HA2.out; rw [byT_raw hk HE.out] at h; exact h)
       clear hk HA2 HE
       go_wp2_with (first | ((with_reducible refine K.atO (.index 9 _ _) ?_); refine idxZ HS HC rfl rfl rfl rfl ?_))
       refine (HIX.out _).mono ?_
       rintro e w2 ⟨rfl, rfl⟩
       go_wp2_with (first | ((with_reducible refine K.atO (.buildSlice 150 _ _) ?_); refine wpL_appU rfl rfl HO.out (c.toNat : Int) rfl ?_; intro q a4 c4 w4 HO4 HF4))
       refine ⟨⟨i + 1, acc ++ [c], by go_num, HLT.out, by rw [List.length_append, HAL.out]; have := HAL3.out; simp; omega, hid ?_, hid HQ.out⟩, by have := HLT.out; simp [intOf]; omega⟩
       have h := HO4.out
       rw [show (acc ++ [c]).length = al + 1 by rw [List.length_append, HAL.out]; rfl]
       rwa [show u8s acc ++ [Value.int .u8 (c.toNat : Int)] = u8s (acc ++ [c]) by simp [u8s]] at h
  ·obtain rfl : i = n := by omega
   have hE := HA.out
   rw [← HNN.out, List.drop_length] at hE
   simp only [valFrom, List.append_nil] at hE
   obtain ⟨a1, c1, e1, hcap, h5⟩ := HO.out.reads
   obtain ⟨rfl, rfl⟩ := K.sj e1
   have hbi : BytesIn wr (fun _ => True) (.slice va al vc) R := by
    rw [← hE]
    exact ⟨_, _, _, rfl, HAL.out, hcap, h5.imp id fun ⟨g, e, _, hg, hr⟩ => ⟨g, 0, e, trivial, hg, hr⟩⟩
   have HBI := hid hbi
   clear hE hcap h5 hbi hal hi hlt
   go_wp2_with (first
    | ((with_reducible refine K.atO (.convert _ 9 _) ?_); refine wpL_stringOf rfl _ _ _ _ rfl _ _ R rfl HBI.out Tryz.underlying150 Tryz.underlying5 Tryz.underlying9 ?_))
   go_ret
   exact ⟨rfl, HO.out.fr⟩
end Go.Proofs.YtgbiicipkbpmeaaGreatDoor.DN
