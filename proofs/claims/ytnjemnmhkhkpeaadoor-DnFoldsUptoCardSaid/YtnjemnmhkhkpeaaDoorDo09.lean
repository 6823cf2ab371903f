/-
  Part 9 of the proof: DnRg, DnBw, DnBd.
-/
import Derived.Test.YtnjemnmhkhkpeaaDoorDo08
set_option linter.unusedSimpArgs false
set_option linter.unusedVariables false
namespace Go.Proofs.YtnjemnmhkhkpeaaDoor.K
set_option maxRecDepth 100000
open Go.RowKit
section
variable {P : Program}
/-- The iterator: its values come in the order of L, one a round, while the rounds go on; it turns no block but bx, which the rounds leave alone. -/
def SeqP (P : Program) (gf : Nat) (lb : Array Value) (L : List (Array Value)) (bx : Nat → Prop) (w : World) : Prop :=
  ∀ (l : Nat) (J Jx : Nat → World → Prop) (W : World), w.heap.size ≤ W.heap.size → (∀ i, bx i → W.heap[i]? = w.heap[i]?) →
    (∀ k A B, J k A → Fr No A B → J k B) → (∀ k A B, Jx k A → Fr No A B → Jx k B) →
    (∀ k x W1, J k W1 → L[k]? = some x → YieldAt Fence.wide 1 P l x W1 fun e W' =>
      (e = .returned (.bool true) ∧ J (k + 1) W' ∧ W1.heap.size ≤ W'.heap.size ∧ ∀ i, bx i → W'.heap[i]? = W1.heap[i]?) ∨ (e = .returned (.bool false) ∧ Jx (k + 1) W')) →
    J 0 W →
    CallsIn Fence.wide 2 P gf (#[.func (.yield l) #[] #[]] ++ lb) W fun e W' => (∃ v, e = .returned v) ∧ (J L.length W' ∨ ∃ k, Jx k W')
/-- What a round leaves alone: the iterator's block, and the two that the loop lays. -/
def KP (bx : Nat → Prop) (n : Nat) (W W' : World) : Prop := W.heap.size ≤ W'.heap.size ∧ ∀ i, bx i ∨ i = n ∨ i = n + 1 → i < W.heap.size → W'.heap[i]? = W.heap[i]?
/-- How a round ends. -/
def postP (bx : Nat → Prop) (n : Nat) (I : Nat → World → Prop) (Ix : Nat → World → Prop) (k : Nat) (W : World) : Exit → Act → World → Prop
  | .normal, _, W' => KP bx n W W' ∧ I k W'
  | .ret, _, W' => KP bx n W W' ∧ Ix k W'
  | _, _, _ => False
theorem noOut_postP {bx : Nat → Prop} {n : Nat} {I Ix : Nat → World → Prop} {k : Nat} {W : World} : ¬ LetsOut (postP bx n I Ix k W) := fun ⟨_, _, h⟩ => h
theorem KP_fr {bx : Nat → Prop} {n : Nat} {D : Nat → Prop} {W W' : World} (h : Fr D W W') (hD : ∀ i, bx i ∨ i = n ∨ i = n + 1 → ¬ D i) : KP bx n W W' := ⟨h.size, fun i hi hl => h.block i hl (hD i hi)⟩
theorem wp_rangeP {g : Operand} {ps : Array Tmp} {assign body : Code} {Q : Exit → Act → World → Prop} {a : Act} {w : World} {gf : Nat} {lb : Array Value} (hg : a.eval g = .func (.func gf) #[] lb) (eg : ∀ args w, (callFunc gf args).run P w = .ok (.enter gf args) w)
    {L : List (Array Value)} {bx : Nat → Prop} (hbx : ∀ i, bx i → i < w.heap.size) (hseq : SeqP P gf lb L bx w) (hps : ∀ (k : Nat) x, L[k]? = some x → x.size = ps.size)
    (I Ix : Nat → World → Prop) (hI : ∀ k A B, I k A → Fr (fun i => i = w.heap.size ∨ i = w.heap.size + 1) A B → I k B) (hIx : ∀ k A B, Ix k A → Fr (fun i => i = w.heap.size ∨ i = w.heap.size + 1) A B → Ix k B) (h0 : I 0 w) (a₁ : Array Value → Act)
    (hassign : ∀ (l k : Nat) (x : Array Value) (W : World) (K : Act → World → Prop), L[k]? = some x → K (a₁ x) W →
      assign.wpIn (Fence.wide.inRound l) 1 P (Exit.then K (fun _ _ _ => False)) { tmps := (ps.zip x).foldl (fun t (p, v) => t.setIfInBounds p v) a.tmps, defers := [] } W)
    (hbody : ∀ (l k : Nat) (x : Array Value) (W : World), L[k]? = some x → w.heap.size + 2 ≤ W.heap.size → I k W → body.wpIn (Fence.wide.inRound l) 1 P (postP bx w.heap.size I Ix (k + 1) W) (a₁ x) W)
    (hdone : ∀ (W : World), I L.length W → W.heap[w.heap.size]? = some (.deferred (some [])) → Q .normal { a with defers := { target := .collected w.heap.size, args := #[] } :: a.defers } W)
    (hstop : ∀ (k : Nat) (W : World), Ix k W → W.heap[w.heap.size]? = some (.deferred (some [])) → Q .ret { a with defers := { target := .collected w.heap.size, args := #[] } :: a.defers } W) :
    (Code.rangeFunc g ps assign body).wp P Q a w := by
  refine (wpIn_wide (n := 3)).1 (wpIn_rangeFunc fun fn hfn => ?_)
  show ∃ (l : Nat) (mark : List Deferred) (w₁ : World) (d : Deferred) (w₁' : World) (f : FuncId) (args : Array Value) (w₂ : World), (Instr.enterLoop fn a.tmps ps assign body none).run P w = .ok (l, mark) w₁ ∧ _
  obtain ⟨n, hn⟩ : ∃ n, w.heap.size = n := ⟨_, rfl⟩
  obtain ⟨rec, hrec⟩ : ∃ rec : LoopState → Option Code → Loop, rec = fun st pe => { state := st, pending := pe, fn, tmps := a.tmps, params := ps, assign, body, defers := n } := ⟨_, rfl⟩
  obtain ⟨W1, hW1⟩ : ∃ W1, (w.alloc (.deferred (some []))).alloc (.loop (rec .ready none)) = W1 := ⟨_, rfl⟩
  have hf1 : Fr No w W1 := by rw [← hW1]; exact ((Fr.refl No w).alloc _).alloc _
  have hs1 : W1.heap.size = n + 2 := by rw [← hW1]; simp [hn]
  have hL1 : W1.heap[n + 1]? = some (.loop (rec .ready none)) := by
    rw [← hW1]
    have := World.alloc_heap_new (w.alloc (.deferred (some []))) (.loop (rec .ready none))
    rwa [World.size_alloc, hn] at this
  have hK1 : W1.heap[n]? = some (.deferred (some [])) := by
    rw [← hW1, ← hn]
    exact (Below.heap_alloc _ _ _ (by simp)).trans (World.alloc_heap_new w _)
  have hput : ∀ (W : World) (i : Nat) (o : Obj), i = n ∨ i = n + 1 → Fr (fun i => i = w.heap.size ∨ i = w.heap.size + 1) W (W.putObj i o) := fun W i o hi => (fr_put i o).mono fun k e => by
    rw [hn]
    have : k = i := e
    omega
  have hb : ∀ {A B : World} {i : Nat} {o : Obj}, Fr No A B → A.heap[i]? = some o → i = n ∨ i = n + 1 → B.heap[i]? = some o := fun {A B i o} hf h hi =>
    (hf.block i (Array.getElem?_eq_some_iff.1 h).1 id).trans h
  refine ⟨n + 1, [{ target := .collected n, args := #[] }], W1, { target := .fn (.func gf) lb, args := #[.func (.yield (n + 1)) #[] #[]] }, W1, gf, #[.func (.yield (n + 1)) #[] #[]] ++ lb, W1, ?_, ?_, fun _ _ => trivial, ?_, fun _ => by decide, ?_⟩
  · rw [← hW1, hrec, ← hn]; exact run_enterLoop_outer _ _ _ _ _
  · simp only [resolve, hg]
    simp [go_sem]
  · simp [invoke, go_sem, eg]
  refine (hseq (n + 1) (fun k W => I k W ∧ W.heap[n + 1]? = some (.loop (rec .ready none)) ∧ W.heap[n]? = some (.deferred (some [])))
    (fun k W => Ix k W ∧ W.heap[n + 1]? = some (.loop (rec .done (some .ret))) ∧ W.heap[n]? = some (.deferred (some []))) W1 (by omega) (fun i hi => hf1.block i (by have := hbx i hi; omega) id)
    (fun k A B h hf => ⟨hI k A B h.1 hf.no, hb hf h.2.1 (.inr rfl), hb hf h.2.2 (.inl rfl)⟩)
    (fun k A B h hf => ⟨hIx k A B h.1 hf.no, hb hf h.2.1 (.inr rfl), hb hf h.2.2 (.inl rfl)⟩) ?_ ⟨hI 0 w W1 h0 hf1.no, hL1, hK1⟩).mono ?_
  · rintro k x W ⟨hi, hl, hk⟩ hx
    have hlt : n + 1 < W.heap.size := (Array.getElem?_eq_some_iff.1 hl).1
    have hy := run_yield (P := P) (args := x) hl (by rw [hrec]; exact hps k x hx)
    rw [hrec] at hy
    refine ⟨fn, _, assign, body, hy, roundIn_of_wpIn hfn (hassign _ k x W _ hx ⟨_, run_beginRound hl (by rw [hrec]), ?_⟩)⟩
    obtain ⟨W2, hW2⟩ : ∃ W2, W.putObj (n + 1) (.loop { rec .ready none with state := .busy }) = W2 := ⟨_, rfl⟩
    have hl2 : W2.heap[n + 1]? = some (.loop { rec .ready none with state := .busy }) := by rw [← hW2]; exact World.putObj_heap_same hlt
    have hk2 : W2.heap[n]? = some (.deferred (some [])) := by rw [← hW2]; exact (World.putObj_heap_other (by omega)).trans hk
    have hs2 : W2.heap.size = W.heap.size := by rw [← hW2]; simp
    have hbx2 : ∀ i, bx i → W2.heap[i]? = W.heap[i]? := fun i hi => by rw [← hW2]; exact World.putObj_heap_other (by have := hbx i hi; omega)
    have hi2 : I k W2 := by rw [← hW2]; exact hI k _ _ hi (hput _ _ _ (.inr rfl))
    rw [hW2]
    have fin : ∀ (jump : Option Code) (W3 : World), KP bx n W2 W3 →
        (Instr.endRound (n + 1) jump).run P W3 = .ok (.bool jump.isNone) (W3.putObj (n + 1) (.loop (rec (if jump.isNone then .ready else .done) jump))) ∧
        (W3.putObj (n + 1) (.loop (rec (if jump.isNone then .ready else .done) jump))).heap[n + 1]? = some (.loop (rec (if jump.isNone then .ready else .done) jump)) ∧
        (W3.putObj (n + 1) (.loop (rec (if jump.isNone then .ready else .done) jump))).heap[n]? = some (.deferred (some [])) := fun jump W3 hk3 => by
      have hl3 := (hk3.2 (n + 1) (.inr (.inr rfl)) (by omega)).trans hl2
      have := run_endRound (P := P) jump hl3
      rw [hrec] at this ⊢
      exact ⟨this, World.putObj_heap_same (Array.getElem?_eq_some_iff.1 hl3).1, (World.putObj_heap_other (by omega)).trans ((hk3.2 n (.inr (.inl rfl)) (by omega)).trans hk2)⟩
    have hb2 := hbody (n + 1) k x W2 hx (by omega) hi2
    rw [hn] at hb2
    refine wpIn_mono hb2 ?_
    rintro e a3 W3 hp
    cases e with
    | normal =>
      obtain ⟨hk3, hi3⟩ := hp
      obtain ⟨hr, hl4, hk4⟩ := fin none W3 hk3
      refine ⟨_, _, hr, .inl ⟨rfl, ⟨hI _ _ _ hi3 (hput _ _ _ (.inr rfl)), hl4, hk4⟩, by have := hk3.1; simp; omega, ?_⟩⟩
      intro i hi
      exact (World.putObj_heap_other (by have := hbx i hi; omega)).trans ((hk3.2 i (.inl hi) (by have := hbx i hi; omega)).trans (hbx2 i hi))
    | ret =>
      obtain ⟨hk3, hi3⟩ := hp
      obtain ⟨hr, hl4, hk4⟩ := fin (some .ret) W3 hk3
      exact ⟨_, _, hr, .inr ⟨rfl, hIx _ _ _ hi3 (hput _ _ _ (.inr rfl)), hl4, hk4⟩⟩
    | exit id => exact hp.elim
    | goto t => exact hp.elim
    | panic ch => exact hp.elim
    | outgrown => exact hp.elim
  · rintro e W2 ⟨⟨v, rfl⟩, (⟨hi, hl, hk⟩ | ⟨k, hi, hl, hk⟩)⟩
    · refine ⟨none, W2.putObj (n + 1) (.loop { rec .ready none with state := .exhausted }), by have := run_endLoop (P := P) hl (by rw [hrec]; simp); rw [hrec] at this ⊢; exact this, ?_⟩
      have := hdone _ (hI _ _ _ hi (hput W2 (n + 1) (.loop { rec .ready none with state := .exhausted }) (.inr rfl))) (by rw [hn]; exact (World.putObj_heap_other (by omega)).trans hk)
      rw [hn] at this
      exact this
    · refine ⟨some .ret, W2.putObj (n + 1) (.loop { rec .done (some .ret) with state := .exhausted }), by have := run_endLoop (P := P) hl (by rw [hrec]; simp); rw [hrec] at this ⊢; exact this, ?_⟩
      have := hstop k _ (hIx _ _ _ hi (hput W2 (n + 1) (.loop { rec .done (some .ret) with state := .exhausted }) (.inr rfl))) (by rw [hn]; exact (World.putObj_heap_other (by omega)).trans hk)
      rw [hn] at this
      exact wpIn_ret this
/-- The same with two variables, which are assigned plainly. -/
theorem wp_rangeP2 {g : Operand} {p q d e id1 id2 : Nat} {t1 t2 : TypeId} {s1 s2 : String} {body : Code} {Q : Exit → Act → World → Prop} {a : Act} {w : World} {gf : Nat} {lb : Array Value} (hg : a.eval g = .func (.func gf) #[] lb) (eg : ∀ args w, (callFunc gf args).run P w = .ok (.enter gf args) w)
    {L : List (Array Value)} {bx : Nat → Prop} (hbx : ∀ i, bx i → i < w.heap.size) (hseq : SeqP P gf lb L bx w) (hps : ∀ (k : Nat) x, L[k]? = some x → ∃ v0 v1, x = #[v0, v1]) (hp : p < a.tmps.size) (hq : q < a.tmps.size) (hpq : p ≠ q) (hdq : d ≠ q)
    (I Ix : Nat → World → Prop) (hI : ∀ k A B, I k A → Fr (fun i => i = w.heap.size ∨ i = w.heap.size + 1) A B → I k B) (hIx : ∀ k A B, Ix k A → Fr (fun i => i = w.heap.size ∨ i = w.heap.size + 1) A B → Ix k B) (h0 : I 0 w)
    (hbody : ∀ (l k : Nat) (v0 v1 : Value) (W : World), L[k]? = some #[v0, v1] → w.heap.size + 2 ≤ W.heap.size → I k W →
      body.wpIn (Fence.wide.inRound l) 1 P (postP bx w.heap.size I Ix (k + 1) W) { tmps := (((a.tmps.setIfInBounds p v0).setIfInBounds q v1).setIfInBounds d v0).setIfInBounds e v1, defers := [] } W)
    (hdone : ∀ (W : World), I L.length W → W.heap[w.heap.size]? = some (.deferred (some [])) → Q .normal { a with defers := { target := .collected w.heap.size, args := #[] } :: a.defers } W)
    (hstop : ∀ (k : Nat) (W : World), Ix k W → W.heap[w.heap.size]? = some (.deferred (some [])) → Q .ret { a with defers := { target := .collected w.heap.size, args := #[] } :: a.defers } W) :
    (Code.rangeFunc g #[p, q] ((Code.region id1 #[{ dst := some d, op := .assign (.tmp p), type := t1, pos := s1, after := #[], guard := none }] false).seq (Code.region id2 #[{ dst := some e, op := .assign (.tmp q), type := t2, pos := s2, after := #[], guard := none }] false)) body).wp P Q a w := by
  refine wp_rangeP hg eg hbx hseq (fun k x hx => ?_) I Ix hI hIx h0
    (fun x => { tmps := (((a.tmps.setIfInBounds p (x.getD 0 undef)).setIfInBounds q (x.getD 1 undef)).setIfInBounds d (x.getD 0 undef)).setIfInBounds e (x.getD 1 undef), defers := [] }) (fun l k x W K hx hK => ?_) (fun l k x W hx hW hi => ?_) hdone hstop
  · obtain ⟨v0, v1, rfl⟩ := hps k x hx
    rfl
  · obtain ⟨v0, v1, rfl⟩ := hps k x hx
    refine wpIn_seq ?_
    refine wpIn_region_plain (ls := [{ dst := some d, op := .assign (.tmp p), type := t1, pos := s1, after := #[], guard := none }]) rfl (fun ⟨_, _, h⟩ => h) ?_
    refine wpList_plain rfl fun K1 hK1 => ?_
    unfold Oper.wp execOp
    have h1 : (({ tmps := (Array.zip #[p, q] #[v0, v1]).foldl (fun t (p, v) => t.setIfInBounds p v) a.tmps, defers := [] } : Act).eval (.tmp p)) = v0 := by
      have hqp : ¬ q = p := fun h => hpq h.symm
      simp [Act.eval, hp, Array.getElem?_setIfInBounds, hqp]
    simp only [h1, Sem.run_pure]
    refine hK1 _ _ (wpList_nil ?_)
    show (Code.region id2 #[{ dst := some e, op := .assign (.tmp q), type := t2, pos := s2, after := #[], guard := none }] false).wpIn (Fence.wide.inRound l) 1 P _ _ W
    refine wpIn_region_plain (ls := [{ dst := some e, op := .assign (.tmp q), type := t2, pos := s2, after := #[], guard := none }]) rfl (fun ⟨_, _, h⟩ => h) ?_
    refine wpList_plain rfl fun K2 hK2 => ?_
    unfold Oper.wp execOp
    have h2 : ((({ tmps := (Array.zip #[p, q] #[v0, v1]).foldl (fun t (p, v) => t.setIfInBounds p v) a.tmps, defers := [] } : Act).put (some d) v0).eval (.tmp q)) = v1 := by
      simp [Act.eval, Act.put, hq, Array.getElem?_setIfInBounds, hdq]
    simp only [h2, Sem.run_pure]
    refine hK2 _ _ (wpList_nil ?_)
    simpa [Act.put, Exit.then] using hK
  · obtain ⟨v0, v1, rfl⟩ := hps k x hx
    exact hbody l k v0 v1 W hx hW hi
/-- The same where the second alone is assigned. -/
theorem wp_rangePb {g : Operand} {p q e id2 : Nat} {t2 : TypeId} {s2 : String} {body : Code} {Q : Exit → Act → World → Prop} {a : Act} {w : World} {gf : Nat} {lb : Array Value} (hg : a.eval g = .func (.func gf) #[] lb) (eg : ∀ args w, (callFunc gf args).run P w = .ok (.enter gf args) w)
    {L : List (Array Value)} {bx : Nat → Prop} (hbx : ∀ i, bx i → i < w.heap.size) (hseq : SeqP P gf lb L bx w) (hps : ∀ (k : Nat) x, L[k]? = some x → ∃ v0 v1, x = #[v0, v1]) (hq : q < a.tmps.size)
    (I Ix : Nat → World → Prop) (hI : ∀ k A B, I k A → Fr (fun i => i = w.heap.size ∨ i = w.heap.size + 1) A B → I k B) (hIx : ∀ k A B, Ix k A → Fr (fun i => i = w.heap.size ∨ i = w.heap.size + 1) A B → Ix k B) (h0 : I 0 w)
    (hbody : ∀ (l k : Nat) (v0 v1 : Value) (W : World), L[k]? = some #[v0, v1] → w.heap.size + 2 ≤ W.heap.size → I k W →
      body.wpIn (Fence.wide.inRound l) 1 P (postP bx w.heap.size I Ix (k + 1) W) { tmps := ((a.tmps.setIfInBounds p v0).setIfInBounds q v1).setIfInBounds e v1, defers := [] } W)
    (hdone : ∀ (W : World), I L.length W → W.heap[w.heap.size]? = some (.deferred (some [])) → Q .normal { a with defers := { target := .collected w.heap.size, args := #[] } :: a.defers } W)
    (hstop : ∀ (k : Nat) (W : World), Ix k W → W.heap[w.heap.size]? = some (.deferred (some [])) → Q .ret { a with defers := { target := .collected w.heap.size, args := #[] } :: a.defers } W) :
    (Code.rangeFunc g #[p, q] (Code.region id2 #[{ dst := some e, op := .assign (.tmp q), type := t2, pos := s2, after := #[], guard := none }] false) body).wp P Q a w := by
  refine wp_rangeP hg eg hbx hseq (fun k x hx => ?_) I Ix hI hIx h0
    (fun x => { tmps := ((a.tmps.setIfInBounds p (x.getD 0 undef)).setIfInBounds q (x.getD 1 undef)).setIfInBounds e (x.getD 1 undef), defers := [] }) (fun l k x W K hx hK => ?_) (fun l k x W hx hW hi => ?_) hdone hstop
  · obtain ⟨v0, v1, rfl⟩ := hps k x hx
    rfl
  · obtain ⟨v0, v1, rfl⟩ := hps k x hx
    refine wpIn_region_plain (ls := [{ dst := some e, op := .assign (.tmp q), type := t2, pos := s2, after := #[], guard := none }]) rfl (fun ⟨_, _, h⟩ => h) ?_
    refine wpList_plain rfl fun K2 hK2 => ?_
    unfold Oper.wp execOp
    have h2 : (({ tmps := (Array.zip #[p, q] #[v0, v1]).foldl (fun t (p, v) => t.setIfInBounds p v) a.tmps, defers := [] } : Act).eval (.tmp q)) = v1 := by
      simp [Act.eval, hq, Array.getElem?_setIfInBounds]
    simp only [h2, Sem.run_pure]
    refine hK2 _ _ (wpList_nil ?_)
    simpa [Act.put, Exit.then] using hK
  · obtain ⟨v0, v1, rfl⟩ := hps k x hx
    exact hbody l k v0 v1 W hx hW hi
end
end Go.Proofs.YtnjemnmhkhkpeaaDoor.K
namespace Go.Proofs.YtnjemnmhkhkpeaaDoor.DN
set_option maxRecDepth 100000
open Go.RowKit K Go.Proofs.YtnjemnmhkhkpeaaDoor.BE
theorem backward_any (v : Value) (hv : v.oneCell' = true) (w : World) : Calls Tryd.prog 25 #[v] w fun e w' =>
    e = .returned (.func (.func 38) #[] #[.pointer (some ⟨w.heap.size, 0, none⟩)]) ∧ Blk w' w.heap.size 23 [v] ∧ Fr No w w' ∧ w'.heap.size = w.heap.size + 1 := by
  have hmf : ∀ (fn : Fn) (first cap : Array Value) (w : World), (Instr.makeFunc fn first cap).run Tryd.prog w = .ok (.func fn first cap) w := fun _ _ _ _ => rfl
  go_enter Tryd.func25, Tryd.ntmps25
  go_wp2_with (first
    | ((with_reducible refine K.atO (.box 23 _) ?_); refine wpL_box rfl _ _ rfl v rfl [v] (by cases v <;> first | rfl | cases hv) ?_; intro w1 HB1 HF1 HS1)
    | fail)
  go_ret
  exact ⟨rfl, HB1.out, HF1.out, HS1.out⟩
/-- What the rounds are handed. -/
def yb (n : Nat) (vs : List Value) : List (Array Value) := (List.range n).map fun k => #[.int .i64 ((n - 1 - k : Nat) : Int), vs.getD (n - 1 - k) undef]
theorem yb_length (n : Nat) (vs : List Value) : (yb n vs).length = n := by simp [yb]
theorem yb_get {n : Nat} {vs : List Value} {k : Nat} (hk : k < n) : (yb n vs)[k]? = some #[.int .i64 ((n - 1 - k : Nat) : Int), vs.getD (n - 1 - k) undef] := by simp [yb, hk]
theorem yb_at {n : Nat} {vs : List Value} {k : Nat} {x : Array Value} (h : (yb n vs)[k]? = some x) : k < n ∧ x = #[.int .i64 ((n - 1 - k : Nat) : Int), vs.getD (n - 1 - k) undef] := by
  have hk : k < n := by have := (List.getElem?_eq_some_iff.1 h).1; rwa [yb_length] at this
  rw [yb_get hk] at h
  exact ⟨hk, (Option.some.inj h).symm⟩
theorem range_same {w w' : World} {g o : Nat} {cs : List Value} (h : w.rangeAt g o cs) (e : w'.heap[g]? = w.heap[g]?) : w'.rangeAt g o cs := fun j v hj => by
  have := h j v hj
  unfold World.cell? at this ⊢
  simpa [e] using this
theorem blk_same {w w' : World} {b : Nat} {t : TypeId} {cs : List Value} (h : Blk w b t cs) (e : w'.heap[b]? = w.heap[b]?) : Blk w' b t cs := e.trans h
set_option maxHeartbeats 4000000 in
theorem backward_seq (bx g o n cap : Nat) (a : Option Addr) (vs : List Value) (hn : n ≤ 1048576) (hc : n ≤ cap) (hvn : vs.length = n) (w : World) (hb : Blk w bx 23 [.slice a n cap]) (h : n = 0 ∨ (a = some ⟨g, o, none⟩ ∧ w.rangeAt g o vs)) :
    SeqP Tryd.prog 38 #[.pointer (some ⟨bx, 0, none⟩)] (yb n vs) (fun i => i = bx ∨ i = g) w := by
  intro l J Jx W hW hWb hJ hJx hY h0
  have HB := hid (blk_same hb (hWb bx (.inl rfl)))
  have HA : Hid (n = 0 ∨ (a = some ⟨g, o, none⟩ ∧ W.rangeAt g o vs)) := hid (h.imp id fun h => ⟨h.1, range_same h.2 (hWb g (.inr rfl))⟩)
  have hni : (n : Int) ≤ 1048576 := by omega
  have c1 : W.cell? ⟨bx, 0, none⟩ = some (.slice a n cap) := HB.out.cell 0
  have HVN := hid hvn
  clear hb hWb hW h hvn
  refine callsIn_of_wp Tryd.func38 rfl trivial ?_ rfl
  simp only [Tryd.ntmps38, List.size_toArray, List.length_cons, List.length_nil, Nat.reduceAdd, Nat.reduceSub, Array.replicate_succ, Array.replicate_zero, List.push_toArray, List.append_toArray, List.nil_append, List.cons_append]
  gi_wp2_with fail
  gi_loopw [3] (fun iv wr => ∃ (k : Nat), iv = .int .i64 ((n : Int) - 1 - k) ∧ k ≤ n ∧ J k wr ∧ Hid (wr.heap[bx]? = W.heap[bx]? ∧ wr.heap[g]? = W.heap[g]?)) (fun iv _ => (intOf iv + 1).toNat)
  case atStart => exact ⟨0, by simp, Nat.zero_le _, h0, hid ⟨rfl, rfl⟩⟩
  case round =>
    obtain ⟨k, rfl, hk, hJs, HE⟩ := hrel
    by_cases hlt : k < n
    · obtain ⟨i, hi⟩ : ∃ i : Nat, (n : Int) - 1 - k = i := ⟨n - 1 - k, by omega⟩
      have hin : n - 1 - k = i := by omega
      obtain ⟨rfl, hr⟩ := HA.out.resolve_left (by omega)
      have hx := yb_get (vs := vs) hlt
      rw [hin] at hx
      obtain ⟨v, hv⟩ : ∃ v, vs[i]? = some v := ⟨_, List.getElem?_eq_getElem (by rw [HVN.out]; omega)⟩
      have hvd : vs.getD i undef = v := by rw [List.getD_eq_getElem?_getD, hv]; rfl
      rw [hvd] at hx
      have d1 : wr.cell? ⟨bx, 0, none⟩ = some (.slice (some ⟨g, o, none⟩) n cap) := (blk_same HB.out HE.out.1).cell 0
      have d2 : wr.cell? ⟨g, o + i, none⟩ = some v := range_same hr HE.out.2 i v hv
      obtain ⟨fn, tmps, assign, body, hy, hR⟩ := hY k _ wr hJs hx
      have hi0 : (0 : Int) ≤ i := by omega
      have hil : (i : Int) < n := by omega
      have HI := hid (show (n : Int) - 1 - k = i ∧ k < n from ⟨hi, hlt⟩)
      rw [hi]
      clear hr hx hv hvd hlt hin hi hk c1
      gi_wp2_with fail
      refine hR.mono ?_
      rintro e3 W3 (⟨rfl, hJ3, -, hk3⟩ | ⟨rfl, hJx3⟩)
      · have HE3 : Hid (W3.heap[bx]? = W.heap[bx]? ∧ W3.heap[g]? = W.heap[g]?) := hid ⟨(hk3 bx (.inl rfl)).trans HE.out.1, (hk3 g (.inr rfl)).trans HE.out.2⟩
        clear hk3 d1 d2
        gi_wp2_with fail
        go_roundw
        case rel => exact ⟨k + 1, by have := HI.out.1; congr 1; push_cast; omega, HI.out.2, hJ3, HE3⟩
        case measure =>
          have := HI.out
          first | (simp [intOf]; omega) | simp [intOf]
      · gi_wp2_with fail
        refine bodyPost_ret (results_none rfl _ _ _) rfl ?_
        exact ⟨⟨_, rfl⟩, .inr ⟨_, hJx3⟩⟩
    · obtain rfl : k = n := by omega
      have hneg : ¬ (0 : Int) ≤ (k : Int) - 1 - k := by omega
      have hneg2 : (k : Int) - 1 - k = -1 := by omega
      rw [hneg2]
      clear hneg hneg2
      gi_wp2_with fail
      refine bodyPost_end (results_none rfl _ _ _) rfl ?_
      exact ⟨⟨_, rfl⟩, .inl (by rw [yb_length]; exact hJs)⟩
/-- A builder in block b, below base, that holds these bytes; its row is new since base. -/
def BW (base b : Nat) (l : B) (w : World) : Prop := b < base ∧ ∃ p v, Blk w b 53 [p, v] ∧ (p = .pointer none ∨ p = .pointer (some ⟨b, 0, none⟩)) ∧ w.ownsRow base 5 1 v l.length (u8s l)
def BDm (base b : Nat) (k : Nat) : Prop := k = b ∨ base ≤ k
theorem BW.fr {base b : Nat} {l : B} {D : Nat → Prop} {w w' : World} (h : BW base b l w) (hf : Fr D w w') (hD : ∀ k, D k → k ≠ b ∧ (k < base ∨ w.heap.size ≤ k)) : BW base b l w' := by
  obtain ⟨h1, p, v, h3, h4, h5⟩ := h
  exact ⟨h1, p, v, h3.fr hf (fun e => (hD _ e).1 rfl), h4, own_fr h5 hf fun k hk e => by have := own_ge h5 k hk; have := (hD k e).2; omega⟩
theorem BW.build {base b : Nat} {l : B} {w : World} (h : BW base b l w) (b0 : Nat) (h0 : b0 ≤ b) : Bld b0 b l w := by
  obtain ⟨h1, p, v, h3, h4, h5⟩ := h
  have hl : (Lib.byteCells l).length = l.length := by simp [Lib.byteCells]
  have hB : Lib.BuilderAt 53 5 b0 b p (Lib.byteCells l) w := by
    refine ⟨h0, v, h3, ?_, fun e => by have := own_ge h5 _ e; omega⟩
    rw [hl]
    show w.ownsRow b0 5 1 v l.length (u8s l)
    refine ⟨h5.1, ?_⟩
    rcases h5.2 with e | ⟨g, cap, cur, e1, e2, e3⟩
    · exact .inl e
    · exact .inr ⟨g, cap, cur, e1, by omega, e3⟩
  rcases h4 with rfl | rfl
  · exact .inl hB
  · exact .inr hB
theorem infoB8 : (Tryd.prog.info? 51).map (·.size) = some 1 := by kernel_rfl
theorem lays240 : Go.Proofs.Lays.n240 Tryd.prog lays156_ren := { lays156 with }
theorem copyCheck_any (base b : Nat) (l : B) (w : World) (h : BW base b l w) (hbw : base ≤ w.heap.size) : Calls Tryd.prog 39 #[.pointer (some ⟨b, 0, none⟩)] w fun e w' =>
    (∃ v, e = .returned v) ∧ (∃ v, Blk w' b 53 [.pointer (some ⟨b, 0, none⟩), v] ∧ w'.ownsRow base 5 1 v l.length (u8s l)) ∧ Fr (fun k => k = b) w w' := by
  obtain ⟨h1, p, v, h3, h4, h5⟩ := h
  rcases h4 with rfl | rfl
  · refine (Any.Builder_copyCheck_fresh lays240 extra156.toX72 b w (h3.cell 0) ?_ (h3.frozen 0)).mono ?_
    · have : w.heap[b]? = _ := h3
      simp [World.shape?, this]
      rfl
    · rintro e w' ⟨rfl, rfl⟩
      have hf : Fr (fun k => k = b) w (w.setCell ⟨b, 0, none⟩ (.pointer (some ⟨b, 0, none⟩))) := (Fr.refl _ w).setCell _ _ (.inl rfl)
      refine ⟨⟨_, rfl⟩, ⟨v, h3.set 0 _, own_fr h5 hf fun k hk e => by have := own_ge h5 k hk; omega⟩, hf⟩
  · refine (Any.Builder_copyCheck_used lays240 extra156.toX72 b w (h3.cell 0)).mono ?_
    rintro e w' ⟨rfl, rfl⟩
    exact ⟨⟨_, rfl⟩, ⟨v, h3, h5⟩, Fr.refl _ _⟩
theorem BW.fin {base b n m : Nat} {w w1 w3 w4 : World} {va a3 : Option Addr} {vc cp3 : Nat} {l L : B} (hb : b < base) (hbw : base ≤ w.heap.size) (f1 : Fr (fun k => k = b) w w1) (hO1 : w1.ownsRow base 5 1 (.slice va n vc) n (u8s l))
    (f3 : Fr (fun k => (Value.slice va n vc).ownBlock = some k) w1 w3) (hO3 : w3.ownsRow base 5 1 (.slice a3 m cp3) m (u8s L)) (hm : L.length = m)
    (hB4 : Blk w4 b 53 ([.pointer (some ⟨b, 0, none⟩), .slice va n vc].set 1 (.slice a3 m cp3))) (f4 : Fr (fun k => k = b) w3 w4) : BW base b L w4 ∧ Fr (BDm base b) w w4 := by
  subst hm
  have hf : Fr (BDm base b) w w4 := ((f1.mono fun k e => .inl e).trans' (f3.mono fun k e => .inr (own_ge hO1 k e).1)).trans' (f4.mono fun k e => .inl e)
  exact ⟨⟨hb, _, _, hB4, .inr rfl, own_fr hO3 f4 fun k hk e => by have := own_ge hO3 k hk; omega⟩, hf⟩
set_option maxHeartbeats 4000000 in
theorem writeByteW_any (base b : Nat) (l : B) (c : UInt8) (w : World) (h : BW base b l w) (hbw : base ≤ w.heap.size) (hl : l.length + 1 ≤ 140737488355328) :
    Calls Tryd.prog 27 #[.pointer (some ⟨b, 0, none⟩), .int .u8 (c.toNat : Int)] w fun e w' => (∃ v, e = .returned v) ∧ BW base b (l ++ [c]) w' ∧ Fr (BDm base b) w w' := by
  obtain ⟨i0, hi0, hz0, hs0, hb0⟩ := Go.info_parts infoU
  have HH := hid h
  have HL := hid hl
  have HBW := hid hbw
  have HIS := hid hi0; have HZS := hid hz0; have HSS := hid hs0; have HBS := hid hb0
  obtain ⟨C, hC⟩ : ∃ C : Int, (c.toNat : Int) = C := ⟨_, rfl⟩
  have HC := hid hC
  rw [hC]
  clear h hl hbw hi0 hz0 hs0 hb0 hC
  go_enter Tryd.func27, Tryd.ntmps27
  go_wp2_with fail
  refine (copyCheck_any base b l w HH.out HBW.out).mono ?_
  rintro e w1 ⟨⟨v0, rfl⟩, ⟨v, hB1, hO1⟩, f1⟩
  have HB1 := hid hB1; have HO1 := hid hO1; have HF1 := hid f1
  have HN := hid (show b < base ∧ base ≤ w1.heap.size from ⟨HH.out.1, Nat.le_trans HBW.out f1.size⟩)
  obtain ⟨va, vc, rfl, -, -⟩ := own_form hO1
  have c1 : w1.cell? ⟨b, 1, none⟩ = some (.slice va l.length vc) := hB1.cell 1
  clear hB1 hO1 f1
  go_wp2_with (first
    | ((with_reducible refine K.atO (.buildSlice 51 _ _) ?_); refine wpL_buildOne rfl _ 5 _ rfl i0 _ rfl HIS.out HZS.out (by rw [HSS.out]; decide) (by rw [HSS.out]; decide) _ [.int .u8 C] rfl rfl (by rw [HSS.out]; rfl) ?_; intro w2 HA2 FA2 SA2)
    | ((with_reducible refine K.atO (.call { callee := .builtin .append, args := _, argTypes := _ }) ?_); refine wpL_append rfl _ _ 51 rfl base 5 i0 _ 1 1 Tryd.underlying51 HIS.out HZS.out HSS.out HBS.out rfl (by decide) (.slice va l.length vc) l.length (u8s l) rfl (own_fr HO1.out FA2.out (fun _ _ e => e)) (some ⟨w1.heap.size, 0, none⟩) 1 1 [.int .u8 C] rfl rfl (.inr ⟨_, rfl, HA2.out.news⟩) (by intro u hu; simp at hu; subst hu; rfl) (by unfold maxLen; have := HL.out; omega) (by have := HL.out; omega) (Nat.le_trans HN.out.2 FA2.out.size) ?_; intro a3 cp3 w3 HO3 HG3 HA3;
        (have HF3 : Hid (Fr (fun k => (Value.slice va l.length vc).ownBlock = some k) w1 w3) := hid (FA2.out.no.trans' (frown HG3.out)));
        (have HB3 : Hid (Blk w3 b 53 [.pointer (some ⟨b, 0, none⟩), .slice va l.length vc]) := hid (HB1.out.fr HF3.out (fun e => by have := own_ge HO1.out _ e; have := HN.out; omega))))
    | ((with_reducible refine K.atO (.store 51 _ _) ?_); refine wpL_setV rfl _ _ _ rfl b 1 (.slice a3 (l.length + 1) cp3) rfl rfl rfl rfl _ _ HB3.out (by simp) infoB8 ?_; intro w4 HB4 F4 HS4)
    | fail)
  go_ret
  refine ⟨⟨_, rfl⟩, ?_⟩
  refine BW.fin (L := l ++ [c]) HN.out.1 HBW.out HF1.out HO1.out HF3.out (by rw [show u8s (l ++ [c]) = u8s l ++ [.int .u8 C] by rw [← HC.out]; simp [u8s]]; exact HO3.out) (by simp) HB4.out F4.out
set_option maxHeartbeats 4000000 in
theorem writeStringW_any (base b : Nat) (l s : B) (w : World) (h : BW base b l w) (hbw : base ≤ w.heap.size) (hl : l.length + s.length ≤ 140737488355328) :
    Calls Tryd.prog 26 #[.pointer (some ⟨b, 0, none⟩), .string (sb s)] w fun e w' => (∃ v, e = .returned v) ∧ BW base b (l ++ s) w' ∧ Fr (BDm base b) w w' := by
  obtain ⟨i0, hi0, hz0, hs0, hb0⟩ := Go.info_parts infoU
  have HH := hid h
  have HL := hid hl
  have HBW := hid hbw
  have HIS := hid hi0; have HZS := hid hz0; have HSS := hid hs0; have HBS := hid hb0
  obtain ⟨SS, hSS⟩ : ∃ SS, sb s = SS := ⟨_, rfl⟩
  have HSE := hid hSS
  have HSZ : Hid (SS.size = s.length) := hid (by rw [← hSS, sb_size])
  rw [hSS]
  clear h hl hbw hi0 hz0 hs0 hb0 hSS
  go_enter Tryd.func26, Tryd.ntmps26
  go_wp2_with fail
  refine (copyCheck_any base b l w HH.out HBW.out).mono ?_
  rintro e w1 ⟨⟨v0, rfl⟩, ⟨v, hB1, hO1⟩, f1⟩
  have HB1 := hid hB1; have HO1 := hid hO1; have HF1 := hid f1
  have HN := hid (show b < base ∧ base ≤ w1.heap.size from ⟨HH.out.1, Nat.le_trans HBW.out f1.size⟩)
  obtain ⟨va, vc, rfl, -, -⟩ := own_form hO1
  have c1 : w1.cell? ⟨b, 1, none⟩ = some (.slice va l.length vc) := hB1.cell 1
  clear hB1 hO1 f1
  go_wp2_with (first
    | ((with_reducible refine K.atO (.call { callee := .builtin .append, args := _, argTypes := _ }) ?_); refine wpList_plain rfl fun K hK => ?_; refine wp_appendStr _ _ 51 9 rfl base 5 i0 Tryd.underlying51 Tryd.underlying9 HIS.out HZS.out HSS.out HBS.out (.slice va l.length vc) l.length (u8s l) rfl HO1.out SS rfl (by unfold maxLen; have := HL.out; have := HSZ.out; omega) (by have := HL.out; have := HSZ.out; omega) HN.out.2 ?_; intro a3 cp3 w3 HO3 HG3 HA3; refine hK _ _ ?_; clear hK K;
        (have HF3 : Hid (Fr (fun k => (Value.slice va l.length vc).ownBlock = some k) w1 w3) := hid (frown HG3.out));
        (have HB3 : Hid (Blk w3 b 53 [.pointer (some ⟨b, 0, none⟩), .slice va l.length vc]) := hid (HB1.out.fr HF3.out (fun e => by have := own_ge HO1.out _ e; have := HN.out; omega))))
    | ((with_reducible refine K.atO (.store 51 _ _) ?_); refine wpL_setV rfl _ _ _ rfl b 1 (.slice a3 (l.length + SS.size) cp3) rfl rfl rfl rfl _ _ HB3.out (by simp) infoB8 ?_; intro w4 HB4 F4 HS4)
    | fail)
  first | go_ret2 | go_ret
  refine ⟨⟨_, rfl⟩, ?_⟩
  refine BW.fin (L := l ++ s) HN.out.1 HBW.out HF1.out HO1.out HF3.out (by rw [show u8s (l ++ s) = u8s l ++ u8s SS.data.toList by rw [← HSE.out, sb_list]; simp [u8s]]; exact HO3.out) (by simp [HSZ.out]) HB4.out F4.out
end Go.Proofs.YtnjemnmhkhkpeaaDoor.DN
