/-
  A range over a function that only reads while it goes, blocks that the rounds leave alone. Over any program.
-/
import Derived.Test.YthjmkfpdbbfcpaaGreatDoorShaR
set_option linter.unusedVariables false
set_option linter.unusedSimpArgs false
namespace Go.Proofs.YthjmkfpdbbfcpaaGreatDoor.K
set_option maxRecDepth 100000
open Go.RowKit

section
variable {P : Program}
/-- The iterator: its values come in the order of L, one a round, while the rounds go on; it turns no block but bx, which the rounds leave alone. -/
def SeqP (P : Program) (gf : Nat) (lb : Array Value) (L : List (Array Value)) (bx : Nat → Prop) (w : World) : Prop :=
  ∀ (l : Nat) (J Jx : Nat → World → Prop) (W : World), w.heap.size ≤ W.heap.size → (∀ i, bx i → W.heap[i]? = w.heap[i]?) →
    (∀ k A B, J k A → Fr No A B → J k B) → (∀ k A B, Jx k A → Fr No A B → Jx k B) →
    (∀ k x W1, J k W1 → L[k]? = some x → YieldAt Fence.wide 1 P l x W1 fun e W' =>
      (e = .returned (.bool true) ∧ J (k + 1) W' ∧ W1.heap.size ≤ W'.heap.size ∧ ∀ i, bx i → W'.heap[i]? = W1.heap[i]?) ∨ (e = .returned (.bool false) ∧ Jx (k + 1) W')) →
    J 0 W →
    CallsIn Fence.wide 2 P gf (#[.func (.yield l) #[] #[]] ++ lb) W fun e W' => (∃ v, e = .returned v) ∧ (J L.length W' ∨ ∃ k, Jx k W')
/-- What a round leaves alone: the iterator's block, and the two that the loop lays. -/
def KP (bx : Nat → Prop) (n : Nat) (W W' : World) : Prop := W.heap.size ≤ W'.heap.size ∧ ∀ i, bx i ∨ i = n ∨ i = n + 1 → i < W.heap.size → W'.heap[i]? = W.heap[i]?
/-- How a round ends. -/
def postP (bx : Nat → Prop) (n : Nat) (I : Nat → World → Prop) (Ix : Nat → World → Prop) (k : Nat) (W : World) : Exit → Act → World → Prop
  | .normal, _, W' => KP bx n W W' ∧ I k W'
  | .ret, _, W' => KP bx n W W' ∧ Ix k W'
  | _, _, _ => False
theorem noOut_postP {bx : Nat → Prop} {n : Nat} {I Ix : Nat → World → Prop} {k : Nat} {W : World} : ¬ LetsOut (postP bx n I Ix k W) := fun ⟨_, _, h⟩ => h
theorem KP_fr {bx : Nat → Prop} {n : Nat} {D : Nat → Prop} {W W' : World} (h : Fr D W W') (hD : ∀ i, bx i ∨ i = n ∨ i = n + 1 → ¬ D i) : KP bx n W W' := ⟨h.size, fun i hi hl => h.block i hl (hD i hi)⟩
theorem wp_rangeP {g : Operand} {ps : Array Tmp} {assign body : Code} {Q : Exit → Act → World → Prop} {a : Act} {w : World} {gf : Nat} {lb : Array Value} (hg : a.eval g = .func (.func gf) #[] lb) (eg : ∀ args w, (callFunc gf args).run P w = .ok (.enter gf args) w)
    {L : List (Array Value)} {bx : Nat → Prop} (hbx : ∀ i, bx i → i < w.heap.size) (hseq : SeqP P gf lb L bx w) (hps : ∀ (k : Nat) x, L[k]? = some x → x.size = ps.size)
    (I Ix : Nat → World → Prop) (hI : ∀ k A B, I k A → Fr (fun i => i = w.heap.size ∨ i = w.heap.size + 1) A B → I k B) (hIx : ∀ k A B, Ix k A → Fr (fun i => i = w.heap.size ∨ i = w.heap.size + 1) A B → Ix k B) (h0 : I 0 w) (a₁ : Array Value → Act)
    (hassign : ∀ (l k : Nat) (x : Array Value) (W : World) (K : Act → World → Prop), L[k]? = some x → K (a₁ x) W →
      assign.wpIn (Fence.wide.inRound l) 1 P (Exit.then K (fun _ _ _ => False)) { tmps := (ps.zip x).foldl (fun t (p, v) => t.setIfInBounds p v) a.tmps, defers := [] } W)
    (hbody : ∀ (l k : Nat) (x : Array Value) (W : World), L[k]? = some x → w.heap.size + 2 ≤ W.heap.size → I k W → body.wpIn (Fence.wide.inRound l) 1 P (postP bx w.heap.size I Ix (k + 1) W) (a₁ x) W)
    (hdone : ∀ (W : World), I L.length W → W.heap[w.heap.size]? = some (.deferred (some [])) → Q .normal { a with defers := { target := .collected w.heap.size, args := #[] } :: a.defers } W)
    (hstop : ∀ (k : Nat) (W : World), Ix k W → W.heap[w.heap.size]? = some (.deferred (some [])) → Q .ret { a with defers := { target := .collected w.heap.size, args := #[] } :: a.defers } W) :
    (Code.rangeFunc g ps assign body).wp P Q a w := by
  refine (wpIn_wide (n := 3)).1 (wpIn_rangeFunc fun fn hfn => ?_)
  show ∃ (l : Nat) (mark : List Deferred) (w₁ : World) (d : Deferred) (w₁' : World) (f : FuncId) (args : Array Value) (w₂ : World), (Instr.enterLoop fn a.tmps ps assign body none).run P w = .ok (l, mark) w₁ ∧ _
  obtain ⟨n, hn⟩ : ∃ n, w.heap.size = n := ⟨_, rfl⟩
  obtain ⟨rec, hrec⟩ : ∃ rec : LoopState → Option Code → Loop, rec = fun st pe => { state := st, pending := pe, fn, tmps := a.tmps, params := ps, assign, body, defers := n } := ⟨_, rfl⟩
  obtain ⟨W1, hW1⟩ : ∃ W1, (w.alloc (.deferred (some []))).alloc (.loop (rec .ready none)) = W1 := ⟨_, rfl⟩
  have hf1 : Fr No w W1 := by rw [← hW1]; exact ((Fr.refl No w).alloc _).alloc _
  have hs1 : W1.heap.size = n + 2 := by rw [← hW1]; simp [hn]
  have hL1 : W1.heap[n + 1]? = some (.loop (rec .ready none)) := by
    rw [← hW1]
    have := World.alloc_heap_new (w.alloc (.deferred (some []))) (.loop (rec .ready none))
    rwa [World.size_alloc, hn] at this
  have hK1 : W1.heap[n]? = some (.deferred (some [])) := by
    rw [← hW1, ← hn]
    exact (Below.heap_alloc _ _ _ (by simp)).trans (World.alloc_heap_new w _)
  have hput : ∀ (W : World) (i : Nat) (o : Obj), i = n ∨ i = n + 1 → Fr (fun i => i = w.heap.size ∨ i = w.heap.size + 1) W (W.putObj i o) := fun W i o hi => (fr_put i o).mono fun k e => by
    rw [hn]
    have : k = i := e
    omega
  have hb : ∀ {A B : World} {i : Nat} {o : Obj}, Fr No A B → A.heap[i]? = some o → i = n ∨ i = n + 1 → B.heap[i]? = some o := fun {A B i o} hf h hi =>
    (hf.block i (Array.getElem?_eq_some_iff.1 h).1 id).trans h
  refine ⟨n + 1, [{ target := .collected n, args := #[] }], W1, { target := .fn (.func gf) lb, args := #[.func (.yield (n + 1)) #[] #[]] }, W1, gf, #[.func (.yield (n + 1)) #[] #[]] ++ lb, W1, ?_, ?_, fun _ _ => trivial, ?_, fun _ => by decide, ?_⟩
  · rw [← hW1, hrec, ← hn]; exact run_enterLoop_outer _ _ _ _ _
  · simp only [resolve, hg]
    simp [go_sem]
  · simp [invoke, go_sem, eg]
  refine (hseq (n + 1) (fun k W => I k W ∧ W.heap[n + 1]? = some (.loop (rec .ready none)) ∧ W.heap[n]? = some (.deferred (some [])))
    (fun k W => Ix k W ∧ W.heap[n + 1]? = some (.loop (rec .done (some .ret))) ∧ W.heap[n]? = some (.deferred (some []))) W1 (by omega) (fun i hi => hf1.block i (by have := hbx i hi; omega) id)
    (fun k A B h hf => ⟨hI k A B h.1 hf.no, hb hf h.2.1 (.inr rfl), hb hf h.2.2 (.inl rfl)⟩)
    (fun k A B h hf => ⟨hIx k A B h.1 hf.no, hb hf h.2.1 (.inr rfl), hb hf h.2.2 (.inl rfl)⟩) ?_ ⟨hI 0 w W1 h0 hf1.no, hL1, hK1⟩).mono ?_
  · rintro k x W ⟨hi, hl, hk⟩ hx
    have hlt : n + 1 < W.heap.size := (Array.getElem?_eq_some_iff.1 hl).1
    have hy := run_yield (P := P) (args := x) hl (by rw [hrec]; exact hps k x hx)
    rw [hrec] at hy
    refine ⟨fn, _, assign, body, hy, roundIn_of_wpIn hfn (hassign _ k x W _ hx ⟨_, run_beginRound hl (by rw [hrec]), ?_⟩)⟩
    obtain ⟨W2, hW2⟩ : ∃ W2, W.putObj (n + 1) (.loop { rec .ready none with state := .busy }) = W2 := ⟨_, rfl⟩
    have hl2 : W2.heap[n + 1]? = some (.loop { rec .ready none with state := .busy }) := by rw [← hW2]; exact World.putObj_heap_same hlt
    have hk2 : W2.heap[n]? = some (.deferred (some [])) := by rw [← hW2]; exact (World.putObj_heap_other (by omega)).trans hk
    have hs2 : W2.heap.size = W.heap.size := by rw [← hW2]; simp
    have hbx2 : ∀ i, bx i → W2.heap[i]? = W.heap[i]? := fun i hi => by rw [← hW2]; exact World.putObj_heap_other (by have := hbx i hi; omega)
    have hi2 : I k W2 := by rw [← hW2]; exact hI k _ _ hi (hput _ _ _ (.inr rfl))
    rw [hW2]
    have fin : ∀ (jump : Option Code) (W3 : World), KP bx n W2 W3 →
        (Instr.endRound (n + 1) jump).run P W3 = .ok (.bool jump.isNone) (W3.putObj (n + 1) (.loop (rec (if jump.isNone then .ready else .done) jump))) ∧
        (W3.putObj (n + 1) (.loop (rec (if jump.isNone then .ready else .done) jump))).heap[n + 1]? = some (.loop (rec (if jump.isNone then .ready else .done) jump)) ∧
        (W3.putObj (n + 1) (.loop (rec (if jump.isNone then .ready else .done) jump))).heap[n]? = some (.deferred (some [])) := fun jump W3 hk3 => by
      have hl3 := (hk3.2 (n + 1) (.inr (.inr rfl)) (by omega)).trans hl2
      have := run_endRound (P := P) jump hl3
      rw [hrec] at this ⊢
      exact ⟨this, World.putObj_heap_same (Array.getElem?_eq_some_iff.1 hl3).1, (World.putObj_heap_other (by omega)).trans ((hk3.2 n (.inr (.inl rfl)) (by omega)).trans hk2)⟩
    have hb2 := hbody (n + 1) k x W2 hx (by omega) hi2
    rw [hn] at hb2
    refine wpIn_mono hb2 ?_
    rintro e a3 W3 hp
    cases e with
    | normal =>
      obtain ⟨hk3, hi3⟩ := hp
      obtain ⟨hr, hl4, hk4⟩ := fin none W3 hk3
      refine ⟨_, _, hr, .inl ⟨rfl, ⟨hI _ _ _ hi3 (hput _ _ _ (.inr rfl)), hl4, hk4⟩, by have := hk3.1; simp; omega, ?_⟩⟩
      intro i hi
      exact (World.putObj_heap_other (by have := hbx i hi; omega)).trans ((hk3.2 i (.inl hi) (by have := hbx i hi; omega)).trans (hbx2 i hi))
    | ret =>
      obtain ⟨hk3, hi3⟩ := hp
      obtain ⟨hr, hl4, hk4⟩ := fin (some .ret) W3 hk3
      exact ⟨_, _, hr, .inr ⟨rfl, hIx _ _ _ hi3 (hput _ _ _ (.inr rfl)), hl4, hk4⟩⟩
    | exit id => exact hp.elim
    | goto t => exact hp.elim
    | panic ch => exact hp.elim
    | outgrown => exact hp.elim
  · rintro e W2 ⟨⟨v, rfl⟩, (⟨hi, hl, hk⟩ | ⟨k, hi, hl, hk⟩)⟩
    · refine ⟨none, W2.putObj (n + 1) (.loop { rec .ready none with state := .exhausted }), by have := run_endLoop (P := P) hl (by rw [hrec]; simp); rw [hrec] at this ⊢; exact this, ?_⟩
      have := hdone _ (hI _ _ _ hi (hput W2 (n + 1) (.loop { rec .ready none with state := .exhausted }) (.inr rfl))) (by rw [hn]; exact (World.putObj_heap_other (by omega)).trans hk)
      rw [hn] at this
      exact this
    · refine ⟨some .ret, W2.putObj (n + 1) (.loop { rec .done (some .ret) with state := .exhausted }), by have := run_endLoop (P := P) hl (by rw [hrec]; simp); rw [hrec] at this ⊢; exact this, ?_⟩
      have := hstop k _ (hIx _ _ _ hi (hput W2 (n + 1) (.loop { rec .done (some .ret) with state := .exhausted }) (.inr rfl))) (by rw [hn]; exact (World.putObj_heap_other (by omega)).trans hk)
      rw [hn] at this
      exact wpIn_ret this
/-- The same with two variables, which are assigned plainly. -/
theorem wp_rangeP2 {g : Operand} {p q d e id1 id2 : Nat} {t1 t2 : TypeId} {s1 s2 : String} {body : Code} {Q : Exit → Act → World → Prop} {a : Act} {w : World} {gf : Nat} {lb : Array Value} (hg : a.eval g = .func (.func gf) #[] lb) (eg : ∀ args w, (callFunc gf args).run P w = .ok (.enter gf args) w)
    {L : List (Array Value)} {bx : Nat → Prop} (hbx : ∀ i, bx i → i < w.heap.size) (hseq : SeqP P gf lb L bx w) (hps : ∀ (k : Nat) x, L[k]? = some x → ∃ v0 v1, x = #[v0, v1]) (hp : p < a.tmps.size) (hq : q < a.tmps.size) (hpq : p ≠ q) (hdq : d ≠ q)
    (I Ix : Nat → World → Prop) (hI : ∀ k A B, I k A → Fr (fun i => i = w.heap.size ∨ i = w.heap.size + 1) A B → I k B) (hIx : ∀ k A B, Ix k A → Fr (fun i => i = w.heap.size ∨ i = w.heap.size + 1) A B → Ix k B) (h0 : I 0 w)
    (hbody : ∀ (l k : Nat) (v0 v1 : Value) (W : World), L[k]? = some #[v0, v1] → w.heap.size + 2 ≤ W.heap.size → I k W →
      body.wpIn (Fence.wide.inRound l) 1 P (postP bx w.heap.size I Ix (k + 1) W) { tmps := (((a.tmps.setIfInBounds p v0).setIfInBounds q v1).setIfInBounds d v0).setIfInBounds e v1, defers := [] } W)
    (hdone : ∀ (W : World), I L.length W → W.heap[w.heap.size]? = some (.deferred (some [])) → Q .normal { a with defers := { target := .collected w.heap.size, args := #[] } :: a.defers } W)
    (hstop : ∀ (k : Nat) (W : World), Ix k W → W.heap[w.heap.size]? = some (.deferred (some [])) → Q .ret { a with defers := { target := .collected w.heap.size, args := #[] } :: a.defers } W) :
    (Code.rangeFunc g #[p, q] ((Code.region id1 #[{ dst := some d, op := .assign (.tmp p), type := t1, pos := s1, after := #[], guard := none }] false).seq (Code.region id2 #[{ dst := some e, op := .assign (.tmp q), type := t2, pos := s2, after := #[], guard := none }] false)) body).wp P Q a w := by
  refine wp_rangeP hg eg hbx hseq (fun k x hx => ?_) I Ix hI hIx h0
    (fun x => { tmps := (((a.tmps.setIfInBounds p (x.getD 0 undef)).setIfInBounds q (x.getD 1 undef)).setIfInBounds d (x.getD 0 undef)).setIfInBounds e (x.getD 1 undef), defers := [] }) (fun l k x W K hx hK => ?_) (fun l k x W hx hW hi => ?_) hdone hstop
  · obtain ⟨v0, v1, rfl⟩ := hps k x hx
    rfl
  · obtain ⟨v0, v1, rfl⟩ := hps k x hx
    refine wpIn_seq ?_
    refine wpIn_region_plain (ls := [{ dst := some d, op := .assign (.tmp p), type := t1, pos := s1, after := #[], guard := none }]) rfl (fun ⟨_, _, h⟩ => h) ?_
    refine wpList_plain rfl fun K1 hK1 => ?_
    unfold Oper.wp execOp
    have h1 : (({ tmps := (Array.zip #[p, q] #[v0, v1]).foldl (fun t (p, v) => t.setIfInBounds p v) a.tmps, defers := [] } : Act).eval (.tmp p)) = v0 := by
      have hqp : ¬ q = p := fun h => hpq h.symm
      simp [Act.eval, hp, Array.getElem?_setIfInBounds, hqp]
    simp only [h1, Sem.run_pure]
    refine hK1 _ _ (wpList_nil ?_)
    show (Code.region id2 #[{ dst := some e, op := .assign (.tmp q), type := t2, pos := s2, after := #[], guard := none }] false).wpIn (Fence.wide.inRound l) 1 P _ _ W
    refine wpIn_region_plain (ls := [{ dst := some e, op := .assign (.tmp q), type := t2, pos := s2, after := #[], guard := none }]) rfl (fun ⟨_, _, h⟩ => h) ?_
    refine wpList_plain rfl fun K2 hK2 => ?_
    unfold Oper.wp execOp
    have h2 : ((({ tmps := (Array.zip #[p, q] #[v0, v1]).foldl (fun t (p, v) => t.setIfInBounds p v) a.tmps, defers := [] } : Act).put (some d) v0).eval (.tmp q)) = v1 := by
      simp [Act.eval, Act.put, hq, Array.getElem?_setIfInBounds, hdq]
    simp only [h2, Sem.run_pure]
    refine hK2 _ _ (wpList_nil ?_)
    simpa [Act.put, Exit.then] using hK
  · obtain ⟨v0, v1, rfl⟩ := hps k x hx
    exact hbody l k v0 v1 W hx hW hi
/-- The same where the second alone is assigned. -/
theorem wp_rangePb {g : Operand} {p q e id2 : Nat} {t2 : TypeId} {s2 : String} {body : Code} {Q : Exit → Act → World → Prop} {a : Act} {w : World} {gf : Nat} {lb : Array Value} (hg : a.eval g = .func (.func gf) #[] lb) (eg : ∀ args w, (callFunc gf args).run P w = .ok (.enter gf args) w)
    {L : List (Array Value)} {bx : Nat → Prop} (hbx : ∀ i, bx i → i < w.heap.size) (hseq : SeqP P gf lb L bx w) (hps : ∀ (k : Nat) x, L[k]? = some x → ∃ v0 v1, x = #[v0, v1]) (hq : q < a.tmps.size)
    (I Ix : Nat → World → Prop) (hI : ∀ k A B, I k A → Fr (fun i => i = w.heap.size ∨ i = w.heap.size + 1) A B → I k B) (hIx : ∀ k A B, Ix k A → Fr (fun i => i = w.heap.size ∨ i = w.heap.size + 1) A B → Ix k B) (h0 : I 0 w)
    (hbody : ∀ (l k : Nat) (v0 v1 : Value) (W : World), L[k]? = some #[v0, v1] → w.heap.size + 2 ≤ W.heap.size → I k W →
      body.wpIn (Fence.wide.inRound l) 1 P (postP bx w.heap.size I Ix (k + 1) W) { tmps := ((a.tmps.setIfInBounds p v0).setIfInBounds q v1).setIfInBounds e v1, defers := [] } W)
    (hdone : ∀ (W : World), I L.length W → W.heap[w.heap.size]? = some (.deferred (some [])) → Q .normal { a with defers := { target := .collected w.heap.size, args := #[] } :: a.defers } W)
    (hstop : ∀ (k : Nat) (W : World), Ix k W → W.heap[w.heap.size]? = some (.deferred (some [])) → Q .ret { a with defers := { target := .collected w.heap.size, args := #[] } :: a.defers } W) :
    (Code.rangeFunc g #[p, q] (Code.region id2 #[{ dst := some e, op := .assign (.tmp q), type := t2, pos := s2, after := #[], guard := none }] false) body).wp P Q a w := by
  refine wp_rangeP hg eg hbx hseq (fun k x hx => ?_) I Ix hI hIx h0
    (fun x => { tmps := ((a.tmps.setIfInBounds p (x.getD 0 undef)).setIfInBounds q (x.getD 1 undef)).setIfInBounds e (x.getD 1 undef), defers := [] }) (fun l k x W K hx hK => ?_) (fun l k x W hx hW hi => ?_) hdone hstop
  · obtain ⟨v0, v1, rfl⟩ := hps k x hx
    rfl
  · obtain ⟨v0, v1, rfl⟩ := hps k x hx
    refine wpIn_region_plain (ls := [{ dst := some e, op := .assign (.tmp q), type := t2, pos := s2, after := #[], guard := none }]) rfl (fun ⟨_, _, h⟩ => h) ?_
    refine wpList_plain rfl fun K2 hK2 => ?_
    unfold Oper.wp execOp
    have h2 : (({ tmps := (Array.zip #[p, q] #[v0, v1]).foldl (fun t (p, v) => t.setIfInBounds p v) a.tmps, defers := [] } : Act).eval (.tmp q)) = v1 := by
      simp [Act.eval, hq, Array.getElem?_setIfInBounds]
    simp only [h2, Sem.run_pure]
    refine hK2 _ _ (wpList_nil ?_)
    simpa [Act.put, Exit.then] using hK
  · obtain ⟨v0, v1, rfl⟩ := hps k x hx
    exact hbody l k v0 v1 W hx hW hi
end
end Go.Proofs.YthjmkfpdbbfcpaaGreatDoor.K
