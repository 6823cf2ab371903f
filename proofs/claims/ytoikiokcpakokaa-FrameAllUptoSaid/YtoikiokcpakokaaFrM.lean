/-
  Package frame in memory: Frames, lists of texts; New, Waiting, Dead; results that lie in two cells.
-/
import Derived.Test.YtoikiokcpakokaaFrC
import Derived.Test.YtoikiokcpakokaaFrK
set_option linter.unusedVariables false
set_option linter.unusedSimpArgs false
namespace Go.Proofs.Ytoikiokcpakokaa.FR
set_option maxRecDepth 100000
open Go.RowKit K Go.Proofs.Ytoikiokcpakokaa.BE

/-- Texts as cells. -/
def strs (L : List B) : List Value := L.map fun l => .string (sb l)
@[simp] theorem strs_length (L : List B) : (strs L).length = L.length := by simp [strs]
theorem strs_one (L : List B) : ∀ v ∈ strs L, v.oneCell' = true := by
  intro v hv
  obtain ⟨l, _, rfl⟩ := List.mem_map.1 hv
  rfl
/-- The value is a slice of these texts; they lie in a block of E. -/
def TxIn (w : World) (E : Nat → Prop) (v : Value) (L : List B) : Prop :=
  ∃ a len cap, v = .slice a len cap ∧ L.length = len ∧ len ≤ cap ∧ (len = 0 ∨ ∃ g o, a = some ⟨g, o, none⟩ ∧ E g ∧ g < w.heap.size ∧ w.rangeAt g o (strs L))
theorem TxIn.mono {w : World} {E E' : Nat → Prop} {v : Value} {L : List B} (h : TxIn w E v L) (he : ∀ k, E k → E' k) : TxIn w E' v L := by
  obtain ⟨a, len, cap, h1, h2, h0, h3⟩ := h
  exact ⟨a, len, cap, h1, h2, h0, h3.imp id fun ⟨g, o, r1, r2, r3⟩ => ⟨g, o, r1, he g r2, r3⟩⟩
theorem TxIn.fr {w w' : World} {E D : Nat → Prop} {v : Value} {L : List B} (h : TxIn w E v L) (hf : Fr D w w') (hd : ∀ k, E k → k < w.heap.size → ¬ D k) : TxIn w' E v L := by
  obtain ⟨a, len, cap, h1, h2, h0, h3⟩ := h
  exact ⟨a, len, cap, h1, h2, h0, h3.imp id fun ⟨g, o, r1, r2, r3, r4⟩ => ⟨g, o, r1, r2, Nat.lt_of_lt_of_le r3 hf.size, hf.range r4 (hd g r2 r3)⟩⟩
theorem TxIn.no {w w' : World} {E : Nat → Prop} {v : Value} {L : List B} (h : TxIn w E v L) (hf : Fr No w w') : TxIn w' E v L := h.fr hf fun _ _ _ e => e
theorem tx_nil (w : World) (E : Nat → Prop) (a : Option Addr) (c : Nat) : TxIn w E (.slice a 0 c) [] := ⟨a, 0, c, rfl, rfl, Nat.zero_le _, .inl rfl⟩
theorem own_tx {w : World} {base : Nat} {e : TypeId} {v : Value} {n : Nat} {L : List B} (h : w.ownsRow base e 1 v n (strs L)) : TxIn w (fun k => base ≤ k) v L := by
  have hn : L.length = n := by have := h.1; rw [strs_length, Nat.mul_one] at this; exact this
  rcases h.2 with ⟨rfl, h0⟩ | ⟨g, cap, cur, rfl, hb, hg, h1, h2, h3, h4⟩
  · have : L = [] := by
      have h00 : n = 0 := h0
      rw [h00] at hn
      exact List.eq_nil_of_length_eq_zero hn
    subst this
    exact tx_nil _ _ _ _
  · subst hn
    refine ⟨_, _, _, rfl, rfl, h1, .inr ⟨g, 0, rfl, hb, (Array.getElem?_eq_some_iff.1 hg).1, ?_⟩⟩
    exact Blk.range (t := e) (cs := cur.toList) (by simpa [Blk] using hg) 0 _ (by rw [List.drop_zero, strs_length, ← Nat.mul_one L.length]; exact h4)

theorem infoS3 : (Try.prog.info? 9).map (fun i => (i.zero, i.size, i.bytes)) = some (some (.string ⟨#[]⟩), 1, 16) := by kernel_rfl
theorem infoS : (Try.prog.info? 9).map (·.size) = some 1 := by kernel_rfl
theorem infoB4 : (Try.prog.info? 4).map (·.size) = some 1 := by kernel_rfl
theorem infoSs : (Try.prog.info? 22).map (·.size) = some 1 := by kernel_rfl
theorem infoE : (Try.prog.info? 29).map (·.size) = some 1 := by kernel_rfl
theorem zeroSs : ∀ w, (zeroValue 22).run Try.prog w = .ok (.slice none 0 0) w := fun _ => by kernel_rfl
theorem zeroE : ∀ w, (zeroValue 29).run Try.prog w = .ok (.int .i64 0) w := fun _ => by kernel_rfl
theorem zeroS : ∀ w, (zeroValue 9).run Try.prog w = .ok (.string ⟨#[]⟩) w := fun _ => by kernel_rfl

/-- Frames lies in block b. -/
def FrAt (w : World) (b : Nat) (f : Fs) : Prop := Blk w b 42 [.string (sb f.wait), .bool f.dead]

/-! ### Results that lie in two cells -/
theorem run_load1 {P : Program} {w : World} {ti t2 : TypeId} {c : Nat} {v : Value} {d : TypeDesc} (hC : Blk w c t2 [v]) (hui : P.underlying ti = some d) (hd : (match d with | .struct _ | .array _ _ => true | _ => false) = false) : (loadVar ti ⟨c, 0, none⟩).run P w = .ok v w := by
  have hc := hC.cell 0
  simp only [List.getElem?_cons_zero] at hc
  cases d <;> first | (cases hd; done) | simp [loadVar, isAgg, run_underlying hui, hc, go_sem]
theorem results_cc {P : Program} {fn : Func} {tmps : Array Value} {w : World} {p q : Tmp} {t1 t2 u1 u2 : TypeId} {b c : Nat} {x y : Value} {d1 d2 : TypeDesc} (hr : fn.results = #[.cell p t1, .cell q t2])
    (hp : tmps.getD p undef = .pointer (some ⟨b, 0, none⟩)) (hB : Blk w b u1 [x]) (h1 : P.underlying t1 = some d1) (k1 : (match d1 with | .struct _ | .array _ _ => true | _ => false) = false)
    (hq : tmps.getD q undef = .pointer (some ⟨c, 0, none⟩)) (hC : Blk w c u2 [y]) (h2 : P.underlying t2 = some d2) (k2 : (match d2 with | .struct _ | .array _ _ => true | _ => false) = false) :
    (results fn tmps).run P w = .ok (.tuple #[x, y]) w := by
  have hp' : tmps[p]?.getD undef = .pointer (some ⟨b, 0, none⟩) := by simpa using hp
  have hq' : tmps[q]?.getD undef = .pointer (some ⟨c, 0, none⟩) := by simpa using hq
  simp [results, hr, hp', hq', asAddr, run_load1 hB h1 k1, run_load1 hC h2 k2]
theorem marks_cc {P : Program} {fn : Func} {R : Ending → World → Prop} {a : Act} {w : World} {D : Nat} {p q : Tmp} {t1 t2 u1 u2 : TypeId} {b c : Nat} {x y : Value} {d1 d2 : TypeDesc} (hd : a.defers = [{ target := .collected D, args := #[] }]) (hK : w.heap[D]? = some (.deferred (some []))) (hr : fn.results = #[.cell p t1, .cell q t2])
    (hp : a.tmps.getD p undef = .pointer (some ⟨b, 0, none⟩)) (hB : Blk w b u1 [x]) (h1 : P.underlying t1 = some d1) (k1 : (match d1 with | .struct _ | .array _ _ => true | _ => false) = false)
    (hq : a.tmps.getD q undef = .pointer (some ⟨c, 0, none⟩)) (hC : Blk w c u2 [y]) (h2 : P.underlying t2 = some d2) (k2 : (match d2 with | .struct _ | .array _ _ => true | _ => false) = false)
    (h : ∀ w', Fr (fun k => k = D) w w' → R (.returned (.tuple #[x, y])) w') : bodyPostM Fence.wide 3 P fn R .ret a w := by
  show LeavesInM Fence.wide 3 P fn a.tmps R a.defers .returning w
  rw [hd]
  refine ⟨by simp, .inl ⟨D, _, rfl, run_takeDeferred hK, ?_⟩⟩
  have hf := fr_put (w := w) D (.deferred none)
  have hne : ∀ {b : Nat} {t : TypeId} {cs : List Value}, Blk w b t cs → ¬ b = D := fun {b t cs} hB e => by
    subst e
    unfold Blk at hB
    rw [hB] at hK
    cases hK
  exact ⟨_, results_cc hr hp (hB.fr hf (hne hB)) h1 k1 hq (hC.fr hf (hne hC)) h2 k2, h _ hf⟩
theorem marks_cc0 {P : Program} {fn : Func} {R : Ending → World → Prop} {a : Act} {w : World} {p q : Tmp} {t1 t2 u1 u2 : TypeId} {b c : Nat} {x y : Value} {d1 d2 : TypeDesc} (hd : a.defers = []) (hr : fn.results = #[.cell p t1, .cell q t2])
    (hp : a.tmps.getD p undef = .pointer (some ⟨b, 0, none⟩)) (hB : Blk w b u1 [x]) (h1 : P.underlying t1 = some d1) (k1 : (match d1 with | .struct _ | .array _ _ => true | _ => false) = false)
    (hq : a.tmps.getD q undef = .pointer (some ⟨c, 0, none⟩)) (hC : Blk w c u2 [y]) (h2 : P.underlying t2 = some d2) (k2 : (match d2 with | .struct _ | .array _ _ => true | _ => false) = false)
    (h : R (.returned (.tuple #[x, y])) w) : bodyPostM Fence.wide 3 P fn R .ret a w := by
  show LeavesInM Fence.wide 3 P fn a.tmps R a.defers .returning w
  rw [hd]
  exact ⟨_, results_cc hr hp hB h1 k1 hq hC h2 k2, h⟩

/-! ### New, Waiting, Dead -/
theorem new_any (w : World) : Calls Try.prog 8 #[] w fun e w' => e = .returned (.pointer (some ⟨w.heap.size, 0, none⟩)) ∧ FrAt w' w.heap.size Fs.new ∧ Fr No w w' ∧ w'.heap.size = w.heap.size + 1 := by
  go_enter Try.func8, Try.ntmps8
  go_wp2_with (first
    | ((with_reducible show wpList _ _ _ (⟨_, .box 42 _, _, _, _, _⟩ :: _) _ _); refine wpL_box rfl _ _ rfl _ rfl [.string (sb []), .bool false] rfl ?_; intro w1 HB1 HF1 HS1)
    | fail)
  go_ret
  exact ⟨rfl, HB1.out, HF1.out, HS1.out⟩
theorem waiting_any (b : Nat) (f : Fs) (w : World) (h : FrAt w b f) : Calls Try.prog 12 #[.pointer (some ⟨b, 0, none⟩)] w fun e w' => e = .returned (.int .i64 (f.wait.length : Int)) ∧ w' = w := by
  have c1 : w.cell? ⟨b, 0, none⟩ = some (.string (sb f.wait)) := h.cell 0
  have hsz : ((sb f.wait).size : Int) = f.wait.length := by rw [sb_size]
  obtain ⟨S, hS⟩ : ∃ S, sb f.wait = S := ⟨_, rfl⟩
  rw [hS] at c1 hsz
  rw [← hsz]
  clear hsz hS h
  go_enter Try.func12, Try.ntmps12
  go_wp2_with fail
  go_ret
  exact ⟨rfl, rfl⟩
theorem dead_any (b : Nat) (f : Fs) (w : World) (h : FrAt w b f) : Calls Try.prog 13 #[.pointer (some ⟨b, 0, none⟩)] w fun e w' => e = .returned (.bool f.dead) ∧ w' = w := by
  have c1 : w.cell? ⟨b, 1, none⟩ = some (.bool f.dead) := h.cell 1
  clear h
  go_enter Try.func13, Try.ntmps13
  go_wp2_with fail
  go_ret
  exact ⟨rfl, rfl⟩
end Go.Proofs.Ytoikiokcpakokaa.FR
