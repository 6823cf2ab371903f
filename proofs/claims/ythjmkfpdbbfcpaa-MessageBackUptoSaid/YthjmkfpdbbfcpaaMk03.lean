/-
  Part 3 of the proof: MeRow, MeArg, BeK, BeT, BeS.
-/
import Derived.Test.YthjmkfpdbbfcpaaMk01
import Derived.Test.YthjmkfpdbbfcpaaMk02
set_option linter.unusedSimpArgs false
set_option linter.unusedVariables false
namespace Go.Proofs.Ythjmkfpdbbfcpaa.ME
set_option maxRecDepth 100000
open Go.ChangeShapes Go.WideShapes Go.ChangeAt Go.RowKit K Go.Proofs.Ythjmkfpdbbfcpaa.BE Go.Proofs.Ythjmkfpdbbfcpaa.FR

/-- No list and no text in it is longer. -/
def AtB (k : Nat) (x : At) : Prop := x.type.length ≤ k ∧ x.values.length ≤ k ∧ ∀ v ∈ x.values, v.length ≤ k
def FlB (k : Nat) : Nat → Fl → Prop
  | 0, _ => True
  | d + 1, f => f.type.length ≤ k ∧ f.value.length ≤ k ∧ f.first.length ≤ k ∧ f.last.length ≤ k ∧ f.any.length ≤ k ∧ (∀ a ∈ f.any, a.length ≤ k) ∧ f.kids.length ≤ k ∧ ∀ x ∈ f.kids, FlB k d x
structure MsgB (k : Nat) (m : Msg) : Prop where
  texts : m.name.length ≤ k ∧ m.pw.length ≤ k ∧ m.rdn.length ≤ k ∧ m.sup.length ≤ k ∧ m.type.length ≤ k ∧ m.value.length ≤ k ∧ m.matched.length ≤ k ∧ m.text.length ≤ k
  filter : ∀ d, FlB k d m.filter
  wants : m.wants.length ≤ k ∧ ∀ v ∈ m.wants, v.length ≤ k
  list : m.list.length ≤ k ∧ ∀ x ∈ m.list, AtB k x
  mods : m.mods.length ≤ k ∧ ∀ x ∈ m.mods, AtB k x.attr
theorem mem_bulk {H : Type} : ∀ {l : List (DataW H)} {d : DataW H}, d ∈ l → Rows.uptoBulk d ≤ Rows.uptoBulkAll l
  | a :: r, d, h => by
    simp only [Rows.uptoBulkAll]
    rcases List.mem_cons.1 h with rfl | h
    · omega
    · have := mem_bulk h; omega
/-- These cells read, within so many levels; what they read is of no greater bulk. -/
def ReadsB (k : Nat) (fuel : Nat) (w : World) (t : TypeId) (cs : List Value) : Prop :=
  ∃ (H : Type) (enc : TypeId × Value → H) (x : DataW H × List MemPlace), DataW.trod enc Try.prog w 0 (fun _ => true) true fuel t cs = some x ∧ (∀ n ∈ x.1.weights Try.prog t, n ≤ reachBytes) ∧ Rows.uptoBulk x.1 ≤ k
theorem ReadsB.reads {k fuel : Nat} {w : World} {t : TypeId} {cs : List Value} (h : ReadsB k fuel w t cs) : Reads Try.prog w t cs := by
  obtain ⟨H, enc, x, h1, h2, -⟩ := h
  exact ⟨H, enc, fuel, x, h1, h2⟩
theorem ReadsB.string {k fuel : Nat} {w : World} {t : TypeId} {cs : List Value} (hu : Try.prog.underlying t = some .string) (h : ReadsB k fuel w t cs) : ∃ l : B, cs = [.string (sb l)] ∧ Sz l ∧ l.length ≤ k := by
  obtain ⟨H, enc, x, h1, h2, h3⟩ := h
  obtain ⟨s, r1, r2, -⟩ := DataW.trod_string hu h1
  have hx : x.1 = .lit (.string s.data.toList) := congrArg Prod.fst r2
  rw [hx] at h2 h3
  refine ⟨s.data.toList, by rw [sb_of]; exact r1, ?_, ?_⟩
  · have := h2 s.data.toList.length (by simp [DataW.weights])
    exact this
  · simp only [Rows.uptoBulk] at h3
    omega
theorem ReadsB.struct {k fuel : Nat} {w : World} {t : TypeId} {fs : Array Field} {cs : List Value} (hu : Try.prog.underlying t = some (.struct fs)) (h : ReadsB k fuel w t cs) :
    ∃ f1, fuel = f1 + 1 ∧ cs.length = Try.prog.cellsOf t ∧ ∀ (i : Nat) (f : Field), fs[i]? = some f → ReadsB k f1 w f.type ((cs.drop f.offset).take (Try.prog.cellsOf f.type)) := by
  obtain ⟨H, enc, x, h1, h2, h3⟩ := h
  obtain ⟨xs, n, hn, r2, r3, r4, r5⟩ := DataW.trod_struct hu h1
  refine ⟨n, hn, r3, fun i f hf => ?_⟩
  have hi : i < xs.length := by rw [r4]; exact (Array.getElem?_eq_some_iff.1 hf).1
  have := r5 i f hf
  rw [List.getElem?_eq_getElem hi] at this
  have hx : x.1 = .agg (xs.map (·.1)) := by rw [r2]
  refine ⟨H, enc, _, this, fun m hm => h2 m ?_, ?_⟩
  · rw [hx]
    simp only [DataW.weights, hu]
    exact DataW.weights_mem_each (j := i) (t := f.type) (d := xs[i].1) (by rw [List.getElem?_map]; simp [hf]) (by simp [hi]) m hm
  · rw [hx] at h3
    simp only [Rows.uptoBulk] at h3
    have := mem_bulk (List.mem_map_of_mem (f := (·.1)) (List.getElem_mem hi))
    omega
theorem ReadsB.slice {k fuel : Nat} {w : World} {t e : TypeId} {cs : List Value} (hu : Try.prog.underlying t = some (.slice e)) (h : ReadsB k fuel w t cs) :
    cs = [.slice none 0 0] ∨ ∃ a len cap f1, fuel = f1 + 1 ∧ cs = [.slice (some a) len cap] ∧ len ≤ cap ∧ len * Try.prog.bytesOf e ≤ reachBytes ∧ len ≤ k ∧
      ∀ i, i < len → ∃ cs', cs'.length = Try.prog.cellsOf e ∧ (∀ j v, cs'[j]? = some v → w.cell? (a.add (i * Try.prog.cellsOf e + j)) = some v) ∧ ReadsB k f1 w e cs' := by
  obtain ⟨H, enc, x, h1, h2, h3⟩ := h
  rcases DataW.trod_slice hu h1 with ⟨r, _⟩ | ⟨a, len, cap, elems, rest, n, hn, r1, r2, _, hl, hm, hlen, hel, hsp, _⟩
  · exact .inl r
  · right
    obtain ⟨hrl, hsp⟩ := hsp rfl
    have hx : x.1 = .slice (elems.map (·.1)) (rest.map (·.1)) := by rw [r2]
    have hw : ∀ m ∈ (elems.length + rest.length) * Try.prog.bytesOf e :: (DataW.weightsAll Try.prog e (elems.map (·.1)) ++ DataW.weightsAll Try.prog e (rest.map (·.1))), m ≤ reachBytes := by
      intro m hm'
      refine h2 m ?_
      rw [hx]
      simpa [DataW.weights, hu] using hm'
    rw [hx] at h3
    simp only [Rows.uptoBulk] at h3
    refine ⟨a, len, cap, n, hn, r1, hl, ?_, ?_, fun i hi => ?_⟩
    · have := hw _ List.mem_cons_self
      refine Nat.le_trans (Nat.mul_le_mul_right _ ?_) this
      omega
    · have := bulks.length_le (elems.map (·.1))
      rw [List.length_map] at this
      omega
    · have h5 := hel i hi
      rw [List.getElem?_eq_getElem (by omega)] at h5
      obtain ⟨cs', hc, ht⟩ := Option.bind_eq_some_iff.1 h5
      obtain ⟨hcl, hcc⟩ := cells_of hc
      have hmem : elems[i].1 ∈ elems.map (·.1) := List.mem_map_of_mem (List.getElem_mem (by omega))
      refine ⟨cs', hcl, fun j v hj => ?_, H, enc, _, ht, fun m hm' => hw m ?_, ?_⟩
      · have := hcc j v hj
        rwa [addr_add] at this
      · exact List.mem_cons_of_mem _ (List.mem_append.2 (.inl (mem_weightsAll hmem hm')))
      · have := mem_bulk hmem
        omega
/-- A slice whose elements are opened. -/
theorem ReadsB.rows {α : Type} {k fuel c : Nat} {w : World} {t e : TypeId} {cs : List Value} {p : α → List Value → Prop} {q : α → Prop} (hu : Try.prog.underlying t = some (.slice e)) (hc : Try.prog.cellsOf e = c) (hc0 : 0 < c) (hb : 1 ≤ Try.prog.bytesOf e) (h : ReadsB k fuel w t cs)
    (hp : ∀ f1 cs', f1 < fuel → ReadsB k f1 w e cs' → ∃ x, p x cs' ∧ q x) : ∃ v xs, cs = [v] ∧ Sl c p (fun i => i < w.heap.size) w v xs ∧ xs.length ≤ k ∧ ∀ x ∈ xs, q x := by
  rcases h.slice hu with rfl | ⟨a, len, cap, f1, hf, rfl, hlc, hby, hlk, hel⟩
  · exact ⟨_, [], rfl, ⟨none, 0, rfl, Nat.zero_le _, Nat.zero_le _, .inl rfl⟩, Nat.zero_le _, fun x hx => by cases hx⟩
  · have hr : reachBytes = 140737488351232 := rfl
    rw [hc] at hel
    obtain ⟨xs, hxl, hxs⟩ := list_of (p := fun i (x : α) => ∃ cs', cs'.length = c ∧ (∀ j v, cs'[j]? = some v → w.cell? (a.add (i * c + j)) = some v) ∧ p x cs' ∧ q x) len (fun i hi => by
      obtain ⟨cs', g1, g2, g3⟩ := hel i hi
      obtain ⟨x, hx, hq⟩ := hp f1 cs' (by omega) g3
      exact ⟨x, cs', g1, g2, hx, hq⟩)
    obtain ⟨L, hLl, hL⟩ := list_of (p := fun i (cs' : List Value) => cs'.length = c ∧ (∀ j v, cs'[j]? = some v → w.cell? (a.add (i * c + j)) = some v) ∧ ∀ x, xs[i]? = some x → p x cs' ∧ q x) len (fun i hi => by
      obtain ⟨x, hx⟩ : ∃ x, xs[i]? = some x := ⟨_, List.getElem?_eq_getElem (by omega)⟩
      obtain ⟨cs', g1, g2, g3, g4⟩ := hxs i x hx
      exact ⟨cs', g1, g2, fun y hy => by rw [hx] at hy; cases hy; exact ⟨g3, g4⟩⟩)
    refine ⟨_, xs, rfl, ⟨some a, cap, by rw [hxl], by omega, ?_, ?_⟩, by omega, fun x hx => ?_⟩
    · rw [hr] at hby
      rw [hxl]
      exact Nat.le_trans (Nat.le_mul_of_pos_right _ hb) hby
    · by_cases h0 : len = 0
      · exact .inl (List.eq_nil_of_length_eq_zero (by omega))
      · right
        have hall : ∀ c' ∈ L, c'.length = c := fun c' hc' => by
          obtain ⟨i, hi, rfl⟩ := List.mem_iff_getElem.1 hc'
          exact (hL i _ (List.getElem?_eq_getElem hi)).1
        obtain ⟨k0, hL0⟩ : ∃ c', L[0]? = some c' := ⟨L[0]'(by omega), List.getElem?_eq_getElem _⟩
        obtain ⟨g1, g2, -⟩ := hL 0 _ hL0
        obtain ⟨z0, hz0⟩ : ∃ z0, k0[0]? = some z0 := ⟨k0[0]'(by omega), List.getElem?_eq_getElem _⟩
        have hc0' := g2 0 z0 hz0
        rw [Nat.zero_mul, Nat.add_zero] at hc0'
        obtain ⟨g, o, rfl, hg⟩ := addr_of hc0'
        refine ⟨g, o, L, rfl, hg, hg, ?_, by omega, hall, fun j x c' hx hc' => ((hL j c' hc').2.2 x hx).1⟩
        intro j v hj
        have hjl : j < L.flatten.length := (List.getElem?_eq_some_iff.1 hj).1
        rw [flat_length L hall] at hjl
        have hjc : j / c < L.length := Nat.div_lt_of_lt_mul (by rw [Nat.mul_comm]; exact hjl)
        have hLj : L[j / c]? = some (L[j / c]'hjc) := List.getElem?_eq_getElem _
        have hfg := flat_get L (j / c) _ hall hLj
        have hdm : j / c * c + j % c = j := by rw [Nat.mul_comm]; exact Nat.div_add_mod j c
        have hv : (L[j / c]'hjc)[j % c]? = some v := by
          rw [← hfg, List.getElem?_take, if_pos (Nat.mod_lt _ hc0), List.getElem?_drop, hdm]
          exact hj
        have := (hL (j / c) _ hLj).2.1 (j % c) v hv
        rw [hdm] at this
        rwa [Addr.add_mid] at this
    · obtain ⟨i, hi, rfl⟩ := List.mem_iff_getElem.1 hx
      obtain ⟨cs', -, -, -, hq⟩ := hxs i _ (List.getElem?_eq_getElem hi)
      exact hq
theorem cS : Try.prog.cellsOf 9 = 1 := by kernel_rfl
theorem cI : Try.prog.cellsOf 3 = 1 := by kernel_rfl
theorem cB : Try.prog.cellsOf 4 = 1 := by kernel_rfl
theorem cSs : Try.prog.cellsOf 23 = 1 := by kernel_rfl
theorem cAt : Try.prog.cellsOf 54 = 2 := by kernel_rfl
theorem cMo : Try.prog.cellsOf 56 = 3 := by kernel_rfl
theorem cFl : Try.prog.cellsOf 25 = 7 := by kernel_rfl
theorem cFls : Try.prog.cellsOf 22 = 1 := by kernel_rfl
theorem cAts : Try.prog.cellsOf 26 = 1 := by kernel_rfl
theorem cMos : Try.prog.cellsOf 27 = 1 := by kernel_rfl
theorem cMsg : Try.prog.cellsOf 29 = 30 := by kernel_rfl
theorem bS : 1 ≤ Try.prog.bytesOf 9 := by rw [show Try.prog.bytesOf 9 = 16 by kernel_rfl]; decide
theorem bAt : 1 ≤ Try.prog.bytesOf 54 := by rw [show Try.prog.bytesOf 54 = 40 by kernel_rfl]; decide
theorem bMo : 1 ≤ Try.prog.bytesOf 56 := by rw [show Try.prog.bytesOf 56 = 48 by kernel_rfl]; decide
theorem bFl : 1 ≤ Try.prog.bytesOf 25 := by rw [show Try.prog.bytesOf 25 = 120 by kernel_rfl]; decide
theorem int_b {k f : Nat} {w : World} {cs : List Value} (h : ReadsB k f w 3 cs) : ∃ n, cs = [.int .i64 n] ∧ I64 n := by
  obtain ⟨n, e, hn⟩ := h.reads.int Try.underlying3
  exact ⟨n, e, i64_of hn⟩
theorem bool_b {k f : Nat} {w : World} {cs : List Value} (h : ReadsB k f w 4 cs) : ∃ b, cs = [.bool b] := h.reads.bool Try.underlying4
theorem flat_one {xs : List B} {L : List (List Value)} (hl : L.length = xs.length) (h : ∀ (j : Nat) (x : B) (c : List Value), xs[j]? = some x → L[j]? = some c → c = [.string (sb x)]) : L.flatten = strs xs := by
  have e : L = xs.map fun x => [Value.string (sb x)] := by
    refine List.ext_getElem? fun j => ?_
    rw [List.getElem?_map]
    by_cases hj : j < xs.length
    · have h1 : xs[j]? = some xs[j] := List.getElem?_eq_getElem hj
      have h2 : L[j]? = some (L[j]'(by omega)) := List.getElem?_eq_getElem _
      rw [h2, h1, h j _ _ h1 h2]
      rfl
    · rw [List.getElem?_eq_none (by omega), List.getElem?_eq_none (by omega)]
      rfl
  rw [e]
  clear hl h e
  induction xs with
  | nil => rfl
  | cons x r ih => rw [List.map_cons, List.flatten_cons, ih]; rfl
theorem tx_b {k f : Nat} {w : World} {cs : List Value} (h : ReadsB k f w 23 cs) : ∃ v xs, cs = [v] ∧ Tx (fun i => i < w.heap.size) w v xs ∧ xs.length ≤ k ∧ ∀ x ∈ xs, x.length ≤ k := by
  obtain ⟨v, xs, e, hs, hl, hq⟩ := h.rows (p := fun (x : B) c => c = [.string (sb x)]) (q := fun x => Sz x ∧ x.length ≤ k) Try.underlying23 cS (by decide) bS (fun f1 cs' _ hr => by
    obtain ⟨l, e, h1, h2⟩ := hr.string Try.underlying9
    exact ⟨l, e, h1, h2⟩)
  obtain ⟨a, cap, h1, h2, h3, h4⟩ := hs
  refine ⟨v, xs, e, ⟨⟨a, _, cap, h1, rfl, h2, ?_⟩, h3, fun x hx => (hq x hx).1⟩, hl, fun x hx => (hq x hx).2⟩
  rcases h4 with rfl | ⟨g, o, L, ha, hS, hg, hr, hL, -, hp⟩
  · exact .inl rfl
  · rw [flat_one hL hp] at hr
    exact .inr ⟨g, o, ha, hS, hg, hr⟩
theorem at_b {k f : Nat} {w : World} {cs : List Value} (h : ReadsB k f w 54 cs) : ∃ x, AtC (fun i => i < w.heap.size) w x cs ∧ AtB k x := by
  obtain ⟨f1, rfl, hl, hf⟩ := h.struct Try.underlying54
  rw [cAt] at hl
  obtain ⟨c0, c1, rfl⟩ : ∃ c0 c1, cs = [c0, c1] := by
    match cs, hl with
    | [c0, c1], _ => exact ⟨c0, c1, rfl⟩
  have k0 : ReadsB k f1 w 9 (([c0, c1].drop 0).take (Try.prog.cellsOf 9)) := hf 0 _ rfl
  have k1 : ReadsB k f1 w 23 (([c0, c1].drop 1).take (Try.prog.cellsOf 23)) := hf 1 _ rfl
  rw [cS] at k0
  rw [cSs] at k1
  obtain ⟨t, e0, h1, h2⟩ := k0.string Try.underlying9
  obtain ⟨v, xs, e1, h3, h4, h5⟩ := tx_b k1
  simp only [List.drop_zero, List.drop_succ_cons, List.take_succ_cons, List.take_zero, List.cons.injEq, and_true] at e0 e1
  subst e0 e1
  exact ⟨⟨t, xs⟩, ⟨c1, rfl, h1, h3⟩, h2, h4, h5⟩
theorem mo_b {k f : Nat} {w : World} {cs : List Value} (h : ReadsB k f w 56 cs) : ∃ x, MoC (fun i => i < w.heap.size) w x cs ∧ AtB k x.attr := by
  obtain ⟨f1, rfl, hl, hf⟩ := h.struct Try.underlying56
  rw [cMo] at hl
  obtain ⟨c0, c1, c2, rfl⟩ : ∃ c0 c1 c2, cs = [c0, c1, c2] := by
    match cs, hl with
    | [c0, c1, c2], _ => exact ⟨c0, c1, c2, rfl⟩
  have k0 : ReadsB k f1 w 3 (([c0, c1, c2].drop 0).take (Try.prog.cellsOf 3)) := hf 0 _ rfl
  have k1 : ReadsB k f1 w 54 (([c0, c1, c2].drop 1).take (Try.prog.cellsOf 54)) := hf 1 _ rfl
  rw [cI] at k0
  rw [cAt] at k1
  obtain ⟨n, e0, h1⟩ := int_b k0
  obtain ⟨x, ⟨v, e1, h2, h3⟩, h4⟩ := at_b k1
  simp only [List.drop_zero, List.drop_succ_cons, List.take_succ_cons, List.take_zero, List.cons.injEq, and_true] at e0 e1
  subst e0
  obtain ⟨rfl, rfl⟩ := e1
  exact ⟨⟨n, x⟩, ⟨c2, rfl, h1, h2, h3⟩, h4⟩
theorem FlC.up {S : Nat → Prop} {w : World} : ∀ {M : Nat} {f : Fl} {cs : List Value}, FlC M S w f cs → FlC (M + 1) S w f cs
  | 0, _, _, h => h.elim
  | M + 1, f, cs, h => by
    obtain ⟨vk, va, h1, h2, h3, h4, h5, h6, h7, h8⟩ := h
    exact ⟨vk, va, h1, h2, h3, h4, h5, h6, h7, h8.fr (Fr.refl No w) (fun _ _ _ e => e) fun x c _ hx => hx.up⟩
theorem FlC.le {S : Nat → Prop} {w : World} {M N : Nat} {f : Fl} {cs : List Value} (h : FlC M S w f cs) (hMN : M ≤ N) : FlC N S w f cs := by
  induction hMN with
  | refl => exact h
  | step _ ih => exact ih.up
theorem fl_b {k : Nat} : ∀ (f : Nat) (w : World) (cs : List Value), ReadsB k f w 25 cs → ∃ x, FlC f (fun i => i < w.heap.size) w x cs ∧ ∀ d, FlB k d x := by
  intro f
  induction f using Nat.strongRecOn with
  | ind f ih =>
    intro w cs h
    obtain ⟨f1, rfl, hl, hf⟩ := h.struct Try.underlying25
    rw [cFl] at hl
    obtain ⟨c0, c1, c2, c3, c4, c5, c6, rfl⟩ : ∃ c0 c1 c2 c3 c4 c5 c6, cs = [c0, c1, c2, c3, c4, c5, c6] := by
      match cs, hl with
      | [c0, c1, c2, c3, c4, c5, c6], _ => exact ⟨c0, c1, c2, c3, c4, c5, c6, rfl⟩
    have k0 : ReadsB k f1 w 3 (([c0, c1, c2, c3, c4, c5, c6].drop 0).take (Try.prog.cellsOf 3)) := hf 0 _ rfl
    have k1 : ReadsB k f1 w 22 (([c0, c1, c2, c3, c4, c5, c6].drop 1).take (Try.prog.cellsOf 22)) := hf 1 _ rfl
    have k2 : ReadsB k f1 w 9 (([c0, c1, c2, c3, c4, c5, c6].drop 2).take (Try.prog.cellsOf 9)) := hf 2 _ rfl
    have k3 : ReadsB k f1 w 9 (([c0, c1, c2, c3, c4, c5, c6].drop 3).take (Try.prog.cellsOf 9)) := hf 3 _ rfl
    have k4 : ReadsB k f1 w 9 (([c0, c1, c2, c3, c4, c5, c6].drop 4).take (Try.prog.cellsOf 9)) := hf 4 _ rfl
    have k5 : ReadsB k f1 w 23 (([c0, c1, c2, c3, c4, c5, c6].drop 5).take (Try.prog.cellsOf 23)) := hf 5 _ rfl
    have k6 : ReadsB k f1 w 9 (([c0, c1, c2, c3, c4, c5, c6].drop 6).take (Try.prog.cellsOf 9)) := hf 6 _ rfl
    rw [cI] at k0
    rw [cFls] at k1
    rw [cS] at k2 k3 k4 k6
    rw [cSs] at k5
    obtain ⟨n, e0, g0⟩ := int_b k0
    obtain ⟨vk, ks, e1, s1, l1, q1⟩ := k1.rows (p := FlC f1 (fun i => i < w.heap.size) w) (q := fun x => ∀ d, FlB k d x) Try.underlying22 cFl (by decide) bFl (fun f2 cs' hlt hr => by
      obtain ⟨x, hx, hb⟩ := ih f2 (by omega) w cs' hr
      exact ⟨x, hx.le (by omega), hb⟩)
    obtain ⟨t2, e2, g2, b2⟩ := k2.string Try.underlying9
    obtain ⟨t3, e3, g3, b3⟩ := k3.string Try.underlying9
    obtain ⟨t4, e4, g4, b4⟩ := k4.string Try.underlying9
    obtain ⟨va, as_, e5, g5, l5, b5⟩ := tx_b k5
    obtain ⟨t6, e6, g6, b6⟩ := k6.string Try.underlying9
    simp only [List.drop_zero, List.drop_succ_cons, List.take_succ_cons, List.take_zero, List.cons.injEq, and_true] at e0 e1 e2 e3 e4 e5 e6
    subst e0 e1 e2 e3 e4 e5 e6
    refine ⟨.mk n ks t2 t3 t4 as_ t6, ⟨c1, c5, rfl, g0, g2, g3, g4, g6, g5, s1⟩, fun d => ?_⟩
    cases d with
    | zero => trivial
    | succ d => exact ⟨b2, b3, b4, b6, l5, b5, l1, fun x hx => q1 x hx d⟩
end Go.Proofs.Ythjmkfpdbbfcpaa.ME

namespace Go.Proofs.Ythjmkfpdbbfcpaa.ME
set_option maxRecDepth 100000
open Go.ChangeShapes Go.WideShapes Go.ChangeAt Go.RowKit K Go.Proofs.Ythjmkfpdbbfcpaa.BE Go.Proofs.Ythjmkfpdbbfcpaa.FR

theorem len30 {α : Type} : ∀ {l : List α}, l.length = 30 → ∃ c0 c1 c2 c3 c4 c5 c6 c7 c8 c9 c10 c11 c12 c13 c14 c15 c16 c17 c18 c19 c20 c21 c22 c23 c24 c25 c26 c27 c28 c29, l = [c0, c1, c2, c3, c4, c5, c6, c7, c8, c9, c10, c11, c12, c13, c14, c15, c16, c17, c18, c19, c20, c21, c22, c23, c24, c25, c26, c27, c28, c29]
  | [c0, c1, c2, c3, c4, c5, c6, c7, c8, c9, c10, c11, c12, c13, c14, c15, c16, c17, c18, c19, c20, c21, c22, c23, c24, c25, c26, c27, c28, c29], _ => ⟨c0, c1, c2, c3, c4, c5, c6, c7, c8, c9, c10, c11, c12, c13, c14, c15, c16, c17, c18, c19, c20, c21, c22, c23, c24, c25, c26, c27, c28, c29, rfl⟩
set_option maxHeartbeats 4000000 in
theorem msg_b {k : Nat} (f : Nat) (w : World) (cs : List Value) (h : ReadsB k f w 29 cs) : ∃ M m vk va vw vl vm, cs = mcs m vk va vw vl vm ∧ MsgC M (fun i => i < w.heap.size) w m vk va vw vl vm ∧ MsgB k m := by
  obtain ⟨f1, rfl, hl, hf⟩ := h.struct Try.underlying29
  rw [cMsg] at hl
  obtain ⟨c0, c1, c2, c3, c4, c5, c6, c7, c8, c9, c10, c11, c12, c13, c14, c15, c16, c17, c18, c19, c20, c21, c22, c23, c24, c25, c26, c27, c28, c29, rfl⟩ := len30 hl
  have k0 : ReadsB k f1 w 3 (([c0, c1, c2, c3, c4, c5, c6, c7, c8, c9, c10, c11, c12, c13, c14, c15, c16, c17, c18, c19, c20, c21, c22, c23, c24, c25, c26, c27, c28, c29].drop 0).take (Try.prog.cellsOf 3)) := hf 0 _ rfl
  have k1 : ReadsB k f1 w 3 (([c0, c1, c2, c3, c4, c5, c6, c7, c8, c9, c10, c11, c12, c13, c14, c15, c16, c17, c18, c19, c20, c21, c22, c23, c24, c25, c26, c27, c28, c29].drop 1).take (Try.prog.cellsOf 3)) := hf 1 _ rfl
  have k2 : ReadsB k f1 w 3 (([c0, c1, c2, c3, c4, c5, c6, c7, c8, c9, c10, c11, c12, c13, c14, c15, c16, c17, c18, c19, c20, c21, c22, c23, c24, c25, c26, c27, c28, c29].drop 2).take (Try.prog.cellsOf 3)) := hf 2 _ rfl
  have k3 : ReadsB k f1 w 9 (([c0, c1, c2, c3, c4, c5, c6, c7, c8, c9, c10, c11, c12, c13, c14, c15, c16, c17, c18, c19, c20, c21, c22, c23, c24, c25, c26, c27, c28, c29].drop 3).take (Try.prog.cellsOf 9)) := hf 3 _ rfl
  have k4 : ReadsB k f1 w 9 (([c0, c1, c2, c3, c4, c5, c6, c7, c8, c9, c10, c11, c12, c13, c14, c15, c16, c17, c18, c19, c20, c21, c22, c23, c24, c25, c26, c27, c28, c29].drop 4).take (Try.prog.cellsOf 9)) := hf 4 _ rfl
  have k5 : ReadsB k f1 w 3 (([c0, c1, c2, c3, c4, c5, c6, c7, c8, c9, c10, c11, c12, c13, c14, c15, c16, c17, c18, c19, c20, c21, c22, c23, c24, c25, c26, c27, c28, c29].drop 5).take (Try.prog.cellsOf 3)) := hf 5 _ rfl
  have k6 : ReadsB k f1 w 3 (([c0, c1, c2, c3, c4, c5, c6, c7, c8, c9, c10, c11, c12, c13, c14, c15, c16, c17, c18, c19, c20, c21, c22, c23, c24, c25, c26, c27, c28, c29].drop 6).take (Try.prog.cellsOf 3)) := hf 6 _ rfl
  have k7 : ReadsB k f1 w 3 (([c0, c1, c2, c3, c4, c5, c6, c7, c8, c9, c10, c11, c12, c13, c14, c15, c16, c17, c18, c19, c20, c21, c22, c23, c24, c25, c26, c27, c28, c29].drop 7).take (Try.prog.cellsOf 3)) := hf 7 _ rfl
  have k8 : ReadsB k f1 w 3 (([c0, c1, c2, c3, c4, c5, c6, c7, c8, c9, c10, c11, c12, c13, c14, c15, c16, c17, c18, c19, c20, c21, c22, c23, c24, c25, c26, c27, c28, c29].drop 8).take (Try.prog.cellsOf 3)) := hf 8 _ rfl
  have k9 : ReadsB k f1 w 4 (([c0, c1, c2, c3, c4, c5, c6, c7, c8, c9, c10, c11, c12, c13, c14, c15, c16, c17, c18, c19, c20, c21, c22, c23, c24, c25, c26, c27, c28, c29].drop 9).take (Try.prog.cellsOf 4)) := hf 9 _ rfl
  have k10 : ReadsB k f1 w 25 (([c0, c1, c2, c3, c4, c5, c6, c7, c8, c9, c10, c11, c12, c13, c14, c15, c16, c17, c18, c19, c20, c21, c22, c23, c24, c25, c26, c27, c28, c29].drop 10).take (Try.prog.cellsOf 25)) := hf 10 _ rfl
  have k11 : ReadsB k f1 w 23 (([c0, c1, c2, c3, c4, c5, c6, c7, c8, c9, c10, c11, c12, c13, c14, c15, c16, c17, c18, c19, c20, c21, c22, c23, c24, c25, c26, c27, c28, c29].drop 17).take (Try.prog.cellsOf 23)) := hf 11 _ rfl
  have k12 : ReadsB k f1 w 26 (([c0, c1, c2, c3, c4, c5, c6, c7, c8, c9, c10, c11, c12, c13, c14, c15, c16, c17, c18, c19, c20, c21, c22, c23, c24, c25, c26, c27, c28, c29].drop 18).take (Try.prog.cellsOf 26)) := hf 12 _ rfl
  have k13 : ReadsB k f1 w 27 (([c0, c1, c2, c3, c4, c5, c6, c7, c8, c9, c10, c11, c12, c13, c14, c15, c16, c17, c18, c19, c20, c21, c22, c23, c24, c25, c26, c27, c28, c29].drop 19).take (Try.prog.cellsOf 27)) := hf 13 _ rfl
  have k14 : ReadsB k f1 w 9 (([c0, c1, c2, c3, c4, c5, c6, c7, c8, c9, c10, c11, c12, c13, c14, c15, c16, c17, c18, c19, c20, c21, c22, c23, c24, c25, c26, c27, c28, c29].drop 20).take (Try.prog.cellsOf 9)) := hf 14 _ rfl
  have k15 : ReadsB k f1 w 4 (([c0, c1, c2, c3, c4, c5, c6, c7, c8, c9, c10, c11, c12, c13, c14, c15, c16, c17, c18, c19, c20, c21, c22, c23, c24, c25, c26, c27, c28, c29].drop 21).take (Try.prog.cellsOf 4)) := hf 15 _ rfl
  have k16 : ReadsB k f1 w 4 (([c0, c1, c2, c3, c4, c5, c6, c7, c8, c9, c10, c11, c12, c13, c14, c15, c16, c17, c18, c19, c20, c21, c22, c23, c24, c25, c26, c27, c28, c29].drop 22).take (Try.prog.cellsOf 4)) := hf 16 _ rfl
  have k17 : ReadsB k f1 w 9 (([c0, c1, c2, c3, c4, c5, c6, c7, c8, c9, c10, c11, c12, c13, c14, c15, c16, c17, c18, c19, c20, c21, c22, c23, c24, c25, c26, c27, c28, c29].drop 23).take (Try.prog.cellsOf 9)) := hf 17 _ rfl
  have k18 : ReadsB k f1 w 9 (([c0, c1, c2, c3, c4, c5, c6, c7, c8, c9, c10, c11, c12, c13, c14, c15, c16, c17, c18, c19, c20, c21, c22, c23, c24, c25, c26, c27, c28, c29].drop 24).take (Try.prog.cellsOf 9)) := hf 18 _ rfl
  have k19 : ReadsB k f1 w 9 (([c0, c1, c2, c3, c4, c5, c6, c7, c8, c9, c10, c11, c12, c13, c14, c15, c16, c17, c18, c19, c20, c21, c22, c23, c24, c25, c26, c27, c28, c29].drop 25).take (Try.prog.cellsOf 9)) := hf 19 _ rfl
  have k20 : ReadsB k f1 w 3 (([c0, c1, c2, c3, c4, c5, c6, c7, c8, c9, c10, c11, c12, c13, c14, c15, c16, c17, c18, c19, c20, c21, c22, c23, c24, c25, c26, c27, c28, c29].drop 26).take (Try.prog.cellsOf 3)) := hf 20 _ rfl
  have k21 : ReadsB k f1 w 3 (([c0, c1, c2, c3, c4, c5, c6, c7, c8, c9, c10, c11, c12, c13, c14, c15, c16, c17, c18, c19, c20, c21, c22, c23, c24, c25, c26, c27, c28, c29].drop 27).take (Try.prog.cellsOf 3)) := hf 21 _ rfl
  have k22 : ReadsB k f1 w 9 (([c0, c1, c2, c3, c4, c5, c6, c7, c8, c9, c10, c11, c12, c13, c14, c15, c16, c17, c18, c19, c20, c21, c22, c23, c24, c25, c26, c27, c28, c29].drop 28).take (Try.prog.cellsOf 9)) := hf 22 _ rfl
  have k23 : ReadsB k f1 w 9 (([c0, c1, c2, c3, c4, c5, c6, c7, c8, c9, c10, c11, c12, c13, c14, c15, c16, c17, c18, c19, c20, c21, c22, c23, c24, c25, c26, c27, c28, c29].drop 29).take (Try.prog.cellsOf 9)) := hf 23 _ rfl
  rw [cAts] at k12
  rw [cB] at k9 k15 k16
  rw [cFl] at k10
  rw [cI] at k0 k1 k2 k5 k6 k7 k8 k20 k21
  rw [cMos] at k13
  rw [cS] at k3 k4 k14 k17 k18 k19 k22 k23
  rw [cSs] at k11
  obtain ⟨idn, e0, g0⟩ := int_b k0
  obtain ⟨op, e1, g1⟩ := int_b k1
  obtain ⟨ver, e2, g2⟩ := int_b k2
  obtain ⟨name, e3, g3, b3⟩ := k3.string Try.underlying9
  obtain ⟨pw, e4, g4, b4⟩ := k4.string Try.underlying9
  obtain ⟨scope, e5, g5⟩ := int_b k5
  obtain ⟨deref, e6, g6⟩ := int_b k6
  obtain ⟨size, e7, g7⟩ := int_b k7
  obtain ⟨time, e8, g8⟩ := int_b k8
  obtain ⟨tyo, e9⟩ := bool_b k9
  obtain ⟨fl, hfl, bfl⟩ := fl_b f1 w _ k10
  obtain ⟨vw, wants, e11, g11, l11, b11⟩ := tx_b k11
  obtain ⟨vl, list, e12, g12, l12, b12⟩ := k12.rows (p := AtC (fun i => i < w.heap.size) w) (q := AtB k) Try.underlying26 cAt (by decide) bAt (fun f2 cs' _ hr => at_b hr)
  obtain ⟨vm, mods, e13, g13, l13, b13⟩ := k13.rows (p := MoC (fun i => i < w.heap.size) w) (q := fun x => AtB k x.attr) Try.underlying27 cMo (by decide) bMo (fun f2 cs' _ hr => mo_b hr)
  obtain ⟨rdn, e14, g14, b14⟩ := k14.string Try.underlying9
  obtain ⟨dr, e15⟩ := bool_b k15
  obtain ⟨mv, e16⟩ := bool_b k16
  obtain ⟨sup, e17, g17, b17⟩ := k17.string Try.underlying9
  obtain ⟨ty, e18, g18, b18⟩ := k18.string Try.underlying9
  obtain ⟨val, e19, g19, b19⟩ := k19.string Try.underlying9
  obtain ⟨tg, e20, g20⟩ := int_b k20
  obtain ⟨cd, e21, g21⟩ := int_b k21
  obtain ⟨mt, e22, g22, b22⟩ := k22.string Try.underlying9
  obtain ⟨tx, e23, g23, b23⟩ := k23.string Try.underlying9
  simp only [List.drop_zero, List.drop_succ_cons, List.take_succ_cons, List.take_zero, List.cons.injEq, and_true] at hfl e0 e1 e2 e3 e4 e5 e6 e7 e8 e9 e11 e12 e13 e14 e15 e16 e17 e18 e19 e20 e21 e22 e23
  subst e0 e1 e2 e3 e4 e5 e6 e7 e8 e9 e11 e12 e13 e14 e15 e16 e17 e18 e19 e20 e21 e22 e23
  have hfl0 := hfl
  cases f1 with
  | zero => exact hfl.elim
  | succ f1 =>
    obtain ⟨vk, va, ef, -⟩ := hfl0
    simp only [List.cons.injEq, and_true] at ef
    obtain ⟨rfl, rfl, rfl, rfl, rfl, rfl, rfl⟩ := ef
    exact ⟨f1 + 1, ⟨idn, op, ver, name, pw, scope, deref, size, time, tyo, fl, wants, list, mods, rdn, dr, mv, sup, ty, val, tg, cd, mt, tx⟩, c11, c15, c17, c18, c19, rfl,
      ⟨⟨g0, g1, g2, g5, g6, g7, g8, g20, g21⟩, ⟨g3, g4, g14, g17, g18, g19, g22, g23⟩, hfl, g11, g12, g13⟩, ⟨⟨b3, b4, b14, b17, b18, b19, b22, b23⟩, bfl, ⟨l11, b11⟩, ⟨l12, b12⟩, ⟨l13, b13⟩⟩⟩
section
variable {H : Type} {enc : TypeId × Value → H} {W W' : World} {v : Value} {d : DataW H} {p : List MemPlace} {ts : List TypeId} {ds : List (DataW H)}
theorem arg_msg (h : DataW.Trod enc Try.prog W 0 (fun _ => true) true 29 v d p) (hv : ∃ cs, v = .agg cs ∧ cs.size = Try.prog.cellsOf 29) (hsz : (DataW.weightsEach Try.prog ts ds).all (· ≤ reachBytes) = true) (j : Nat) (ht : ts[j]? = some 29) (hd : ds[j]? = some d) :
    ∃ M m vk va vw vl vm, v = .agg (mcs m vk va vw vl vm).toArray ∧ MsgC M (fun i => i < W.heap.size) W m vk va vw vl vm ∧ MsgB (Rows.uptoBulk d) m := by
  obtain ⟨fuel, hr⟩ := h
  obtain ⟨cs, rfl, -⟩ := hv
  obtain ⟨M, m, vk, va, vw, vl, vm, e, h1, h2⟩ := msg_b fuel W cs.toList ⟨H, enc, _, by simpa [Value.cells] using hr, fun n hn => by simpa using List.all_eq_true.1 hsz n (DataW.weights_mem_each ht hd n hn), Nat.le_refl _⟩
  exact ⟨M, m, vk, va, vw, vl, vm, by rw [← e], h1, h2⟩
end
end Go.Proofs.Ythjmkfpdbbfcpaa.ME

namespace Go.Proofs.Ythjmkfpdbbfcpaa.BE
set_option maxRecDepth 100000
open Go.RowKit K

/-- It holds, and nothing but new blocks came; or it fails. -/
def Holds (b : Bool) (c : Nat) (w : World) (e : Ending) (w' : World) : Prop := Fr No w w' ∧ ((b = true ∧ e = .returned (.tuple #[])) ∨ (b = false ∧ e = .panicked [fl c]))
theorem box_kid (c : List Value) (h : c.length = 3) : ∃ x y z, c = [x, y, z] := by
  match c, h with
  | [x, y, z], _ => exact ⟨x, y, z, rfl⟩
theorem all_take {p : Nd → Bool} {l : List Nd} {i : Nat} {x : Nd} (hx : l[i]? = some x) (h : (l.take i).all p = true) (hp : p x = true) : (l.take (i + 1)).all p = true := by
  rw [List.take_add_one, hx]
  simp [h, hp]
theorem all_not {p : Nd → Bool} {l : List Nd} {i : Nat} {x : Nd} (hx : l[i]? = some x) (hp : p x = false) : l.all p = false := by
  rw [List.all_eq_false]
  exact ⟨x, List.mem_of_getElem? hx, by simp [hp]⟩
set_option maxHeartbeats 4000000 in
theorem checkDepth_any : ∀ (m M N : Nat) (n : Nd) (cs : List Value) (w : World), m ≤ 8 → NdAt M (Lo N) w n cs → N ≤ w.heap.size → Calls Try.prog 67 #[.agg cs.toArray, .int .i64 ((9 - m : Nat) : Int)] w (Holds (deep m n) 91 w) := by
  intro m
  induction m with
  | zero =>
    intro M N n cs w _ hn hN
    obtain ⟨x, y, z, hcs⟩ := box_kid cs hn.len
    subst hcs
    go_enter Try.func67, Try.ntmps67
    go_wp2_with (first
      | ((with_reducible refine K.atO (.box 44 _) ?_); refine wpL_box rfl _ _ rfl _ rfl [x, y, z] rfl ?_; intro w1 HB1 F1 HS1)
      | ((with_reducible refine K.atO (.box 3 _) ?_); refine wpL_box rfl _ _ rfl _ rfl [.int .i64 9] rfl ?_; intro w2 HB2 F2 HS2; have c2 : w2.cell? ⟨w1.heap.size, 0, none⟩ = some (.int .i64 9) := HB2.out.cell 0))
    refine (must_any false 91 w2).mono ?_
    rintro e w3 ⟨rfl, h⟩
    rcases h with ⟨h, _⟩ | ⟨_, rfl⟩
    · cases h
    exact ⟨rfl, F1.out.trans' F2.out, .inr ⟨rfl, rfl⟩⟩
  | succ m ih =>
    intro M N n cs w hm hn hN
    obtain ⟨x, y, z, hcs⟩ := box_kid cs hn.len
    subst hcs
    obtain ⟨M, rfl⟩ : ∃ k, M = k + 1 := by
      cases M with
      | zero => exact hn.elim
      | succ k => exact ⟨k, rfl⟩
    have HN := hid hn; have HIH := hid ih; have HNN := hid hN; have HM := hid hm
    have hd : ((9 - (m + 1) : Nat) : Int) = 8 - m := by omega
    have hd8 : (8 - (m : Int)) ≤ 8 := by omega
    have hd0 : 0 ≤ (8 - (m : Int)) := by omega
    rw [hd]
    clear hn ih hN hd hm
    generalize hq : 8 - (m : Int) = q at *
    have HQ := hid hq
    clear hq
    have hmf : ∀ (fn : Fn) (first cap : Array Value) (w : World), (Instr.makeFunc fn first cap).run Try.prog w = .ok (.func fn first cap) w := fun _ _ _ _ => rfl
    go_enter Try.func67, Try.ntmps67
    go_wp2_with (first
      | ((with_reducible refine K.atO (.box 44 _) ?_); refine wpL_box rfl _ _ rfl _ rfl [x, y, z] rfl ?_; intro w1 HB1 F1 HS1)
      | ((with_reducible refine K.atO (.box 3 _) ?_); refine wpL_box rfl _ _ rfl _ rfl [.int .i64 q] rfl ?_; intro w2 HB2 F2 HS2; have c2 : w2.cell? ⟨w1.heap.size, 0, none⟩ = some (.int .i64 q) := HB2.out.cell 0))
    refine (must_any true 91 w2).mono ?_
    rintro e w3 ⟨rfl, h⟩
    rcases h with ⟨_, rfl⟩ | ⟨h, _⟩
    · have HB1' := hid (HB1.out.fr F2.out id)
      go_wp2_with (first
        | ((with_reducible refine K.atO (.load 44 _) ?_); refine wpL_load rfl _ _ rfl w.heap.size 0 rfl [x, y, z] _ (HB1'.out.range 0 _ rfl) rfl rfl infoN ?_))
      have hf2 : Fr No w w3 := F1.out.trans' F2.out
      have HF2 := hid hf2
      refine (children_any M N n [x, y, z] 88 [.pointer (some ⟨w1.heap.size, 0, none⟩)] (fun i w' => Fr No w3 w' ∧ (n.kids.take i).all (deep m) = true) (fun c w' => c = 91 ∧ n.kids.all (deep m) = false ∧ Fr No w3 w') w3 (HN.out.no hf2) (Nat.le_trans HNN.out hf2.size) (fun vs w => by kernel_rfl) ⟨Fr.refl _ _, rfl⟩ (fun i a b h hf => ⟨h.1.trans' hf, h.2⟩) ?_).mono ?_
      · intro i k c wv hx hk hi hs
        have hcv : wv.cell? ⟨w1.heap.size, 0, none⟩ = some (.int .i64 q) := hi.1.cell c2 id
        have HI := hid hi; have HX := hid hx; have HK := hid hk; have HS := hid (show N ≤ wv.heap.size by have := HNN.out; have := hf2.size; omega)
        obtain ⟨x', y', z', hc⟩ := box_kid c hk.len
        subst hc
        have hq1 : q + 1 = ((9 - m : Nat) : Int) := by have := HQ.out; have := HM.out; omega
        have HQ1 := hid hq1
        clear hi hx hk hs hf2 c2 hq1
        show Calls Try.prog _ #[.agg #[x', y', z'], .pointer (some ⟨w1.heap.size, 0, none⟩)] wv _
        go_enter Try.func88, Try.ntmps88
        go_wp2_with (first
          | ((with_reducible refine K.atO (.box 44 _) ?_); refine wpL_box rfl _ _ rfl _ rfl [x', y', z'] rfl ?_; intro v1 HB3 F3 HS3; have c3 : v1.cell? ⟨w1.heap.size, 0, none⟩ = some (.int .i64 q) := F3.out.cell hcv id)
          | ((with_reducible refine K.atO (.load 44 _) ?_); refine wpL_load rfl _ _ rfl wv.heap.size 0 rfl [x', y', z'] _ (HB3.out.range 0 _ rfl) rfl rfl infoN ?_))
        rw [HQ1.out]
        refine (HIH.out M N k [x', y', z'] v1 (by have := HM.out; omega) (HK.out.no F3.out) (Nat.le_trans HS.out F3.out.size)).mono ?_
        rintro e v2 ⟨fv, hv⟩
        have ff : Fr No wv v2 := F3.out.trans' fv
        rcases hv with ⟨hd, rfl⟩ | ⟨hd, rfl⟩
        · go_wp2_with fail
          go_end0
          exact ⟨ff.no, .inl ⟨rfl, HI.out.1.trans' ff, all_take HX.out HI.out.2 hd⟩⟩
        · exact ⟨rfl, ff.no, .inr ⟨_, rfl, rfl, all_not HX.out hd, HI.out.1.trans' ff⟩⟩
      · rintro e v hv
        rcases hv with ⟨rfl, hf, ha⟩ | ⟨c, rfl, rfl, ha, hf⟩
        · go_wp2_with fail
          go_end0
          rw [List.take_length] at ha
          exact ⟨HF2.out.trans' hf, .inl ⟨ha, rfl⟩⟩
        · exact ⟨rfl, HF2.out.trans' hf, .inr ⟨ha, rfl⟩⟩
    · cases h
end Go.Proofs.Ythjmkfpdbbfcpaa.BE

namespace Go.Proofs.Ythjmkfpdbbfcpaa.BE
set_option maxRecDepth 100000
open Go.RowKit K

theorem sb_empty (l : B) : (sb l).toList.isEmpty = l.isEmpty := by rw [ByteArray.toList_eq, sb_list]
theorem deep_succ {m : Nat} {n : Nd} (h : deep m n = true) : ∃ k, m = k + 1 := by
  cases m with
  | zero => cases h
  | succ k => exact ⟨k, rfl⟩
theorem deep_kid {m : Nat} {n : Nd} (h : deep (m + 1) n = true) {i : Nat} {x : Nd} (hx : n.kids[i]? = some x) : deep m x = true := by
  simp only [deep, List.all_eq_true] at h
  exact h x (List.mem_of_getElem? hx)
theorem NdAt.succ {M : Nat} {S : Nat → Prop} {w : World} {n : Nd} {cs : List Value} (h : NdAt M S w n cs) : ∃ k, M = k + 1 := by
  cases M with
  | zero => exact h.elim
  | succ k => exact ⟨k, rfl⟩
set_option maxHeartbeats 4000000 in
theorem checkTags_any : ∀ (m M N : Nat) (n : Nd) (cs : List Value) (w : World), deep m n = true → NdAt M (Lo N) w n cs → N ≤ w.heap.size → Calls Try.prog 68 #[.agg cs.toArray] w (Holds (shaped m n) 90 w) := by
  intro m
  induction m with
  | zero => intro M N n cs w h; cases h
  | succ m ih =>
    intro M N n cs w hd hn hN
    obtain ⟨a, sc, hcs, htg, hbl, hkl⟩ := hn.head
    obtain ⟨M, rfl⟩ := hn.succ
    have HN := hid hn; have HIH := hid ih; have HNN := hid hN; have HD := hid hd; have HTG := hid htg
    obtain ⟨tg, htge⟩ : ∃ tg, n.tag = tg := ⟨_, rfl⟩
    obtain ⟨bd, hbde⟩ : ∃ bd, n.body = bd := ⟨_, rfl⟩
    obtain ⟨kl, hkle⟩ : ∃ kl, n.kids.length = kl := ⟨_, rfl⟩
    have HT := hid htge; have HB := hid hbde; have HK := hid hkle
    have HSH : Hid (shaped (m + 1) n = (tagB tg && (if conB tg then bd.isEmpty else decide (kl = 0)) && n.kids.all (shaped m))) := hid (by
      have e : n.kids.isEmpty = decide (kl = 0) := by rw [← hkle]; cases n.kids <;> simp
      rw [← htge, ← hbde, ← e]; rfl)
    rw [htge, hbde, hkle] at hcs
    rw [hkle] at hkl
    subst hcs
    have hse := sb_empty bd
    clear hn ih hN hd htg hbl htge hbde hkle
    go_enter Try.func68, Try.ntmps68
    go_wp2_with (first
      | ((with_reducible refine K.atO (.box 44 _) ?_); refine wpL_box rfl _ _ rfl _ rfl [.int .i64 tg, .string (sb bd), .slice a kl sc] rfl ?_; intro w1 HB1 F1 HS1; have c0 : w1.cell? ⟨w.heap.size, 0, none⟩ = some (.int .i64 tg) := HB1.out.cell 0; have c1 : w1.cell? ⟨w.heap.size, 1, none⟩ = some (.string (sb bd)) := HB1.out.cell 1; have c2 : w1.cell? ⟨w.heap.size, 2, none⟩ = some (.slice a kl sc) := HB1.out.cell 2))
    refine (isTag_any tg w1).mono ?_
    rintro e w2 ⟨rfl, rfl⟩
    go_wp2_with fail
    refine (must_any (tagB tg) 90 w2).mono ?_
    rintro e w3 ⟨rfl, ⟨ht, rfl⟩ | ⟨ht, rfl⟩⟩
    · have HTB := hid ht
      clear ht
      go_wp2_with fail
      refine (isCon_any tg HTB.out w3).mono ?_
      rintro e w4 ⟨rfl, rfl⟩
      cases hc : conB tg with
      | true =>
        have HC := hid hc
        clear hc
        go_wp2_with fail
        refine (must_any bd.isEmpty 90 w4).mono ?_
        rintro e w5 ⟨rfl, ⟨hb, rfl⟩ | ⟨hb, rfl⟩⟩
        · have HSB : Hid (bd.isEmpty = true) := hid (by simpa using hb)
          clear hb
          go_wp2_with (first
            | ((with_reducible refine K.atO (.load 44 _) ?_); refine wpL_load rfl _ _ rfl w.heap.size 0 rfl [.int .i64 tg, .string (sb bd), .slice a kl sc] _ (HB1.out.range 0 _ rfl) rfl rfl infoN ?_))
          refine (children_any M N n [.int .i64 tg, .string (sb bd), .slice a kl sc] 68 [] (fun i w' => Fr No w5 w' ∧ (n.kids.take i).all (shaped m) = true) (fun c w' => c = 90 ∧ n.kids.all (shaped m) = false ∧ Fr No w5 w') w5 (HN.out.no F1.out) (Nat.le_trans HNN.out F1.out.size) (fun vs w => by kernel_rfl) ⟨Fr.refl _ _, rfl⟩ (fun i a b h hf => ⟨h.1.trans' hf, h.2⟩) ?_).mono ?_
          · intro i k c wv hx hk hi hs
            refine (HIH.out M N k c wv (deep_kid HD.out hx) hk (by have := HNN.out; have := F1.out.size; omega)).mono ?_
            rintro e v2 ⟨ff, hv⟩
            rcases hv with ⟨hd, rfl⟩ | ⟨hd, rfl⟩
            · exact ⟨ff.no, .inl ⟨rfl, hi.1.trans' ff, all_take hx hi.2 hd⟩⟩
            · exact ⟨ff.no, .inr ⟨_, rfl, rfl, all_not hx hd, hi.1.trans' ff⟩⟩
          · rintro e v hv
            rcases hv with ⟨rfl, hf, ha⟩ | ⟨c, rfl, rfl, ha, hf⟩
            · go_wp2_with fail
              go_end0
              rw [List.take_length] at ha
              exact ⟨F1.out.trans' hf, .inl ⟨by rw [HSH.out, HTB.out, HC.out, ha]; simpa using HSB.out, rfl⟩⟩
            · exact ⟨rfl, F1.out.trans' hf, .inr ⟨by rw [HSH.out, ha]; simp, rfl⟩⟩
        · have hsb : (bd.isEmpty) = false := by simpa using hb
          exact ⟨rfl, F1.out, .inr ⟨by rw [HSH.out, HC.out]; simp at hsb; simp [hsb], rfl⟩⟩
      | false =>
        have HC := hid hc
        clear hc
        go_wp2_with fail
        refine (must_any ((kl : Int) == 0) 90 w4).mono ?_
        rintro e w5 ⟨rfl, ⟨hb, rfl⟩ | ⟨hb, rfl⟩⟩
        · have HSB : Hid (decide (kl = 0) = true) := hid (by simpa using hb)
          clear hb
          go_wp2_with (first
            | ((with_reducible refine K.atO (.load 44 _) ?_); refine wpL_load rfl _ _ rfl w.heap.size 0 rfl [.int .i64 tg, .string (sb bd), .slice a kl sc] _ (HB1.out.range 0 _ rfl) rfl rfl infoN ?_))
          refine (children_any M N n [.int .i64 tg, .string (sb bd), .slice a kl sc] 68 [] (fun i w' => Fr No w5 w' ∧ (n.kids.take i).all (shaped m) = true) (fun c w' => c = 90 ∧ n.kids.all (shaped m) = false ∧ Fr No w5 w') w5 (HN.out.no F1.out) (Nat.le_trans HNN.out F1.out.size) (fun vs w => by kernel_rfl) ⟨Fr.refl _ _, rfl⟩ (fun i a b h hf => ⟨h.1.trans' hf, h.2⟩) ?_).mono ?_
          · intro i k c wv hx hk hi hs
            refine (HIH.out M N k c wv (deep_kid HD.out hx) hk (by have := HNN.out; have := F1.out.size; omega)).mono ?_
            rintro e v2 ⟨ff, hv⟩
            rcases hv with ⟨hd, rfl⟩ | ⟨hd, rfl⟩
            · exact ⟨ff.no, .inl ⟨rfl, hi.1.trans' ff, all_take hx hi.2 hd⟩⟩
            · exact ⟨ff.no, .inr ⟨_, rfl, rfl, all_not hx hd, hi.1.trans' ff⟩⟩
          · rintro e v hv
            rcases hv with ⟨rfl, hf, ha⟩ | ⟨c, rfl, rfl, ha, hf⟩
            · go_wp2_with fail
              go_end0
              rw [List.take_length] at ha
              exact ⟨F1.out.trans' hf, .inl ⟨by rw [HSH.out, HTB.out, HC.out, ha]; simpa using HSB.out, rfl⟩⟩
            · exact ⟨rfl, F1.out.trans' hf, .inr ⟨by rw [HSH.out, ha]; simp, rfl⟩⟩
        · have hsb : (decide (kl = 0)) = false := by simpa using hb
          exact ⟨rfl, F1.out, .inr ⟨by rw [HSH.out, HC.out]; simp at hsb; simp [hsb], rfl⟩⟩
    · exact ⟨rfl, F1.out, .inr ⟨by rw [HSH.out, ht]; rfl, rfl⟩⟩
end Go.Proofs.Ythjmkfpdbbfcpaa.BE

namespace Go.Proofs.Ythjmkfpdbbfcpaa.BE
set_option maxRecDepth 100000
open Go.RowKit K

def clen : Nat → Nd → Nat
  | 0, _ => 0
  | m + 1, n => (cont m n).length
theorem enc_clen {m : Nat} {n : Nd} (h : deep m n = true) : (enc m n).length = 1 + (lenB (clen m n)).length + clen m n := by
  obtain ⟨k, rfl⟩ := deep_succ h
  exact enc_len k n
/-- The bytes of some. -/
def flen (m : Nat) (l : List Nd) : Nat := (l.map (enc m)).flatten.length
theorem flen_step (m : Nat) {l : List Nd} {i : Nat} {x : Nd} (hx : l[i]? = some x) : flen m (l.take (i + 1)) = flen m (l.take i) + (enc m x).length := by
  unfold flen
  rw [List.take_add_one, hx]
  simp
theorem clen_fits {m : Nat} {n : Nd} (h : deep m n = true) (hf : fits m n = true) : clen m n ≤ 4000 := by
  obtain ⟨k, rfl⟩ := deep_succ h
  simp only [fits, Bool.and_eq_true, decide_eq_true_eq] at hf
  exact hf.2
/-- What contentBytes leaves. -/
def Counts (m : Nat) (n : Nd) (w : World) (e : Ending) (w' : World) : Prop := Fr No w w' ∧ ((fits m n = true ∧ e = .returned (.int .i64 (clen m n))) ∨ (fits m n = false ∧ e = .panicked [fl 2]))
theorem zeroI : ∀ w, (zeroValue 3).run Try.prog w = .ok (.int .i64 0) w := fun _ => by kernel_rfl
theorem infoI : (Try.prog.info? 3).map (·.size) = some 1 := by kernel_rfl
theorem exec_addI {op : Oper} {a : Act} (x y : Operand) (u : TypeId) (ho : op.op = .binOp .add 3 x y u) (p q : Int) (hx : a.eval x = .int .i64 p) (hy : a.eval y = .int .i64 q) (hl : -9223372036854775808 ≤ p + q) (hh : p + q ≤ 9223372036854775807) (w : World) :
    (execOp a.eval op).run Try.prog w = .ok (.value (.int .i64 (p + q))) w := by
  unfold execOp
  simp only [ho, hx, hy]
  simp [go_sem, eqGuard, Result.andThen]
  rw [IntKind.wrap_i64]
  omega
set_option maxHeartbeats 4000000 in
/-- The visitor. -/
theorem cb1_any (m M N : Nat) (b : Nat) (s : Nat) (x : Nd) (c : List Value) (w : World) (hd : deep m x = true) (hx : NdAt M (Lo N) w x c) (hN : N ≤ w.heap.size) (hs : s ≤ 1000000000000000000) (hB : Blk w b 3 [.int .i64 (s : Int)])
    (ih : ∀ (M N : Nat) (n : Nd) (cs : List Value) (w : World), deep m n = true → NdAt M (Lo N) w n cs → N ≤ w.heap.size → Calls Try.prog 42 #[.agg cs.toArray] w (Counts m n w)) :
    Calls Try.prog 69 #[.agg c.toArray, .pointer (some ⟨b, 0, none⟩)] w fun e w' => Fr (fun k => k = b) w w' ∧
      ((fits m x = true ∧ e = .returned (.tuple #[]) ∧ Blk w' b 3 [.int .i64 ((s + (enc m x).length : Nat) : Int)]) ∨ (fits m x = false ∧ e = .panicked [fl 2])) := by
  obtain ⟨x', y', z', hc⟩ := box_kid c hx.len
  subst hc
  have hblt := hB.lt
  have HX := hid hx; have HN := hid hN; have HS := hid hs; have HB := hid hB; have HIH := hid ih; have HD := hid hd; have HBL := hid hblt
  clear hx hN hs hB ih hd hblt
  go_enter Try.func69, Try.ntmps69
  go_wp2_with (first
    | ((with_reducible refine K.atO (.box 44 _) ?_); refine wpL_box rfl _ _ rfl _ rfl [x', y', z'] rfl ?_; intro w1 HB1 F1 HS1)
    | ((with_reducible refine K.atO (.load 44 _) ?_); refine wpL_load rfl _ _ rfl w.heap.size 0 rfl [x', y', z'] _ (HB1.out.range 0 _ rfl) rfl rfl infoN ?_))
  refine (HIH.out M N x [x', y', z'] w1 HD.out (HX.out.no F1.out) (Nat.le_trans HN.out F1.out.size)).mono ?_
  rintro e w2 ⟨f2, ⟨hf, rfl⟩ | ⟨hf, rfl⟩⟩
  · have hcl := clen_fits HD.out hf
    have hec := enc_clen HD.out
    have hlp := len_pos (clen m x)
    have HF2 := hid f2; have HFI := hid hf; have HEC := hid hec
    have hf12 := F1.out.trans' f2
    have c2 : w2.cell? ⟨b, 0, none⟩ = some (.int .i64 (s : Int)) := (HB.out.fr hf12 id).cell 0
    obtain ⟨cl, hcle⟩ : ∃ cl, clen m x = cl := ⟨_, rfl⟩
    rw [hcle] at hcl hlp ⊢
    obtain ⟨ll, hlle⟩ : ∃ ll, (lenB cl).length = ll := ⟨_, rfl⟩
    rw [hlle] at hlp
    have HLL := hid hlle
    have HCL := hid hcle
    clear f2 hf hec hlle hcle
    go_wp2_with fail
    have hold : Facts.hold [(0, fun w' => w'.cell? ⟨b, 0, none⟩ = some (.int .i64 (s : Int)))] w2.drew := Facts.cons_hold c2 (Facts.nil_hold _)
    refine wpD_region hold (by kernel_rfl) 9 rfl ?_
    (refine wpD_take 0 _ rfl (by kernel_rfl) (by kernel_rfl) (by kernel_rfl) (fun _ _ _ h => h) List.mem_cons_self (by rfl) (v := ?_) ?_ (by assumption) ?_; rotate_left; (intro _w _hw; go_simp; try with_reducible rfl); simp only [Act.put, K.put3])
    (refine wpD_plain 1 (v := ?_) rfl (by kernel_rfl) (by kernel_rfl) (by kernel_rfl) (fun _ _ _ h => h) (by rfl) ?_ (by assumption) ?_; rotate_left; (intro _w; go_simp; try with_reducible rfl); simp only [Act.put, K.put3])
    (refine wpD_plain 5 (v := ?_) rfl (by kernel_rfl) (by kernel_rfl) (by kernel_rfl) (fun _ _ _ h => h) (by rfl) ?_ (by assumption) ?_; rotate_left; (intro _w; go_simp; try with_reducible rfl); simp only [Act.put, K.put3])
    clear hold
    refine wpD_only 2 [(0, fun w' => w'.cell? ⟨b, 0, none⟩ = some (.int .i64 (s : Int)))] rfl (by kernel_rfl) (by kernel_rfl) (by rfl) (fun K2 hK2 => ?_)
    refine wp_call (.func 41) _ _ rfl 41 [] rfl (fun vs w => by kernel_rfl) [.int .i64 cl] (by rfl) ?_
    refine (length_any cl (by omega) w2.drew).mono ?_
    rintro e w3 ⟨rfl, f3⟩
    have f3' : Fr No w2 w3 := (Fr.refl No w2).drew.trans' f3
    have hold : Facts.hold [(0, fun w' => w'.cell? ⟨b, 0, none⟩ = some (.int .i64 (s : Int)))] w3 := Facts.cons_hold (f3'.cell c2 id) (Facts.nil_hold _)
    refine ⟨_, rfl, hK2 _ _ hold ?_⟩
    simp only [Act.put, K.put3]
    have hlli : (ll : Int) ≤ 3 := by omega
    have hcli : (cl : Int) ≤ 4000 := by omega
    have hsi : (s : Int) ≤ 1000000000000000000 := by have := HS.out; omega
    (refine wpD_plain 3 (v := (.int .i64 (ll : Int))) rfl (by kernel_rfl) (by kernel_rfl) (by kernel_rfl) (fun _ _ _ h => h) (by rfl) ?_ (by assumption) ?_; (intro _w; go_simp; rw [sb_size, HLL.out]); simp only [Act.put, K.put3])
    (refine wpD_plain 4 (v := (.int .i64 (1 + (ll : Int)))) rfl (by kernel_rfl) (by kernel_rfl) (by kernel_rfl) (fun _ _ _ h => h) (by rfl) ?_ (by assumption) ?_; (intro _w; exact exec_addI _ _ _ rfl 1 (ll : Int) rfl rfl (by omega) (by omega) _w); simp only [Act.put, K.put3])
    (refine wpD_plain 6 (v := (.int .i64 (1 + (ll : Int) + (cl : Int)))) rfl (by kernel_rfl) (by kernel_rfl) (by kernel_rfl) (fun _ _ _ h => h) (by rfl) ?_ (by assumption) ?_; (intro _w; exact exec_addI _ _ _ rfl (1 + (ll : Int)) (cl : Int) rfl rfl (by omega) (by omega) _w); simp only [Act.put, K.put3])
    (refine wpD_plain 7 (v := (.int .i64 ((s : Int) + (1 + (ll : Int) + (cl : Int))))) rfl (by kernel_rfl) (by kernel_rfl) (by kernel_rfl) (fun _ _ _ h => h) (by rfl) ?_ (by assumption) ?_; (intro _w; exact exec_addI _ _ _ rfl (s : Int) (1 + (ll : Int) + (cl : Int)) rfl rfl (by omega) (by omega) _w); simp only [Act.put, K.put3])
    clear hold
    refine wpD_only 8 [] rfl (by kernel_rfl) (by kernel_rfl) (by rfl) (fun K8 hK8 => ?_)
    have hB3 : Blk w3 b 3 [.int .i64 (s : Int)] := (HB.out.fr hf12 id).fr f3' id
    refine wp_storeV _ _ _ rfl b 0 (.int .i64 ((s : Int) + (1 + (ll : Int) + (cl : Int)))) [.int .i64 ((s : Int) + (1 + (ll : Int) + (cl : Int)))] rfl rfl rfl _ _ hB3 (by simp) infoI (by intro u hu; simp at hu; rcases hu with rfl; rfl) ?_
    intro w4 HB4 F4 HS4
    refine hK8 _ _ (Facts.nil_hold _) ?_
    refine wpD_done (by kernel_rfl) ?_ _
    go_end0
    refine ⟨(Fr.no (hf12.trans' f3')).trans' F4.out, .inl ⟨HFI.out, rfl, ?_⟩⟩
    have h := HB4.out
    have e : ((s + (enc m x).length : Nat) : Int) = (s : Int) + (1 + (ll : Int) + (cl : Int)) := by rw [HEC.out, HCL.out, HLL.out]; omega
    rw [e]
    simpa [spl] using h
  · exact ⟨rfl, (F1.out.trans' f2).no, .inr ⟨hf, rfl⟩⟩
theorem clen_succ (m : Nat) (n : Nd) : clen (m + 1) n = n.body.length + flen m n.kids := by
  show (cont m n).length = _
  unfold cont flen
  rw [List.length_append]
theorem fits_succ (m : Nat) (n : Nd) : fits (m + 1) n = (n.kids.all (fits m) && decide (clen (m + 1) n ≤ 4000)) := rfl
theorem fin_len {m : Nat} {x : Nd} (hd : deep m x = true) (hf : fits m x = true) : (enc m x).length ≤ 4004 := by
  have := enc_clen hd
  have := clen_fits hd hf
  have := len_pos (clen m x)
  omega
set_option maxHeartbeats 4000000 in
theorem cb_any : ∀ (m M N : Nat) (n : Nd) (cs : List Value) (w : World), deep m n = true → NdAt M (Lo N) w n cs → N ≤ w.heap.size → Calls Try.prog 42 #[.agg cs.toArray] w (Counts m n w) := by
  intro m
  induction m with
  | zero => intro M N n cs w h; cases h
  | succ m ih =>
    intro M N n cs w hd hn hN
    obtain ⟨a, sc, hcs, htg, hbl, hkl⟩ := hn.head
    obtain ⟨M, rfl⟩ := hn.succ
    have HN := hid hn; have HIH := hid ih; have HNN := hid hN; have HD := hid hd
    obtain ⟨tg, htge⟩ : ∃ tg, n.tag = tg := ⟨_, rfl⟩
    obtain ⟨kl, hkle⟩ : ∃ kl, n.kids.length = kl := ⟨_, rfl⟩
    obtain ⟨bl, hble⟩ : ∃ bl, n.body.length = bl := ⟨_, rfl⟩
    obtain ⟨bs, hbse⟩ : ∃ bs, sb n.body = bs := ⟨_, rfl⟩
    have hbsz : (bs.size : Int) = bl := by rw [← hbse, sb_size, hble]
    have HK := hid hkle; have HBLE := hid hble
    rw [htge, hkle, hbse] at hcs
    rw [hkle] at hkl
    rw [hble] at hbl
    subst hcs
    have HKL := hid hkl
    clear hn ih hN hd htg htge hkle hble hbse hkl
    have hmf : ∀ (fn : Fn) (first cap : Array Value) (w : World), (Instr.makeFunc fn first cap).run Try.prog w = .ok (.func fn first cap) w := fun _ _ _ _ => rfl
    have hbli : (bl : Int) ≤ 140737488351232 := by omega
    go_enter Try.func42, Try.ntmps42
    go_wp2_with (first
      | ((with_reducible refine K.atO (.box 44 _) ?_); refine wpL_box rfl _ _ rfl _ rfl [.int .i64 tg, .string bs, .slice a kl sc] rfl ?_; intro w1 HB1 F1 HS1; have c1 : w1.cell? ⟨w.heap.size, 1, none⟩ = some (.string bs) := HB1.out.cell 1)
      | ((with_reducible refine K.atO (.alloc 3) ?_); refine wpL_alloc rfl _ rfl _ zeroI [.int .i64 0] rfl ?_; intro w2 HB2 F2 HS2)
      | ((with_reducible refine K.atO (.store 3 _ _) ?_); refine wpL_setV rfl _ _ _ rfl w1.heap.size 0 (.int .i64 (bl : Int)) rfl (by rw [← hbsz]; rfl) rfl rfl _ _ HB2.out (by simp) infoI ?_; intro w3 HB3 F3 HS3;
          have hf13 : Fr No w1 w3 := F2.out.trans F3.out (fun i e => .inr (by have e : i = w1.heap.size := e; omega));
          have HF13 : Hid (Fr No w1 w3) := hid hf13; have HB1' : Hid (Blk w3 w.heap.size 44 [.int .i64 tg, .string bs, .slice a kl sc]) := hid (HB1.out.fr hf13 id); clear hf13)
      | ((with_reducible refine K.atO (.load 44 _) ?_); refine wpL_load rfl _ _ rfl w.heap.size 0 rfl [.int .i64 tg, .string bs, .slice a kl sc] _ (HB1'.out.range 0 _ rfl) rfl rfl infoN ?_))
    have hf3 : Fr No w w3 := F1.out.trans' HF13.out
    have HF3 := hid hf3
    have hb1 : w1.heap.size < w3.heap.size := by have := HS2.out; have := HS3.out; omega
    have HB1L := hid hb1
    have hbN : N ≤ w1.heap.size := Nat.le_trans HNN.out F1.out.size
    have HBN := hid hbN
    refine (children_any M N n [.int .i64 tg, .string bs, .slice a kl sc] 69 [.pointer (some ⟨w1.heap.size, 0, none⟩)]
      (fun i w' => Blk w' w1.heap.size 3 [.int .i64 ((bl + flen m (n.kids.take i) : Nat) : Int)] ∧ Fr (fun k => k = w1.heap.size) w3 w' ∧ (n.kids.take i).all (fits m) = true ∧ flen m (n.kids.take i) ≤ i * 4004)
      (fun c w' => c = 2 ∧ n.kids.all (fits m) = false ∧ Fr (fun k => k = w1.heap.size) w3 w') w3 (HN.out.no hf3) (Nat.le_trans HNN.out hf3.size) (fun vs w => by kernel_rfl)
      ⟨by simpa [flen] using HB3.out, Fr.refl _ _, rfl, by simp [flen]⟩ (fun i a b h hf => ⟨h.1.fr hf id, h.2.1.trans' hf.no, h.2.2.1, h.2.2.2⟩) ?_).mono ?_
    · intro i k c wv hx hk hi hs
      have hik : i < kl := by rw [← HK.out]; exact (List.getElem?_eq_some_iff.1 hx).1
      have hkd := deep_kid HD.out hx
      refine (cb1_any m M N w1.heap.size _ k c wv hkd hk (by omega) (by have := hi.2.2.2; have := HKL.out; omega) hi.1 HIH.out).mono ?_
      rintro e v2 ⟨ff, hv⟩
      have hmay : Fr (May N w3.heap.size) wv v2 := ff.mono (fun j hj => by subst hj; exact ⟨hbN, by omega⟩)
      rcases hv with ⟨hfk, rfl, hB⟩ | ⟨hfk, rfl⟩
      · refine ⟨hmay, .inl ⟨rfl, ?_, hi.2.1.trans' ff, all_take hx hi.2.2.1 hfk, ?_⟩⟩
        · rw [flen_step m hx, ← Nat.add_assoc]; exact hB
        · rw [flen_step m hx]; have := fin_len hkd hfk; have := hi.2.2.2; omega
      · exact ⟨hmay, .inr ⟨_, rfl, rfl, all_not hx hfk, hi.2.1.trans' ff⟩⟩
    · rintro e v hv
      rcases hv with ⟨rfl, hB, hf, ha, hl⟩ | ⟨c, rfl, rfl, ha, hf⟩
      · rw [List.take_length] at hB ha hl
        have hcl : clen (m + 1) n = bl + flen m n.kids := by rw [clen_succ, HBLE.out]
        rw [← hcl] at hB
        have hmx : clen (m + 1) n ≤ 1000000000000000000 := by have := HKL.out; have := HK.out; rw [hcl]; omega
        obtain ⟨cl, hcle⟩ : ∃ cl, clen (m + 1) n = cl := ⟨_, rfl⟩
        rw [hcle] at hB hmx
        have hmxi : (cl : Int) ≤ 1000000000000000000 := by omega
        have c9 : v.cell? ⟨w1.heap.size, 0, none⟩ = some (.int .i64 (cl : Int)) := hB.cell 0
        have HCL := hid hcle; have HA := hid ha
        have hfin : Fr No w v := hf3.trans hf (fun i e => .inr (by have e : i = w1.heap.size := e; have := F1.out.size; omega))
        have HFIN := hid hfin
        clear hcl hcle ha hl hf hB hf3 hfin hb1 hbN hmx
        go_wp2_with fail
        refine (must_any _ 2 v).mono ?_
        rintro e v3 ⟨rfl, ⟨hb, rfl⟩ | ⟨hb, rfl⟩⟩
        · have hb' : cl ≤ 4000 := by simp at hb; omega
          clear hb
          go_wp2_with fail
          go_ret
          refine ⟨HFIN.out, .inl ⟨?_, by rw [HCL.out]; rfl⟩⟩
          rw [fits_succ, HA.out, HCL.out]; simpa using hb'
        · have hb' : ¬ cl ≤ 4000 := by simp at hb; omega
          refine ⟨rfl, HFIN.out, .inr ⟨?_, rfl⟩⟩
          rw [fits_succ, HCL.out]; simp; omega
      · have hfin : Fr No w v := hf3.trans hf (fun i e => .inr (by have e : i = w1.heap.size := e; have := F1.out.size; omega))
        exact ⟨rfl, hfin, .inr ⟨by rw [fits_succ, ha]; rfl, rfl⟩⟩
end Go.Proofs.Ythjmkfpdbbfcpaa.BE
