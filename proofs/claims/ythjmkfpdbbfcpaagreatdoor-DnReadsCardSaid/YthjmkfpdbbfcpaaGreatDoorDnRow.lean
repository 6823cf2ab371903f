/-
  What each row's proof of stage 12 needs of its arguments: names and texts; with a bound on their bulk.
-/
import Derived.Test.YthjmkfpdbbfcpaaGreatDoorRows
import Derived.Test.YthjmkfpdbbfcpaaGreatDoorBytes
import Derived.Test.YthjmkfpdbbfcpaaGreatDoorBulk
import Derived.Test.YthjmkfpdbbfcpaaGreatDoorDnX
import Derived.WalkKit
import Derived.ProofKit
import Derived.OpenShut
import Derived.ChangeOld
import Derived.Below
import Derived.SizedLaws
set_option linter.unusedVariables false
set_option linter.unusedSimpArgs false
namespace Go.Proofs.YthjmkfpdbbfcpaaGreatDoor.DN
set_option maxRecDepth 100000
open Go.ChangeShapes Go.WideShapes Go.ChangeAt Go.RowKit K Go.Proofs.YthjmkfpdbbfcpaaGreatDoor.BE

theorem own : ownKnob Tryz.prog.godebug = none := by kernel_rfl
theorem laidOut : laidOutB Tryz.prog = true := by kernel_rfl
section
variable {H : Type} {enc : TypeId × Value → H} {W W' : World} {v : Value} {d : DataW H} {p : List MemPlace} {ts : List TypeId} {ds : List (DataW H)}
theorem arg_sb {t : TypeId} (hu : Tryz.prog.underlying t = some .string) (h : DataW.Trod enc Tryz.prog W 0 (fun _ => true) true t v d p) (hv : ∃ s, v = .string s) (hsz : (DataW.weightsEach Tryz.prog ts ds).all (· ≤ reachBytes) = true) (j : Nat) (ht : ts[j]? = some t) (hd : ds[j]? = some d) :
    ∃ l : B, v = .string (sb l) ∧ l.length ≤ 140737488351232 := by
  obtain ⟨s, e, hs⟩ := (reads_of h hsz j ht hd).string hu
  obtain ⟨s', rfl⟩ := hv
  simp [Value.cells] at e
  subst e
  exact ⟨s'.data.toList, by rw [sb_of], by rw [size_list]; exact hs⟩
/-- What was there reads behind the call as before. -/
theorem again {t : TypeId} (hr : Tryz.prog.readableRec t = true) (hrow : t < Tryz.prog.types.size) (h : DataW.Trod enc Tryz.prog W 0 (fun _ => true) true t v d p) (hb : Go.RowKit.Below W.heap.size W W') : DataW.Trod enc Tryz.prog W' 0 (fun b => decide (b < W.heap.size)) true t v d p :=
  Go.RowKit.Below.trod laidOut hr hrow h hb (by obtain ⟨m, hm⟩ := h; exact DataW.trod_lt m _ _ _ hm)
end
theorem mem_bulk {H : Type} : ∀ {l : List (DataW H)} {d : DataW H}, d ∈ l → Rows.uptoBulk d ≤ Rows.uptoBulkAll l
  | a :: r, d, h => by
    simp only [Rows.uptoBulkAll]
    rcases List.mem_cons.1 h with rfl | h
    · omega
    · have := mem_bulk h; omega
/-- These cells read, within so many levels; what they read is of no greater bulk. -/
def ReadsB (k : Nat) (fuel : Nat) (w : World) (t : TypeId) (cs : List Value) : Prop :=
  ∃ (H : Type) (enc : TypeId × Value → H) (x : DataW H × List MemPlace), DataW.trod enc Tryz.prog w 0 (fun _ => true) true fuel t cs = some x ∧ (∀ n ∈ x.1.weights Tryz.prog t, n ≤ reachBytes) ∧ Rows.uptoBulk x.1 ≤ k
theorem ReadsB.reads {k fuel : Nat} {w : World} {t : TypeId} {cs : List Value} (h : ReadsB k fuel w t cs) : Reads Tryz.prog w t cs := by
  obtain ⟨H, enc, x, h1, h2, -⟩ := h
  exact ⟨H, enc, fuel, x, h1, h2⟩
theorem ReadsB.string {k fuel : Nat} {w : World} {t : TypeId} {cs : List Value} (hu : Tryz.prog.underlying t = some .string) (h : ReadsB k fuel w t cs) : ∃ l : B, cs = [.string (sb l)] ∧ Sz l ∧ l.length ≤ k := by
  obtain ⟨H, enc, x, h1, h2, h3⟩ := h
  obtain ⟨s, r1, r2, -⟩ := DataW.trod_string hu h1
  have hx : x.1 = .lit (.string s.data.toList) := congrArg Prod.fst r2
  rw [hx] at h2 h3
  refine ⟨s.data.toList, by rw [sb_of]; exact r1, ?_, ?_⟩
  · have := h2 s.data.toList.length (by simp [DataW.weights])
    exact this
  · simp only [Rows.uptoBulk] at h3
    omega
theorem ReadsB.struct {k fuel : Nat} {w : World} {t : TypeId} {fs : Array Field} {cs : List Value} (hu : Tryz.prog.underlying t = some (.struct fs)) (h : ReadsB k fuel w t cs) :
    ∃ f1, fuel = f1 + 1 ∧ cs.length = Tryz.prog.cellsOf t ∧ ∀ (i : Nat) (f : Field), fs[i]? = some f → ReadsB k f1 w f.type ((cs.drop f.offset).take (Tryz.prog.cellsOf f.type)) := by
  obtain ⟨H, enc, x, h1, h2, h3⟩ := h
  obtain ⟨xs, n, hn, r2, r3, r4, r5⟩ := DataW.trod_struct hu h1
  refine ⟨n, hn, r3, fun i f hf => ?_⟩
  have hi : i < xs.length := by rw [r4]; exact (Array.getElem?_eq_some_iff.1 hf).1
  have := r5 i f hf
  rw [List.getElem?_eq_getElem hi] at this
  have hx : x.1 = .agg (xs.map (·.1)) := by rw [r2]
  refine ⟨H, enc, _, this, fun m hm => h2 m ?_, ?_⟩
  · rw [hx]
    simp only [DataW.weights, hu]
    exact DataW.weights_mem_each (j := i) (t := f.type) (d := xs[i].1) (by rw [List.getElem?_map]; simp [hf]) (by simp [hi]) m hm
  · rw [hx] at h3
    simp only [Rows.uptoBulk] at h3
    have := mem_bulk (List.mem_map_of_mem (f := (·.1)) (List.getElem_mem hi))
    omega
theorem ReadsB.slice {k fuel : Nat} {w : World} {t e : TypeId} {cs : List Value} (hu : Tryz.prog.underlying t = some (.slice e)) (h : ReadsB k fuel w t cs) :
    cs = [.slice none 0 0] ∨ ∃ a len cap f1, fuel = f1 + 1 ∧ cs = [.slice (some a) len cap] ∧ len ≤ cap ∧ len * Tryz.prog.bytesOf e ≤ reachBytes ∧ len ≤ k ∧
      ∀ i, i < len → ∃ cs', cs'.length = Tryz.prog.cellsOf e ∧ (∀ j v, cs'[j]? = some v → w.cell? (a.add (i * Tryz.prog.cellsOf e + j)) = some v) ∧ ReadsB k f1 w e cs' := by
  obtain ⟨H, enc, x, h1, h2, h3⟩ := h
  rcases DataW.trod_slice hu h1 with ⟨r, _⟩ | ⟨a, len, cap, elems, rest, n, hn, r1, r2, _, hl, hm, hlen, hel, hsp, _⟩
  · exact .inl r
  · right
    obtain ⟨hrl, hsp⟩ := hsp rfl
    have hx : x.1 = .slice (elems.map (·.1)) (rest.map (·.1)) := by rw [r2]
    have hw : ∀ m ∈ (elems.length + rest.length) * Tryz.prog.bytesOf e :: (DataW.weightsAll Tryz.prog e (elems.map (·.1)) ++ DataW.weightsAll Tryz.prog e (rest.map (·.1))), m ≤ reachBytes := by
      intro m hm'
      refine h2 m ?_
      rw [hx]
      simpa [DataW.weights, hu] using hm'
    rw [hx] at h3
    simp only [Rows.uptoBulk] at h3
    refine ⟨a, len, cap, n, hn, r1, hl, ?_, ?_, fun i hi => ?_⟩
    · have := hw _ List.mem_cons_self
      refine Nat.le_trans (Nat.mul_le_mul_right _ ?_) this
      omega
    · have := bulks.length_le (elems.map (·.1))
      rw [List.length_map] at this
      omega
    · have h5 := hel i hi
      rw [List.getElem?_eq_getElem (by omega)] at h5
      obtain ⟨cs', hc, ht⟩ := Option.bind_eq_some_iff.1 h5
      obtain ⟨hcl, hcc⟩ := cells_of hc
      have hmem : elems[i].1 ∈ elems.map (·.1) := List.mem_map_of_mem (List.getElem_mem (by omega))
      refine ⟨cs', hcl, fun j v hj => ?_, H, enc, _, ht, fun m hm' => hw m ?_, ?_⟩
      · have := hcc j v hj
        rwa [addr_add] at this
      · exact List.mem_cons_of_mem _ (List.mem_append.2 (.inl (mem_weightsAll hmem hm')))
      · have := mem_bulk hmem
        omega
/-- A slice whose elements are opened. -/
theorem ReadsB.rows {α : Type} {k fuel c : Nat} {w : World} {t e : TypeId} {cs : List Value} {p : α → List Value → Prop} {q : α → Prop} (hu : Tryz.prog.underlying t = some (.slice e)) (hc : Tryz.prog.cellsOf e = c) (hc0 : 0 < c) (hb : 1 ≤ Tryz.prog.bytesOf e) (h : ReadsB k fuel w t cs)
    (hp : ∀ f1 cs', f1 < fuel → ReadsB k f1 w e cs' → ∃ x, p x cs' ∧ q x) : ∃ v xs, cs = [v] ∧ Sl c p (fun i => i < w.heap.size) w v xs ∧ xs.length ≤ k ∧ ∀ x ∈ xs, q x := by
  rcases h.slice hu with rfl | ⟨a, len, cap, f1, hf, rfl, hlc, hby, hlk, hel⟩
  · exact ⟨_, [], rfl, ⟨none, 0, rfl, Nat.zero_le _, Nat.zero_le _, .inl rfl⟩, Nat.zero_le _, fun x hx => by cases hx⟩
  · have hr : reachBytes = 140737488351232 := rfl
    rw [hc] at hel
    obtain ⟨xs, hxl, hxs⟩ := list_of (p := fun i (x : α) => ∃ cs', cs'.length = c ∧ (∀ j v, cs'[j]? = some v → w.cell? (a.add (i * c + j)) = some v) ∧ p x cs' ∧ q x) len (fun i hi => by
      obtain ⟨cs', g1, g2, g3⟩ := hel i hi
      obtain ⟨x, hx, hq⟩ := hp f1 cs' (by omega) g3
      exact ⟨x, cs', g1, g2, hx, hq⟩)
    obtain ⟨L, hLl, hL⟩ := list_of (p := fun i (cs' : List Value) => cs'.length = c ∧ (∀ j v, cs'[j]? = some v → w.cell? (a.add (i * c + j)) = some v) ∧ ∀ x, xs[i]? = some x → p x cs' ∧ q x) len (fun i hi => by
      obtain ⟨x, hx⟩ : ∃ x, xs[i]? = some x := ⟨_, List.getElem?_eq_getElem (by omega)⟩
      obtain ⟨cs', g1, g2, g3, g4⟩ := hxs i x hx
      exact ⟨cs', g1, g2, fun y hy => by rw [hx] at hy; cases hy; exact ⟨g3, g4⟩⟩)
    refine ⟨_, xs, rfl, ⟨some a, cap, by rw [hxl], by omega, ?_, ?_⟩, by omega, fun x hx => ?_⟩
    · rw [hr] at hby
      rw [hxl]
      exact Nat.le_trans (Nat.le_mul_of_pos_right _ hb) hby
    · by_cases h0 : len = 0
      · exact .inl (List.eq_nil_of_length_eq_zero (by omega))
      · right
        have hall : ∀ c' ∈ L, c'.length = c := fun c' hc' => by
          obtain ⟨i, hi, rfl⟩ := List.mem_iff_getElem.1 hc'
          exact (hL i _ (List.getElem?_eq_getElem hi)).1
        obtain ⟨k0, hL0⟩ : ∃ c', L[0]? = some c' := ⟨L[0]'(by omega), List.getElem?_eq_getElem _⟩
        obtain ⟨g1, g2, -⟩ := hL 0 _ hL0
        obtain ⟨z0, hz0⟩ : ∃ z0, k0[0]? = some z0 := ⟨k0[0]'(by omega), List.getElem?_eq_getElem _⟩
        have hc0' := g2 0 z0 hz0
        rw [Nat.zero_mul, Nat.add_zero] at hc0'
        obtain ⟨g, o, rfl, hg⟩ := addr_of hc0'
        refine ⟨g, o, L, rfl, hg, hg, ?_, by omega, hall, fun j x c' hx hc' => ((hL j c' hc').2.2 x hx).1⟩
        intro j v hj
        have hjl : j < L.flatten.length := (List.getElem?_eq_some_iff.1 hj).1
        rw [flat_length L hall] at hjl
        have hjc : j / c < L.length := Nat.div_lt_of_lt_mul (by rw [Nat.mul_comm]; exact hjl)
        have hLj : L[j / c]? = some (L[j / c]'hjc) := List.getElem?_eq_getElem _
        have hfg := flat_get L (j / c) _ hall hLj
        have hdm : j / c * c + j % c = j := by rw [Nat.mul_comm]; exact Nat.div_add_mod j c
        have hv : (L[j / c]'hjc)[j % c]? = some v := by
          rw [← hfg, List.getElem?_take, if_pos (Nat.mod_lt _ hc0), List.getElem?_drop, hdm]
          exact hj
        have := (hL (j / c) _ hLj).2.1 (j % c) v hv
        rw [hdm] at this
        rwa [Addr.add_mid] at this
    · obtain ⟨i, hi, rfl⟩ := List.mem_iff_getElem.1 hx
      obtain ⟨cs', -, -, -, hq⟩ := hxs i _ (List.getElem?_eq_getElem hi)
      exact hq

theorem cS : Tryz.prog.cellsOf 9 = 1 := by kernel_rfl
theorem cAv : Tryz.prog.cellsOf 35 = 2 := by kernel_rfl
theorem cRd : Tryz.prog.cellsOf 31 = 1 := by kernel_rfl
theorem bAv : 1 ≤ Tryz.prog.bytesOf 35 := by rw [show Tryz.prog.bytesOf 35 = 32 by kernel_rfl]; decide
theorem bRd : 1 ≤ Tryz.prog.bytesOf 31 := by rw [show Tryz.prog.bytesOf 31 = 24 by kernel_rfl]; decide
theorem av_b {k f : Nat} {w : World} {cs : List Value} (h : ReadsB k f w 35 cs) : ∃ x, AvC x cs ∧ AvB k x := by
  obtain ⟨f1, rfl, hl, hf⟩ := h.struct Tryz.underlying35
  rw [cAv] at hl
  obtain ⟨c0, c1, rfl⟩ : ∃ c0 c1, cs = [c0, c1] := by
    match cs, hl with
    | [c0, c1], _ => exact ⟨c0, c1, rfl⟩
  have k0 : ReadsB k f1 w 9 (([c0, c1].drop 0).take (Tryz.prog.cellsOf 9)) := hf 0 _ rfl
  have k1 : ReadsB k f1 w 9 (([c0, c1].drop 1).take (Tryz.prog.cellsOf 9)) := hf 1 _ rfl
  rw [cS] at k0 k1
  obtain ⟨t, e0, h1, h2⟩ := k0.string Tryz.underlying9
  obtain ⟨v, e1, h3, h4⟩ := k1.string Tryz.underlying9
  simp only [List.drop_zero, List.drop_succ_cons, List.take_succ_cons, List.take_zero, List.cons.injEq, and_true] at e0 e1
  subst e0 e1
  exact ⟨(t, v), ⟨rfl, h1, h3⟩, h2, h4⟩
theorem rd_b {k f : Nat} {w : World} {cs : List Value} (h : ReadsB k f w 31 cs) : ∃ r, RdC (fun i => i < w.heap.size) w r cs ∧ RdB k r := by
  obtain ⟨v, xs, e, h1, h2, h3⟩ := h.rows (p := AvC) (q := AvB k) Tryz.underlying31 cAv (by decide) bAv (fun f1 cs' _ hr => av_b hr)
  exact ⟨xs, ⟨v, e, h1⟩, h2, h3⟩
theorem nm_b {k f : Nat} {w : World} {cs : List Value} (h : ReadsB k f w 24 cs) : ∃ v n, cs = [v] ∧ NmIn (fun i => i < w.heap.size) w v n ∧ NmB k n := by
  obtain ⟨v, xs, e, h1, h2, h3⟩ := h.rows (p := RdC (fun i => i < w.heap.size) w) (q := RdB k) Tryz.underlying24 cRd (by decide) bRd (fun f1 cs' _ hr => rd_b hr)
  exact ⟨v, xs, e, h1, h2, h3⟩
section
variable {H : Type} {enc : TypeId × Value → H} {W W' : World} {v : Value} {d : DataW H} {p : List MemPlace} {ts : List TypeId} {ds : List (DataW H)}
theorem arg_nm (h : DataW.Trod enc Tryz.prog W 0 (fun _ => true) true 24 v d p) (hv : ∃ a l c, v = .slice a l c) (hsz : (DataW.weightsEach Tryz.prog ts ds).all (· ≤ reachBytes) = true) (j : Nat) (ht : ts[j]? = some 24) (hd : ds[j]? = some d) :
    ∃ n, NmIn (fun i => i < W.heap.size) W v n ∧ NmB (Rows.uptoBulk d) n := by
  obtain ⟨fuel, hr⟩ := h
  obtain ⟨v', n, e, h1, h2⟩ := nm_b (k := Rows.uptoBulk d) (f := fuel) (w := W) (cs := v.cells.toList) ⟨H, enc, _, hr, fun n hn => by simpa using List.all_eq_true.1 hsz n (DataW.weights_mem_each ht hd n hn), Nat.le_refl _⟩
  obtain ⟨a, l, c, rfl⟩ := hv
  have e2 : v' = .slice a l c := by simpa [Value.cells] using e.symm
  subst e2
  exact ⟨n, h1, h2⟩
end
end Go.Proofs.YthjmkfpdbbfcpaaGreatDoor.DN
