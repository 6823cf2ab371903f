/-
  The tree: Of.
-/
import Derived.Test.YtlnolnaapnijbaaTrTe
namespace Go.Proofs.Ytlnolnaapnijbaa.TR
set_option maxRecDepth 100000
open Go.RowKit K

/-- A list of pairs in memory. -/
def PrAt (w : World) (v : Value) (l : L) : Prop := ∃ a c, v = .slice a l.length c ∧ l.length ≤ 4398046511000 ∧ (l = [] ∨ ∃ g o, a = some ⟨g, o, none⟩ ∧ w.rangeAt g o (pcs l) ∧ g < w.heap.size)
theorem PrAt.fr {w w' : World} {v : Value} {l : L} {D : Nat → Prop} (h : PrAt w v l) (hf : Fr D w w') (hd : ∀ g, g < w.heap.size → ¬ D g) : PrAt w' v l := by
  obtain ⟨a, c, e, hn, h⟩ := h
  refine ⟨a, c, e, hn, h.imp id ?_⟩
  rintro ⟨g, o, e, hr, hg⟩
  exact ⟨g, o, e, hf.range hr (hd g hg), Nat.lt_of_lt_of_le hg hf.size⟩
theorem PrAt.no {w w' : World} {v : Value} {l : L} (h : PrAt w v l) (hf : Fr No w w') : PrAt w' v l := h.fr hf (fun _ _ e => e)
theorem pcs_get : ∀ (l : L) (j : Nat) (x : S × S), l[j]? = some x → ∀ i u, (pc x)[i]? = some u → (pcs l)[j * 2 + i]? = some u
  | [], _, _, h, _, _, _ => by simp at h
  | y :: r, 0, x, h, i, u, hu => by
    have e : y = x := by simpa using h
    subst e
    have hi : i < (pc y).length := (List.getElem?_eq_some_iff.1 hu).1
    show (pc y ++ pcs r)[0 * 2 + i]? = some u
    rw [List.getElem?_append_left (by omega), show 0 * 2 + i = i by omega]
    exact hu
  | y :: r, j + 1, x, h, i, u, hu => by
    have h2 := pcs_get r j x (by simpa using h) i u hu
    show (pc y ++ pcs r)[(j + 1) * 2 + i]? = some u
    have hl : (pc y).length = 2 := rfl
    rw [List.getElem?_append_right (by omega), hl, show (j + 1) * 2 + i - 2 = j * 2 + i by omega]
    exact h2
theorem range_pr {w : World} {g o : Nat} {l : L} (h : w.rangeAt g o (pcs l)) {j : Nat} {x : S × S} (hx : l[j]? = some x) : w.rangeAt g (o + j * 2) (pc x) := fun i u hu => by
  have := h (j * 2 + i) u (pcs_get l j x hx i u hu)
  rwa [show o + (j * 2 + i) = o + j * 2 + i by omega] at this
/-- What is put, one after the other. -/
def ofL (l : L) : L := l.foldl (fun a x => put x.1 x.2 a) []
theorem ofL_snoc (l : L) (x : S × S) : ofL (l ++ [x]) = put x.1 x.2 (ofL l) := by simp [ofL]
theorem ofL_length (l : L) : (ofL l).length ≤ l.length := by
  have : ∀ (l a : L), (l.foldl (fun a x => put x.1 x.2 a) a).length ≤ a.length + l.length := by
    intro l
    induction l with
    | nil => intro a; simp
    | cons x r ih =>
      intro a
      have h1 := ih (put x.1 x.2 a)
      have h2 := put_length x.1 x.2 a
      simp only [List.foldl_cons, List.length_cons]
      split at h2 <;> omega
  have := this l []
  simpa [ofL] using this
theorem zero_pr (w : World) : (zeroValue 51).run Try.prog w = .ok (.agg #[.string ⟨#[]⟩, .string ⟨#[]⟩]) w := by kernel_rfl
set_option maxHeartbeats 8000000 in
theorem tof_any (w : World) (pv : Value) (l : L) (h : PrAt w pv l) : Calls Try.prog 13 #[pv] w (NewT w (ofL l)) := by
  obtain ⟨a, c, rfl, hn, h⟩ := h
  have H := hid h; have HN := hid hn
  have hni : (l.length : Int) ≤ 4398046511000 := by omega
  clear h hn
  go_enter Try.func13, Try.ntmps13
  go_wp2_with fail
  refine (tnew_any w).mono ?_
  rintro e w1 ⟨T0, rfl, ht0, f1, g1⟩
  have HT0 := hid ht0; have F1 := hid f1; have G1 := hid g1
  clear ht0 f1 g1
  go_wp2_with fail
  go_loopw [9] (fun i wr => ∃ (j : Nat) (T : TD), j ≤ l.length ∧ i = .int .i64 (j : Int) ∧ Hid (T.b = T0.b) ∧ Hid (TrAt wr T (ofL (l.take j))) ∧ Hid (Fr No w wr) ∧ Hid (∀ g, T.fp g → w.heap.size ≤ g)) (fun i _ => l.length - (intOf i).toNat)
  case atStart => exact ⟨0, T0, by omega, rfl, hid rfl, hid (by rw [List.take_zero]; exact HT0.out), F1, G1⟩
  case round =>
    obtain ⟨j, T, hj, rfl, HTB, HT, HF, HG⟩ := hrel
    by_cases hlt : j < l.length
    · have hlt' : (j : Int) < (l.length : Int) := by omega
      obtain ⟨x, hx⟩ : ∃ x, l[j]? = some x := ⟨_, List.getElem?_eq_getElem hlt⟩
      have HX := hid hx
      rcases H.out with e | ⟨g, o, rfl, hr, hg⟩
      · rw [e] at hlt; simp at hlt
      · have HRG : Hid (wr.rangeAt g (o + j * 2) (pc x)) := hid (HF.out.range (range_pr hr hx) id)
        clear hr hg hx
        go_wp2_with (first
          | ((with_reducible show wpList _ _ _ ({ dst := _, op := .load 51 _, type := _, pos := _, after := _, guard := _ } :: _) _ _); refine wpL_load rfl _ _ rfl g (o + j * 2) rfl (pc x) _ HRG.out rfl rfl info_pr ?_)
          | ((with_reducible show wpList _ _ _ ({ dst := _, op := .alloc 51, type := _, pos := _, after := _, guard := _ } :: _) _ _); refine wpL_alloc rfl _ rfl _ zero_pr [.string ⟨#[]⟩, .string ⟨#[]⟩] rfl ?_; intro w5 HB5 F5 HS5)
          | ((with_reducible show wpList _ _ _ ({ dst := _, op := .store 51 _ _, type := _, pos := _, after := _, guard := _ } :: _) _ _); refine wpL_storeV rfl _ _ _ rfl wr.heap.size 0 (.agg (pc x).toArray) (pc x) rfl rfl rfl _ _ HB5.out (by simp [pc]) info_pr (by intro u hu; simp [pc] at hu; rcases hu with rfl | rfl <;> rfl) ?_; intro w6 HB6 F6 HS6; have c0 : w6.cell? ⟨wr.heap.size, 0, none⟩ = some (.string x.1) := HB6.out.cell 0; have c1 : w6.cell? ⟨wr.heap.size, 1, none⟩ = some (.string x.2) := HB6.out.cell 1))
        have F06 : Hid (Fr No wr w6) := hid (F5.out.trans (D' := fun k => k = wr.heap.size) F6.out (fun k e => .inr (by rw [e]; exact Nat.le_refl _)))
        have htv : T0.v = T.v := by unfold TD.v; rw [HTB.out]
        have HTV := hid htv
        have hle : (ofL (l.take j)).length ≤ 4398046511000 := by
          have h1 := ofL_length (l.take j)
          have h2 := List.length_take_le j l
          have := HN.out
          omega
        refine (htv ▸ tput_any w6 T (ofL (l.take j)) x.1 x.2 (HT.out.no F06.out) hle).mono ?_
        rintro e w7 ⟨rfl, T', hb', ht', hf', hg'⟩
        have HTB' : Hid (T'.b = T0.b) := hid (hb'.trans HTB.out)
        have htk : l.take (j + 1) = l.take j ++ [x] := by
          rw [List.take_add_one, HX.out]; rfl
        have HT' : Hid (TrAt w7 T' (ofL (l.take (j + 1)))) := hid (by rw [htk, ofL_snoc]; exact ht')
        have HF' : Hid (Fr No w w7) := hid ((HF.out.trans' F06.out).trans hf' (fun k hk => .inr (HG.out k hk)))
        have HG' : Hid (∀ g, T'.fp g → w.heap.size ≤ g) := hid (fun g hg => (hg' g hg).elim (HG.out g) (fun e => by have := (HF.out.trans' F06.out).size; omega))
        clear hb' ht' hf' hg' htk htv hle c0 c1
        have hj1 : (j : Int) ≤ 4398046511000 := by omega
        go_wp2_with fail
        exact ⟨⟨j + 1, T', by omega, by go_num, HTB', HT', HF', HG'⟩, by simp [intOf]; omega⟩
    · have hge : ¬ ((j : Int) < (l.length : Int)) := by omega
      have hje : j = l.length := by omega
      have HJE := hid hje
      clear hje
      go_wp2_with fail
      go_ret
      refine ⟨T, ?_, ?_, HF.out, HG.out⟩
      · show Ending.returned T0.v = _; unfold TD.v; rw [HTB.out]
      · have := HT.out; rwa [HJE.out, List.take_length] at this

/-- Pairs in memory, at base or behind. -/
def PrNew (w : World) (base : Nat) (pv : Value) (l : L) : Prop := ∃ a c, pv = .slice a l.length c ∧ (l = [] ∨ ∃ g, a = some ⟨g, 0, none⟩ ∧ w.rangeAt g 0 (pcs l) ∧ base ≤ g ∧ g < w.heap.size)
theorem pr_new {w : World} {base : Nat} {pv : Value} {l : L} (h : w.ownsRow base 51 2 pv l.length (pcs l)) : PrNew w base pv l := by
  rcases h.2 with ⟨rfl, h0⟩ | ⟨g, cap, cur, rfl, hb, h1, h2, h3, h4, h5⟩
  · have : l = [] := List.eq_nil_of_length_eq_zero h0
    subst this
    exact ⟨none, 0, rfl, .inl rfl⟩
  · refine ⟨_, cap, rfl, .inr ⟨g, rfl, ?_, hb, (Array.getElem?_eq_some_iff.1 h1).1⟩⟩
    have hB : Blk w g 51 cur.toList := by simpa [Blk] using h1
    refine hB.range 0 _ ?_
    rw [List.drop_zero, pcs_length]
    exact h5
theorem PrNew.fr {w w' : World} {base : Nat} {pv : Value} {l : L} {D : Nat → Prop} (h : PrNew w base pv l) (hf : Fr D w w') (hd : ∀ g, base ≤ g → g < w.heap.size → ¬ D g) : PrNew w' base pv l := by
  obtain ⟨a, c, e, h⟩ := h
  refine ⟨a, c, e, h.imp id ?_⟩
  rintro ⟨g, e, hr, hb, hg⟩
  exact ⟨g, e, hf.range hr (hd g hb hg), hb, Nat.lt_of_lt_of_le hg hf.size⟩
/-- A tree made since w0, as it stands. -/
structure Lv (w0 w : World) (b : Nat) (T : TD) (l : L) : Prop where
  b : T.b = b
  at_ : TrAt w T l
  fr : Fr No w0 w
  ge : ∀ g, T.fp g → w0.heap.size ≤ g
abbrev pt (b : Nat) : Value := .pointer (some ⟨b, 0, none⟩)
theorem Lv.no {w0 w w' : World} {b : Nat} {T : TD} {l : L} (h : Lv w0 w b T l) (hf : Fr No w w') : Lv w0 w' b T l := ⟨h.b, h.at_.no hf, h.fr.trans' hf, h.ge⟩
theorem Lv.pre {w0 w w' : World} {b : Nat} {T : TD} {l : L} (hf : Fr No w0 w) (h : Lv w w' b T l) : Lv w0 w' b T l := ⟨h.b, h.at_, hf.trans' h.fr, fun g hg => Nat.le_trans hf.size (h.ge g hg)⟩
theorem Lv.v {w0 w : World} {b : Nat} {T : TD} {l : L} (h : Lv w0 w b T l) : T.v = pt b := by unfold TD.v; rw [h.b]
def Turns (w0 w : World) (b : Nat) (T : TD) (r : Bool) (l' : L) (e : Ending) (w' : World) : Prop :=
  e = .returned (.bool r) ∧ ∃ T', Lv w0 w' b T' l' ∧ Fr T.fp w w' ∧ ∀ g, T'.fp g → T.fp g ∨ w.heap.size ≤ g
theorem turns_of {w0 w : World} {b : Nat} {T : TD} {l l' : L} {r : Bool} (h : Lv w0 w b T l) {e : Ending} {w' : World} (hp : TPost w T r l' e w') : Turns w0 w b T r l' e w' := by
  obtain ⟨rfl, T', hb, ht, hf, hg⟩ := hp
  exact ⟨rfl, T', ⟨hb.trans h.b, ht, h.fr.trans hf (fun g hg => .inr (h.ge g hg)), fun g hg' => (hg g hg').elim (h.ge g) (fun e => Nat.le_trans h.fr.size e)⟩, hf, hg⟩
theorem Lv.putTo {w0 w : World} {b : Nat} {T : TD} {l : L} (h : Lv w0 w b T l) (hn : l.length ≤ 4398046511103) (key v : S) : Calls Try.prog 16 #[pt b, .string key, .string v] w (Turns w0 w b T (has key l) (put key v l)) := by
  have := tput_to w T l key v h.at_ hn
  rw [h.v] at this
  exact this.mono fun e w' hp => turns_of h hp
theorem Lv.put {w0 w : World} {b : Nat} {T : TD} {l : L} (h : Lv w0 w b T l) (hn : l.length ≤ 4398046511000) (key v : S) : Calls Try.prog 16 #[pt b, .string key, .string v] w (Turns w0 w b T (has key l) (put key v l)) := by
  have := tput_any w T l key v h.at_ hn
  rw [h.v] at this
  exact this.mono fun e w' hp => turns_of h hp
theorem Lv.del {w0 w : World} {b : Nat} {T : TD} {l : L} (h : Lv w0 w b T l) (hn : l.length ≤ 4398046511104) (key : S) : Calls Try.prog 44 #[pt b, .string key] w (Turns w0 w b T (has key l) (del key l)) := by
  have := tdel_any w T l key h.at_ hn
  rw [h.v] at this
  exact this.mono fun e w' hp => turns_of h hp
theorem Lv.get {w0 w : World} {b : Nat} {T : TD} {l : L} (h : Lv w0 w b T l) (hn : l.length ≤ 4398046511104) (key : S) : Calls Try.prog 45 #[pt b, .string key] w fun e w' => e = .returned (getV (get key l)) ∧ Lv w0 w' b T l ∧ Fr No w w' := by
  have := tget_any w T l key h.at_ hn
  rw [h.v] at this
  exact this.mono fun e w' ⟨he, hf⟩ => ⟨he, h.no hf, hf⟩
theorem Lv.len {w0 w : World} {b : Nat} {T : TD} {l : L} (h : Lv w0 w b T l) : Calls Try.prog 18 #[pt b] w fun e w' => e = .returned (.int .i64 (l.length : Int)) ∧ w' = w := by
  have := tlen_any w T l h.at_
  rwa [h.v] at this
theorem Lv.depth {w0 w : World} {b : Nat} {T : TD} {l : L} (h : Lv w0 w b T l) (hn : l.length ≤ 4398046511104) : Calls Try.prog 50 #[pt b] w fun e w' => e = .returned (.int .i64 ((T.d + 1 : Nat) : Int)) ∧ Lv w0 w' b T l ∧ Fr No w w' := by
  have := tdepth_any w T l h.at_ hn
  rw [h.v] at this
  exact this.mono fun e w' ⟨he, hf⟩ => ⟨he, h.no hf, hf⟩
def Tells (w0 w : World) (b : Nat) (T : TD) (l l' : L) (e : Ending) (w' : World) : Prop := ∃ pv, e = .returned pv ∧ PrNew w' w.heap.size pv l' ∧ Lv w0 w' b T l ∧ Fr No w w'
theorem Lv.scan {w0 w : World} {b : Nat} {T : TD} {l : L} (h : Lv w0 w b T l) (hn : l.length ≤ 4398046511104) (fr to : S) (most : Int) : Calls Try.prog 43 #[pt b, .string fr, .string to, .int .i64 most] w (Tells w0 w b T l (scanS fr to most l)) := by
  have := tscan_any w T l fr to most h.at_ hn
  rw [h.v] at this
  exact this.mono fun e w' ⟨pv, he, hr, hf⟩ => ⟨pv, he, pr_new hr, h.no hf, hf⟩
theorem Lv.all {w0 w : World} {b : Nat} {T : TD} {l : L} (h : Lv w0 w b T l) (hn : l.length ≤ 4398046511104) : Calls Try.prog 20 #[pt b] w (Tells w0 w b T l l) := by
  have := tall_l w T l h.at_ hn
  rw [h.v] at this
  exact this.mono fun e w' ⟨pv, he, hr, hf⟩ => ⟨pv, he, pr_new hr, h.no hf, hf⟩
/-- A new tree, by its block. -/
def Makes (w : World) (l : L) (e : Ending) (w' : World) : Prop := ∃ b T, e = .returned (pt b) ∧ Lv w w' b T l
theorem makes_of {w : World} {l : L} {e : Ending} {w' : World} (h : NewT w l e w') : Makes w l e w' := by
  obtain ⟨T, rfl, ht, hf, hg⟩ := h
  exact ⟨T.b, T, rfl, rfl, ht, hf, hg⟩
theorem of_any (w : World) (pv : Value) (l : L) (h : PrAt w pv l) : Calls Try.prog 13 #[pv] w (Makes w (ofL l)) := (tof_any w pv l h).mono fun _ _ h => makes_of h
theorem new_any (w : World) : Calls Try.prog 42 #[] w (Makes w []) := (tnew_any w).mono fun _ _ h => makes_of h
theorem Lv.clone {w0 w : World} {b : Nat} {T : TD} {l : L} (h : Lv w0 w b T l) (hn : l.length ≤ 4398046511104) : Calls Try.prog 15 #[pt b] w (Makes w l) := by
  have := tclone_any w T l h.at_ hn
  rw [h.v] at this
  exact this.mono fun _ _ h => makes_of h
end Go.Proofs.Ytlnolnaapnijbaa.TR
