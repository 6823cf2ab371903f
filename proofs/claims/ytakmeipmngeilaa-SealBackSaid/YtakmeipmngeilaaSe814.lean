/-
  Part 14 of the proof: SeHi, SeQ, SeRow, SeBk.
-/
import Derived.Test.YtakmeipmngeilaaSe813
import Derived.Test.YtakmeipmngeilaaSe801
import Derived.Test.YtakmeipmngeilaaSe800
import Derived.HandedShaped
set_option linter.unusedVariables false
set_option linter.unusedSimpArgs false
set_option linter.unusedSectionVars false
namespace Go.Proofs.Ytakmeipmngeilaa.SE
set_option maxRecDepth 100000
open Go.RowKit K
variable [SH.Tab]

/-- Another sealer's maps are written. -/
theorem IdAt.other {W w w' : World} {b n m n' : Nat} {bm bm' : Nat → Nat} {fs : Nat → Mp} (h : IdAt W w b n m bm fs) (hm : ∀ j, j < n' → ∃ m f, MpAt w (bm' j) m f) (hne : ∀ i j, i < n → j < n' → bm i ≠ bm' j) (hf : Fr (Bms n' bm') w w') : IdAt W w' b n m bm fs := by
  obtain ⟨h1, h2, h3, h4⟩ := h
  refine ⟨?_, fun i hi => (h2 i hi).fr hf (fun ⟨j, hj, e⟩ => hne i j hi hj e), h3, h4⟩
  have hO := h1
  obtain ⟨v, p1, p2, p3, p4⟩ := h1
  refine ⟨v, p1.fr hf (fun ⟨j, hj, e⟩ => ?_), own_fr p2 hf (fun k hk ⟨j, hj, e⟩ => ?_), p3, p4⟩
  · obtain ⟨mm, f, hmp⟩ := hm j hj
    exact (own_not_map hO hmp).1 e
  · obtain ⟨mm, f, hmp⟩ := hm j hj
    exact (own_not_map hO hmp).2 v p1 (by rw [← e]; exact hk)
theorem iseal_len {fs : Nat → Mp} {n : Nat} {i : Int} {nn : Nat} {p q : List UInt8} (h : p.length = q.length) : iseal fs n i nn p = iseal fs n i nn q := by
  unfold iseal; rw [h]
theorem iseal_no {n : Nat} {i : Int} {nn : Nat} {p : List UInt8} : (iseal no n i nn p = ([], 81)) ∨ (iseal no n i nn p = ([], 2)) ∨ (inside i n = true ∧ p.length ≤ 200 ∧ iseal no n i nn p = (form (UInt8.ofNat i.toNat) (eight nn) p.length, 0)) := by
  unfold iseal
  by_cases h : inside i n = false
  · exact .inl (if_pos h)
  · rw [if_neg h]
    by_cases h2 : 200 < p.length
    · exact .inr (.inl (if_pos h2))
    · rw [if_neg h2]
      exact .inr (.inr ⟨by simpa using h, by omega, rfl⟩)
theorem iopen_own {n : Nat} {i : Int} {nn : Nat} {p : List UInt8} (h : inside i n = true) (hp : p.length ≤ 200) : iopen (inext no n i nn p) n i (form (UInt8.ofNat i.toNat) (eight nn) p.length) = (p, 0) := by
  have h0 : (iseal no n i nn p).2 = 0 := by
    unfold iseal
    rw [if_neg (by rw [h]; decide), if_neg (by omega)]
    rfl
  unfold iopen inext
  rw [if_neg (by rw [h]; decide), if_pos h0]
  simp only [if_true]
  exact ropen_form _ _ (eight nn) p (eight_length nn) (by simp [updM])
theorem nil_eq' : ((sb []).toList == []) = true := by rw [ByteArray.toList_eq, sb_list]; decide
theorem wpL_min2 {P : Program} {ops : Array Oper} {rest : List Oper} {op : Oper} {a : Act} {w : World} {Q : Exit → Act → World → Prop} (hgd : op.guard = none) (x y : Operand) (ts : Array TypeId)
    (ho : op.op = .call { callee := .builtin .min, args := #[x, y], argTypes := ts }) (l m k : Nat) (hx : a.eval x = .int .i64 l) (hy : a.eval y = .int .i64 m) (hk : min (l : Int) (m : Int) = k)
    (h : wpList P ops Q rest (a.put op.dst (.int .i64 k)) w) : wpList P ops Q (op :: rest) a w := by
  refine wpList_plain hgd fun K hK => ?_
  have e : (if (m : Int) < (l : Int) then (m : Int) else (l : Int)) = (k : Int) := by omega
  have hrun : ∀ t, (Builtin.min_ ts t #[.int .i64 l, .int .i64 m]).run P w = .ok (.int .i64 k) w := fun t => by rw [run_min_int2, e]
  unfold Oper.wp
  simp [execOp, ho, resolve, invoke, builtin, hx, hy, hrun, Result.andThen]
  exact hK _ _ h
set_option maxHeartbeats 4000000 in
theorem sealHides_walk (w : World) (i : Int) (nn : Nat) (p q : S) (hp : p.size ≤ 140737488355328) (hq : q.size ≤ 140737488355328) (hi : -9223372036854775808 ≤ i ∧ i ≤ 9223372036854775807) (hnn : nn < 18446744073709551616) (hg : SH.Gl w) :
    Calls Try.prog 7 #[.int .i64 i, .int .u64 (nn : Int), .string p, .string q] w fun e w' => e = .returned (.bool true) ∧ Fr No w w' := by
  have HG := hid hg; have HI := hid hi; have HNN := hid hnn
  obtain ⟨m, hm⟩ : ∃ m, min p.size q.size = m := ⟨_, rfl⟩
  have hmp : m ≤ p.size := by omega
  have hmq : m ≤ q.size := by omega
  obtain ⟨A, hA⟩ : ∃ A, p.data.toList.take m = A := ⟨_, rfl⟩
  obtain ⟨B, hB⟩ : ∃ B, q.data.toList.take m = B := ⟨_, rfl⟩
  have hAl : A.length = m := by rw [← hA, List.length_take, size_list]; omega
  have hBl : B.length = m := by rw [← hB, List.length_take, size_list]; omega
  have HA := hid hA; have HB := hid hB; have HAl := hid hAl; have HBl := hid hBl; have HMP := hid hmp; have HMQ := hid hmq
  have hpi : (p.size : Int) ≤ 140737488355328 := by omega
  have hqi : (q.size : Int) ≤ 140737488355328 := by omega
  have hmin : min (p.size : Int) (q.size : Int) = (m : Int) := by omega
  have HMIN := hid hmin
  clear hg hi hnn hm hA hB hAl hBl hmp hmq hp hq
  go_enter Try.func7, Try.ntmps7
  go_wp2_with fail
  refine (awake_any _ HG.out).mono ?_
  rintro e w1 ⟨rfl, hf1⟩
  have HF1 := hid hf1
  clear hf1
  go_wp2_with fail
  refine (newIdeal_any 16 (by decide) _).mono ?_
  rintro e w2 hnew
  obtain ⟨-, x, bx, rfl, hidx, hf2⟩ : (0 ≤ (16 : Int) ∧ (16 : Int) ≤ 16) ∧ ∃ b bm, e = .returned (.tuple #[.pointer (some ⟨b, 0, none⟩), .int .i64 0]) ∧ IdAt w1 w2 b 16 0 bm no ∧ Fr No w1 w2 := by
    rcases hnew with h | h
    · exact h
    · exact absurd ⟨by decide, by decide⟩ h.1
  have HX2 := hid hidx
  have HF2 := hid (HF1.out.trans' hf2)
  have HS1 := hid HF1.out.size
  clear hnew hidx hf2 HF1
  go_wp2_with fail
  refine (newIdeal_any 16 (by decide) _).mono ?_
  rintro e w3 hnew
  obtain ⟨-, y, by_, rfl, hidy, hf3⟩ : (0 ≤ (16 : Int) ∧ (16 : Int) ≤ 16) ∧ ∃ b bm, e = .returned (.tuple #[.pointer (some ⟨b, 0, none⟩), .int .i64 0]) ∧ IdAt w2 w3 b 16 0 bm no ∧ Fr No w2 w3 := by
    rcases hnew with h | h
    · exact h
    · exact absurd ⟨by decide, by decide⟩ h.1
  have HNE : Hid (∀ i j, i < 16 → j < 16 → bx i ≠ by_ j) := hid fun i j hi hj e => by
    have h1 := (HX2.out.2.1 i hi).lt
    have h2 := hidy.2.2.1 j hj
    omega
  have HY3 := hid hidy
  have HX3 := hid (HX2.out.no hf3)
  have HS2 := hid HF2.out.size
  have HF3 := hid (HF2.out.trans' hf3)
  clear hnew hidy hf3 HF2 HX2
  clear hmin
  go_wp2_with (first
    | ((with_reducible show wpList _ _ _ (⟨_, .call { callee := .builtin .min, args := _, argTypes := _ }, _, _, _, _⟩ :: _) _ _); refine wpL_min2 rfl _ _ _ rfl p.size q.size m rfl rfl HMIN.out ?_)
    | ((with_reducible show wpList _ _ _ (⟨_, .slice 9 _ _ _ _, _, _, _, _⟩ :: _) _ _); refine wpL_valZ rfl (.string (sb A)) (exec_to _ _ rfl p m rfl rfl HMP.out A HA.out _) ?_)
    | ((with_reducible show wpList _ _ _ (⟨_, .slice 9 _ _ _ _, _, _, _, _⟩ :: _) _ _); refine wpL_valZ rfl (.string (sb B)) (exec_to _ _ rfl q m rfl rfl HMQ.out B HB.out _) ?_)
    | fail)
  refine (idSeal_any w1 _ x 16 0 (by decide) (by decide) bx no HX3.out i HI.out nn HNN.out (sb A)).mono ?_
  rintro e w4 ⟨rfl, hid4, hf4⟩
  rw [sb_list] at hid4 ⊢
  have HX4 := hid hid4
  have HY4 := hid (HY3.out.other (fun j hj => ⟨_, _, HX3.out.2.1 j hj⟩) (fun i j hi hj e => HNE.out j i hj hi e.symm) hf4)
  have HF4 := hid (HF3.out.trans hf4 (fun k ⟨j, hj, e⟩ => .inr (by have := HX3.out.2.2.1 j hj; have := HS1.out; omega)))
  clear hid4 hf4 HX3 HY3 HF3
  unfold told
  go_wp2_with fail
  refine (idSeal_any w2 _ y 16 0 (by decide) (by decide) by_ no HY4.out i HI.out nn HNN.out (sb B)).mono ?_
  rintro e w5 ⟨rfl, hid5, hf5⟩
  rw [sb_list] at hid5 ⊢
  have HY5 := hid hid5
  have HX5 := hid (HX4.out.other (fun j hj => ⟨_, _, HY4.out.2.1 j hj⟩) (fun i j hi hj e => HNE.out i j hi hj e) hf5)
  have HF5 := hid (HF4.out.trans hf5 (fun k ⟨j, hj, e⟩ => .inr (by have := HY4.out.2.2.1 j hj; have := HS2.out; omega)))
  clear hid5 hf5 HX4 HY4 HF4
  have hnil := nil_eq'
  have hAB : A.length = B.length := by rw [HAl.out, HBl.out]
  have hse := iseal_len (fs := no) (n := 16) (i := i) (nn := nn) hAB.symm
  rw [hse]
  have HSE := hid hse; have HAB := hid hAB
  clear hse hAB
  rcases iseal_no (n := 16) (i := i) (nn := nn) (p := A) with hcs | hcs | ⟨hin, hle, hcs⟩
  · rw [hcs]
    clear hcs
    unfold told
    go_wp2_with fail
    go_ret
    exact ⟨rfl, HF5.out⟩
  · rw [hcs]
    clear hcs
    unfold told
    go_wp2_with fail
    go_ret
    exact ⟨rfl, HF5.out⟩
  · have ho1 := iopen_own (nn := nn) hin hle
    have ho2 := iopen_own (nn := nn) hin (p := B) (by rw [← HAB.out]; exact hle)
    rw [← HAB.out] at ho2
    rw [hcs]
    obtain ⟨F, hF⟩ : ∃ F, form (UInt8.ofNat i.toNat) (eight nn) A.length = F := ⟨_, rfl⟩
    have hFl : F.length ≤ 1000 := by rw [← hF, form_length, eight_length]; omega
    rw [hF] at ho1 ho2 ⊢
    have HO1 := hid ho1; have HO2 := hid ho2; have HFl := hid hFl
    clear hcs ho1 ho2 hF hFl hin hle
    unfold told
    go_wp2_with fail
    refine (idOpen_any w1 _ x 16 1 (by decide) bx _ (no_short.next 16 i nn A) HX5.out i HI.out (sb F) (by rw [sb_size]; have := HFl.out; omega)).mono ?_
    rintro e w6 ⟨rfl, hf6⟩
    rw [sb_list, HO1.out]
    have HY6 := hid (HY5.out.no hf6)
    have HF6 := hid (HF5.out.trans' hf6)
    clear hf6 HX5 HY5 HF5
    unfold told
    go_wp2_with fail
    refine (idOpen_any w2 _ y 16 1 (by decide) by_ _ (no_short.next 16 i nn B) HY6.out i HI.out (sb F) (by rw [sb_size]; have := HFl.out; omega)).mono ?_
    rintro e w7 ⟨rfl, hf7⟩
    rw [sb_list, HO2.out]
    have HF7 := hid (HF6.out.trans' hf7)
    clear hf7 HY6 HF6
    have e1 : ((sb F).toList == (sb F).toList) = true := by simp
    have e2 : ((sb A).toList == (sb A).toList) = true := by simp
    have e3 : ((sb B).toList == (sb B).toList) = true := by simp
    unfold told
    go_wp2_with fail
    go_ret
    exact ⟨rfl, HF7.out⟩
end Go.Proofs.Ytakmeipmngeilaa.SE

set_option linter.unusedVariables false
set_option linter.unusedSimpArgs false
set_option linter.unusedSectionVars false
namespace Go.Proofs.Ytakmeipmngeilaa.SE
set_option maxRecDepth 100000
open Go.RowKit K
variable [SH.Tab]

theorem rseal_any (W w : World) (r n : Nat) (us : List Use) (h : DocAt W w r n us) (hW : W.heap.size ≤ w.heap.size) (hn : n ≤ 16) (i : Int) (nn : Nat) (p : S) (hnn : nn < 18446744073709551616) (hus : us.length ≤ 1000) :
    Calls Try.prog 18 #[.pointer (some ⟨r, 0, none⟩), .int .i64 i, .int .u64 (nn : Int), .string p] w (RsPost W w r n us i nn p) := by
  cases hin : inside i n with
  | false =>
    refine (rseal_out W w r n us h i nn p hin).mono ?_
    rintro e w' ⟨rfl, rfl⟩
    have he : rsealL us n i nn p = ([], 81) := by unfold rsealL; rw [if_pos hin]
    refine ⟨by rw [he], ?_, Fr.refl _ _⟩
    unfold rnext
    rw [he, if_neg (show ¬ ((81 : Nat) = 0) by decide)]
    exact h
  | true =>
    by_cases hp : 200 < p.size
    · refine (rseal_long W w r n us h i nn p hin hp).mono ?_
      rintro e w' ⟨rfl, rfl⟩
      have he : rsealL us n i nn p = ([], 2) := by unfold rsealL; rw [if_neg (by rw [hin]; decide), if_pos hp]
      refine ⟨by rw [he], ?_, Fr.refl _ _⟩
      unfold rnext
      rw [he, if_neg (show ¬ ((2 : Nat) = 0) by decide)]
      exact h
    · obtain ⟨k, rfl, hk⟩ := in_of hin
      exact rseal_in W w r n us h hW k nn p hk hn (by omega) hnn hus
/-- D holds no block of type t. -/
def Sep (D : Nat → Prop) (w : World) (t : TypeId) : Prop := ∀ k, D k → ∀ c fz, w.heap[k]? ≠ some (.cells c t fz)
theorem Blk.sep {D : Nat → Prop} {w w' : World} {b : Nat} {t : TypeId} {cs : List Value} (h : Blk w b t cs) (hf : Fr D w w') (hs : Sep D w t) : Blk w' b t cs := h.fr hf fun e => hs b e _ _ h
theorem own_sep {D : Nat → Prop} {w w' : World} {base : Nat} {e : TypeId} {size : Nat} {v : Value} {n : Nat} {xs : List Value} (h : w.ownsRow base e size v n xs) (hf : Fr D w w') (hs : Sep D w e) : w'.ownsRow base e size v n xs :=
  own_fr h hf fun k hk hd => by
    rcases h.2 with ⟨rfl, _⟩ | ⟨g, cap, cur, rfl, -, hg, -⟩
    · cases hk
    · cases hk; exact hs g hd _ _ hg
theorem sep_bms {w : World} {n : Nat} {bm : Nat → Nat} (h : ∀ j, j < n → ∃ m f, MpAt w (bm j) m f) (t : TypeId) : Sep (Bms n bm) w t := fun k ⟨j, hj, e⟩ c fz hc => by
  obtain ⟨m, f, hm⟩ := h j hj
  rw [← e] at hm
  exact mp_not_cells hm hc
theorem sep_dd {W w : World} {t : TypeId} (h1 : t ≠ 47) (h2 : t ≠ 70) : Sep (DD W w) w t := fun k ⟨_, hk⟩ c fz hc => by
  rcases hk with ⟨c', fz', h⟩ | ⟨c', fz', h⟩
  · rw [hc] at h; cases h; exact h1 rfl
  · rw [hc] at h; cases h; exact h2 rfl
theorem sep_row {w : World} {base : Nat} {e : TypeId} {size : Nat} {v : Value} {n : Nat} {xs : List Value} (h : w.ownsRow base e size v n xs) {t : TypeId} (ht : t ≠ e) : Sep (fun k => v.ownBlock = some k) w t := fun k hk c fz hc => by
  rcases h.2 with ⟨rfl, _⟩ | ⟨g, cap, cur, rfl, -, hg, -⟩
  · cases hk
  · cases hk
    rw [hg] at hc
    cases hc
    exact ht rfl
theorem IdAt.sep {W w w' : World} {b n m : Nat} {bm : Nat → Nat} {fs : Nat → Mp} {D : Nat → Prop} (h : IdAt W w b n m bm fs) (hf : Fr D w w') (h1 : Sep D w 64) (h2 : Sep D w 74) (h3 : ∀ i, i < n → ¬ D (bm i)) : IdAt W w' b n m bm fs := by
  obtain ⟨⟨v, p1, p2, p3, p4⟩, q2, q3, q4⟩ := h
  exact ⟨⟨v, Blk.sep p1 hf h1, own_sep p2 hf h2, p3, p4⟩, fun i hi => (q2 i hi).fr hf (h3 i hi), q3, q4⟩
theorem DocAt.sep {W w w' : World} {r n : Nat} {us : List Use} {D : Nat → Prop} (h : DocAt W w r n us) (hf : Fr D w w') (h1 : Sep D w 47) (h2 : Sep D w 70) : DocAt W w' r n us := by
  obtain ⟨v, p1, p2, p3, p4⟩ := h
  exact ⟨v, Blk.sep p1 hf h1, own_sep p2 hf h2, p3, p4⟩
theorem dd_no_map {W w : World} {c m : Nat} {f : Mp} (h : MpAt w c m f) : ¬ DD W w c := fun ⟨_, hk⟩ => by
  rcases hk with ⟨c', fz', h'⟩ | ⟨c', fz', h'⟩ <;> exact mp_not_cells h h'
theorem row_no_map {w : World} {base : Nat} {e : TypeId} {size : Nat} {v : Value} {n : Nat} {xs : List Value} (h : w.ownsRow base e size v n xs) {c m : Nat} {f : Mp} (hm : MpAt w c m f) : ¬ v.ownBlock = some c := fun hk => by
  rcases h.2 with ⟨rfl, _⟩ | ⟨g, cap, cur, rfl, -, hg, -⟩
  · cases hk
  · cases hk; exact mp_not_cells hm hg
/-- An act. -/
structure Ac where
  d : Int
  t : Int
  n : Int
  nn : Nat
  p : S
def Ac.cells (x : Ac) : List Value := [.int .i64 x.d, .int .i64 x.t, .int .i64 x.n, .int .u64 (x.nn : Int), .string x.p]
def Ac.ok (x : Ac) : Prop := (-9223372036854775808 ≤ x.d ∧ x.d ≤ 9223372036854775807) ∧ (-9223372036854775808 ≤ x.t ∧ x.t ≤ 9223372036854775807) ∧ (-9223372036854775808 ≤ x.n ∧ x.n ≤ 9223372036854775807) ∧ x.nn < 18446744073709551616 ∧ x.p.size ≤ 140737488355328
/-- A slice v of acts. -/
def Acts (w : World) (v : Value) (l : List Ac) : Prop := ∃ a c, v = .slice a l.length c ∧ l.length ≤ 140737488355328 ∧ ∀ (j : Nat) (x : Ac), l[j]? = some x → x.ok ∧ ∃ g o, a = some ⟨g, o, none⟩ ∧ w.rangeAt g (o + j * 5) x.cells
theorem zeroAct (w : World) : (zeroValue 49).run Try.prog w = .ok (.agg #[.int .i64 0, .int .i64 0, .int .i64 0, .int .u64 0, .string ⟨#[]⟩]) w := by kernel_rfl
theorem infoAct : (Try.prog.info? 49).map (·.size) = some 5 := by kernel_rfl
theorem buildDoc (n : Int) (w : World) : (Instr.build 47 #[(0, .int .i64 n)]).run Try.prog w = .ok (.agg #[.int .i64 n, .slice none 0 0]) w := by kernel_rfl
theorem infoStr : (Try.prog.info? 9).map (fun i => (i.zero, i.size, i.bytes)) = some (some (.string ⟨#[]⟩), 1, 16) := by kernel_rfl
/-- What lies in memory between two acts: both sealers, and what was told. -/
structure Inv (W W1 W2 w : World) (b r n m : Nat) (bm : Nat → Nat) (fs : Nat → Mp) (us : List Use) (v : Value) (xs : List S) : Prop where
  id : IdAt W1 w b n m bm fs
  doc : DocAt W2 w r n us
  told : w.ownsRow W.heap.size 9 1 v xs.length (xs.map Value.string)
  fr : Fr No W w
  le1 : W.heap.size ≤ W1.heap.size
  le2 : W.heap.size ≤ W2.heap.size
  le3 : W2.heap.size ≤ w.heap.size
section
variable {W W1 W2 w w' : World} {b r n m : Nat} {bm : Nat → Nat} {fs fs' : Nat → Mp} {us us' : List Use} {v : Value} {xs : List S}
theorem Inv.no (h : Inv W W1 W2 w b r n m bm fs us v xs) (hf : Fr No w w') : Inv W W1 W2 w' b r n m bm fs us v xs :=
  ⟨h.id.no hf, h.doc.no hf, own_fr h.told hf fun _ _ e => e, h.fr.trans' hf, h.le1, h.le2, Nat.le_trans h.le3 hf.size⟩
theorem Inv.maps (h : Inv W W1 W2 w b r n m bm fs us v xs) : ∀ j, j < n → ∃ m f, MpAt w (bm j) m f := fun j hj => ⟨_, _, h.id.2.1 j hj⟩
theorem Inv.pseal (h : Inv W W1 W2 w b r n m bm fs us v xs) (hf : Fr (Bms n bm) w w') {m' : Nat} (hi : IdAt W1 w' b n m' bm fs') : Inv W W1 W2 w' b r n m' bm fs' us v xs :=
  ⟨hi, h.doc.sep hf (sep_bms h.maps _) (sep_bms h.maps _), own_sep h.told hf (sep_bms h.maps _), h.fr.trans hf (fun k ⟨j, hj, e⟩ => .inr (by have := h.id.2.2.1 j hj; have := h.le1; omega)), h.le1, h.le2, Nat.le_trans h.le3 hf.size⟩
theorem Inv.rseal (h : Inv W W1 W2 w b r n m bm fs us v xs) (hf : Fr (DD W2 w) w w') (hd : DocAt W2 w' r n us') : Inv W W1 W2 w' b r n m bm fs us' v xs :=
  ⟨h.id.sep hf (sep_dd (by decide) (by decide)) (sep_dd (by decide) (by decide)) (fun i hi => dd_no_map (h.id.2.1 i hi)), hd, own_sep h.told hf (sep_dd (by decide) (by decide)), h.fr.trans hf (fun k hk => .inr (Nat.le_trans h.le2 hk.1)), h.le1, h.le2, Nat.le_trans h.le3 hf.size⟩
theorem Inv.tell (h : Inv W W1 W2 w b r n m bm fs us v xs) (hf : Fr (fun k => v.ownBlock = some k) w w') {v' : Value} {xs' : List S} (ht : w'.ownsRow W.heap.size 9 1 v' xs'.length (xs'.map Value.string)) : Inv W W1 W2 w' b r n m bm fs us v' xs' :=
  ⟨h.id.sep hf (sep_row h.told (by decide)) (sep_row h.told (by decide)) (fun i hi => row_no_map h.told (h.id.2.1 i hi)), h.doc.sep hf (sep_row h.told (by decide)) (sep_row h.told (by decide)), ht, h.fr.trans hf (fun k hk => .inr (own_low h.told k hk)), h.le1, h.le2, Nat.le_trans h.le3 hf.size⟩
end
theorem rseal_short (us : List Use) (n : Nat) (i : Int) (nn : Nat) (p : S) : (rsealL us n i nn p).1.length ≤ 1000 := by
  unfold rsealL
  by_cases h1 : inside i n = false
  · rw [if_pos h1]; decide
  · rw [if_neg h1]
    by_cases h2 : 200 < p.size
    · rw [if_pos h2]; decide
    · rw [if_neg h2]
      by_cases h3 : us.any (isUse i.toNat nn) = true
      · rw [if_pos h3]; decide
      · rw [if_neg h3]
        show (SE.form _ _ _).length ≤ 1000
        rw [form_length, eight_length]
        show 8 + p.size + 16 ≤ 1000
        omega
theorem rnext_length (us : List Use) (n : Nat) (i : Int) (nn : Nat) (p : S) : (rnext us n i nn p).length ≤ us.length + 1 := by
  unfold rnext
  by_cases h : (rsealL us n i nn p).2 = 0
  · rw [if_pos h, List.length_append]; exact Nat.le_refl _
  · rw [if_neg h]; omega
end Go.Proofs.Ytakmeipmngeilaa.SE

set_option linter.unusedVariables false
set_option linter.unusedSimpArgs false
namespace Go.Proofs.Ytakmeipmngeilaa.SE
set_option maxRecDepth 100000
open Go.ChangeShapes Go.WideShapes Go.ChangeAt Go.RowKit K

theorem word_of {w : World} {v : Value} (h : Cell.ok Try.prog w .any 0 91 v) : ∃ n : Nat, v = .int .u32 (n : Int) ∧ n < 4294967296 := by
  unfold Cell.ok at h
  rw [Try.underlying91] at h
  cases v <;> simp at h
  case int k n =>
    obtain ⟨rfl, h0⟩ := h
    have hb : 0 ≤ n ∧ n ≤ 4294967295 := by simpa [IntKind.has, IntKind.min, IntKind.max, IntKind.signed, IntKind.bits] using h0
    exact ⟨n.toNat, by simp; omega, by omega⟩
theorem table_of {w : World} (h : w.ShapedOpen Try.prog) {g N : Nat} {zero : Array Value} {t : TypeId} (hg : g < Try.prog.globals.size) (h0 : ((begin Try.prog (fun _ _ => 0) default).world.heap[g]?).bind Obj.row? = some (zero, t))
    (hz : zero.size = N) (hb : Try.prog.buildable t = true) (hc : Try.prog.cellTypes Try.prog.depth t = some (List.replicate N 91)) : ∃ f : Nat → Nat, (∀ i, f i < 4294967296) ∧ w.rangeAt g 0 (AR.bw .u32 f N) := by
  obtain ⟨cs, hh, hs, hr⟩ := h.1 g zero t hg h0
  obtain ⟨ts, hts, _, hall⟩ := hr hb
  rw [hc] at hts
  cases hts
  have hcs : cs.size = N := hs.trans hz
  have key : ∀ i : Nat, ∃ n : Nat, n < 4294967296 ∧ (i < N → cs[i]? = some (.int .u32 (n : Int))) := fun i => by
    by_cases hi : i < N
    · have hi' : i < cs.size := by omega
      obtain ⟨u, hu, hok⟩ := hall i cs[i] (Array.getElem?_eq_getElem hi')
      rw [List.length_replicate, Nat.mod_eq_of_lt hi, List.getElem?_replicate, if_pos hi] at hu
      cases hu
      obtain ⟨n, hn, hlt⟩ := word_of hok
      exact ⟨n, hlt, fun _ => by rw [Array.getElem?_eq_getElem hi', hn]⟩
    · exact ⟨0, by decide, fun h => absurd h hi⟩
  refine ⟨fun i => (key i).choose, fun i => (key i).choose_spec.1, fun j v hj => ?_⟩
  have hj' : j < N := by have := (List.getElem?_eq_some_iff.1 hj).1; simpa using this
  rw [AR.bw_get _ hj'] at hj
  rw [cell_of_row w g _ cs t (0, 0) hh, Nat.zero_add, (key j).choose_spec.2 hj', ← hj]
theorem row0 : ∃ z, ((begin Try.prog (fun _ _ => 0) default).world.heap[0]?).bind Obj.row? = some (z, 92) ∧ z.size = 8 := ⟨(AR.bw .u32 (fun _ => 0) 8).toArray, by kernel_rfl, rfl⟩
theorem row1 : ∃ z, ((begin Try.prog (fun _ _ => 0) default).world.heap[1]?).bind Obj.row? = some (z, 94) ∧ z.size = 64 := ⟨(AR.bw .u32 (fun _ => 0) 64).toArray, by kernel_rfl, rfl⟩
/-- Whatever the world, the tables hold something. -/
theorem tab_of {w : World} (h : w.ShapedOpen Try.prog) : ∃ T : SH.Tab, @SH.Gl T w := by
  obtain ⟨z0, h0, s0⟩ := row0
  obtain ⟨z1, h1, s1⟩ := row1
  obtain ⟨f, hf, rf⟩ := table_of h (by decide +kernel) h0 s0 (by kernel_rfl) (by kernel_rfl)
  obtain ⟨k, hk, rk⟩ := table_of h (by decide +kernel) h1 s1 (by kernel_rfl) (by kernel_rfl)
  exact ⟨⟨k, f, hk, hf⟩, rf, rk⟩
theorem one9 : Try.prog.cellsOf 9 = 1 := by kernel_rfl
theorem bytes9 : Try.prog.bytesOf 9 = 16 := by kernel_rfl
theorem cellsA : Try.prog.cellsOf 49 = 5 := by kernel_rfl
theorem bytesA : Try.prog.bytesOf 49 = 48 := by kernel_rfl
theorem oneI : Try.prog.cellsOf 3 = 1 := by kernel_rfl
theorem oneU : Try.prog.cellsOf 23 = 1 := by kernel_rfl
theorem strs_of {w : World} {cs : List Value} (h : Reads Try.prog w 22 cs) : ∃ v l, cs = [v] ∧ Strs w v l ∧ l.length ≤ 140737488355328 := by
  obtain ⟨a, len, cap, xs, rfl, hl, hb, _, hr⟩ := h.row Value.string Try.underlying22 one9 (fun cs' h' => by
    obtain ⟨s, rfl, hs⟩ := h'.string Try.underlying9
    exact ⟨s, rfl⟩)
  have hrb : reachBytes = 140737488351232 := rfl
  rw [bytes9, hrb] at hb
  refine ⟨_, xs, rfl, ⟨a, cap, by rw [hl], fun hx => ?_⟩, by omega⟩
  rcases hr with h0 | ⟨g, o, h1, h2, h3⟩
  · omega
  · exact ⟨g, o, h1, h3⟩
theorem i64_ok {n : Int} (h : (Lit.int .i64 n).wf = true) : -9223372036854775808 ≤ n ∧ n ≤ 9223372036854775807 := by
  simpa [Lit.wf, IntKind.min, IntKind.signed, IntKind.bits] using h
theorem u64_ok {n : Int} (h : (Lit.int .u64 n).wf = true) : ∃ s : Nat, n = (s : Int) ∧ s < 18446744073709551616 := by
  have hb : 0 ≤ n ∧ n ≤ 18446744073709551615 := by simpa [Lit.wf, IntKind.min, IntKind.max, IntKind.signed, IntKind.bits] using h
  exact ⟨n.toNat, by omega, by omega⟩
theorem u8_ok {n : Int} (h : (Lit.int .u8 n).wf = true) : ∃ s : Nat, n = (s : Int) ∧ s < 256 := by
  have hb : 0 ≤ n ∧ n ≤ 255 := by simpa [Lit.wf, IntKind.min, IntKind.max, IntKind.signed, IntKind.bits] using h
  exact ⟨n.toNat, by omega, by omega⟩
theorem act_of {w : World} {cs : List Value} (h : Reads Try.prog w 49 cs) : ∃ x : Ac, cs = x.cells ∧ x.ok := by
  obtain ⟨hl, hf⟩ := h.struct Try.underlying49
  rw [cellsA] at hl
  obtain ⟨c0, c1, c2, c3, c4, rfl⟩ : ∃ c0 c1 c2 c3 c4, cs = [c0, c1, c2, c3, c4] := by
    match cs, hl with
    | [c0, c1, c2, c3, c4], _ => exact ⟨c0, c1, c2, c3, c4, rfl⟩
  have f0 : Reads Try.prog w 3 (([c0, c1, c2, c3, c4].drop 0).take (Try.prog.cellsOf 3)) := hf 0 _ rfl
  have f1 : Reads Try.prog w 3 (([c0, c1, c2, c3, c4].drop 1).take (Try.prog.cellsOf 3)) := hf 1 _ rfl
  have f2 : Reads Try.prog w 3 (([c0, c1, c2, c3, c4].drop 2).take (Try.prog.cellsOf 3)) := hf 2 _ rfl
  have f3 : Reads Try.prog w 23 (([c0, c1, c2, c3, c4].drop 3).take (Try.prog.cellsOf 23)) := hf 3 _ rfl
  have f4 : Reads Try.prog w 9 (([c0, c1, c2, c3, c4].drop 4).take (Try.prog.cellsOf 9)) := hf 4 _ rfl
  rw [oneI] at f0 f1 f2
  rw [oneU] at f3
  rw [one9] at f4
  obtain ⟨d, e0, w0⟩ := f0.int Try.underlying3
  obtain ⟨t, e1, w1⟩ := f1.int Try.underlying3
  obtain ⟨n, e2, w2⟩ := f2.int Try.underlying3
  obtain ⟨u, e3, w3⟩ := f3.int Try.underlying23
  obtain ⟨s, e4, w4⟩ := f4.string Try.underlying9
  simp only [List.drop_zero, List.drop_succ_cons, List.take_succ_cons, List.take_zero, List.cons.injEq, and_true] at e0 e1 e2 e3 e4
  obtain ⟨nn, rfl, hnn⟩ := u64_ok w3
  subst e0 e1 e2 e3 e4
  exact ⟨⟨d, t, n, nn, s⟩, rfl, i64_ok w0, i64_ok w1, i64_ok w2, hnn, by have hr : reachBytes = 140737488351232 := rfl; show s.size ≤ _; omega⟩
theorem acts_of {w : World} {cs : List Value} (h : Reads Try.prog w 40 cs) : ∃ v l, cs = [v] ∧ Acts w v l := by
  rcases h.slice Try.underlying40 with rfl | ⟨a, len, cap, rfl, hl, _, hb, hel⟩
  · exact ⟨_, [], rfl, none, 0, rfl, by simp, fun j x hx => by cases hx⟩
  · rw [bytesA] at hb
    have hr : reachBytes = 140737488351232 := rfl
    rw [hr] at hb
    rw [cellsA] at hel
    obtain ⟨xs, hxl, hxs⟩ := list_of (p := fun i (x : Ac) => x.ok ∧ ∀ j v, x.cells[j]? = some v → w.cell? (a.add (i * 5 + j)) = some v) len (fun i hi => by
      obtain ⟨cs', _, h2, h3⟩ := hel i (by omega)
      obtain ⟨x, rfl, hs⟩ := act_of h3
      exact ⟨x, hs, h2⟩)
    refine ⟨_, xs, rfl, some a, cap, by rw [hxl], by omega, fun j x hx => ?_⟩
    have hlen : 0 < xs.length := by have := (List.getElem?_eq_some_iff.1 hx).1; omega
    obtain ⟨g, o, rfl, hg⟩ := addr_of ((hxs 0 _ (List.getElem?_eq_getElem hlen)).2 0 _ rfl)
    refine ⟨(hxs j x hx).1, g, o, rfl, fun k v hk => ?_⟩
    have := (hxs j x hx).2 k v hk
    rwa [Addr.add_mid, ← Nat.add_assoc] at this
section
variable {H : Type} {enc : TypeId × Value → H} {W W' : World} {v : Value} {d : DataW H} {p : List MemPlace} {ts : List TypeId} {ds : List (DataW H)}
theorem arg_keys (h : DataW.Trod enc Try.prog W 0 (fun _ => true) true 22 v d p) (hv : ∃ a l c, v = .slice a l c) (hsz : (DataW.weightsEach Try.prog ts ds).all (· ≤ reachBytes) = true) (j : Nat) (ht : ts[j]? = some 22) (hd : ds[j]? = some d) :
    ∃ l, Strs W v l ∧ l.length ≤ 140737488355328 := by
  obtain ⟨v', l, e, hx⟩ := strs_of (reads_of h hsz j ht hd)
  obtain ⟨a, n, c, rfl⟩ := hv
  simp [Value.cells] at e
  subst e
  exact ⟨l, hx⟩
theorem arg_acts8 (h : DataW.Trod enc Try.prog W 0 (fun _ => true) true 40 v d p) (hv : ∃ a l c, v = .slice a l c) (hsz : (DataW.weightsEach Try.prog ts ds).all (· ≤ reachBytes) = true) (j : Nat) (ht : ts[j]? = some 40) (hd : ds[j]? = some d) :
    ∃ l, Acts W v l := by
  obtain ⟨v', l, e, hx⟩ := acts_of (reads_of h hsz j ht hd)
  obtain ⟨a, n, c, rfl⟩ := hv
  simp [Value.cells] at e
  subst e
  exact ⟨l, hx⟩
end
end Go.Proofs.Ytakmeipmngeilaa.SE

set_option linter.unusedVariables false
set_option linter.unusedSimpArgs false
set_option linter.unusedSectionVars false
namespace Go.Proofs.Ytakmeipmngeilaa.SE
set_option maxRecDepth 100000
open Go.RowKit K
variable [SH.Tab]

theorem bseal_out {ks : List S} {n : Nat} {i : Int} (h : inside i n = false) (nn : Nat) (p : List UInt8) : bseal ks n i nn p = ([], 81) := by unfold bseal; rw [if_pos h]
theorem bseal_long {ks : List S} {n : Nat} {i : Int} (h : inside i n = true) (nn : Nat) {p : List UInt8} (hp : 200 < p.length) : bseal ks n i nn p = ([], 2) := by
  unfold bseal; rw [if_neg (by rw [h]; decide), if_pos hp]
theorem bseal_ok {ks : List S} {n : Nat} {i : Int} (h : inside i n = true) (nn : Nat) {p : List UInt8} (hp : p.length ≤ 200) :
    bseal ks n i nn p = ((kyv i.toNat (ks.getD i.toNat ⟨#[]⟩)).seal (sb (eight nn)) p, 0) := by
  unfold bseal; rw [if_neg (by rw [h]; decide), if_neg (by omega)]
theorem bopen_ok {ks : List S} {n : Nat} {i : Int} (h : inside i n = true) (s : List UInt8) : bopen ks n i s = (kyv i.toNat (ks.getD i.toNat ⟨#[]⟩)).open_ s := by
  unfold bopen; rw [if_neg (by rw [h]; decide)]
theorem nil_eq : ((sb []).toList == []) = true := by rw [ByteArray.toList_eq, sb_list]; decide
set_option maxHeartbeats 4000000 in
theorem sealBack_walk (w : World) (v : Value) (ks : List S) (i : Int) (nn : Nat) (p : S) (hk : Strs w v ks) (hl : ks.length ≤ 140737488355328) (hi : -9223372036854775808 ≤ i ∧ i ≤ 9223372036854775807) (hnn : nn < 18446744073709551616) (hg : SH.Gl w) :
    Calls Try.prog 4 #[v, .int .i64 i, .int .u64 (nn : Int), .string p] w fun e w' => e = .returned (.bool true) ∧ Fr No w w' := by
  have HG := hid hg; have HI := hid hi; have HNN := hid hnn; have HK := hid hk; have HL := hid hl
  obtain ⟨a, c, rfl, -⟩ := hk
  obtain ⟨n, hn⟩ : ∃ n, ks.length = n := ⟨_, rfl⟩
  rw [hn] at HK ⊢
  have HN := hid hn
  clear hg hi hnn hn hl
  go_enter Try.func4, Try.ntmps4
  go_wp2_with fail
  refine (awake_any _ HG.out).mono ?_
  rintro e w1 ⟨rfl, hf1⟩
  have HF1 := hid hf1
  clear hf1
  go_wp2_with fail
  refine (new_any _ ks _ (HK.out.no HF1.out) HL.out).mono ?_
  rintro e w2 hnew
  rcases hnew with ⟨hgood, b, rfl, hown, hf2⟩ | ⟨hgood, rfl, hf2⟩
  · have h16 : n ≤ 16 := by have := (of_decide_eq_true hgood).1; have := HN.out; omega
    rw [HN.out] at hown
    have HO := hid hown; have HF2 := hid (HF1.out.trans' hf2); have H16 := hid h16
    clear hgood hown hf2 h16
    go_wp2_with fail
    refine (boxSeal_any w1 _ ks n b H16.out HO.out (HG.out.no HF2.out) i HI.out nn HNN.out p).mono ?_
    rintro e w3 ⟨rfl, hf3⟩
    have HF3 := hid (HF2.out.trans' hf3)
    have HO3 := hid (HO.out.no hf3)
    have hnil := nil_eq
    clear hf3 HO HF2
    cases hin : inside i n with
    | false =>
      rw [bseal_out hin]
      unfold told
      by_cases h0 : i < 0
      · go_wp2_with fail
        go_ret
        exact ⟨rfl, HF3.out⟩
      · have h0' : 0 ≤ i := by omega
        have h1 : (n : Int) ≤ i := by
          have := of_decide_eq_false hin
          omega
        clear h0 hin
        go_wp2_with fail
        go_ret
        exact ⟨rfl, HF3.out⟩
    | true =>
      have h1 := of_decide_eq_true hin
      have h0' : 0 ≤ i := h1.1
      have h2' : i < (n : Int) := h1.2
      by_cases hp : 200 < p.size
      · rw [bseal_long hin nn (by rw [size_list]; exact hp)]
        have hpi : (200 : Int) < (p.size : Int) := by omega
        have HD := hid (show decide (i < 0) = false ∧ decide ((n : Int) ≤ i) = false from ⟨decide_eq_false (by omega), decide_eq_false (by omega)⟩)
        clear hp h1 hin
        unfold told
        go_wp2_with fail
        go_ret
        refine ⟨?_, HF3.out⟩
        show Ending.returned (.bool (!decide (i < 0) && !decide ((n : Int) ≤ i))) = _
        rw [HD.out.1, HD.out.2]
        rfl
      · have hp' : p.size ≤ 200 := by omega
        have hpi : (p.size : Int) ≤ 200 := by omega
        have hpl : p.data.toList.length ≤ 200 := by rw [size_list]; exact hp'
        rw [bseal_ok hin nn hpl]
        have hop := (kyv i.toNat (ks.getD i.toNat ⟨#[]⟩)).open_seal (n := sb (eight nn)) (by rw [sb_size, eight_length]) hpl
        have hlen := (kyv i.toNat (ks.getD i.toNat ⟨#[]⟩)).seal_length (n := sb (eight nn)) (by rw [sb_size, eight_length]) p.data.toList
        rw [← bopen_ok hin] at hop
        obtain ⟨L, hL⟩ : ∃ L, (kyv i.toNat (ks.getD i.toNat ⟨#[]⟩)).seal (sb (eight nn)) p.data.toList = L := ⟨_, rfl⟩
        rw [hL] at hop hlen ⊢
        have hls : (sb L).size = p.size + 24 := by rw [sb_size, hlen, size_list]
        have HLS := hid hls; have HOP := hid hop
        clear hL hop hlen hp h1 hin hpl hls
        unfold told
        go_wp2_with fail
        refine (boxOpen_any w1 _ ks n b H16.out HO3.out (HG.out.no HF3.out) i HI.out (sb L) (by rw [HLS.out]; omega)).mono ?_
        rintro e w4 ⟨rfl, hf4⟩
        rw [sb_list, HOP.out]
        have HF4 := hid (HF3.out.trans' hf4)
        unfold told
        rw [sb_of]
        clear hf4 HF3 HO3
        go_wp2_with fail
        refine (long_any (p.size : Int) (by omega) (by omega) _).mono ?_
        rintro e w5 ⟨rfl, rfl⟩
        have hls : ((sb L).size : Int) = (p.size : Int) + 24 := by rw [HLS.out]; omega
        have hpp : (p.toList == p.toList) = true := by simp
        go_wp2_with fail
        go_ret
        exact ⟨rfl, HF4.out⟩
  · have HF2 := hid (HF1.out.trans' hf2)
    clear hgood hf2
    go_wp2_with fail
    go_ret
    exact ⟨rfl, HF2.out⟩
theorem wpL_putM {P : Program} {ops : Array Oper} {rest : List Oper} {op : Oper} {a : Act} {w : World} {Q : Exit → Act → World → Prop} (hgd : op.guard = none) (ty : TypeId) (x y : Operand) (ho : op.op = .store ty x y) (b o : Nat) (v : UInt8) (hx : a.eval x = .pointer (some ⟨b, o, none⟩)) (hy : a.eval y = .int .u8 (v.toNat : Int))
    (c : Nat) (l : List UInt8) (hB : MkB w b c l) (hle : o < l.length) (hi : (P.info? ty).map (·.size) = some 1)
    (h : ∀ w', Hid (MkB w' b c (l.set o v)) → Hid (Fr (fun k => k = b) w w') → Hid (w'.heap.size = w.heap.size) → wpList P ops Q rest (a.put op.dst undef) w') : wpList P ops Q (op :: rest) a w :=
  wpList_plain hgd fun _ hK => wp_putM ty x y ho b o v hx hy c l hB hle hi fun w' p q r => hK _ _ (h w' p q r)
theorem xor_ne (a : UInt8) {b : Nat} (hb : b < 256) (h : b ≠ 0) : a ≠ a ^^^ UInt8.ofNat b := fun e => h (by
  have h1 : UInt8.ofNat b = 0 := by
    have := congrArg (fun x => a ^^^ x) e
    simpa [← UInt8.xor_assoc] using this.symm
  have h2 := congrArg UInt8.toNat h1
  rw [UInt8.toNat_ofNat', Nat.mod_eq_of_lt hb] at h2
  exact h2)
set_option maxHeartbeats 4000000 in
theorem sealTorn_walk (w : World) (v : Value) (ks : List S) (i : Int) (nn : Nat) (p : S) (y : Nat) (hk : Strs w v ks) (hl : ks.length ≤ 140737488355328) (hi : -9223372036854775808 ≤ i ∧ i ≤ 9223372036854775807) (hnn : nn < 18446744073709551616) (hy : y < 256) (hg : SH.Gl w) :
    Calls Try.prog 5 #[v, .int .i64 i, .int .u64 (nn : Int), .string p, .int .u8 (y : Int)] w fun e w' => e = .returned (.bool true) ∧ Fr No w w' := by
  have HG := hid hg; have HI := hid hi; have HNN := hid hnn; have HK := hid hk; have HL := hid hl; have HY := hid hy
  obtain ⟨a, c, rfl, -⟩ := hk
  obtain ⟨n, hn⟩ : ∃ n, ks.length = n := ⟨_, rfl⟩
  rw [hn] at HK ⊢
  have HN := hid hn
  clear hg hi hnn hn hl hy
  go_enter Try.func5, Try.ntmps5
  go_wp2_with fail
  refine (awake_any _ HG.out).mono ?_
  rintro e w1 ⟨rfl, hf1⟩
  have HF1 := hid hf1
  clear hf1
  go_wp2_with fail
  refine (new_any _ ks _ (HK.out.no HF1.out) HL.out).mono ?_
  rintro e w2 hnew
  rcases hnew with ⟨hgood, b, rfl, hown, hf2⟩ | ⟨hgood, rfl, hf2⟩
  · have h16 : n ≤ 16 := by have := (of_decide_eq_true hgood).1; have := HN.out; omega
    rw [HN.out] at hown
    have HO := hid hown; have HF2 := hid (HF1.out.trans' hf2); have H16 := hid h16
    clear hgood hown hf2 h16
    go_wp2_with fail
    refine (boxSeal_any w1 _ ks n b H16.out HO.out (HG.out.no HF2.out) i HI.out nn HNN.out p).mono ?_
    rintro e w3 ⟨rfl, hf3⟩
    have HF3 := hid (HF2.out.trans' hf3)
    have HO3 := hid (HO.out.no hf3)
    have hnil := nil_eq
    clear hf3 HO HF2
    cases hin : inside i n with
    | false =>
      rw [bseal_out hin]
      unfold told
      clear hin
      go_wp2_with fail
      go_ret
      exact ⟨rfl, HF3.out⟩
    | true =>
      by_cases hp : 200 < p.size
      · rw [bseal_long hin nn (by rw [size_list]; exact hp)]
        clear hp hin
        unfold told
        go_wp2_with fail
        go_ret
        exact ⟨rfl, HF3.out⟩
      · have hpl : p.data.toList.length ≤ 200 := by rw [size_list]; omega
        rw [bseal_ok hin nn hpl]
        have htn := (kyv i.toNat (ks.getD i.toNat ⟨#[]⟩)).open_torn (n := sb (eight nn)) (by rw [sb_size, eight_length]) p.data.toList
        have hlen := (kyv i.toNat (ks.getD i.toNat ⟨#[]⟩)).seal_length (n := sb (eight nn)) (by rw [sb_size, eight_length]) p.data.toList
        obtain ⟨m, hm⟩ : ∃ m, p.data.toList.length + 23 = m := ⟨_, rfl⟩
        rw [hm] at htn
        obtain ⟨L, hL⟩ : ∃ L, (kyv i.toNat (ks.getD i.toNat ⟨#[]⟩)).seal (sb (eight nn)) p.data.toList = L := ⟨_, rfl⟩
        rw [hL] at htn hlen ⊢
        have hLm : L.length = m + 1 := by omega
        have hm22 : 22 < m ∧ m ≤ 223 := by rw [hlen] at hLm; constructor; omega; omega
        have hls : ((sb L).size : Int) = (m : Int) + 1 := by rw [sb_size, hLm]; omega
        have HLm := hid hLm; have HTN := hid htn; have HM := hid hm22; have HIN := hid hin
        have hmi : (22 : Int) < (m : Int) := by omega
        have hmj : (m : Int) ≤ 223 := by omega
        clear hL htn hlen hp hin hpl hLm hm hm22
        unfold told
        by_cases hy0 : y = 0
        · subst hy0
          go_wp2_with fail
          go_ret
          exact ⟨rfl, HF3.out⟩
        · have hyb : ((y : Int) == 0) = false := by rw [beq_eq_false_iff_ne]; omega
          have HY0 := hid hy0
          have hxr := xor_byte (L[m]'(by rw [HLm.out]; omega)) y HY.out
          have HXN := hid (xor_ne (L[m]'(by rw [HLm.out]; omega)) HY.out hy0)
          obtain ⟨lm, hlm⟩ : ∃ x, L[m]'(by rw [HLm.out]; omega) = x := ⟨_, rfl⟩
          rw [hlm] at hxr HXN
          obtain ⟨x, hx⟩ : ∃ x, lm ^^^ UInt8.ofNat y = x := ⟨_, rfl⟩
          rw [hx] at hxr HXN
          have HC : Hid (∀ w' b' c', MkB w' b' c' L → w'.cell? ⟨b', m, none⟩ = some (.int .u8 (lm.toNat : Int))) := hid fun w' b' c' h => by
            rw [h.cell (by rw [HLm.out]; omega), hlm]
          have HGD : Hid (L.getD m 0 ≠ x) := hid (by
            rw [List.getD_eq_getElem?_getD, List.getElem?_eq_getElem (by rw [HLm.out]; omega), hlm]
            exact HXN.out)
          clear hy0 hlm hx
          go_wp2_with (first
            | ((with_reducible show wpList _ _ _ (⟨_, .convert _ 38 _, _, _, _, _⟩ :: _) _ _); refine wpL_bytesM rfl _ _ _ rfl (sb L) rfl Try.underlying9 Try.underlying38 ?_; intro c4 w4 HB4 HF4 HS4; rw [sb_list] at HB4; have hcell := HC.out _ _ _ HB4.out)
            | ((with_reducible show wpList _ _ _ (⟨_, .store 5 _ _, _, _, _, _⟩ :: _) _ _); refine Hid.out ?_)
            | fail)
          refine hid ?_
          refine wpL_putM rfl 5 _ _ rfl w3.heap.size m x rfl (by first | rfl | exact congrArg (Value.int .u8) hxr) c4 L HB4.out (by rw [HLm.out]; omega) AE.info1 ?_
          intro w5 HB5 HF5 HS5
          have HBI : Hid (BytesIn w5 Any (.slice (some ⟨w3.heap.size, 0, none⟩) (sb L).size c4) (L.set m x)) := hid (by
            have h := HB5.out.bytes
            rwa [List.length_set, ← sb_size] at h)
          have HF5' := hid (HF4.out.trans HF5.out (D' := fun k => k = w3.heap.size) fun k e => .inr (Nat.le_of_eq (by have : k = w3.heap.size := e; exact this.symm)))
          have HO5 := hid (HO3.out.no HF5'.out)
          have HF05 := hid (HF3.out.trans' HF5'.out)
          clear HB4 HF4 HS4 hcell HB5 HF5 HS5 HO3 HF3 HF5' hxr
          go_wp2_with (first
            | ((with_reducible show wpList _ _ _ (⟨_, .convert _ 9 _, _, _, _, _⟩ :: _) _ _); refine wpL_stringS rfl _ rfl _ _ (L.set m x) rfl HBI.out ?_)
            | fail)
          refine (boxOpen_any w1 _ ks n b H16.out HO5.out (HG.out.no HF05.out) i HI.out (sb (L.set m x)) (by rw [sb_size, List.length_set, HLm.out]; omega)).mono ?_
          rintro e w6 ⟨rfl, hf6⟩
          rw [sb_list, bopen_ok HIN.out, HTN.out x HGD.out]
          have HO6 := hid (HO5.out.no hf6)
          have HF6 := hid (HF05.out.trans' hf6)
          clear hf6 HO5 HF05 HBI
          unfold told
          go_wp2_with (first
            | ((with_reducible show wpList _ _ _ (⟨_, .slice 9 _ _ _ _, _, _, _, _⟩ :: _) _ _); refine wpL_valZ rfl (.string (sb (L.take 23))) (exec_to _ _ rfl (sb L) 23 rfl rfl (by rw [sb_size, HLm.out]; omega) _ (by rw [sb_list]) _) ?_)
            | fail)
          refine (boxOpen_any w1 _ ks n b H16.out HO6.out (HG.out.no HF6.out) i HI.out (sb (L.take 23)) (by rw [sb_size, List.length_take, HLm.out]; omega)).mono ?_
          rintro e w7 ⟨rfl, hf7⟩
          rw [sb_list, bopen_ok HIN.out, Ky.open_short _ (by rw [List.length_take, HLm.out]; omega)]
          have HF7 := hid (HF6.out.trans' hf7)
          clear hf7 HO6 HF6
          unfold told
          go_wp2_with fail
          go_ret
          exact ⟨rfl, HF7.out⟩
  · have HF2 := hid (HF1.out.trans' hf2)
    clear hgood hf2
    go_wp2_with fail
    go_ret
    exact ⟨rfl, HF2.out⟩
end Go.Proofs.Ytakmeipmngeilaa.SE
