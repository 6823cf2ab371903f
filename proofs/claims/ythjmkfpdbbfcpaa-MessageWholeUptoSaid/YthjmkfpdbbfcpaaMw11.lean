/-
  Part 11 of the proof: MpG.
-/
import Derived.Test.YthjmkfpdbbfcpaaMw10
set_option linter.unusedSimpArgs false
set_option linter.unusedVariables false
namespace Go.Proofs.Ythjmkfpdbbfcpaa.ME
set_option maxRecDepth 100000
open Go.RowKit K Go.Proofs.Ythjmkfpdbbfcpaa.BE Go.Proofs.Ythjmkfpdbbfcpaa.FR

def prfOk (d : Nat) : Prop := ∀ (M : Nat) (E : Nat → Prop) (f : Fl) (cs : List Value) (w : World), FlC M E w f cs → Calls Try.prog 64 #[.agg cs.toArray, .int .i64 (d : Int)] w fun e w' => e = .returned (.bool (rightF d f)) ∧ Fr No w w'
set_option maxHeartbeats 8000000 in
theorem pkid_any (d : Nat) (ih : prfOk d) (M : Nat) (E : Nat → Prop) (x : Fl) (cs : List Value) (w : World) (bl : Nat) (h : FlC M E w x cs) (hb : Blk w bl 3 [.int .i64 (d : Int)]) : Calls Try.prog 92 #[.agg cs.toArray, .pointer (some ⟨bl, 0, none⟩)] w fun e w' => e = .returned (.bool (!rightF d x)) ∧ Fr No w w' := by
  obtain ⟨R, hR⟩ : ∃ R, rightF d x = R := ⟨_, rfl⟩
  have H := hid h; have IH := hid ih; have HR := hid hR
  have HI3 : Hid ((Try.prog.info? 25).map (·.size) = some cs.length) := hid (by rw [h.len]; exact infoFl)
  have c1 : w.cell? ⟨bl, 0, none⟩ = some (.int .i64 (d : Int)) := hb.cell 0
  rw [hR]
  obtain ⟨vk, va, vs, rfl⟩ : ∃ a b c, cs = a :: b :: c := by
    have := h.len
    match cs, this with
    | a :: b :: c, _ => exact ⟨a, b, c, rfl⟩
  clear h ih hR hb
  go_enter Try.func92, Try.ntmps92
  go_wp2_with (first
    | ((with_reducible refine K.atO (.box 25 _) ?_); refine wpL_box rfl _ _ rfl _ rfl (vk :: va :: vs) rfl ?_; intro w1 HB1 F1 HS1; have d1 : w1.cell? ⟨bl, 0, none⟩ = some (.int .i64 (d : Int)) := F1.out.cell c1 id)
    | ((with_reducible refine K.atO (.load 25 _) ?_); refine wpL_load rfl _ _ rfl w.heap.size 0 rfl (vk :: va :: vs) _ (HB1.out.range 0 _ (by rw [List.drop_zero, List.take_length])) rfl rfl HI3.out ?_)
    | fail)
  refine (IH.out M E x (vk :: va :: vs) w1 (H.out.no F1.out)).mono ?_
  rintro e w2 ⟨rfl, f2⟩
  rw [HR.out]
  have HF2 := hid (F1.out.trans' f2)
  clear f2 d1 c1
  go_wp2_with fail
  go_ret
  exact ⟨by cases R <;> rfl, HF2.out⟩
def kidsOk (d : Nat) (f : Fl) : Bool := !f.kids.isEmpty && (!decide (f.kind = 2) || decide (f.kids.length = 1)) && f.kids.all (rightF d)
set_option maxHeartbeats 8000000 in
theorem pkids_any (d : Nat) (ih : prfOk d) (M : Nat) (E : Nat → Prop) (f : Fl) (cs : List Value) (w : World) (h : FlC M E w f cs) : Calls Try.prog 86 #[.agg cs.toArray, .int .i64 (d : Int)] w fun e w' => e = .returned (.bool (kidsOk d f)) ∧ Fr No w w' := by
  obtain ⟨M, rfl⟩ := h.succ
  have H0 := hid h
  obtain ⟨vk, va, rfl, hi0, hz2, hz3, hz4, hz6, ht, hs⟩ := h
  obtain ⟨k1, ck, rfl, -, hkl⟩ := hs.form
  obtain ⟨a1, ca, rfl, -, hal⟩ := ht.form
  have HKS := hid hs; have HTX := hid ht
  obtain ⟨fk, kids, tyB, vaB, fiB, any, laB⟩ := f
  simp only [Fl.kind, Fl.kids, Fl.type, Fl.value, Fl.first, Fl.any, Fl.last] at hkl hal hi0 hz2 hz3 hz4 hz6 H0 HKS HTX ⊢
  have HSZ := hid (show I64 fk ∧ Sz tyB ∧ Sz vaB ∧ Sz fiB ∧ Sz laB from ⟨hi0, hz2, hz3, hz4, hz6⟩)
  clear ht hs hi0 hz2 hz3 hz4 hz6
  have IH := hid ih
  have e1 : kidsOk d (.mk fk kids tyB vaB fiB any laB) = (!kids.isEmpty && (!decide (fk = 2) || decide (kids.length = 1)) && kids.all (rightF d)) := rfl
  have hall : (kids.any fun x => !rightF d x) = !kids.all (rightF d) := by rw [List.all_eq_not_any_not]; simp
  rw [e1]
  obtain ⟨nk, hnk⟩ : ∃ n, kids.length = n := ⟨_, rfl⟩
  obtain ⟨na, hna⟩ : ∃ n, any.length = n := ⟨_, rfl⟩
  obtain ⟨TY, hTY⟩ : ∃ S, sb tyB = S := ⟨_, rfl⟩
  obtain ⟨VA, hVA⟩ : ∃ S, sb vaB = S := ⟨_, rfl⟩
  obtain ⟨FI, hFI⟩ : ∃ S, sb fiB = S := ⟨_, rfl⟩
  obtain ⟨LA, hLA⟩ : ∃ S, sb laB = S := ⟨_, rfl⟩
  rw [hnk] at hkl
  rw [hna] at hal
  rw [hnk, hna, hTY, hVA, hFI, hLA] at H0
  rw [hnk] at HKS
  rw [hna] at HTX
  rw [hnk, hna, hTY, hVA, hFI, hLA]
  have HNK := hid hnk; have HNA := hid hna; have HTY := hid hTY; have HVA := hid hVA; have HFI := hid hFI; have HLA := hid hLA
  have hkli : (nk : Int) ≤ 140737488351232 := by omega
  have hali : (na : Int) ≤ 140737488351232 := by omega
  obtain ⟨A, hA⟩ : ∃ A, kids.all (rightF d) = A := ⟨_, rfl⟩
  rw [hA] at hall ⊢
  have HALL := hid hall
  have g1 : ((nk : Int) == 0) = kids.isEmpty := by rw [← hnk]; exact len_beq kids
  have g2 : (fk == 2) = decide (fk = 2) := rfl
  have hnz : kids.isEmpty = true → nk = 0 := fun h => by rw [← hnk, List.isEmpty_iff.1 h]; rfl
  have hnz' : kids.isEmpty = false → nk ≠ 0 := fun h e => by rw [e] at hnk; rw [List.eq_nil_of_length_eq_zero hnk] at h; cases h
  generalize kids.isEmpty = b1 at g1 hnz hnz' ⊢
  generalize decide (fk = 2) = b2 at g2 ⊢
  have HNZ := hid hnz; have HNZ' := hid hnz'
  clear ih e1 hall hA hnk hna hTY hVA hFI hLA hnz hnz'
  cases b1 with
  | true =>
    go_enter Try.func86, Try.ntmps86
    go_wp2_with (first
      | ((with_reducible refine K.atO (.box 25 _) ?_); refine wpL_box rfl _ _ rfl _ rfl [.int .i64 fk, .slice k1 nk ck, .string TY, .string VA, .string FI, .slice a1 na ca, .string LA] rfl ?_; intro w1 HB1 F1 HS1)
      | ((with_reducible refine K.atO (.box 3 _) ?_); refine wpL_box rfl _ _ rfl _ rfl [.int .i64 (d : Int)] rfl ?_; intro w2 HB2 F2 HS2; have HF2 := hid (F1.out.trans' F2.out); have HB12 := hid (HB1.out.fr F2.out id); have c0 : w2.cell? ⟨w.heap.size, 0, none⟩ = some (.int .i64 fk) := HB12.out.cell 0; have c1 : w2.cell? ⟨w.heap.size, 1, none⟩ = some (.slice k1 nk ck) := HB12.out.cell 1)
      | fail)
    go_ret
    exact ⟨by simp, HF2.out⟩
  | false =>
  have hn0 : nk ≠ 0 := HNZ'.out rfl
  cases b2 with
  | false =>
    go_enter Try.func86, Try.ntmps86
    go_wp2_with (first
      | ((with_reducible refine K.atO (.box 25 _) ?_); refine wpL_box rfl _ _ rfl _ rfl [.int .i64 fk, .slice k1 nk ck, .string TY, .string VA, .string FI, .slice a1 na ca, .string LA] rfl ?_; intro w1 HB1 F1 HS1)
      | ((with_reducible refine K.atO (.box 3 _) ?_); refine wpL_box rfl _ _ rfl _ rfl [.int .i64 (d : Int)] rfl ?_; intro w2 HB2 F2 HS2; have HF2 := hid (F1.out.trans' F2.out); have HB12 := hid (HB1.out.fr F2.out id); have c0 : w2.cell? ⟨w.heap.size, 0, none⟩ = some (.int .i64 fk) := HB12.out.cell 0; have c1 : w2.cell? ⟨w.heap.size, 1, none⟩ = some (.slice k1 nk ck) := HB12.out.cell 1)
      | fail)
    refine (containsFl 92 [.pointer (some ⟨w1.heap.size, 0, none⟩)] (fun x => !rightF d x) (fun w x c => FlC M E w x c ∧ Blk w w1.heap.size 3 [.int .i64 (d : Int)]) E (.slice k1 nk ck) kids w2 (fun _ _ _ _ h hf => ⟨h.1.no hf, h.2.fr hf id⟩) (HKS.out.fr HF2.out (fun _ _ _ e => e) (fun x c _ h => ⟨h.no HF2.out, HB2.out⟩)) (fun vs w => by kernel_rfl) (fun x hx c wv hc _ => pkid_any d IH.out M E x c wv w1.heap.size hc.1 hc.2)).mono ?_
    rintro e w3 ⟨rfl, f3⟩
    rw [HALL.out]
    have HF3 := hid (HF2.out.trans' f3)
    clear f3
    go_wp2_with fail
    go_ret
    exact ⟨by cases A <;> rfl, HF3.out⟩
  | true =>
    by_cases h1 : nk = 1
    · have g3 : ¬ ((1 : Int) < nk) := by omega
      have e2 : decide (nk = 1) = true := by simpa using h1
      rw [e2]
      clear h1 e2
      go_enter Try.func86, Try.ntmps86
      go_wp2_with (first
        | ((with_reducible refine K.atO (.box 25 _) ?_); refine wpL_box rfl _ _ rfl _ rfl [.int .i64 fk, .slice k1 nk ck, .string TY, .string VA, .string FI, .slice a1 na ca, .string LA] rfl ?_; intro w1 HB1 F1 HS1)
        | ((with_reducible refine K.atO (.box 3 _) ?_); refine wpL_box rfl _ _ rfl _ rfl [.int .i64 (d : Int)] rfl ?_; intro w2 HB2 F2 HS2; have HF2 := hid (F1.out.trans' F2.out); have HB12 := hid (HB1.out.fr F2.out id); have c0 : w2.cell? ⟨w.heap.size, 0, none⟩ = some (.int .i64 fk) := HB12.out.cell 0; have c1 : w2.cell? ⟨w.heap.size, 1, none⟩ = some (.slice k1 nk ck) := HB12.out.cell 1)
        | fail)
      refine (containsFl 92 [.pointer (some ⟨w1.heap.size, 0, none⟩)] (fun x => !rightF d x) (fun w x c => FlC M E w x c ∧ Blk w w1.heap.size 3 [.int .i64 (d : Int)]) E (.slice k1 nk ck) kids w2 (fun _ _ _ _ h hf => ⟨h.1.no hf, h.2.fr hf id⟩) (HKS.out.fr HF2.out (fun _ _ _ e => e) (fun x c _ h => ⟨h.no HF2.out, HB2.out⟩)) (fun vs w => by kernel_rfl) (fun x hx c wv hc _ => pkid_any d IH.out M E x c wv w1.heap.size hc.1 hc.2)).mono ?_
      rintro e w3 ⟨rfl, f3⟩
      rw [HALL.out]
      have HF3 := hid (HF2.out.trans' f3)
      clear f3
      go_wp2_with fail
      go_ret
      exact ⟨by cases A <;> rfl, HF3.out⟩
    · have g3 : (1 : Int) < nk := by omega
      have e2 : decide (nk = 1) = false := by simpa using h1
      rw [e2]
      clear h1 e2
      go_enter Try.func86, Try.ntmps86
      go_wp2_with (first
        | ((with_reducible refine K.atO (.box 25 _) ?_); refine wpL_box rfl _ _ rfl _ rfl [.int .i64 fk, .slice k1 nk ck, .string TY, .string VA, .string FI, .slice a1 na ca, .string LA] rfl ?_; intro w1 HB1 F1 HS1)
        | ((with_reducible refine K.atO (.box 3 _) ?_); refine wpL_box rfl _ _ rfl _ rfl [.int .i64 (d : Int)] rfl ?_; intro w2 HB2 F2 HS2; have HF2 := hid (F1.out.trans' F2.out); have HB12 := hid (HB1.out.fr F2.out id); have c0 : w2.cell? ⟨w.heap.size, 0, none⟩ = some (.int .i64 fk) := HB12.out.cell 0; have c1 : w2.cell? ⟨w.heap.size, 1, none⟩ = some (.slice k1 nk ck) := HB12.out.cell 1)
        | fail)
      go_ret
      exact ⟨by simp, HF2.out⟩
def partsOk (f : Fl) : Bool := !(f.first.isEmpty && f.last.isEmpty && f.any.isEmpty) && f.any.all (fun a => !a.isEmpty)
set_option maxHeartbeats 8000000 in
theorem pparts_any (M : Nat) (E : Nat → Prop) (f : Fl) (cs : List Value) (w : World) (h : FlC M E w f cs) : Calls Try.prog 87 #[.agg cs.toArray] w fun e w' => e = .returned (.bool (partsOk f)) ∧ Fr No w w' := by
  obtain ⟨M, rfl⟩ := h.succ
  have H0 := hid h
  obtain ⟨vk, va, rfl, hi0, hz2, hz3, hz4, hz6, ht, hs⟩ := h
  obtain ⟨k1, ck, rfl, -, hkl⟩ := hs.form
  obtain ⟨a1, ca, rfl, -, hal⟩ := ht.form
  have HKS := hid hs; have HTX := hid ht
  obtain ⟨fk, kids, tyB, vaB, fiB, any, laB⟩ := f
  simp only [Fl.kind, Fl.kids, Fl.type, Fl.value, Fl.first, Fl.any, Fl.last] at hkl hal hi0 hz2 hz3 hz4 hz6 H0 HKS HTX ⊢
  have HSZ := hid (show I64 fk ∧ Sz tyB ∧ Sz vaB ∧ Sz fiB ∧ Sz laB from ⟨hi0, hz2, hz3, hz4, hz6⟩)
  clear ht hs hi0 hz2 hz3 hz4 hz6
  have e1 : partsOk (.mk fk kids tyB vaB fiB any laB) = (!(fiB.isEmpty && laB.isEmpty && any.isEmpty) && any.all (fun a => !a.isEmpty)) := rfl
  have hall : (any.any fun x => x.isEmpty) = !any.all (fun a => !a.isEmpty) := by rw [List.all_eq_not_any_not]; simp
  rw [e1]
  have g1 := sbE fiB
  have g2 := sbE laB
  obtain ⟨nk, hnk⟩ : ∃ n, kids.length = n := ⟨_, rfl⟩
  obtain ⟨na, hna⟩ : ∃ n, any.length = n := ⟨_, rfl⟩
  obtain ⟨TY, hTY⟩ : ∃ S, sb tyB = S := ⟨_, rfl⟩
  obtain ⟨VA, hVA⟩ : ∃ S, sb vaB = S := ⟨_, rfl⟩
  obtain ⟨FI, hFI⟩ : ∃ S, sb fiB = S := ⟨_, rfl⟩
  obtain ⟨LA, hLA⟩ : ∃ S, sb laB = S := ⟨_, rfl⟩
  rw [hnk] at hkl
  rw [hna] at hal
  rw [hnk, hna, hTY, hVA, hFI, hLA] at H0
  rw [hnk] at HKS
  rw [hna] at HTX
  rw [hnk, hna, hTY, hVA, hFI, hLA]
  have HNK := hid hnk; have HNA := hid hna; have HTY := hid hTY; have HVA := hid hVA; have HFI := hid hFI; have HLA := hid hLA
  have hkli : (nk : Int) ≤ 140737488351232 := by omega
  have hali : (na : Int) ≤ 140737488351232 := by omega
  obtain ⟨A, hA⟩ : ∃ A, any.all (fun a => !a.isEmpty) = A := ⟨_, rfl⟩
  rw [hA] at hall ⊢
  have HALL := hid hall
  rw [hFI] at g1
  rw [hLA] at g2
  have hnz : any.isEmpty = true → na = 0 := fun h => by rw [← hna, List.isEmpty_iff.1 h]; rfl
  have hnz' : any.isEmpty = false → na ≠ 0 := fun h e => by rw [e] at hna; rw [List.eq_nil_of_length_eq_zero hna] at h; cases h
  generalize any.isEmpty = b3 at hnz hnz' ⊢
  generalize fiB.isEmpty = b1 at g1 ⊢
  generalize laB.isEmpty = b2 at g2 ⊢
  clear e1 hall hA hnk hna hTY hVA hFI hLA
  cases b3 with
  | false =>
    have h3 : (0 : Int) < na := by have := hnz' rfl; omega
    have h3' : 0 < na := by have := hnz' rfl; omega
    clear hnz hnz'
    cases b1 with
    | false =>
      go_enter Try.func87, Try.ntmps87
      go_wp2_with (first
        | ((with_reducible refine K.atO (.box 25 _) ?_); refine wpL_box rfl _ _ rfl _ rfl [.int .i64 fk, .slice k1 nk ck, .string TY, .string VA, .string FI, .slice a1 na ca, .string LA] rfl ?_; intro w1 HB1 F1 HS1; have c4 : w1.cell? ⟨w.heap.size, 4, none⟩ = some (.string FI) := HB1.out.cell 4; have c5 : w1.cell? ⟨w.heap.size, 5, none⟩ = some (.slice a1 na ca) := HB1.out.cell 5; have c6 : w1.cell? ⟨w.heap.size, 6, none⟩ = some (.string LA) := HB1.out.cell 6)
        | fail)
      refine (containsTx E (.slice a1 na ca) any w1 (HTX.out.no F1.out)).mono ?_
      rintro e w3 ⟨rfl, f3⟩
      rw [HALL.out]
      have HF3 := hid (F1.out.trans' f3)
      clear f3
      go_wp2_with fail
      go_ret
      exact ⟨by first | (cases A <;> rfl) | (cases A <;> simp), HF3.out⟩
    | true =>
      go_enter Try.func87, Try.ntmps87
      go_wp2_with (first
        | ((with_reducible refine K.atO (.box 25 _) ?_); refine wpL_box rfl _ _ rfl _ rfl [.int .i64 fk, .slice k1 nk ck, .string TY, .string VA, .string FI, .slice a1 na ca, .string LA] rfl ?_; intro w1 HB1 F1 HS1; have c4 : w1.cell? ⟨w.heap.size, 4, none⟩ = some (.string FI) := HB1.out.cell 4; have c5 : w1.cell? ⟨w.heap.size, 5, none⟩ = some (.slice a1 na ca) := HB1.out.cell 5; have c6 : w1.cell? ⟨w.heap.size, 6, none⟩ = some (.string LA) := HB1.out.cell 6)
        | fail)
      refine (containsTx E (.slice a1 na ca) any w1 (HTX.out.no F1.out)).mono ?_
      rintro e w3 ⟨rfl, f3⟩
      rw [HALL.out]
      have HF3 := hid (F1.out.trans' f3)
      clear f3
      go_wp2_with fail
      go_ret
      exact ⟨by first | (cases A <;> rfl) | (cases A <;> simp), HF3.out⟩
  | true =>
    have h3 : ¬ ((0 : Int) < na) := by have := hnz rfl; omega
    have h3' : ¬ (0 < na) := by have := hnz rfl; omega
    clear hnz hnz'
    cases b1 with
    | false =>
      go_enter Try.func87, Try.ntmps87
      go_wp2_with (first
        | ((with_reducible refine K.atO (.box 25 _) ?_); refine wpL_box rfl _ _ rfl _ rfl [.int .i64 fk, .slice k1 nk ck, .string TY, .string VA, .string FI, .slice a1 na ca, .string LA] rfl ?_; intro w1 HB1 F1 HS1; have c4 : w1.cell? ⟨w.heap.size, 4, none⟩ = some (.string FI) := HB1.out.cell 4; have c5 : w1.cell? ⟨w.heap.size, 5, none⟩ = some (.slice a1 na ca) := HB1.out.cell 5; have c6 : w1.cell? ⟨w.heap.size, 6, none⟩ = some (.string LA) := HB1.out.cell 6)
        | fail)
      refine (containsTx E (.slice a1 na ca) any w1 (HTX.out.no F1.out)).mono ?_
      rintro e w3 ⟨rfl, f3⟩
      rw [HALL.out]
      have HF3 := hid (F1.out.trans' f3)
      clear f3
      go_wp2_with fail
      go_ret
      exact ⟨by first | (cases A <;> rfl) | (cases A <;> simp), HF3.out⟩
    | true =>
      cases b2 with
      | false =>
        go_enter Try.func87, Try.ntmps87
        go_wp2_with (first
          | ((with_reducible refine K.atO (.box 25 _) ?_); refine wpL_box rfl _ _ rfl _ rfl [.int .i64 fk, .slice k1 nk ck, .string TY, .string VA, .string FI, .slice a1 na ca, .string LA] rfl ?_; intro w1 HB1 F1 HS1; have c4 : w1.cell? ⟨w.heap.size, 4, none⟩ = some (.string FI) := HB1.out.cell 4; have c5 : w1.cell? ⟨w.heap.size, 5, none⟩ = some (.slice a1 na ca) := HB1.out.cell 5; have c6 : w1.cell? ⟨w.heap.size, 6, none⟩ = some (.string LA) := HB1.out.cell 6)
          | fail)
        refine (containsTx E (.slice a1 na ca) any w1 (HTX.out.no F1.out)).mono ?_
        rintro e w3 ⟨rfl, f3⟩
        rw [HALL.out]
        have HF3 := hid (F1.out.trans' f3)
        clear f3
        go_wp2_with fail
        go_ret
        exact ⟨by first | (cases A <;> rfl) | (cases A <;> simp), HF3.out⟩
      | true =>
        go_enter Try.func87, Try.ntmps87
        go_wp2_with (first
          | ((with_reducible refine K.atO (.box 25 _) ?_); refine wpL_box rfl _ _ rfl _ rfl [.int .i64 fk, .slice k1 nk ck, .string TY, .string VA, .string FI, .slice a1 na ca, .string LA] rfl ?_; intro w1 HB1 F1 HS1; have c4 : w1.cell? ⟨w.heap.size, 4, none⟩ = some (.string FI) := HB1.out.cell 4; have c5 : w1.cell? ⟨w.heap.size, 5, none⟩ = some (.slice a1 na ca) := HB1.out.cell 5; have c6 : w1.cell? ⟨w.heap.size, 6, none⟩ = some (.string LA) := HB1.out.cell 6)
          | fail)
        go_ret
        exact ⟨by simp, F1.out⟩
theorem infoI0 : (Try.prog.info? 3).map (·.size) = some 1 := by kernel_rfl
set_option maxHeartbeats 8000000 in
theorem prf_0z (M : Nat) (E : Nat → Prop) (f : Fl) (cs : List Value) (w : World) (h : FlC M E w f cs) (hk : f.kind = 0) : Calls Try.prog 64 #[.agg cs.toArray, .int .i64 ((0 : Nat) : Int)] w fun e w' => e = .returned (.bool (rightF 0 f)) ∧ Fr No w w' := by
  obtain ⟨M, rfl⟩ := h.succ
  have H0 := hid h
  obtain ⟨vk, va, rfl, hi0, hz2, hz3, hz4, hz6, ht, hs⟩ := h
  obtain ⟨k1, ck, rfl, -, hkl⟩ := hs.form
  obtain ⟨a1, ca, rfl, -, hal⟩ := ht.form
  have HKS := hid hs; have HTX := hid ht
  obtain ⟨fk, kids, tyB, vaB, fiB, any, laB⟩ := f
  simp only [Fl.kind, Fl.kids, Fl.type, Fl.value, Fl.first, Fl.any, Fl.last] at hkl hal hi0 hz2 hz3 hz4 hz6 H0 HKS HTX ⊢
  have HSZ := hid (show I64 fk ∧ Sz tyB ∧ Sz vaB ∧ Sz fiB ∧ Sz laB from ⟨hi0, hz2, hz3, hz4, hz6⟩)
  clear ht hs hi0 hz2 hz3 hz4 hz6
  have hk : fk = 0 := hk
  subst hk
  have hR : rightF 0 (.mk 0 kids tyB vaB fiB any laB) = false := rfl
  rw [hR]
  clear hR
  obtain ⟨nk, hnk⟩ : ∃ n, kids.length = n := ⟨_, rfl⟩
  obtain ⟨na, hna⟩ : ∃ n, any.length = n := ⟨_, rfl⟩
  obtain ⟨TY, hTY⟩ : ∃ S, sb tyB = S := ⟨_, rfl⟩
  obtain ⟨VA, hVA⟩ : ∃ S, sb vaB = S := ⟨_, rfl⟩
  obtain ⟨FI, hFI⟩ : ∃ S, sb fiB = S := ⟨_, rfl⟩
  obtain ⟨LA, hLA⟩ : ∃ S, sb laB = S := ⟨_, rfl⟩
  rw [hnk] at hkl
  rw [hna] at hal
  rw [hnk, hna, hTY, hVA, hFI, hLA] at H0
  rw [hnk] at HKS
  rw [hna] at HTX
  rw [hnk, hna, hTY, hVA, hFI, hLA]
  have HNK := hid hnk; have HNA := hid hna; have HTY := hid hTY; have HVA := hid hVA; have HFI := hid hFI; have HLA := hid hLA
  have hkli : (nk : Int) ≤ 140737488351232 := by omega
  have hali : (na : Int) ≤ 140737488351232 := by omega
  clear hnk hna hTY hVA hFI hLA
  go_enter Try.func64, Try.ntmps64
  go_wp2_with (first
    | ((with_reducible refine K.atO (.box 25 _) ?_); refine wpL_box rfl _ _ rfl _ rfl [.int .i64 0, .slice k1 nk ck, .string TY, .string VA, .string FI, .slice a1 na ca, .string LA] rfl ?_; intro w1 HB1 F1 HS1; have c0 : w1.cell? ⟨w.heap.size, 0, none⟩ = some (.int .i64 0) := HB1.out.cell 0; have c1 : w1.cell? ⟨w.heap.size, 1, none⟩ = some (.slice k1 nk ck) := HB1.out.cell 1; have c2 : w1.cell? ⟨w.heap.size, 2, none⟩ = some (.string TY) := HB1.out.cell 2; have c3 : w1.cell? ⟨w.heap.size, 3, none⟩ = some (.string VA) := HB1.out.cell 3; have c4 : w1.cell? ⟨w.heap.size, 4, none⟩ = some (.string FI) := HB1.out.cell 4; have c5 : w1.cell? ⟨w.heap.size, 5, none⟩ = some (.slice a1 na ca) := HB1.out.cell 5; have c6 : w1.cell? ⟨w.heap.size, 6, none⟩ = some (.string LA) := HB1.out.cell 6)
    | ((with_reducible refine K.atO (.store 22 _ _) ?_); (fail_if_success (have := HZ0)); refine wpL_setV rfl _ _ _ rfl w.heap.size 1 (.slice none 0 0) rfl rfl rfl rfl _ _ HB1.out (by simp) infoFs ?_; intro s0 HY0 FY0 HSY0; have HZ0 := HY0; have HW0 := hid (F1.out.trans FY0.out fun k e => .inr (by have e : k = w.heap.size := e; omega)))
    | ((with_reducible refine K.atO (.store 3 _ _) ?_); (fail_if_success (have := HZ1)); (have := HZ0); refine wpL_setV rfl _ _ _ rfl w.heap.size 0 (.int .i64 0) rfl rfl rfl rfl _ _ HZ0.out (by simp) infoI0 ?_; intro s1 HY1 FY1 HSY1; have HZ1 := HY1; have HW1 := hid (HW0.out.trans FY1.out fun k e => .inr (by have e : k = w.heap.size := e; omega)); have z0 : s1.cell? ⟨w.heap.size, 0, none⟩ = some (.int .i64 0) := HZ1.out.cell 0; have z1 : s1.cell? ⟨w.heap.size, 1, none⟩ = some (.slice none 0 0) := HZ1.out.cell 1; have z2 : s1.cell? ⟨w.heap.size, 2, none⟩ = some (.string TY) := HZ1.out.cell 2; have z3 : s1.cell? ⟨w.heap.size, 3, none⟩ = some (.string VA) := HZ1.out.cell 3; have z4 : s1.cell? ⟨w.heap.size, 4, none⟩ = some (.string FI) := HZ1.out.cell 4; have z5 : s1.cell? ⟨w.heap.size, 5, none⟩ = some (.slice a1 na ca) := HZ1.out.cell 5; have z6 : s1.cell? ⟨w.heap.size, 6, none⟩ = some (.string LA) := HZ1.out.cell 6)
    | fail)
  go_ret
  exact ⟨rfl, HW1.out⟩
set_option maxHeartbeats 8000000 in
theorem prf_0 (d : Nat) (hd1 : d ≤ 1000) (ih : prfOk d) (M : Nat) (E : Nat → Prop) (f : Fl) (cs : List Value) (w : World) (h : FlC M E w f cs) (hk : f.kind = 0) : Calls Try.prog 64 #[.agg cs.toArray, .int .i64 (((d + 1) : Nat) : Int)] w fun e w' => e = .returned (.bool (rightF (d + 1) f)) ∧ Fr No w w' := by
  obtain ⟨M, rfl⟩ := h.succ
  have H0 := hid h
  obtain ⟨vk, va, rfl, hi0, hz2, hz3, hz4, hz6, ht, hs⟩ := h
  obtain ⟨k1, ck, rfl, -, hkl⟩ := hs.form
  obtain ⟨a1, ca, rfl, -, hal⟩ := ht.form
  have HKS := hid hs; have HTX := hid ht
  obtain ⟨fk, kids, tyB, vaB, fiB, any, laB⟩ := f
  simp only [Fl.kind, Fl.kids, Fl.type, Fl.value, Fl.first, Fl.any, Fl.last] at hkl hal hi0 hz2 hz3 hz4 hz6 H0 HKS HTX ⊢
  have HSZ := hid (show I64 fk ∧ Sz tyB ∧ Sz vaB ∧ Sz fiB ∧ Sz laB from ⟨hi0, hz2, hz3, hz4, hz6⟩)
  clear ht hs hi0 hz2 hz3 hz4 hz6
  have hk : fk = 0 := hk
  subst hk
  have IH := hid ih
  clear ih
  have hR : rightF (d + 1) (.mk 0 kids tyB vaB fiB any laB) = (kidsOk d (.mk 0 kids tyB vaB fiB any laB) && emptyF (.mk 0 [] tyB vaB fiB any laB)) := by
    have ha : any.isEmpty = true → any.all (fun a => !a.isEmpty) = true := fun h => by rw [List.isEmpty_iff.1 h]; rfl
    have hc : kids.isEmpty = true → kids.all (rightF d) = true := fun h => by rw [List.isEmpty_iff.1 h]; rfl
    simp only [rightF, emptyF, kidsOk, partsOk, kidsK, valK, Fl.kind, Fl.kids, Fl.type, Fl.value, Fl.first, Fl.any, Fl.last]
    by_cases hl : kids.length = 1
    all_goals
     simp only [hl, decide_true, decide_false, Int.reduceEq, Bool.or_false, Bool.false_or, Bool.or_true, Bool.true_or, Bool.false_eq_true, if_false, if_true, List.isEmpty_nil]
     generalize any.all (fun a => !a.isEmpty) = x1 at ha ⊢
     generalize kids.all (rightF d) = x2 at hc ⊢
     generalize any.isEmpty = x3 at ha ⊢
     generalize kids.isEmpty = x4 at hc ⊢
     generalize tyB.isEmpty = x5
     generalize vaB.isEmpty = x6
     generalize fiB.isEmpty = x7
     generalize laB.isEmpty = x8
     revert ha hc
     revert x1 x2 x3 x4 x5 x6 x7 x8
     decide +kernel
  rw [hR]
  clear hR
  obtain ⟨KO, hKO⟩ : ∃ b, kidsOk d (.mk 0 kids tyB vaB fiB any laB) = b := ⟨_, rfl⟩
  rw [hKO]
  have HKO := hid hKO
  clear hKO
  obtain ⟨EO, hEO⟩ : ∃ b, emptyF (.mk 0 [] tyB vaB fiB any laB) = b := ⟨_, rfl⟩
  rw [hEO]
  have HEO := hid hEO
  clear hEO
  obtain ⟨nk, hnk⟩ : ∃ n, kids.length = n := ⟨_, rfl⟩
  obtain ⟨na, hna⟩ : ∃ n, any.length = n := ⟨_, rfl⟩
  obtain ⟨TY, hTY⟩ : ∃ S, sb tyB = S := ⟨_, rfl⟩
  obtain ⟨VA, hVA⟩ : ∃ S, sb vaB = S := ⟨_, rfl⟩
  obtain ⟨FI, hFI⟩ : ∃ S, sb fiB = S := ⟨_, rfl⟩
  obtain ⟨LA, hLA⟩ : ∃ S, sb laB = S := ⟨_, rfl⟩
  rw [hnk] at hkl
  rw [hna] at hal
  rw [hnk, hna, hTY, hVA, hFI, hLA] at H0
  rw [hnk] at HKS
  rw [hna] at HTX
  rw [hnk, hna, hTY, hVA, hFI, hLA]
  have HNK := hid hnk; have HNA := hid hna; have HTY := hid hTY; have HVA := hid hVA; have HFI := hid hFI; have HLA := hid hLA
  have hkli : (nk : Int) ≤ 140737488351232 := by omega
  have hali : (na : Int) ≤ 140737488351232 := by omega
  clear hnk hna hTY hVA hFI hLA
  go_enter Try.func64, Try.ntmps64
  have hd0 : (0 : Int) < ((d + 1 : Nat) : Int) := by omega
  have hd2 : (d : Int) ≤ 1000 := by omega
  have hd3 : (0 : Int) ≤ d := by omega
  go_wp2_with (first
    | ((with_reducible refine K.atO (.box 25 _) ?_); refine wpL_box rfl _ _ rfl _ rfl [.int .i64 0, .slice k1 nk ck, .string TY, .string VA, .string FI, .slice a1 na ca, .string LA] rfl ?_; intro w1 HB1 F1 HS1; have c0 : w1.cell? ⟨w.heap.size, 0, none⟩ = some (.int .i64 0) := HB1.out.cell 0; have c1 : w1.cell? ⟨w.heap.size, 1, none⟩ = some (.slice k1 nk ck) := HB1.out.cell 1; have c2 : w1.cell? ⟨w.heap.size, 2, none⟩ = some (.string TY) := HB1.out.cell 2; have c3 : w1.cell? ⟨w.heap.size, 3, none⟩ = some (.string VA) := HB1.out.cell 3; have c4 : w1.cell? ⟨w.heap.size, 4, none⟩ = some (.string FI) := HB1.out.cell 4; have c5 : w1.cell? ⟨w.heap.size, 5, none⟩ = some (.slice a1 na ca) := HB1.out.cell 5; have c6 : w1.cell? ⟨w.heap.size, 6, none⟩ = some (.string LA) := HB1.out.cell 6)
    | fail)
  refine (pkids_any d IH.out (M + 1) E (.mk 0 kids tyB vaB fiB any laB) [.int .i64 0, .slice k1 nk ck, .string TY, .string VA, .string FI, .slice a1 na ca, .string LA] w1 (H0.out.no F1.out)).mono ?_
  rintro e w2 ⟨rfl, f2⟩
  rw [HKO.out]
  have HF2 := hid (F1.out.trans' f2); have HB2 := hid (HB1.out.fr f2 id)
  clear f2 c0 c1 c2 c3 c4 c5 c6
  cases KO with
  | false =>
    go_wp2_with (first
      | ((with_reducible refine K.atO (.store 22 _ _) ?_); (fail_if_success (have := HZ0)); refine wpL_setV rfl _ _ _ rfl w.heap.size 1 (.slice none 0 0) rfl rfl rfl rfl _ _ HB2.out (by simp) infoFs ?_; intro s0 HY0 FY0 HSY0; have HZ0 := HY0; have HW0 := hid (HF2.out.trans FY0.out fun k e => .inr (by have e : k = w.heap.size := e; omega)))
      | ((with_reducible refine K.atO (.store 3 _ _) ?_); (fail_if_success (have := HZ1)); (have := HZ0); refine wpL_setV rfl _ _ _ rfl w.heap.size 0 (.int .i64 0) rfl rfl rfl rfl _ _ HZ0.out (by simp) infoI0 ?_; intro s1 HY1 FY1 HSY1; have HZ1 := HY1; have HW1 := hid (HW0.out.trans FY1.out fun k e => .inr (by have e : k = w.heap.size := e; omega)); have z0 : s1.cell? ⟨w.heap.size, 0, none⟩ = some (.int .i64 0) := HZ1.out.cell 0; have z1 : s1.cell? ⟨w.heap.size, 1, none⟩ = some (.slice none 0 0) := HZ1.out.cell 1; have z2 : s1.cell? ⟨w.heap.size, 2, none⟩ = some (.string TY) := HZ1.out.cell 2; have z3 : s1.cell? ⟨w.heap.size, 3, none⟩ = some (.string VA) := HZ1.out.cell 3; have z4 : s1.cell? ⟨w.heap.size, 4, none⟩ = some (.string FI) := HZ1.out.cell 4; have z5 : s1.cell? ⟨w.heap.size, 5, none⟩ = some (.slice a1 na ca) := HZ1.out.cell 5; have z6 : s1.cell? ⟨w.heap.size, 6, none⟩ = some (.string LA) := HZ1.out.cell 6)
      | fail)
    go_ret
    exact ⟨by simp, HW1.out⟩
  | true =>
    go_wp2_with (first
      | ((with_reducible refine K.atO (.store 22 _ _) ?_); (fail_if_success (have := HZ0)); refine wpL_setV rfl _ _ _ rfl w.heap.size 1 (.slice none 0 0) rfl rfl rfl rfl _ _ HB2.out (by simp) infoFs ?_; intro s0 HY0 FY0 HSY0; have HZ0 := HY0; have HW0 := hid (HF2.out.trans FY0.out fun k e => .inr (by have e : k = w.heap.size := e; omega)))
      | ((with_reducible refine K.atO (.store 3 _ _) ?_); (fail_if_success (have := HZ1)); (have := HZ0); refine wpL_setV rfl _ _ _ rfl w.heap.size 0 (.int .i64 0) rfl rfl rfl rfl _ _ HZ0.out (by simp) infoI0 ?_; intro s1 HY1 FY1 HSY1; have HZ1 := HY1; have HW1 := hid (HW0.out.trans FY1.out fun k e => .inr (by have e : k = w.heap.size := e; omega)); have z0 : s1.cell? ⟨w.heap.size, 0, none⟩ = some (.int .i64 0) := HZ1.out.cell 0; have z1 : s1.cell? ⟨w.heap.size, 1, none⟩ = some (.slice none 0 0) := HZ1.out.cell 1; have z2 : s1.cell? ⟨w.heap.size, 2, none⟩ = some (.string TY) := HZ1.out.cell 2; have z3 : s1.cell? ⟨w.heap.size, 3, none⟩ = some (.string VA) := HZ1.out.cell 3; have z4 : s1.cell? ⟨w.heap.size, 4, none⟩ = some (.string FI) := HZ1.out.cell 4; have z5 : s1.cell? ⟨w.heap.size, 5, none⟩ = some (.slice a1 na ca) := HZ1.out.cell 5; have z6 : s1.cell? ⟨w.heap.size, 6, none⟩ = some (.string LA) := HZ1.out.cell 6)
      | fail)
    refine (pempty_any (M + 1) E (.mk 0 [] tyB vaB fiB any laB) [.int .i64 0, .slice none 0 0, .string TY, .string VA, .string FI, .slice a1 na ca, .string LA] s1 (by
      refine ⟨_, _, ?_, i64z, (HSZ.out.2.1), (HSZ.out.2.2.1), (HSZ.out.2.2.2.1), (HSZ.out.2.2.2.2), HTX.out.no HW1.out, ⟨none, 0, rfl, Nat.le_refl _, by show (0 : Nat) ≤ _; omega, .inl rfl⟩⟩
      simp only [Fl.kind, Fl.kids, Fl.type, Fl.value, Fl.first, Fl.any, Fl.last, HTY.out, HVA.out, HFI.out, HLA.out]
      rfl)).mono ?_
    rintro e w9 ⟨rfl, f9⟩
    rw [HEO.out]
    have HF9 := hid (HW1.out.trans' f9)
    clear f9
    go_wp2_with fail
    go_ret
    exact ⟨by cases EO <;> rfl, HF9.out⟩
set_option maxHeartbeats 8000000 in
theorem prf_1z (M : Nat) (E : Nat → Prop) (f : Fl) (cs : List Value) (w : World) (h : FlC M E w f cs) (hk : f.kind = 1) : Calls Try.prog 64 #[.agg cs.toArray, .int .i64 ((0 : Nat) : Int)] w fun e w' => e = .returned (.bool (rightF 0 f)) ∧ Fr No w w' := by
  obtain ⟨M, rfl⟩ := h.succ
  have H0 := hid h
  obtain ⟨vk, va, rfl, hi0, hz2, hz3, hz4, hz6, ht, hs⟩ := h
  obtain ⟨k1, ck, rfl, -, hkl⟩ := hs.form
  obtain ⟨a1, ca, rfl, -, hal⟩ := ht.form
  have HKS := hid hs; have HTX := hid ht
  obtain ⟨fk, kids, tyB, vaB, fiB, any, laB⟩ := f
  simp only [Fl.kind, Fl.kids, Fl.type, Fl.value, Fl.first, Fl.any, Fl.last] at hkl hal hi0 hz2 hz3 hz4 hz6 H0 HKS HTX ⊢
  have HSZ := hid (show I64 fk ∧ Sz tyB ∧ Sz vaB ∧ Sz fiB ∧ Sz laB from ⟨hi0, hz2, hz3, hz4, hz6⟩)
  clear ht hs hi0 hz2 hz3 hz4 hz6
  have hk : fk = 1 := hk
  subst hk
  have hR : rightF 0 (.mk 1 kids tyB vaB fiB any laB) = false := rfl
  rw [hR]
  clear hR
  obtain ⟨nk, hnk⟩ : ∃ n, kids.length = n := ⟨_, rfl⟩
  obtain ⟨na, hna⟩ : ∃ n, any.length = n := ⟨_, rfl⟩
  obtain ⟨TY, hTY⟩ : ∃ S, sb tyB = S := ⟨_, rfl⟩
  obtain ⟨VA, hVA⟩ : ∃ S, sb vaB = S := ⟨_, rfl⟩
  obtain ⟨FI, hFI⟩ : ∃ S, sb fiB = S := ⟨_, rfl⟩
  obtain ⟨LA, hLA⟩ : ∃ S, sb laB = S := ⟨_, rfl⟩
  rw [hnk] at hkl
  rw [hna] at hal
  rw [hnk, hna, hTY, hVA, hFI, hLA] at H0
  rw [hnk] at HKS
  rw [hna] at HTX
  rw [hnk, hna, hTY, hVA, hFI, hLA]
  have HNK := hid hnk; have HNA := hid hna; have HTY := hid hTY; have HVA := hid hVA; have HFI := hid hFI; have HLA := hid hLA
  have hkli : (nk : Int) ≤ 140737488351232 := by omega
  have hali : (na : Int) ≤ 140737488351232 := by omega
  clear hnk hna hTY hVA hFI hLA
  go_enter Try.func64, Try.ntmps64
  go_wp2_with (first
    | ((with_reducible refine K.atO (.box 25 _) ?_); refine wpL_box rfl _ _ rfl _ rfl [.int .i64 1, .slice k1 nk ck, .string TY, .string VA, .string FI, .slice a1 na ca, .string LA] rfl ?_; intro w1 HB1 F1 HS1; have c0 : w1.cell? ⟨w.heap.size, 0, none⟩ = some (.int .i64 1) := HB1.out.cell 0; have c1 : w1.cell? ⟨w.heap.size, 1, none⟩ = some (.slice k1 nk ck) := HB1.out.cell 1; have c2 : w1.cell? ⟨w.heap.size, 2, none⟩ = some (.string TY) := HB1.out.cell 2; have c3 : w1.cell? ⟨w.heap.size, 3, none⟩ = some (.string VA) := HB1.out.cell 3; have c4 : w1.cell? ⟨w.heap.size, 4, none⟩ = some (.string FI) := HB1.out.cell 4; have c5 : w1.cell? ⟨w.heap.size, 5, none⟩ = some (.slice a1 na ca) := HB1.out.cell 5; have c6 : w1.cell? ⟨w.heap.size, 6, none⟩ = some (.string LA) := HB1.out.cell 6)
    | ((with_reducible refine K.atO (.store 22 _ _) ?_); (fail_if_success (have := HZ0)); refine wpL_setV rfl _ _ _ rfl w.heap.size 1 (.slice none 0 0) rfl rfl rfl rfl _ _ HB1.out (by simp) infoFs ?_; intro s0 HY0 FY0 HSY0; have HZ0 := HY0; have HW0 := hid (F1.out.trans FY0.out fun k e => .inr (by have e : k = w.heap.size := e; omega)))
    | ((with_reducible refine K.atO (.store 3 _ _) ?_); (fail_if_success (have := HZ1)); (have := HZ0); refine wpL_setV rfl _ _ _ rfl w.heap.size 0 (.int .i64 0) rfl rfl rfl rfl _ _ HZ0.out (by simp) infoI0 ?_; intro s1 HY1 FY1 HSY1; have HZ1 := HY1; have HW1 := hid (HW0.out.trans FY1.out fun k e => .inr (by have e : k = w.heap.size := e; omega)); have z0 : s1.cell? ⟨w.heap.size, 0, none⟩ = some (.int .i64 0) := HZ1.out.cell 0; have z1 : s1.cell? ⟨w.heap.size, 1, none⟩ = some (.slice none 0 0) := HZ1.out.cell 1; have z2 : s1.cell? ⟨w.heap.size, 2, none⟩ = some (.string TY) := HZ1.out.cell 2; have z3 : s1.cell? ⟨w.heap.size, 3, none⟩ = some (.string VA) := HZ1.out.cell 3; have z4 : s1.cell? ⟨w.heap.size, 4, none⟩ = some (.string FI) := HZ1.out.cell 4; have z5 : s1.cell? ⟨w.heap.size, 5, none⟩ = some (.slice a1 na ca) := HZ1.out.cell 5; have z6 : s1.cell? ⟨w.heap.size, 6, none⟩ = some (.string LA) := HZ1.out.cell 6)
    | fail)
  go_ret
  exact ⟨rfl, HW1.out⟩
set_option maxHeartbeats 8000000 in
theorem prf_1 (d : Nat) (hd1 : d ≤ 1000) (ih : prfOk d) (M : Nat) (E : Nat → Prop) (f : Fl) (cs : List Value) (w : World) (h : FlC M E w f cs) (hk : f.kind = 1) : Calls Try.prog 64 #[.agg cs.toArray, .int .i64 (((d + 1) : Nat) : Int)] w fun e w' => e = .returned (.bool (rightF (d + 1) f)) ∧ Fr No w w' := by
  obtain ⟨M, rfl⟩ := h.succ
  have H0 := hid h
  obtain ⟨vk, va, rfl, hi0, hz2, hz3, hz4, hz6, ht, hs⟩ := h
  obtain ⟨k1, ck, rfl, -, hkl⟩ := hs.form
  obtain ⟨a1, ca, rfl, -, hal⟩ := ht.form
  have HKS := hid hs; have HTX := hid ht
  obtain ⟨fk, kids, tyB, vaB, fiB, any, laB⟩ := f
  simp only [Fl.kind, Fl.kids, Fl.type, Fl.value, Fl.first, Fl.any, Fl.last] at hkl hal hi0 hz2 hz3 hz4 hz6 H0 HKS HTX ⊢
  have HSZ := hid (show I64 fk ∧ Sz tyB ∧ Sz vaB ∧ Sz fiB ∧ Sz laB from ⟨hi0, hz2, hz3, hz4, hz6⟩)
  clear ht hs hi0 hz2 hz3 hz4 hz6
  have hk : fk = 1 := hk
  subst hk
  have IH := hid ih
  clear ih
  have hR : rightF (d + 1) (.mk 1 kids tyB vaB fiB any laB) = (kidsOk d (.mk 1 kids tyB vaB fiB any laB) && emptyF (.mk 0 [] tyB vaB fiB any laB)) := by
    have ha : any.isEmpty = true → any.all (fun a => !a.isEmpty) = true := fun h => by rw [List.isEmpty_iff.1 h]; rfl
    have hc : kids.isEmpty = true → kids.all (rightF d) = true := fun h => by rw [List.isEmpty_iff.1 h]; rfl
    simp only [rightF, emptyF, kidsOk, partsOk, kidsK, valK, Fl.kind, Fl.kids, Fl.type, Fl.value, Fl.first, Fl.any, Fl.last]
    by_cases hl : kids.length = 1
    all_goals
     simp only [hl, decide_true, decide_false, Int.reduceEq, Bool.or_false, Bool.false_or, Bool.or_true, Bool.true_or, Bool.false_eq_true, if_false, if_true, List.isEmpty_nil]
     generalize any.all (fun a => !a.isEmpty) = x1 at ha ⊢
     generalize kids.all (rightF d) = x2 at hc ⊢
     generalize any.isEmpty = x3 at ha ⊢
     generalize kids.isEmpty = x4 at hc ⊢
     generalize tyB.isEmpty = x5
     generalize vaB.isEmpty = x6
     generalize fiB.isEmpty = x7
     generalize laB.isEmpty = x8
     revert ha hc
     revert x1 x2 x3 x4 x5 x6 x7 x8
     decide +kernel
  rw [hR]
  clear hR
  obtain ⟨KO, hKO⟩ : ∃ b, kidsOk d (.mk 1 kids tyB vaB fiB any laB) = b := ⟨_, rfl⟩
  rw [hKO]
  have HKO := hid hKO
  clear hKO
  obtain ⟨EO, hEO⟩ : ∃ b, emptyF (.mk 0 [] tyB vaB fiB any laB) = b := ⟨_, rfl⟩
  rw [hEO]
  have HEO := hid hEO
  clear hEO
  obtain ⟨nk, hnk⟩ : ∃ n, kids.length = n := ⟨_, rfl⟩
  obtain ⟨na, hna⟩ : ∃ n, any.length = n := ⟨_, rfl⟩
  obtain ⟨TY, hTY⟩ : ∃ S, sb tyB = S := ⟨_, rfl⟩
  obtain ⟨VA, hVA⟩ : ∃ S, sb vaB = S := ⟨_, rfl⟩
  obtain ⟨FI, hFI⟩ : ∃ S, sb fiB = S := ⟨_, rfl⟩
  obtain ⟨LA, hLA⟩ : ∃ S, sb laB = S := ⟨_, rfl⟩
  rw [hnk] at hkl
  rw [hna] at hal
  rw [hnk, hna, hTY, hVA, hFI, hLA] at H0
  rw [hnk] at HKS
  rw [hna] at HTX
  rw [hnk, hna, hTY, hVA, hFI, hLA]
  have HNK := hid hnk; have HNA := hid hna; have HTY := hid hTY; have HVA := hid hVA; have HFI := hid hFI; have HLA := hid hLA
  have hkli : (nk : Int) ≤ 140737488351232 := by omega
  have hali : (na : Int) ≤ 140737488351232 := by omega
  clear hnk hna hTY hVA hFI hLA
  go_enter Try.func64, Try.ntmps64
  have hd0 : (0 : Int) < ((d + 1 : Nat) : Int) := by omega
  have hd2 : (d : Int) ≤ 1000 := by omega
  have hd3 : (0 : Int) ≤ d := by omega
  go_wp2_with (first
    | ((with_reducible refine K.atO (.box 25 _) ?_); refine wpL_box rfl _ _ rfl _ rfl [.int .i64 1, .slice k1 nk ck, .string TY, .string VA, .string FI, .slice a1 na ca, .string LA] rfl ?_; intro w1 HB1 F1 HS1; have c0 : w1.cell? ⟨w.heap.size, 0, none⟩ = some (.int .i64 1) := HB1.out.cell 0; have c1 : w1.cell? ⟨w.heap.size, 1, none⟩ = some (.slice k1 nk ck) := HB1.out.cell 1; have c2 : w1.cell? ⟨w.heap.size, 2, none⟩ = some (.string TY) := HB1.out.cell 2; have c3 : w1.cell? ⟨w.heap.size, 3, none⟩ = some (.string VA) := HB1.out.cell 3; have c4 : w1.cell? ⟨w.heap.size, 4, none⟩ = some (.string FI) := HB1.out.cell 4; have c5 : w1.cell? ⟨w.heap.size, 5, none⟩ = some (.slice a1 na ca) := HB1.out.cell 5; have c6 : w1.cell? ⟨w.heap.size, 6, none⟩ = some (.string LA) := HB1.out.cell 6)
    | fail)
  refine (pkids_any d IH.out (M + 1) E (.mk 1 kids tyB vaB fiB any laB) [.int .i64 1, .slice k1 nk ck, .string TY, .string VA, .string FI, .slice a1 na ca, .string LA] w1 (H0.out.no F1.out)).mono ?_
  rintro e w2 ⟨rfl, f2⟩
  rw [HKO.out]
  have HF2 := hid (F1.out.trans' f2); have HB2 := hid (HB1.out.fr f2 id)
  clear f2 c0 c1 c2 c3 c4 c5 c6
  cases KO with
  | false =>
    go_wp2_with (first
      | ((with_reducible refine K.atO (.store 22 _ _) ?_); (fail_if_success (have := HZ0)); refine wpL_setV rfl _ _ _ rfl w.heap.size 1 (.slice none 0 0) rfl rfl rfl rfl _ _ HB2.out (by simp) infoFs ?_; intro s0 HY0 FY0 HSY0; have HZ0 := HY0; have HW0 := hid (HF2.out.trans FY0.out fun k e => .inr (by have e : k = w.heap.size := e; omega)))
      | ((with_reducible refine K.atO (.store 3 _ _) ?_); (fail_if_success (have := HZ1)); (have := HZ0); refine wpL_setV rfl _ _ _ rfl w.heap.size 0 (.int .i64 0) rfl rfl rfl rfl _ _ HZ0.out (by simp) infoI0 ?_; intro s1 HY1 FY1 HSY1; have HZ1 := HY1; have HW1 := hid (HW0.out.trans FY1.out fun k e => .inr (by have e : k = w.heap.size := e; omega)); have z0 : s1.cell? ⟨w.heap.size, 0, none⟩ = some (.int .i64 0) := HZ1.out.cell 0; have z1 : s1.cell? ⟨w.heap.size, 1, none⟩ = some (.slice none 0 0) := HZ1.out.cell 1; have z2 : s1.cell? ⟨w.heap.size, 2, none⟩ = some (.string TY) := HZ1.out.cell 2; have z3 : s1.cell? ⟨w.heap.size, 3, none⟩ = some (.string VA) := HZ1.out.cell 3; have z4 : s1.cell? ⟨w.heap.size, 4, none⟩ = some (.string FI) := HZ1.out.cell 4; have z5 : s1.cell? ⟨w.heap.size, 5, none⟩ = some (.slice a1 na ca) := HZ1.out.cell 5; have z6 : s1.cell? ⟨w.heap.size, 6, none⟩ = some (.string LA) := HZ1.out.cell 6)
      | fail)
    go_ret
    exact ⟨by simp, HW1.out⟩
  | true =>
    go_wp2_with (first
      | ((with_reducible refine K.atO (.store 22 _ _) ?_); (fail_if_success (have := HZ0)); refine wpL_setV rfl _ _ _ rfl w.heap.size 1 (.slice none 0 0) rfl rfl rfl rfl _ _ HB2.out (by simp) infoFs ?_; intro s0 HY0 FY0 HSY0; have HZ0 := HY0; have HW0 := hid (HF2.out.trans FY0.out fun k e => .inr (by have e : k = w.heap.size := e; omega)))
      | ((with_reducible refine K.atO (.store 3 _ _) ?_); (fail_if_success (have := HZ1)); (have := HZ0); refine wpL_setV rfl _ _ _ rfl w.heap.size 0 (.int .i64 0) rfl rfl rfl rfl _ _ HZ0.out (by simp) infoI0 ?_; intro s1 HY1 FY1 HSY1; have HZ1 := HY1; have HW1 := hid (HW0.out.trans FY1.out fun k e => .inr (by have e : k = w.heap.size := e; omega)); have z0 : s1.cell? ⟨w.heap.size, 0, none⟩ = some (.int .i64 0) := HZ1.out.cell 0; have z1 : s1.cell? ⟨w.heap.size, 1, none⟩ = some (.slice none 0 0) := HZ1.out.cell 1; have z2 : s1.cell? ⟨w.heap.size, 2, none⟩ = some (.string TY) := HZ1.out.cell 2; have z3 : s1.cell? ⟨w.heap.size, 3, none⟩ = some (.string VA) := HZ1.out.cell 3; have z4 : s1.cell? ⟨w.heap.size, 4, none⟩ = some (.string FI) := HZ1.out.cell 4; have z5 : s1.cell? ⟨w.heap.size, 5, none⟩ = some (.slice a1 na ca) := HZ1.out.cell 5; have z6 : s1.cell? ⟨w.heap.size, 6, none⟩ = some (.string LA) := HZ1.out.cell 6)
      | fail)
    refine (pempty_any (M + 1) E (.mk 0 [] tyB vaB fiB any laB) [.int .i64 0, .slice none 0 0, .string TY, .string VA, .string FI, .slice a1 na ca, .string LA] s1 (by
      refine ⟨_, _, ?_, i64z, (HSZ.out.2.1), (HSZ.out.2.2.1), (HSZ.out.2.2.2.1), (HSZ.out.2.2.2.2), HTX.out.no HW1.out, ⟨none, 0, rfl, Nat.le_refl _, by show (0 : Nat) ≤ _; omega, .inl rfl⟩⟩
      simp only [Fl.kind, Fl.kids, Fl.type, Fl.value, Fl.first, Fl.any, Fl.last, HTY.out, HVA.out, HFI.out, HLA.out]
      rfl)).mono ?_
    rintro e w9 ⟨rfl, f9⟩
    rw [HEO.out]
    have HF9 := hid (HW1.out.trans' f9)
    clear f9
    go_wp2_with fail
    go_ret
    exact ⟨by cases EO <;> rfl, HF9.out⟩
set_option maxHeartbeats 8000000 in
theorem prf_2z (M : Nat) (E : Nat → Prop) (f : Fl) (cs : List Value) (w : World) (h : FlC M E w f cs) (hk : f.kind = 2) : Calls Try.prog 64 #[.agg cs.toArray, .int .i64 ((0 : Nat) : Int)] w fun e w' => e = .returned (.bool (rightF 0 f)) ∧ Fr No w w' := by
  obtain ⟨M, rfl⟩ := h.succ
  have H0 := hid h
  obtain ⟨vk, va, rfl, hi0, hz2, hz3, hz4, hz6, ht, hs⟩ := h
  obtain ⟨k1, ck, rfl, -, hkl⟩ := hs.form
  obtain ⟨a1, ca, rfl, -, hal⟩ := ht.form
  have HKS := hid hs; have HTX := hid ht
  obtain ⟨fk, kids, tyB, vaB, fiB, any, laB⟩ := f
  simp only [Fl.kind, Fl.kids, Fl.type, Fl.value, Fl.first, Fl.any, Fl.last] at hkl hal hi0 hz2 hz3 hz4 hz6 H0 HKS HTX ⊢
  have HSZ := hid (show I64 fk ∧ Sz tyB ∧ Sz vaB ∧ Sz fiB ∧ Sz laB from ⟨hi0, hz2, hz3, hz4, hz6⟩)
  clear ht hs hi0 hz2 hz3 hz4 hz6
  have hk : fk = 2 := hk
  subst hk
  have hR : rightF 0 (.mk 2 kids tyB vaB fiB any laB) = false := rfl
  rw [hR]
  clear hR
  obtain ⟨nk, hnk⟩ : ∃ n, kids.length = n := ⟨_, rfl⟩
  obtain ⟨na, hna⟩ : ∃ n, any.length = n := ⟨_, rfl⟩
  obtain ⟨TY, hTY⟩ : ∃ S, sb tyB = S := ⟨_, rfl⟩
  obtain ⟨VA, hVA⟩ : ∃ S, sb vaB = S := ⟨_, rfl⟩
  obtain ⟨FI, hFI⟩ : ∃ S, sb fiB = S := ⟨_, rfl⟩
  obtain ⟨LA, hLA⟩ : ∃ S, sb laB = S := ⟨_, rfl⟩
  rw [hnk] at hkl
  rw [hna] at hal
  rw [hnk, hna, hTY, hVA, hFI, hLA] at H0
  rw [hnk] at HKS
  rw [hna] at HTX
  rw [hnk, hna, hTY, hVA, hFI, hLA]
  have HNK := hid hnk; have HNA := hid hna; have HTY := hid hTY; have HVA := hid hVA; have HFI := hid hFI; have HLA := hid hLA
  have hkli : (nk : Int) ≤ 140737488351232 := by omega
  have hali : (na : Int) ≤ 140737488351232 := by omega
  clear hnk hna hTY hVA hFI hLA
  go_enter Try.func64, Try.ntmps64
  go_wp2_with (first
    | ((with_reducible refine K.atO (.box 25 _) ?_); refine wpL_box rfl _ _ rfl _ rfl [.int .i64 2, .slice k1 nk ck, .string TY, .string VA, .string FI, .slice a1 na ca, .string LA] rfl ?_; intro w1 HB1 F1 HS1; have c0 : w1.cell? ⟨w.heap.size, 0, none⟩ = some (.int .i64 2) := HB1.out.cell 0; have c1 : w1.cell? ⟨w.heap.size, 1, none⟩ = some (.slice k1 nk ck) := HB1.out.cell 1; have c2 : w1.cell? ⟨w.heap.size, 2, none⟩ = some (.string TY) := HB1.out.cell 2; have c3 : w1.cell? ⟨w.heap.size, 3, none⟩ = some (.string VA) := HB1.out.cell 3; have c4 : w1.cell? ⟨w.heap.size, 4, none⟩ = some (.string FI) := HB1.out.cell 4; have c5 : w1.cell? ⟨w.heap.size, 5, none⟩ = some (.slice a1 na ca) := HB1.out.cell 5; have c6 : w1.cell? ⟨w.heap.size, 6, none⟩ = some (.string LA) := HB1.out.cell 6)
    | ((with_reducible refine K.atO (.store 22 _ _) ?_); (fail_if_success (have := HZ0)); refine wpL_setV rfl _ _ _ rfl w.heap.size 1 (.slice none 0 0) rfl rfl rfl rfl _ _ HB1.out (by simp) infoFs ?_; intro s0 HY0 FY0 HSY0; have HZ0 := HY0; have HW0 := hid (F1.out.trans FY0.out fun k e => .inr (by have e : k = w.heap.size := e; omega)))
    | ((with_reducible refine K.atO (.store 3 _ _) ?_); (fail_if_success (have := HZ1)); (have := HZ0); refine wpL_setV rfl _ _ _ rfl w.heap.size 0 (.int .i64 0) rfl rfl rfl rfl _ _ HZ0.out (by simp) infoI0 ?_; intro s1 HY1 FY1 HSY1; have HZ1 := HY1; have HW1 := hid (HW0.out.trans FY1.out fun k e => .inr (by have e : k = w.heap.size := e; omega)); have z0 : s1.cell? ⟨w.heap.size, 0, none⟩ = some (.int .i64 0) := HZ1.out.cell 0; have z1 : s1.cell? ⟨w.heap.size, 1, none⟩ = some (.slice none 0 0) := HZ1.out.cell 1; have z2 : s1.cell? ⟨w.heap.size, 2, none⟩ = some (.string TY) := HZ1.out.cell 2; have z3 : s1.cell? ⟨w.heap.size, 3, none⟩ = some (.string VA) := HZ1.out.cell 3; have z4 : s1.cell? ⟨w.heap.size, 4, none⟩ = some (.string FI) := HZ1.out.cell 4; have z5 : s1.cell? ⟨w.heap.size, 5, none⟩ = some (.slice a1 na ca) := HZ1.out.cell 5; have z6 : s1.cell? ⟨w.heap.size, 6, none⟩ = some (.string LA) := HZ1.out.cell 6)
    | fail)
  go_ret
  exact ⟨rfl, HW1.out⟩
set_option maxHeartbeats 8000000 in
theorem prf_2 (d : Nat) (hd1 : d ≤ 1000) (ih : prfOk d) (M : Nat) (E : Nat → Prop) (f : Fl) (cs : List Value) (w : World) (h : FlC M E w f cs) (hk : f.kind = 2) : Calls Try.prog 64 #[.agg cs.toArray, .int .i64 (((d + 1) : Nat) : Int)] w fun e w' => e = .returned (.bool (rightF (d + 1) f)) ∧ Fr No w w' := by
  obtain ⟨M, rfl⟩ := h.succ
  have H0 := hid h
  obtain ⟨vk, va, rfl, hi0, hz2, hz3, hz4, hz6, ht, hs⟩ := h
  obtain ⟨k1, ck, rfl, -, hkl⟩ := hs.form
  obtain ⟨a1, ca, rfl, -, hal⟩ := ht.form
  have HKS := hid hs; have HTX := hid ht
  obtain ⟨fk, kids, tyB, vaB, fiB, any, laB⟩ := f
  simp only [Fl.kind, Fl.kids, Fl.type, Fl.value, Fl.first, Fl.any, Fl.last] at hkl hal hi0 hz2 hz3 hz4 hz6 H0 HKS HTX ⊢
  have HSZ := hid (show I64 fk ∧ Sz tyB ∧ Sz vaB ∧ Sz fiB ∧ Sz laB from ⟨hi0, hz2, hz3, hz4, hz6⟩)
  clear ht hs hi0 hz2 hz3 hz4 hz6
  have hk : fk = 2 := hk
  subst hk
  have IH := hid ih
  clear ih
  have hR : rightF (d + 1) (.mk 2 kids tyB vaB fiB any laB) = (kidsOk d (.mk 2 kids tyB vaB fiB any laB) && emptyF (.mk 0 [] tyB vaB fiB any laB)) := by
    have ha : any.isEmpty = true → any.all (fun a => !a.isEmpty) = true := fun h => by rw [List.isEmpty_iff.1 h]; rfl
    have hc : kids.isEmpty = true → kids.all (rightF d) = true := fun h => by rw [List.isEmpty_iff.1 h]; rfl
    simp only [rightF, emptyF, kidsOk, partsOk, kidsK, valK, Fl.kind, Fl.kids, Fl.type, Fl.value, Fl.first, Fl.any, Fl.last]
    by_cases hl : kids.length = 1
    all_goals
     simp only [hl, decide_true, decide_false, Int.reduceEq, Bool.or_false, Bool.false_or, Bool.or_true, Bool.true_or, Bool.false_eq_true, if_false, if_true, List.isEmpty_nil]
     generalize any.all (fun a => !a.isEmpty) = x1 at ha ⊢
     generalize kids.all (rightF d) = x2 at hc ⊢
     generalize any.isEmpty = x3 at ha ⊢
     generalize kids.isEmpty = x4 at hc ⊢
     generalize tyB.isEmpty = x5
     generalize vaB.isEmpty = x6
     generalize fiB.isEmpty = x7
     generalize laB.isEmpty = x8
     revert ha hc
     revert x1 x2 x3 x4 x5 x6 x7 x8
     decide +kernel
  rw [hR]
  clear hR
  obtain ⟨KO, hKO⟩ : ∃ b, kidsOk d (.mk 2 kids tyB vaB fiB any laB) = b := ⟨_, rfl⟩
  rw [hKO]
  have HKO := hid hKO
  clear hKO
  obtain ⟨EO, hEO⟩ : ∃ b, emptyF (.mk 0 [] tyB vaB fiB any laB) = b := ⟨_, rfl⟩
  rw [hEO]
  have HEO := hid hEO
  clear hEO
  obtain ⟨nk, hnk⟩ : ∃ n, kids.length = n := ⟨_, rfl⟩
  obtain ⟨na, hna⟩ : ∃ n, any.length = n := ⟨_, rfl⟩
  obtain ⟨TY, hTY⟩ : ∃ S, sb tyB = S := ⟨_, rfl⟩
  obtain ⟨VA, hVA⟩ : ∃ S, sb vaB = S := ⟨_, rfl⟩
  obtain ⟨FI, hFI⟩ : ∃ S, sb fiB = S := ⟨_, rfl⟩
  obtain ⟨LA, hLA⟩ : ∃ S, sb laB = S := ⟨_, rfl⟩
  rw [hnk] at hkl
  rw [hna] at hal
  rw [hnk, hna, hTY, hVA, hFI, hLA] at H0
  rw [hnk] at HKS
  rw [hna] at HTX
  rw [hnk, hna, hTY, hVA, hFI, hLA]
  have HNK := hid hnk; have HNA := hid hna; have HTY := hid hTY; have HVA := hid hVA; have HFI := hid hFI; have HLA := hid hLA
  have hkli : (nk : Int) ≤ 140737488351232 := by omega
  have hali : (na : Int) ≤ 140737488351232 := by omega
  clear hnk hna hTY hVA hFI hLA
  go_enter Try.func64, Try.ntmps64
  have hd0 : (0 : Int) < ((d + 1 : Nat) : Int) := by omega
  have hd2 : (d : Int) ≤ 1000 := by omega
  have hd3 : (0 : Int) ≤ d := by omega
  go_wp2_with (first
    | ((with_reducible refine K.atO (.box 25 _) ?_); refine wpL_box rfl _ _ rfl _ rfl [.int .i64 2, .slice k1 nk ck, .string TY, .string VA, .string FI, .slice a1 na ca, .string LA] rfl ?_; intro w1 HB1 F1 HS1; have c0 : w1.cell? ⟨w.heap.size, 0, none⟩ = some (.int .i64 2) := HB1.out.cell 0; have c1 : w1.cell? ⟨w.heap.size, 1, none⟩ = some (.slice k1 nk ck) := HB1.out.cell 1; have c2 : w1.cell? ⟨w.heap.size, 2, none⟩ = some (.string TY) := HB1.out.cell 2; have c3 : w1.cell? ⟨w.heap.size, 3, none⟩ = some (.string VA) := HB1.out.cell 3; have c4 : w1.cell? ⟨w.heap.size, 4, none⟩ = some (.string FI) := HB1.out.cell 4; have c5 : w1.cell? ⟨w.heap.size, 5, none⟩ = some (.slice a1 na ca) := HB1.out.cell 5; have c6 : w1.cell? ⟨w.heap.size, 6, none⟩ = some (.string LA) := HB1.out.cell 6)
    | fail)
  refine (pkids_any d IH.out (M + 1) E (.mk 2 kids tyB vaB fiB any laB) [.int .i64 2, .slice k1 nk ck, .string TY, .string VA, .string FI, .slice a1 na ca, .string LA] w1 (H0.out.no F1.out)).mono ?_
  rintro e w2 ⟨rfl, f2⟩
  rw [HKO.out]
  have HF2 := hid (F1.out.trans' f2); have HB2 := hid (HB1.out.fr f2 id)
  clear f2 c0 c1 c2 c3 c4 c5 c6
  cases KO with
  | false =>
    go_wp2_with (first
      | ((with_reducible refine K.atO (.store 22 _ _) ?_); (fail_if_success (have := HZ0)); refine wpL_setV rfl _ _ _ rfl w.heap.size 1 (.slice none 0 0) rfl rfl rfl rfl _ _ HB2.out (by simp) infoFs ?_; intro s0 HY0 FY0 HSY0; have HZ0 := HY0; have HW0 := hid (HF2.out.trans FY0.out fun k e => .inr (by have e : k = w.heap.size := e; omega)))
      | ((with_reducible refine K.atO (.store 3 _ _) ?_); (fail_if_success (have := HZ1)); (have := HZ0); refine wpL_setV rfl _ _ _ rfl w.heap.size 0 (.int .i64 0) rfl rfl rfl rfl _ _ HZ0.out (by simp) infoI0 ?_; intro s1 HY1 FY1 HSY1; have HZ1 := HY1; have HW1 := hid (HW0.out.trans FY1.out fun k e => .inr (by have e : k = w.heap.size := e; omega)); have z0 : s1.cell? ⟨w.heap.size, 0, none⟩ = some (.int .i64 0) := HZ1.out.cell 0; have z1 : s1.cell? ⟨w.heap.size, 1, none⟩ = some (.slice none 0 0) := HZ1.out.cell 1; have z2 : s1.cell? ⟨w.heap.size, 2, none⟩ = some (.string TY) := HZ1.out.cell 2; have z3 : s1.cell? ⟨w.heap.size, 3, none⟩ = some (.string VA) := HZ1.out.cell 3; have z4 : s1.cell? ⟨w.heap.size, 4, none⟩ = some (.string FI) := HZ1.out.cell 4; have z5 : s1.cell? ⟨w.heap.size, 5, none⟩ = some (.slice a1 na ca) := HZ1.out.cell 5; have z6 : s1.cell? ⟨w.heap.size, 6, none⟩ = some (.string LA) := HZ1.out.cell 6)
      | fail)
    go_ret
    exact ⟨by simp, HW1.out⟩
  | true =>
    go_wp2_with (first
      | ((with_reducible refine K.atO (.store 22 _ _) ?_); (fail_if_success (have := HZ0)); refine wpL_setV rfl _ _ _ rfl w.heap.size 1 (.slice none 0 0) rfl rfl rfl rfl _ _ HB2.out (by simp) infoFs ?_; intro s0 HY0 FY0 HSY0; have HZ0 := HY0; have HW0 := hid (HF2.out.trans FY0.out fun k e => .inr (by have e : k = w.heap.size := e; omega)))
      | ((with_reducible refine K.atO (.store 3 _ _) ?_); (fail_if_success (have := HZ1)); (have := HZ0); refine wpL_setV rfl _ _ _ rfl w.heap.size 0 (.int .i64 0) rfl rfl rfl rfl _ _ HZ0.out (by simp) infoI0 ?_; intro s1 HY1 FY1 HSY1; have HZ1 := HY1; have HW1 := hid (HW0.out.trans FY1.out fun k e => .inr (by have e : k = w.heap.size := e; omega)); have z0 : s1.cell? ⟨w.heap.size, 0, none⟩ = some (.int .i64 0) := HZ1.out.cell 0; have z1 : s1.cell? ⟨w.heap.size, 1, none⟩ = some (.slice none 0 0) := HZ1.out.cell 1; have z2 : s1.cell? ⟨w.heap.size, 2, none⟩ = some (.string TY) := HZ1.out.cell 2; have z3 : s1.cell? ⟨w.heap.size, 3, none⟩ = some (.string VA) := HZ1.out.cell 3; have z4 : s1.cell? ⟨w.heap.size, 4, none⟩ = some (.string FI) := HZ1.out.cell 4; have z5 : s1.cell? ⟨w.heap.size, 5, none⟩ = some (.slice a1 na ca) := HZ1.out.cell 5; have z6 : s1.cell? ⟨w.heap.size, 6, none⟩ = some (.string LA) := HZ1.out.cell 6)
      | fail)
    refine (pempty_any (M + 1) E (.mk 0 [] tyB vaB fiB any laB) [.int .i64 0, .slice none 0 0, .string TY, .string VA, .string FI, .slice a1 na ca, .string LA] s1 (by
      refine ⟨_, _, ?_, i64z, (HSZ.out.2.1), (HSZ.out.2.2.1), (HSZ.out.2.2.2.1), (HSZ.out.2.2.2.2), HTX.out.no HW1.out, ⟨none, 0, rfl, Nat.le_refl _, by show (0 : Nat) ≤ _; omega, .inl rfl⟩⟩
      simp only [Fl.kind, Fl.kids, Fl.type, Fl.value, Fl.first, Fl.any, Fl.last, HTY.out, HVA.out, HFI.out, HLA.out]
      rfl)).mono ?_
    rintro e w9 ⟨rfl, f9⟩
    rw [HEO.out]
    have HF9 := hid (HW1.out.trans' f9)
    clear f9
    go_wp2_with fail
    go_ret
    exact ⟨by cases EO <;> rfl, HF9.out⟩
set_option maxHeartbeats 8000000 in
theorem prf_3z (M : Nat) (E : Nat → Prop) (f : Fl) (cs : List Value) (w : World) (h : FlC M E w f cs) (hk : f.kind = 3) : Calls Try.prog 64 #[.agg cs.toArray, .int .i64 ((0 : Nat) : Int)] w fun e w' => e = .returned (.bool (rightF 0 f)) ∧ Fr No w w' := by
  obtain ⟨M, rfl⟩ := h.succ
  have H0 := hid h
  obtain ⟨vk, va, rfl, hi0, hz2, hz3, hz4, hz6, ht, hs⟩ := h
  obtain ⟨k1, ck, rfl, -, hkl⟩ := hs.form
  obtain ⟨a1, ca, rfl, -, hal⟩ := ht.form
  have HKS := hid hs; have HTX := hid ht
  obtain ⟨fk, kids, tyB, vaB, fiB, any, laB⟩ := f
  simp only [Fl.kind, Fl.kids, Fl.type, Fl.value, Fl.first, Fl.any, Fl.last] at hkl hal hi0 hz2 hz3 hz4 hz6 H0 HKS HTX ⊢
  have HSZ := hid (show I64 fk ∧ Sz tyB ∧ Sz vaB ∧ Sz fiB ∧ Sz laB from ⟨hi0, hz2, hz3, hz4, hz6⟩)
  clear ht hs hi0 hz2 hz3 hz4 hz6
  have hk : fk = 3 := hk
  subst hk
  have hR : rightF 0 (.mk 3 kids tyB vaB fiB any laB) = false := rfl
  rw [hR]
  clear hR
  obtain ⟨nk, hnk⟩ : ∃ n, kids.length = n := ⟨_, rfl⟩
  obtain ⟨na, hna⟩ : ∃ n, any.length = n := ⟨_, rfl⟩
  obtain ⟨TY, hTY⟩ : ∃ S, sb tyB = S := ⟨_, rfl⟩
  obtain ⟨VA, hVA⟩ : ∃ S, sb vaB = S := ⟨_, rfl⟩
  obtain ⟨FI, hFI⟩ : ∃ S, sb fiB = S := ⟨_, rfl⟩
  obtain ⟨LA, hLA⟩ : ∃ S, sb laB = S := ⟨_, rfl⟩
  rw [hnk] at hkl
  rw [hna] at hal
  rw [hnk, hna, hTY, hVA, hFI, hLA] at H0
  rw [hnk] at HKS
  rw [hna] at HTX
  rw [hnk, hna, hTY, hVA, hFI, hLA]
  have HNK := hid hnk; have HNA := hid hna; have HTY := hid hTY; have HVA := hid hVA; have HFI := hid hFI; have HLA := hid hLA
  have hkli : (nk : Int) ≤ 140737488351232 := by omega
  have hali : (na : Int) ≤ 140737488351232 := by omega
  clear hnk hna hTY hVA hFI hLA
  go_enter Try.func64, Try.ntmps64
  go_wp2_with (first
    | ((with_reducible refine K.atO (.box 25 _) ?_); refine wpL_box rfl _ _ rfl _ rfl [.int .i64 3, .slice k1 nk ck, .string TY, .string VA, .string FI, .slice a1 na ca, .string LA] rfl ?_; intro w1 HB1 F1 HS1; have c0 : w1.cell? ⟨w.heap.size, 0, none⟩ = some (.int .i64 3) := HB1.out.cell 0; have c1 : w1.cell? ⟨w.heap.size, 1, none⟩ = some (.slice k1 nk ck) := HB1.out.cell 1; have c2 : w1.cell? ⟨w.heap.size, 2, none⟩ = some (.string TY) := HB1.out.cell 2; have c3 : w1.cell? ⟨w.heap.size, 3, none⟩ = some (.string VA) := HB1.out.cell 3; have c4 : w1.cell? ⟨w.heap.size, 4, none⟩ = some (.string FI) := HB1.out.cell 4; have c5 : w1.cell? ⟨w.heap.size, 5, none⟩ = some (.slice a1 na ca) := HB1.out.cell 5; have c6 : w1.cell? ⟨w.heap.size, 6, none⟩ = some (.string LA) := HB1.out.cell 6)
    | ((with_reducible refine K.atO (.store 9 _ _) ?_); (fail_if_success (have := HZ0)); refine wpL_setV rfl _ _ _ rfl w.heap.size 2 (.string ⟨#[]⟩) rfl rfl rfl rfl _ _ HB1.out (by simp) infoS ?_; intro s0 HY0 FY0 HSY0; have HZ0 := HY0; have HW0 := hid (F1.out.trans FY0.out fun k e => .inr (by have e : k = w.heap.size := e; omega)))
    | ((with_reducible refine K.atO (.store 9 _ _) ?_); (fail_if_success (have := HZ1)); (have := HZ0); refine wpL_setV rfl _ _ _ rfl w.heap.size 3 (.string ⟨#[]⟩) rfl rfl rfl rfl _ _ HZ0.out (by simp) infoS ?_; intro s1 HY1 FY1 HSY1; have HZ1 := HY1; have HW1 := hid (HW0.out.trans FY1.out fun k e => .inr (by have e : k = w.heap.size := e; omega)))
    | ((with_reducible refine K.atO (.store 3 _ _) ?_); (fail_if_success (have := HZ2)); (have := HZ1); refine wpL_setV rfl _ _ _ rfl w.heap.size 0 (.int .i64 0) rfl rfl rfl rfl _ _ HZ1.out (by simp) infoI0 ?_; intro s2 HY2 FY2 HSY2; have HZ2 := HY2; have HW2 := hid (HW1.out.trans FY2.out fun k e => .inr (by have e : k = w.heap.size := e; omega)); have z0 : s2.cell? ⟨w.heap.size, 0, none⟩ = some (.int .i64 0) := HZ2.out.cell 0; have z1 : s2.cell? ⟨w.heap.size, 1, none⟩ = some (.slice k1 nk ck) := HZ2.out.cell 1; have z2 : s2.cell? ⟨w.heap.size, 2, none⟩ = some (.string ⟨#[]⟩) := HZ2.out.cell 2; have z3 : s2.cell? ⟨w.heap.size, 3, none⟩ = some (.string ⟨#[]⟩) := HZ2.out.cell 3; have z4 : s2.cell? ⟨w.heap.size, 4, none⟩ = some (.string FI) := HZ2.out.cell 4; have z5 : s2.cell? ⟨w.heap.size, 5, none⟩ = some (.slice a1 na ca) := HZ2.out.cell 5; have z6 : s2.cell? ⟨w.heap.size, 6, none⟩ = some (.string LA) := HZ2.out.cell 6)
    | fail)
  go_ret
  exact ⟨rfl, HW2.out⟩
set_option maxHeartbeats 8000000 in
theorem prf_3 (d : Nat) (hd1 : d ≤ 1000) (ih : prfOk d) (M : Nat) (E : Nat → Prop) (f : Fl) (cs : List Value) (w : World) (h : FlC M E w f cs) (hk : f.kind = 3) : Calls Try.prog 64 #[.agg cs.toArray, .int .i64 (((d + 1) : Nat) : Int)] w fun e w' => e = .returned (.bool (rightF (d + 1) f)) ∧ Fr No w w' := by
  obtain ⟨M, rfl⟩ := h.succ
  have H0 := hid h
  obtain ⟨vk, va, rfl, hi0, hz2, hz3, hz4, hz6, ht, hs⟩ := h
  obtain ⟨k1, ck, rfl, -, hkl⟩ := hs.form
  obtain ⟨a1, ca, rfl, -, hal⟩ := ht.form
  have HKS := hid hs; have HTX := hid ht
  obtain ⟨fk, kids, tyB, vaB, fiB, any, laB⟩ := f
  simp only [Fl.kind, Fl.kids, Fl.type, Fl.value, Fl.first, Fl.any, Fl.last] at hkl hal hi0 hz2 hz3 hz4 hz6 H0 HKS HTX ⊢
  have HSZ := hid (show I64 fk ∧ Sz tyB ∧ Sz vaB ∧ Sz fiB ∧ Sz laB from ⟨hi0, hz2, hz3, hz4, hz6⟩)
  clear ht hs hi0 hz2 hz3 hz4 hz6
  have hk : fk = 3 := hk
  subst hk
  have IH := hid ih
  clear ih
  have hR : rightF (d + 1) (.mk 3 kids tyB vaB fiB any laB) = (emptyF (.mk 0 kids [] [] fiB any laB)) := by
    have ha : any.isEmpty = true → any.all (fun a => !a.isEmpty) = true := fun h => by rw [List.isEmpty_iff.1 h]; rfl
    have hc : kids.isEmpty = true → kids.all (rightF d) = true := fun h => by rw [List.isEmpty_iff.1 h]; rfl
    simp only [rightF, emptyF, kidsOk, partsOk, kidsK, valK, Fl.kind, Fl.kids, Fl.type, Fl.value, Fl.first, Fl.any, Fl.last]
    by_cases hl : kids.length = 1
    all_goals
     simp only [hl, decide_true, decide_false, Int.reduceEq, Bool.or_false, Bool.false_or, Bool.or_true, Bool.true_or, Bool.false_eq_true, if_false, if_true, List.isEmpty_nil]
     generalize any.all (fun a => !a.isEmpty) = x1 at ha ⊢
     generalize kids.all (rightF d) = x2 at hc ⊢
     generalize any.isEmpty = x3 at ha ⊢
     generalize kids.isEmpty = x4 at hc ⊢
     generalize tyB.isEmpty = x5
     generalize vaB.isEmpty = x6
     generalize fiB.isEmpty = x7
     generalize laB.isEmpty = x8
     revert ha hc
     revert x1 x2 x3 x4 x5 x6 x7 x8
     decide +kernel
  rw [hR]
  clear hR
  obtain ⟨EO, hEO⟩ : ∃ b, emptyF (.mk 0 kids [] [] fiB any laB) = b := ⟨_, rfl⟩
  rw [hEO]
  have HEO := hid hEO
  clear hEO
  obtain ⟨nk, hnk⟩ : ∃ n, kids.length = n := ⟨_, rfl⟩
  obtain ⟨na, hna⟩ : ∃ n, any.length = n := ⟨_, rfl⟩
  obtain ⟨TY, hTY⟩ : ∃ S, sb tyB = S := ⟨_, rfl⟩
  obtain ⟨VA, hVA⟩ : ∃ S, sb vaB = S := ⟨_, rfl⟩
  obtain ⟨FI, hFI⟩ : ∃ S, sb fiB = S := ⟨_, rfl⟩
  obtain ⟨LA, hLA⟩ : ∃ S, sb laB = S := ⟨_, rfl⟩
  rw [hnk] at hkl
  rw [hna] at hal
  rw [hnk, hna, hTY, hVA, hFI, hLA] at H0
  rw [hnk] at HKS
  rw [hna] at HTX
  rw [hnk, hna, hTY, hVA, hFI, hLA]
  have HNK := hid hnk; have HNA := hid hna; have HTY := hid hTY; have HVA := hid hVA; have HFI := hid hFI; have HLA := hid hLA
  have hkli : (nk : Int) ≤ 140737488351232 := by omega
  have hali : (na : Int) ≤ 140737488351232 := by omega
  clear hnk hna hTY hVA hFI hLA
  go_enter Try.func64, Try.ntmps64
  have hd0 : (0 : Int) < ((d + 1 : Nat) : Int) := by omega
  go_wp2_with (first
    | ((with_reducible refine K.atO (.box 25 _) ?_); refine wpL_box rfl _ _ rfl _ rfl [.int .i64 3, .slice k1 nk ck, .string TY, .string VA, .string FI, .slice a1 na ca, .string LA] rfl ?_; intro w1 HB1 F1 HS1; have c0 : w1.cell? ⟨w.heap.size, 0, none⟩ = some (.int .i64 3) := HB1.out.cell 0; have c1 : w1.cell? ⟨w.heap.size, 1, none⟩ = some (.slice k1 nk ck) := HB1.out.cell 1; have c2 : w1.cell? ⟨w.heap.size, 2, none⟩ = some (.string TY) := HB1.out.cell 2; have c3 : w1.cell? ⟨w.heap.size, 3, none⟩ = some (.string VA) := HB1.out.cell 3; have c4 : w1.cell? ⟨w.heap.size, 4, none⟩ = some (.string FI) := HB1.out.cell 4; have c5 : w1.cell? ⟨w.heap.size, 5, none⟩ = some (.slice a1 na ca) := HB1.out.cell 5; have c6 : w1.cell? ⟨w.heap.size, 6, none⟩ = some (.string LA) := HB1.out.cell 6)
    | ((with_reducible refine K.atO (.store 9 _ _) ?_); (fail_if_success (have := HZ0)); refine wpL_setV rfl _ _ _ rfl w.heap.size 2 (.string ⟨#[]⟩) rfl rfl rfl rfl _ _ HB1.out (by simp) infoS ?_; intro s0 HY0 FY0 HSY0; have HZ0 := HY0; have HW0 := hid (F1.out.trans FY0.out fun k e => .inr (by have e : k = w.heap.size := e; omega)))
    | ((with_reducible refine K.atO (.store 9 _ _) ?_); (fail_if_success (have := HZ1)); (have := HZ0); refine wpL_setV rfl _ _ _ rfl w.heap.size 3 (.string ⟨#[]⟩) rfl rfl rfl rfl _ _ HZ0.out (by simp) infoS ?_; intro s1 HY1 FY1 HSY1; have HZ1 := HY1; have HW1 := hid (HW0.out.trans FY1.out fun k e => .inr (by have e : k = w.heap.size := e; omega)))
    | ((with_reducible refine K.atO (.store 3 _ _) ?_); (fail_if_success (have := HZ2)); (have := HZ1); refine wpL_setV rfl _ _ _ rfl w.heap.size 0 (.int .i64 0) rfl rfl rfl rfl _ _ HZ1.out (by simp) infoI0 ?_; intro s2 HY2 FY2 HSY2; have HZ2 := HY2; have HW2 := hid (HW1.out.trans FY2.out fun k e => .inr (by have e : k = w.heap.size := e; omega)); have z0 : s2.cell? ⟨w.heap.size, 0, none⟩ = some (.int .i64 0) := HZ2.out.cell 0; have z1 : s2.cell? ⟨w.heap.size, 1, none⟩ = some (.slice k1 nk ck) := HZ2.out.cell 1; have z2 : s2.cell? ⟨w.heap.size, 2, none⟩ = some (.string ⟨#[]⟩) := HZ2.out.cell 2; have z3 : s2.cell? ⟨w.heap.size, 3, none⟩ = some (.string ⟨#[]⟩) := HZ2.out.cell 3; have z4 : s2.cell? ⟨w.heap.size, 4, none⟩ = some (.string FI) := HZ2.out.cell 4; have z5 : s2.cell? ⟨w.heap.size, 5, none⟩ = some (.slice a1 na ca) := HZ2.out.cell 5; have z6 : s2.cell? ⟨w.heap.size, 6, none⟩ = some (.string LA) := HZ2.out.cell 6)
    | fail)
  refine (pempty_any (M + 1) E (.mk 0 kids [] [] fiB any laB) [.int .i64 0, .slice k1 nk ck, .string ⟨#[]⟩, .string ⟨#[]⟩, .string FI, .slice a1 na ca, .string LA] s2 (by
    refine ⟨_, _, ?_, i64z, (Nat.zero_le _), (Nat.zero_le _), (HSZ.out.2.2.2.1), (HSZ.out.2.2.2.2), HTX.out.no HW2.out, HKS.out.noF HW2.out⟩
    simp only [Fl.kind, Fl.kids, Fl.type, Fl.value, Fl.first, Fl.any, Fl.last, HFI.out, HLA.out]
    rfl)).mono ?_
  rintro e w9 ⟨rfl, f9⟩
  rw [HEO.out]
  have HF9 := hid (HW2.out.trans' f9)
  clear f9
  go_wp2_with fail
  go_ret
  exact ⟨by cases EO <;> rfl, HF9.out⟩
set_option maxHeartbeats 8000000 in
theorem prf_5z (M : Nat) (E : Nat → Prop) (f : Fl) (cs : List Value) (w : World) (h : FlC M E w f cs) (hk : f.kind = 5) : Calls Try.prog 64 #[.agg cs.toArray, .int .i64 ((0 : Nat) : Int)] w fun e w' => e = .returned (.bool (rightF 0 f)) ∧ Fr No w w' := by
  obtain ⟨M, rfl⟩ := h.succ
  have H0 := hid h
  obtain ⟨vk, va, rfl, hi0, hz2, hz3, hz4, hz6, ht, hs⟩ := h
  obtain ⟨k1, ck, rfl, -, hkl⟩ := hs.form
  obtain ⟨a1, ca, rfl, -, hal⟩ := ht.form
  have HKS := hid hs; have HTX := hid ht
  obtain ⟨fk, kids, tyB, vaB, fiB, any, laB⟩ := f
  simp only [Fl.kind, Fl.kids, Fl.type, Fl.value, Fl.first, Fl.any, Fl.last] at hkl hal hi0 hz2 hz3 hz4 hz6 H0 HKS HTX ⊢
  have HSZ := hid (show I64 fk ∧ Sz tyB ∧ Sz vaB ∧ Sz fiB ∧ Sz laB from ⟨hi0, hz2, hz3, hz4, hz6⟩)
  clear ht hs hi0 hz2 hz3 hz4 hz6
  have hk : fk = 5 := hk
  subst hk
  have hR : rightF 0 (.mk 5 kids tyB vaB fiB any laB) = false := rfl
  rw [hR]
  clear hR
  obtain ⟨nk, hnk⟩ : ∃ n, kids.length = n := ⟨_, rfl⟩
  obtain ⟨na, hna⟩ : ∃ n, any.length = n := ⟨_, rfl⟩
  obtain ⟨TY, hTY⟩ : ∃ S, sb tyB = S := ⟨_, rfl⟩
  obtain ⟨VA, hVA⟩ : ∃ S, sb vaB = S := ⟨_, rfl⟩
  obtain ⟨FI, hFI⟩ : ∃ S, sb fiB = S := ⟨_, rfl⟩
  obtain ⟨LA, hLA⟩ : ∃ S, sb laB = S := ⟨_, rfl⟩
  rw [hnk] at hkl
  rw [hna] at hal
  rw [hnk, hna, hTY, hVA, hFI, hLA] at H0
  rw [hnk] at HKS
  rw [hna] at HTX
  rw [hnk, hna, hTY, hVA, hFI, hLA]
  have HNK := hid hnk; have HNA := hid hna; have HTY := hid hTY; have HVA := hid hVA; have HFI := hid hFI; have HLA := hid hLA
  have hkli : (nk : Int) ≤ 140737488351232 := by omega
  have hali : (na : Int) ≤ 140737488351232 := by omega
  clear hnk hna hTY hVA hFI hLA
  go_enter Try.func64, Try.ntmps64
  go_wp2_with (first
    | ((with_reducible refine K.atO (.box 25 _) ?_); refine wpL_box rfl _ _ rfl _ rfl [.int .i64 5, .slice k1 nk ck, .string TY, .string VA, .string FI, .slice a1 na ca, .string LA] rfl ?_; intro w1 HB1 F1 HS1; have c0 : w1.cell? ⟨w.heap.size, 0, none⟩ = some (.int .i64 5) := HB1.out.cell 0; have c1 : w1.cell? ⟨w.heap.size, 1, none⟩ = some (.slice k1 nk ck) := HB1.out.cell 1; have c2 : w1.cell? ⟨w.heap.size, 2, none⟩ = some (.string TY) := HB1.out.cell 2; have c3 : w1.cell? ⟨w.heap.size, 3, none⟩ = some (.string VA) := HB1.out.cell 3; have c4 : w1.cell? ⟨w.heap.size, 4, none⟩ = some (.string FI) := HB1.out.cell 4; have c5 : w1.cell? ⟨w.heap.size, 5, none⟩ = some (.slice a1 na ca) := HB1.out.cell 5; have c6 : w1.cell? ⟨w.heap.size, 6, none⟩ = some (.string LA) := HB1.out.cell 6)
    | ((with_reducible refine K.atO (.store 9 _ _) ?_); (fail_if_success (have := HZ0)); refine wpL_setV rfl _ _ _ rfl w.heap.size 2 (.string ⟨#[]⟩) rfl rfl rfl rfl _ _ HB1.out (by simp) infoS ?_; intro s0 HY0 FY0 HSY0; have HZ0 := HY0; have HW0 := hid (F1.out.trans FY0.out fun k e => .inr (by have e : k = w.heap.size := e; omega)))
    | ((with_reducible refine K.atO (.store 9 _ _) ?_); (fail_if_success (have := HZ1)); (have := HZ0); refine wpL_setV rfl _ _ _ rfl w.heap.size 3 (.string ⟨#[]⟩) rfl rfl rfl rfl _ _ HZ0.out (by simp) infoS ?_; intro s1 HY1 FY1 HSY1; have HZ1 := HY1; have HW1 := hid (HW0.out.trans FY1.out fun k e => .inr (by have e : k = w.heap.size := e; omega)))
    | ((with_reducible refine K.atO (.store 3 _ _) ?_); (fail_if_success (have := HZ2)); (have := HZ1); refine wpL_setV rfl _ _ _ rfl w.heap.size 0 (.int .i64 0) rfl rfl rfl rfl _ _ HZ1.out (by simp) infoI0 ?_; intro s2 HY2 FY2 HSY2; have HZ2 := HY2; have HW2 := hid (HW1.out.trans FY2.out fun k e => .inr (by have e : k = w.heap.size := e; omega)); have z0 : s2.cell? ⟨w.heap.size, 0, none⟩ = some (.int .i64 0) := HZ2.out.cell 0; have z1 : s2.cell? ⟨w.heap.size, 1, none⟩ = some (.slice k1 nk ck) := HZ2.out.cell 1; have z2 : s2.cell? ⟨w.heap.size, 2, none⟩ = some (.string ⟨#[]⟩) := HZ2.out.cell 2; have z3 : s2.cell? ⟨w.heap.size, 3, none⟩ = some (.string ⟨#[]⟩) := HZ2.out.cell 3; have z4 : s2.cell? ⟨w.heap.size, 4, none⟩ = some (.string FI) := HZ2.out.cell 4; have z5 : s2.cell? ⟨w.heap.size, 5, none⟩ = some (.slice a1 na ca) := HZ2.out.cell 5; have z6 : s2.cell? ⟨w.heap.size, 6, none⟩ = some (.string LA) := HZ2.out.cell 6)
    | fail)
  go_ret
  exact ⟨rfl, HW2.out⟩
set_option maxHeartbeats 8000000 in
theorem prf_5 (d : Nat) (hd1 : d ≤ 1000) (ih : prfOk d) (M : Nat) (E : Nat → Prop) (f : Fl) (cs : List Value) (w : World) (h : FlC M E w f cs) (hk : f.kind = 5) : Calls Try.prog 64 #[.agg cs.toArray, .int .i64 (((d + 1) : Nat) : Int)] w fun e w' => e = .returned (.bool (rightF (d + 1) f)) ∧ Fr No w w' := by
  obtain ⟨M, rfl⟩ := h.succ
  have H0 := hid h
  obtain ⟨vk, va, rfl, hi0, hz2, hz3, hz4, hz6, ht, hs⟩ := h
  obtain ⟨k1, ck, rfl, -, hkl⟩ := hs.form
  obtain ⟨a1, ca, rfl, -, hal⟩ := ht.form
  have HKS := hid hs; have HTX := hid ht
  obtain ⟨fk, kids, tyB, vaB, fiB, any, laB⟩ := f
  simp only [Fl.kind, Fl.kids, Fl.type, Fl.value, Fl.first, Fl.any, Fl.last] at hkl hal hi0 hz2 hz3 hz4 hz6 H0 HKS HTX ⊢
  have HSZ := hid (show I64 fk ∧ Sz tyB ∧ Sz vaB ∧ Sz fiB ∧ Sz laB from ⟨hi0, hz2, hz3, hz4, hz6⟩)
  clear ht hs hi0 hz2 hz3 hz4 hz6
  have hk : fk = 5 := hk
  subst hk
  have IH := hid ih
  clear ih
  have hR : rightF (d + 1) (.mk 5 kids tyB vaB fiB any laB) = (emptyF (.mk 0 kids [] [] fiB any laB)) := by
    have ha : any.isEmpty = true → any.all (fun a => !a.isEmpty) = true := fun h => by rw [List.isEmpty_iff.1 h]; rfl
    have hc : kids.isEmpty = true → kids.all (rightF d) = true := fun h => by rw [List.isEmpty_iff.1 h]; rfl
    simp only [rightF, emptyF, kidsOk, partsOk, kidsK, valK, Fl.kind, Fl.kids, Fl.type, Fl.value, Fl.first, Fl.any, Fl.last]
    by_cases hl : kids.length = 1
    all_goals
     simp only [hl, decide_true, decide_false, Int.reduceEq, Bool.or_false, Bool.false_or, Bool.or_true, Bool.true_or, Bool.false_eq_true, if_false, if_true, List.isEmpty_nil]
     generalize any.all (fun a => !a.isEmpty) = x1 at ha ⊢
     generalize kids.all (rightF d) = x2 at hc ⊢
     generalize any.isEmpty = x3 at ha ⊢
     generalize kids.isEmpty = x4 at hc ⊢
     generalize tyB.isEmpty = x5
     generalize vaB.isEmpty = x6
     generalize fiB.isEmpty = x7
     generalize laB.isEmpty = x8
     revert ha hc
     revert x1 x2 x3 x4 x5 x6 x7 x8
     decide +kernel
  rw [hR]
  clear hR
  obtain ⟨EO, hEO⟩ : ∃ b, emptyF (.mk 0 kids [] [] fiB any laB) = b := ⟨_, rfl⟩
  rw [hEO]
  have HEO := hid hEO
  clear hEO
  obtain ⟨nk, hnk⟩ : ∃ n, kids.length = n := ⟨_, rfl⟩
  obtain ⟨na, hna⟩ : ∃ n, any.length = n := ⟨_, rfl⟩
  obtain ⟨TY, hTY⟩ : ∃ S, sb tyB = S := ⟨_, rfl⟩
  obtain ⟨VA, hVA⟩ : ∃ S, sb vaB = S := ⟨_, rfl⟩
  obtain ⟨FI, hFI⟩ : ∃ S, sb fiB = S := ⟨_, rfl⟩
  obtain ⟨LA, hLA⟩ : ∃ S, sb laB = S := ⟨_, rfl⟩
  rw [hnk] at hkl
  rw [hna] at hal
  rw [hnk, hna, hTY, hVA, hFI, hLA] at H0
  rw [hnk] at HKS
  rw [hna] at HTX
  rw [hnk, hna, hTY, hVA, hFI, hLA]
  have HNK := hid hnk; have HNA := hid hna; have HTY := hid hTY; have HVA := hid hVA; have HFI := hid hFI; have HLA := hid hLA
  have hkli : (nk : Int) ≤ 140737488351232 := by omega
  have hali : (na : Int) ≤ 140737488351232 := by omega
  clear hnk hna hTY hVA hFI hLA
  go_enter Try.func64, Try.ntmps64
  have hd0 : (0 : Int) < ((d + 1 : Nat) : Int) := by omega
  go_wp2_with (first
    | ((with_reducible refine K.atO (.box 25 _) ?_); refine wpL_box rfl _ _ rfl _ rfl [.int .i64 5, .slice k1 nk ck, .string TY, .string VA, .string FI, .slice a1 na ca, .string LA] rfl ?_; intro w1 HB1 F1 HS1; have c0 : w1.cell? ⟨w.heap.size, 0, none⟩ = some (.int .i64 5) := HB1.out.cell 0; have c1 : w1.cell? ⟨w.heap.size, 1, none⟩ = some (.slice k1 nk ck) := HB1.out.cell 1; have c2 : w1.cell? ⟨w.heap.size, 2, none⟩ = some (.string TY) := HB1.out.cell 2; have c3 : w1.cell? ⟨w.heap.size, 3, none⟩ = some (.string VA) := HB1.out.cell 3; have c4 : w1.cell? ⟨w.heap.size, 4, none⟩ = some (.string FI) := HB1.out.cell 4; have c5 : w1.cell? ⟨w.heap.size, 5, none⟩ = some (.slice a1 na ca) := HB1.out.cell 5; have c6 : w1.cell? ⟨w.heap.size, 6, none⟩ = some (.string LA) := HB1.out.cell 6)
    | ((with_reducible refine K.atO (.store 9 _ _) ?_); (fail_if_success (have := HZ0)); refine wpL_setV rfl _ _ _ rfl w.heap.size 2 (.string ⟨#[]⟩) rfl rfl rfl rfl _ _ HB1.out (by simp) infoS ?_; intro s0 HY0 FY0 HSY0; have HZ0 := HY0; have HW0 := hid (F1.out.trans FY0.out fun k e => .inr (by have e : k = w.heap.size := e; omega)))
    | ((with_reducible refine K.atO (.store 9 _ _) ?_); (fail_if_success (have := HZ1)); (have := HZ0); refine wpL_setV rfl _ _ _ rfl w.heap.size 3 (.string ⟨#[]⟩) rfl rfl rfl rfl _ _ HZ0.out (by simp) infoS ?_; intro s1 HY1 FY1 HSY1; have HZ1 := HY1; have HW1 := hid (HW0.out.trans FY1.out fun k e => .inr (by have e : k = w.heap.size := e; omega)))
    | ((with_reducible refine K.atO (.store 3 _ _) ?_); (fail_if_success (have := HZ2)); (have := HZ1); refine wpL_setV rfl _ _ _ rfl w.heap.size 0 (.int .i64 0) rfl rfl rfl rfl _ _ HZ1.out (by simp) infoI0 ?_; intro s2 HY2 FY2 HSY2; have HZ2 := HY2; have HW2 := hid (HW1.out.trans FY2.out fun k e => .inr (by have e : k = w.heap.size := e; omega)); have z0 : s2.cell? ⟨w.heap.size, 0, none⟩ = some (.int .i64 0) := HZ2.out.cell 0; have z1 : s2.cell? ⟨w.heap.size, 1, none⟩ = some (.slice k1 nk ck) := HZ2.out.cell 1; have z2 : s2.cell? ⟨w.heap.size, 2, none⟩ = some (.string ⟨#[]⟩) := HZ2.out.cell 2; have z3 : s2.cell? ⟨w.heap.size, 3, none⟩ = some (.string ⟨#[]⟩) := HZ2.out.cell 3; have z4 : s2.cell? ⟨w.heap.size, 4, none⟩ = some (.string FI) := HZ2.out.cell 4; have z5 : s2.cell? ⟨w.heap.size, 5, none⟩ = some (.slice a1 na ca) := HZ2.out.cell 5; have z6 : s2.cell? ⟨w.heap.size, 6, none⟩ = some (.string LA) := HZ2.out.cell 6)
    | fail)
  refine (pempty_any (M + 1) E (.mk 0 kids [] [] fiB any laB) [.int .i64 0, .slice k1 nk ck, .string ⟨#[]⟩, .string ⟨#[]⟩, .string FI, .slice a1 na ca, .string LA] s2 (by
    refine ⟨_, _, ?_, i64z, (Nat.zero_le _), (Nat.zero_le _), (HSZ.out.2.2.2.1), (HSZ.out.2.2.2.2), HTX.out.no HW2.out, HKS.out.noF HW2.out⟩
    simp only [Fl.kind, Fl.kids, Fl.type, Fl.value, Fl.first, Fl.any, Fl.last, HFI.out, HLA.out]
    rfl)).mono ?_
  rintro e w9 ⟨rfl, f9⟩
  rw [HEO.out]
  have HF9 := hid (HW2.out.trans' f9)
  clear f9
  go_wp2_with fail
  go_ret
  exact ⟨by cases EO <;> rfl, HF9.out⟩
set_option maxHeartbeats 8000000 in
theorem prf_6z (M : Nat) (E : Nat → Prop) (f : Fl) (cs : List Value) (w : World) (h : FlC M E w f cs) (hk : f.kind = 6) : Calls Try.prog 64 #[.agg cs.toArray, .int .i64 ((0 : Nat) : Int)] w fun e w' => e = .returned (.bool (rightF 0 f)) ∧ Fr No w w' := by
  obtain ⟨M, rfl⟩ := h.succ
  have H0 := hid h
  obtain ⟨vk, va, rfl, hi0, hz2, hz3, hz4, hz6, ht, hs⟩ := h
  obtain ⟨k1, ck, rfl, -, hkl⟩ := hs.form
  obtain ⟨a1, ca, rfl, -, hal⟩ := ht.form
  have HKS := hid hs; have HTX := hid ht
  obtain ⟨fk, kids, tyB, vaB, fiB, any, laB⟩ := f
  simp only [Fl.kind, Fl.kids, Fl.type, Fl.value, Fl.first, Fl.any, Fl.last] at hkl hal hi0 hz2 hz3 hz4 hz6 H0 HKS HTX ⊢
  have HSZ := hid (show I64 fk ∧ Sz tyB ∧ Sz vaB ∧ Sz fiB ∧ Sz laB from ⟨hi0, hz2, hz3, hz4, hz6⟩)
  clear ht hs hi0 hz2 hz3 hz4 hz6
  have hk : fk = 6 := hk
  subst hk
  have hR : rightF 0 (.mk 6 kids tyB vaB fiB any laB) = false := rfl
  rw [hR]
  clear hR
  obtain ⟨nk, hnk⟩ : ∃ n, kids.length = n := ⟨_, rfl⟩
  obtain ⟨na, hna⟩ : ∃ n, any.length = n := ⟨_, rfl⟩
  obtain ⟨TY, hTY⟩ : ∃ S, sb tyB = S := ⟨_, rfl⟩
  obtain ⟨VA, hVA⟩ : ∃ S, sb vaB = S := ⟨_, rfl⟩
  obtain ⟨FI, hFI⟩ : ∃ S, sb fiB = S := ⟨_, rfl⟩
  obtain ⟨LA, hLA⟩ : ∃ S, sb laB = S := ⟨_, rfl⟩
  rw [hnk] at hkl
  rw [hna] at hal
  rw [hnk, hna, hTY, hVA, hFI, hLA] at H0
  rw [hnk] at HKS
  rw [hna] at HTX
  rw [hnk, hna, hTY, hVA, hFI, hLA]
  have HNK := hid hnk; have HNA := hid hna; have HTY := hid hTY; have HVA := hid hVA; have HFI := hid hFI; have HLA := hid hLA
  have hkli : (nk : Int) ≤ 140737488351232 := by omega
  have hali : (na : Int) ≤ 140737488351232 := by omega
  clear hnk hna hTY hVA hFI hLA
  go_enter Try.func64, Try.ntmps64
  go_wp2_with (first
    | ((with_reducible refine K.atO (.box 25 _) ?_); refine wpL_box rfl _ _ rfl _ rfl [.int .i64 6, .slice k1 nk ck, .string TY, .string VA, .string FI, .slice a1 na ca, .string LA] rfl ?_; intro w1 HB1 F1 HS1; have c0 : w1.cell? ⟨w.heap.size, 0, none⟩ = some (.int .i64 6) := HB1.out.cell 0; have c1 : w1.cell? ⟨w.heap.size, 1, none⟩ = some (.slice k1 nk ck) := HB1.out.cell 1; have c2 : w1.cell? ⟨w.heap.size, 2, none⟩ = some (.string TY) := HB1.out.cell 2; have c3 : w1.cell? ⟨w.heap.size, 3, none⟩ = some (.string VA) := HB1.out.cell 3; have c4 : w1.cell? ⟨w.heap.size, 4, none⟩ = some (.string FI) := HB1.out.cell 4; have c5 : w1.cell? ⟨w.heap.size, 5, none⟩ = some (.slice a1 na ca) := HB1.out.cell 5; have c6 : w1.cell? ⟨w.heap.size, 6, none⟩ = some (.string LA) := HB1.out.cell 6)
    | ((with_reducible refine K.atO (.store 9 _ _) ?_); (fail_if_success (have := HZ0)); refine wpL_setV rfl _ _ _ rfl w.heap.size 2 (.string ⟨#[]⟩) rfl rfl rfl rfl _ _ HB1.out (by simp) infoS ?_; intro s0 HY0 FY0 HSY0; have HZ0 := HY0; have HW0 := hid (F1.out.trans FY0.out fun k e => .inr (by have e : k = w.heap.size := e; omega)))
    | ((with_reducible refine K.atO (.store 9 _ _) ?_); (fail_if_success (have := HZ1)); (have := HZ0); refine wpL_setV rfl _ _ _ rfl w.heap.size 3 (.string ⟨#[]⟩) rfl rfl rfl rfl _ _ HZ0.out (by simp) infoS ?_; intro s1 HY1 FY1 HSY1; have HZ1 := HY1; have HW1 := hid (HW0.out.trans FY1.out fun k e => .inr (by have e : k = w.heap.size := e; omega)))
    | ((with_reducible refine K.atO (.store 3 _ _) ?_); (fail_if_success (have := HZ2)); (have := HZ1); refine wpL_setV rfl _ _ _ rfl w.heap.size 0 (.int .i64 0) rfl rfl rfl rfl _ _ HZ1.out (by simp) infoI0 ?_; intro s2 HY2 FY2 HSY2; have HZ2 := HY2; have HW2 := hid (HW1.out.trans FY2.out fun k e => .inr (by have e : k = w.heap.size := e; omega)); have z0 : s2.cell? ⟨w.heap.size, 0, none⟩ = some (.int .i64 0) := HZ2.out.cell 0; have z1 : s2.cell? ⟨w.heap.size, 1, none⟩ = some (.slice k1 nk ck) := HZ2.out.cell 1; have z2 : s2.cell? ⟨w.heap.size, 2, none⟩ = some (.string ⟨#[]⟩) := HZ2.out.cell 2; have z3 : s2.cell? ⟨w.heap.size, 3, none⟩ = some (.string ⟨#[]⟩) := HZ2.out.cell 3; have z4 : s2.cell? ⟨w.heap.size, 4, none⟩ = some (.string FI) := HZ2.out.cell 4; have z5 : s2.cell? ⟨w.heap.size, 5, none⟩ = some (.slice a1 na ca) := HZ2.out.cell 5; have z6 : s2.cell? ⟨w.heap.size, 6, none⟩ = some (.string LA) := HZ2.out.cell 6)
    | fail)
  go_ret
  exact ⟨rfl, HW2.out⟩
set_option maxHeartbeats 8000000 in
theorem prf_6 (d : Nat) (hd1 : d ≤ 1000) (ih : prfOk d) (M : Nat) (E : Nat → Prop) (f : Fl) (cs : List Value) (w : World) (h : FlC M E w f cs) (hk : f.kind = 6) : Calls Try.prog 64 #[.agg cs.toArray, .int .i64 (((d + 1) : Nat) : Int)] w fun e w' => e = .returned (.bool (rightF (d + 1) f)) ∧ Fr No w w' := by
  obtain ⟨M, rfl⟩ := h.succ
  have H0 := hid h
  obtain ⟨vk, va, rfl, hi0, hz2, hz3, hz4, hz6, ht, hs⟩ := h
  obtain ⟨k1, ck, rfl, -, hkl⟩ := hs.form
  obtain ⟨a1, ca, rfl, -, hal⟩ := ht.form
  have HKS := hid hs; have HTX := hid ht
  obtain ⟨fk, kids, tyB, vaB, fiB, any, laB⟩ := f
  simp only [Fl.kind, Fl.kids, Fl.type, Fl.value, Fl.first, Fl.any, Fl.last] at hkl hal hi0 hz2 hz3 hz4 hz6 H0 HKS HTX ⊢
  have HSZ := hid (show I64 fk ∧ Sz tyB ∧ Sz vaB ∧ Sz fiB ∧ Sz laB from ⟨hi0, hz2, hz3, hz4, hz6⟩)
  clear ht hs hi0 hz2 hz3 hz4 hz6
  have hk : fk = 6 := hk
  subst hk
  have IH := hid ih
  clear ih
  have hR : rightF (d + 1) (.mk 6 kids tyB vaB fiB any laB) = (emptyF (.mk 0 kids [] [] fiB any laB)) := by
    have ha : any.isEmpty = true → any.all (fun a => !a.isEmpty) = true := fun h => by rw [List.isEmpty_iff.1 h]; rfl
    have hc : kids.isEmpty = true → kids.all (rightF d) = true := fun h => by rw [List.isEmpty_iff.1 h]; rfl
    simp only [rightF, emptyF, kidsOk, partsOk, kidsK, valK, Fl.kind, Fl.kids, Fl.type, Fl.value, Fl.first, Fl.any, Fl.last]
    by_cases hl : kids.length = 1
    all_goals
     simp only [hl, decide_true, decide_false, Int.reduceEq, Bool.or_false, Bool.false_or, Bool.or_true, Bool.true_or, Bool.false_eq_true, if_false, if_true, List.isEmpty_nil]
     generalize any.all (fun a => !a.isEmpty) = x1 at ha ⊢
     generalize kids.all (rightF d) = x2 at hc ⊢
     generalize any.isEmpty = x3 at ha ⊢
     generalize kids.isEmpty = x4 at hc ⊢
     generalize tyB.isEmpty = x5
     generalize vaB.isEmpty = x6
     generalize fiB.isEmpty = x7
     generalize laB.isEmpty = x8
     revert ha hc
     revert x1 x2 x3 x4 x5 x6 x7 x8
     decide +kernel
  rw [hR]
  clear hR
  obtain ⟨EO, hEO⟩ : ∃ b, emptyF (.mk 0 kids [] [] fiB any laB) = b := ⟨_, rfl⟩
  rw [hEO]
  have HEO := hid hEO
  clear hEO
  obtain ⟨nk, hnk⟩ : ∃ n, kids.length = n := ⟨_, rfl⟩
  obtain ⟨na, hna⟩ : ∃ n, any.length = n := ⟨_, rfl⟩
  obtain ⟨TY, hTY⟩ : ∃ S, sb tyB = S := ⟨_, rfl⟩
  obtain ⟨VA, hVA⟩ : ∃ S, sb vaB = S := ⟨_, rfl⟩
  obtain ⟨FI, hFI⟩ : ∃ S, sb fiB = S := ⟨_, rfl⟩
  obtain ⟨LA, hLA⟩ : ∃ S, sb laB = S := ⟨_, rfl⟩
  rw [hnk] at hkl
  rw [hna] at hal
  rw [hnk, hna, hTY, hVA, hFI, hLA] at H0
  rw [hnk] at HKS
  rw [hna] at HTX
  rw [hnk, hna, hTY, hVA, hFI, hLA]
  have HNK := hid hnk; have HNA := hid hna; have HTY := hid hTY; have HVA := hid hVA; have HFI := hid hFI; have HLA := hid hLA
  have hkli : (nk : Int) ≤ 140737488351232 := by omega
  have hali : (na : Int) ≤ 140737488351232 := by omega
  clear hnk hna hTY hVA hFI hLA
  go_enter Try.func64, Try.ntmps64
  have hd0 : (0 : Int) < ((d + 1 : Nat) : Int) := by omega
  go_wp2_with (first
    | ((with_reducible refine K.atO (.box 25 _) ?_); refine wpL_box rfl _ _ rfl _ rfl [.int .i64 6, .slice k1 nk ck, .string TY, .string VA, .string FI, .slice a1 na ca, .string LA] rfl ?_; intro w1 HB1 F1 HS1; have c0 : w1.cell? ⟨w.heap.size, 0, none⟩ = some (.int .i64 6) := HB1.out.cell 0; have c1 : w1.cell? ⟨w.heap.size, 1, none⟩ = some (.slice k1 nk ck) := HB1.out.cell 1; have c2 : w1.cell? ⟨w.heap.size, 2, none⟩ = some (.string TY) := HB1.out.cell 2; have c3 : w1.cell? ⟨w.heap.size, 3, none⟩ = some (.string VA) := HB1.out.cell 3; have c4 : w1.cell? ⟨w.heap.size, 4, none⟩ = some (.string FI) := HB1.out.cell 4; have c5 : w1.cell? ⟨w.heap.size, 5, none⟩ = some (.slice a1 na ca) := HB1.out.cell 5; have c6 : w1.cell? ⟨w.heap.size, 6, none⟩ = some (.string LA) := HB1.out.cell 6)
    | ((with_reducible refine K.atO (.store 9 _ _) ?_); (fail_if_success (have := HZ0)); refine wpL_setV rfl _ _ _ rfl w.heap.size 2 (.string ⟨#[]⟩) rfl rfl rfl rfl _ _ HB1.out (by simp) infoS ?_; intro s0 HY0 FY0 HSY0; have HZ0 := HY0; have HW0 := hid (F1.out.trans FY0.out fun k e => .inr (by have e : k = w.heap.size := e; omega)))
    | ((with_reducible refine K.atO (.store 9 _ _) ?_); (fail_if_success (have := HZ1)); (have := HZ0); refine wpL_setV rfl _ _ _ rfl w.heap.size 3 (.string ⟨#[]⟩) rfl rfl rfl rfl _ _ HZ0.out (by simp) infoS ?_; intro s1 HY1 FY1 HSY1; have HZ1 := HY1; have HW1 := hid (HW0.out.trans FY1.out fun k e => .inr (by have e : k = w.heap.size := e; omega)))
    | ((with_reducible refine K.atO (.store 3 _ _) ?_); (fail_if_success (have := HZ2)); (have := HZ1); refine wpL_setV rfl _ _ _ rfl w.heap.size 0 (.int .i64 0) rfl rfl rfl rfl _ _ HZ1.out (by simp) infoI0 ?_; intro s2 HY2 FY2 HSY2; have HZ2 := HY2; have HW2 := hid (HW1.out.trans FY2.out fun k e => .inr (by have e : k = w.heap.size := e; omega)); have z0 : s2.cell? ⟨w.heap.size, 0, none⟩ = some (.int .i64 0) := HZ2.out.cell 0; have z1 : s2.cell? ⟨w.heap.size, 1, none⟩ = some (.slice k1 nk ck) := HZ2.out.cell 1; have z2 : s2.cell? ⟨w.heap.size, 2, none⟩ = some (.string ⟨#[]⟩) := HZ2.out.cell 2; have z3 : s2.cell? ⟨w.heap.size, 3, none⟩ = some (.string ⟨#[]⟩) := HZ2.out.cell 3; have z4 : s2.cell? ⟨w.heap.size, 4, none⟩ = some (.string FI) := HZ2.out.cell 4; have z5 : s2.cell? ⟨w.heap.size, 5, none⟩ = some (.slice a1 na ca) := HZ2.out.cell 5; have z6 : s2.cell? ⟨w.heap.size, 6, none⟩ = some (.string LA) := HZ2.out.cell 6)
    | fail)
  refine (pempty_any (M + 1) E (.mk 0 kids [] [] fiB any laB) [.int .i64 0, .slice k1 nk ck, .string ⟨#[]⟩, .string ⟨#[]⟩, .string FI, .slice a1 na ca, .string LA] s2 (by
    refine ⟨_, _, ?_, i64z, (Nat.zero_le _), (Nat.zero_le _), (HSZ.out.2.2.2.1), (HSZ.out.2.2.2.2), HTX.out.no HW2.out, HKS.out.noF HW2.out⟩
    simp only [Fl.kind, Fl.kids, Fl.type, Fl.value, Fl.first, Fl.any, Fl.last, HFI.out, HLA.out]
    rfl)).mono ?_
  rintro e w9 ⟨rfl, f9⟩
  rw [HEO.out]
  have HF9 := hid (HW2.out.trans' f9)
  clear f9
  go_wp2_with fail
  go_ret
  exact ⟨by cases EO <;> rfl, HF9.out⟩
set_option maxHeartbeats 8000000 in
theorem prf_4z (M : Nat) (E : Nat → Prop) (f : Fl) (cs : List Value) (w : World) (h : FlC M E w f cs) (hk : f.kind = 4) : Calls Try.prog 64 #[.agg cs.toArray, .int .i64 ((0 : Nat) : Int)] w fun e w' => e = .returned (.bool (rightF 0 f)) ∧ Fr No w w' := by
  obtain ⟨M, rfl⟩ := h.succ
  have H0 := hid h
  obtain ⟨vk, va, rfl, hi0, hz2, hz3, hz4, hz6, ht, hs⟩ := h
  obtain ⟨k1, ck, rfl, -, hkl⟩ := hs.form
  obtain ⟨a1, ca, rfl, -, hal⟩ := ht.form
  have HKS := hid hs; have HTX := hid ht
  obtain ⟨fk, kids, tyB, vaB, fiB, any, laB⟩ := f
  simp only [Fl.kind, Fl.kids, Fl.type, Fl.value, Fl.first, Fl.any, Fl.last] at hkl hal hi0 hz2 hz3 hz4 hz6 H0 HKS HTX ⊢
  have HSZ := hid (show I64 fk ∧ Sz tyB ∧ Sz vaB ∧ Sz fiB ∧ Sz laB from ⟨hi0, hz2, hz3, hz4, hz6⟩)
  clear ht hs hi0 hz2 hz3 hz4 hz6
  have hk : fk = 4 := hk
  subst hk
  have hR : rightF 0 (.mk 4 kids tyB vaB fiB any laB) = false := rfl
  rw [hR]
  clear hR
  obtain ⟨nk, hnk⟩ : ∃ n, kids.length = n := ⟨_, rfl⟩
  obtain ⟨na, hna⟩ : ∃ n, any.length = n := ⟨_, rfl⟩
  obtain ⟨TY, hTY⟩ : ∃ S, sb tyB = S := ⟨_, rfl⟩
  obtain ⟨VA, hVA⟩ : ∃ S, sb vaB = S := ⟨_, rfl⟩
  obtain ⟨FI, hFI⟩ : ∃ S, sb fiB = S := ⟨_, rfl⟩
  obtain ⟨LA, hLA⟩ : ∃ S, sb laB = S := ⟨_, rfl⟩
  rw [hnk] at hkl
  rw [hna] at hal
  rw [hnk, hna, hTY, hVA, hFI, hLA] at H0
  rw [hnk] at HKS
  rw [hna] at HTX
  rw [hnk, hna, hTY, hVA, hFI, hLA]
  have HNK := hid hnk; have HNA := hid hna; have HTY := hid hTY; have HVA := hid hVA; have HFI := hid hFI; have HLA := hid hLA
  have hkli : (nk : Int) ≤ 140737488351232 := by omega
  have hali : (na : Int) ≤ 140737488351232 := by omega
  clear hnk hna hTY hVA hFI hLA
  go_enter Try.func64, Try.ntmps64
  go_wp2_with (first
    | ((with_reducible refine K.atO (.box 25 _) ?_); refine wpL_box rfl _ _ rfl _ rfl [.int .i64 4, .slice k1 nk ck, .string TY, .string VA, .string FI, .slice a1 na ca, .string LA] rfl ?_; intro w1 HB1 F1 HS1; have c0 : w1.cell? ⟨w.heap.size, 0, none⟩ = some (.int .i64 4) := HB1.out.cell 0; have c1 : w1.cell? ⟨w.heap.size, 1, none⟩ = some (.slice k1 nk ck) := HB1.out.cell 1; have c2 : w1.cell? ⟨w.heap.size, 2, none⟩ = some (.string TY) := HB1.out.cell 2; have c3 : w1.cell? ⟨w.heap.size, 3, none⟩ = some (.string VA) := HB1.out.cell 3; have c4 : w1.cell? ⟨w.heap.size, 4, none⟩ = some (.string FI) := HB1.out.cell 4; have c5 : w1.cell? ⟨w.heap.size, 5, none⟩ = some (.slice a1 na ca) := HB1.out.cell 5; have c6 : w1.cell? ⟨w.heap.size, 6, none⟩ = some (.string LA) := HB1.out.cell 6)
    | ((with_reducible refine K.atO (.store 9 _ _) ?_); (fail_if_success (have := HZ0)); refine wpL_setV rfl _ _ _ rfl w.heap.size 2 (.string ⟨#[]⟩) rfl rfl rfl rfl _ _ HB1.out (by simp) infoS ?_; intro s0 HY0 FY0 HSY0; have HZ0 := HY0; have HW0 := hid (F1.out.trans FY0.out fun k e => .inr (by have e : k = w.heap.size := e; omega)))
    | ((with_reducible refine K.atO (.store 9 _ _) ?_); (fail_if_success (have := HZ1)); (have := HZ0); refine wpL_setV rfl _ _ _ rfl w.heap.size 4 (.string ⟨#[]⟩) rfl rfl rfl rfl _ _ HZ0.out (by simp) infoS ?_; intro s1 HY1 FY1 HSY1; have HZ1 := HY1; have HW1 := hid (HW0.out.trans FY1.out fun k e => .inr (by have e : k = w.heap.size := e; omega)))
    | ((with_reducible refine K.atO (.store 23 _ _) ?_); (fail_if_success (have := HZ2)); (have := HZ1); refine wpL_setV rfl _ _ _ rfl w.heap.size 5 (.slice none 0 0) rfl rfl rfl rfl _ _ HZ1.out (by simp) infoSs ?_; intro s2 HY2 FY2 HSY2; have HZ2 := HY2; have HW2 := hid (HW1.out.trans FY2.out fun k e => .inr (by have e : k = w.heap.size := e; omega)))
    | ((with_reducible refine K.atO (.store 9 _ _) ?_); (fail_if_success (have := HZ3)); (have := HZ2); refine wpL_setV rfl _ _ _ rfl w.heap.size 6 (.string ⟨#[]⟩) rfl rfl rfl rfl _ _ HZ2.out (by simp) infoS ?_; intro s3 HY3 FY3 HSY3; have HZ3 := HY3; have HW3 := hid (HW2.out.trans FY3.out fun k e => .inr (by have e : k = w.heap.size := e; omega)))
    | ((with_reducible refine K.atO (.store 3 _ _) ?_); (fail_if_success (have := HZ4)); (have := HZ3); refine wpL_setV rfl _ _ _ rfl w.heap.size 0 (.int .i64 0) rfl rfl rfl rfl _ _ HZ3.out (by simp) infoI0 ?_; intro s4 HY4 FY4 HSY4; have HZ4 := HY4; have HW4 := hid (HW3.out.trans FY4.out fun k e => .inr (by have e : k = w.heap.size := e; omega)); have z0 : s4.cell? ⟨w.heap.size, 0, none⟩ = some (.int .i64 0) := HZ4.out.cell 0; have z1 : s4.cell? ⟨w.heap.size, 1, none⟩ = some (.slice k1 nk ck) := HZ4.out.cell 1; have z2 : s4.cell? ⟨w.heap.size, 2, none⟩ = some (.string ⟨#[]⟩) := HZ4.out.cell 2; have z3 : s4.cell? ⟨w.heap.size, 3, none⟩ = some (.string VA) := HZ4.out.cell 3; have z4 : s4.cell? ⟨w.heap.size, 4, none⟩ = some (.string ⟨#[]⟩) := HZ4.out.cell 4; have z5 : s4.cell? ⟨w.heap.size, 5, none⟩ = some (.slice none 0 0) := HZ4.out.cell 5; have z6 : s4.cell? ⟨w.heap.size, 6, none⟩ = some (.string ⟨#[]⟩) := HZ4.out.cell 6)
    | fail)
  go_ret
  exact ⟨rfl, HW4.out⟩
set_option maxHeartbeats 8000000 in
theorem prf_4 (d : Nat) (hd1 : d ≤ 1000) (ih : prfOk d) (M : Nat) (E : Nat → Prop) (f : Fl) (cs : List Value) (w : World) (h : FlC M E w f cs) (hk : f.kind = 4) : Calls Try.prog 64 #[.agg cs.toArray, .int .i64 (((d + 1) : Nat) : Int)] w fun e w' => e = .returned (.bool (rightF (d + 1) f)) ∧ Fr No w w' := by
  obtain ⟨M, rfl⟩ := h.succ
  have H0 := hid h
  obtain ⟨vk, va, rfl, hi0, hz2, hz3, hz4, hz6, ht, hs⟩ := h
  obtain ⟨k1, ck, rfl, -, hkl⟩ := hs.form
  obtain ⟨a1, ca, rfl, -, hal⟩ := ht.form
  have HKS := hid hs; have HTX := hid ht
  obtain ⟨fk, kids, tyB, vaB, fiB, any, laB⟩ := f
  simp only [Fl.kind, Fl.kids, Fl.type, Fl.value, Fl.first, Fl.any, Fl.last] at hkl hal hi0 hz2 hz3 hz4 hz6 H0 HKS HTX ⊢
  have HSZ := hid (show I64 fk ∧ Sz tyB ∧ Sz vaB ∧ Sz fiB ∧ Sz laB from ⟨hi0, hz2, hz3, hz4, hz6⟩)
  clear ht hs hi0 hz2 hz3 hz4 hz6
  have hk : fk = 4 := hk
  subst hk
  have IH := hid ih
  clear ih
  have hR : rightF (d + 1) (.mk 4 kids tyB vaB fiB any laB) = (partsOk (.mk 4 kids tyB vaB fiB any laB) && emptyF (.mk 0 kids [] vaB [] [] [])) := by
    have ha : any.isEmpty = true → any.all (fun a => !a.isEmpty) = true := fun h => by rw [List.isEmpty_iff.1 h]; rfl
    have hc : kids.isEmpty = true → kids.all (rightF d) = true := fun h => by rw [List.isEmpty_iff.1 h]; rfl
    simp only [rightF, emptyF, kidsOk, partsOk, kidsK, valK, Fl.kind, Fl.kids, Fl.type, Fl.value, Fl.first, Fl.any, Fl.last]
    by_cases hl : kids.length = 1
    all_goals
     simp only [hl, decide_true, decide_false, Int.reduceEq, Bool.or_false, Bool.false_or, Bool.or_true, Bool.true_or, Bool.false_eq_true, if_false, if_true, List.isEmpty_nil]
     generalize any.all (fun a => !a.isEmpty) = x1 at ha ⊢
     generalize kids.all (rightF d) = x2 at hc ⊢
     generalize any.isEmpty = x3 at ha ⊢
     generalize kids.isEmpty = x4 at hc ⊢
     generalize tyB.isEmpty = x5
     generalize vaB.isEmpty = x6
     generalize fiB.isEmpty = x7
     generalize laB.isEmpty = x8
     revert ha hc
     revert x1 x2 x3 x4 x5 x6 x7 x8
     decide +kernel
  rw [hR]
  clear hR
  obtain ⟨KO, hKO⟩ : ∃ b, partsOk (.mk 4 kids tyB vaB fiB any laB) = b := ⟨_, rfl⟩
  rw [hKO]
  have HKO := hid hKO
  clear hKO
  obtain ⟨EO, hEO⟩ : ∃ b, emptyF (.mk 0 kids [] vaB [] [] []) = b := ⟨_, rfl⟩
  rw [hEO]
  have HEO := hid hEO
  clear hEO
  obtain ⟨nk, hnk⟩ : ∃ n, kids.length = n := ⟨_, rfl⟩
  obtain ⟨na, hna⟩ : ∃ n, any.length = n := ⟨_, rfl⟩
  obtain ⟨TY, hTY⟩ : ∃ S, sb tyB = S := ⟨_, rfl⟩
  obtain ⟨VA, hVA⟩ : ∃ S, sb vaB = S := ⟨_, rfl⟩
  obtain ⟨FI, hFI⟩ : ∃ S, sb fiB = S := ⟨_, rfl⟩
  obtain ⟨LA, hLA⟩ : ∃ S, sb laB = S := ⟨_, rfl⟩
  rw [hnk] at hkl
  rw [hna] at hal
  rw [hnk, hna, hTY, hVA, hFI, hLA] at H0
  rw [hnk] at HKS
  rw [hna] at HTX
  rw [hnk, hna, hTY, hVA, hFI, hLA]
  have HNK := hid hnk; have HNA := hid hna; have HTY := hid hTY; have HVA := hid hVA; have HFI := hid hFI; have HLA := hid hLA
  have hkli : (nk : Int) ≤ 140737488351232 := by omega
  have hali : (na : Int) ≤ 140737488351232 := by omega
  clear hnk hna hTY hVA hFI hLA
  go_enter Try.func64, Try.ntmps64
  have hd0 : (0 : Int) < ((d + 1 : Nat) : Int) := by omega
  have hd2 : (d : Int) ≤ 1000 := by omega
  have hd3 : (0 : Int) ≤ d := by omega
  go_wp2_with (first
    | ((with_reducible refine K.atO (.box 25 _) ?_); refine wpL_box rfl _ _ rfl _ rfl [.int .i64 4, .slice k1 nk ck, .string TY, .string VA, .string FI, .slice a1 na ca, .string LA] rfl ?_; intro w1 HB1 F1 HS1; have c0 : w1.cell? ⟨w.heap.size, 0, none⟩ = some (.int .i64 4) := HB1.out.cell 0; have c1 : w1.cell? ⟨w.heap.size, 1, none⟩ = some (.slice k1 nk ck) := HB1.out.cell 1; have c2 : w1.cell? ⟨w.heap.size, 2, none⟩ = some (.string TY) := HB1.out.cell 2; have c3 : w1.cell? ⟨w.heap.size, 3, none⟩ = some (.string VA) := HB1.out.cell 3; have c4 : w1.cell? ⟨w.heap.size, 4, none⟩ = some (.string FI) := HB1.out.cell 4; have c5 : w1.cell? ⟨w.heap.size, 5, none⟩ = some (.slice a1 na ca) := HB1.out.cell 5; have c6 : w1.cell? ⟨w.heap.size, 6, none⟩ = some (.string LA) := HB1.out.cell 6)
    | fail)
  refine (pparts_any (M + 1) E (.mk 4 kids tyB vaB fiB any laB) [.int .i64 4, .slice k1 nk ck, .string TY, .string VA, .string FI, .slice a1 na ca, .string LA] w1 (H0.out.no F1.out)).mono ?_
  rintro e w2 ⟨rfl, f2⟩
  rw [HKO.out]
  have HF2 := hid (F1.out.trans' f2); have HB2 := hid (HB1.out.fr f2 id)
  clear f2 c0 c1 c2 c3 c4 c5 c6
  cases KO with
  | false =>
    go_wp2_with (first
      | ((with_reducible refine K.atO (.store 9 _ _) ?_); (fail_if_success (have := HZ0)); refine wpL_setV rfl _ _ _ rfl w.heap.size 2 (.string ⟨#[]⟩) rfl rfl rfl rfl _ _ HB2.out (by simp) infoS ?_; intro s0 HY0 FY0 HSY0; have HZ0 := HY0; have HW0 := hid (HF2.out.trans FY0.out fun k e => .inr (by have e : k = w.heap.size := e; omega)))
      | ((with_reducible refine K.atO (.store 9 _ _) ?_); (fail_if_success (have := HZ1)); (have := HZ0); refine wpL_setV rfl _ _ _ rfl w.heap.size 4 (.string ⟨#[]⟩) rfl rfl rfl rfl _ _ HZ0.out (by simp) infoS ?_; intro s1 HY1 FY1 HSY1; have HZ1 := HY1; have HW1 := hid (HW0.out.trans FY1.out fun k e => .inr (by have e : k = w.heap.size := e; omega)))
      | ((with_reducible refine K.atO (.store 23 _ _) ?_); (fail_if_success (have := HZ2)); (have := HZ1); refine wpL_setV rfl _ _ _ rfl w.heap.size 5 (.slice none 0 0) rfl rfl rfl rfl _ _ HZ1.out (by simp) infoSs ?_; intro s2 HY2 FY2 HSY2; have HZ2 := HY2; have HW2 := hid (HW1.out.trans FY2.out fun k e => .inr (by have e : k = w.heap.size := e; omega)))
      | ((with_reducible refine K.atO (.store 9 _ _) ?_); (fail_if_success (have := HZ3)); (have := HZ2); refine wpL_setV rfl _ _ _ rfl w.heap.size 6 (.string ⟨#[]⟩) rfl rfl rfl rfl _ _ HZ2.out (by simp) infoS ?_; intro s3 HY3 FY3 HSY3; have HZ3 := HY3; have HW3 := hid (HW2.out.trans FY3.out fun k e => .inr (by have e : k = w.heap.size := e; omega)))
      | ((with_reducible refine K.atO (.store 3 _ _) ?_); (fail_if_success (have := HZ4)); (have := HZ3); refine wpL_setV rfl _ _ _ rfl w.heap.size 0 (.int .i64 0) rfl rfl rfl rfl _ _ HZ3.out (by simp) infoI0 ?_; intro s4 HY4 FY4 HSY4; have HZ4 := HY4; have HW4 := hid (HW3.out.trans FY4.out fun k e => .inr (by have e : k = w.heap.size := e; omega)); have z0 : s4.cell? ⟨w.heap.size, 0, none⟩ = some (.int .i64 0) := HZ4.out.cell 0; have z1 : s4.cell? ⟨w.heap.size, 1, none⟩ = some (.slice k1 nk ck) := HZ4.out.cell 1; have z2 : s4.cell? ⟨w.heap.size, 2, none⟩ = some (.string ⟨#[]⟩) := HZ4.out.cell 2; have z3 : s4.cell? ⟨w.heap.size, 3, none⟩ = some (.string VA) := HZ4.out.cell 3; have z4 : s4.cell? ⟨w.heap.size, 4, none⟩ = some (.string ⟨#[]⟩) := HZ4.out.cell 4; have z5 : s4.cell? ⟨w.heap.size, 5, none⟩ = some (.slice none 0 0) := HZ4.out.cell 5; have z6 : s4.cell? ⟨w.heap.size, 6, none⟩ = some (.string ⟨#[]⟩) := HZ4.out.cell 6)
      | fail)
    go_ret
    exact ⟨by simp, HW4.out⟩
  | true =>
    go_wp2_with (first
      | ((with_reducible refine K.atO (.store 9 _ _) ?_); (fail_if_success (have := HZ0)); refine wpL_setV rfl _ _ _ rfl w.heap.size 2 (.string ⟨#[]⟩) rfl rfl rfl rfl _ _ HB2.out (by simp) infoS ?_; intro s0 HY0 FY0 HSY0; have HZ0 := HY0; have HW0 := hid (HF2.out.trans FY0.out fun k e => .inr (by have e : k = w.heap.size := e; omega)))
      | ((with_reducible refine K.atO (.store 9 _ _) ?_); (fail_if_success (have := HZ1)); (have := HZ0); refine wpL_setV rfl _ _ _ rfl w.heap.size 4 (.string ⟨#[]⟩) rfl rfl rfl rfl _ _ HZ0.out (by simp) infoS ?_; intro s1 HY1 FY1 HSY1; have HZ1 := HY1; have HW1 := hid (HW0.out.trans FY1.out fun k e => .inr (by have e : k = w.heap.size := e; omega)))
      | ((with_reducible refine K.atO (.store 23 _ _) ?_); (fail_if_success (have := HZ2)); (have := HZ1); refine wpL_setV rfl _ _ _ rfl w.heap.size 5 (.slice none 0 0) rfl rfl rfl rfl _ _ HZ1.out (by simp) infoSs ?_; intro s2 HY2 FY2 HSY2; have HZ2 := HY2; have HW2 := hid (HW1.out.trans FY2.out fun k e => .inr (by have e : k = w.heap.size := e; omega)))
      | ((with_reducible refine K.atO (.store 9 _ _) ?_); (fail_if_success (have := HZ3)); (have := HZ2); refine wpL_setV rfl _ _ _ rfl w.heap.size 6 (.string ⟨#[]⟩) rfl rfl rfl rfl _ _ HZ2.out (by simp) infoS ?_; intro s3 HY3 FY3 HSY3; have HZ3 := HY3; have HW3 := hid (HW2.out.trans FY3.out fun k e => .inr (by have e : k = w.heap.size := e; omega)))
      | ((with_reducible refine K.atO (.store 3 _ _) ?_); (fail_if_success (have := HZ4)); (have := HZ3); refine wpL_setV rfl _ _ _ rfl w.heap.size 0 (.int .i64 0) rfl rfl rfl rfl _ _ HZ3.out (by simp) infoI0 ?_; intro s4 HY4 FY4 HSY4; have HZ4 := HY4; have HW4 := hid (HW3.out.trans FY4.out fun k e => .inr (by have e : k = w.heap.size := e; omega)); have z0 : s4.cell? ⟨w.heap.size, 0, none⟩ = some (.int .i64 0) := HZ4.out.cell 0; have z1 : s4.cell? ⟨w.heap.size, 1, none⟩ = some (.slice k1 nk ck) := HZ4.out.cell 1; have z2 : s4.cell? ⟨w.heap.size, 2, none⟩ = some (.string ⟨#[]⟩) := HZ4.out.cell 2; have z3 : s4.cell? ⟨w.heap.size, 3, none⟩ = some (.string VA) := HZ4.out.cell 3; have z4 : s4.cell? ⟨w.heap.size, 4, none⟩ = some (.string ⟨#[]⟩) := HZ4.out.cell 4; have z5 : s4.cell? ⟨w.heap.size, 5, none⟩ = some (.slice none 0 0) := HZ4.out.cell 5; have z6 : s4.cell? ⟨w.heap.size, 6, none⟩ = some (.string ⟨#[]⟩) := HZ4.out.cell 6)
      | fail)
    refine (pempty_any (M + 1) E (.mk 0 kids [] vaB [] [] []) [.int .i64 0, .slice k1 nk ck, .string ⟨#[]⟩, .string VA, .string ⟨#[]⟩, .slice none 0 0, .string ⟨#[]⟩] s4 (by
      refine ⟨_, _, ?_, i64z, (Nat.zero_le _), (HSZ.out.2.2.1), (Nat.zero_le _), (Nat.zero_le _), tx_none _ _, HKS.out.noF HW4.out⟩
      simp only [Fl.kind, Fl.kids, Fl.type, Fl.value, Fl.first, Fl.any, Fl.last, HVA.out]
      rfl)).mono ?_
    rintro e w9 ⟨rfl, f9⟩
    rw [HEO.out]
    have HF9 := hid (HW4.out.trans' f9)
    clear f9
    go_wp2_with fail
    go_ret
    exact ⟨by cases EO <;> rfl, HF9.out⟩
set_option maxHeartbeats 8000000 in
theorem prf_7z (M : Nat) (E : Nat → Prop) (f : Fl) (cs : List Value) (w : World) (h : FlC M E w f cs) (hk : f.kind = 7) : Calls Try.prog 64 #[.agg cs.toArray, .int .i64 ((0 : Nat) : Int)] w fun e w' => e = .returned (.bool (rightF 0 f)) ∧ Fr No w w' := by
  obtain ⟨M, rfl⟩ := h.succ
  have H0 := hid h
  obtain ⟨vk, va, rfl, hi0, hz2, hz3, hz4, hz6, ht, hs⟩ := h
  obtain ⟨k1, ck, rfl, -, hkl⟩ := hs.form
  obtain ⟨a1, ca, rfl, -, hal⟩ := ht.form
  have HKS := hid hs; have HTX := hid ht
  obtain ⟨fk, kids, tyB, vaB, fiB, any, laB⟩ := f
  simp only [Fl.kind, Fl.kids, Fl.type, Fl.value, Fl.first, Fl.any, Fl.last] at hkl hal hi0 hz2 hz3 hz4 hz6 H0 HKS HTX ⊢
  have HSZ := hid (show I64 fk ∧ Sz tyB ∧ Sz vaB ∧ Sz fiB ∧ Sz laB from ⟨hi0, hz2, hz3, hz4, hz6⟩)
  clear ht hs hi0 hz2 hz3 hz4 hz6
  have hk : fk = 7 := hk
  subst hk
  have hR : rightF 0 (.mk 7 kids tyB vaB fiB any laB) = false := rfl
  rw [hR]
  clear hR
  obtain ⟨nk, hnk⟩ : ∃ n, kids.length = n := ⟨_, rfl⟩
  obtain ⟨na, hna⟩ : ∃ n, any.length = n := ⟨_, rfl⟩
  obtain ⟨TY, hTY⟩ : ∃ S, sb tyB = S := ⟨_, rfl⟩
  obtain ⟨VA, hVA⟩ : ∃ S, sb vaB = S := ⟨_, rfl⟩
  obtain ⟨FI, hFI⟩ : ∃ S, sb fiB = S := ⟨_, rfl⟩
  obtain ⟨LA, hLA⟩ : ∃ S, sb laB = S := ⟨_, rfl⟩
  rw [hnk] at hkl
  rw [hna] at hal
  rw [hnk, hna, hTY, hVA, hFI, hLA] at H0
  rw [hnk] at HKS
  rw [hna] at HTX
  rw [hnk, hna, hTY, hVA, hFI, hLA]
  have HNK := hid hnk; have HNA := hid hna; have HTY := hid hTY; have HVA := hid hVA; have HFI := hid hFI; have HLA := hid hLA
  have hkli : (nk : Int) ≤ 140737488351232 := by omega
  have hali : (na : Int) ≤ 140737488351232 := by omega
  clear hnk hna hTY hVA hFI hLA
  go_enter Try.func64, Try.ntmps64
  go_wp2_with (first
    | ((with_reducible refine K.atO (.box 25 _) ?_); refine wpL_box rfl _ _ rfl _ rfl [.int .i64 7, .slice k1 nk ck, .string TY, .string VA, .string FI, .slice a1 na ca, .string LA] rfl ?_; intro w1 HB1 F1 HS1; have c0 : w1.cell? ⟨w.heap.size, 0, none⟩ = some (.int .i64 7) := HB1.out.cell 0; have c1 : w1.cell? ⟨w.heap.size, 1, none⟩ = some (.slice k1 nk ck) := HB1.out.cell 1; have c2 : w1.cell? ⟨w.heap.size, 2, none⟩ = some (.string TY) := HB1.out.cell 2; have c3 : w1.cell? ⟨w.heap.size, 3, none⟩ = some (.string VA) := HB1.out.cell 3; have c4 : w1.cell? ⟨w.heap.size, 4, none⟩ = some (.string FI) := HB1.out.cell 4; have c5 : w1.cell? ⟨w.heap.size, 5, none⟩ = some (.slice a1 na ca) := HB1.out.cell 5; have c6 : w1.cell? ⟨w.heap.size, 6, none⟩ = some (.string LA) := HB1.out.cell 6)
    | ((with_reducible refine K.atO (.store 9 _ _) ?_); (fail_if_success (have := HZ0)); refine wpL_setV rfl _ _ _ rfl w.heap.size 2 (.string ⟨#[]⟩) rfl rfl rfl rfl _ _ HB1.out (by simp) infoS ?_; intro s0 HY0 FY0 HSY0; have HZ0 := HY0; have HW0 := hid (F1.out.trans FY0.out fun k e => .inr (by have e : k = w.heap.size := e; omega)))
    | ((with_reducible refine K.atO (.store 3 _ _) ?_); (fail_if_success (have := HZ1)); (have := HZ0); refine wpL_setV rfl _ _ _ rfl w.heap.size 0 (.int .i64 0) rfl rfl rfl rfl _ _ HZ0.out (by simp) infoI0 ?_; intro s1 HY1 FY1 HSY1; have HZ1 := HY1; have HW1 := hid (HW0.out.trans FY1.out fun k e => .inr (by have e : k = w.heap.size := e; omega)); have z0 : s1.cell? ⟨w.heap.size, 0, none⟩ = some (.int .i64 0) := HZ1.out.cell 0; have z1 : s1.cell? ⟨w.heap.size, 1, none⟩ = some (.slice k1 nk ck) := HZ1.out.cell 1; have z2 : s1.cell? ⟨w.heap.size, 2, none⟩ = some (.string ⟨#[]⟩) := HZ1.out.cell 2; have z3 : s1.cell? ⟨w.heap.size, 3, none⟩ = some (.string VA) := HZ1.out.cell 3; have z4 : s1.cell? ⟨w.heap.size, 4, none⟩ = some (.string FI) := HZ1.out.cell 4; have z5 : s1.cell? ⟨w.heap.size, 5, none⟩ = some (.slice a1 na ca) := HZ1.out.cell 5; have z6 : s1.cell? ⟨w.heap.size, 6, none⟩ = some (.string LA) := HZ1.out.cell 6)
    | fail)
  go_ret
  exact ⟨rfl, HW1.out⟩
set_option maxHeartbeats 8000000 in
theorem prf_7 (d : Nat) (hd1 : d ≤ 1000) (ih : prfOk d) (M : Nat) (E : Nat → Prop) (f : Fl) (cs : List Value) (w : World) (h : FlC M E w f cs) (hk : f.kind = 7) : Calls Try.prog 64 #[.agg cs.toArray, .int .i64 (((d + 1) : Nat) : Int)] w fun e w' => e = .returned (.bool (rightF (d + 1) f)) ∧ Fr No w w' := by
  obtain ⟨M, rfl⟩ := h.succ
  have H0 := hid h
  obtain ⟨vk, va, rfl, hi0, hz2, hz3, hz4, hz6, ht, hs⟩ := h
  obtain ⟨k1, ck, rfl, -, hkl⟩ := hs.form
  obtain ⟨a1, ca, rfl, -, hal⟩ := ht.form
  have HKS := hid hs; have HTX := hid ht
  obtain ⟨fk, kids, tyB, vaB, fiB, any, laB⟩ := f
  simp only [Fl.kind, Fl.kids, Fl.type, Fl.value, Fl.first, Fl.any, Fl.last] at hkl hal hi0 hz2 hz3 hz4 hz6 H0 HKS HTX ⊢
  have HSZ := hid (show I64 fk ∧ Sz tyB ∧ Sz vaB ∧ Sz fiB ∧ Sz laB from ⟨hi0, hz2, hz3, hz4, hz6⟩)
  clear ht hs hi0 hz2 hz3 hz4 hz6
  have hk : fk = 7 := hk
  subst hk
  have IH := hid ih
  clear ih
  have hR : rightF (d + 1) (.mk 7 kids tyB vaB fiB any laB) = (emptyF (.mk 0 kids [] vaB fiB any laB)) := by
    have ha : any.isEmpty = true → any.all (fun a => !a.isEmpty) = true := fun h => by rw [List.isEmpty_iff.1 h]; rfl
    have hc : kids.isEmpty = true → kids.all (rightF d) = true := fun h => by rw [List.isEmpty_iff.1 h]; rfl
    simp only [rightF, emptyF, kidsOk, partsOk, kidsK, valK, Fl.kind, Fl.kids, Fl.type, Fl.value, Fl.first, Fl.any, Fl.last]
    by_cases hl : kids.length = 1
    all_goals
     simp only [hl, decide_true, decide_false, Int.reduceEq, Bool.or_false, Bool.false_or, Bool.or_true, Bool.true_or, Bool.false_eq_true, if_false, if_true, List.isEmpty_nil]
     generalize any.all (fun a => !a.isEmpty) = x1 at ha ⊢
     generalize kids.all (rightF d) = x2 at hc ⊢
     generalize any.isEmpty = x3 at ha ⊢
     generalize kids.isEmpty = x4 at hc ⊢
     generalize tyB.isEmpty = x5
     generalize vaB.isEmpty = x6
     generalize fiB.isEmpty = x7
     generalize laB.isEmpty = x8
     revert ha hc
     revert x1 x2 x3 x4 x5 x6 x7 x8
     decide +kernel
  rw [hR]
  clear hR
  obtain ⟨EO, hEO⟩ : ∃ b, emptyF (.mk 0 kids [] vaB fiB any laB) = b := ⟨_, rfl⟩
  rw [hEO]
  have HEO := hid hEO
  clear hEO
  obtain ⟨nk, hnk⟩ : ∃ n, kids.length = n := ⟨_, rfl⟩
  obtain ⟨na, hna⟩ : ∃ n, any.length = n := ⟨_, rfl⟩
  obtain ⟨TY, hTY⟩ : ∃ S, sb tyB = S := ⟨_, rfl⟩
  obtain ⟨VA, hVA⟩ : ∃ S, sb vaB = S := ⟨_, rfl⟩
  obtain ⟨FI, hFI⟩ : ∃ S, sb fiB = S := ⟨_, rfl⟩
  obtain ⟨LA, hLA⟩ : ∃ S, sb laB = S := ⟨_, rfl⟩
  rw [hnk] at hkl
  rw [hna] at hal
  rw [hnk, hna, hTY, hVA, hFI, hLA] at H0
  rw [hnk] at HKS
  rw [hna] at HTX
  rw [hnk, hna, hTY, hVA, hFI, hLA]
  have HNK := hid hnk; have HNA := hid hna; have HTY := hid hTY; have HVA := hid hVA; have HFI := hid hFI; have HLA := hid hLA
  have hkli : (nk : Int) ≤ 140737488351232 := by omega
  have hali : (na : Int) ≤ 140737488351232 := by omega
  clear hnk hna hTY hVA hFI hLA
  go_enter Try.func64, Try.ntmps64
  have hd0 : (0 : Int) < ((d + 1 : Nat) : Int) := by omega
  go_wp2_with (first
    | ((with_reducible refine K.atO (.box 25 _) ?_); refine wpL_box rfl _ _ rfl _ rfl [.int .i64 7, .slice k1 nk ck, .string TY, .string VA, .string FI, .slice a1 na ca, .string LA] rfl ?_; intro w1 HB1 F1 HS1; have c0 : w1.cell? ⟨w.heap.size, 0, none⟩ = some (.int .i64 7) := HB1.out.cell 0; have c1 : w1.cell? ⟨w.heap.size, 1, none⟩ = some (.slice k1 nk ck) := HB1.out.cell 1; have c2 : w1.cell? ⟨w.heap.size, 2, none⟩ = some (.string TY) := HB1.out.cell 2; have c3 : w1.cell? ⟨w.heap.size, 3, none⟩ = some (.string VA) := HB1.out.cell 3; have c4 : w1.cell? ⟨w.heap.size, 4, none⟩ = some (.string FI) := HB1.out.cell 4; have c5 : w1.cell? ⟨w.heap.size, 5, none⟩ = some (.slice a1 na ca) := HB1.out.cell 5; have c6 : w1.cell? ⟨w.heap.size, 6, none⟩ = some (.string LA) := HB1.out.cell 6)
    | ((with_reducible refine K.atO (.store 9 _ _) ?_); (fail_if_success (have := HZ0)); refine wpL_setV rfl _ _ _ rfl w.heap.size 2 (.string ⟨#[]⟩) rfl rfl rfl rfl _ _ HB1.out (by simp) infoS ?_; intro s0 HY0 FY0 HSY0; have HZ0 := HY0; have HW0 := hid (F1.out.trans FY0.out fun k e => .inr (by have e : k = w.heap.size := e; omega)))
    | ((with_reducible refine K.atO (.store 3 _ _) ?_); (fail_if_success (have := HZ1)); (have := HZ0); refine wpL_setV rfl _ _ _ rfl w.heap.size 0 (.int .i64 0) rfl rfl rfl rfl _ _ HZ0.out (by simp) infoI0 ?_; intro s1 HY1 FY1 HSY1; have HZ1 := HY1; have HW1 := hid (HW0.out.trans FY1.out fun k e => .inr (by have e : k = w.heap.size := e; omega)); have z0 : s1.cell? ⟨w.heap.size, 0, none⟩ = some (.int .i64 0) := HZ1.out.cell 0; have z1 : s1.cell? ⟨w.heap.size, 1, none⟩ = some (.slice k1 nk ck) := HZ1.out.cell 1; have z2 : s1.cell? ⟨w.heap.size, 2, none⟩ = some (.string ⟨#[]⟩) := HZ1.out.cell 2; have z3 : s1.cell? ⟨w.heap.size, 3, none⟩ = some (.string VA) := HZ1.out.cell 3; have z4 : s1.cell? ⟨w.heap.size, 4, none⟩ = some (.string FI) := HZ1.out.cell 4; have z5 : s1.cell? ⟨w.heap.size, 5, none⟩ = some (.slice a1 na ca) := HZ1.out.cell 5; have z6 : s1.cell? ⟨w.heap.size, 6, none⟩ = some (.string LA) := HZ1.out.cell 6)
    | fail)
  refine (pempty_any (M + 1) E (.mk 0 kids [] vaB fiB any laB) [.int .i64 0, .slice k1 nk ck, .string ⟨#[]⟩, .string VA, .string FI, .slice a1 na ca, .string LA] s1 (by
    refine ⟨_, _, ?_, i64z, (Nat.zero_le _), (HSZ.out.2.2.1), (HSZ.out.2.2.2.1), (HSZ.out.2.2.2.2), HTX.out.no HW1.out, HKS.out.noF HW1.out⟩
    simp only [Fl.kind, Fl.kids, Fl.type, Fl.value, Fl.first, Fl.any, Fl.last, HVA.out, HFI.out, HLA.out]
    rfl)).mono ?_
  rintro e w9 ⟨rfl, f9⟩
  rw [HEO.out]
  have HF9 := hid (HW1.out.trans' f9)
  clear f9
  go_wp2_with fail
  go_ret
  exact ⟨by cases EO <;> rfl, HF9.out⟩
set_option maxHeartbeats 8000000 in
theorem prf_none (d : Nat) (M : Nat) (E : Nat → Prop) (f : Fl) (cs : List Value) (w : World) (h : FlC M E w f cs) (hk : ¬ f.kind = 0 ∧ ¬ f.kind = 1 ∧ ¬ f.kind = 2 ∧ ¬ f.kind = 3 ∧ ¬ f.kind = 4 ∧ ¬ f.kind = 5 ∧ ¬ f.kind = 6 ∧ ¬ f.kind = 7) : Calls Try.prog 64 #[.agg cs.toArray, .int .i64 (d : Int)] w fun e w' => e = .returned (.bool (rightF d f)) ∧ Fr No w w' := by
  have hR : rightF d f = false := by
    cases d with
    | zero => rfl
    | succ d => simp [rightF, kidsK, valK, hk.1, hk.2.1, hk.2.2.1, hk.2.2.2.1, hk.2.2.2.2.1, hk.2.2.2.2.2.1, hk.2.2.2.2.2.2.1, hk.2.2.2.2.2.2.2]
  rw [hR]
  clear hR
  obtain ⟨M, rfl⟩ := h.succ
  have H0 := hid h
  obtain ⟨vk, va, rfl, hi0, hz2, hz3, hz4, hz6, ht, hs⟩ := h
  obtain ⟨k1, ck, rfl, -, hkl⟩ := hs.form
  obtain ⟨a1, ca, rfl, -, hal⟩ := ht.form
  have HKS := hid hs; have HTX := hid ht
  obtain ⟨fk, kids, tyB, vaB, fiB, any, laB⟩ := f
  simp only [Fl.kind, Fl.kids, Fl.type, Fl.value, Fl.first, Fl.any, Fl.last] at hkl hal hi0 hz2 hz3 hz4 hz6 H0 HKS HTX ⊢
  have HSZ := hid (show I64 fk ∧ Sz tyB ∧ Sz vaB ∧ Sz fiB ∧ Sz laB from ⟨hi0, hz2, hz3, hz4, hz6⟩)
  clear ht hs hi0 hz2 hz3 hz4 hz6
  simp only [Fl.kind] at hk
  obtain ⟨h0, h1, h2, h3, h4, h5, h6, h7⟩ := hk
  have g0 : (fk == 0) = false := by simpa using h0
  have g1 : (fk == 1) = false := by simpa using h1
  have g2 : (fk == 2) = false := by simpa using h2
  have g3 : (fk == 3) = false := by simpa using h3
  have g4 : (fk == 4) = false := by simpa using h4
  have g5 : (fk == 5) = false := by simpa using h5
  have g6 : (fk == 6) = false := by simpa using h6
  have g7 : (fk == 7) = false := by simpa using h7
  clear h0 h1 h2 h3 h4 h5 h6 h7
  obtain ⟨nk, hnk⟩ : ∃ n, kids.length = n := ⟨_, rfl⟩
  obtain ⟨na, hna⟩ : ∃ n, any.length = n := ⟨_, rfl⟩
  obtain ⟨TY, hTY⟩ : ∃ S, sb tyB = S := ⟨_, rfl⟩
  obtain ⟨VA, hVA⟩ : ∃ S, sb vaB = S := ⟨_, rfl⟩
  obtain ⟨FI, hFI⟩ : ∃ S, sb fiB = S := ⟨_, rfl⟩
  obtain ⟨LA, hLA⟩ : ∃ S, sb laB = S := ⟨_, rfl⟩
  rw [hnk] at hkl
  rw [hna] at hal
  rw [hnk, hna, hTY, hVA, hFI, hLA] at H0
  rw [hnk] at HKS
  rw [hna] at HTX
  rw [hnk, hna, hTY, hVA, hFI, hLA]
  have HNK := hid hnk; have HNA := hid hna; have HTY := hid hTY; have HVA := hid hVA; have HFI := hid hFI; have HLA := hid hLA
  have hkli : (nk : Int) ≤ 140737488351232 := by omega
  have hali : (na : Int) ≤ 140737488351232 := by omega
  clear hnk hna hTY hVA hFI hLA
  by_cases hd : 0 < (d : Int)
  · go_enter Try.func64, Try.ntmps64
    go_wp2_with (first
      | ((with_reducible refine K.atO (.box 25 _) ?_); refine wpL_box rfl _ _ rfl _ rfl [.int .i64 fk, .slice k1 nk ck, .string TY, .string VA, .string FI, .slice a1 na ca, .string LA] rfl ?_; intro w1 HB1 F1 HS1; have c0 : w1.cell? ⟨w.heap.size, 0, none⟩ = some (.int .i64 fk) := HB1.out.cell 0)
      | fail)
    go_ret
    exact ⟨rfl, F1.out⟩
  · go_enter Try.func64, Try.ntmps64
    go_wp2_with (first
      | ((with_reducible refine K.atO (.box 25 _) ?_); refine wpL_box rfl _ _ rfl _ rfl [.int .i64 fk, .slice k1 nk ck, .string TY, .string VA, .string FI, .slice a1 na ca, .string LA] rfl ?_; intro w1 HB1 F1 HS1; have c0 : w1.cell? ⟨w.heap.size, 0, none⟩ = some (.int .i64 fk) := HB1.out.cell 0)
      | fail)
    go_ret
    exact ⟨rfl, F1.out⟩
theorem prf_any : ∀ d, d ≤ 1000 → prfOk d
  | 0 => fun _ M E f cs w h => by
    by_cases h0 : f.kind = 0
    · exact prf_0z M E f cs w h h0
    by_cases h1 : f.kind = 1
    · exact prf_1z M E f cs w h h1
    by_cases h2 : f.kind = 2
    · exact prf_2z M E f cs w h h2
    by_cases h3 : f.kind = 3
    · exact prf_3z M E f cs w h h3
    by_cases h4 : f.kind = 4
    · exact prf_4z M E f cs w h h4
    by_cases h5 : f.kind = 5
    · exact prf_5z M E f cs w h h5
    by_cases h6 : f.kind = 6
    · exact prf_6z M E f cs w h h6
    by_cases h7 : f.kind = 7
    · exact prf_7z M E f cs w h h7
    exact prf_none 0 M E f cs w h ⟨h0, h1, h2, h3, h4, h5, h6, h7⟩
  | d + 1 => fun hd M E f cs w h => by
    have ih := prf_any d (by omega)
    by_cases h0 : f.kind = 0
    · exact prf_0 d (by omega) ih M E f cs w h h0
    by_cases h1 : f.kind = 1
    · exact prf_1 d (by omega) ih M E f cs w h h1
    by_cases h2 : f.kind = 2
    · exact prf_2 d (by omega) ih M E f cs w h h2
    by_cases h3 : f.kind = 3
    · exact prf_3 d (by omega) ih M E f cs w h h3
    by_cases h4 : f.kind = 4
    · exact prf_4 d (by omega) ih M E f cs w h h4
    by_cases h5 : f.kind = 5
    · exact prf_5 d (by omega) ih M E f cs w h h5
    by_cases h6 : f.kind = 6
    · exact prf_6 d (by omega) ih M E f cs w h h6
    by_cases h7 : f.kind = 7
    · exact prf_7 d (by omega) ih M E f cs w h h7
    exact prf_none (d + 1) M E f cs w h ⟨h0, h1, h2, h3, h4, h5, h6, h7⟩
end Go.Proofs.Ythjmkfpdbbfcpaa.ME
