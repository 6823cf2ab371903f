/-
  Part 6 of the proof: TrP, TrT, TrR.
-/
import Derived.Test.YtflfmkokfbgclaaGreatRc05
set_option linter.unusedSimpArgs false
set_option linter.unusedVariables false
namespace Go.Proofs.YtflfmkokfbgclaaGreat.TR
set_option maxRecDepth 100000
open Go.RowKit K

/-- A place in an owned row of texts. -/
theorem own_text {w : World} {v : Value} {ks : List S} (h : w.ownsRow 0 9 1 v ks.length (sv ks)) (hp : 0 < ks.length) : ∃ g c, v = .slice (some ⟨g, 0, none⟩) ks.length c ∧ ∀ i x, ks[i]? = some x → w.cell? ⟨g, i, none⟩ = some (.string x) := by
  obtain ⟨g, cap, cur, rfl, hB, -, -, -, ht⟩ := own_open h hp
  refine ⟨g, cap, rfl, fun i x hi => ?_⟩
  have hj : (sv ks)[i]? = some (.string x) := by simp [sv, hi]
  rw [hB.cell]
  rw [← ht, List.getElem?_take] at hj
  split at hj
  · exact hj
  · cases hj

theorem run_geq (x y : S) (w : World) : (binOp .geq 9 (.string x) (.string y)).run Tryz.prog w = .ok (.bool (!lt x y)) w := by rfl
theorem run_gtr (x y : S) (w : World) : (binOp .gtr 9 (.string x) (.string y)).run Tryz.prog w = .ok (.bool (lt y x)) w := by
  have hb : (!(Op.bytesLess x.toList y.toList || x.toList == y.toList)) = lt y x := by
    rw [eq_beq]
    show (!(lt x y || decide (x = y))) = lt y x
    by_cases he : x = y
    · subst he; simp [lt_irr]
    · cases h : lt x y
      · cases h' : lt y x
        · exact absurd (lt_tot h h') he
        · simp [he]
      · simp [lt_asymm h]
  rw [← hb]; rfl
theorem run_eqls (x y : S) (w : World) : (binOp .eql 9 (.string x) (.string y)).run Tryz.prog w = .ok (.bool (decide (x = y))) w := by rw [← eq_beq]; rfl
set_option maxHeartbeats 1000000 in
theorem pos_cl (w : World) (i n c g b bn bk : Nat) (key x : S) (h0 : w.cell? ⟨bn, 0, none⟩ = some (.pointer (some ⟨b, 0, none⟩))) (h1 : w.cell? ⟨b, 0, none⟩ = some (.slice (some ⟨g, 0, none⟩) n c)) (h2 : w.cell? ⟨g, i, none⟩ = some (.string x)) (h3 : w.cell? ⟨bk, 0, none⟩ = some (.string key)) (hi : i < n) :
    Calls Tryz.prog 116 #[.int .i64 i, .pointer (some ⟨bn, 0, none⟩), .pointer (some ⟨bk, 0, none⟩)] w fun e w' => e = .returned (.bool (!lt x key)) ∧ Fr No w w' := by
  have hi0 : (i : Int) < n := by omega
  have hb := run_geq x key
  go_enter Tryz.func116, Tryz.ntmps116
  go_wp2_with fail
  have hold : Facts.hold [(0, fun w' => w'.cell? ⟨bn, 0, none⟩ = some (.pointer (some ⟨b, 0, none⟩))), (3, fun w' => w'.cell? ⟨b, 0, none⟩ = some (.slice (some ⟨g, 0, none⟩) n c)), (6, fun w' => w'.cell? ⟨g, i, none⟩ = some (.string x)), (7, fun w' => w'.cell? ⟨bk, 0, none⟩ = some (.string key))] w.drew := Facts.cons_hold h0 (Facts.cons_hold h1 (Facts.cons_hold h2 (Facts.cons_hold h3 (Facts.nil_hold _))))
  refine wpD_region hold (by kernel_rfl) 10 rfl ?_
  (refine wpD_take 0 _ rfl (by kernel_rfl) (by kernel_rfl) (by kernel_rfl) (fun _ _ _ h => h) List.mem_cons_self (by rfl) (v := ?_) ?_ (by assumption) ?_; rotate_left; (intro _w _hw; go_simp; try with_reducible rfl); simp only [Act.put, List.setIfInBounds_toArray, List.set_cons_zero, List.set_cons_succ])
  (refine wpD_plain 1 (v := ?_) rfl (by kernel_rfl) (by kernel_rfl) (by kernel_rfl) (fun _ _ _ h => h) (by rfl) ?_ (by assumption) ?_; rotate_left; (intro _w; go_simp; try with_reducible rfl); simp only [Act.put, List.setIfInBounds_toArray, List.set_cons_zero, List.set_cons_succ])
  (refine wpD_plain 2 (v := ?_) rfl (by kernel_rfl) (by kernel_rfl) (by kernel_rfl) (fun _ _ _ h => h) (by rfl) ?_ (by assumption) ?_; rotate_left; (intro _w; go_simp; try with_reducible rfl); simp only [Act.put, List.setIfInBounds_toArray, List.set_cons_zero, List.set_cons_succ])
  (refine wpD_take 3 _ rfl (by kernel_rfl) (by kernel_rfl) (by kernel_rfl) (fun _ _ _ h => h) (List.mem_cons_of_mem _ List.mem_cons_self) (by rfl) (v := ?_) ?_ (by assumption) ?_; rotate_left; (intro _w _hw; go_simp; try with_reducible rfl); simp only [Act.put, List.setIfInBounds_toArray, List.set_cons_zero, List.set_cons_succ])
  (refine wpD_plain 4 (v := ?_) rfl (by kernel_rfl) (by kernel_rfl) (by kernel_rfl) (fun _ _ _ h => h) (by rfl) ?_ (by assumption) ?_; rotate_left; (intro _w; go_simp; try with_reducible rfl); simp only [Act.put, List.setIfInBounds_toArray, List.set_cons_zero, List.set_cons_succ])
  (refine wpD_plain 5 (v := ?_) rfl (by kernel_rfl) (by kernel_rfl) (by kernel_rfl) (fun _ _ _ h => h) (by rfl) ?_ (by assumption) ?_; rotate_left; (intro _w; go_simp; try with_reducible rfl); simp only [Act.put, List.setIfInBounds_toArray, List.set_cons_zero, List.set_cons_succ])
  (refine wpD_take 6 _ rfl (by kernel_rfl) (by kernel_rfl) (by kernel_rfl) (fun _ _ _ h => h) (List.mem_cons_of_mem _ (List.mem_cons_of_mem _ List.mem_cons_self)) (by rfl) (v := ?_) ?_ (by assumption) ?_; rotate_left; (intro _w _hw; go_simp; try with_reducible rfl); simp only [Act.put, List.setIfInBounds_toArray, List.set_cons_zero, List.set_cons_succ])
  (refine wpD_take 7 _ rfl (by kernel_rfl) (by kernel_rfl) (by kernel_rfl) (fun _ _ _ h => h) (List.mem_cons_of_mem _ (List.mem_cons_of_mem _ (List.mem_cons_of_mem _ List.mem_cons_self))) (by rfl) (v := ?_) ?_ (by assumption) ?_; rotate_left; (intro _w _hw; go_simp; try with_reducible rfl); simp only [Act.put, List.setIfInBounds_toArray, List.set_cons_zero, List.set_cons_succ])
  (refine wpD_plain 8 (v := (.bool (!lt x key))) rfl (by kernel_rfl) (by kernel_rfl) (by kernel_rfl) (fun _ _ _ h => h) (by rfl) ?_ (by assumption) ?_; (intro _w; go_simp; skip); simp only [Act.put, List.setIfInBounds_toArray, List.set_cons_zero, List.set_cons_succ])
  (refine wpD_plain 9 (v := ?_) rfl (by kernel_rfl) (by kernel_rfl) (by kernel_rfl) (fun _ _ _ h => h) (by rfl) ?_ (by assumption) ?_; rotate_left; (intro _w; go_simp; try with_reducible rfl); simp only [Act.put, List.setIfInBounds_toArray, List.set_cons_zero, List.set_cons_succ])
  refine wpD_done (by kernel_rfl) ?_ _
  clear hold
  go_wp2
  go_ret
  exact ⟨rfl, (Fr.refl _ _).drew⟩
set_option maxHeartbeats 1000000 in
theorem hold_cl (w : World) (i n c g b bn bk : Nat) (key x : S) (h0 : w.cell? ⟨bn, 0, none⟩ = some (.pointer (some ⟨b, 0, none⟩))) (h1 : w.cell? ⟨b, 0, none⟩ = some (.slice (some ⟨g, 0, none⟩) n c)) (h2 : w.cell? ⟨g, i, none⟩ = some (.string x)) (h3 : w.cell? ⟨bk, 0, none⟩ = some (.string key)) (hi : i < n) :
    Calls Tryz.prog 114 #[.int .i64 i, .pointer (some ⟨bn, 0, none⟩), .pointer (some ⟨bk, 0, none⟩)] w fun e w' => e = .returned (.bool (lt key x)) ∧ Fr No w w' := by
  have hi0 : (i : Int) < n := by omega
  have hb := run_gtr x key
  go_enter Tryz.func114, Tryz.ntmps114
  go_wp2_with fail
  have hold : Facts.hold [(0, fun w' => w'.cell? ⟨bn, 0, none⟩ = some (.pointer (some ⟨b, 0, none⟩))), (3, fun w' => w'.cell? ⟨b, 0, none⟩ = some (.slice (some ⟨g, 0, none⟩) n c)), (6, fun w' => w'.cell? ⟨g, i, none⟩ = some (.string x)), (7, fun w' => w'.cell? ⟨bk, 0, none⟩ = some (.string key))] w.drew := Facts.cons_hold h0 (Facts.cons_hold h1 (Facts.cons_hold h2 (Facts.cons_hold h3 (Facts.nil_hold _))))
  refine wpD_region hold (by kernel_rfl) 10 rfl ?_
  (refine wpD_take 0 _ rfl (by kernel_rfl) (by kernel_rfl) (by kernel_rfl) (fun _ _ _ h => h) List.mem_cons_self (by rfl) (v := ?_) ?_ (by assumption) ?_; rotate_left; (intro _w _hw; go_simp; try with_reducible rfl); simp only [Act.put, List.setIfInBounds_toArray, List.set_cons_zero, List.set_cons_succ])
  (refine wpD_plain 1 (v := ?_) rfl (by kernel_rfl) (by kernel_rfl) (by kernel_rfl) (fun _ _ _ h => h) (by rfl) ?_ (by assumption) ?_; rotate_left; (intro _w; go_simp; try with_reducible rfl); simp only [Act.put, List.setIfInBounds_toArray, List.set_cons_zero, List.set_cons_succ])
  (refine wpD_plain 2 (v := ?_) rfl (by kernel_rfl) (by kernel_rfl) (by kernel_rfl) (fun _ _ _ h => h) (by rfl) ?_ (by assumption) ?_; rotate_left; (intro _w; go_simp; try with_reducible rfl); simp only [Act.put, List.setIfInBounds_toArray, List.set_cons_zero, List.set_cons_succ])
  (refine wpD_take 3 _ rfl (by kernel_rfl) (by kernel_rfl) (by kernel_rfl) (fun _ _ _ h => h) (List.mem_cons_of_mem _ List.mem_cons_self) (by rfl) (v := ?_) ?_ (by assumption) ?_; rotate_left; (intro _w _hw; go_simp; try with_reducible rfl); simp only [Act.put, List.setIfInBounds_toArray, List.set_cons_zero, List.set_cons_succ])
  (refine wpD_plain 4 (v := ?_) rfl (by kernel_rfl) (by kernel_rfl) (by kernel_rfl) (fun _ _ _ h => h) (by rfl) ?_ (by assumption) ?_; rotate_left; (intro _w; go_simp; try with_reducible rfl); simp only [Act.put, List.setIfInBounds_toArray, List.set_cons_zero, List.set_cons_succ])
  (refine wpD_plain 5 (v := ?_) rfl (by kernel_rfl) (by kernel_rfl) (by kernel_rfl) (fun _ _ _ h => h) (by rfl) ?_ (by assumption) ?_; rotate_left; (intro _w; go_simp; try with_reducible rfl); simp only [Act.put, List.setIfInBounds_toArray, List.set_cons_zero, List.set_cons_succ])
  (refine wpD_take 6 _ rfl (by kernel_rfl) (by kernel_rfl) (by kernel_rfl) (fun _ _ _ h => h) (List.mem_cons_of_mem _ (List.mem_cons_of_mem _ List.mem_cons_self)) (by rfl) (v := ?_) ?_ (by assumption) ?_; rotate_left; (intro _w _hw; go_simp; try with_reducible rfl); simp only [Act.put, List.setIfInBounds_toArray, List.set_cons_zero, List.set_cons_succ])
  (refine wpD_take 7 _ rfl (by kernel_rfl) (by kernel_rfl) (by kernel_rfl) (fun _ _ _ h => h) (List.mem_cons_of_mem _ (List.mem_cons_of_mem _ (List.mem_cons_of_mem _ List.mem_cons_self))) (by rfl) (v := ?_) ?_ (by assumption) ?_; rotate_left; (intro _w _hw; go_simp; try with_reducible rfl); simp only [Act.put, List.setIfInBounds_toArray, List.set_cons_zero, List.set_cons_succ])
  (refine wpD_plain 8 (v := (.bool (lt key x))) rfl (by kernel_rfl) (by kernel_rfl) (by kernel_rfl) (fun _ _ _ h => h) (by rfl) ?_ (by assumption) ?_; (intro _w; go_simp; skip); simp only [Act.put, List.setIfInBounds_toArray, List.set_cons_zero, List.set_cons_succ])
  (refine wpD_plain 9 (v := ?_) rfl (by kernel_rfl) (by kernel_rfl) (by kernel_rfl) (fun _ _ _ h => h) (by rfl) ?_ (by assumption) ?_; rotate_left; (intro _w; go_simp; try with_reducible rfl); simp only [Act.put, List.setIfInBounds_toArray, List.set_cons_zero, List.set_cons_succ])
  refine wpD_done (by kernel_rfl) ?_ _
  clear hold
  go_wp2
  go_ret
  exact ⟨rfl, (Fr.refl _ _).drew⟩

def hit (l : List S) (key : S) (i : Nat) : Bool := decide (l[i]? = some key)
theorem ent_pos (vs : Array Value) (w : World) : (callFunc 116 vs).run Tryz.prog w = .ok (.enter 116 vs) w := by kernel_rfl
theorem ent_hold (vs : Array Value) (w : World) : (callFunc 114 vs).run Tryz.prog w = .ok (.enter 114 vs) w := by kernel_rfl
theorem hmf (fn : Fn) (first cap : Array Value) (w : World) : (Instr.makeFunc fn first cap).run Tryz.prog w = .ok (.func fn first cap) w := rfl
/-- Keys in rising order. -/
def Rises (ks : List S) : Prop := ks.Pairwise fun a b => lt a b = true
/-- Where a key stands or would stand. -/
structure PartK (ks : List S) (k : S) (i : Nat) : Prop where
  le : i ≤ ks.length
  lo : ∀ j x, j < i → ks[j]? = some x → lt x k = true
  hi : ∀ j x, i ≤ j → ks[j]? = some x → lt x k = false
theorem Rises.mono {ks : List S} (h : Rises ks) {i j : Nat} {x y : S} (hij : i ≤ j) (hx : ks[i]? = some x) (hy : ks[j]? = some y) : lt y x = false := by
  rcases Nat.lt_or_ge i j with h1 | h1
  · obtain ⟨a, rfl⟩ := List.getElem?_eq_some_iff.1 hx
    obtain ⟨b, rfl⟩ := List.getElem?_eq_some_iff.1 hy
    exact lt_asymm (List.pairwise_iff_getElem.1 h i j a b h1)
  · obtain rfl : i = j := by omega
    rw [hx] at hy
    cases hy
    exact lt_irr _
set_option maxHeartbeats 2000000 in
theorem position_any (w : World) (b : Nat) (kv cv : Value) (ks : List S) (cs : List Value) (key : S) (h : NdAt w 160 9 1 b kv cv ks cs) (hs : Rises ks) (hn : ks.length ≤ 8796093022208) :
    Calls Tryz.prog 100 #[.pointer (some ⟨b, 0, none⟩), .string key] w fun e w' => ∃ i : Nat, e = .returned (.tuple #[.int .i64 i, .bool (hit ks key i)]) ∧ PartK ks key i ∧ Fr No w w' := by
  have H := hid h; have HS := hid hs; have HN := hid hn
  clear h hs hn
  have mf := hmf
  go_enter Tryz.func100, Tryz.ntmps100
  go_wp2_with (first
    | ((with_reducible show wpList _ _ _ (⟨_, .box 131 _, _, _, _, _⟩ :: _) _ _); refine wpL_box rfl _ _ rfl _ rfl [.pointer (some ⟨b, 0, none⟩)] rfl ?_; intro w1 HB1 F1 HS1)
    | ((with_reducible show wpList _ _ _ (⟨_, .box 9 _, _, _, _, _⟩ :: _) _ _); refine wpL_box rfl _ _ rfl _ rfl [.string key] rfl ?_; intro w2 HB2 F2 HS2; have c0 : w2.cell? ⟨w.heap.size, 0, none⟩ = some (.pointer (some ⟨b, 0, none⟩)) := (HB1.out.fr F2.out id).cell 0))
  have F02 : Hid (Fr No w w2) := hid (F1.out.trans' F2.out)
  have H2 : Hid (NdAt w2 160 9 1 b kv cv ks cs) := hid (H.out.fr F02.out (fun _ _ e => e))
  refine (size_s w2 b kv cv ks cs H2.out).mono ?_
  rintro e w3 ⟨rfl, rfl⟩
  go_wp2_with fail
  have hcl : ∀ (i : Nat) (W : World), i < ks.length → Fr No w2 W → Calls Tryz.prog 116 (Value.int .i64 i :: [.pointer (some ⟨w.heap.size, 0, none⟩), .pointer (some ⟨w1.heap.size, 0, none⟩)]).toArray W fun e W' => e = .returned (.bool (!lt (ks.getD i ⟨#[]⟩) key)) ∧ Fr No W W' := fun i W hi hF => by
    obtain ⟨g, c, rfl, hcell⟩ := own_text H2.out.rk (by omega)
    have e : ks[i]? = some (ks.getD i ⟨#[]⟩) := by rw [List.getD_eq_getElem?_getD, List.getElem?_eq_getElem hi]; rfl
    exact pos_cl W i ks.length c g b w.heap.size w1.heap.size key (ks.getD i ⟨#[]⟩) (hF.cell c0 id) (hF.cell (H2.out.blk.cell 0) id) (hF.cell (hcell i _ e) id) (hF.cell (HB2.out.cell 0) id) hi
  have hmono : ∀ i j, i ≤ j → j < ks.length → (!lt (ks.getD i ⟨#[]⟩) key) = true → (!lt (ks.getD j ⟨#[]⟩) key) = true := fun i j hij hj hp => by
    have e1 : ks[i]? = some (ks.getD i ⟨#[]⟩) := by rw [List.getD_eq_getElem?_getD, List.getElem?_eq_getElem (by omega)]; rfl
    have e2 : ks[j]? = some (ks.getD j ⟨#[]⟩) := by rw [List.getD_eq_getElem?_getD, List.getElem?_eq_getElem hj]; rfl
    have h1 := HS.out.mono hij e1 e2
    simp only [Bool.not_eq_true'] at hp ⊢
    exact le_trans hp h1
  have hse := search_any ks.length 116 [.pointer (some ⟨w.heap.size, 0, none⟩), .pointer (some ⟨w1.heap.size, 0, none⟩)] (fun i => !lt (ks.getD i ⟨#[]⟩) key) w2 (by have := HN.out; omega) ent_pos hcl hmono
  have HSE := hid hse
  clear hse hcl hmono
  refine HSE.out.mono ?_
  rintro e w3 ⟨i, rfl, hin, hlo, hhi, f3⟩
  have F3 := hid f3
  have HP : Hid (PartK ks key i) := hid ⟨hin, fun j x hj hx => by
      have := hlo j hj
      simp only [Bool.not_eq_false'] at this
      rw [List.getD_eq_getElem?_getD, hx] at this
      exact this, fun j x hj hx => by
      obtain ⟨hj2, -⟩ := List.getElem?_eq_some_iff.1 hx
      have := hhi j hj hj2
      simp only [Bool.not_eq_true'] at this
      rw [List.getD_eq_getElem?_getD, hx] at this
      exact this⟩
  clear f3 hlo hhi
  have HIN := hid hin
  have c3 : w3.cell? ⟨w.heap.size, 0, none⟩ = some (.pointer (some ⟨b, 0, none⟩)) := F3.out.cell c0 id
  have HA3 : Hid (NdAt w3 160 9 1 b kv cv ks cs) := hid (H2.out.fr F3.out (fun _ _ e => e))
  have F13 : Hid (Fr No w w3) := hid (F02.out.trans' F3.out)
  by_cases hlt : i < ks.length
  · obtain ⟨g, c, hkv, hcell⟩ := own_text HA3.out.rk (by omega)
    obtain ⟨x, hx⟩ : ∃ x, ks[i]? = some x := ⟨_, List.getElem?_eq_getElem hlt⟩
    have HX := hid hx
    have c4 : w3.cell? ⟨b, 0, none⟩ = some (.slice (some ⟨g, 0, none⟩) ks.length c) := by rw [← hkv]; exact HA3.out.blk.cell 0
    have c5 : w3.cell? ⟨g, i, none⟩ = some (.string x) := hcell i x hx
    have c6 : w3.cell? ⟨w1.heap.size, 0, none⟩ = some (.string key) := F3.out.cell (HB2.out.cell 0) id
    have hlt' : (i : Int) < (ks.length : Int) := by omega
    have heq := run_eqls x key
    have hb1 : decide ((i : Int) < (ks.length : Int)) = true := by simpa using hlt
    have hb2 : decide (i < ks.length) = true := by simpa using hlt
    have HZ := hid (size_s w3.drew b kv cv ks cs (HA3.out.fr (Fr.refl No w3).drew (fun _ _ e => e)))
    clear hcell hkv hx
    generalize ks.length = n at *
    go_wp2_with fail
    have hold : Facts.hold [(2, fun w' => w'.cell? ⟨w.heap.size, 0, none⟩ = some (.pointer (some ⟨b, 0, none⟩))), (6, fun w' => w'.cell? ⟨w.heap.size, 0, none⟩ = some (.pointer (some ⟨b, 0, none⟩))), (9, fun w' => w'.cell? ⟨b, 0, none⟩ = some (.slice (some ⟨g, 0, none⟩) n c)), (12, fun w' => w'.cell? ⟨g, i, none⟩ = some (.string x)), (13, fun w' => w'.cell? ⟨w1.heap.size, 0, none⟩ = some (.string key))] w3.drew := Facts.cons_hold c3 (Facts.cons_hold c3 (Facts.cons_hold c4 (Facts.cons_hold c5 (Facts.cons_hold c6 (Facts.nil_hold _)))))
    refine wpD_region hold (by kernel_rfl) 18 rfl ?_
    (refine wpD_plain 0 (v := ?_) rfl (by kernel_rfl) (by kernel_rfl) (by kernel_rfl) (fun _ _ _ h => h) (by rfl) ?_ (by assumption) ?_; rotate_left; (intro _w; go_simp; try with_reducible rfl); simp only [Act.put, List.setIfInBounds_toArray, List.set_cons_zero, List.set_cons_succ])
    (refine wpD_plain 1 (v := ?_) rfl (by kernel_rfl) (by kernel_rfl) (by kernel_rfl) (fun _ _ _ h => h) (by rfl) ?_ (by assumption) ?_; rotate_left; (intro _w; go_simp; try with_reducible rfl); simp only [Act.put, List.setIfInBounds_toArray, List.set_cons_zero, List.set_cons_succ])
    (refine wpD_take 2 _ rfl (by kernel_rfl) (by kernel_rfl) (by kernel_rfl) (fun _ _ _ h => h) List.mem_cons_self (by rfl) (v := ?_) ?_ (by assumption) ?_; rotate_left; (intro _w _hw; go_simp; try with_reducible rfl); simp only [Act.put, List.setIfInBounds_toArray, List.set_cons_zero, List.set_cons_succ])
    clear hold
    refine wpD_only 3 [(6, fun w' => w'.cell? ⟨w.heap.size, 0, none⟩ = some (.pointer (some ⟨b, 0, none⟩))), (9, fun w' => w'.cell? ⟨b, 0, none⟩ = some (.slice (some ⟨g, 0, none⟩) n c)), (12, fun w' => w'.cell? ⟨g, i, none⟩ = some (.string x)), (13, fun w' => w'.cell? ⟨w1.heap.size, 0, none⟩ = some (.string key))] rfl (by kernel_rfl) (by kernel_rfl) (by rfl) (fun K hK => ?_)
    refine wp_call (.func 108) _ _ rfl 108 [] rfl (fun vs w => by kernel_rfl) [.pointer (some ⟨b, 0, none⟩)] (by rfl) ?_
    refine HZ.out.mono ?_
    rintro e w4 ⟨rfl, rfl⟩
    have hold : Facts.hold [(6, fun w' => w'.cell? ⟨w.heap.size, 0, none⟩ = some (.pointer (some ⟨b, 0, none⟩))), (9, fun w' => w'.cell? ⟨b, 0, none⟩ = some (.slice (some ⟨g, 0, none⟩) n c)), (12, fun w' => w'.cell? ⟨g, i, none⟩ = some (.string x)), (13, fun w' => w'.cell? ⟨w1.heap.size, 0, none⟩ = some (.string key))] w3.drew := Facts.cons_hold c3 (Facts.cons_hold c4 (Facts.cons_hold c5 (Facts.cons_hold c6 (Facts.nil_hold _))))
    refine ⟨_, rfl, hK _ _ hold ?_⟩
    clear hK K
    simp only [Act.put, List.setIfInBounds_toArray, List.set_cons_zero, List.set_cons_succ]
    (refine wpD_plain 4 (v := (.bool true)) rfl (by kernel_rfl) (by kernel_rfl) (by kernel_rfl) (fun _ _ _ h => h) (by rfl) ?_ (by assumption) ?_; (intro _w; go_simp; skip); simp only [Act.put, List.setIfInBounds_toArray, List.set_cons_zero, List.set_cons_succ])
    (refine wpD_plain 5 (v := ?_) rfl (by kernel_rfl) (by kernel_rfl) (by kernel_rfl) (fun _ _ _ h => h) (by rfl) ?_ (by assumption) ?_; rotate_left; (intro _w; go_simp; try with_reducible rfl); simp only [Act.put, List.setIfInBounds_toArray, List.set_cons_zero, List.set_cons_succ])
    (refine wpD_take 6 _ rfl (by kernel_rfl) (by kernel_rfl) (by kernel_rfl) (fun _ _ _ h => h) List.mem_cons_self (by rfl) (v := ?_) ?_ (by assumption) ?_; rotate_left; (intro _w _hw; go_simp; try with_reducible rfl); simp only [Act.put, List.setIfInBounds_toArray, List.set_cons_zero, List.set_cons_succ])
    (refine wpD_plain 7 (v := ?_) rfl (by kernel_rfl) (by kernel_rfl) (by kernel_rfl) (fun _ _ _ h => h) (by rfl) ?_ (by assumption) ?_; rotate_left; (intro _w; go_simp; try with_reducible rfl); simp only [Act.put, List.setIfInBounds_toArray, List.set_cons_zero, List.set_cons_succ])
    (refine wpD_plain 8 (v := ?_) rfl (by kernel_rfl) (by kernel_rfl) (by kernel_rfl) (fun _ _ _ h => h) (by rfl) ?_ (by assumption) ?_; rotate_left; (intro _w; go_simp; try with_reducible rfl); simp only [Act.put, List.setIfInBounds_toArray, List.set_cons_zero, List.set_cons_succ])
    (refine wpD_take 9 _ rfl (by kernel_rfl) (by kernel_rfl) (by kernel_rfl) (fun _ _ _ h => h) (List.mem_cons_of_mem _ List.mem_cons_self) (by rfl) (v := ?_) ?_ (by assumption) ?_; rotate_left; (intro _w _hw; go_simp; try with_reducible rfl); simp only [Act.put, List.setIfInBounds_toArray, List.set_cons_zero, List.set_cons_succ])
    (refine wpD_plain 10 (v := ?_) rfl (by kernel_rfl) (by kernel_rfl) (by kernel_rfl) (fun _ _ _ h => h) (by rfl) ?_ (by assumption) ?_; rotate_left; (intro _w; go_simp; try with_reducible rfl); simp only [Act.put, List.setIfInBounds_toArray, List.set_cons_zero, List.set_cons_succ])
    (refine wpD_plain 11 (v := ?_) rfl (by kernel_rfl) (by kernel_rfl) (by kernel_rfl) (fun _ _ _ h => h) (by rfl) ?_ (by assumption) ?_; rotate_left; (intro _w; go_simp; try with_reducible rfl); simp only [Act.put, List.setIfInBounds_toArray, List.set_cons_zero, List.set_cons_succ])
    (refine wpD_take 12 _ rfl (by kernel_rfl) (by kernel_rfl) (by kernel_rfl) (fun _ _ _ h => h) (List.mem_cons_of_mem _ (List.mem_cons_of_mem _ List.mem_cons_self)) (by rfl) (v := ?_) ?_ (by assumption) ?_; rotate_left; (intro _w _hw; go_simp; try with_reducible rfl); simp only [Act.put, List.setIfInBounds_toArray, List.set_cons_zero, List.set_cons_succ])
    (refine wpD_take 13 _ rfl (by kernel_rfl) (by kernel_rfl) (by kernel_rfl) (fun _ _ _ h => h) (List.mem_cons_of_mem _ (List.mem_cons_of_mem _ (List.mem_cons_of_mem _ List.mem_cons_self))) (by rfl) (v := ?_) ?_ (by assumption) ?_; rotate_left; (intro _w _hw; go_simp; try with_reducible rfl); simp only [Act.put, List.setIfInBounds_toArray, List.set_cons_zero, List.set_cons_succ])
    (refine wpD_plain 14 (v := (.bool (decide (x = key)))) rfl (by kernel_rfl) (by kernel_rfl) (by kernel_rfl) (fun _ _ _ h => h) (by rfl) ?_ (by assumption) ?_; (intro _w; go_simp; exact eq_beq x key); simp only [Act.put, List.setIfInBounds_toArray, List.set_cons_zero, List.set_cons_succ])
    (refine wpD_plain 15 (v := ?_) rfl (by kernel_rfl) (by kernel_rfl) (by kernel_rfl) (fun _ _ _ h => h) (by rfl) ?_ (by assumption) ?_; rotate_left; (intro _w; go_simp; try with_reducible rfl); simp only [Act.put, List.setIfInBounds_toArray, List.set_cons_zero, List.set_cons_succ])
    (refine wpD_plain 16 (v := ?_) rfl (by kernel_rfl) (by kernel_rfl) (by kernel_rfl) (fun _ _ _ h => h) (by rfl) ?_ (by assumption) ?_; rotate_left; (intro _w; go_simp; try with_reducible rfl); simp only [Act.put, List.setIfInBounds_toArray, List.set_cons_zero, List.set_cons_succ])
    (refine wpD_plain 17 (v := ?_) rfl (by kernel_rfl) (by kernel_rfl) (by kernel_rfl) (fun _ _ _ h => h) (by rfl) ?_ (by assumption) ?_; rotate_left; (intro _w; go_simp; try with_reducible rfl); simp only [Act.put, List.setIfInBounds_toArray, List.set_cons_zero, List.set_cons_succ])
    refine wpD_done (by kernel_rfl) ?_ _
    clear hold
    go_wp2
    go_ret2
    refine ⟨i, ?_, HP.out, F13.out.drew⟩
    unfold hit
    rw [HX.out]
    simp
  · have hin' : i = ks.length := by omega
    have hno : ks[i]? = none := List.getElem?_eq_none (by omega)
    have HNO := hid hno
    have hb1 : decide ((i : Int) < (ks.length : Int)) = false := by simp; omega
    have hb2 : decide (i < ks.length) = false := by simp; omega
    have HZ := hid (size_s w3.drew b kv cv ks cs (HA3.out.fr (Fr.refl No w3).drew (fun _ _ e => e)))
    clear hno hin'
    generalize ks.length = n at *
    go_wp2_with fail
    have hold : Facts.hold [(2, fun w' => w'.cell? ⟨w.heap.size, 0, none⟩ = some (.pointer (some ⟨b, 0, none⟩)))] w3.drew := Facts.cons_hold c3 (Facts.nil_hold _)
    refine wpD_region hold (by kernel_rfl) 18 rfl ?_
    (refine wpD_plain 0 (v := ?_) rfl (by kernel_rfl) (by kernel_rfl) (by kernel_rfl) (fun _ _ _ h => h) (by rfl) ?_ (by assumption) ?_; rotate_left; (intro _w; go_simp; try with_reducible rfl); simp only [Act.put, List.setIfInBounds_toArray, List.set_cons_zero, List.set_cons_succ])
    (refine wpD_plain 1 (v := ?_) rfl (by kernel_rfl) (by kernel_rfl) (by kernel_rfl) (fun _ _ _ h => h) (by rfl) ?_ (by assumption) ?_; rotate_left; (intro _w; go_simp; try with_reducible rfl); simp only [Act.put, List.setIfInBounds_toArray, List.set_cons_zero, List.set_cons_succ])
    (refine wpD_take 2 _ rfl (by kernel_rfl) (by kernel_rfl) (by kernel_rfl) (fun _ _ _ h => h) List.mem_cons_self (by rfl) (v := ?_) ?_ (by assumption) ?_; rotate_left; (intro _w _hw; go_simp; try with_reducible rfl); simp only [Act.put, List.setIfInBounds_toArray, List.set_cons_zero, List.set_cons_succ])
    clear hold
    refine wpD_only 3 [] rfl (by kernel_rfl) (by kernel_rfl) (by rfl) (fun K hK => ?_)
    refine wp_call (.func 108) _ _ rfl 108 [] rfl (fun vs w => by kernel_rfl) [.pointer (some ⟨b, 0, none⟩)] (by rfl) ?_
    refine HZ.out.mono ?_
    rintro e w4 ⟨rfl, rfl⟩
    have hold : Facts.hold [] w3.drew := Facts.nil_hold _
    refine ⟨_, rfl, hK _ _ hold ?_⟩
    clear hK K
    simp only [Act.put, List.setIfInBounds_toArray, List.set_cons_zero, List.set_cons_succ]
    (refine wpD_plain 4 (v := (.bool false)) rfl (by kernel_rfl) (by kernel_rfl) (by kernel_rfl) (fun _ _ _ h => h) (by rfl) ?_ (by assumption) ?_; (intro _w; go_simp; skip); simp only [Act.put, List.setIfInBounds_toArray, List.set_cons_zero, List.set_cons_succ])
    (refine wpD_plain 5 (v := ?_) rfl (by kernel_rfl) (by kernel_rfl) (by kernel_rfl) (fun _ _ _ h => h) (by rfl) ?_ (by assumption) ?_; rotate_left; (intro _w; go_simp; try with_reducible rfl); simp only [Act.put, List.setIfInBounds_toArray, List.set_cons_zero, List.set_cons_succ])
    (refine wpD_skip 6 rfl (by kernel_rfl) (by kernel_rfl) (by kernel_rfl) (fun _ _ _ h => h) (by rfl) (by assumption) ?_; simp only [Act.put, List.setIfInBounds_toArray, List.set_cons_zero, List.set_cons_succ])
    (refine wpD_skip 7 rfl (by kernel_rfl) (by kernel_rfl) (by kernel_rfl) (fun _ _ _ h => h) (by rfl) (by assumption) ?_; simp only [Act.put, List.setIfInBounds_toArray, List.set_cons_zero, List.set_cons_succ])
    (refine wpD_skip 8 rfl (by kernel_rfl) (by kernel_rfl) (by kernel_rfl) (fun _ _ _ h => h) (by rfl) (by assumption) ?_; simp only [Act.put, List.setIfInBounds_toArray, List.set_cons_zero, List.set_cons_succ])
    (refine wpD_skip 9 rfl (by kernel_rfl) (by kernel_rfl) (by kernel_rfl) (fun _ _ _ h => h) (by rfl) (by assumption) ?_; simp only [Act.put, List.setIfInBounds_toArray, List.set_cons_zero, List.set_cons_succ])
    (refine wpD_skip 10 rfl (by kernel_rfl) (by kernel_rfl) (by kernel_rfl) (fun _ _ _ h => h) (by rfl) (by assumption) ?_; simp only [Act.put, List.setIfInBounds_toArray, List.set_cons_zero, List.set_cons_succ])
    (refine wpD_skip 11 rfl (by kernel_rfl) (by kernel_rfl) (by kernel_rfl) (fun _ _ _ h => h) (by rfl) (by assumption) ?_; simp only [Act.put, List.setIfInBounds_toArray, List.set_cons_zero, List.set_cons_succ])
    (refine wpD_skip 12 rfl (by kernel_rfl) (by kernel_rfl) (by kernel_rfl) (fun _ _ _ h => h) (by rfl) (by assumption) ?_; simp only [Act.put, List.setIfInBounds_toArray, List.set_cons_zero, List.set_cons_succ])
    (refine wpD_skip 13 rfl (by kernel_rfl) (by kernel_rfl) (by kernel_rfl) (fun _ _ _ h => h) (by rfl) (by assumption) ?_; simp only [Act.put, List.setIfInBounds_toArray, List.set_cons_zero, List.set_cons_succ])
    (refine wpD_skip 14 rfl (by kernel_rfl) (by kernel_rfl) (by kernel_rfl) (fun _ _ _ h => h) (by rfl) (by assumption) ?_; simp only [Act.put, List.setIfInBounds_toArray, List.set_cons_zero, List.set_cons_succ])
    (refine wpD_plain 15 (v := ?_) rfl (by kernel_rfl) (by kernel_rfl) (by kernel_rfl) (fun _ _ _ h => h) (by rfl) ?_ (by assumption) ?_; rotate_left; (intro _w; go_simp; try with_reducible rfl); simp only [Act.put, List.setIfInBounds_toArray, List.set_cons_zero, List.set_cons_succ])
    (refine wpD_plain 16 (v := ?_) rfl (by kernel_rfl) (by kernel_rfl) (by kernel_rfl) (fun _ _ _ h => h) (by rfl) ?_ (by assumption) ?_; rotate_left; (intro _w; go_simp; try with_reducible rfl); simp only [Act.put, List.setIfInBounds_toArray, List.set_cons_zero, List.set_cons_succ])
    (refine wpD_plain 17 (v := ?_) rfl (by kernel_rfl) (by kernel_rfl) (by kernel_rfl) (fun _ _ _ h => h) (by rfl) ?_ (by assumption) ?_; rotate_left; (intro _w; go_simp; try with_reducible rfl); simp only [Act.put, List.setIfInBounds_toArray, List.set_cons_zero, List.set_cons_succ])
    refine wpD_done (by kernel_rfl) ?_ _
    clear hold
    go_wp2
    go_ret2
    refine ⟨i, ?_, HP.out, F13.out.drew⟩
    unfold hit
    rw [HNO.out]
    simp

/-- Which of the contents a key belongs to. -/
structure HoldK (ks : List S) (k : S) (j : Nat) : Prop where
  lt : j < ks.length
  lo : ∀ m x, m ≤ j → 0 < m → ks[m]? = some x → TR.lt k x = false
  hi : ∀ m x, j < m → ks[m]? = some x → TR.lt k x = true
set_option maxHeartbeats 2000000 in
theorem holding_any (w : World) (b : Nat) (kv cv : Value) (ks : List S) (cs : List Value) (key : S) (h : NdAt w 167 134 2 b kv cv ks cs) (hs : Rises ks) (h0 : 0 < ks.length) (hn : ks.length ≤ 8796093022208) :
    Calls Tryz.prog 98 #[.pointer (some ⟨b, 0, none⟩), .string key] w fun e w' => ∃ j : Nat, e = .returned (.int .i64 j) ∧ HoldK ks key j ∧ Fr No w w' := by
  have H := hid h; have HS := hid hs; have HN := hid hn; have H0 := hid h0
  clear h hs hn h0
  have mf := hmf
  go_enter Tryz.func98, Tryz.ntmps98
  go_wp2_with (first
    | ((with_reducible show wpList _ _ _ (⟨_, .box 132 _, _, _, _, _⟩ :: _) _ _); refine wpL_box rfl _ _ rfl _ rfl [.pointer (some ⟨b, 0, none⟩)] rfl ?_; intro w1 HB1 F1 HS1)
    | ((with_reducible show wpList _ _ _ (⟨_, .box 9 _, _, _, _, _⟩ :: _) _ _); refine wpL_box rfl _ _ rfl _ rfl [.string key] rfl ?_; intro w2 HB2 F2 HS2; have c0 : w2.cell? ⟨w.heap.size, 0, none⟩ = some (.pointer (some ⟨b, 0, none⟩)) := (HB1.out.fr F2.out id).cell 0))
  have F02 : Hid (Fr No w w2) := hid (F1.out.trans' F2.out)
  have H2 : Hid (NdAt w2 167 134 2 b kv cv ks cs) := hid (H.out.fr F02.out (fun _ _ e => e))
  refine (size_p w2 b kv cv ks cs H2.out).mono ?_
  rintro e w3 ⟨rfl, rfl⟩
  go_wp2_with fail
  have hcl : ∀ (i : Nat) (W : World), i < ks.length → Fr No w2 W → Calls Tryz.prog 114 (Value.int .i64 i :: [.pointer (some ⟨w.heap.size, 0, none⟩), .pointer (some ⟨w1.heap.size, 0, none⟩)]).toArray W fun e W' => e = .returned (.bool (TR.lt key (ks.getD i ⟨#[]⟩))) ∧ Fr No W W' := fun i W hi hF => by
    obtain ⟨g, c, rfl, hcell⟩ := own_text H2.out.rk (by omega)
    have e : ks[i]? = some (ks.getD i ⟨#[]⟩) := by rw [List.getD_eq_getElem?_getD, List.getElem?_eq_getElem hi]; rfl
    exact hold_cl W i ks.length c g b w.heap.size w1.heap.size key (ks.getD i ⟨#[]⟩) (hF.cell c0 id) (hF.cell (H2.out.blk.cell 0) id) (hF.cell (hcell i _ e) id) (hF.cell (HB2.out.cell 0) id) hi
  have hmono : ∀ i j, i ≤ j → j < ks.length → TR.lt key (ks.getD i ⟨#[]⟩) = true → TR.lt key (ks.getD j ⟨#[]⟩) = true := fun i j hij hj hp => by
    have e1 : ks[i]? = some (ks.getD i ⟨#[]⟩) := by rw [List.getD_eq_getElem?_getD, List.getElem?_eq_getElem (by omega)]; rfl
    have e2 : ks[j]? = some (ks.getD j ⟨#[]⟩) := by rw [List.getD_eq_getElem?_getD, List.getElem?_eq_getElem hj]; rfl
    exact lt_of_lt_of_le hp (HS.out.mono hij e1 e2)
  have hse := search_any ks.length 114 [.pointer (some ⟨w.heap.size, 0, none⟩), .pointer (some ⟨w1.heap.size, 0, none⟩)] (fun i => TR.lt key (ks.getD i ⟨#[]⟩)) w2 (by have := HN.out; omega) ent_hold hcl hmono
  have HSE := hid hse
  clear hse hcl hmono
  refine HSE.out.mono ?_
  rintro e w3 ⟨i, rfl, hin, hlo, hhi, f3⟩
  have F13 : Hid (Fr No w w3) := hid (F02.out.trans' f3)
  have HP : Hid (HoldK ks key (i - 1)) := hid ⟨by have := H0.out; omega, fun m x hm h1 hx => by
      have := hlo m (by omega)
      simp only at this
      rw [List.getD_eq_getElem?_getD, hx] at this
      exact this, fun m x hm hx => by
      obtain ⟨hj2, -⟩ := List.getElem?_eq_some_iff.1 hx
      have := hhi m (by omega) hj2
      simp only at this
      rw [List.getD_eq_getElem?_getD, hx] at this
      exact this⟩
  clear f3 hlo hhi
  have HIN := hid hin
  have hib : (i : Int) ≤ 8796093022208 := by have := HN.out; omega
  rcases Nat.eq_zero_or_pos i with h0 | h0
  · have HFP : Hid (HoldK ks key 0) := hid (by have := HP.out; rw [h0] at this; exact this)
    clear HP HIN hin
    subst h0
    go_wp2
    go_ret
    exact ⟨0, rfl, HFP.out, F13.out⟩
  · have hi1 : (1 : Int) ≤ i := by omega
    go_wp2
    go_ret
    exact ⟨i - 1, by show Ending.returned (Value.int IntKind.i64 ((i : Int) - 1)) = _; rw [show ((i : Int) - 1) = ((i - 1 : Nat) : Int) from by omega], HP.out, F13.out⟩
end Go.Proofs.YtflfmkokfbgclaaGreat.TR

namespace Go.Proofs.YtflfmkokfbgclaaGreat.TR
set_option maxRecDepth 100000
open Go.RowKit K

structure Nd (α : Type) where
  b : Nat
  k : Value
  c : Value
  l : List (S × α)
def Kid : Nat → Type
  | 0 => S
  | d + 1 => Nd (Kid d)
abbrev PT (d : Nat) : Type := Nd (Kid d)

/-! ### What it holds -/
def flatK : (d : Nat) → S → Kid d → L
  | 0, k, v => [(k, v)]
  | d + 1, _, t => (Nd.l (α := Kid d) t).flatMap fun x => flatK d x.1 x.2
def flats (d : Nat) (l : List (S × Kid d)) : L := l.flatMap fun x => flatK d x.1 x.2
def flat (d : Nat) (t : PT d) : L := flats d t.l
theorem flats_cons (d : Nat) (x : S × Kid d) (r : List (S × Kid d)) : flats d (x :: r) = flatK d x.1 x.2 ++ flats d r := by simp [flats]
theorem flats_append (d : Nat) (A B : List (S × Kid d)) : flats d (A ++ B) = flats d A ++ flats d B := by simp [flats]
theorem flats_zero (l : List (S × Kid 0)) : flats 0 l = l := by
  induction l with
  | nil => rfl
  | cons x r ih => rw [flats_cons, ih]; rfl
theorem flat_zero (t : PT 0) : flat 0 t = t.l := flats_zero t.l

/-! ### Its order -/
def Below (hi : Option S) (k : S) : Prop := match hi with | none => True | some h => lt k h = true
/-- The next key. -/
def nx {α : Type} (hi : Option S) : List (S × α) → Option S
  | [] => hi
  | x :: _ => some x.1
def Chain {α : Type} (R : S → Option S → α → Prop) (hi : Option S) : List (S × α) → Prop
  | [] => True
  | x :: r => R x.1 (nx hi r) x.2 ∧ Below (nx hi r) x.1 ∧ Chain R hi r
def First : (d : Nat) → S → List (S × Kid d) → Prop
  | 0, lo, l => ∀ x ∈ l, lt x.1 lo = false
  | d + 1, lo, l => ∃ (c : Kid (d + 1)) (r : List (S × Kid (d + 1))), l = (lo, c) :: r
def okK : (d : Nat) → S → Option S → Kid d → Prop
  | 0, _, _, _ => True
  | d + 1, lo, hi, t => Chain (okK d) hi (Nd.l (α := Kid d) t) ∧ First d lo (Nd.l (α := Kid d) t)
def Ok (d : Nat) (lo : S) (hi : Option S) (t : PT d) : Prop := Chain (okK d) hi t.l ∧ First d lo t.l

theorem Below.lt {hi : Option S} {a b : S} (h : Below hi b) (k : lt a b = true) : Below hi a := by
  cases hi with
  | none => trivial
  | some x => exact lt_trans k h
theorem Below.le {hi : Option S} {a b : S} (h : Below hi b) (k : TR.lt b a = false) : Below hi a := by
  cases hi with
  | none => trivial
  | some x => exact lt_of_le_of_lt k h
theorem nx_append {α : Type} (hi : Option S) (A B : List (S × α)) : nx hi (A ++ B) = nx (nx hi B) A := by cases A <;> rfl
theorem chain_append {α : Type} {R : S → Option S → α → Prop} {hi : Option S} (A B : List (S × α)) : Chain R hi (A ++ B) ↔ Chain R (nx hi B) A ∧ Chain R hi B := by
  induction A with
  | nil => simp [Chain]
  | cons x r ih => simp only [List.cons_append, Chain, ih, nx_append]; constructor <;> (intro h; simp_all)
/-- Where the chain goes on. -/
theorem chain_next {α : Type} {R : S → Option S → α → Prop} {hi : Option S} {x : S × α} {r : List (S × α)} (h : Chain R hi (x :: r)) : ∀ y ∈ r, lt x.1 y.1 = true := by
  induction r generalizing x with
  | nil => intro y hy; cases hy
  | cons z s ih =>
    intro y hy
    have h1 : lt x.1 z.1 = true := h.2.1
    rcases List.mem_cons.1 hy with rfl | hy
    · exact h1
    · exact lt_trans h1 (ih h.2.2 y hy)
theorem chain_below {α : Type} {R : S → Option S → α → Prop} {hi : Option S} {l : List (S × α)} (h : Chain R hi l) : ∀ x ∈ l, Below hi x.1 := by
  induction l with
  | nil => intro x hx; cases hx
  | cons z s ih =>
    intro x hx
    rcases List.mem_cons.1 hx with rfl | hx
    · cases s with
      | nil => exact h.2.1
      | cons y r => exact (ih h.2.2 y (by simp)).lt h.2.1
    · exact ih h.2.2 x hx
theorem chain_rises {α : Type} {R : S → Option S → α → Prop} {hi : Option S} {l : List (S × α)} (h : Chain R hi l) : Rises (l.map (·.1)) := by
  induction l with
  | nil => exact List.Pairwise.nil
  | cons z s ih =>
    refine List.pairwise_cons.2 ⟨fun y hy => ?_, ih h.2.2⟩
    obtain ⟨x, hx, rfl⟩ := List.mem_map.1 hy
    exact chain_next h x hx
theorem chain_bound {α : Type} {R : S → Option S → α → Prop} {hi hi' : Option S} {l : List (S × α)} (hR : ∀ k c, R k hi c → Below hi k → R k hi' c ∧ Below hi' k) (h : Chain R hi l) : Chain R hi' l := by
  induction l with
  | nil => trivial
  | cons x r ih =>
    cases r with
    | nil => exact ⟨(hR _ _ h.1 h.2.1).1, (hR _ _ h.1 h.2.1).2, trivial⟩
    | cons y s => exact ⟨h.1, h.2.1, ih h.2.2⟩

theorem ok_first {d : Nat} {lo : S} {l : List (S × Kid d)} {hi : Option S} (h : Chain (okK d) hi l) (hf : First d lo l) : ∀ x ∈ l, lt x.1 lo = false := by
  cases d with
  | zero => exact hf
  | succ d =>
    obtain ⟨c, r, rfl⟩ := hf
    intro x hx
    rcases List.mem_cons.1 hx with rfl | hx
    · exact lt_irr _
    · exact lt_asymm (chain_next h x hx)
theorem okK_range : ∀ (d : Nat) (lo : S) (hi : Option S) (c : Kid d), okK d lo hi c → Below hi lo → ∀ x ∈ flatK d lo c, lt x.1 lo = false ∧ Below hi x.1
  | 0, lo, hi, c, _, hb, x, hx => by
    obtain rfl : x = (lo, c) := List.mem_singleton.1 hx
    exact ⟨lt_irr _, hb⟩
  | d + 1, lo, hi, t, h, hb, x, hx => by
    obtain ⟨y, hy, hxy⟩ := List.mem_flatMap.1 hx
    obtain ⟨A, B, e⟩ := List.append_of_mem hy
    have hc : Chain (okK d) hi (Nd.l (α := Kid d) t) := h.1
    have hy0 := ok_first hc h.2 y hy
    have hyb := chain_below hc
    rw [e, chain_append] at hc
    have h1 := okK_range d y.1 (nx hi B) y.2 hc.2.1 hc.2.2.1 x hxy
    refine ⟨le_trans hy0 h1.1, ?_⟩
    cases B with
    | nil => exact h1.2
    | cons z r => exact (hyb z (by rw [e]; simp)).lt h1.2
theorem flats_range {d : Nat} {hi : Option S} {l : List (S × Kid d)} (h : Chain (okK d) hi l) : ∀ x ∈ flats d l, Below hi x.1 := by
  induction l with
  | nil => intro x hx; cases hx
  | cons y r ih =>
    intro x hx
    rw [flats_cons] at hx
    rcases List.mem_append.1 hx with hx | hx
    · have h1 := (okK_range d y.1 (nx hi r) y.2 h.1 h.2.1 x hx).2
      cases r with
      | nil => exact h1
      | cons z s => exact (chain_below h z (by simp)).lt h1
    · exact ih h.2.2 x hx
theorem flats_low {d : Nat} {hi : Option S} {l : List (S × Kid d)} {lo : S} (h : Chain (okK d) hi l) (hl : ∀ x ∈ l, lt x.1 lo = false) : ∀ x ∈ flats d l, lt x.1 lo = false := by
  induction l with
  | nil => intro x hx; cases hx
  | cons y r ih =>
    intro x hx
    rw [flats_cons] at hx
    rcases List.mem_append.1 hx with hx | hx
    · exact le_trans (hl y (by simp)) (okK_range d y.1 (nx hi r) y.2 h.1 h.2.1 x hx).1
    · exact ih h.2.2 (fun z hz => hl z (by simp [hz])) x hx
theorem okK_sorted : ∀ (d : Nat) (lo : S) (hi : Option S) (c : Kid d), okK d lo hi c → Sorted (flatK d lo c)
  | 0, lo, hi, c, _ => List.pairwise_singleton _ _
  | d + 1, lo, hi, t, h => by
    have hc : Chain (okK d) hi (Nd.l (α := Kid d) t) := h.1
    show Sorted (flats d (Nd.l (α := Kid d) t))
    clear h
    generalize Nd.l (α := Kid d) t = l at hc
    induction l with
    | nil => exact List.Pairwise.nil
    | cons y r ih =>
      rw [flats_cons]
      refine List.pairwise_append.2 ⟨okK_sorted d y.1 (nx hi r) y.2 hc.1, ih hc.2.2, fun a ha b hb => ?_⟩
      have h1 := (okK_range d y.1 (nx hi r) y.2 hc.1 hc.2.1 a ha).2
      cases r with
      | nil => cases hb
      | cons z s =>
        have h2 : lt b.1 z.1 = false := flats_low hc.2.2 (fun x hx => by
          rcases List.mem_cons.1 hx with rfl | hx
          · exact lt_irr _
          · exact lt_asymm (chain_next hc.2.2 x hx)) b hb
        exact lt_of_lt_of_le h1 h2
theorem ok_sorted {d : Nat} {lo : S} {hi : Option S} {t : PT d} (h : Ok d lo hi t) : Sorted (flat d t) := okK_sorted (d + 1) lo hi t h
theorem Ok.rises {d : Nat} {lo : S} {hi : Option S} {t : PT d} (h : Ok d lo hi t) : Rises (t.l.map (·.1)) := chain_rises h.1

/-- The kid that a key belongs to. -/
theorem hold_split {d : Nat} {lo : S} {hi : Option S} {t : PT (d + 1)} {key : S} {j : Nat} (h : Ok (d + 1) lo hi t) (hj : HoldK (t.l.map (·.1)) key j) :
    ∃ (A : List (S × Kid (d + 1))) (k : S) (x : Kid (d + 1)) (B : List (S × Kid (d + 1))), t.l = A ++ (k, x) :: B ∧ A.length = j ∧ AllLt (flats (d + 1) A) key ∧ AllGt (flats (d + 1) B) key ∧
      Chain (okK (d + 1)) (some k) A ∧ Ok d k (nx hi B) x ∧ Below (nx hi B) k ∧ Chain (okK (d + 1)) hi B ∧ (lt key lo = false → lt key k = false) ∧ (Below hi key → Below (nx hi B) key) := by
  have hlt : j < t.l.length := by simpa using hj.lt
  obtain ⟨y, hy⟩ : ∃ y, y = t.l[j] := ⟨_, rfl⟩
  have e : t.l = t.l.take j ++ y :: t.l.drop (j + 1) := by
    rw [hy, ← List.drop_eq_getElem_cons hlt, List.take_append_drop]
  have hc := h.1
  rw [e, chain_append] at hc
  have hyk : nx hi (y :: t.l.drop (j + 1)) = some y.1 := rfl
  rw [hyk] at hc
  refine ⟨t.l.take j, y.1, y.2, t.l.drop (j + 1), e, by simp; omega, ?_, ?_, hc.1, hc.2.1, hc.2.2.1, hc.2.2.2, ?_, ?_⟩
  · intro x hx
    have h1 : TR.lt x.1 y.1 = true := flats_range hc.1 x hx
    rcases Nat.eq_zero_or_pos j with h0 | h0
    · subst h0; cases hx
    · have h2 := hj.lo j y.1 (Nat.le_refl _) h0 (by rw [List.getElem?_map, List.getElem?_eq_getElem hlt, hy]; rfl)
      exact lt_of_lt_of_le h1 h2
  · intro x hx
    have h1 := flats_low (lo := key) hc.2.2.2 (fun z hz => by
      obtain ⟨m, hm, hz'⟩ := List.mem_iff_getElem.1 hz
      rw [List.getElem_drop] at hz'
      simp only [List.length_drop] at hm
      have := hj.hi (j + 1 + m) z.1 (by omega) (by rw [List.getElem?_map, List.getElem?_eq_getElem (by omega), hz']; rfl)
      exact lt_asymm this) x hx
    cases h2 : TR.lt key x.1
    · exfalso
      have heq := lt_tot h2 h1
      obtain ⟨z, hz, hxz⟩ := List.mem_flatMap.1 hx
      obtain ⟨m, hm, hz'⟩ := List.mem_iff_getElem.1 hz
      rw [List.getElem_drop] at hz'
      simp only [List.length_drop] at hm
      have h3 := hj.hi (j + 1 + m) z.1 (by omega) (by rw [List.getElem?_map, List.getElem?_eq_getElem (by omega), hz']; rfl)
      obtain ⟨A, B, e2⟩ := List.append_of_mem hz
      have h4 := hc.2.2.2
      rw [e2, chain_append] at h4
      have h5 := (okK_range _ _ _ _ h4.2.1 h4.2.2.1 x hxz).1
      rw [← heq, h3] at h5
      cases h5
    · rfl
  · intro hk
    rcases Nat.eq_zero_or_pos j with h0 | h0
    · subst h0
      obtain ⟨c, r, hl⟩ := h.2
      have : y.1 = lo := by rw [hy]; simp [hl]
      rw [this]; exact hk
    · exact hj.lo j y.1 (Nat.le_refl _) h0 (by rw [List.getElem?_map, List.getElem?_eq_getElem hlt, hy]; rfl)
  · intro hb
    cases hB : t.l.drop (j + 1) with
    | nil => exact hb
    | cons z r =>
      have hl : j + 1 < t.l.length := by
        rcases Nat.lt_or_ge (j + 1) t.l.length with g | g
        · exact g
        · rw [List.drop_eq_nil_of_le g] at hB; cases hB
      rw [List.drop_eq_getElem_cons hl] at hB
      have hz : t.l[j + 1] = z := by injection hB
      exact hj.hi (j + 1) z.1 (by omega) (by rw [List.getElem?_map, List.getElem?_eq_getElem hl, hz]; rfl)

/-! ### Its sizes -/
def szK : (d : Nat) → Kid d → Prop
  | 0, _ => True
  | d + 1, t => 4 ≤ (Nd.l (α := Kid d) t).length ∧ (Nd.l (α := Kid d) t).length ≤ 8
def goodK : (d : Nat) → Kid d → Prop
  | 0, _ => True
  | d + 1, t => ∀ x ∈ Nd.l (α := Kid d) t, szK d x.2 ∧ goodK d x.2
def Good (d : Nat) (t : PT d) : Prop := ∀ x ∈ t.l, szK d x.2 ∧ goodK d x.2

theorem flatK_count : ∀ (d : Nat) (k : S) (c : Kid d), szK d c → goodK d c → 4 ^ d ≤ (flatK d k c).length ∧ (flatK d k c).length ≤ 8 ^ d
  | 0, _, _, _, _ => by simp [flatK]
  | d + 1, k, t, hs, hg => by
    have key : ∀ l : List (S × Kid d), (∀ x ∈ l, szK d x.2 ∧ goodK d x.2) → l.length * 4 ^ d ≤ (flats d l).length ∧ (flats d l).length ≤ l.length * 8 ^ d := by
      intro l
      induction l with
      | nil => intro _; simp [flats]
      | cons x r ih =>
        intro h
        have h1 := flatK_count d x.1 x.2 (h x (by simp)).1 (h x (by simp)).2
        have h2 := ih (fun y hy => h y (by simp [hy]))
        rw [flats_cons, List.length_append, List.length_cons, Nat.succ_mul, Nat.succ_mul]
        omega
    have h1 := key (Nd.l (α := Kid d) t) hg
    have h2 : (flatK (d + 1) k t).length = (flats d (Nd.l (α := Kid d) t)).length := rfl
    rw [h2, Nat.pow_succ, Nat.pow_succ]
    have h3 : 4 * 4 ^ d ≤ (Nd.l (α := Kid d) t).length * 4 ^ d := Nat.mul_le_mul_right _ hs.1
    have h4 : (Nd.l (α := Kid d) t).length * 8 ^ d ≤ 8 * 8 ^ d := Nat.mul_le_mul_right _ hs.2
    omega
theorem flat_count {d : Nat} {t : PT d} (h : Good d t) : t.l.length * 4 ^ d ≤ (flat d t).length ∧ (flat d t).length ≤ t.l.length * 8 ^ d := by
  have key : ∀ l : List (S × Kid d), (∀ x ∈ l, szK d x.2 ∧ goodK d x.2) → l.length * 4 ^ d ≤ (flats d l).length ∧ (flats d l).length ≤ l.length * 8 ^ d := by
    intro l
    induction l with
    | nil => intro _; simp [flats]
    | cons x r ih =>
      intro h
      have h1 := flatK_count d x.1 x.2 (h x (by simp)).1 (h x (by simp)).2
      have h2 := ih (fun y hy => h y (by simp [hy]))
      rw [flats_cons, List.length_append, List.length_cons, Nat.succ_mul, Nat.succ_mul]
      omega
  exact key t.l h
end Go.Proofs.YtflfmkokfbgclaaGreat.TR

namespace Go.Proofs.YtflfmkokfbgclaaGreat.TR
set_option maxRecDepth 100000
open Go.RowKit K

/-- A part as a kid. -/
abbrev up {d : Nat} (t : PT d) : Kid (d + 1) := t
def ptr : (d : Nat) → PT d → List Value
  | 0, t => [.pointer (some ⟨t.b, 0, none⟩), .pointer none]
  | _ + 1, t => [.pointer none, .pointer (some ⟨t.b, 0, none⟩)]
def val (d : Nat) (t : PT d) : Value := .agg (ptr d t).toArray
def cellK : (d : Nat) → Kid d → List Value
  | 0, s => [Value.string (s : S)]
  | d + 1, t => ptr d t
def ndT : Nat → TypeId
  | 0 => 160
  | _ + 1 => 167
def elT : Nat → TypeId
  | 0 => 9
  | _ + 1 => 134
def elk : Nat → Nat
  | 0 => 1
  | _ + 1 => 2
def Dj (A B : Nat → Prop) : Prop := ∀ g, A g → ¬ B g
def own {d : Nat} (t : PT d) : Nat → Prop := Own t.b t.k t.c
def fpK : (d : Nat) → Kid d → Nat → Prop
  | 0, _, _ => False
  | d + 1, t, g => own (d := d) t g ∨ ∃ x ∈ Nd.l (α := Kid d) t, fpK d x.2 g
def fp (d : Nat) (t : PT d) (g : Nat) : Prop := own t g ∨ ∃ x ∈ t.l, fpK d x.2 g
def keys {d : Nat} (l : List (S × Kid d)) : List S := l.map (·.1)
def cells {d : Nat} (l : List (S × Kid d)) : List Value := l.flatMap fun x => cellK d x.2
def repK (w : World) : (d : Nat) → Kid d → Prop
  | 0, _ => True
  | d + 1, t => NdAt w (ndT d) (elT d) (elk d) (Nd.b (α := Kid d) t) (Nd.k (α := Kid d) t) (Nd.c (α := Kid d) t) (keys (d := d) (Nd.l (α := Kid d) t)) (cells (d := d) (Nd.l (α := Kid d) t)) ∧
    ((∀ x ∈ Nd.l (α := Kid d) t, repK w d x.2) ∧ (Nd.l (α := Kid d) t).Pairwise (fun x y => Dj (fpK d x.2) (fpK d y.2)) ∧ ∀ x ∈ Nd.l (α := Kid d) t, Dj (own (d := d) t) (fpK d x.2))
/-- The kids lie in memory, apart from one another and from D. -/
structure Kids (w : World) (d : Nat) (D : Nat → Prop) (l : List (S × Kid d)) : Prop where
  rep : ∀ x ∈ l, repK w d x.2
  apart : l.Pairwise fun x y => Dj (fpK d x.2) (fpK d y.2)
  off : ∀ x ∈ l, Dj D (fpK d x.2)
structure Rep (w : World) (d : Nat) (t : PT d) : Prop where
  nd : NdAt w (ndT d) (elT d) (elk d) t.b t.k t.c (keys t.l) (cells t.l)
  kids : Kids w d (own t) t.l
theorem repK_succ {w : World} {d : Nat} {t : PT d} : repK w (d + 1) t ↔ Rep w d t := ⟨fun h => ⟨h.1, h.2.1, h.2.2.1, h.2.2.2⟩, fun h => ⟨h.nd, h.kids.rep, h.kids.apart, h.kids.off⟩⟩

theorem Dj.symm {A B : Nat → Prop} (h : Dj A B) : Dj B A := fun g hb ha => h g ha hb
theorem repK_lt : ∀ (d : Nat) (w : World) (c : Kid d), repK w d c → ∀ g, fpK d c g → g < w.heap.size
  | 0, _, _, _, _, h => h.elim
  | d + 1, w, t, h, g, hg => by
    rcases hg with hg | ⟨x, hx, hg⟩
    · exact h.1.lt g hg
    · exact repK_lt d w x.2 (h.2.1 x hx) g hg
theorem repK_fr : ∀ (d : Nat) {w w' : World} {D : Nat → Prop} (c : Kid d), repK w d c → Fr D w w' → Dj (fpK d c) D → repK w' d c
  | 0, _, _, _, _, _, _, _ => trivial
  | d + 1, w, w', D, t, h, hf, hd => ⟨h.1.fr hf (fun g hg => hd g (.inl hg)), fun x hx => repK_fr d x.2 (h.2.1 x hx) hf (fun g hg => hd g (.inr ⟨x, hx, hg⟩)), h.2.2.1, h.2.2.2⟩
theorem Rep.lt {w : World} {d : Nat} {t : PT d} (h : Rep w d t) : ∀ g, fp d t g → g < w.heap.size := repK_lt (d + 1) w t (repK_succ.2 h)
theorem Rep.fr {w w' : World} {d : Nat} {t : PT d} {D : Nat → Prop} (h : Rep w d t) (hf : Fr D w w') (hd : Dj (fp d t) D) : Rep w' d t := repK_succ.1 (repK_fr (d + 1) t (repK_succ.2 h) hf hd)
theorem Rep.no {w w' : World} {d : Nat} {t : PT d} (h : Rep w d t) (hf : Fr No w w') : Rep w' d t := h.fr hf (fun _ _ e => e)
theorem Kids.fr {w w' : World} {d : Nat} {E D : Nat → Prop} {l : List (S × Kid d)} (h : Kids w d E l) (hf : Fr D w w') (hd : ∀ x ∈ l, Dj (fpK d x.2) D) : Kids w' d E l :=
  ⟨fun x hx => repK_fr d x.2 (h.rep x hx) hf (hd x hx), h.apart, h.off⟩
theorem cellK_length : ∀ (d : Nat) (c : Kid d), (cellK d c).length = elk d
  | 0, _ => rfl
  | 1, _ => rfl
  | _ + 2, _ => rfl
theorem ptr_length : ∀ (d : Nat) (t : PT d), (ptr d t).length = 2
  | 0, _ => rfl
  | _ + 1, _ => rfl
theorem ptr_one : ∀ (d : Nat) (t : PT d), ∀ u ∈ ptr d t, u.oneCell' = true
  | 0, t, u, h => by simp [ptr] at h; rcases h with rfl | rfl <;> rfl
  | _ + 1, t, u, h => by simp [ptr] at h; rcases h with rfl | rfl <;> rfl
theorem cellK_one : ∀ (d : Nat) (c : Kid d), ∀ u ∈ cellK d c, u.oneCell' = true
  | 0, c, u, h => by
    obtain rfl : u = Value.string (c : S) := List.mem_singleton.1 h
    rfl
  | d + 1, t, u, h => ptr_one d t u h
theorem ptr_b {d : Nat} {t t' : PT d} (h : t'.b = t.b) : ptr d t' = ptr d t := by
  cases d <;> simp [ptr, h]
/-- The cells of the content at place j. -/
theorem cells_take {d : Nat} (A B : List (S × Kid d)) : (cells (A ++ B)).take (A.length * elk d) = cells A ∧ (cells (A ++ B)).drop (A.length * elk d) = cells B := by
  have hl : (cells A).length = A.length * elk d := by
    induction A with
    | nil => simp [cells]
    | cons x r ih => simp [cells, cellK_length] at ih ⊢; rw [ih, Nat.succ_mul, Nat.add_comm]
  have e : cells (A ++ B) = cells A ++ cells B := by simp [cells]
  rw [e, ← hl]
  exact ⟨List.take_left, List.drop_left⟩
theorem cells_append {d : Nat} (A B : List (S × Kid d)) : cells (A ++ B) = cells A ++ cells B := by simp [cells]
theorem cells_cons {d : Nat} (x : S × Kid d) (B : List (S × Kid d)) : cells (x :: B) = cellK d x.2 ++ cells B := by simp [cells]
theorem keys_append {d : Nat} (A B : List (S × Kid d)) : keys (A ++ B) = keys A ++ keys B := by simp [keys]
theorem cells_split {d : Nat} (l : List (S × Kid d)) (i : Nat) (hi : i ≤ l.length) : (cells l).take (i * elk d) = cells (l.take i) ∧ (cells l).drop (i * elk d) = cells (l.drop i) := by
  have h := cells_take (l.take i) (l.drop i)
  rw [List.take_append_drop, List.length_take, Nat.min_eq_left hi] at h
  exact h
/-- The node was turned: other keys and contents, whose kids lay there. -/
theorem rep_node {w w' : World} {d : Nat} {t : PT d} {l' : List (S × Kid d)} (h : NdPost w (ndT d) (elT d) (elk d) t.b t.k t.c (keys l') (cells l') w') (hk : Kids w d (own t) l') :
    ∃ t' : PT d, t'.l = l' ∧ t'.b = t.b ∧ Rep w' d t' ∧ Fr (own t) w w' ∧ ∀ g, own t' g → own t g ∨ w.heap.size ≤ g := by
  obtain ⟨kv, cv, h1, h2, h3⟩ := h
  refine ⟨⟨t.b, kv, cv, l'⟩, rfl, rfl, ⟨h1, ?_⟩, h2, h3⟩
  have hk' := hk.fr h2 (fun x hx => (hk.off x hx).symm)
  refine ⟨hk'.rep, hk'.apart, fun x hx g hg hx' => ?_⟩
  rcases h3 g hg with e | e
  · exact hk.off x hx g e hx'
  · have := repK_lt d w x.2 (hk.rep x hx) g hx'; omega
/-- A call turned a part: the same node, other contents. -/
structure Turned (d : Nat) (w : World) (t : PT d) (w' : World) (t' : PT d) : Prop where
  rep : Rep w' d t'
  fr : Fr (fp d t) w w'
  grow : ∀ g, fp d t' g → fp d t g ∨ w.heap.size ≤ g
  b : t'.b = t.b
theorem Turned.refl {d : Nat} {w w' : World} {t : PT d} (h : Rep w d t) (hf : Fr No w w') : Turned d w t w' t := ⟨h.no hf, hf.no, fun _ h => .inl h, rfl⟩
theorem Turned.trans {d : Nat} {w w' w'' : World} {t t' t'' : PT d} (h : Turned d w t w' t') (k : Turned d w' t' w'' t'') : Turned d w t w'' t'' :=
  ⟨k.rep, h.fr.trans k.fr h.grow, fun g hg => (k.grow g hg).elim (h.grow g) (fun e => .inr (Nat.le_trans h.fr.size e)), k.b.trans h.b⟩
theorem Turned.pre {d : Nat} {w0 w w' : World} {t t' : PT d} (hf : Fr No w0 w) (h : Turned d w t w' t') : Turned d w0 t w' t' :=
  ⟨h.rep, hf.no.trans' h.fr, fun g hg => (h.grow g hg).imp id (fun e => Nat.le_trans hf.size e), h.b⟩
theorem Turned.post {d : Nat} {w w' w'' : World} {t t' : PT d} (h : Turned d w t w' t') (hf : Fr No w' w'') : Turned d w t w'' t' :=
  h.trans (Turned.refl h.rep hf)
theorem pairwise_mid {α : Type} {R : α → α → Prop} {A B : List α} {x y : α} (h : (A ++ x :: B).Pairwise R) (ha : ∀ a ∈ A, R a y) (hb : ∀ b ∈ B, R y b) : (A ++ y :: B).Pairwise R := by
  rw [List.pairwise_append] at h ⊢
  obtain ⟨h1, h2, h3⟩ := h
  rw [List.pairwise_cons] at h2 ⊢
  refine ⟨h1, ⟨hb, h2.2⟩, fun a ha' b hb' => ?_⟩
  rcases List.mem_cons.1 hb' with rfl | hb'
  · exact ha a ha'
  · exact h3 a ha' b (by simp [hb'])
/-- One kid was turned. -/
theorem rep_kid {w w' : World} {d : Nat} {t : PT (d + 1)} {A B : List (S × Kid (d + 1))} {k : S} {x x' : PT d} (h : Rep w (d + 1) t) (hl : t.l = A ++ (k, up x) :: B) (hx : Turned d w x w' x') :
    Turned (d + 1) w t w' ⟨t.b, t.k, t.c, A ++ (k, up x') :: B⟩ := by
  have hmx : (k, up x) ∈ t.l := by rw [hl]; simp
  have hxo : Dj (own t) (fp d x) := h.kids.off _ hmx
  have hlt : ∀ g, own t g → g < w.heap.size := fun g hg => h.nd.lt g hg
  have hap := h.kids.apart
  rw [hl] at hap
  have hA : ∀ a ∈ A, Dj (fpK (d + 1) a.2) (fp d x) := fun a ha => (List.pairwise_append.1 hap).2.2 a ha (k, up x) (by simp)
  have hB : ∀ b ∈ B, Dj (fp d x) (fpK (d + 1) b.2) := fun b hb => (List.pairwise_cons.1 (List.pairwise_append.1 hap).2.1).1 b hb
  have hrA : ∀ a ∈ A, repK w (d + 1) a.2 := fun a ha => h.kids.rep a (by rw [hl]; simp [ha])
  have hrB : ∀ b ∈ B, repK w (d + 1) b.2 := fun b hb => h.kids.rep b (by rw [hl]; simp [hb])
  have hoA : ∀ a ∈ A, Dj (own t) (fpK (d + 1) a.2) := fun a ha => h.kids.off a (by rw [hl]; simp [ha])
  have hoB : ∀ b ∈ B, Dj (own t) (fpK (d + 1) b.2) := fun b hb => h.kids.off b (by rw [hl]; simp [hb])
  have hnew : ∀ (c : Kid (d + 1)), repK w (d + 1) c → Dj (fp d x) (fpK (d + 1) c) → Dj (fp d x') (fpK (d + 1) c) := fun c hc hd g hg hg' => by
    rcases hx.grow g hg with e | e
    · exact hd g e hg'
    · have := repK_lt (d + 1) w c hc g hg'; omega
  have e1 : keys (A ++ (k, up x') :: B) = keys t.l := by rw [hl]; simp [keys]
  have e2 : cells (A ++ (k, up x') :: B) = cells t.l := by
    rw [hl, cells_append, cells_append, cells_cons, cells_cons]
    have : cellK (d + 1) x' = cellK (d + 1) x := ptr_b hx.b
    simp only [this]
  refine ⟨⟨by rw [e1, e2]; exact h.nd.fr hx.fr (fun g hg => hxo g hg), fun y hy => ?_, ?_, fun y hy => ?_⟩, hx.fr.mono fun g hg => .inr ⟨(k, up x), hmx, hg⟩, fun g hg => ?_, rfl⟩
  · rcases List.mem_append.1 hy with hy | hy
    · exact repK_fr (d + 1) y.2 (hrA y hy) hx.fr (hA y hy)
    · rcases List.mem_cons.1 hy with rfl | hy
      · exact repK_succ.2 hx.rep
      · exact repK_fr (d + 1) y.2 (hrB y hy) hx.fr (hB y hy).symm
  · exact pairwise_mid hap (fun a ha => (hnew a.2 (hrA a ha) (hA a ha).symm).symm) (fun b hb => hnew b.2 (hrB b hb) (hB b hb))
  · rcases List.mem_append.1 hy with hy | hy
    · exact hoA y hy
    · rcases List.mem_cons.1 hy with rfl | hy
      · intro g hg hg'
        rcases hx.grow g hg' with e | e
        · exact hxo g hg e
        · have := hlt g hg; omega
      · exact hoB y hy
  · rcases hg with hg | ⟨y, hy, hg⟩
    · exact .inl (.inl hg)
    · rcases List.mem_append.1 hy with hy | hy
      · exact .inl (.inr ⟨y, by rw [hl]; simp [hy], hg⟩)
      · rcases List.mem_cons.1 hy with rfl | hy
        · exact (hx.grow g hg).imp (fun e => .inr ⟨(k, up x), hmx, e⟩) id
        · exact .inl (.inr ⟨y, by rw [hl]; simp [hy], hg⟩)
end Go.Proofs.YtflfmkokfbgclaaGreat.TR
