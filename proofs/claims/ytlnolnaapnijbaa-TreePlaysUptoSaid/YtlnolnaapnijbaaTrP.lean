/-
  The place of a key in a leaf, the place of the part that holds a key.
-/
import Derived.Test.YtlnolnaapnijbaaTrCp
namespace Go.Proofs.Ytlnolnaapnijbaa.TR
set_option maxRecDepth 100000
open Go.RowKit K

/-- A place in an owned row of texts. -/
theorem own_text {w : World} {v : Value} {ks : List S} (h : w.ownsRow 0 9 1 v ks.length (sv ks)) (hp : 0 < ks.length) : ∃ g c, v = .slice (some ⟨g, 0, none⟩) ks.length c ∧ ∀ i x, ks[i]? = some x → w.cell? ⟨g, i, none⟩ = some (.string x) := by
  obtain ⟨g, cap, cur, rfl, hB, -, -, -, ht⟩ := own_open h hp
  refine ⟨g, cap, rfl, fun i x hi => ?_⟩
  have hj : (sv ks)[i]? = some (.string x) := by simp [sv, hi]
  rw [hB.cell]
  rw [← ht, List.getElem?_take] at hj
  split at hj
  · exact hj
  · cases hj

theorem run_geq (x y : S) (w : World) : (binOp .geq 9 (.string x) (.string y)).run Try.prog w = .ok (.bool (!lt x y)) w := by rfl
theorem run_gtr (x y : S) (w : World) : (binOp .gtr 9 (.string x) (.string y)).run Try.prog w = .ok (.bool (lt y x)) w := by
  have hb : (!(Op.bytesLess x.toList y.toList || x.toList == y.toList)) = lt y x := by
    rw [eq_beq]
    show (!(lt x y || decide (x = y))) = lt y x
    by_cases he : x = y
    · subst he; simp [lt_irr]
    · cases h : lt x y
      · cases h' : lt y x
        · exact absurd (lt_tot h h') he
        · simp [he]
      · simp [lt_asymm h]
  rw [← hb]; rfl
theorem run_lss (x y : S) (w : World) : (binOp .lss 9 (.string x) (.string y)).run Try.prog w = .ok (.bool (lt x y)) w := by rfl
theorem run_eqls (x y : S) (w : World) : (binOp .eql 9 (.string x) (.string y)).run Try.prog w = .ok (.bool (decide (x = y))) w := by rw [← eq_beq]; rfl
theorem run_neqs (x y : S) (w : World) : (binOp .neq 9 (.string x) (.string y)).run Try.prog w = .ok (.bool (!decide (x = y))) w := by rw [← eq_beq]; rfl
set_option maxHeartbeats 1000000 in
theorem pos_cl (w : World) (i n c g b bn bk : Nat) (key x : S) (h0 : w.cell? ⟨bn, 0, none⟩ = some (.pointer (some ⟨b, 0, none⟩))) (h1 : w.cell? ⟨b, 0, none⟩ = some (.slice (some ⟨g, 0, none⟩) n c)) (h2 : w.cell? ⟨g, i, none⟩ = some (.string x)) (h3 : w.cell? ⟨bk, 0, none⟩ = some (.string key)) (hi : i < n) :
    Calls Try.prog 104 #[.int .i64 i, .pointer (some ⟨bn, 0, none⟩), .pointer (some ⟨bk, 0, none⟩)] w fun e w' => e = .returned (.bool (!lt x key)) ∧ Fr No w w' := by
  have hi0 : (i : Int) < n := by omega
  have hb := run_geq x key
  go_enter Try.func104, Try.ntmps104
  go_wp2_with fail
  have hold : Facts.hold [(0, fun w' => w'.cell? ⟨bn, 0, none⟩ = some (.pointer (some ⟨b, 0, none⟩))), (3, fun w' => w'.cell? ⟨b, 0, none⟩ = some (.slice (some ⟨g, 0, none⟩) n c)), (6, fun w' => w'.cell? ⟨g, i, none⟩ = some (.string x)), (7, fun w' => w'.cell? ⟨bk, 0, none⟩ = some (.string key))] w.drew := Facts.cons_hold h0 (Facts.cons_hold h1 (Facts.cons_hold h2 (Facts.cons_hold h3 (Facts.nil_hold _))))
  refine wpD_region hold (by kernel_rfl) 10 rfl ?_
  (refine wpD_take 0 _ rfl (by kernel_rfl) (by kernel_rfl) (by kernel_rfl) (fun _ _ _ h => h) List.mem_cons_self (by rfl) (v := ?_) ?_ (by assumption) ?_; rotate_left; (intro _w _hw; go_simp; try with_reducible rfl); simp only [Act.put, List.setIfInBounds_toArray, List.set_cons_zero, List.set_cons_succ])
  (refine wpD_plain 1 (v := ?_) rfl (by kernel_rfl) (by kernel_rfl) (by kernel_rfl) (fun _ _ _ h => h) (by rfl) ?_ (by assumption) ?_; rotate_left; (intro _w; go_simp; try with_reducible rfl); simp only [Act.put, List.setIfInBounds_toArray, List.set_cons_zero, List.set_cons_succ])
  (refine wpD_plain 2 (v := ?_) rfl (by kernel_rfl) (by kernel_rfl) (by kernel_rfl) (fun _ _ _ h => h) (by rfl) ?_ (by assumption) ?_; rotate_left; (intro _w; go_simp; try with_reducible rfl); simp only [Act.put, List.setIfInBounds_toArray, List.set_cons_zero, List.set_cons_succ])
  (refine wpD_take 3 _ rfl (by kernel_rfl) (by kernel_rfl) (by kernel_rfl) (fun _ _ _ h => h) (List.mem_cons_of_mem _ List.mem_cons_self) (by rfl) (v := ?_) ?_ (by assumption) ?_; rotate_left; (intro _w _hw; go_simp; try with_reducible rfl); simp only [Act.put, List.setIfInBounds_toArray, List.set_cons_zero, List.set_cons_succ])
  (refine wpD_plain 4 (v := ?_) rfl (by kernel_rfl) (by kernel_rfl) (by kernel_rfl) (fun _ _ _ h => h) (by rfl) ?_ (by assumption) ?_; rotate_left; (intro _w; go_simp; try with_reducible rfl); simp only [Act.put, List.setIfInBounds_toArray, List.set_cons_zero, List.set_cons_succ])
  (refine wpD_plain 5 (v := ?_) rfl (by kernel_rfl) (by kernel_rfl) (by kernel_rfl) (fun _ _ _ h => h) (by rfl) ?_ (by assumption) ?_; rotate_left; (intro _w; go_simp; try with_reducible rfl); simp only [Act.put, List.setIfInBounds_toArray, List.set_cons_zero, List.set_cons_succ])
  (refine wpD_take 6 _ rfl (by kernel_rfl) (by kernel_rfl) (by kernel_rfl) (fun _ _ _ h => h) (List.mem_cons_of_mem _ (List.mem_cons_of_mem _ List.mem_cons_self)) (by rfl) (v := ?_) ?_ (by assumption) ?_; rotate_left; (intro _w _hw; go_simp; try with_reducible rfl); simp only [Act.put, List.setIfInBounds_toArray, List.set_cons_zero, List.set_cons_succ])
  (refine wpD_take 7 _ rfl (by kernel_rfl) (by kernel_rfl) (by kernel_rfl) (fun _ _ _ h => h) (List.mem_cons_of_mem _ (List.mem_cons_of_mem _ (List.mem_cons_of_mem _ List.mem_cons_self))) (by rfl) (v := ?_) ?_ (by assumption) ?_; rotate_left; (intro _w _hw; go_simp; try with_reducible rfl); simp only [Act.put, List.setIfInBounds_toArray, List.set_cons_zero, List.set_cons_succ])
  (refine wpD_plain 8 (v := (.bool (!lt x key))) rfl (by kernel_rfl) (by kernel_rfl) (by kernel_rfl) (fun _ _ _ h => h) (by rfl) ?_ (by assumption) ?_; (intro _w; go_simp; skip); simp only [Act.put, List.setIfInBounds_toArray, List.set_cons_zero, List.set_cons_succ])
  (refine wpD_plain 9 (v := ?_) rfl (by kernel_rfl) (by kernel_rfl) (by kernel_rfl) (fun _ _ _ h => h) (by rfl) ?_ (by assumption) ?_; rotate_left; (intro _w; go_simp; try with_reducible rfl); simp only [Act.put, List.setIfInBounds_toArray, List.set_cons_zero, List.set_cons_succ])
  refine wpD_done (by kernel_rfl) ?_ _
  clear hold
  go_wp2
  go_ret
  exact ⟨rfl, (Fr.refl _ _).drew⟩
set_option maxHeartbeats 1000000 in
theorem hold_cl (w : World) (i n c g b bn bk : Nat) (key x : S) (h0 : w.cell? ⟨bn, 0, none⟩ = some (.pointer (some ⟨b, 0, none⟩))) (h1 : w.cell? ⟨b, 0, none⟩ = some (.slice (some ⟨g, 0, none⟩) n c)) (h2 : w.cell? ⟨g, i, none⟩ = some (.string x)) (h3 : w.cell? ⟨bk, 0, none⟩ = some (.string key)) (hi : i < n) :
    Calls Try.prog 102 #[.int .i64 i, .pointer (some ⟨bn, 0, none⟩), .pointer (some ⟨bk, 0, none⟩)] w fun e w' => e = .returned (.bool (lt key x)) ∧ Fr No w w' := by
  have hi0 : (i : Int) < n := by omega
  have hb := run_gtr x key
  go_enter Try.func102, Try.ntmps102
  go_wp2_with fail
  have hold : Facts.hold [(0, fun w' => w'.cell? ⟨bn, 0, none⟩ = some (.pointer (some ⟨b, 0, none⟩))), (3, fun w' => w'.cell? ⟨b, 0, none⟩ = some (.slice (some ⟨g, 0, none⟩) n c)), (6, fun w' => w'.cell? ⟨g, i, none⟩ = some (.string x)), (7, fun w' => w'.cell? ⟨bk, 0, none⟩ = some (.string key))] w.drew := Facts.cons_hold h0 (Facts.cons_hold h1 (Facts.cons_hold h2 (Facts.cons_hold h3 (Facts.nil_hold _))))
  refine wpD_region hold (by kernel_rfl) 10 rfl ?_
  (refine wpD_take 0 _ rfl (by kernel_rfl) (by kernel_rfl) (by kernel_rfl) (fun _ _ _ h => h) List.mem_cons_self (by rfl) (v := ?_) ?_ (by assumption) ?_; rotate_left; (intro _w _hw; go_simp; try with_reducible rfl); simp only [Act.put, List.setIfInBounds_toArray, List.set_cons_zero, List.set_cons_succ])
  (refine wpD_plain 1 (v := ?_) rfl (by kernel_rfl) (by kernel_rfl) (by kernel_rfl) (fun _ _ _ h => h) (by rfl) ?_ (by assumption) ?_; rotate_left; (intro _w; go_simp; try with_reducible rfl); simp only [Act.put, List.setIfInBounds_toArray, List.set_cons_zero, List.set_cons_succ])
  (refine wpD_plain 2 (v := ?_) rfl (by kernel_rfl) (by kernel_rfl) (by kernel_rfl) (fun _ _ _ h => h) (by rfl) ?_ (by assumption) ?_; rotate_left; (intro _w; go_simp; try with_reducible rfl); simp only [Act.put, List.setIfInBounds_toArray, List.set_cons_zero, List.set_cons_succ])
  (refine wpD_take 3 _ rfl (by kernel_rfl) (by kernel_rfl) (by kernel_rfl) (fun _ _ _ h => h) (List.mem_cons_of_mem _ List.mem_cons_self) (by rfl) (v := ?_) ?_ (by assumption) ?_; rotate_left; (intro _w _hw; go_simp; try with_reducible rfl); simp only [Act.put, List.setIfInBounds_toArray, List.set_cons_zero, List.set_cons_succ])
  (refine wpD_plain 4 (v := ?_) rfl (by kernel_rfl) (by kernel_rfl) (by kernel_rfl) (fun _ _ _ h => h) (by rfl) ?_ (by assumption) ?_; rotate_left; (intro _w; go_simp; try with_reducible rfl); simp only [Act.put, List.setIfInBounds_toArray, List.set_cons_zero, List.set_cons_succ])
  (refine wpD_plain 5 (v := ?_) rfl (by kernel_rfl) (by kernel_rfl) (by kernel_rfl) (fun _ _ _ h => h) (by rfl) ?_ (by assumption) ?_; rotate_left; (intro _w; go_simp; try with_reducible rfl); simp only [Act.put, List.setIfInBounds_toArray, List.set_cons_zero, List.set_cons_succ])
  (refine wpD_take 6 _ rfl (by kernel_rfl) (by kernel_rfl) (by kernel_rfl) (fun _ _ _ h => h) (List.mem_cons_of_mem _ (List.mem_cons_of_mem _ List.mem_cons_self)) (by rfl) (v := ?_) ?_ (by assumption) ?_; rotate_left; (intro _w _hw; go_simp; try with_reducible rfl); simp only [Act.put, List.setIfInBounds_toArray, List.set_cons_zero, List.set_cons_succ])
  (refine wpD_take 7 _ rfl (by kernel_rfl) (by kernel_rfl) (by kernel_rfl) (fun _ _ _ h => h) (List.mem_cons_of_mem _ (List.mem_cons_of_mem _ (List.mem_cons_of_mem _ List.mem_cons_self))) (by rfl) (v := ?_) ?_ (by assumption) ?_; rotate_left; (intro _w _hw; go_simp; try with_reducible rfl); simp only [Act.put, List.setIfInBounds_toArray, List.set_cons_zero, List.set_cons_succ])
  (refine wpD_plain 8 (v := (.bool (lt key x))) rfl (by kernel_rfl) (by kernel_rfl) (by kernel_rfl) (fun _ _ _ h => h) (by rfl) ?_ (by assumption) ?_; (intro _w; go_simp; skip); simp only [Act.put, List.setIfInBounds_toArray, List.set_cons_zero, List.set_cons_succ])
  (refine wpD_plain 9 (v := ?_) rfl (by kernel_rfl) (by kernel_rfl) (by kernel_rfl) (fun _ _ _ h => h) (by rfl) ?_ (by assumption) ?_; rotate_left; (intro _w; go_simp; try with_reducible rfl); simp only [Act.put, List.setIfInBounds_toArray, List.set_cons_zero, List.set_cons_succ])
  refine wpD_done (by kernel_rfl) ?_ _
  clear hold
  go_wp2
  go_ret
  exact ⟨rfl, (Fr.refl _ _).drew⟩

def hit (l : List S) (key : S) (i : Nat) : Bool := decide (l[i]? = some key)
theorem ent_pos (vs : Array Value) (w : World) : (callFunc 104 vs).run Try.prog w = .ok (.enter 104 vs) w := by kernel_rfl
theorem ent_hold (vs : Array Value) (w : World) : (callFunc 102 vs).run Try.prog w = .ok (.enter 102 vs) w := by kernel_rfl
theorem hmf (fn : Fn) (first cap : Array Value) (w : World) : (Instr.makeFunc fn first cap).run Try.prog w = .ok (.func fn first cap) w := rfl
/-- Keys in rising order. -/
def Rises (ks : List S) : Prop := ks.Pairwise fun a b => lt a b = true
/-- Where a key stands or would stand. -/
structure PartK (ks : List S) (k : S) (i : Nat) : Prop where
  le : i ≤ ks.length
  lo : ∀ j x, j < i → ks[j]? = some x → lt x k = true
  hi : ∀ j x, i ≤ j → ks[j]? = some x → lt x k = false
theorem Rises.mono {ks : List S} (h : Rises ks) {i j : Nat} {x y : S} (hij : i ≤ j) (hx : ks[i]? = some x) (hy : ks[j]? = some y) : lt y x = false := by
  rcases Nat.lt_or_ge i j with h1 | h1
  · obtain ⟨a, rfl⟩ := List.getElem?_eq_some_iff.1 hx
    obtain ⟨b, rfl⟩ := List.getElem?_eq_some_iff.1 hy
    exact lt_asymm (List.pairwise_iff_getElem.1 h i j a b h1)
  · obtain rfl : i = j := by omega
    rw [hx] at hy
    cases hy
    exact lt_irr _
set_option maxHeartbeats 2000000 in
theorem position_any (w : World) (b : Nat) (kv cv : Value) (ks : List S) (cs : List Value) (key : S) (h : NdAt w 135 9 1 b kv cv ks cs) (hs : Rises ks) (hn : ks.length ≤ 8796093022208) :
    Calls Try.prog 80 #[.pointer (some ⟨b, 0, none⟩), .string key] w fun e w' => ∃ i : Nat, e = .returned (.tuple #[.int .i64 i, .bool (hit ks key i)]) ∧ PartK ks key i ∧ Fr No w w' := by
  have H := hid h; have HS := hid hs; have HN := hid hn
  clear h hs hn
  have mf := hmf
  go_enter Try.func80, Try.ntmps80
  go_wp2_with (first
    | ((with_reducible show wpList _ _ _ ({ dst := _, op := .box 100 _, type := _, pos := _, after := _, guard := _ } :: _) _ _); refine wpL_box rfl _ _ rfl _ rfl [.pointer (some ⟨b, 0, none⟩)] rfl ?_; intro w1 HB1 F1 HS1)
    | ((with_reducible show wpList _ _ _ ({ dst := _, op := .box 9 _, type := _, pos := _, after := _, guard := _ } :: _) _ _); refine wpL_box rfl _ _ rfl _ rfl [.string key] rfl ?_; intro w2 HB2 F2 HS2; have c0 : w2.cell? ⟨w.heap.size, 0, none⟩ = some (.pointer (some ⟨b, 0, none⟩)) := (HB1.out.fr F2.out id).cell 0))
  have F02 : Hid (Fr No w w2) := hid (F1.out.trans' F2.out)
  have H2 : Hid (NdAt w2 135 9 1 b kv cv ks cs) := hid (H.out.fr F02.out (fun _ _ e => e))
  refine (size_s w2 b kv cv ks cs H2.out).mono ?_
  rintro e w3 ⟨rfl, rfl⟩
  go_wp2_with fail
  have hcl : ∀ (i : Nat) (W : World), i < ks.length → Fr No w2 W → Calls Try.prog 104 (Value.int .i64 i :: [.pointer (some ⟨w.heap.size, 0, none⟩), .pointer (some ⟨w1.heap.size, 0, none⟩)]).toArray W fun e W' => e = .returned (.bool (!lt (ks.getD i ⟨#[]⟩) key)) ∧ Fr No W W' := fun i W hi hF => by
    obtain ⟨g, c, rfl, hcell⟩ := own_text H2.out.rk (by omega)
    have e : ks[i]? = some (ks.getD i ⟨#[]⟩) := by rw [List.getD_eq_getElem?_getD, List.getElem?_eq_getElem hi]; rfl
    exact pos_cl W i ks.length c g b w.heap.size w1.heap.size key (ks.getD i ⟨#[]⟩) (hF.cell c0 id) (hF.cell (H2.out.blk.cell 0) id) (hF.cell (hcell i _ e) id) (hF.cell (HB2.out.cell 0) id) hi
  have hmono : ∀ i j, i ≤ j → j < ks.length → (!lt (ks.getD i ⟨#[]⟩) key) = true → (!lt (ks.getD j ⟨#[]⟩) key) = true := fun i j hij hj hp => by
    have e1 : ks[i]? = some (ks.getD i ⟨#[]⟩) := by rw [List.getD_eq_getElem?_getD, List.getElem?_eq_getElem (by omega)]; rfl
    have e2 : ks[j]? = some (ks.getD j ⟨#[]⟩) := by rw [List.getD_eq_getElem?_getD, List.getElem?_eq_getElem hj]; rfl
    have h1 := HS.out.mono hij e1 e2
    simp only [Bool.not_eq_true'] at hp ⊢
    exact le_trans hp h1
  have hse := search_any ks.length 104 [.pointer (some ⟨w.heap.size, 0, none⟩), .pointer (some ⟨w1.heap.size, 0, none⟩)] (fun i => !lt (ks.getD i ⟨#[]⟩) key) w2 (by have := HN.out; omega) ent_pos hcl hmono
  have HSE := hid hse
  clear hse hcl hmono
  refine HSE.out.mono ?_
  rintro e w3 ⟨i, rfl, hin, hlo, hhi, f3⟩
  have F3 := hid f3
  have HP : Hid (PartK ks key i) := hid ⟨hin, fun j x hj hx => by
      have := hlo j hj
      simp only [Bool.not_eq_false'] at this
      rw [List.getD_eq_getElem?_getD, hx] at this
      exact this, fun j x hj hx => by
      obtain ⟨hj2, -⟩ := List.getElem?_eq_some_iff.1 hx
      have := hhi j hj hj2
      simp only [Bool.not_eq_true'] at this
      rw [List.getD_eq_getElem?_getD, hx] at this
      exact this⟩
  clear f3 hlo hhi
  have HIN := hid hin
  have c3 : w3.cell? ⟨w.heap.size, 0, none⟩ = some (.pointer (some ⟨b, 0, none⟩)) := F3.out.cell c0 id
  have HA3 : Hid (NdAt w3 135 9 1 b kv cv ks cs) := hid (H2.out.fr F3.out (fun _ _ e => e))
  have F13 : Hid (Fr No w w3) := hid (F02.out.trans' F3.out)
  by_cases hlt : i < ks.length
  · obtain ⟨g, c, hkv, hcell⟩ := own_text HA3.out.rk (by omega)
    obtain ⟨x, hx⟩ : ∃ x, ks[i]? = some x := ⟨_, List.getElem?_eq_getElem hlt⟩
    have HX := hid hx
    have c4 : w3.cell? ⟨b, 0, none⟩ = some (.slice (some ⟨g, 0, none⟩) ks.length c) := by rw [← hkv]; exact HA3.out.blk.cell 0
    have c5 : w3.cell? ⟨g, i, none⟩ = some (.string x) := hcell i x hx
    have c6 : w3.cell? ⟨w1.heap.size, 0, none⟩ = some (.string key) := F3.out.cell (HB2.out.cell 0) id
    have hlt' : (i : Int) < (ks.length : Int) := by omega
    have heq := run_eqls x key
    have hb1 : decide ((i : Int) < (ks.length : Int)) = true := by simpa using hlt
    have hb2 : decide (i < ks.length) = true := by simpa using hlt
    have HZ := hid (size_s w3.drew b kv cv ks cs (HA3.out.fr (Fr.refl No w3).drew (fun _ _ e => e)))
    clear hcell hkv hx
    generalize ks.length = n at *
    go_wp2_with fail
    have hold : Facts.hold [(2, fun w' => w'.cell? ⟨w.heap.size, 0, none⟩ = some (.pointer (some ⟨b, 0, none⟩))), (6, fun w' => w'.cell? ⟨w.heap.size, 0, none⟩ = some (.pointer (some ⟨b, 0, none⟩))), (9, fun w' => w'.cell? ⟨b, 0, none⟩ = some (.slice (some ⟨g, 0, none⟩) n c)), (12, fun w' => w'.cell? ⟨g, i, none⟩ = some (.string x)), (13, fun w' => w'.cell? ⟨w1.heap.size, 0, none⟩ = some (.string key))] w3.drew := Facts.cons_hold c3 (Facts.cons_hold c3 (Facts.cons_hold c4 (Facts.cons_hold c5 (Facts.cons_hold c6 (Facts.nil_hold _)))))
    refine wpD_region hold (by kernel_rfl) 18 rfl ?_
    (refine wpD_plain 0 (v := ?_) rfl (by kernel_rfl) (by kernel_rfl) (by kernel_rfl) (fun _ _ _ h => h) (by rfl) ?_ (by assumption) ?_; rotate_left; (intro _w; go_simp; try with_reducible rfl); simp only [Act.put, List.setIfInBounds_toArray, List.set_cons_zero, List.set_cons_succ])
    (refine wpD_plain 1 (v := ?_) rfl (by kernel_rfl) (by kernel_rfl) (by kernel_rfl) (fun _ _ _ h => h) (by rfl) ?_ (by assumption) ?_; rotate_left; (intro _w; go_simp; try with_reducible rfl); simp only [Act.put, List.setIfInBounds_toArray, List.set_cons_zero, List.set_cons_succ])
    (refine wpD_take 2 _ rfl (by kernel_rfl) (by kernel_rfl) (by kernel_rfl) (fun _ _ _ h => h) List.mem_cons_self (by rfl) (v := ?_) ?_ (by assumption) ?_; rotate_left; (intro _w _hw; go_simp; try with_reducible rfl); simp only [Act.put, List.setIfInBounds_toArray, List.set_cons_zero, List.set_cons_succ])
    clear hold
    refine wpD_only 3 [(6, fun w' => w'.cell? ⟨w.heap.size, 0, none⟩ = some (.pointer (some ⟨b, 0, none⟩))), (9, fun w' => w'.cell? ⟨b, 0, none⟩ = some (.slice (some ⟨g, 0, none⟩) n c)), (12, fun w' => w'.cell? ⟨g, i, none⟩ = some (.string x)), (13, fun w' => w'.cell? ⟨w1.heap.size, 0, none⟩ = some (.string key))] rfl (by kernel_rfl) (by kernel_rfl) (by rfl) (fun K hK => ?_)
    refine wp_call (.func 95) _ _ rfl 95 [] rfl (fun vs w => by kernel_rfl) [.pointer (some ⟨b, 0, none⟩)] (by rfl) ?_
    refine HZ.out.mono ?_
    rintro e w4 ⟨rfl, rfl⟩
    have hold : Facts.hold [(6, fun w' => w'.cell? ⟨w.heap.size, 0, none⟩ = some (.pointer (some ⟨b, 0, none⟩))), (9, fun w' => w'.cell? ⟨b, 0, none⟩ = some (.slice (some ⟨g, 0, none⟩) n c)), (12, fun w' => w'.cell? ⟨g, i, none⟩ = some (.string x)), (13, fun w' => w'.cell? ⟨w1.heap.size, 0, none⟩ = some (.string key))] w3.drew := Facts.cons_hold c3 (Facts.cons_hold c4 (Facts.cons_hold c5 (Facts.cons_hold c6 (Facts.nil_hold _))))
    refine ⟨_, rfl, hK _ _ hold ?_⟩
    clear hK K
    simp only [Act.put, List.setIfInBounds_toArray, List.set_cons_zero, List.set_cons_succ]
    (refine wpD_plain 4 (v := (.bool true)) rfl (by kernel_rfl) (by kernel_rfl) (by kernel_rfl) (fun _ _ _ h => h) (by rfl) ?_ (by assumption) ?_; (intro _w; go_simp; skip); simp only [Act.put, List.setIfInBounds_toArray, List.set_cons_zero, List.set_cons_succ])
    (refine wpD_plain 5 (v := ?_) rfl (by kernel_rfl) (by kernel_rfl) (by kernel_rfl) (fun _ _ _ h => h) (by rfl) ?_ (by assumption) ?_; rotate_left; (intro _w; go_simp; try with_reducible rfl); simp only [Act.put, List.setIfInBounds_toArray, List.set_cons_zero, List.set_cons_succ])
    (refine wpD_take 6 _ rfl (by kernel_rfl) (by kernel_rfl) (by kernel_rfl) (fun _ _ _ h => h) List.mem_cons_self (by rfl) (v := ?_) ?_ (by assumption) ?_; rotate_left; (intro _w _hw; go_simp; try with_reducible rfl); simp only [Act.put, List.setIfInBounds_toArray, List.set_cons_zero, List.set_cons_succ])
    (refine wpD_plain 7 (v := ?_) rfl (by kernel_rfl) (by kernel_rfl) (by kernel_rfl) (fun _ _ _ h => h) (by rfl) ?_ (by assumption) ?_; rotate_left; (intro _w; go_simp; try with_reducible rfl); simp only [Act.put, List.setIfInBounds_toArray, List.set_cons_zero, List.set_cons_succ])
    (refine wpD_plain 8 (v := ?_) rfl (by kernel_rfl) (by kernel_rfl) (by kernel_rfl) (fun _ _ _ h => h) (by rfl) ?_ (by assumption) ?_; rotate_left; (intro _w; go_simp; try with_reducible rfl); simp only [Act.put, List.setIfInBounds_toArray, List.set_cons_zero, List.set_cons_succ])
    (refine wpD_take 9 _ rfl (by kernel_rfl) (by kernel_rfl) (by kernel_rfl) (fun _ _ _ h => h) (List.mem_cons_of_mem _ List.mem_cons_self) (by rfl) (v := ?_) ?_ (by assumption) ?_; rotate_left; (intro _w _hw; go_simp; try with_reducible rfl); simp only [Act.put, List.setIfInBounds_toArray, List.set_cons_zero, List.set_cons_succ])
    (refine wpD_plain 10 (v := ?_) rfl (by kernel_rfl) (by kernel_rfl) (by kernel_rfl) (fun _ _ _ h => h) (by rfl) ?_ (by assumption) ?_; rotate_left; (intro _w; go_simp; try with_reducible rfl); simp only [Act.put, List.setIfInBounds_toArray, List.set_cons_zero, List.set_cons_succ])
    (refine wpD_plain 11 (v := ?_) rfl (by kernel_rfl) (by kernel_rfl) (by kernel_rfl) (fun _ _ _ h => h) (by rfl) ?_ (by assumption) ?_; rotate_left; (intro _w; go_simp; try with_reducible rfl); simp only [Act.put, List.setIfInBounds_toArray, List.set_cons_zero, List.set_cons_succ])
    (refine wpD_take 12 _ rfl (by kernel_rfl) (by kernel_rfl) (by kernel_rfl) (fun _ _ _ h => h) (List.mem_cons_of_mem _ (List.mem_cons_of_mem _ List.mem_cons_self)) (by rfl) (v := ?_) ?_ (by assumption) ?_; rotate_left; (intro _w _hw; go_simp; try with_reducible rfl); simp only [Act.put, List.setIfInBounds_toArray, List.set_cons_zero, List.set_cons_succ])
    (refine wpD_take 13 _ rfl (by kernel_rfl) (by kernel_rfl) (by kernel_rfl) (fun _ _ _ h => h) (List.mem_cons_of_mem _ (List.mem_cons_of_mem _ (List.mem_cons_of_mem _ List.mem_cons_self))) (by rfl) (v := ?_) ?_ (by assumption) ?_; rotate_left; (intro _w _hw; go_simp; try with_reducible rfl); simp only [Act.put, List.setIfInBounds_toArray, List.set_cons_zero, List.set_cons_succ])
    (refine wpD_plain 14 (v := (.bool (decide (x = key)))) rfl (by kernel_rfl) (by kernel_rfl) (by kernel_rfl) (fun _ _ _ h => h) (by rfl) ?_ (by assumption) ?_; (intro _w; go_simp; exact eq_beq x key); simp only [Act.put, List.setIfInBounds_toArray, List.set_cons_zero, List.set_cons_succ])
    (refine wpD_plain 15 (v := ?_) rfl (by kernel_rfl) (by kernel_rfl) (by kernel_rfl) (fun _ _ _ h => h) (by rfl) ?_ (by assumption) ?_; rotate_left; (intro _w; go_simp; try with_reducible rfl); simp only [Act.put, List.setIfInBounds_toArray, List.set_cons_zero, List.set_cons_succ])
    (refine wpD_plain 16 (v := ?_) rfl (by kernel_rfl) (by kernel_rfl) (by kernel_rfl) (fun _ _ _ h => h) (by rfl) ?_ (by assumption) ?_; rotate_left; (intro _w; go_simp; try with_reducible rfl); simp only [Act.put, List.setIfInBounds_toArray, List.set_cons_zero, List.set_cons_succ])
    (refine wpD_plain 17 (v := ?_) rfl (by kernel_rfl) (by kernel_rfl) (by kernel_rfl) (fun _ _ _ h => h) (by rfl) ?_ (by assumption) ?_; rotate_left; (intro _w; go_simp; try with_reducible rfl); simp only [Act.put, List.setIfInBounds_toArray, List.set_cons_zero, List.set_cons_succ])
    refine wpD_done (by kernel_rfl) ?_ _
    clear hold
    go_wp2
    go_ret2
    refine ⟨i, ?_, HP.out, F13.out.drew⟩
    unfold hit
    rw [HX.out]
    simp
  · have hin' : i = ks.length := by omega
    have hno : ks[i]? = none := List.getElem?_eq_none (by omega)
    have HNO := hid hno
    have hb1 : decide ((i : Int) < (ks.length : Int)) = false := by simp; omega
    have hb2 : decide (i < ks.length) = false := by simp; omega
    have HZ := hid (size_s w3.drew b kv cv ks cs (HA3.out.fr (Fr.refl No w3).drew (fun _ _ e => e)))
    clear hno hin'
    generalize ks.length = n at *
    go_wp2_with fail
    have hold : Facts.hold [(2, fun w' => w'.cell? ⟨w.heap.size, 0, none⟩ = some (.pointer (some ⟨b, 0, none⟩)))] w3.drew := Facts.cons_hold c3 (Facts.nil_hold _)
    refine wpD_region hold (by kernel_rfl) 18 rfl ?_
    (refine wpD_plain 0 (v := ?_) rfl (by kernel_rfl) (by kernel_rfl) (by kernel_rfl) (fun _ _ _ h => h) (by rfl) ?_ (by assumption) ?_; rotate_left; (intro _w; go_simp; try with_reducible rfl); simp only [Act.put, List.setIfInBounds_toArray, List.set_cons_zero, List.set_cons_succ])
    (refine wpD_plain 1 (v := ?_) rfl (by kernel_rfl) (by kernel_rfl) (by kernel_rfl) (fun _ _ _ h => h) (by rfl) ?_ (by assumption) ?_; rotate_left; (intro _w; go_simp; try with_reducible rfl); simp only [Act.put, List.setIfInBounds_toArray, List.set_cons_zero, List.set_cons_succ])
    (refine wpD_take 2 _ rfl (by kernel_rfl) (by kernel_rfl) (by kernel_rfl) (fun _ _ _ h => h) List.mem_cons_self (by rfl) (v := ?_) ?_ (by assumption) ?_; rotate_left; (intro _w _hw; go_simp; try with_reducible rfl); simp only [Act.put, List.setIfInBounds_toArray, List.set_cons_zero, List.set_cons_succ])
    clear hold
    refine wpD_only 3 [] rfl (by kernel_rfl) (by kernel_rfl) (by rfl) (fun K hK => ?_)
    refine wp_call (.func 95) _ _ rfl 95 [] rfl (fun vs w => by kernel_rfl) [.pointer (some ⟨b, 0, none⟩)] (by rfl) ?_
    refine HZ.out.mono ?_
    rintro e w4 ⟨rfl, rfl⟩
    have hold : Facts.hold [] w3.drew := Facts.nil_hold _
    refine ⟨_, rfl, hK _ _ hold ?_⟩
    clear hK K
    simp only [Act.put, List.setIfInBounds_toArray, List.set_cons_zero, List.set_cons_succ]
    (refine wpD_plain 4 (v := (.bool false)) rfl (by kernel_rfl) (by kernel_rfl) (by kernel_rfl) (fun _ _ _ h => h) (by rfl) ?_ (by assumption) ?_; (intro _w; go_simp; skip); simp only [Act.put, List.setIfInBounds_toArray, List.set_cons_zero, List.set_cons_succ])
    (refine wpD_plain 5 (v := ?_) rfl (by kernel_rfl) (by kernel_rfl) (by kernel_rfl) (fun _ _ _ h => h) (by rfl) ?_ (by assumption) ?_; rotate_left; (intro _w; go_simp; try with_reducible rfl); simp only [Act.put, List.setIfInBounds_toArray, List.set_cons_zero, List.set_cons_succ])
    (refine wpD_skip 6 rfl (by kernel_rfl) (by kernel_rfl) (by kernel_rfl) (fun _ _ _ h => h) (by rfl) (by assumption) ?_; simp only [Act.put, List.setIfInBounds_toArray, List.set_cons_zero, List.set_cons_succ])
    (refine wpD_skip 7 rfl (by kernel_rfl) (by kernel_rfl) (by kernel_rfl) (fun _ _ _ h => h) (by rfl) (by assumption) ?_; simp only [Act.put, List.setIfInBounds_toArray, List.set_cons_zero, List.set_cons_succ])
    (refine wpD_skip 8 rfl (by kernel_rfl) (by kernel_rfl) (by kernel_rfl) (fun _ _ _ h => h) (by rfl) (by assumption) ?_; simp only [Act.put, List.setIfInBounds_toArray, List.set_cons_zero, List.set_cons_succ])
    (refine wpD_skip 9 rfl (by kernel_rfl) (by kernel_rfl) (by kernel_rfl) (fun _ _ _ h => h) (by rfl) (by assumption) ?_; simp only [Act.put, List.setIfInBounds_toArray, List.set_cons_zero, List.set_cons_succ])
    (refine wpD_skip 10 rfl (by kernel_rfl) (by kernel_rfl) (by kernel_rfl) (fun _ _ _ h => h) (by rfl) (by assumption) ?_; simp only [Act.put, List.setIfInBounds_toArray, List.set_cons_zero, List.set_cons_succ])
    (refine wpD_skip 11 rfl (by kernel_rfl) (by kernel_rfl) (by kernel_rfl) (fun _ _ _ h => h) (by rfl) (by assumption) ?_; simp only [Act.put, List.setIfInBounds_toArray, List.set_cons_zero, List.set_cons_succ])
    (refine wpD_skip 12 rfl (by kernel_rfl) (by kernel_rfl) (by kernel_rfl) (fun _ _ _ h => h) (by rfl) (by assumption) ?_; simp only [Act.put, List.setIfInBounds_toArray, List.set_cons_zero, List.set_cons_succ])
    (refine wpD_skip 13 rfl (by kernel_rfl) (by kernel_rfl) (by kernel_rfl) (fun _ _ _ h => h) (by rfl) (by assumption) ?_; simp only [Act.put, List.setIfInBounds_toArray, List.set_cons_zero, List.set_cons_succ])
    (refine wpD_skip 14 rfl (by kernel_rfl) (by kernel_rfl) (by kernel_rfl) (fun _ _ _ h => h) (by rfl) (by assumption) ?_; simp only [Act.put, List.setIfInBounds_toArray, List.set_cons_zero, List.set_cons_succ])
    (refine wpD_plain 15 (v := ?_) rfl (by kernel_rfl) (by kernel_rfl) (by kernel_rfl) (fun _ _ _ h => h) (by rfl) ?_ (by assumption) ?_; rotate_left; (intro _w; go_simp; try with_reducible rfl); simp only [Act.put, List.setIfInBounds_toArray, List.set_cons_zero, List.set_cons_succ])
    (refine wpD_plain 16 (v := ?_) rfl (by kernel_rfl) (by kernel_rfl) (by kernel_rfl) (fun _ _ _ h => h) (by rfl) ?_ (by assumption) ?_; rotate_left; (intro _w; go_simp; try with_reducible rfl); simp only [Act.put, List.setIfInBounds_toArray, List.set_cons_zero, List.set_cons_succ])
    (refine wpD_plain 17 (v := ?_) rfl (by kernel_rfl) (by kernel_rfl) (by kernel_rfl) (fun _ _ _ h => h) (by rfl) ?_ (by assumption) ?_; rotate_left; (intro _w; go_simp; try with_reducible rfl); simp only [Act.put, List.setIfInBounds_toArray, List.set_cons_zero, List.set_cons_succ])
    refine wpD_done (by kernel_rfl) ?_ _
    clear hold
    go_wp2
    go_ret2
    refine ⟨i, ?_, HP.out, F13.out.drew⟩
    unfold hit
    rw [HNO.out]
    simp

/-- Which of the contents a key belongs to. -/
structure HoldK (ks : List S) (k : S) (j : Nat) : Prop where
  lt : j < ks.length
  lo : ∀ m x, m ≤ j → 0 < m → ks[m]? = some x → TR.lt k x = false
  hi : ∀ m x, j < m → ks[m]? = some x → TR.lt k x = true
set_option maxHeartbeats 2000000 in
theorem holding_any (w : World) (b : Nat) (kv cv : Value) (ks : List S) (cs : List Value) (key : S) (h : NdAt w 141 103 2 b kv cv ks cs) (hs : Rises ks) (h0 : 0 < ks.length) (hn : ks.length ≤ 8796093022208) :
    Calls Try.prog 78 #[.pointer (some ⟨b, 0, none⟩), .string key] w fun e w' => ∃ j : Nat, e = .returned (.int .i64 j) ∧ HoldK ks key j ∧ Fr No w w' := by
  have H := hid h; have HS := hid hs; have HN := hid hn; have H0 := hid h0
  clear h hs hn h0
  have mf := hmf
  go_enter Try.func78, Try.ntmps78
  go_wp2_with (first
    | ((with_reducible show wpList _ _ _ ({ dst := _, op := .box 101 _, type := _, pos := _, after := _, guard := _ } :: _) _ _); refine wpL_box rfl _ _ rfl _ rfl [.pointer (some ⟨b, 0, none⟩)] rfl ?_; intro w1 HB1 F1 HS1)
    | ((with_reducible show wpList _ _ _ ({ dst := _, op := .box 9 _, type := _, pos := _, after := _, guard := _ } :: _) _ _); refine wpL_box rfl _ _ rfl _ rfl [.string key] rfl ?_; intro w2 HB2 F2 HS2; have c0 : w2.cell? ⟨w.heap.size, 0, none⟩ = some (.pointer (some ⟨b, 0, none⟩)) := (HB1.out.fr F2.out id).cell 0))
  have F02 : Hid (Fr No w w2) := hid (F1.out.trans' F2.out)
  have H2 : Hid (NdAt w2 141 103 2 b kv cv ks cs) := hid (H.out.fr F02.out (fun _ _ e => e))
  refine (size_p w2 b kv cv ks cs H2.out).mono ?_
  rintro e w3 ⟨rfl, rfl⟩
  go_wp2_with fail
  have hcl : ∀ (i : Nat) (W : World), i < ks.length → Fr No w2 W → Calls Try.prog 102 (Value.int .i64 i :: [.pointer (some ⟨w.heap.size, 0, none⟩), .pointer (some ⟨w1.heap.size, 0, none⟩)]).toArray W fun e W' => e = .returned (.bool (TR.lt key (ks.getD i ⟨#[]⟩))) ∧ Fr No W W' := fun i W hi hF => by
    obtain ⟨g, c, rfl, hcell⟩ := own_text H2.out.rk (by omega)
    have e : ks[i]? = some (ks.getD i ⟨#[]⟩) := by rw [List.getD_eq_getElem?_getD, List.getElem?_eq_getElem hi]; rfl
    exact hold_cl W i ks.length c g b w.heap.size w1.heap.size key (ks.getD i ⟨#[]⟩) (hF.cell c0 id) (hF.cell (H2.out.blk.cell 0) id) (hF.cell (hcell i _ e) id) (hF.cell (HB2.out.cell 0) id) hi
  have hmono : ∀ i j, i ≤ j → j < ks.length → TR.lt key (ks.getD i ⟨#[]⟩) = true → TR.lt key (ks.getD j ⟨#[]⟩) = true := fun i j hij hj hp => by
    have e1 : ks[i]? = some (ks.getD i ⟨#[]⟩) := by rw [List.getD_eq_getElem?_getD, List.getElem?_eq_getElem (by omega)]; rfl
    have e2 : ks[j]? = some (ks.getD j ⟨#[]⟩) := by rw [List.getD_eq_getElem?_getD, List.getElem?_eq_getElem hj]; rfl
    exact lt_of_lt_of_le hp (HS.out.mono hij e1 e2)
  have hse := search_any ks.length 102 [.pointer (some ⟨w.heap.size, 0, none⟩), .pointer (some ⟨w1.heap.size, 0, none⟩)] (fun i => TR.lt key (ks.getD i ⟨#[]⟩)) w2 (by have := HN.out; omega) ent_hold hcl hmono
  have HSE := hid hse
  clear hse hcl hmono
  refine HSE.out.mono ?_
  rintro e w3 ⟨i, rfl, hin, hlo, hhi, f3⟩
  have F13 : Hid (Fr No w w3) := hid (F02.out.trans' f3)
  have HP : Hid (HoldK ks key (i - 1)) := hid ⟨by have := H0.out; omega, fun m x hm h1 hx => by
      have := hlo m (by omega)
      simp only at this
      rw [List.getD_eq_getElem?_getD, hx] at this
      exact this, fun m x hm hx => by
      obtain ⟨hj2, -⟩ := List.getElem?_eq_some_iff.1 hx
      have := hhi m (by omega) hj2
      simp only at this
      rw [List.getD_eq_getElem?_getD, hx] at this
      exact this⟩
  clear f3 hlo hhi
  have HIN := hid hin
  have hib : (i : Int) ≤ 8796093022208 := by have := HN.out; omega
  rcases Nat.eq_zero_or_pos i with h0 | h0
  · have HFP : Hid (HoldK ks key 0) := hid (by have := HP.out; rw [h0] at this; exact this)
    clear HP HIN hin
    subst h0
    go_wp2
    go_ret
    exact ⟨0, rfl, HFP.out, F13.out⟩
  · have hi1 : (1 : Int) ≤ i := by omega
    go_wp2
    go_ret
    exact ⟨i - 1, by show Ending.returned (Value.int IntKind.i64 ((i : Int) - 1)) = _; rw [show ((i : Int) - 1) = ((i - 1 : Nat) : Int) from by omega], HP.out, F13.out⟩
end Go.Proofs.Ytlnolnaapnijbaa.TR
