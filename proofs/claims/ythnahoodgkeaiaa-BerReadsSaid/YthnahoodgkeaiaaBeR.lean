/-
  Package ber: an element is read, and its children.
-/
import Derived.Test.YthnahoodgkeaiaaBeH
import Derived.Test.YthnahoodgkeaiaaBeQ
import Derived.Test.YthnahoodgkeaiaaBeE
set_option linter.unusedVariables false
set_option linter.unusedSimpArgs false
namespace Go.Proofs.Ythnahoodgkeaiaa.BE
set_option maxRecDepth 100000
open Go.RowKit K

theorem infoNs : (Try.prog.info? 22).map (·.size) = some 1 := by kernel_rfl
/-- What lies at N or behind. -/
def Since (N : Nat) : Nat → Prop := fun k => N ≤ k
set_option maxHeartbeats 4000000 in
/-- The visitor of read: a child more. -/
theorem visit_any (base bn : Nat) (t : Int) (v : Value) (q : Nat) (xs cs : List Value) (w : World) (hB : Blk w bn 24 [.int .i64 t, .string ⟨#[]⟩, v]) (hr : w.ownsRow base 24 3 v q xs) (hbn : bn < base) (hbs : base ≤ w.heap.size) (hq : q ≤ 1000000) (hcs : cs.length = 3) (h1 : ∀ u ∈ cs, u.oneCell' = true) :
    Calls Try.prog 48 #[.agg cs.toArray, .pointer (some ⟨bn, 0, none⟩)] w fun e w' => e = .returned (.tuple #[]) ∧ ∃ v', Blk w' bn 24 [.int .i64 t, .string ⟨#[]⟩, v'] ∧ w'.ownsRow base 24 3 v' (q + 1) (xs ++ cs) ∧
      Fr (fun k => k = bn ∨ v.ownBlock = some k ∨ v'.ownBlock = some k) w w' ∧ ∀ g, v'.ownBlock = some g → v.ownBlock = some g ∨ w.heap.size ≤ g := by
  obtain ⟨x', y', z', hc⟩ := box_kid cs hcs
  subst hc
  obtain ⟨va, vc, rfl, -, -⟩ := own_form hr
  obtain ⟨ic, hic, hzc, hsc, hbc⟩ := Go.info_parts infozN
  have IC := hid hic; have ZC := hid hzc; have SC := hid hsc; have BC := hid hbc
  have HB := hid hB; have HR := hid hr; have HBN := hid hbn; have HBS := hid hbs; have H1 := hid h1
  have hqi : (q : Int) ≤ 1000000 := by omega
  clear hB hr hbn hbs h1 hcs hic hzc hsc hbc
  go_enter Try.func48, Try.ntmps48
  go_wp2_with (first
    | ((with_reducible show wpList _ _ _ (⟨_, .box 24 _, _, _, _, _⟩ :: _) _ _); refine wpL_box rfl _ _ rfl _ rfl [x', y', z'] rfl ?_; intro w1 HB1 F1 HS1))
  have hb1 := HB.out.fr F1.out id
  have k1 : w1.cell? ⟨bn, 2, none⟩ = some (.slice va q vc) := hb1.cell 2
  have k2 : w1.rangeAt w.heap.size 0 [x', y', z'] := HB1.out.range 0 _ rfl
  have hold : Facts.hold [(1, fun w' => w'.cell? ⟨bn, 2, none⟩ = some (.slice va q vc)), (2, fun w' => w'.rangeAt w.heap.size 0 [x', y', z'])] w1.drew := Facts.cons_hold k1 (Facts.cons_hold k2 (Facts.nil_hold _))
  have hZ1 : ∀ u ∈ [Value.int .i64 0, .string ⟨#[]⟩, .slice none 0 0], u.oneCell' = true := by intro u hu; simp at hu; rcases hu with rfl | rfl | rfl <;> rfl
  have HK1 := hid hb1
  clear hb1
  refine wpD_region hold (by kernel_rfl) 10 rfl ?_
  (refine wpD_plain 0 (v := ?_) rfl (by kernel_rfl) (by kernel_rfl) (by kernel_rfl) (fun _ _ _ h => h) (by rfl) ?_ (by assumption) ?_; rotate_left; (intro _w; go_simp; try with_reducible rfl); simp only [Act.put, List.setIfInBounds_toArray, List.set_cons_zero, List.set_cons_succ])
  (refine wpD_take 1 _ rfl (by kernel_rfl) (by kernel_rfl) (by kernel_rfl) (fun _ _ _ h => h) List.mem_cons_self (by rfl) (v := ?_) ?_ (by assumption) ?_; rotate_left; (intro _w _hw; go_simp; try with_reducible rfl); simp only [Act.put, List.setIfInBounds_toArray, List.set_cons_zero, List.set_cons_succ])
  (refine wpD_take 2 _ rfl (by kernel_rfl) (by kernel_rfl) (by kernel_rfl) (fun _ _ _ h => h) (List.mem_cons_of_mem _ List.mem_cons_self) (by rfl) (exec_load _ _ rfl w.heap.size 0 rfl _ _ rfl rfl infoN) (by assumption) ?_; simp only [Act.put, List.setIfInBounds_toArray, List.set_cons_zero, List.set_cons_succ])
  (refine wpD_plain 3 (v := ?_) rfl (by kernel_rfl) (by kernel_rfl) (by kernel_rfl) (fun _ _ _ h => h) (by rfl) ?_ (by assumption) ?_; rotate_left; (intro _w; go_simp; try with_reducible rfl); simp only [Act.put, List.setIfInBounds_toArray, List.set_cons_zero, List.set_cons_succ])
  clear hold
  refine wpD_only 4 [(1, fun w' => w'.cell? ⟨bn, 2, none⟩ = some (.slice va q vc)), (2, fun w' => w'.rangeAt w.heap.size 0 [x', y', z'])] rfl (by kernel_rfl) (by kernel_rfl) (by rfl) (fun K4 hK4 => ?_)
  refine wp_buildOne _ 24 _ rfl ic _ rfl IC.out ZC.out (by rw [SC.out]; decide) (by rw [SC.out]; decide) (.agg #[.int .i64 0, .string ⟨#[]⟩, .slice none 0 0]) [.int .i64 0, .string ⟨#[]⟩, .slice none 0 0] rfl rfl (by rw [SC.out]; rfl) ?_
  intro w2 HB2 F2 HS2
  have hold : Facts.hold [(1, fun w' => w'.cell? ⟨bn, 2, none⟩ = some (.slice va q vc)), (2, fun w' => w'.rangeAt w.heap.size 0 [x', y', z'])] w2 := Facts.cons_hold (F2.out.cell k1 id) (Facts.cons_hold (F2.out.range k2 id) (Facts.nil_hold _))
  refine hK4 _ _ hold ?_
  clear hK4 K4 hold k1 k2
  simp only [Act.put, List.setIfInBounds_toArray, List.set_cons_zero, List.set_cons_succ]
  have hf12 : Fr No w w2 := F1.out.trans' ((Fr.refl No w1).drew.trans' F2.out)
  have hr2 : w2.ownsRow base 24 3 (.slice va q vc) q xs := own_fr HR.out hf12 (fun _ _ e => e)
  refine wpD_only 5 [] rfl (by kernel_rfl) (by kernel_rfl) (by rfl) (fun K5 hK5 => ?_)
  refine wp_append _ _ 22 rfl base 24 ic _ 3 48 Try.underlying22 IC.out ZC.out SC.out BC.out rfl (by decide) (.slice va q vc) q xs rfl hr2 (some ⟨w1.drew.heap.size, 0, none⟩) 1 _ [.int .i64 0, .string ⟨#[]⟩, .slice none 0 0] rfl rfl (.inr ⟨_, rfl, HB2.out.news⟩) hZ1 (by unfold maxLen; omega) (by omega) (Nat.le_trans HBS.out hf12.size) ?_
  intro a7 c7 w3 HO3 HG3 HA3
  refine hK5 _ _ (Facts.nil_hold _) ?_
  clear hK5 K5
  simp only [Act.put, List.setIfInBounds_toArray, List.set_cons_zero, List.set_cons_succ]
  obtain ⟨g, cap, cs, hv, hcap, hBg, hgl, hset⟩ := own_last (kid := [x', y', z']) HO3.out HR.out.1 rfl
  simp only [Value.slice.injEq, true_and] at hv
  obtain ⟨rfl, rfl⟩ := hv
  have hga : (Value.slice (some ⟨g, 0, none⟩) (q + 1) c7).ownBlock = some g := rfl
  have hgb : base ≤ g := own_low HO3.out g rfl
  have hgn : g ≠ bn := by have := HBN.out; omega
  have hBb : Blk w3 bn 24 [.int .i64 t, .string ⟨#[]⟩, .slice va q vc] := (HB.out.fr hf12 id).fr (frown HG3.out) (fun e => by have := own_low HR.out bn e; have := HBN.out; omega)
  have hf3 : Fr (fun k => k = bn ∨ (Value.slice va q vc).ownBlock = some k ∨ (Value.slice (some ⟨g, 0, none⟩) (q + 1) c7).ownBlock = some k) w w3 := (Fr.no hf12).trans' ((frown HG3.out).mono fun k hk => .inr (.inl hk))
  have hown : ∀ j, (Value.slice (some ⟨g, 0, none⟩) (q + 1) c7).ownBlock = some j → (Value.slice va q vc).ownBlock = some j ∨ w.heap.size ≤ j := fun j hj => by
    rcases or_own HA3.out j hj with h | h
    · exact .inl h
    · exact .inr (Nat.le_trans hf12.size h)
  have FIN : ∀ w5, Blk w5 bn 24 [.int .i64 t, .string ⟨#[]⟩, .slice (some ⟨g, 0, none⟩) (q + 1) c7] → w5.ownsRow base 24 3 (.slice (some ⟨g, 0, none⟩) (q + 1) c7) (q + 1) (xs ++ [x', y', z']) → Fr (fun k => k = bn ∨ k = g) w3 w5 →
      ∃ v', Blk w5 bn 24 [.int .i64 t, .string ⟨#[]⟩, v'] ∧ w5.ownsRow base 24 3 v' (q + 1) (xs ++ [x', y', z']) ∧ Fr (fun k => k = bn ∨ (Value.slice va q vc).ownBlock = some k ∨ v'.ownBlock = some k) w w5 ∧ ∀ j, v'.ownBlock = some j → (Value.slice va q vc).ownBlock = some j ∨ w.heap.size ≤ j :=
    fun w5 h1 h2 h3 => ⟨_, h1, h2, hf3.trans' (h3.mono fun k hk => hk.elim .inl fun e => .inr (.inr (by rw [e]; rfl))), hown⟩
  have HFIN := hid FIN
  have hqq : (0 : Int) ≤ (q : Int) ∧ (q : Int) < (q : Int) + 1 := by omega
  have hold : Facts.hold [] w3 := Facts.nil_hold _
  (refine wpD_plain 8 (v := ?_) rfl (by kernel_rfl) (by kernel_rfl) (by kernel_rfl) (fun _ _ _ h => h) (by rfl) ?_ (by assumption) ?_; rotate_left; (intro _w; go_simp; try with_reducible rfl); simp only [Act.put, List.setIfInBounds_toArray, List.set_cons_zero, List.set_cons_succ])
  (refine wpD_plain 6 (v := (.pointer (some ⟨g, q * 3, none⟩))) rfl (by kernel_rfl) (by kernel_rfl) (by kernel_rfl) (fun _ _ _ h => h) (by rfl) ?_ (by assumption) ?_; (intro _w; go_simp; skip); simp only [Act.put, List.setIfInBounds_toArray, List.set_cons_zero, List.set_cons_succ])
  clear hold FIN
  refine wpD_two 7 9 [] [] rfl rfl (by kernel_rfl) (by kernel_rfl) (by kernel_rfl) (by rfl) (by rfl) ?_ ?_
  · intro K7 hK7
    refine wp_storeV _ _ _ rfl g (q * 3) (.agg #[x', y', z']) [x', y', z'] rfl rfl rfl _ _ hBg (by simp; omega) infoN (by intro u hu; exact H1.out u hu) ?_
    intro w4 HB4 F4 HS4
    refine hK7 _ _ (Facts.nil_hold _) ?_
    simp only [Act.put, List.setIfInBounds_toArray, List.set_cons_zero, List.set_cons_succ]
    refine wpD_only 9 [] rfl (by kernel_rfl) (by kernel_rfl) (by rfl) (fun K9 hK9 => ?_)
    have hB4 : Blk w4 bn 24 [.int .i64 t, .string ⟨#[]⟩, .slice va q vc] := hBb.fr F4.out (fun e => hgn e.symm)
    refine wp_storeV _ _ _ rfl bn 2 (.slice (some ⟨g, 0, none⟩) (q + 1) c7) [.slice (some ⟨g, 0, none⟩) (q + 1) c7] rfl rfl rfl _ _ hB4 (by simp) infoNs (by intro u hu; simp at hu; rcases hu with rfl; rfl) ?_
    intro w5 HB5 F5 HS5
    refine hK9 _ _ (Facts.nil_hold _) ?_
    refine wpD_done (by kernel_rfl) ?_ _
    go_end0
    refine ⟨rfl, HFIN.out w5 (by simpa [spl] using HB5.out) (own_fr (hset w4 HB4.out) F5.out (fun k hk e => by cases hk; exact hgn e)) ?_⟩
    exact (F4.out.mono fun k hk => .inr hk).trans' (F5.out.mono fun k hk => .inl hk)
  · intro K9 hK9
    refine wp_storeV _ _ _ rfl bn 2 (.slice (some ⟨g, 0, none⟩) (q + 1) c7) [.slice (some ⟨g, 0, none⟩) (q + 1) c7] rfl rfl rfl _ _ hBb (by simp) infoNs (by intro u hu; simp at hu; rcases hu with rfl; rfl) ?_
    intro w4 HB4 F4 HS4
    refine hK9 _ _ (Facts.nil_hold _) ?_
    simp only [Act.put, List.setIfInBounds_toArray, List.set_cons_zero, List.set_cons_succ]
    refine wpD_only 7 [] rfl (by kernel_rfl) (by kernel_rfl) (by rfl) (fun K7 hK7 => ?_)
    have hB4 : Blk w4 g 24 cs := hBg.fr F4.out (fun e => hgn e)
    refine wp_storeV _ _ _ rfl g (q * 3) (.agg #[x', y', z']) [x', y', z'] rfl rfl rfl _ _ hB4 (by simp; omega) infoN (by intro u hu; exact H1.out u hu) ?_
    intro w5 HB5 F5 HS5
    refine hK7 _ _ (Facts.nil_hold _) ?_
    refine wpD_done (by kernel_rfl) ?_ _
    go_end0
    refine ⟨rfl, HFIN.out w5 (Blk.fr (by simpa [spl] using HB4.out) F5.out (fun e => hgn e.symm)) (hset w5 HB5.out) ?_⟩
    exact (F4.out.mono fun k hk => .inl hk).trans' (F5.out.mono fun k hk => .inr hk)
end Go.Proofs.Ythnahoodgkeaiaa.BE
