/-
  Part 8 of the proof: TrX.
-/
import Derived.Test.YtflfmkokfbgclaaGreatRc07
set_option linter.unusedSimpArgs false
set_option linter.unusedVariables false
namespace Go.Proofs.YtflfmkokfbgclaaGreat.TR
set_option maxRecDepth 100000
open Go.RowKit K

theorem rem_keys {d : Nat} {A B : List (S × Kid (d + 1))} {k k' : S} {z y z1 : PT d} (hb : z1.b = z.b) {l : List (S × Kid (d + 1))} (hl : l = A ++ (k, up z) :: (k', up y) :: B) {j : Nat} (hj : A.length = j) :
    (keys l).take (j + 1) ++ (keys l).drop (j + 2) = keys (A ++ (k, up z1) :: B) ∧ (cells l).take ((j + 1) * 2) ++ (cells l).drop ((j + 2) * 2) = cells (A ++ (k, up z1) :: B) := by
  subst hj
  have el : l = (A ++ [(k, up z)]) ++ ((k', up y) :: B) := by rw [hl]; simp
  have el2 : l = (A ++ [(k, up z), (k', up y)]) ++ B := by rw [hl]; simp
  have e3 : l.take (A.length + 1) = A ++ [(k, up z)] := by
    rw [el, show A.length + 1 = (A ++ [(k, up z)]).length by simp, List.take_left]
  have e4 : l.drop (A.length + 2) = B := by
    rw [el2, show A.length + 2 = (A ++ [(k, up z), (k', up y)]).length by simp, List.drop_left]
  have hle : A.length + 1 ≤ l.length := by rw [hl]; simp
  have hle2 : A.length + 2 ≤ l.length := by rw [hl]; simp
  constructor
  · have h1 : (keys l).take (A.length + 1) = keys (l.take (A.length + 1)) := by simp [keys]
    have h2 : (keys l).drop (A.length + 2) = keys (l.drop (A.length + 2)) := by simp [keys]
    rw [h1, h2, e3, e4]
    simp [keys]
  · have h := cells_split l (A.length + 1) hle
    have h' := cells_split l (A.length + 2) hle2
    have he : elk (d + 1) = 2 := rfl
    rw [he] at h h'
    rw [h.1, h'.2, e3, e4, cells_append, cells_append, cells_cons, cells_cons]
    have h5 : cellK (d + 1) (up z) = cellK (d + 1) (up z1) := (ptr_b hb).symm
    simp only [h5]
    have h6 : cells (d := d + 1) [] = [] := rfl
    rw [h6, List.append_nil]
    simp [cellK]
theorem fitted_pre {d : Nat} {lo : S} {hi : Option S} {w w1 w2 : World} {t t1 : PT (d + 1)} {s s' : Nat} (h : Turned (d + 1) w t w1 t1) (hf : flat (d + 1) t1 = flat (d + 1) t) (hl : t.l.length = t1.l.length + 1) (hs : s < 4) (hs' : 4 ≤ s') (h2 : Fitted d lo hi w1 t1 s' w2) : Fitted d lo hi w t s w2 := by
  obtain ⟨t', a1, a2, a3, a4, a5, a6, a7, a8⟩ := h2
  have := a6 hs'
  exact ⟨t', h.trans a1, a2, a3, a4.trans hf, fun _ => by omega, fun h => by omega, by omega, by omega⟩
set_option maxHeartbeats 8000000 in
theorem fit_narrow (d : Nat) (w : World) (t : PT (d + 1)) (A B A0 B0 : List (S × Kid (d + 1))) (k k0 k1 : S) (x z y : PT d) (lo : S) (hi : Option S) (hr : Rep w (d + 1) t) (hl : t.l = A ++ (k, up x) :: B) (hl0 : t.l = A0 ++ (k0, up z) :: (k1, up y) :: B0) (hok : Ok (d + 1) lo hi t)
    (hix : max A.length 1 = A0.length + 1) (hg : ∀ y ∈ A0 ++ B0, szK (d + 1) y.2 ∧ goodK (d + 1) y.2) (hgz : Good d z) (hgy : Good d y) (hx3 : x.l.length < 4) (h7 : 7 ≤ z.l.length + y.l.length) (h11 : z.l.length + y.l.length ≤ 11) (hz0 : z.l ≠ []) (hy0 : y.l ≠ []) (hn : t.l.length ≤ 8796093022000) :
    Calls Tryz.prog 99 #[val (d + 1) t, .int .i64 A.length] w fun e w' => e = .returned (.tuple #[]) ∧ Fitted d lo hi w t x.l.length w' := by
  have HR := hid hr; have HL := hid hl; have HL0 := hid hl0; have HOK := hid hok; have HG := hid hg; have HGZ := hid hgz; have HGY := hid hgy; have HN := hid hn; have HZ0 := hid hz0; have HY0 := hid hy0
  have hAl : A.length < t.l.length := by rw [hl]; simp
  have hAl0 : A0.length + 1 < t.l.length := by rw [hl0]; simp
  obtain ⟨gc, cc, hcv, hc1, hcc1, hcc2, hog, hrange⟩ := node_open hr (by omega)
  have HRG := hid (hrange A k x B hl)
  have HRZ := hid (hrange A0 k0 z _ hl0)
  have HRY : Hid (w.rangeAt gc ((A0.length + 1) * 2) (ptr d y)) := hid (by
    have := hrange (A0 ++ [(k0, up z)]) k1 y B0 (by rw [hl0]; simp)
    simpa using this)
  have HAL := hid hAl; have HAL0 := hid hAl0
  unfold maxLen at hcc2
  have hAi : (A.length : Int) < (t.l.length : Int) := by omega
  have hAi0 : (A0.length : Int) + 1 < (t.l.length : Int) := by omega
  have hmx : max (A.length : Int) 1 = (A0.length : Int) + 1 := by omega
  have hlt := hr.lt t.b (own_fp (.inl rfl))
  have hltg := hr.lt gc (own_fp hog)
  have HLT := hid hlt; have HLG := hid hltg
  have HSZ := hid h7; have HSZ2 := hid h11
  clear hr hl hl0 hok hg hgz hgy hn hrange hcv hog hAl hlt hltg hAl0 hz0 hy0 h7 h11
  have hlt4 : ((x.l.length : Int) < 4) := by omega
  have HX3 := hid hx3
  generalize hm : t.l.length = m at *
  have HM := hid hm
  clear hm
  show Calls Tryz.prog _ #[.agg #[.pointer none, .pointer (some ⟨t.b, 0, none⟩)], .int .i64 A.length] w _
  generalize hja : A.length = j at *
  have HJ := hid hja
  generalize hia : A0.length = i0 at *
  have JJ := hid hia
  clear hja hia
  have hor : (j = 0 ∧ i0 = 0) ∨ (1 ≤ j ∧ (j : Int) - 1 = i0) := by omega
  have HOR := hid hor
  clear hor hix
  go_enter Tryz.func99, Tryz.ntmps99
  go_wp2_with (first
    | ((with_reducible show wpList _ _ _ (⟨_, .box 134 _, _, _, _, _⟩ :: _) _ _); refine wpL_box rfl _ _ rfl _ rfl [.pointer none, .pointer (some ⟨t.b, 0, none⟩)] rfl ?_; intro w1 HB1 F1 HS1; have c0 : w1.cell? ⟨w.heap.size, 1, none⟩ = some (.pointer (some ⟨t.b, 0, none⟩)) := HB1.out.cell 1; have c1 : w1.cell? ⟨t.b, 1, none⟩ = some (.slice (some ⟨gc, 0, none⟩) m cc) := F1.out.cell hc1 id)
    | ((with_reducible show wpList _ _ _ (⟨_, .load 134 _, _, _, _, _⟩ :: _) _ _); refine wpL_load rfl _ _ rfl gc (j * 2) rfl (ptr d x) _ (F1.out.range HRG.out id) rfl rfl (by rw [ptr_length]; exact info_p) ?_))
  have HRX1 : Hid (Rep w1 d x) := hid ((repK_succ.1 (HR.out.kids.rep (k, up x) (by rw [HL.out]; simp))).no F1.out)
  refine (psize_any d w1 x HRX1.out).mono ?_
  rintro e w3 ⟨rfl, f3⟩
  have F3 : Hid (Fr No w w3) := hid (F1.out.trans' f3)
  have d0 : w3.cell? ⟨w.heap.size, 1, none⟩ = some (.pointer (some ⟨t.b, 0, none⟩)) := f3.cell c0 id
  have HBX3 : Hid (Blk w3 w.heap.size 134 [.pointer none, .pointer (some ⟨t.b, 0, none⟩)]) := hid (HB1.out.fr f3 id)
  have d1 : w3.cell? ⟨t.b, 1, none⟩ = some (.slice (some ⟨gc, 0, none⟩) m cc) := f3.cell c1 id
  clear f3 c0 c1 HRX1
  generalize hs : x.l.length = s3 at *
  have HS := hid hs
  clear hs
  rcases HOR.out with ⟨hj0, hi0⟩ | ⟨hj1, hi1⟩
  · have hjl : (j : Int) < 1 := by omega
    have hjl2 : (j : Int) ≤ 1 := by omega
    have HI0 := hid hi0
    clear hj0 hi0
    go_wp2_with fail
    rw [show Value.int IntKind.i64 0 = Value.int IntKind.i64 (i0 : Int) from by rw [HI0.out]; rfl]
    have WS : Hid (IntKind.i64.wrap ((i0 : Int) + 1) = (i0 : Int) + 1) := hid (by rw [IntKind.wrap_i64]; have := HN.out; omega)
    have ht1 : ((i0 : Int) + 1).toNat = i0 + 1 := by omega
    have hp1 : (0 : Int) ≤ (i0 : Int) + 1 := by omega
    have hp2 : (i0 : Int) < (m : Int) := by omega
    have HP2 := hid hp2
    have hold : Facts.hold [(1, fun w' => w'.cell? ⟨w.heap.size, 1, none⟩ = some (.pointer (some ⟨t.b, 0, none⟩))), (4, fun w' => w'.cell? ⟨t.b, 1, none⟩ = some (.slice (some ⟨gc, 0, none⟩) m cc)), (7, fun w' => w'.rangeAt gc (i0 * 2) (ptr d z)), (9, fun w' => w'.cell? ⟨w.heap.size, 1, none⟩ = some (.pointer (some ⟨t.b, 0, none⟩))), (12, fun w' => w'.cell? ⟨t.b, 1, none⟩ = some (.slice (some ⟨gc, 0, none⟩) m cc)), (16, fun w' => w'.rangeAt gc ((i0 + 1) * 2) (ptr d y))] w3.drew :=
      Facts.cons_hold d0 (Facts.cons_hold d1 (Facts.cons_hold (F3.out.drew.range HRZ.out id) (Facts.cons_hold d0 (Facts.cons_hold d1 (Facts.cons_hold (F3.out.drew.range HRY.out id) (Facts.nil_hold _))))))
    refine wpD_region hold (by kernel_rfl) 18 rfl ?_
    (refine wpD_plain 0 (v := ?_) rfl (by kernel_rfl) (by kernel_rfl) (by kernel_rfl) (fun _ _ _ h => h) (by rfl) ?_ (by assumption) ?_; rotate_left; (intro _w; go_simp; try with_reducible rfl); simp only [Act.put, List.setIfInBounds_toArray, List.set_cons_zero, List.set_cons_succ])
    (refine wpD_take 1 _ rfl (by kernel_rfl) (by kernel_rfl) (by kernel_rfl) (fun _ _ _ h => h) List.mem_cons_self (by rfl) (v := ?_) ?_ (by assumption) ?_; rotate_left; (intro _w _hw; go_simp; try with_reducible rfl); simp only [Act.put, List.setIfInBounds_toArray, List.set_cons_zero, List.set_cons_succ])
    (refine wpD_plain 2 (v := ?_) rfl (by kernel_rfl) (by kernel_rfl) (by kernel_rfl) (fun _ _ _ h => h) (by rfl) ?_ (by assumption) ?_; rotate_left; (intro _w; go_simp; try with_reducible rfl); simp only [Act.put, List.setIfInBounds_toArray, List.set_cons_zero, List.set_cons_succ])
    (refine wpD_plain 3 (v := ?_) rfl (by kernel_rfl) (by kernel_rfl) (by kernel_rfl) (fun _ _ _ h => h) (by rfl) ?_ (by assumption) ?_; rotate_left; (intro _w; go_simp; try with_reducible rfl); simp only [Act.put, List.setIfInBounds_toArray, List.set_cons_zero, List.set_cons_succ])
    (refine wpD_take 4 _ rfl (by kernel_rfl) (by kernel_rfl) (by kernel_rfl) (fun _ _ _ h => h) (List.mem_cons_of_mem _ List.mem_cons_self) (by rfl) (v := ?_) ?_ (by assumption) ?_; rotate_left; (intro _w _hw; go_simp; try with_reducible rfl); simp only [Act.put, List.setIfInBounds_toArray, List.set_cons_zero, List.set_cons_succ])
    (refine wpD_plain 5 (v := ?_) rfl (by kernel_rfl) (by kernel_rfl) (by kernel_rfl) (fun _ _ _ h => h) (by rfl) ?_ (by assumption) ?_; rotate_left; (intro _w; go_simp; try with_reducible rfl); simp only [Act.put, List.setIfInBounds_toArray, List.set_cons_zero, List.set_cons_succ])
    (refine wpD_plain 6 (v := ?_) rfl (by kernel_rfl) (by kernel_rfl) (by kernel_rfl) (fun _ _ _ h => h) (by rfl) ?_ (by assumption) ?_; rotate_left; (intro _w; go_simp; try with_reducible rfl); simp only [Act.put, List.setIfInBounds_toArray, List.set_cons_zero, List.set_cons_succ])
    (refine wpD_take 7 _ rfl (by kernel_rfl) (by kernel_rfl) (by kernel_rfl) (fun _ _ _ h => h) (List.mem_cons_of_mem _ (List.mem_cons_of_mem _ List.mem_cons_self)) (by rfl) (exec_load _ _ rfl gc (i0 * 2) rfl _ _ rfl rfl (by rw [ptr_length]; exact info_p)) (by assumption) ?_; simp only [Act.put, List.setIfInBounds_toArray, List.set_cons_zero, List.set_cons_succ])
    (refine wpD_plain 8 (v := ?_) rfl (by kernel_rfl) (by kernel_rfl) (by kernel_rfl) (fun _ _ _ h => h) (by rfl) ?_ (by assumption) ?_; rotate_left; (intro _w; go_simp; try with_reducible rfl); simp only [Act.put, List.setIfInBounds_toArray, List.set_cons_zero, List.set_cons_succ])
    (refine wpD_take 9 _ rfl (by kernel_rfl) (by kernel_rfl) (by kernel_rfl) (fun _ _ _ h => h) (List.mem_cons_of_mem _ (List.mem_cons_of_mem _ (List.mem_cons_of_mem _ List.mem_cons_self))) (by rfl) (v := ?_) ?_ (by assumption) ?_; rotate_left; (intro _w _hw; go_simp; try with_reducible rfl); simp only [Act.put, List.setIfInBounds_toArray, List.set_cons_zero, List.set_cons_succ])
    (refine wpD_plain 10 (v := ?_) rfl (by kernel_rfl) (by kernel_rfl) (by kernel_rfl) (fun _ _ _ h => h) (by rfl) ?_ (by assumption) ?_; rotate_left; (intro _w; go_simp; try with_reducible rfl); simp only [Act.put, List.setIfInBounds_toArray, List.set_cons_zero, List.set_cons_succ])
    (refine wpD_plain 11 (v := ?_) rfl (by kernel_rfl) (by kernel_rfl) (by kernel_rfl) (fun _ _ _ h => h) (by rfl) ?_ (by assumption) ?_; rotate_left; (intro _w; go_simp; try with_reducible rfl); simp only [Act.put, List.setIfInBounds_toArray, List.set_cons_zero, List.set_cons_succ])
    (refine wpD_take 12 _ rfl (by kernel_rfl) (by kernel_rfl) (by kernel_rfl) (fun _ _ _ h => h) (List.mem_cons_of_mem _ (List.mem_cons_of_mem _ (List.mem_cons_of_mem _ (List.mem_cons_of_mem _ List.mem_cons_self)))) (by rfl) (v := ?_) ?_ (by assumption) ?_; rotate_left; (intro _w _hw; go_simp; try with_reducible rfl); simp only [Act.put, List.setIfInBounds_toArray, List.set_cons_zero, List.set_cons_succ])
    (refine wpD_plain 13 (v := ?_) rfl (by kernel_rfl) (by kernel_rfl) (by kernel_rfl) (fun _ _ _ h => h) (by rfl) ?_ (by assumption) ?_; rotate_left; (intro _w; go_simp; try with_reducible rfl); simp only [Act.put, List.setIfInBounds_toArray, List.set_cons_zero, List.set_cons_succ])
    (refine wpD_plain 14 (v := (.int .i64 ((i0 : Int) + 1))) rfl (by kernel_rfl) (by kernel_rfl) (by kernel_rfl) (fun _ _ _ h => h) (by rfl) ?_ (by assumption) ?_; (intro _w; go_simp; exact WS.out); simp only [Act.put, List.setIfInBounds_toArray, List.set_cons_zero, List.set_cons_succ])
    (refine wpD_plain 15 (v := (.pointer (some ⟨gc, (i0 + 1) * 2, none⟩))) rfl (by kernel_rfl) (by kernel_rfl) (by kernel_rfl) (fun _ _ _ h => h) (by rfl) ?_ (by assumption) ?_; (intro _w; go_simp; skip); simp only [Act.put, List.setIfInBounds_toArray, List.set_cons_zero, List.set_cons_succ])
    (refine wpD_take 16 _ rfl (by kernel_rfl) (by kernel_rfl) (by kernel_rfl) (fun _ _ _ h => h) (List.mem_cons_of_mem _ (List.mem_cons_of_mem _ (List.mem_cons_of_mem _ (List.mem_cons_of_mem _ (List.mem_cons_of_mem _ List.mem_cons_self))))) (by rfl) (exec_load _ _ rfl gc ((i0 + 1) * 2) rfl _ _ rfl rfl (by rw [ptr_length]; exact info_p)) (by assumption) ?_; simp only [Act.put, List.setIfInBounds_toArray, List.set_cons_zero, List.set_cons_succ])
    clear hold
    refine wpD_only 17 [(1, fun w' => w'.cell? ⟨w.heap.size, 1, none⟩ = some (.pointer (some ⟨t.b, 0, none⟩))), (4, fun w' => w'.cell? ⟨t.b, 1, none⟩ = some (.slice (some ⟨gc, 0, none⟩) m cc)), (9, fun w' => w'.cell? ⟨w.heap.size, 1, none⟩ = some (.pointer (some ⟨t.b, 0, none⟩))), (12, fun w' => w'.cell? ⟨t.b, 1, none⟩ = some (.slice (some ⟨gc, 0, none⟩) m cc))] rfl (by kernel_rfl) (by kernel_rfl) (by rfl) (fun K17 hK17 => ?_)
    have hmz : (k0, up z) ∈ t.l := by rw [HL0.out]; simp
    have hmy : (k1, up y) ∈ t.l := by rw [HL0.out]; simp
    have HR3 : Hid (Rep w3.drew (d + 1) t) := hid ((HR.out.no F3.out).no (Fr.refl No w3).drew)
    have hzy : Dj (fp d z) (fp d y) := by
      have h1 := HR.out.kids.apart
      rw [HL0.out] at h1
      exact (List.pairwise_cons.1 (List.pairwise_append.1 h1).2.1).1 (k1, up y) (by simp)
    refine wp_call (.func 103) _ _ rfl 103 [] rfl (fun vs w => by kernel_rfl) [val d z, val d y] (by rfl) ?_
    refine (pjoin_any d w3.drew z y (repK_succ.1 (HR3.out.kids.rep _ hmz)) (repK_succ.1 (HR3.out.kids.rep _ hmy)) hzy (by have := HSZ2.out; omega)).mono ?_
    rintro e w4 ⟨rfl, z1, hj⟩
    have HJN := hid hj
    have hown : ∀ g, own t g → ¬ own z g := fun g h1 h2 => HR.out.kids.off _ hmz g h1 (own_fp h2)
    have f4 : Fr (own z) w3 w4 := (Fr.refl _ w3).drew.trans' hj.2.2.2.1
    have hbxz : ∀ g, own z g → g ≠ w.heap.size := fun g h1 e => by
      have := HR.out.lt g (.inr ⟨_, hmz, own_fp h1⟩); omega
    have n0 : w4.cell? ⟨w.heap.size, 1, none⟩ = some (.pointer (some ⟨t.b, 0, none⟩)) := f4.cell d0 (fun e => hbxz _ e rfl)
    have n1 : w4.cell? ⟨t.b, 1, none⟩ = some (.slice (some ⟨gc, 0, none⟩) m cc) := f4.cell d1 (hown _ (.inl rfl))
    have HBX4 : Hid (Blk w4 w.heap.size 134 [.pointer none, .pointer (some ⟨t.b, 0, none⟩)]) := hid (HBX3.out.fr f4 (fun e => hbxz _ e rfl))
    have HND4 : Hid (NdAt w4 (ndT (d + 1)) (elT (d + 1)) (elk (d + 1)) t.b t.k t.c (keys t.l) (cells t.l)) := hid (HR3.out.nd.fr hj.2.2.2.1 hown)
    have hkj := kids_join HR3.out HL0.out hj
    have HKJ := hid hkj.1
    have F4 := hid f4
    refine ⟨_, rfl, hK17 _ _ (Facts.cons_hold n0 (Facts.cons_hold n1 (Facts.cons_hold n0 (Facts.cons_hold n1 (Facts.nil_hold _))))) ?_⟩
    clear hj hown f4 hkj hK17 K17 hbxz
    simp only [Act.put, List.setIfInBounds_toArray, List.set_cons_zero, List.set_cons_succ]
    refine wpD_done (by kernel_rfl) ?_ _
    clear n1 hp1 ht1 d0 d1
    have hw2 : (i0 : Int) + 2 ≤ (m : Int) := by omega
    go_wp2_with fail
    have hrem := remove_p w4 t.b (i0 + 1) (i0 + 2) t.k t.c (keys t.l) (cells t.l) HND4.out (by omega) (by rw [keys_length, HM.out]; have := HAL0.out; omega) (by rw [keys_length, HM.out]; have := HN.out; omega)
    rw [show (((i0 + 1 : Nat) : Int)) = (i0 : Int) + 1 from by omega, show (((i0 + 2 : Nat) : Int)) = (i0 : Int) + 2 from by omega] at hrem
    have HREM := hid hrem
    clear hrem
    refine HREM.out.mono ?_
    rintro e w2 ⟨rfl, hp⟩
    have hrk := rem_keys HJN.out.2.1 HL0.out JJ.out
    rw [hrk.1, hrk.2] at hp
    have fo : Fr (own t) w4 w2 := by obtain ⟨_, _, -, h, -⟩ := hp; exact h
    obtain ⟨t1, e1, e2, r1, fo2, go⟩ := rep_node hp HKJ.out
    have JL := hid e1
    have JB := hid e2
    have JR := hid r1
    have HT1 : Hid (Turned (d + 1) w t w2 t1) := hid ⟨r1, (F3.out.no.trans' (F4.out.mono fun g hg => .inr ⟨_, hmz, own_fp hg⟩)).trans' (fo.mono fun g hg => .inl hg), fun g hg => by
      have s3 := F3.out.size; have s4 := F4.out.size
      rcases hg with hg | ⟨q, hq, hg⟩
      · exact (go g hg).imp .inl (fun e => by omega)
      · rw [e1] at hq
        rcases List.mem_append.1 hq with hq | hq
        · exact .inl (.inr ⟨q, by rw [HL0.out]; simp [hq], hg⟩)
        · rcases List.mem_cons.1 hq with rfl | hq
          · rcases HJN.out.2.2.2.2 g hg with e | e | e
            · exact .inl (.inr ⟨_, hmz, e⟩)
            · exact .inl (.inr ⟨_, hmy, e⟩)
            · exact .inr (by have : w3.drew.heap.size = w3.heap.size := rfl; omega)
          · exact .inl (.inr ⟨q, by rw [HL0.out]; simp [hq], hg⟩), e2⟩
    have hch := HOK.out.1
    rw [HL0.out] at hch
    have hkz := chain_kid hch
    have hch2 : Chain (okK (d + 1)) hi ((A0 ++ [(k0, up z)]) ++ (k1, up y) :: B0) := by simpa using hch
    have hky := chain_kid hch2
    have hz1 : Ok d k0 (nx hi B0) z1 := ok_join hkz.1 hky.1 hkz.2 HZ0.out HY0.out HJN.out.1
    have JOK : Hid (Ok (d + 1) lo hi t1) := hid ⟨by
      rw [e1, chain_append]
      rw [chain_append] at hch
      refine ⟨hch.1, hz1, ?_, hch.2.2.2.2.2⟩
      exact hky.2.lt hkz.2, by
      have hf := HOK.out.2
      rw [HL0.out] at hf
      rw [e1]
      cases A0 with
      | nil =>
        obtain ⟨c0, r0, e⟩ := hf
        have : k0 = lo := by injection e with e1 e2; injection e1
        subst this
        exact ⟨up z1, _, rfl⟩
      | cons a A0 => exact first_prefix hf (by simp)⟩
    have JGX : Hid (Good d z1) := hid (fun q hq => by
      rw [HJN.out.1] at hq
      exact (List.mem_append.1 hq).elim (HGZ.out q) (HGY.out q))
    have JG := HG
    have hlen1 : t.l.length = t1.l.length + 1 := by rw [e1, HL0.out]; simp; omega
    have HFL : Hid (flat (d + 1) t1 = flat (d + 1) t) := hid (by
      rw [flat_of e1, flat_of HL0.out, flats_append, flats_append, flats_cons, flats_cons, flats_cons]
      have h6 : flatK (d + 1) k0 (up z1) = flatK (d + 1) k0 (up z) ++ flatK (d + 1) k1 (up y) := by
        show flats d z1.l = flats d z.l ++ flats d y.l
        rw [HJN.out.1, flats_append]
      simp only [h6, List.append_assoc])
    have hzl : z1.l.length = z.l.length + y.l.length := by rw [HJN.out.1, List.length_append]
    obtain ⟨gd, ce, -, hn1, hnc, hncm, hog1, hrange1⟩ := node_open r1 (by rw [e1]; simp; omega)
    have JRG : Hid (w2.rangeAt gd (i0 * 2) (ptr d z1)) := hid (by have := hrange1 A0 k0 z1 B0 e1; rwa [JJ.out] at this)
    have hbxo : ∀ g, own t g → g ≠ w.heap.size := fun g hg e => by have := HR.out.lt g (own_fp hg); omega
    have d0 : w2.cell? ⟨w.heap.size, 1, none⟩ = some (.pointer (some ⟨t1.b, 0, none⟩)) := by rw [JB.out]; exact fo.cell n0 (fun e => hbxo _ e rfl)
    have HBX2 : Hid (Blk w2 w.heap.size 134 [.pointer none, .pointer (some ⟨t1.b, 0, none⟩)]) := hid (by rw [JB.out]; exact HBX4.out.fr fo (fun e => hbxo _ e rfl))
    have HRX2 : Hid (Rep w2 d z1) := hid (repK_succ.1 (r1.kids.rep (k0, up z1) (by rw [e1]; simp)))
    have HBN : Hid (∀ g, fp (d + 1) t1 g → g ≠ w.heap.size) := hid (fun g hg e => by
      have hw := HBX3.out.lt
      have s3 := F3.out.size; have s4 := F4.out.size
      have hx0 : ∀ g, fp (d + 1) t g → g < w.heap.size := HR.out.lt
      rcases hg with hg | ⟨q, hq, hg⟩
      · rcases go g hg with h | h
        · have := hx0 g (.inl h); omega
        · omega
      · rw [e1] at hq
        rcases List.mem_append.1 hq with hq | hq
        · have := hx0 g (.inr ⟨q, by rw [HL0.out]; simp [hq], hg⟩); omega
        · rcases List.mem_cons.1 hq with rfl | hq
          · rcases HJN.out.2.2.2.2 g hg with h | h | h
            · have := hx0 g (.inr ⟨_, hmz, h⟩); omega
            · have := hx0 g (.inr ⟨_, hmy, h⟩); omega
            · have : w3.drew.heap.size = w3.heap.size := rfl; omega
          · have := hx0 g (.inr ⟨q, by rw [HL0.out]; simp [hq], hg⟩); omega)
    clear hp hrk fo fo2 go e1 e2 r1 hch hkz hch2 hky hz1 hog1 hrange1 hbxo hmz hmy hzy n0
    unfold maxLen at hncm
    have hm1 : t1.l.length = m - 1 := by have := HM.out; omega
    generalize hmm : t1.l.length = m1 at *
    have JM := hid hmm
    have HLEN := hid hlen1
    have JN : Hid (m1 ≤ 8796093022000) := hid (by have := HN.out; omega)
    have JAL : Hid (i0 < m1) := hid (by have := HAL0.out; omega)
    have hi1m : (i0 : Int) < (m1 : Int) := by have := HAL0.out; omega
    have d1 : w2.cell? ⟨t1.b, 1, none⟩ = some (.slice (some ⟨gd, 0, none⟩) m1 ce) := hn1
    have F2 : Hid (Fr No w2 w2) := hid (Fr.refl _ _)
    have hs4 : 4 ≤ z1.l.length := by have := HSZ.out; omega
    have hs11 : z1.l.length ≤ 11 := by have := HSZ2.out; omega
    clear hmm hlen1 hm1 hn1 hzl hAi0 hAi hw2 hmx hlt4
    generalize hzz : z1.l.length = s at *
    have JS := hid hzz
    clear hzz
    go_wp2_with ((with_reducible show wpList _ _ _ (⟨_, .load 134 _, _, _, _, _⟩ :: _) _ _); refine wpL_load rfl _ _ rfl gd (i0 * 2) rfl (ptr d z1) _ (F2.out.range JRG.out id) rfl rfl (by rw [ptr_length]; exact info_p) ?_)
    refine (psize_any d w2 z1 HRX2.out).mono ?_
    rw [JS.out]
    rintro e y3 ⟨rfl, f3⟩
    have K3 : Hid (Fr No w2 y3) := hid (F2.out.trans' f3)
    have e0 : y3.cell? ⟨w.heap.size, 1, none⟩ = some (.pointer (some ⟨t1.b, 0, none⟩)) := f3.cell d0 id
    have e1 : y3.cell? ⟨t1.b, 1, none⟩ = some (.slice (some ⟨gd, 0, none⟩) m1 ce) := f3.cell d1 id
    have HBX3 : Hid (Blk y3 w.heap.size 134 [.pointer none, .pointer (some ⟨t1.b, 0, none⟩)]) := hid (HBX2.out.fr f3 id)
    have HRX3 : Hid (Rep y3 d z1) := hid (HRX2.out.no f3)
    have HR3 : Hid (Rep y3 (d + 1) t1) := hid (JR.out.no K3.out)
    clear f3 d0 d1 HRX2 HBX2 F2
    by_cases h8 : s ≤ 8
    · have h8' : ¬ (8 < (s : Int)) := by omega
      have h8n : ¬ (8 < s) := by omega
      go_wp2
      refine bodyPost_end (v := .tuple #[]) (by simp [results, Tryz.results99]) rfl ⟨rfl, ?_⟩
      rw [HS.out]
      refine fitted_pre (s' := s) HT1.out HFL.out (by rw [JM.out]; exact HLEN.out) HX3.out hs4 ?_
      refine ⟨t1, Turned.refl JR.out K3.out, JOK.out, fun y hy => ?_, rfl, fun _ => Nat.le_refl _, fun _ => Nat.le_refl _, by omega, by omega⟩
      rw [JL.out] at hy
      rcases List.mem_append.1 hy with hy | hy
      · exact JG.out y (by simp [hy])
      · rcases List.mem_cons.1 hy with rfl | hy
        · exact ⟨⟨by rw [show (Nd.l (α := Kid d) (up z1)).length = s from JS.out]; omega, by rw [show (Nd.l (α := Kid d) (up z1)).length = s from JS.out]; omega⟩, JGX.out⟩
        · exact JG.out y (by simp [hy])
    · have h8' : 8 < (s : Int) := by omega
      have h8n : 8 < s := by omega
      have hdv : (s : Int) / 2 = ((s / 2 : Nat) : Int) := by omega
      have HDV := hid hdv
      clear hdv h8
      go_wp2_with ((with_reducible show wpList _ _ _ (⟨_, .load 134 _, _, _, _, _⟩ :: _) _ _); refine wpL_load rfl _ _ rfl gd (i0 * 2) rfl (ptr d z1) _ (K3.out.range JRG.out id) rfl rfl (by rw [ptr_length]; exact info_p) ?_)
      rw [HDV.out]
      generalize hq : s / 2 = q at *
      have hq4 : 4 ≤ q := by omega
      have hqs : q < s := by omega
      have hq8 : s - q ≤ 8 ∧ 4 ≤ s - q ∧ q ≤ 8 := by omega
      have HQ8 := hid hq8
      clear hq hq8
      refine (pcut_any d y3 z1 q HRX3.out (by rw [JS.out]; omega) (by rw [JS.out]; omega)).mono ?_
      rintro e y4 ⟨z2, u, k', cc', rr, rfl, hdk, l1, b1, l2, r1, ru, f4, g1, gu, hdj⟩
      have HDK := hid hdk; have L1 := hid l1; have B1 := hid b1; have L2 := hid l2; have R1 := hid r1; have RU := hid ru; have K4 := hid f4; have G1 := hid g1; have GU := hid gu; have HDJ := hid hdj
      clear hdk l1 b1 l2 r1 ru f4 g1 gu hdj
      obtain ⟨pu, qu, hvu, hpu, hqu⟩ := val_agg d u
      have HVU := hid hvu
      have hpl : ptr d u = [pu, qu] := by
        have : (val d u) = .agg (ptr d u).toArray := rfl
        rw [hvu] at this
        have h2 : #[pu, qu] = (ptr d u).toArray := by injection this
        have := congrArg Array.toList h2
        simpa using this.symm
      have HPL := hid hpl
      clear hvu hpl
      rw [HVU.out]
      have h0x : ∀ g, own t1 g → ¬ own z1 g := fun g h1 h2 => JR.out.kids.off (k0, up z1) (by rw [JL.out]; simp) g h1 (own_fp h2)
      have H0X := hid h0x
      clear h0x
      have hbx : ∀ g, own z1 g → g ≠ w.heap.size := fun g h1 => HBN.out g (.inr ⟨(k0, up z1), by rw [JL.out]; simp, own_fp h1⟩)
      have n0 : y4.cell? ⟨w.heap.size, 1, none⟩ = some (.pointer (some ⟨t1.b, 0, none⟩)) := K4.out.cell e0 (fun e => hbx _ e rfl)
      clear hbx
      have HND4 : Hid (NdAt y4 (ndT (d + 1)) (elT (d + 1)) (elk (d + 1)) t1.b t1.k t1.c (keys t1.l) (cells t1.l)) := hid (HR3.out.nd.fr K4.out H0X.out)
      have HWL : Hid (w.heap.size < y4.heap.size) := hid (by have := HBX3.out.lt; have := K4.out.size; omega)
      go_wp2_with (first
        | ((with_reducible show wpList _ _ _ (⟨_, .alloc 134, _, _, _, _⟩ :: _) _ _); refine wpL_alloc rfl _ rfl _ zero_pt [.pointer none, .pointer none] rfl ?_; intro y5 KB5 K5 KS5)
        | ((with_reducible show wpList _ _ _ (⟨_, .store 134 _ _, _, _, _, _⟩ :: _) _ _); refine wpL_storeV rfl _ _ _ rfl y4.heap.size 0 (.agg #[pu, qu]) [pu, qu] rfl rfl rfl _ _ KB5.out (by simp) info_p (by intro z hz; simp at hz; rcases hz with rfl | rfl <;> assumption) ?_; intro y6 KB6 K6 KS6; have n1 : y6.cell? ⟨w.heap.size, 1, none⟩ = some (.pointer (some ⟨t1.b, 0, none⟩)) := K6.out.cell (K5.out.cell n0 id) (fun e => by have h1 : w.heap.size = y4.heap.size := e; have := HWL.out; omega))
        | ((with_reducible show wpList _ _ _ (⟨_, .load 134 _, _, _, _, _⟩ :: _) _ _); refine wpL_load rfl _ _ rfl y4.heap.size 0 rfl [pu, qu] _ (KB6.out.range 0 _ (by simp [spl])) rfl rfl info_p ?_))
      have HF6 : Hid (Fr No y4 y6) := hid (K5.out.trans (D' := fun k0 => k0 = y4.heap.size) K6.out (fun k0 e => .inr (by rw [e]; exact Nat.le_refl _)))
      have HND6 : Hid (NdAt y6 (ndT (d + 1)) (elT (d + 1)) (elk (d + 1)) t1.b t1.k t1.c (keys t1.l) (cells t1.l)) := hid (HND4.out.fr HF6.out (fun _ _ e => e))
      have hins := insert_nd_p y6 t1.b (i0 + 1) t1.k t1.c (keys t1.l) (cells t1.l) [pu, qu] k' (.agg #[pu, qu]) rfl rfl (by intro z hz; simp at hz; rcases hz with rfl | rfl <;> assumption) ⟨pu, qu, rfl, hpu, hqu⟩ HND6.out (by rw [keys_length, JM.out]; have := JAL.out; omega) (by rw [keys_length, JM.out]; have := JN.out; omega)
      rw [show (((i0 + 1 : Nat) : Int)) = (i0 : Int) + 1 from by omega] at hins
      have HINS := hid hins
      clear hins
      refine HINS.out.mono ?_
      rintro e y7 ⟨rfl, hp⟩
      have HP := hid hp
      clear hp
      go_wp2
      refine bodyPost_end (v := .tuple #[]) (by simp [results, Tryz.results99]) rfl ⟨rfl, ?_⟩
      have hik := ins_keys (k' := k') (u := u) B1.out JL.out JJ.out
      have hp2 := HP.out
      rw [← HPL.out, hik.1, hik.2] at hp2
      rw [HS.out]
      refine fitted_pre (s' := s) HT1.out HFL.out (by rw [JM.out]; exact HLEN.out) HX3.out hs4 ?_
      exact fit_cut HR3.out K3.out JL.out JOK.out JG.out JGX.out JS.out h8n hq4 hqs HQ8.out HDK.out L1.out B1.out L2.out R1.out RU.out K4.out G1.out GU.out HDJ.out HF6.out hp2
  · have hjl : (1 : Int) ≤ j := by omega
    have HI1 := hid hi1
    clear hj1 hi1
    go_wp2_with fail
    rw [HI1.out]
    have WS : Hid (IntKind.i64.wrap ((i0 : Int) + 1) = (i0 : Int) + 1) := hid (by rw [IntKind.wrap_i64]; have := HN.out; omega)
    have ht1 : ((i0 : Int) + 1).toNat = i0 + 1 := by omega
    have hp1 : (0 : Int) ≤ (i0 : Int) + 1 := by omega
    have hp2 : (i0 : Int) < (m : Int) := by omega
    have HP2 := hid hp2
    have hold : Facts.hold [(1, fun w' => w'.cell? ⟨w.heap.size, 1, none⟩ = some (.pointer (some ⟨t.b, 0, none⟩))), (4, fun w' => w'.cell? ⟨t.b, 1, none⟩ = some (.slice (some ⟨gc, 0, none⟩) m cc)), (7, fun w' => w'.rangeAt gc (i0 * 2) (ptr d z)), (9, fun w' => w'.cell? ⟨w.heap.size, 1, none⟩ = some (.pointer (some ⟨t.b, 0, none⟩))), (12, fun w' => w'.cell? ⟨t.b, 1, none⟩ = some (.slice (some ⟨gc, 0, none⟩) m cc)), (16, fun w' => w'.rangeAt gc ((i0 + 1) * 2) (ptr d y))] w3.drew :=
      Facts.cons_hold d0 (Facts.cons_hold d1 (Facts.cons_hold (F3.out.drew.range HRZ.out id) (Facts.cons_hold d0 (Facts.cons_hold d1 (Facts.cons_hold (F3.out.drew.range HRY.out id) (Facts.nil_hold _))))))
    refine wpD_region hold (by kernel_rfl) 18 rfl ?_
    (refine wpD_plain 0 (v := ?_) rfl (by kernel_rfl) (by kernel_rfl) (by kernel_rfl) (fun _ _ _ h => h) (by rfl) ?_ (by assumption) ?_; rotate_left; (intro _w; go_simp; try with_reducible rfl); simp only [Act.put, List.setIfInBounds_toArray, List.set_cons_zero, List.set_cons_succ])
    (refine wpD_take 1 _ rfl (by kernel_rfl) (by kernel_rfl) (by kernel_rfl) (fun _ _ _ h => h) List.mem_cons_self (by rfl) (v := ?_) ?_ (by assumption) ?_; rotate_left; (intro _w _hw; go_simp; try with_reducible rfl); simp only [Act.put, List.setIfInBounds_toArray, List.set_cons_zero, List.set_cons_succ])
    (refine wpD_plain 2 (v := ?_) rfl (by kernel_rfl) (by kernel_rfl) (by kernel_rfl) (fun _ _ _ h => h) (by rfl) ?_ (by assumption) ?_; rotate_left; (intro _w; go_simp; try with_reducible rfl); simp only [Act.put, List.setIfInBounds_toArray, List.set_cons_zero, List.set_cons_succ])
    (refine wpD_plain 3 (v := ?_) rfl (by kernel_rfl) (by kernel_rfl) (by kernel_rfl) (fun _ _ _ h => h) (by rfl) ?_ (by assumption) ?_; rotate_left; (intro _w; go_simp; try with_reducible rfl); simp only [Act.put, List.setIfInBounds_toArray, List.set_cons_zero, List.set_cons_succ])
    (refine wpD_take 4 _ rfl (by kernel_rfl) (by kernel_rfl) (by kernel_rfl) (fun _ _ _ h => h) (List.mem_cons_of_mem _ List.mem_cons_self) (by rfl) (v := ?_) ?_ (by assumption) ?_; rotate_left; (intro _w _hw; go_simp; try with_reducible rfl); simp only [Act.put, List.setIfInBounds_toArray, List.set_cons_zero, List.set_cons_succ])
    (refine wpD_plain 5 (v := ?_) rfl (by kernel_rfl) (by kernel_rfl) (by kernel_rfl) (fun _ _ _ h => h) (by rfl) ?_ (by assumption) ?_; rotate_left; (intro _w; go_simp; try with_reducible rfl); simp only [Act.put, List.setIfInBounds_toArray, List.set_cons_zero, List.set_cons_succ])
    (refine wpD_plain 6 (v := ?_) rfl (by kernel_rfl) (by kernel_rfl) (by kernel_rfl) (fun _ _ _ h => h) (by rfl) ?_ (by assumption) ?_; rotate_left; (intro _w; go_simp; try with_reducible rfl); simp only [Act.put, List.setIfInBounds_toArray, List.set_cons_zero, List.set_cons_succ])
    (refine wpD_take 7 _ rfl (by kernel_rfl) (by kernel_rfl) (by kernel_rfl) (fun _ _ _ h => h) (List.mem_cons_of_mem _ (List.mem_cons_of_mem _ List.mem_cons_self)) (by rfl) (exec_load _ _ rfl gc (i0 * 2) rfl _ _ rfl rfl (by rw [ptr_length]; exact info_p)) (by assumption) ?_; simp only [Act.put, List.setIfInBounds_toArray, List.set_cons_zero, List.set_cons_succ])
    (refine wpD_plain 8 (v := ?_) rfl (by kernel_rfl) (by kernel_rfl) (by kernel_rfl) (fun _ _ _ h => h) (by rfl) ?_ (by assumption) ?_; rotate_left; (intro _w; go_simp; try with_reducible rfl); simp only [Act.put, List.setIfInBounds_toArray, List.set_cons_zero, List.set_cons_succ])
    (refine wpD_take 9 _ rfl (by kernel_rfl) (by kernel_rfl) (by kernel_rfl) (fun _ _ _ h => h) (List.mem_cons_of_mem _ (List.mem_cons_of_mem _ (List.mem_cons_of_mem _ List.mem_cons_self))) (by rfl) (v := ?_) ?_ (by assumption) ?_; rotate_left; (intro _w _hw; go_simp; try with_reducible rfl); simp only [Act.put, List.setIfInBounds_toArray, List.set_cons_zero, List.set_cons_succ])
    (refine wpD_plain 10 (v := ?_) rfl (by kernel_rfl) (by kernel_rfl) (by kernel_rfl) (fun _ _ _ h => h) (by rfl) ?_ (by assumption) ?_; rotate_left; (intro _w; go_simp; try with_reducible rfl); simp only [Act.put, List.setIfInBounds_toArray, List.set_cons_zero, List.set_cons_succ])
    (refine wpD_plain 11 (v := ?_) rfl (by kernel_rfl) (by kernel_rfl) (by kernel_rfl) (fun _ _ _ h => h) (by rfl) ?_ (by assumption) ?_; rotate_left; (intro _w; go_simp; try with_reducible rfl); simp only [Act.put, List.setIfInBounds_toArray, List.set_cons_zero, List.set_cons_succ])
    (refine wpD_take 12 _ rfl (by kernel_rfl) (by kernel_rfl) (by kernel_rfl) (fun _ _ _ h => h) (List.mem_cons_of_mem _ (List.mem_cons_of_mem _ (List.mem_cons_of_mem _ (List.mem_cons_of_mem _ List.mem_cons_self)))) (by rfl) (v := ?_) ?_ (by assumption) ?_; rotate_left; (intro _w _hw; go_simp; try with_reducible rfl); simp only [Act.put, List.setIfInBounds_toArray, List.set_cons_zero, List.set_cons_succ])
    (refine wpD_plain 13 (v := ?_) rfl (by kernel_rfl) (by kernel_rfl) (by kernel_rfl) (fun _ _ _ h => h) (by rfl) ?_ (by assumption) ?_; rotate_left; (intro _w; go_simp; try with_reducible rfl); simp only [Act.put, List.setIfInBounds_toArray, List.set_cons_zero, List.set_cons_succ])
    (refine wpD_plain 14 (v := (.int .i64 ((i0 : Int) + 1))) rfl (by kernel_rfl) (by kernel_rfl) (by kernel_rfl) (fun _ _ _ h => h) (by rfl) ?_ (by assumption) ?_; (intro _w; go_simp; exact WS.out); simp only [Act.put, List.setIfInBounds_toArray, List.set_cons_zero, List.set_cons_succ])
    (refine wpD_plain 15 (v := (.pointer (some ⟨gc, (i0 + 1) * 2, none⟩))) rfl (by kernel_rfl) (by kernel_rfl) (by kernel_rfl) (fun _ _ _ h => h) (by rfl) ?_ (by assumption) ?_; (intro _w; go_simp; skip); simp only [Act.put, List.setIfInBounds_toArray, List.set_cons_zero, List.set_cons_succ])
    (refine wpD_take 16 _ rfl (by kernel_rfl) (by kernel_rfl) (by kernel_rfl) (fun _ _ _ h => h) (List.mem_cons_of_mem _ (List.mem_cons_of_mem _ (List.mem_cons_of_mem _ (List.mem_cons_of_mem _ (List.mem_cons_of_mem _ List.mem_cons_self))))) (by rfl) (exec_load _ _ rfl gc ((i0 + 1) * 2) rfl _ _ rfl rfl (by rw [ptr_length]; exact info_p)) (by assumption) ?_; simp only [Act.put, List.setIfInBounds_toArray, List.set_cons_zero, List.set_cons_succ])
    clear hold
    refine wpD_only 17 [(1, fun w' => w'.cell? ⟨w.heap.size, 1, none⟩ = some (.pointer (some ⟨t.b, 0, none⟩))), (4, fun w' => w'.cell? ⟨t.b, 1, none⟩ = some (.slice (some ⟨gc, 0, none⟩) m cc)), (9, fun w' => w'.cell? ⟨w.heap.size, 1, none⟩ = some (.pointer (some ⟨t.b, 0, none⟩))), (12, fun w' => w'.cell? ⟨t.b, 1, none⟩ = some (.slice (some ⟨gc, 0, none⟩) m cc))] rfl (by kernel_rfl) (by kernel_rfl) (by rfl) (fun K17 hK17 => ?_)
    have hmz : (k0, up z) ∈ t.l := by rw [HL0.out]; simp
    have hmy : (k1, up y) ∈ t.l := by rw [HL0.out]; simp
    have HR3 : Hid (Rep w3.drew (d + 1) t) := hid ((HR.out.no F3.out).no (Fr.refl No w3).drew)
    have hzy : Dj (fp d z) (fp d y) := by
      have h1 := HR.out.kids.apart
      rw [HL0.out] at h1
      exact (List.pairwise_cons.1 (List.pairwise_append.1 h1).2.1).1 (k1, up y) (by simp)
    refine wp_call (.func 103) _ _ rfl 103 [] rfl (fun vs w => by kernel_rfl) [val d z, val d y] (by rfl) ?_
    refine (pjoin_any d w3.drew z y (repK_succ.1 (HR3.out.kids.rep _ hmz)) (repK_succ.1 (HR3.out.kids.rep _ hmy)) hzy (by have := HSZ2.out; omega)).mono ?_
    rintro e w4 ⟨rfl, z1, hj⟩
    have HJN := hid hj
    have hown : ∀ g, own t g → ¬ own z g := fun g h1 h2 => HR.out.kids.off _ hmz g h1 (own_fp h2)
    have f4 : Fr (own z) w3 w4 := (Fr.refl _ w3).drew.trans' hj.2.2.2.1
    have hbxz : ∀ g, own z g → g ≠ w.heap.size := fun g h1 e => by
      have := HR.out.lt g (.inr ⟨_, hmz, own_fp h1⟩); omega
    have n0 : w4.cell? ⟨w.heap.size, 1, none⟩ = some (.pointer (some ⟨t.b, 0, none⟩)) := f4.cell d0 (fun e => hbxz _ e rfl)
    have n1 : w4.cell? ⟨t.b, 1, none⟩ = some (.slice (some ⟨gc, 0, none⟩) m cc) := f4.cell d1 (hown _ (.inl rfl))
    have HBX4 : Hid (Blk w4 w.heap.size 134 [.pointer none, .pointer (some ⟨t.b, 0, none⟩)]) := hid (HBX3.out.fr f4 (fun e => hbxz _ e rfl))
    have HND4 : Hid (NdAt w4 (ndT (d + 1)) (elT (d + 1)) (elk (d + 1)) t.b t.k t.c (keys t.l) (cells t.l)) := hid (HR3.out.nd.fr hj.2.2.2.1 hown)
    have hkj := kids_join HR3.out HL0.out hj
    have HKJ := hid hkj.1
    have F4 := hid f4
    refine ⟨_, rfl, hK17 _ _ (Facts.cons_hold n0 (Facts.cons_hold n1 (Facts.cons_hold n0 (Facts.cons_hold n1 (Facts.nil_hold _))))) ?_⟩
    clear hj hown f4 hkj hK17 K17 hbxz
    simp only [Act.put, List.setIfInBounds_toArray, List.set_cons_zero, List.set_cons_succ]
    refine wpD_done (by kernel_rfl) ?_ _
    clear n1 hp1 ht1 d0 d1
    have hw2 : (i0 : Int) + 2 ≤ (m : Int) := by omega
    go_wp2_with fail
    have hrem := remove_p w4 t.b (i0 + 1) (i0 + 2) t.k t.c (keys t.l) (cells t.l) HND4.out (by omega) (by rw [keys_length, HM.out]; have := HAL0.out; omega) (by rw [keys_length, HM.out]; have := HN.out; omega)
    rw [show (((i0 + 1 : Nat) : Int)) = (i0 : Int) + 1 from by omega, show (((i0 + 2 : Nat) : Int)) = (i0 : Int) + 2 from by omega] at hrem
    have HREM := hid hrem
    clear hrem
    refine HREM.out.mono ?_
    rintro e w2 ⟨rfl, hp⟩
    have hrk := rem_keys HJN.out.2.1 HL0.out JJ.out
    rw [hrk.1, hrk.2] at hp
    have fo : Fr (own t) w4 w2 := by obtain ⟨_, _, -, h, -⟩ := hp; exact h
    obtain ⟨t1, e1, e2, r1, fo2, go⟩ := rep_node hp HKJ.out
    have JL := hid e1
    have JB := hid e2
    have JR := hid r1
    have HT1 : Hid (Turned (d + 1) w t w2 t1) := hid ⟨r1, (F3.out.no.trans' (F4.out.mono fun g hg => .inr ⟨_, hmz, own_fp hg⟩)).trans' (fo.mono fun g hg => .inl hg), fun g hg => by
      have s3 := F3.out.size; have s4 := F4.out.size
      rcases hg with hg | ⟨q, hq, hg⟩
      · exact (go g hg).imp .inl (fun e => by omega)
      · rw [e1] at hq
        rcases List.mem_append.1 hq with hq | hq
        · exact .inl (.inr ⟨q, by rw [HL0.out]; simp [hq], hg⟩)
        · rcases List.mem_cons.1 hq with rfl | hq
          · rcases HJN.out.2.2.2.2 g hg with e | e | e
            · exact .inl (.inr ⟨_, hmz, e⟩)
            · exact .inl (.inr ⟨_, hmy, e⟩)
            · exact .inr (by have : w3.drew.heap.size = w3.heap.size := rfl; omega)
          · exact .inl (.inr ⟨q, by rw [HL0.out]; simp [hq], hg⟩), e2⟩
    have hch := HOK.out.1
    rw [HL0.out] at hch
    have hkz := chain_kid hch
    have hch2 : Chain (okK (d + 1)) hi ((A0 ++ [(k0, up z)]) ++ (k1, up y) :: B0) := by simpa using hch
    have hky := chain_kid hch2
    have hz1 : Ok d k0 (nx hi B0) z1 := ok_join hkz.1 hky.1 hkz.2 HZ0.out HY0.out HJN.out.1
    have JOK : Hid (Ok (d + 1) lo hi t1) := hid ⟨by
      rw [e1, chain_append]
      rw [chain_append] at hch
      refine ⟨hch.1, hz1, ?_, hch.2.2.2.2.2⟩
      exact hky.2.lt hkz.2, by
      have hf := HOK.out.2
      rw [HL0.out] at hf
      rw [e1]
      cases A0 with
      | nil =>
        obtain ⟨c0, r0, e⟩ := hf
        have : k0 = lo := by injection e with e1 e2; injection e1
        subst this
        exact ⟨up z1, _, rfl⟩
      | cons a A0 => exact first_prefix hf (by simp)⟩
    have JGX : Hid (Good d z1) := hid (fun q hq => by
      rw [HJN.out.1] at hq
      exact (List.mem_append.1 hq).elim (HGZ.out q) (HGY.out q))
    have JG := HG
    have hlen1 : t.l.length = t1.l.length + 1 := by rw [e1, HL0.out]; simp; omega
    have HFL : Hid (flat (d + 1) t1 = flat (d + 1) t) := hid (by
      rw [flat_of e1, flat_of HL0.out, flats_append, flats_append, flats_cons, flats_cons, flats_cons]
      have h6 : flatK (d + 1) k0 (up z1) = flatK (d + 1) k0 (up z) ++ flatK (d + 1) k1 (up y) := by
        show flats d z1.l = flats d z.l ++ flats d y.l
        rw [HJN.out.1, flats_append]
      simp only [h6, List.append_assoc])
    have hzl : z1.l.length = z.l.length + y.l.length := by rw [HJN.out.1, List.length_append]
    obtain ⟨gd, ce, -, hn1, hnc, hncm, hog1, hrange1⟩ := node_open r1 (by rw [e1]; simp; omega)
    have JRG : Hid (w2.rangeAt gd (i0 * 2) (ptr d z1)) := hid (by have := hrange1 A0 k0 z1 B0 e1; rwa [JJ.out] at this)
    have hbxo : ∀ g, own t g → g ≠ w.heap.size := fun g hg e => by have := HR.out.lt g (own_fp hg); omega
    have d0 : w2.cell? ⟨w.heap.size, 1, none⟩ = some (.pointer (some ⟨t1.b, 0, none⟩)) := by rw [JB.out]; exact fo.cell n0 (fun e => hbxo _ e rfl)
    have HBX2 : Hid (Blk w2 w.heap.size 134 [.pointer none, .pointer (some ⟨t1.b, 0, none⟩)]) := hid (by rw [JB.out]; exact HBX4.out.fr fo (fun e => hbxo _ e rfl))
    have HRX2 : Hid (Rep w2 d z1) := hid (repK_succ.1 (r1.kids.rep (k0, up z1) (by rw [e1]; simp)))
    have HBN : Hid (∀ g, fp (d + 1) t1 g → g ≠ w.heap.size) := hid (fun g hg e => by
      have hw := HBX3.out.lt
      have s3 := F3.out.size; have s4 := F4.out.size
      have hx0 : ∀ g, fp (d + 1) t g → g < w.heap.size := HR.out.lt
      rcases hg with hg | ⟨q, hq, hg⟩
      · rcases go g hg with h | h
        · have := hx0 g (.inl h); omega
        · omega
      · rw [e1] at hq
        rcases List.mem_append.1 hq with hq | hq
        · have := hx0 g (.inr ⟨q, by rw [HL0.out]; simp [hq], hg⟩); omega
        · rcases List.mem_cons.1 hq with rfl | hq
          · rcases HJN.out.2.2.2.2 g hg with h | h | h
            · have := hx0 g (.inr ⟨_, hmz, h⟩); omega
            · have := hx0 g (.inr ⟨_, hmy, h⟩); omega
            · have : w3.drew.heap.size = w3.heap.size := rfl; omega
          · have := hx0 g (.inr ⟨q, by rw [HL0.out]; simp [hq], hg⟩); omega)
    clear hp hrk fo fo2 go e1 e2 r1 hch hkz hch2 hky hz1 hog1 hrange1 hbxo hmz hmy hzy n0
    unfold maxLen at hncm
    have hm1 : t1.l.length = m - 1 := by have := HM.out; omega
    generalize hmm : t1.l.length = m1 at *
    have JM := hid hmm
    have HLEN := hid hlen1
    have JN : Hid (m1 ≤ 8796093022000) := hid (by have := HN.out; omega)
    have JAL : Hid (i0 < m1) := hid (by have := HAL0.out; omega)
    have hi1m : (i0 : Int) < (m1 : Int) := by have := HAL0.out; omega
    have d1 : w2.cell? ⟨t1.b, 1, none⟩ = some (.slice (some ⟨gd, 0, none⟩) m1 ce) := hn1
    have F2 : Hid (Fr No w2 w2) := hid (Fr.refl _ _)
    have hs4 : 4 ≤ z1.l.length := by have := HSZ.out; omega
    have hs11 : z1.l.length ≤ 11 := by have := HSZ2.out; omega
    clear hmm hlen1 hm1 hn1 hzl hAi0 hAi hw2 hmx hlt4
    generalize hzz : z1.l.length = s at *
    have JS := hid hzz
    clear hzz
    go_wp2_with ((with_reducible show wpList _ _ _ (⟨_, .load 134 _, _, _, _, _⟩ :: _) _ _); refine wpL_load rfl _ _ rfl gd (i0 * 2) rfl (ptr d z1) _ (F2.out.range JRG.out id) rfl rfl (by rw [ptr_length]; exact info_p) ?_)
    refine (psize_any d w2 z1 HRX2.out).mono ?_
    rw [JS.out]
    rintro e y3 ⟨rfl, f3⟩
    have K3 : Hid (Fr No w2 y3) := hid (F2.out.trans' f3)
    have e0 : y3.cell? ⟨w.heap.size, 1, none⟩ = some (.pointer (some ⟨t1.b, 0, none⟩)) := f3.cell d0 id
    have e1 : y3.cell? ⟨t1.b, 1, none⟩ = some (.slice (some ⟨gd, 0, none⟩) m1 ce) := f3.cell d1 id
    have HBX3 : Hid (Blk y3 w.heap.size 134 [.pointer none, .pointer (some ⟨t1.b, 0, none⟩)]) := hid (HBX2.out.fr f3 id)
    have HRX3 : Hid (Rep y3 d z1) := hid (HRX2.out.no f3)
    have HR3 : Hid (Rep y3 (d + 1) t1) := hid (JR.out.no K3.out)
    clear f3 d0 d1 HRX2 HBX2 F2
    by_cases h8 : s ≤ 8
    · have h8' : ¬ (8 < (s : Int)) := by omega
      have h8n : ¬ (8 < s) := by omega
      go_wp2
      refine bodyPost_end (v := .tuple #[]) (by simp [results, Tryz.results99]) rfl ⟨rfl, ?_⟩
      rw [HS.out]
      refine fitted_pre (s' := s) HT1.out HFL.out (by rw [JM.out]; exact HLEN.out) HX3.out hs4 ?_
      refine ⟨t1, Turned.refl JR.out K3.out, JOK.out, fun y hy => ?_, rfl, fun _ => Nat.le_refl _, fun _ => Nat.le_refl _, by omega, by omega⟩
      rw [JL.out] at hy
      rcases List.mem_append.1 hy with hy | hy
      · exact JG.out y (by simp [hy])
      · rcases List.mem_cons.1 hy with rfl | hy
        · exact ⟨⟨by rw [show (Nd.l (α := Kid d) (up z1)).length = s from JS.out]; omega, by rw [show (Nd.l (α := Kid d) (up z1)).length = s from JS.out]; omega⟩, JGX.out⟩
        · exact JG.out y (by simp [hy])
    · have h8' : 8 < (s : Int) := by omega
      have h8n : 8 < s := by omega
      have hdv : (s : Int) / 2 = ((s / 2 : Nat) : Int) := by omega
      have HDV := hid hdv
      clear hdv h8
      go_wp2_with ((with_reducible show wpList _ _ _ (⟨_, .load 134 _, _, _, _, _⟩ :: _) _ _); refine wpL_load rfl _ _ rfl gd (i0 * 2) rfl (ptr d z1) _ (K3.out.range JRG.out id) rfl rfl (by rw [ptr_length]; exact info_p) ?_)
      rw [HDV.out]
      generalize hq : s / 2 = q at *
      have hq4 : 4 ≤ q := by omega
      have hqs : q < s := by omega
      have hq8 : s - q ≤ 8 ∧ 4 ≤ s - q ∧ q ≤ 8 := by omega
      have HQ8 := hid hq8
      clear hq hq8
      refine (pcut_any d y3 z1 q HRX3.out (by rw [JS.out]; omega) (by rw [JS.out]; omega)).mono ?_
      rintro e y4 ⟨z2, u, k', cc', rr, rfl, hdk, l1, b1, l2, r1, ru, f4, g1, gu, hdj⟩
      have HDK := hid hdk; have L1 := hid l1; have B1 := hid b1; have L2 := hid l2; have R1 := hid r1; have RU := hid ru; have K4 := hid f4; have G1 := hid g1; have GU := hid gu; have HDJ := hid hdj
      clear hdk l1 b1 l2 r1 ru f4 g1 gu hdj
      obtain ⟨pu, qu, hvu, hpu, hqu⟩ := val_agg d u
      have HVU := hid hvu
      have hpl : ptr d u = [pu, qu] := by
        have : (val d u) = .agg (ptr d u).toArray := rfl
        rw [hvu] at this
        have h2 : #[pu, qu] = (ptr d u).toArray := by injection this
        have := congrArg Array.toList h2
        simpa using this.symm
      have HPL := hid hpl
      clear hvu hpl
      rw [HVU.out]
      have h0x : ∀ g, own t1 g → ¬ own z1 g := fun g h1 h2 => JR.out.kids.off (k0, up z1) (by rw [JL.out]; simp) g h1 (own_fp h2)
      have H0X := hid h0x
      clear h0x
      have hbx : ∀ g, own z1 g → g ≠ w.heap.size := fun g h1 => HBN.out g (.inr ⟨(k0, up z1), by rw [JL.out]; simp, own_fp h1⟩)
      have n0 : y4.cell? ⟨w.heap.size, 1, none⟩ = some (.pointer (some ⟨t1.b, 0, none⟩)) := K4.out.cell e0 (fun e => hbx _ e rfl)
      clear hbx
      have HND4 : Hid (NdAt y4 (ndT (d + 1)) (elT (d + 1)) (elk (d + 1)) t1.b t1.k t1.c (keys t1.l) (cells t1.l)) := hid (HR3.out.nd.fr K4.out H0X.out)
      have HWL : Hid (w.heap.size < y4.heap.size) := hid (by have := HBX3.out.lt; have := K4.out.size; omega)
      go_wp2_with (first
        | ((with_reducible show wpList _ _ _ (⟨_, .alloc 134, _, _, _, _⟩ :: _) _ _); refine wpL_alloc rfl _ rfl _ zero_pt [.pointer none, .pointer none] rfl ?_; intro y5 KB5 K5 KS5)
        | ((with_reducible show wpList _ _ _ (⟨_, .store 134 _ _, _, _, _, _⟩ :: _) _ _); refine wpL_storeV rfl _ _ _ rfl y4.heap.size 0 (.agg #[pu, qu]) [pu, qu] rfl rfl rfl _ _ KB5.out (by simp) info_p (by intro z hz; simp at hz; rcases hz with rfl | rfl <;> assumption) ?_; intro y6 KB6 K6 KS6; have n1 : y6.cell? ⟨w.heap.size, 1, none⟩ = some (.pointer (some ⟨t1.b, 0, none⟩)) := K6.out.cell (K5.out.cell n0 id) (fun e => by have h1 : w.heap.size = y4.heap.size := e; have := HWL.out; omega))
        | ((with_reducible show wpList _ _ _ (⟨_, .load 134 _, _, _, _, _⟩ :: _) _ _); refine wpL_load rfl _ _ rfl y4.heap.size 0 rfl [pu, qu] _ (KB6.out.range 0 _ (by simp [spl])) rfl rfl info_p ?_))
      have HF6 : Hid (Fr No y4 y6) := hid (K5.out.trans (D' := fun k0 => k0 = y4.heap.size) K6.out (fun k0 e => .inr (by rw [e]; exact Nat.le_refl _)))
      have HND6 : Hid (NdAt y6 (ndT (d + 1)) (elT (d + 1)) (elk (d + 1)) t1.b t1.k t1.c (keys t1.l) (cells t1.l)) := hid (HND4.out.fr HF6.out (fun _ _ e => e))
      have hins := insert_nd_p y6 t1.b (i0 + 1) t1.k t1.c (keys t1.l) (cells t1.l) [pu, qu] k' (.agg #[pu, qu]) rfl rfl (by intro z hz; simp at hz; rcases hz with rfl | rfl <;> assumption) ⟨pu, qu, rfl, hpu, hqu⟩ HND6.out (by rw [keys_length, JM.out]; have := JAL.out; omega) (by rw [keys_length, JM.out]; have := JN.out; omega)
      rw [show (((i0 + 1 : Nat) : Int)) = (i0 : Int) + 1 from by omega] at hins
      have HINS := hid hins
      clear hins
      refine HINS.out.mono ?_
      rintro e y7 ⟨rfl, hp⟩
      have HP := hid hp
      clear hp
      go_wp2
      refine bodyPost_end (v := .tuple #[]) (by simp [results, Tryz.results99]) rfl ⟨rfl, ?_⟩
      have hik := ins_keys (k' := k') (u := u) B1.out JL.out JJ.out
      have hp2 := HP.out
      rw [← HPL.out, hik.1, hik.2] at hp2
      rw [HS.out]
      refine fitted_pre (s' := s) HT1.out HFL.out (by rw [JM.out]; exact HLEN.out) HX3.out hs4 ?_
      exact fit_cut HR3.out K3.out JL.out JOK.out JG.out JGX.out JS.out h8n hq4 hqs HQ8.out HDK.out L1.out B1.out L2.out R1.out RU.out K4.out G1.out GU.out HDJ.out HF6.out hp2
end Go.Proofs.YtflfmkokfbgclaaGreat.TR
