/-
  Part 9 of the proof: TrY, TrZ, TrZr, TrG, TrH, TrK, TrKk.
-/
import Derived.Test.YtflfmkokfbgclaaGreatRc08
set_option linter.unusedSimpArgs false
set_option linter.unusedVariables false
namespace Go.Proofs.YtflfmkokfbgclaaGreat.TR
set_option maxRecDepth 100000
open Go.RowKit K

theorem fit_any (d : Nat) (w : World) (t : PT (d + 1)) (A B : List (S × Kid (d + 1))) (k : S) (x : PT d) (lo : S) (hi : Option S) (hr : Rep w (d + 1) t) (hl : t.l = A ++ (k, up x) :: B) (hok : Ok (d + 1) lo hi t)
    (hg : ∀ y ∈ A ++ B, szK (d + 1) y.2 ∧ goodK (d + 1) y.2) (hgx : Good d x) (h3 : 3 ≤ x.l.length) (h9 : x.l.length ≤ 9) (h2 : 2 ≤ t.l.length) (hn : t.l.length ≤ 8796093022000) :
    Calls Tryz.prog 99 #[val (d + 1) t, .int .i64 A.length] w fun e w' => e = .returned (.tuple #[]) ∧ Fitted d lo hi w t x.l.length w' := by
  by_cases h4 : 4 ≤ x.l.length
  · exact fit_wide d w t A B k x lo hi hr hl hok hg hgx h4 (by omega) hn
  · have hx0 : x.l ≠ [] := fun e => by rw [e] at h3; simp at h3
    rcases List.eq_nil_or_concat A with rfl | ⟨A0, ⟨k0, z⟩, rfl⟩
    · cases B with
      | nil => rw [hl] at h2; simp at h2
      | cons b B0 =>
        obtain ⟨k1, y⟩ := b
        have hy := hg (k1, y) (by simp)
        have hy4 : 4 ≤ (Nd.l (α := Kid d) y).length := hy.1.1
        have hy8 : (Nd.l (α := Kid d) y).length ≤ 8 := hy.1.2
        exact fit_narrow d w t [] ((k1, y) :: B0) [] B0 k k k1 x x y lo hi hr hl hl hok rfl (fun q hq => hg q (by simp at hq ⊢; exact .inr hq)) hgx hy.2 (by omega) (by omega) (by omega) hx0 (fun e => by rw [e] at hy4; simp at hy4) hn
    · have hz := hg (k0, z) (by simp)
      have hz4 : 4 ≤ (Nd.l (α := Kid d) z).length := hz.1.1
      have hz8 : (Nd.l (α := Kid d) z).length ≤ 8 := hz.1.2
      refine fit_narrow d w t (A0.concat (k0, z)) B A0 B k k0 k x z x lo hi hr hl (by rw [hl]; simp) hok ?_ (fun q hq => hg q (by rcases List.mem_append.1 hq with h | h <;> simp [h])) hz.2 hgx (by omega) (by omega) (by omega) (fun e => by rw [e] at hz4; simp at hz4) hx0 hn
      simp

/-- What put leaves. -/
def Puts (d : Nat) (lo : S) (hi : Option S) (w : World) (t : PT d) (key v : S) (e : Ending) (w' : World) : Prop :=
  ∃ t' : PT d, e = .returned (.bool (has key (flat d t))) ∧ Turned d w t w' t' ∧ Ok d lo hi t' ∧ Good d t' ∧ flat d t' = put key v (flat d t) ∧ t.l.length ≤ t'.l.length ∧ t'.l.length ≤ t.l.length + 1
/-- A text as a content. -/
abbrev upS (v : S) : Kid 0 := v
def lc (x : S × Kid 0) : Value := Value.string (x.2 : S)
theorem leaf_cells (l : List (S × Kid 0)) : cells l = l.map lc := by
  induction l with
  | nil => rfl
  | cons x r ih => rw [cells_cons, ih]; rfl
theorem leaf_good (t : PT 0) : Good 0 t := fun _ _ => ⟨trivial, trivial⟩
theorem leaf_kids (w : World) (D : Nat → Prop) (l : List (S × Kid 0)) : Kids w 0 D l := ⟨fun _ _ => trivial, List.pairwise_of_forall (fun _ _ _ h => h.elim), fun _ _ _ _ h => h.elim⟩
theorem leaf_ok {lo : S} {hi : Option S} {l : List (S × Kid 0)} (hs : Sorted l) (hb : ∀ x ∈ l, lt x.1 lo = false ∧ Below hi x.1) {t : PT 0} (ht : t.l = l) : Ok 0 lo hi t := by
  refine ⟨?_, by rw [ht]; exact fun x hx => (hb x hx).1⟩
  rw [ht]
  clear ht
  induction l with
  | nil => trivial
  | cons x r ih =>
    have h1 := List.pairwise_cons.1 hs
    refine ⟨trivial, ?_, ih h1.2 (fun y hy => hb y (List.mem_cons_of_mem _ hy))⟩
    cases r with
    | nil => exact (hb x (List.mem_cons_self)).2
    | cons y s => exact h1.1 y (List.mem_cons_self)
theorem keys_get {d : Nat} {l : List (S × Kid d)} {j : Nat} {x : S × Kid d} (h : l[j]? = some x) : (keys l)[j]? = some x.1 := by
  unfold keys
  rw [List.getElem?_map, h]; rfl
theorem leaf_part {l : List (S × Kid 0)} {key : S} {i : Nat} (h : PartK (keys l) key i) : Part l key i :=
  ⟨by have := h.le; rwa [keys_length] at this, fun j x hj hx => h.lo j x.1 hj (keys_get (d := 0) hx), fun j x hj hx => h.hi j x.1 hj (keys_get (d := 0) hx)⟩
/-- A leaf that has other contents. -/
theorem leaf_turned {w w' : World} {t t' : PT 0} (h1 : Rep w' 0 t') (h2 : Fr (own t) w w') (h3 : ∀ g, own t' g → own t g ∨ w.heap.size ≤ g) (hb : t'.b = t.b) : Turned 0 w t w' t' :=
  ⟨h1, h2.mono fun g hg => .inl hg, fun g hg => by
    rcases hg with hg | ⟨x, hx, hg⟩
    · exact (h3 g hg).imp .inl id
    · exact hg.elim, hb⟩
theorem ins_leaf {l : List (S × Kid 0)} {key v : S} {i : Nat} (hi : i ≤ l.length) : (keys l).take i ++ key :: (keys l).drop i = keys (l.take i ++ (key, upS v) :: l.drop i) ∧
    (cells l).take (i * 1) ++ [Value.string v] ++ (cells l).drop (i * 1) = cells (l.take i ++ (key, upS v) :: l.drop i) := by
  constructor
  · simp [keys]
  · have h := cells_split l i hi
    have he : elk 0 = 1 := rfl
    rw [he] at h
    rw [h.1, h.2, cells_append, cells_cons, List.append_assoc]
    rfl
theorem set_leaf {l : List (S × Kid 0)} {k v : S} {i : Nat} {x : Kid 0} (hx : l[i]? = some (k, x)) : keys (l.set i (k, upS v)) = keys l ∧ cells (l.set i (k, upS v)) = (cells l).set i (.string v) := by
  constructor
  · unfold keys
    rw [List.map_set]
    apply List.ext_getElem?
    intro j
    rw [List.getElem?_set]
    split
    · rename_i h
      subst h
      simp only [List.length_map]
      obtain ⟨hlt, e⟩ := List.getElem?_eq_some_iff.1 hx
      rw [if_pos hlt, List.getElem?_map, hx]
      rfl
    · rfl
  · rw [leaf_cells, leaf_cells, List.map_set]
    rfl
set_option maxHeartbeats 2000000 in
theorem put_leaf (w : World) (t : PT 0) (lo : S) (hi : Option S) (key v : S) (hr : Rep w 0 t) (hok : Ok 0 lo hi t) (hlo : lt key lo = false) (hhi : Below hi key) (hn : t.l.length ≤ 8796093021000) :
    Calls Tryz.prog 82 #[val 0 t, .string key, .string v] w (Puts 0 lo hi w t key v) := by
  have HR := hid hr; have HOK := hid hok; have HLO := hid hlo; have HHI := hid hhi; have HN := hid hn
  clear hr hok hlo hhi hn
  show Calls Tryz.prog _ #[.agg #[.pointer (some ⟨t.b, 0, none⟩), .pointer none], .string key, .string v] w _
  go_enter Tryz.func82, Tryz.ntmps82
  go_wp2_with ((with_reducible show wpList _ _ _ (⟨_, .box 134 _, _, _, _, _⟩ :: _) _ _); refine wpL_box rfl _ _ rfl _ rfl [.pointer (some ⟨t.b, 0, none⟩), .pointer none] rfl ?_; intro w1 HB1 F1 HS1; have c0 : w1.cell? ⟨w.heap.size, 0, none⟩ = some (.pointer (some ⟨t.b, 0, none⟩)) := HB1.out.cell 0)
  have HR1 : Hid (Rep w1 0 t) := hid (HR.out.no F1.out)
  refine (position_any w1 t.b _ _ (keys t.l) (cells t.l) key HR1.out.nd HOK.out.rises (by rw [keys_length]; have := HN.out; omega)).mono ?_
  rintro e w2 ⟨i, rfl, hpk, f2⟩
  have HP := hid (leaf_part hpk)
  have F2 : Hid (Fr No w w2) := hid (F1.out.trans' f2)
  have HR2 : Hid (Rep w2 0 t) := hid (HR1.out.no f2)
  have d0 : w2.cell? ⟨w.heap.size, 0, none⟩ = some (.pointer (some ⟨t.b, 0, none⟩)) := f2.cell c0 id
  have HS : Hid (Sorted (flat 0 t)) := hid (ok_sorted HOK.out)
  have HRG : Hid (∀ x ∈ flat 0 t, lt x.1 lo = false ∧ Below hi x.1) := hid (fun x hx => by
    rw [flat_zero] at hx
    exact ⟨HOK.out.2 x hx, chain_below HOK.out.1 x hx⟩)
  clear hpk f2 c0
  by_cases hh : hit (keys t.l) key i = true
  · rw [hh]
    have hx : (keys t.l)[i]? = some key := by simpa [hit] using hh
    obtain ⟨x, hx⟩ : ∃ x, t.l[i]? = some (key, x) := by
      unfold keys at hx
      rw [List.getElem?_map] at hx
      cases he : t.l[i]? with
      | none => rw [he] at hx; cases hx
      | some y =>
        rw [he] at hx
        have : y.1 = key := by simpa using hx
        exact ⟨y.2, by rw [← this]⟩
    have HX := hid hx
    obtain ⟨hil, -⟩ := List.getElem?_eq_some_iff.1 hx
    have hrc := HR2.out.nd.rc
    rw [keys_length] at hrc
    obtain ⟨gc, cc, cur, hcv, hB, hc1, hc2, hc3, hc4⟩ := own_open hrc (by omega)
    have d1 : w2.cell? ⟨t.b, 1, none⟩ = some (.slice (some ⟨gc, 0, none⟩) t.l.length cc) := by rw [← hcv]; exact HR2.out.nd.blk.cell 1
    have HBc := hid hB; have HC1 := hid hc1; have HC2 := hid hc2; have HC3 : Hid (cur.length = cc * 1) := hid hc3; have HC4 : Hid (cur.take (t.l.length * 1) = cells t.l) := hid hc4
    have HCV := hid hcv
    have hgo : own t gc := .inr (.inr (by rw [hcv]; rfl))
    have HGO := hid hgo
    have HHH := hid hh
    have hil' : (i : Int) < (t.l.length : Int) := by omega
    have HIL := hid hil
    have hib : i + 1 ≤ cur.length := by have : cur.length = cc * 1 := hc3; omega
    have HIB := hid hib
    clear hrc hcv hB hc1 hc2 hc3 hc4 hgo hx hh hib
    go_wp2_with ((with_reducible show wpList _ _ _ (⟨_, .store 9 _ _, _, _, _, _⟩ :: _) _ _); refine wpL_storeV rfl _ _ _ rfl gc i (.string v) [.string v] rfl rfl rfl _ _ HBc.out (by simpa using HIB.out) (by kernel_rfl) (by intro u hu; simp at hu; subst hu; rfl) ?_; intro w3 HB3 F3 HS3)
    go_ret
    have hset : spl cur i [.string v] = cur.set i (.string v) := spl_set _ _ _ (by have := HIB.out; omega)
    have hb3 : Blk w3 gc 9 (cur.set i (.string v)) := by rw [← hset]; exact HB3.out
    have hsl := set_leaf (v := v) HX.out
    have htk : (cur.set i (Value.string v)).take (t.l.length * 1) = cells (t.l.set i (key, upS v)) := by
      rw [hsl.2, ← HC4.out, List.take_set]
    have hrc3 : w3.ownsRow 0 (elT 0) (elk 0) t.c t.l.length (cells (t.l.set i (key, upS v))) := by
      rw [HCV.out]
      exact own_mk (k := 1) hb3 HC1.out HC2.out (by rw [List.length_set]; exact HC3.out) htk
    have hn2 := HR2.out.nd
    have hne : t.b ≠ gc := fun e => hn2.n2 (by rw [HCV.out, e]; rfl)
    have hne2 : ∀ g, t.k.ownBlock = some g → g ≠ gc := fun g hg e => hn2.n3 g hg (by rw [HCV.out, e]; rfl)
    have hrep : Rep w3 0 ⟨t.b, t.k, t.c, t.l.set i (key, upS v)⟩ := by
      refine ⟨⟨hn2.blk.fr F3.out (fun e => hne e), ?_, ?_, ?_, hn2.n1, hn2.n2, hn2.n3⟩, leaf_kids _ _ _⟩
      · show w3.ownsRow 0 _ 1 t.k (keys (t.l.set i (key, upS v))).length (sv (keys (t.l.set i (key, upS v))))
        rw [hsl.1]
        exact own_fr hn2.rk F3.out (fun g hg e => hne2 g hg e)
      · show w3.ownsRow 0 _ _ t.c (keys (t.l.set i (key, upS v))).length (cells (t.l.set i (key, upS v)))
        rw [hsl.1, keys_length]
        exact hrc3
      · intro u hu
        have hu' : u ∈ cells (t.l.set i (key, upS v)) := hu
        rw [leaf_cells] at hu'
        obtain ⟨q, -, rfl⟩ := List.mem_map.1 hu'
        rfl
    have hpt := HP.out.hit (k := key) HX.out rfl v
    have hfl : flat 0 (⟨t.b, t.k, t.c, t.l.set i (key, upS v)⟩ : PT 0) = put key v (flat 0 t) := by
      rw [flat_zero, flat_zero]; exact hpt.1.symm
    refine ⟨⟨t.b, t.k, t.c, t.l.set i (key, upS v)⟩, ?_, (leaf_turned (t := t) hrep (F3.out.mono fun g e => by rw [e]; exact HGO.out) (fun g hg => .inl hg) rfl).pre F2.out, leaf_ok (l := put key v (flat 0 t)) (put_sorted key v HS.out) (fun x hx => ?_) (by rw [← hfl, flat_zero]), leaf_good _, hfl, by simp, by simp⟩
    · have : has key (flat 0 t) = true := by
        unfold has
        rw [flat_zero]
        have h3 := hpt.2.2
        exact h3 ▸ rfl
      rw [this]; rfl
    · rcases put_keys key v _ x hx with e | ⟨y, hy, e⟩
      · rw [e]; exact ⟨HLO.out, HHI.out⟩
      · rw [← e]; exact HRG.out y hy
  · have hh' : hit (keys t.l) key i = false := by simpa using hh
    rw [hh']
    have hms : ∀ x, t.l[i]? = some x → x.1 ≠ key := fun x hx e => by
      have := keys_get (d := 0) hx
      rw [e] at this
      simp [hit, this] at hh
    have HMS := hid hms
    have HIN := hid HP.out.le
    clear hh hh' hms
    go_wp2_with fail
    refine (insert_nd_s w2 t.b i t.k t.c (keys t.l) (cells t.l) [.string v] key (.string v) rfl rfl (by intro u hu; simp at hu; subst hu; rfl) ⟨v, rfl⟩ HR2.out.nd (by rw [keys_length]; exact HIN.out) (by rw [keys_length]; have := HN.out; omega)).mono ?_
    rintro e w3 ⟨rfl, hp⟩
    have hil := ins_leaf (key := key) (v := v) HIN.out
    rw [hil.1, hil.2] at hp
    obtain ⟨t', e1, e2, r1, f3, g3⟩ := rep_node hp (leaf_kids _ _ _)
    have E1 := hid e1; have TN := hid ((leaf_turned r1 f3 g3 e2).pre F2.out)
    clear hil hp e1 e2 r1 f3 g3
    go_wp2
    go_ret
    have hpt := HP.out.put_miss (by have := HS.out; rwa [flat_zero] at this) HMS.out v
    have hfl : flat 0 t' = put key v (flat 0 t) := by
      rw [flat_zero, flat_zero, E1.out]; exact hpt.1.symm
    refine ⟨t', ?_, TN.out, leaf_ok (l := put key v (flat 0 t)) (put_sorted key v HS.out) (fun x hx => ?_) (by rw [← hfl, flat_zero]), leaf_good _, hfl, ?_, ?_⟩
    · have : has key (flat 0 t) = false := by rw [flat_zero]; exact hpt.2
      rw [this]; rfl
    · rcases put_keys key v _ x hx with e | ⟨y, hy, e⟩
      · rw [e]; exact ⟨HLO.out, HHI.out⟩
      · rw [← e]; exact HRG.out y hy
    · rw [E1.out]; have := HIN.out; simp; omega
    · rw [E1.out]; have := HIN.out; simp; omega
end Go.Proofs.YtflfmkokfbgclaaGreat.TR

namespace Go.Proofs.YtflfmkokfbgclaaGreat.TR
set_option maxRecDepth 100000
open Go.RowKit K

theorem puts_up {d : Nat} {lo : S} {hi : Option S} {w w2 w3 : World} {t : PT (d + 1)} {A B : List (S × Kid (d + 1))} {k : S} {x x' : PT d} {key v : S} (hl : t.l = A ++ (k, up x) :: B) (hA : AllLt (flats (d + 1) A) key) (hB : AllGt (flats (d + 1) B) key)
    (h1 : Turned (d + 1) w t w2 ⟨t.b, t.k, t.c, A ++ (k, up x') :: B⟩) (hf : flat d x' = put key v (flat d x)) (hx : x.l.length ≤ x'.l.length) (hx4 : 4 ≤ x.l.length) (hx8 : x.l.length ≤ 8)
    (h2 : Fitted d lo hi w2 ⟨t.b, t.k, t.c, A ++ (k, up x') :: B⟩ x'.l.length w3) {e : Ending} (he : e = .returned (.bool (has key (flat d x)))) : Puts (d + 1) lo hi w t key v e w3 := by
  obtain ⟨t', a1, a2, a3, a4, a5, a6, a7, a8⟩ := h2
  have hlen : (⟨t.b, t.k, t.c, A ++ (k, up x') :: B⟩ : PT (d + 1)).l.length = t.l.length := by rw [hl]; simp
  have e1 : flat (d + 1) t = flats (d + 1) A ++ flat d x ++ flats (d + 1) B := by
    rw [flat_of hl, flats_append, flats_cons, List.append_assoc]; rfl
  have e2 : flat (d + 1) (⟨t.b, t.k, t.c, A ++ (k, up x') :: B⟩ : PT (d + 1)) = flats (d + 1) A ++ flat d x' ++ flats (d + 1) B := by
    rw [flat_of rfl, flats_append, flats_cons, List.append_assoc]; rfl
  rw [hlen] at a5 a6 a7 a8
  have h6 := a6 (by omega)
  refine ⟨t', ?_, h1.trans a1, a2, a3, ?_, h6, a7⟩
  · rw [he, e1, has_mid hA hB]
  · rw [a4, e2, hf, e1, put_mid hA hB]
set_option maxHeartbeats 4000000 in
theorem put_any : ∀ (d : Nat) (w : World) (t : PT d) (lo : S) (hi : Option S) (key v : S), Rep w d t → Ok d lo hi t → Good d t → (d = 0 ∨ 2 ≤ t.l.length) → lt key lo = false → Below hi key → t.l.length ≤ 8796093021000 →
    Calls Tryz.prog 82 #[val d t, .string key, .string v] w (Puts d lo hi w t key v) := by
  intro d
  induction d with
  | zero => exact fun w t lo hi key v hr hok _ _ hlo hhi hn => put_leaf w t lo hi key v hr hok hlo hhi hn
  | succ d ih =>
    intro w t lo hi key v hr hok hg h2 hlo hhi hn
    have h2' : 2 ≤ t.l.length := h2.elim (fun e => by cases e) id
    have HIH := hid ih; have HR := hid hr; have HOK := hid hok; have HG := hid hg; have HLO := hid hlo; have HHI := hid hhi; have HN := hid hn; have H2 := hid h2'
    obtain ⟨gc, cc, hcv, hc1, hcc1, hcc2, hog, hrange⟩ := node_open hr (by omega)
    have HRG := hid hrange
    clear ih hr hok hg h2 hlo hhi hn h2' hcv hog hrange
    show Calls Tryz.prog _ #[.agg #[.pointer none, .pointer (some ⟨t.b, 0, none⟩)], .string key, .string v] w _
    go_enter Tryz.func82, Tryz.ntmps82
    go_wp2_with ((with_reducible show wpList _ _ _ (⟨_, .box 134 _, _, _, _, _⟩ :: _) _ _); refine wpL_box rfl _ _ rfl _ rfl [.pointer none, .pointer (some ⟨t.b, 0, none⟩)] rfl ?_; intro w1 HB1 F1 HS1; have c0 : w1.cell? ⟨w.heap.size, 0, none⟩ = some (.pointer none) := HB1.out.cell 0; have c1 : w1.cell? ⟨w.heap.size, 1, none⟩ = some (.pointer (some ⟨t.b, 0, none⟩)) := HB1.out.cell 1)
    have HR1 : Hid (Rep w1 (d + 1) t) := hid (HR.out.no F1.out)
    refine (holding_any w1 t.b _ _ (keys t.l) (cells t.l) key HR1.out.nd HOK.out.rises (by rw [keys_length]; have := H2.out; omega) (by rw [keys_length]; have := HN.out; omega)).mono ?_
    rintro e w2 ⟨j, rfl, hjk, f2⟩
    obtain ⟨A, k, (x : PT d), B, hl, hAj, hA, hB, hcA, hokx, hbk, hcB, hklo, hkhi⟩ := hold_split HOK.out hjk
    have HL : Hid (t.l = A ++ (k, up (d := d) x) :: B) := hid hl
    have HAJ := hid hAj; have HA := hid hA; have HB := hid hB
    have HOX : Hid (Ok d k (nx hi B) x) := hid hokx
    have HKL := hid (hklo HLO.out); have HKH := hid (hkhi HHI.out)
    have F2 : Hid (Fr No w w2) := hid (F1.out.trans' f2)
    have d1 : w2.cell? ⟨w.heap.size, 1, none⟩ = some (.pointer (some ⟨t.b, 0, none⟩)) := f2.cell c1 id
    have d2 : w2.cell? ⟨t.b, 1, none⟩ = some (.slice (some ⟨gc, 0, none⟩) t.l.length cc) := F2.out.cell hc1 id
    have HBX2 : Hid (Blk w2 w.heap.size 134 [.pointer none, .pointer (some ⟨t.b, 0, none⟩)]) := hid (HB1.out.fr f2 id)
    have HR2 : Hid (Rep w2 (d + 1) t) := hid (HR1.out.no f2)
    have HRX : Hid (w2.rangeAt gc (j * 2) (ptr d x)) := hid (by have := F2.out.range (HRG.out A k x B hl) id; rwa [hAj] at this)
    have hjm : (j : Int) < (t.l.length : Int) := by have : j < t.l.length := by rw [hl, ← hAj]; simp
                                                    omega
    have HGX : Hid (szK (d + 1) x ∧ goodK (d + 1) x) := hid (HG.out (k, x) (by rw [hl]; simp))
    clear hjk hl hAj hA hB hcA hokx hbk hcB hklo hkhi f2 c0 c1
    unfold maxLen at hcc2
    go_wp2_with ((with_reducible show wpList _ _ _ (⟨_, .load 134 _, _, _, _, _⟩ :: _) _ _); refine wpL_load rfl _ _ rfl gc (j * 2) rfl (ptr d x) _ HRX.out rfl rfl (by rw [ptr_length]; exact info_p) ?_)
    have hx4 : 4 ≤ (Nd.l (α := Kid d) x).length := HGX.out.1.1
    have hx8 : (Nd.l (α := Kid d) x).length ≤ 8 := HGX.out.1.2
    have HX4 := hid hx4; have HX8 := hid hx8
    clear hx4 hx8
    refine (HIH.out w2 x k (nx hi B) key v (repK_succ.1 (HR2.out.kids.rep (k, x) (by rw [HL.out]; simp))) HOX.out HGX.out.2 (.inr (by have := HX4.out; omega)) HKL.out HKH.out (by have := HX8.out; omega)).mono ?_
    rintro e w3 ⟨x', rfl, htn, hox', hgx', hfx, hxl, hxl1⟩
    have TN := hid htn
    have HT1 := hid (rep_kid HR2.out HL.out htn)
    have HOX' := hid hox'; have HGX' := hid hgx'; have HFX := hid hfx; have HXL := hid hxl; have HXL1 := hid hxl1
    clear htn hox' hgx' hfx hxl hxl1
    have hbx : ¬ fp d x w.heap.size := fun e => by
      have := HR.out.lt _ (.inr ⟨(k, x), by rw [HL.out]; simp, e⟩); omega
    have HBX3 : Hid (Blk w3 w.heap.size 134 [.pointer none, .pointer (some ⟨t.b, 0, none⟩)]) := hid (HBX2.out.fr TN.out.fr hbx)
    clear hbx d1 d2
    generalize hb : has key (flat d x) = was at *
    have HBB := hid hb
    clear hb
    go_wp2_with ((with_reducible show wpList _ _ _ (⟨_, .load 134 _, _, _, _, _⟩ :: _) _ _); refine wpL_load rfl _ _ rfl w.heap.size 0 rfl [.pointer none, .pointer (some ⟨t.b, 0, none⟩)] _ (HBX3.out.range 0 _ rfl) rfl rfl info_p ?_)
    have hok1 : Ok (d + 1) lo hi (⟨t.b, t.k, t.c, A ++ (k, up x') :: B⟩ : PT (d + 1)) := by
      have h1 := HOK.out.1; have h2 := HOK.out.2
      rw [HL.out] at h1 h2
      exact ⟨chain_put h1 HOX'.out, first_put h2⟩
    have hlen : (A ++ (k, up x') :: B).length = t.l.length := by rw [HL.out]; simp
    have hfit := fit_any d w3 ⟨t.b, t.k, t.c, A ++ (k, up x') :: B⟩ A B k x' lo hi HT1.out.rep rfl hok1 (fun y hy => HG.out y (by rw [HL.out]; rcases List.mem_append.1 hy with h | h <;> simp [h])) HGX'.out (by have := HX4.out; have := HXL.out; omega) (by have := HX8.out; have := HXL1.out; omega) (by simp only [hlen]; exact H2.out) (by simp only [hlen]; have := HN.out; omega)
    rw [HAJ.out] at hfit
    have HFIT := hid hfit
    clear hfit hok1 hlen
    refine HFIT.out.mono ?_
    rintro e w4 ⟨rfl, hfd⟩
    have HFD := hid hfd
    clear hfd
    go_wp2
    go_ret
    exact puts_up HL.out HA.out HB.out (HT1.out.pre F2.out) HFX.out HXL.out HX4.out HX8.out HFD.out (by rw [HBB.out]; rfl)
end Go.Proofs.YtflfmkokfbgclaaGreat.TR

namespace Go.Proofs.YtflfmkokfbgclaaGreat.TR
set_option maxRecDepth 100000
open Go.RowKit K

/-- What remove leaves. -/
def Dels (d : Nat) (lo : S) (hi : Option S) (w : World) (t : PT d) (key : S) (e : Ending) (w' : World) : Prop :=
  ∃ t' : PT d, e = .returned (.bool (has key (flat d t))) ∧ Turned d w t w' t' ∧ Ok d lo hi t' ∧ Good d t' ∧ flat d t' = del key (flat d t) ∧ t'.l.length ≤ t.l.length ∧ t.l.length ≤ t'.l.length + 1
theorem rem_keys0 {l : List (S × Kid 0)} {i : Nat} (hi : i < l.length) : (keys l).take i ++ (keys l).drop (i + 1) = keys (l.take i ++ l.drop (i + 1)) ∧ (cells l).take (i * 1) ++ (cells l).drop ((i + 1) * 1) = cells (l.take i ++ l.drop (i + 1)) := by
  constructor
  · simp [keys]
  · have h := cells_split l i (Nat.le_of_lt hi)
    have h' := cells_split l (i + 1) hi
    have he : elk 0 = 1 := rfl
    rw [he] at h h'
    rw [h.1, h'.2, cells_append]
set_option maxHeartbeats 2000000 in
theorem rem_leaf (w : World) (t : PT 0) (lo : S) (hi : Option S) (key : S) (hr : Rep w 0 t) (hok : Ok 0 lo hi t) (hlo : lt key lo = false) (hhi : Below hi key) (hn : t.l.length ≤ 8796093021000) :
    Calls Tryz.prog 78 #[val 0 t, .string key] w (Dels 0 lo hi w t key) := by
  have HR := hid hr; have HOK := hid hok; have HLO := hid hlo; have HHI := hid hhi; have HN := hid hn
  clear hr hok hlo hhi hn
  show Calls Tryz.prog _ #[.agg #[.pointer (some ⟨t.b, 0, none⟩), .pointer none], .string key] w _
  go_enter Tryz.func78, Tryz.ntmps78
  go_wp2_with ((with_reducible show wpList _ _ _ (⟨_, .box 134 _, _, _, _, _⟩ :: _) _ _); refine wpL_box rfl _ _ rfl _ rfl [.pointer (some ⟨t.b, 0, none⟩), .pointer none] rfl ?_; intro w1 HB1 F1 HS1; have c0 : w1.cell? ⟨w.heap.size, 0, none⟩ = some (.pointer (some ⟨t.b, 0, none⟩)) := HB1.out.cell 0)
  have HR1 : Hid (Rep w1 0 t) := hid (HR.out.no F1.out)
  refine (position_any w1 t.b _ _ (keys t.l) (cells t.l) key HR1.out.nd HOK.out.rises (by rw [keys_length]; have := HN.out; omega)).mono ?_
  rintro e w2 ⟨i, rfl, hpk, f2⟩
  have HP := hid (leaf_part hpk)
  have F2 : Hid (Fr No w w2) := hid (F1.out.trans' f2)
  have HR2 : Hid (Rep w2 0 t) := hid (HR1.out.no f2)
  have d0 : w2.cell? ⟨w.heap.size, 0, none⟩ = some (.pointer (some ⟨t.b, 0, none⟩)) := f2.cell c0 id
  have HS : Hid (Sorted (flat 0 t)) := hid (ok_sorted HOK.out)
  have HRG : Hid (∀ x ∈ flat 0 t, lt x.1 lo = false ∧ Below hi x.1) := hid (fun x hx => by
    rw [flat_zero] at hx
    exact ⟨HOK.out.2 x hx, chain_below HOK.out.1 x hx⟩)
  clear hpk f2 c0
  by_cases hh : hit (keys t.l) key i = true
  · rw [hh]
    have hx : (keys t.l)[i]? = some key := by simpa [hit] using hh
    obtain ⟨x, hx⟩ : ∃ x, t.l[i]? = some (key, x) := by
      unfold keys at hx
      rw [List.getElem?_map] at hx
      cases he : t.l[i]? with
      | none => rw [he] at hx; cases hx
      | some y =>
        rw [he] at hx
        have : y.1 = key := by simpa using hx
        exact ⟨y.2, by rw [← this]⟩
    have HX := hid hx
    obtain ⟨hil, -⟩ := List.getElem?_eq_some_iff.1 hx
    have HIL := hid hil
    have hib : (i : Int) + 1 ≤ 8796093022208 := by have := HN.out; omega
    clear hx hh hil
    go_wp2_with fail
    have hrm := remove_s w2 t.b i (i + 1) t.k t.c (keys t.l) (cells t.l) HR2.out.nd (Nat.le_succ i) (by rw [keys_length]; exact HIL.out) (by rw [keys_length]; have := HN.out; omega)
    rw [show (((i + 1 : Nat) : Int)) = (i : Int) + 1 from by omega] at hrm
    have HRM := hid hrm
    clear hrm
    refine HRM.out.mono ?_
    rintro e w3 ⟨rfl, hp⟩
    have hil := rem_keys0 HIL.out
    rw [hil.1, hil.2] at hp
    obtain ⟨t', e1, e2, r1, f3, g3⟩ := rep_node hp (leaf_kids _ _ _)
    have E1 := hid e1; have TN := hid ((leaf_turned r1 f3 g3 e2).pre F2.out)
    clear hil hp e1 e2 r1 f3 g3
    go_wp2
    go_ret
    have hpt := HP.out.hit (k := key) HX.out rfl key
    have hfl : flat 0 t' = del key (flat 0 t) := by
      rw [flat_zero, flat_zero, E1.out]; exact hpt.2.1.symm
    refine ⟨t', ?_, TN.out, leaf_ok (l := del key (flat 0 t)) (del_sorted key HS.out) (fun x hx => HRG.out x (del_sub key _ x hx)) (by rw [← hfl, flat_zero]), leaf_good _, hfl, ?_, ?_⟩
    · have : has key (flat 0 t) = true := by
        unfold has
        rw [flat_zero]
        have h3 := hpt.2.2
        exact h3 ▸ rfl
      rw [this]; rfl
    · rw [E1.out]; have := HIL.out; simp; omega
    · rw [E1.out]; have := HIL.out; simp; omega
  · have hh' : hit (keys t.l) key i = false := by simpa using hh
    rw [hh']
    have hms : ∀ x, t.l[i]? = some x → x.1 ≠ key := fun x hx e => by
      have := keys_get (d := 0) hx
      rw [e] at this
      simp [hit, this] at hh
    have HMS := hid hms
    clear hh hh' hms
    go_wp2
    go_ret
    have hpt := HP.out.miss_del (by have := HS.out; rwa [flat_zero] at this) HMS.out
    have hfl : flat 0 t = del key (flat 0 t) := by
      rw [flat_zero]; exact hpt.1.symm
    refine ⟨t, ?_, Turned.refl HR.out F2.out, HOK.out, leaf_good _, hfl, Nat.le_refl _, by omega⟩
    have : has key (flat 0 t) = false := by
      unfold has
      rw [flat_zero]
      have h3 := hpt.2
      exact h3 ▸ rfl
    rw [this]; rfl
theorem dels_up {d : Nat} {lo : S} {hi : Option S} {w w2 w3 : World} {t : PT (d + 1)} {A B : List (S × Kid (d + 1))} {k : S} {x x' : PT d} {key : S} (hl : t.l = A ++ (k, up x) :: B) (hA : AllLt (flats (d + 1) A) key) (hB : AllGt (flats (d + 1) B) key)
    (h1 : Turned (d + 1) w t w2 ⟨t.b, t.k, t.c, A ++ (k, up x') :: B⟩) (hf : flat d x' = del key (flat d x)) (hx : x.l.length ≤ x'.l.length + 1) (hx' : x'.l.length ≤ x.l.length) (hx4 : 4 ≤ x.l.length) (hx8 : x.l.length ≤ 8)
    (h2 : Fitted d lo hi w2 ⟨t.b, t.k, t.c, A ++ (k, up x') :: B⟩ x'.l.length w3) {e : Ending} (he : e = .returned (.bool (has key (flat d x)))) : Dels (d + 1) lo hi w t key e w3 := by
  obtain ⟨t', a1, a2, a3, a4, a5, a6, a7, a8⟩ := h2
  have hlen : (⟨t.b, t.k, t.c, A ++ (k, up x') :: B⟩ : PT (d + 1)).l.length = t.l.length := by rw [hl]; simp
  have e1 : flat (d + 1) t = flats (d + 1) A ++ flat d x ++ flats (d + 1) B := by
    rw [flat_of hl, flats_append, flats_cons, List.append_assoc]; rfl
  have e2 : flat (d + 1) (⟨t.b, t.k, t.c, A ++ (k, up x') :: B⟩ : PT (d + 1)) = flats (d + 1) A ++ flat d x' ++ flats (d + 1) B := by
    rw [flat_of rfl, flats_append, flats_cons, List.append_assoc]; rfl
  rw [hlen] at a5 a6 a7 a8
  have h5 := a5 (by omega)
  refine ⟨t', ?_, h1.trans a1, a2, a3, ?_, h5, a8⟩
  · rw [he, e1, has_mid hA hB]
  · rw [a4, e2, hf, e1, del_mid hA hB]
set_option maxHeartbeats 4000000 in
theorem rem_any : ∀ (d : Nat) (w : World) (t : PT d) (lo : S) (hi : Option S) (key : S), Rep w d t → Ok d lo hi t → Good d t → (d = 0 ∨ 2 ≤ t.l.length) → lt key lo = false → Below hi key → t.l.length ≤ 8796093021000 →
    Calls Tryz.prog 78 #[val d t, .string key] w (Dels d lo hi w t key) := by
  intro d
  induction d with
  | zero => exact fun w t lo hi key hr hok _ _ hlo hhi hn => rem_leaf w t lo hi key hr hok hlo hhi hn
  | succ d ih =>
    intro w t lo hi key hr hok hg h2 hlo hhi hn
    have h2' : 2 ≤ t.l.length := h2.elim (fun e => by cases e) id
    have HIH := hid ih; have HR := hid hr; have HOK := hid hok; have HG := hid hg; have HLO := hid hlo; have HHI := hid hhi; have HN := hid hn; have H2 := hid h2'
    obtain ⟨gc, cc, hcv, hc1, hcc1, hcc2, hog, hrange⟩ := node_open hr (by omega)
    have HRG := hid hrange
    clear ih hr hok hg h2 hlo hhi hn h2' hcv hog hrange
    show Calls Tryz.prog _ #[.agg #[.pointer none, .pointer (some ⟨t.b, 0, none⟩)], .string key] w _
    go_enter Tryz.func78, Tryz.ntmps78
    go_wp2_with ((with_reducible show wpList _ _ _ (⟨_, .box 134 _, _, _, _, _⟩ :: _) _ _); refine wpL_box rfl _ _ rfl _ rfl [.pointer none, .pointer (some ⟨t.b, 0, none⟩)] rfl ?_; intro w1 HB1 F1 HS1; have c0 : w1.cell? ⟨w.heap.size, 0, none⟩ = some (.pointer none) := HB1.out.cell 0; have c1 : w1.cell? ⟨w.heap.size, 1, none⟩ = some (.pointer (some ⟨t.b, 0, none⟩)) := HB1.out.cell 1)
    have HR1 : Hid (Rep w1 (d + 1) t) := hid (HR.out.no F1.out)
    refine (holding_any w1 t.b _ _ (keys t.l) (cells t.l) key HR1.out.nd HOK.out.rises (by rw [keys_length]; have := H2.out; omega) (by rw [keys_length]; have := HN.out; omega)).mono ?_
    rintro e w2 ⟨j, rfl, hjk, f2⟩
    obtain ⟨A, k, (x : PT d), B, hl, hAj, hA, hB, hcA, hokx, hbk, hcB, hklo, hkhi⟩ := hold_split HOK.out hjk
    have HL : Hid (t.l = A ++ (k, up (d := d) x) :: B) := hid hl
    have HAJ := hid hAj; have HA := hid hA; have HB := hid hB
    have HOX : Hid (Ok d k (nx hi B) x) := hid hokx
    have HKL := hid (hklo HLO.out); have HKH := hid (hkhi HHI.out)
    have F2 : Hid (Fr No w w2) := hid (F1.out.trans' f2)
    have d1 : w2.cell? ⟨w.heap.size, 1, none⟩ = some (.pointer (some ⟨t.b, 0, none⟩)) := f2.cell c1 id
    have d2 : w2.cell? ⟨t.b, 1, none⟩ = some (.slice (some ⟨gc, 0, none⟩) t.l.length cc) := F2.out.cell hc1 id
    have HBX2 : Hid (Blk w2 w.heap.size 134 [.pointer none, .pointer (some ⟨t.b, 0, none⟩)]) := hid (HB1.out.fr f2 id)
    have HR2 : Hid (Rep w2 (d + 1) t) := hid (HR1.out.no f2)
    have HRX : Hid (w2.rangeAt gc (j * 2) (ptr d x)) := hid (by have := F2.out.range (HRG.out A k x B hl) id; rwa [hAj] at this)
    have hjm : (j : Int) < (t.l.length : Int) := by have : j < t.l.length := by rw [hl, ← hAj]; simp
                                                    omega
    have HGX : Hid (szK (d + 1) x ∧ goodK (d + 1) x) := hid (HG.out (k, x) (by rw [hl]; simp))
    clear hjk hl hAj hA hB hcA hokx hbk hcB hklo hkhi f2 c0 c1
    unfold maxLen at hcc2
    go_wp2_with ((with_reducible show wpList _ _ _ (⟨_, .load 134 _, _, _, _, _⟩ :: _) _ _); refine wpL_load rfl _ _ rfl gc (j * 2) rfl (ptr d x) _ HRX.out rfl rfl (by rw [ptr_length]; exact info_p) ?_)
    have hx4 : 4 ≤ (Nd.l (α := Kid d) x).length := HGX.out.1.1
    have hx8 : (Nd.l (α := Kid d) x).length ≤ 8 := HGX.out.1.2
    have HX4 := hid hx4; have HX8 := hid hx8
    clear hx4 hx8
    refine (HIH.out w2 x k (nx hi B) key (repK_succ.1 (HR2.out.kids.rep (k, x) (by rw [HL.out]; simp))) HOX.out HGX.out.2 (.inr (by have := HX4.out; omega)) HKL.out HKH.out (by have := HX8.out; omega)).mono ?_
    rintro e w3 ⟨x', rfl, htn, hox', hgx', hfx, hxl1, hxl⟩
    have TN := hid htn
    have HT1 := hid (rep_kid HR2.out HL.out htn)
    have HOX' := hid hox'; have HGX' := hid hgx'; have HFX := hid hfx; have HXL := hid hxl; have HXL1 := hid hxl1
    clear htn hox' hgx' hfx hxl hxl1
    have hbx : ¬ fp d x w.heap.size := fun e => by
      have := HR.out.lt _ (.inr ⟨(k, x), by rw [HL.out]; simp, e⟩); omega
    have HBX3 : Hid (Blk w3 w.heap.size 134 [.pointer none, .pointer (some ⟨t.b, 0, none⟩)]) := hid (HBX2.out.fr TN.out.fr hbx)
    clear hbx d1 d2
    generalize hb : has key (flat d x) = was at *
    have HBB := hid hb
    clear hb
    go_wp2_with ((with_reducible show wpList _ _ _ (⟨_, .load 134 _, _, _, _, _⟩ :: _) _ _); refine wpL_load rfl _ _ rfl w.heap.size 0 rfl [.pointer none, .pointer (some ⟨t.b, 0, none⟩)] _ (HBX3.out.range 0 _ rfl) rfl rfl info_p ?_)
    have hok1 : Ok (d + 1) lo hi (⟨t.b, t.k, t.c, A ++ (k, up x') :: B⟩ : PT (d + 1)) := by
      have h1 := HOK.out.1; have h2 := HOK.out.2
      rw [HL.out] at h1 h2
      exact ⟨chain_put h1 HOX'.out, first_put h2⟩
    have hlen : (A ++ (k, up x') :: B).length = t.l.length := by rw [HL.out]; simp
    have hfit := fit_any d w3 ⟨t.b, t.k, t.c, A ++ (k, up x') :: B⟩ A B k x' lo hi HT1.out.rep rfl hok1 (fun y hy => HG.out y (by rw [HL.out]; rcases List.mem_append.1 hy with h | h <;> simp [h])) HGX'.out (by have := HX4.out; have := HXL.out; omega) (by have := HX8.out; have := HXL1.out; omega) (by simp only [hlen]; exact H2.out) (by simp only [hlen]; have := HN.out; omega)
    rw [HAJ.out] at hfit
    have HFIT := hid hfit
    clear hfit hok1 hlen
    refine HFIT.out.mono ?_
    rintro e w4 ⟨rfl, hfd⟩
    have HFD := hid hfd
    clear hfd
    go_wp2
    go_ret
    exact dels_up HL.out HA.out HB.out (HT1.out.pre F2.out) HFX.out HXL.out HXL1.out HX4.out HX8.out HFD.out (by rw [HBB.out]; rfl)
end Go.Proofs.YtflfmkokfbgclaaGreat.TR

namespace Go.Proofs.YtflfmkokfbgclaaGreat.TR
set_option maxRecDepth 100000
open Go.RowKit K

theorem exists_least (P : Nat → Prop) : ∀ n, P n → ∃ m, P m ∧ ∀ e, P e → m ≤ e := by
  intro n
  induction n using Nat.strongRecOn with
  | ind n ih =>
    intro h
    by_cases hk : ∃ k, k < n ∧ P k
    · obtain ⟨k, h1, h2⟩ := hk
      exact ih k h1 h2
    · refine ⟨n, h, fun e he => ?_⟩
      rcases Nat.lt_or_ge e n with h1 | h1
      · exact absurd ⟨e, h1, he⟩ hk
      · exact h1
theorem least (P : World → Nat → Prop) : ∃ m : World → Nat, ∀ w, (∃ d, P w d) → P w (m w) ∧ ∀ e, P w e → m w ≤ e := by
  have h : ∀ w, ∃ n, (∃ d, P w d) → P w n ∧ ∀ e, P w e → n ≤ e := fun w => by
    by_cases hd : ∃ d, P w d
    · obtain ⟨d, hd⟩ := hd
      obtain ⟨m, h1, h2⟩ := exists_least (P w) d hd
      exact ⟨m, fun _ => ⟨h1, h2⟩⟩
    · exact ⟨0, fun h => absurd h hd⟩
  exact ⟨fun w => Classical.choose (h w), fun w => Classical.choose_spec (h w)⟩
/-- What is below is as it should be. -/
structure Fine (d : Nat) (t : PT d) : Prop where
  ok : ∃ lo hi, Ok d lo hi t
  good : Good d t
  two : d = 0 ∨ 1 ≤ t.l.length
  len : t.l.length ≤ 8796093021000
theorem Fine.kid {d : Nat} {t : PT (d + 1)} (h : Fine (d + 1) t) {A B : List (S × Kid (d + 1))} {k : S} {x : PT d} (hl : t.l = A ++ (k, up x) :: B) : Fine d x := by
  obtain ⟨lo, hi, hok⟩ := h.ok
  have h1 := hok.1
  rw [hl] at h1
  have hg := h.good (k, up x) (by rw [hl]; simp)
  have h4 : 4 ≤ x.l.length := hg.1.1
  have h8 : x.l.length ≤ 8 := hg.1.2
  exact ⟨⟨_, _, (chain_kid h1).1⟩, hg.2, .inr (by omega), by omega⟩
/-- A variable that holds a part. -/
def Box (w : World) (bp : Nat) (key : S) (g : Option S) (d : Nat) : Prop := ∃ t : PT d, Blk w bp 134 (ptr d t) ∧ Rep w d t ∧ Fine d t ∧ get key (flat d t) = g ∧ ¬ fp d t bp
/-- A whole array or struct is read, as one operation of a region. -/
theorem wp_loadA {P : Program} {Q : Exit → Act → World → Prop} {K : Act → World → Prop} {op : Oper} {a : Act} {w : World} (ty : TypeId) (x : Operand) (ho : op.op = .load ty x) (b o : Nat) (hx : a.eval x = .pointer (some ⟨b, o, none⟩)) (cs : List Value) (d : TypeDesc)
    (hu : P.underlying ty = some d) (hd : d.isRow = true) (hi : (P.info? ty).map (·.size) = some cs.length) (hc : w.rangeAt b o cs) (h : K (a.put op.dst (.agg cs.toArray)) w) : op.wp P a w K Q := by
  unfold Oper.wp
  rw [exec_load ty x ho b o hx cs d hu hd hi w hc]
  exact h
def getV (g : Option S) : Value := .tuple #[.string (g.getD ⟨#[]⟩), .bool g.isSome]
set_option maxHeartbeats 4000000 in
theorem pget_any (d : Nat) (w : World) (t : PT d) (key : S) (hr : Rep w d t) (hf : Fine d t) : Calls Tryz.prog 95 #[val d t, .string key] w fun e w' => e = .returned (getV (get key (flat d t))) ∧ Fr No w w' := by
  obtain ⟨m, hm⟩ := least (fun w' d' => Box w' w.heap.size key (get key (flat d t)) d')
  have HM := hid hm
  have HR := hid hr; have HFN := hid hf
  clear hm hr hf
  obtain ⟨vp, vq, hv, hp1, hp2⟩ := val_agg d t
  have hpl : ptr d t = [vp, vq] := by
    have : (val d t) = .agg (ptr d t).toArray := rfl
    rw [hv] at this
    have h2 : #[vp, vq] = (ptr d t).toArray := by injection this
    simpa using (congrArg Array.toList h2).symm
  have HPL := hid hpl
  rw [hv]
  clear hv hpl
  generalize hg : get key (flat d t) = g at *
  have HG := hid hg
  clear hg
  go_enter Tryz.func95, Tryz.ntmps95
  go_wp2_with ((with_reducible show wpList _ _ _ (⟨_, .box 134 _, _, _, _, _⟩ :: _) _ _); refine wpL_box rfl _ _ rfl _ rfl [vp, vq] rfl ?_; intro w1 HB1 F1 HS1)
  go_loopw [] (fun wr => Hid (∃ d, Box wr w.heap.size key g d) ∧ Hid (Fr (fun k => k = w.heap.size) w1 wr)) (fun wr => m wr)
  case atStart =>
    refine ⟨hid ⟨d, t, ?_, HR.out.no F1.out, HFN.out, HG.out, fun e => ?_⟩, hid (Fr.refl _ _)⟩
    · rw [HPL.out]; exact HB1.out
    · have := HR.out.lt _ e; omega
  case round =>
    obtain ⟨HBX, HF⟩ := hrel
    obtain ⟨h1, h2⟩ := HM.out wr HBX.out
    have H2 := hid h2
    clear h2
    rcases hd : m wr with _ | d0
    · rw [hd] at h1
      obtain ⟨t0, hB0, hr0, hf0, hg0, hn0⟩ := h1
      have HB0 := hid hB0; have HR0 := hid hr0; have HG0 := hid hg0
      obtain ⟨lo, hi, hok⟩ := hf0.ok
      have HOK := hid hok; have HLN := hid hf0.len
      have c0 : wr.cell? ⟨w.heap.size, 0, none⟩ = some (.pointer (some ⟨t0.b, 0, none⟩)) := hB0.cell 0
      clear hB0 hr0 hf0 hg0 hn0 hok hd H2
      go_wp2_with fail
      refine (position_any wr t0.b _ _ (keys t0.l) (cells t0.l) key HR0.out.nd HOK.out.rises (by rw [keys_length]; have := HLN.out; omega)).mono ?_
      rintro e w2 ⟨i, rfl, hpk, f2⟩
      have HP := hid (leaf_part hpk)
      have HR2 : Hid (Rep w2 0 t0) := hid (HR0.out.no f2)
      have d0 : w2.cell? ⟨w.heap.size, 0, none⟩ = some (.pointer (some ⟨t0.b, 0, none⟩)) := f2.cell c0 id
      have HFF : Hid (Fr No w w2) := hid ((F1.out.trans (D' := fun k => k = w.heap.size) HF.out (fun k e => .inr (by rw [e]; exact Nat.le_refl _))).trans' f2)
      clear hpk f2 c0
      by_cases hh : hit (keys t0.l) key i = true
      · rw [hh]
        have hx : (keys t0.l)[i]? = some key := by simpa [hit] using hh
        obtain ⟨x, hx⟩ : ∃ x, t0.l[i]? = some (key, x) := by
          unfold keys at hx
          rw [List.getElem?_map] at hx
          cases he : t0.l[i]? with
          | none => rw [he] at hx; cases hx
          | some y =>
            rw [he] at hx
            have : y.1 = key := by simpa using hx
            exact ⟨y.2, by rw [← this]⟩
        have HX := hid hx
        obtain ⟨hil, -⟩ := List.getElem?_eq_some_iff.1 hx
        have hrc := HR2.out.nd.rc
        rw [keys_length] at hrc
        obtain ⟨gc, cc, cur, hcv, hB, hc1, hc2, hc3, hc4⟩ := own_open hrc (by omega)
        have d1 : w2.cell? ⟨t0.b, 1, none⟩ = some (.slice (some ⟨gc, 0, none⟩) t0.l.length cc) := by rw [← hcv]; exact HR2.out.nd.blk.cell 1
        have d2 : w2.cell? ⟨gc, i, none⟩ = some (.string (x : S)) := by
          rw [hB.cell]
          have h5 : (cells t0.l)[i]? = some (Value.string (x : S)) := by rw [leaf_cells, List.getElem?_map, hx]; rfl
          rw [← hc4, List.getElem?_take] at h5
          split at h5
          · exact h5
          · cases h5
        have hil' : (i : Int) < (t0.l.length : Int) := by omega
        clear hrc hcv hB hc1 hc2 hc3 hc4 hx hh
        go_wp2
        go_ret2
        refine ⟨?_, HFF.out⟩
        have hpt := HP.out.hit (k := key) HX.out rfl key
        have h6 : g = some (x : S) := by rw [← HG0.out, flat_zero]; exact hpt.2.2
        rw [h6]; rfl
      · have hh' : hit (keys t0.l) key i = false := by simpa using hh
        rw [hh']
        have hms : ∀ x, t0.l[i]? = some x → x.1 ≠ key := fun x hx e => by
          have := keys_get (d := 0) hx
          rw [e] at this
          simp [hit, this] at hh
        have HMS := hid hms
        clear hh hh' hms
        go_wp2
        go_ret2
        refine ⟨?_, HFF.out⟩
        have hsr := ok_sorted HOK.out
        have hpt := HP.out.miss_del (by rwa [flat_zero] at hsr) HMS.out
        have h6 : g = none := by rw [← HG0.out, flat_zero]; exact hpt.2
        rw [h6]; rfl
    · rw [hd] at h1
      obtain ⟨t0, hB0, hr0, hf0, hg0, hn0⟩ := h1
      have HD := hid hd
      have HB0 : Hid (Blk wr w.heap.size 134 [.pointer none, .pointer (some ⟨t0.b, 0, none⟩)]) := hid hB0
      have HR0 := hid hr0; have HG0 := hid hg0; have HF0 := hid hf0; have HN0 := hid hn0
      obtain ⟨lo, hi, hok⟩ := hf0.ok
      have HOK := hid hok
      have hlen : 1 ≤ t0.l.length := hf0.two.elim (fun e => by cases e) id
      have HLN := hid hlen
      obtain ⟨gc, cc, hcv, hc1, hcc1, hcc2, hog, hrange⟩ := node_open hr0 hlen
      have HRG := hid hrange
      have c0 : wr.cell? ⟨w.heap.size, 0, none⟩ = some (.pointer none) := HB0.out.cell 0
      have c1 : wr.cell? ⟨w.heap.size, 1, none⟩ = some (.pointer (some ⟨t0.b, 0, none⟩)) := HB0.out.cell 1
      clear hB0 hr0 hf0 hg0 hn0 hok hd hcv hog hrange hlen
      unfold maxLen at hcc2
      go_wp2_with fail
      have hold : Facts.hold [(1, fun w' => w'.cell? ⟨w.heap.size, 1, none⟩ = some (.pointer (some ⟨t0.b, 0, none⟩))), (4, fun w' => w'.cell? ⟨t0.b, 1, none⟩ = some (.slice (some ⟨gc, 0, none⟩) t0.l.length cc)), (6, fun w' => w'.cell? ⟨w.heap.size, 1, none⟩ = some (.pointer (some ⟨t0.b, 0, none⟩)))] wr.drew := Facts.cons_hold c1 (Facts.cons_hold hc1 (Facts.cons_hold c1 (Facts.nil_hold _)))
      refine wpD_region hold (by kernel_rfl) 12 rfl ?_
      (refine wpD_plain 0 (v := ?_) rfl (by kernel_rfl) (by kernel_rfl) (by kernel_rfl) (fun _ _ _ h => h) (by rfl) ?_ (by assumption) ?_; rotate_left; (intro _w; go_simp; try with_reducible rfl); simp only [Act.put, List.setIfInBounds_toArray, List.set_cons_zero, List.set_cons_succ])
      (refine wpD_take 1 _ rfl (by kernel_rfl) (by kernel_rfl) (by kernel_rfl) (fun _ _ _ h => h) List.mem_cons_self (by rfl) (v := ?_) ?_ (by assumption) ?_; rotate_left; (intro _w _hw; go_simp; try with_reducible rfl); simp only [Act.put, List.setIfInBounds_toArray, List.set_cons_zero, List.set_cons_succ])
      (refine wpD_plain 2 (v := ?_) rfl (by kernel_rfl) (by kernel_rfl) (by kernel_rfl) (fun _ _ _ h => h) (by rfl) ?_ (by assumption) ?_; rotate_left; (intro _w; go_simp; try with_reducible rfl); simp only [Act.put, List.setIfInBounds_toArray, List.set_cons_zero, List.set_cons_succ])
      (refine wpD_plain 3 (v := ?_) rfl (by kernel_rfl) (by kernel_rfl) (by kernel_rfl) (fun _ _ _ h => h) (by rfl) ?_ (by assumption) ?_; rotate_left; (intro _w; go_simp; try with_reducible rfl); simp only [Act.put, List.setIfInBounds_toArray, List.set_cons_zero, List.set_cons_succ])
      (refine wpD_take 4 _ rfl (by kernel_rfl) (by kernel_rfl) (by kernel_rfl) (fun _ _ _ h => h) (List.mem_cons_of_mem _ List.mem_cons_self) (by rfl) (v := ?_) ?_ (by assumption) ?_; rotate_left; (intro _w _hw; go_simp; try with_reducible rfl); simp only [Act.put, List.setIfInBounds_toArray, List.set_cons_zero, List.set_cons_succ])
      (refine wpD_plain 5 (v := ?_) rfl (by kernel_rfl) (by kernel_rfl) (by kernel_rfl) (fun _ _ _ h => h) (by rfl) ?_ (by assumption) ?_; rotate_left; (intro _w; go_simp; try with_reducible rfl); simp only [Act.put, List.setIfInBounds_toArray, List.set_cons_zero, List.set_cons_succ])
      (refine wpD_take 6 _ rfl (by kernel_rfl) (by kernel_rfl) (by kernel_rfl) (fun _ _ _ h => h) (List.mem_cons_of_mem _ (List.mem_cons_of_mem _ List.mem_cons_self)) (by rfl) (v := ?_) ?_ (by assumption) ?_; rotate_left; (intro _w _hw; go_simp; try with_reducible rfl); simp only [Act.put, List.setIfInBounds_toArray, List.set_cons_zero, List.set_cons_succ])
      (refine wpD_plain 7 (v := ?_) rfl (by kernel_rfl) (by kernel_rfl) (by kernel_rfl) (fun _ _ _ h => h) (by rfl) ?_ (by assumption) ?_; rotate_left; (intro _w; go_simp; try with_reducible rfl); simp only [Act.put, List.setIfInBounds_toArray, List.set_cons_zero, List.set_cons_succ])
      clear hold
      refine wpD_only 8 [(1, fun w' => w'.cell? ⟨w.heap.size, 1, none⟩ = some (.pointer (some ⟨t0.b, 0, none⟩))), (4, fun w' => w'.cell? ⟨t0.b, 1, none⟩ = some (.slice (some ⟨gc, 0, none⟩) t0.l.length cc))] rfl (by kernel_rfl) (by kernel_rfl) (by rfl) (fun K8 hK8 => ?_)
      refine wp_call (.func 98) _ _ rfl 98 [] rfl (fun vs w => by kernel_rfl) [.pointer (some ⟨t0.b, 0, none⟩), .string key] (by rfl) ?_
      refine (holding_any wr.drew t0.b _ _ (keys t0.l) (cells t0.l) key (HR0.out.no (Fr.refl No wr).drew).nd HOK.out.rises (by rw [keys_length]; have := HLN.out; omega) (by rw [keys_length]; have := HF0.out.len; omega)).mono ?_
      rintro e w2 ⟨j, rfl, hjk, f2⟩
      have hf2 : Fr No wr w2 := (Fr.refl No wr).drew.trans' f2
      obtain ⟨A, k, (x : PT d0), B, hl, hAj, hA, hB, hcA, hokx, hbk, hcB, hklo, hkhi⟩ := hold_split HOK.out hjk
      have HL : Hid (t0.l = A ++ (k, up (d := d0) x) :: B) := hid hl
      have HA := hid hA; have HB := hid hB
      have HRX : Hid (w2.rangeAt gc (j * 2) (ptr d0 x)) := hid (by have := hf2.range (HRG.out A k x B hl) id; rwa [hAj] at this)
      have hjt : j < t0.l.length := by rw [hl, ← hAj]; simp
      have hjm : (j : Int) < (t0.l.length : Int) := by omega
      have F2 := hid hf2
      have hold : Facts.hold [(1, fun w' => w'.cell? ⟨w.heap.size, 1, none⟩ = some (.pointer (some ⟨t0.b, 0, none⟩))), (4, fun w' => w'.cell? ⟨t0.b, 1, none⟩ = some (.slice (some ⟨gc, 0, none⟩) t0.l.length cc))] w2 := Facts.cons_hold (hf2.cell c1 id) (Facts.cons_hold (hf2.cell hc1 id) (Facts.nil_hold _))
      refine ⟨_, rfl, hK8 _ _ hold ?_⟩
      clear hjk hl hAj hA hB hcA hokx hbk hcB hklo hkhi f2 hf2 hK8 K8
      simp only [Act.put, List.setIfInBounds_toArray, List.set_cons_zero, List.set_cons_succ]
      (refine wpD_plain 9 (v := (.pointer (some ⟨gc, j * 2, none⟩))) rfl (by kernel_rfl) (by kernel_rfl) (by kernel_rfl) (fun _ _ _ h => h) (by rfl) ?_ (by assumption) ?_; (intro _w; go_simp; skip); simp only [Act.put, List.setIfInBounds_toArray, List.set_cons_zero, List.set_cons_succ])
      refine wpD_only 10 [(1, fun w' => w'.cell? ⟨w.heap.size, 1, none⟩ = some (.pointer (some ⟨t0.b, 0, none⟩))), (4, fun w' => w'.cell? ⟨t0.b, 1, none⟩ = some (.slice (some ⟨gc, 0, none⟩) t0.l.length cc))] rfl (by kernel_rfl) (by kernel_rfl) (by rfl) (fun K10 hK10 => ?_)
      refine wp_loadA _ _ rfl gc (j * 2) rfl (ptr d0 x) _ rfl rfl (by rw [ptr_length]; exact info_p) HRX.out ?_
      refine hK10 _ _ hold ?_
      clear hK10 K10 hold
      simp only [Act.put, List.setIfInBounds_toArray, List.set_cons_zero, List.set_cons_succ]
      refine wpD_only 11 [] rfl (by kernel_rfl) (by kernel_rfl) (by rfl) (fun K11 hK11 => ?_)
      refine wp_storeV _ _ _ rfl w.heap.size 0 (.agg (ptr d0 x).toArray) (ptr d0 x) rfl rfl rfl _ _ (HB0.out.fr F2.out id) (by rw [ptr_length]; simp) (by rw [ptr_length]; exact info_p) (ptr_one d0 x) ?_
      intro w3 HB3 F3 HS3
      refine hK11 _ _ (Facts.nil_hold _) ?_
      clear hK11 K11
      refine wpD_done (by kernel_rfl) ?_ _
      simp only [Act.put, List.setIfInBounds_toArray, List.set_cons_zero, List.set_cons_succ]
      clear c0 c1 hc1
      have hmx : (k, up (d := d0) x) ∈ t0.l := by rw [HL.out]; simp
      have hne : ¬ fp d0 x w.heap.size := fun e => HN0.out (.inr ⟨_, hmx, e⟩)
      have hrx : Rep w3 d0 x := ((repK_succ.1 (HR0.out.kids.rep _ hmx)).no F2.out).fr F3.out (fun g hg e => hne (by have e' : g = w.heap.size := e; rw [← e']; exact hg))
      have hbx : Blk w3 w.heap.size 134 (ptr d0 x) := by
        have := HB3.out
        rwa [show spl [.pointer none, .pointer (some ⟨t0.b, 0, none⟩)] 0 (ptr d0 x) = ptr d0 x from by
          unfold spl
          rw [ptr_length]; simp] at this
      have hgx : get key (flat d0 x) = g := by
        rw [← HG0.out, flat_of HL.out, flats_append, flats_cons]
        have := get_mid HA.out HB.out (M := flat d0 x)
        rw [List.append_assoc] at this
        exact this.symm
      have hBox : Box w3 w.heap.size key g d0 := ⟨x, hbx, hrx, HF0.out.kid HL.out, hgx, hne⟩
      have hrel' : Hid (∃ d, Box w3 w.heap.size key g d) ∧ Hid (Fr (fun k => k = w.heap.size) w1 w3) := ⟨hid ⟨d0, hBox⟩, hid ((HF.out.trans' F2.out.no).trans' F3.out)⟩
      have hms : m w3 < d0 + 1 := by
        have := (HM.out w3 ⟨d0, hBox⟩).2 d0 hBox
        omega
      have HRL := hid hrel'; have HMS := hid hms
      clear hrel' hms hmx hne hrx hbx hgx hBox
      go_wp2
      exact ⟨HRL.out, HMS.out⟩
end Go.Proofs.YtflfmkokfbgclaaGreat.TR

namespace Go.Proofs.YtflfmkokfbgclaaGreat.TR
set_option maxRecDepth 100000
open Go.RowKit K

/-- A variable that holds a part: for depth. -/
def BoxD (w : World) (bp : Nat) (d : Nat) : Prop := ∃ t : PT d, Blk w bp 134 (ptr d t) ∧ Rep w d t ∧ Fine d t ∧ ¬ fp d t bp
set_option maxHeartbeats 4000000 in
theorem pdepth_any (d : Nat) (w : World) (t : PT d) (hr : Rep w d t) (hf : Fine d t) (hd : d ≤ 1000) : Calls Tryz.prog 102 #[val d t] w fun e w' => e = .returned (.int .i64 (d + 1 : Nat)) ∧ Fr No w w' := by
  have HR := hid hr; have HFN := hid hf
  clear hr hf
  obtain ⟨vp, vq, hv, hp1, hp2⟩ := val_agg d t
  have hpl : ptr d t = [vp, vq] := by
    have : (val d t) = .agg (ptr d t).toArray := rfl
    rw [hv] at this
    have h2 : #[vp, vq] = (ptr d t).toArray := by injection this
    simpa using (congrArg Array.toList h2).symm
  have HPL := hid hpl
  rw [hv]
  clear hv hpl
  go_enter Tryz.func102, Tryz.ntmps102
  go_wp2_with ((with_reducible show wpList _ _ _ (⟨_, .box 134 _, _, _, _, _⟩ :: _) _ _); refine wpL_box rfl _ _ rfl _ rfl [vp, vq] rfl ?_; intro w1 HB1 F1 HS1)
  go_loopw [3] (fun n wr => ∃ k e : Nat, n = .int .i64 k ∧ k + e = d + 1 ∧ Hid (BoxD wr w.heap.size e) ∧ Hid (Fr (fun k => k = w.heap.size) w1 wr)) (fun n _ => d + 1 - (intOf n).toNat)
  case atStart =>
    refine ⟨1, d, rfl, by omega, hid ⟨t, ?_, HR.out.no F1.out, HFN.out, fun e => ?_⟩, hid (Fr.refl _ _)⟩
    · rw [HPL.out]; exact HB1.out
    · have := HR.out.lt _ e; omega
  case round =>
    obtain ⟨k, e, rfl, hke, HBX, HF⟩ := hrel
    rcases e with _ | e
    · obtain ⟨t0, hB0, hr0, hf0, hn0⟩ := HBX.out
      have c0 : wr.cell? ⟨w.heap.size, 0, none⟩ = some (.pointer (some ⟨t0.b, 0, none⟩)) := hB0.cell 0
      clear hB0 hr0 hf0 hn0
      have HK : Hid (k = d + 1) := hid (by omega)
      clear hke
      go_wp2
      go_ret
      refine ⟨by rw [← HK.out]; rfl, ?_⟩
      exact F1.out.trans (D' := fun k => k = w.heap.size) HF.out (fun k e => .inr (by rw [e]; exact Nat.le_refl _))
    · obtain ⟨t0, hB0, hr0, hf0, hn0⟩ := HBX.out
      have HB0 : Hid (Blk wr w.heap.size 134 [.pointer none, .pointer (some ⟨t0.b, 0, none⟩)]) := hid hB0
      have HR0 := hid hr0; have HF0 := hid hf0; have HN0 := hid hn0
      have hlen : 1 ≤ t0.l.length := hf0.two.elim (fun e => by cases e) id
      obtain ⟨gc, cc, hcv, hc1, hcc1, hcc2, hog, hrange⟩ := node_open hr0 hlen
      obtain ⟨k0, x, r, hl⟩ : ∃ (k0 : S) (x : PT e) (r : List (S × Kid (e + 1))), t0.l = (k0, up x) :: r := by
        cases hl : t0.l with
        | nil => rw [hl] at hlen; simp at hlen
        | cons y r => exact ⟨y.1, y.2, r, rfl⟩
      have HL := hid hl
      have hrx := hrange [] k0 x r hl
      have HRX : Hid (wr.rangeAt gc 0 (ptr e x)) := hid (by simpa using hrx)
      have c0 : wr.cell? ⟨w.heap.size, 0, none⟩ = some (.pointer none) := HB0.out.cell 0
      have c1 : wr.cell? ⟨w.heap.size, 1, none⟩ = some (.pointer (some ⟨t0.b, 0, none⟩)) := HB0.out.cell 1
      have hpos : (0 : Int) < (t0.l.length : Int) := by omega
      have hpos2 : 0 < t0.l.length := by omega
      have HKE := hid hke
      have hk1 : (k : Int) ≤ 1001 := by omega
      clear hB0 hr0 hf0 hn0 hcv hog hrange hrx hl hlen hke
      unfold maxLen at hcc2
      go_wp2_with (first
        | ((with_reducible show wpList _ _ _ (⟨_, .load 134 _, _, _, _, _⟩ :: _) _ _); refine wpL_load rfl _ _ rfl gc 0 rfl (ptr e x) _ HRX.out rfl rfl (by rw [ptr_length]; exact info_p) ?_)
        | ((with_reducible show wpList _ _ _ (⟨_, .store 134 _ _, _, _, _, _⟩ :: _) _ _); refine wpL_storeV rfl _ _ _ rfl w.heap.size 0 (.agg (ptr e x).toArray) (ptr e x) rfl rfl rfl _ _ HB0.out (by rw [ptr_length]; simp) (by rw [ptr_length]; exact info_p) (ptr_one e x) ?_; intro w3 HB3 F3 HS3))
      have hmx : (k0, up x) ∈ t0.l := by rw [HL.out]; simp
      have hne : ¬ fp e x w.heap.size := fun h => HN0.out (.inr ⟨_, hmx, h⟩)
      have hrx : Rep w3 e x := (repK_succ.1 (HR0.out.kids.rep _ hmx)).fr F3.out (fun g hg h => hne (by have e' : g = w.heap.size := h; rw [← e']; exact hg))
      have hbx : Blk w3 w.heap.size 134 (ptr e x) := by
        have := HB3.out
        rwa [show spl [.pointer none, .pointer (some ⟨t0.b, 0, none⟩)] 0 (ptr e x) = ptr e x from by
          unfold spl
          rw [ptr_length]; simp] at this
      have hBox : BoxD w3 w.heap.size e := ⟨x, hbx, hrx, HF0.out.kid (A := []) HL.out, hne⟩
      have hke := HKE.out
      simp only [Act.put, List.setIfInBounds_toArray, List.set_cons_zero, List.set_cons_succ, List.set_nil]
      exact ⟨⟨_, _, _, _, _, _, _, _, _, _, _, _, _, ⟨k + 1, e, by go_num, by omega, hid hBox, hid (HF.out.trans' F3.out)⟩, rfl⟩, by simp [intOf]; omega⟩
end Go.Proofs.YtflfmkokfbgclaaGreat.TR

namespace Go.Proofs.YtflfmkokfbgclaaGreat.TR
set_option maxRecDepth 100000
open Go.RowKit K

/-- The shape alone. -/
def Sk : Nat → Type
  | 0 => S
  | d + 1 => List (S × Sk d)
def sk : (d : Nat) → Kid d → Sk d
  | 0, v => (v : S)
  | d + 1, t => (Nd.l (α := Kid d) t).map fun x => (x.1, sk d x.2)
def sks (d : Nat) (l : List (S × Kid d)) : List (S × Sk d) := l.map fun x => (x.1, sk d x.2)
theorem sks_length {d : Nat} {l l' : List (S × Kid d)} (h : sks d l = sks d l') : l.length = l'.length := by
  have := congrArg List.length h
  simpa [sks] using this
end Go.Proofs.YtflfmkokfbgclaaGreat.TR

namespace Go.Proofs.YtflfmkokfbgclaaGreat.TR
set_option maxRecDepth 100000
open Go.RowKit K

/-- Behind some rounds: the new kids N, the old ones R. -/
structure Cl (d : Nat) (w : World) (t : PT (d + 1)) (b gc cc : Nat) (kv : Value) (wr : World) (N R : List (S × Kid (d + 1))) : Prop where
  nd : NdAt wr (ndT (d + 1)) (elT (d + 1)) (elk (d + 1)) b kv (.slice (some ⟨gc, 0, none⟩) t.l.length cc) (keys t.l) (cells (N ++ R))
  new : Kids wr (d + 1) (Own b kv (.slice (some ⟨gc, 0, none⟩) t.l.length cc)) N
  old : t.l = t.l.take N.length ++ R
  same : sks (d + 1) N = sks (d + 1) (t.l.take N.length)
  fresh : ∀ x ∈ N, ∀ g, fpK (d + 1) x.2 g → w.heap.size ≤ g
  fr : Fr No w wr
  own : ∀ g, Own b kv (.slice (some ⟨gc, 0, none⟩) t.l.length cc) g → w.heap.size ≤ g
theorem Cl.len {d : Nat} {w : World} {t : PT (d + 1)} {b gc cc : Nat} {kv : Value} {wr : World} {N R : List (S × Kid (d + 1))} (h : Cl d w t b gc cc kv wr N R) : N.length + R.length = t.l.length := by
  have h1 := sks_length h.same
  have h2 := congrArg List.length h.old
  simp only [List.length_append] at h2
  omega
theorem kids_nil (w : World) (d : Nat) (D : Nat → Prop) : Kids w d D [] := ⟨fun _ h => (by cases h), List.Pairwise.nil, fun _ h => (by cases h)⟩
theorem Cl.begin {d : Nat} {w : World} {t : PT (d + 1)} {b gc cc : Nat} {kv : Value} {wr : World} (h : NdAt wr (ndT (d + 1)) (elT (d + 1)) (elk (d + 1)) b kv (.slice (some ⟨gc, 0, none⟩) t.l.length cc) (keys t.l) (cells t.l)) (hf : Fr No w wr) (ho : ∀ g, Own b kv (.slice (some ⟨gc, 0, none⟩) t.l.length cc) g → w.heap.size ≤ g) : Cl d w t b gc cc kv wr [] t.l :=
  ⟨h, kids_nil _ _ _, rfl, rfl, fun _ h => (by cases h), hf, ho⟩
theorem Cl.row {d : Nat} {w : World} {t : PT (d + 1)} {b gc cc : Nat} {kv : Value} {wr : World} {N R : List (S × Kid (d + 1))} (h : Cl d w t b gc cc kv wr N R) (hp : 1 ≤ t.l.length) : ∃ cur : List Value, Blk wr gc 134 cur ∧ cur.length = cc * 2 ∧ cur.take (t.l.length * 2) = cells (N ++ R) := by
  have hrc := h.nd.rc
  rw [keys_length] at hrc
  obtain ⟨g, c, cur, hv, hB, -, -, h3, h4⟩ := own_open hrc hp
  cases hv
  exact ⟨cur, hB, h3, h4⟩
/-- A round more. -/
theorem Cl.step {d : Nat} {w : World} {t : PT (d + 1)} {b gc cc : Nat} {kv : Value} {wr w2 w3 : World} {N R : List (S × Kid (d + 1))} {k : S} {x u : PT d} (h : Cl d w t b gc cc kv wr N ((k, up x) :: R)) (hr : Rep w2 d u) (hs : sks d u.l = sks d x.l) (h2 : Fr No wr w2) (hf : ∀ g, fp d u g → wr.heap.size ≤ g) (h3 : Fr (fun g => g = gc) w2 w3)
    (hc : w3.ownsRow 0 (elT (d + 1)) (elk (d + 1)) (.slice (some ⟨gc, 0, none⟩) t.l.length cc) t.l.length (cells ((N ++ [(k, up u)]) ++ R))) : Cl d w t b gc cc kv w3 (N ++ [(k, up u)]) R := by
  have hlt := h.nd.lt
  have hgo : Own b kv (.slice (some ⟨gc, 0, none⟩) t.l.length cc) gc := .inr (.inr rfl)
  have hun : Dj (Own b kv (.slice (some ⟨gc, 0, none⟩) t.l.length cc)) (fp d u) := fun g h1 h2 => by have := hlt g h1; have := hf g h2; omega
  have e1 : ∀ (y : S × Kid (d + 1)), y ∈ N → Dj (fpK (d + 1) y.2) (fun g => g = gc) := fun y hy g hg e => h.new.off y hy gc hgo (by rw [← e]; exact hg)
  have hru : Rep w3 d u := hr.fr h3 (fun g hg e => hun gc hgo (by rw [← e]; exact hg))
  have hl := sks_length h.same
  have hlen := h.len
  have hold := h.old
  have e2 : t.l.take (N ++ [(k, up u)]).length = t.l.take N.length ++ [(k, up x)] := by
    have hn : (t.l.take N.length).length = N.length := hl.symm
    have h5 : t.l = (t.l.take N.length ++ [(k, up x)]) ++ R := by rw [List.append_assoc]; exact hold
    have h6 : (t.l.take N.length ++ [(k, up x)]).length = (N ++ [(k, up u)]).length := by simp [hn]
    conv => lhs; rw [h5, ← h6, List.take_left]
  refine ⟨⟨(h.nd.blk.fr h2 id).fr h3 (fun e => ?_), ?_, ?_, ?_, h.nd.n1, h.nd.n2, h.nd.n3⟩, ⟨fun y hy => ?_, ?_, fun y hy => ?_⟩, ?_, ?_, fun y hy g hg => ?_, ?_, h.own⟩
  · exact h.nd.n2 (by have e' : b = gc := e; rw [e']; rfl)
  · exact own_fr (own_fr h.nd.rk h2 (fun _ _ e => e)) h3 (fun g hg e => h.nd.n3 g hg (by have e' : g = gc := e; rw [e']; rfl))
  · rw [keys_length]; exact hc
  · intro v hv
    have hv' : v ∈ cells ((N ++ [(k, up u)]) ++ R) := hv
    obtain ⟨y, -, hy⟩ := List.mem_flatMap.1 hv'
    exact cellK_one _ _ v hy
  · rcases List.mem_append.1 hy with hy | hy
    · exact repK_fr (d + 1) y.2 (repK_fr (d + 1) y.2 (h.new.rep y hy) h2 (fun _ _ e => e)) h3 (e1 y hy)
    · rw [List.mem_singleton.1 hy]; exact repK_succ.2 hru
  · rw [List.pairwise_append]
    refine ⟨h.new.apart, List.pairwise_singleton _ _, fun a ha c hc => ?_⟩
    rw [List.mem_singleton.1 hc]
    intro g hg hg'
    have := repK_lt (d + 1) wr a.2 (h.new.rep a ha) g hg
    have := hf g hg'
    omega
  · rcases List.mem_append.1 hy with hy | hy
    · exact h.new.off y hy
    · rw [List.mem_singleton.1 hy]; exact hun
  · rw [e2]; simpa using hold
  · rw [e2]
    have : sk (d + 1) (up u) = sk (d + 1) (up x) := hs
    simp only [sks, List.map_append, List.map_cons, List.map_nil, this]
    have h7 := h.same
    simp only [sks] at h7
    rw [h7]
  · rcases List.mem_append.1 hy with hy | hy
    · exact h.fresh y hy g hg
    · rw [List.mem_singleton.1 hy] at hg
      exact Nat.le_trans h.fr.size (hf g hg)
  · exact (h.fr.trans' h2).trans (D' := fun g => g = gc) h3 (fun g e => .inr (by rw [e]; exact h.own gc hgo))
end Go.Proofs.YtflfmkokfbgclaaGreat.TR
