/-
  Parts: fit, put.
-/
import Derived.Test.YtlnolnaapnijbaaTrX
namespace Go.Proofs.Ytlnolnaapnijbaa.TR
set_option maxRecDepth 100000
open Go.RowKit K

theorem fit_any (d : Nat) (w : World) (t : PT (d + 1)) (A B : List (S × Kid (d + 1))) (k : S) (x : PT d) (lo : S) (hi : Option S) (hr : Rep w (d + 1) t) (hl : t.l = A ++ (k, up x) :: B) (hok : Ok (d + 1) lo hi t)
    (hg : ∀ y ∈ A ++ B, szK (d + 1) y.2 ∧ goodK (d + 1) y.2) (hgx : Good d x) (h3 : 3 ≤ x.l.length) (h9 : x.l.length ≤ 9) (h2 : 2 ≤ t.l.length) (hn : t.l.length ≤ 8796093022000) :
    Calls Try.prog 79 #[val (d + 1) t, .int .i64 A.length] w fun e w' => e = .returned (.tuple #[]) ∧ Fitted d lo hi w t x.l.length w' := by
  by_cases h4 : 4 ≤ x.l.length
  · exact fit_wide d w t A B k x lo hi hr hl hok hg hgx h4 (by omega) hn
  · have hx0 : x.l ≠ [] := fun e => by rw [e] at h3; simp at h3
    rcases List.eq_nil_or_concat A with rfl | ⟨A0, ⟨k0, z⟩, rfl⟩
    · cases B with
      | nil => rw [hl] at h2; simp at h2
      | cons b B0 =>
        obtain ⟨k1, y⟩ := b
        have hy := hg (k1, y) (by simp)
        have hy4 : 4 ≤ (Nd.l (α := Kid d) y).length := hy.1.1
        have hy8 : (Nd.l (α := Kid d) y).length ≤ 8 := hy.1.2
        exact fit_narrow d w t [] ((k1, y) :: B0) [] B0 k k k1 x x y lo hi hr hl hl hok rfl (fun q hq => hg q (by simp at hq ⊢; exact .inr hq)) hgx hy.2 (by omega) (by omega) (by omega) hx0 (fun e => by rw [e] at hy4; simp at hy4) hn
    · have hz := hg (k0, z) (by simp)
      have hz4 : 4 ≤ (Nd.l (α := Kid d) z).length := hz.1.1
      have hz8 : (Nd.l (α := Kid d) z).length ≤ 8 := hz.1.2
      refine fit_narrow d w t (A0.concat (k0, z)) B A0 B k k0 k x z x lo hi hr hl (by rw [hl]; simp) hok ?_ (fun q hq => hg q (by rcases List.mem_append.1 hq with h | h <;> simp [h])) hz.2 hgx (by omega) (by omega) (by omega) (fun e => by rw [e] at hz4; simp at hz4) hx0 hn
      simp

/-- What put leaves. -/
def Puts (d : Nat) (lo : S) (hi : Option S) (w : World) (t : PT d) (key v : S) (e : Ending) (w' : World) : Prop :=
  ∃ t' : PT d, e = .returned (.bool (has key (flat d t))) ∧ Turned d w t w' t' ∧ Ok d lo hi t' ∧ Good d t' ∧ flat d t' = put key v (flat d t) ∧ t.l.length ≤ t'.l.length ∧ t'.l.length ≤ t.l.length + 1
/-- A text as a content. -/
abbrev upS (v : S) : Kid 0 := v
def lc (x : S × Kid 0) : Value := Value.string (x.2 : S)
theorem leaf_cells (l : List (S × Kid 0)) : cells l = l.map lc := by
  induction l with
  | nil => rfl
  | cons x r ih => rw [cells_cons, ih]; rfl
theorem leaf_good (t : PT 0) : Good 0 t := fun _ _ => ⟨trivial, trivial⟩
theorem leaf_kids (w : World) (D : Nat → Prop) (l : List (S × Kid 0)) : Kids w 0 D l := ⟨fun _ _ => trivial, List.pairwise_of_forall (fun _ _ _ h => h.elim), fun _ _ _ _ h => h.elim⟩
theorem leaf_ok {lo : S} {hi : Option S} {l : List (S × Kid 0)} (hs : Sorted l) (hb : ∀ x ∈ l, lt x.1 lo = false ∧ Below hi x.1) {t : PT 0} (ht : t.l = l) : Ok 0 lo hi t := by
  refine ⟨?_, by rw [ht]; exact fun x hx => (hb x hx).1⟩
  rw [ht]
  clear ht
  induction l with
  | nil => trivial
  | cons x r ih =>
    have h1 := List.pairwise_cons.1 hs
    refine ⟨trivial, ?_, ih h1.2 (fun y hy => hb y (List.mem_cons_of_mem _ hy))⟩
    cases r with
    | nil => exact (hb x (List.mem_cons_self)).2
    | cons y s => exact h1.1 y (List.mem_cons_self)
theorem keys_get {d : Nat} {l : List (S × Kid d)} {j : Nat} {x : S × Kid d} (h : l[j]? = some x) : (keys l)[j]? = some x.1 := by
  unfold keys
  rw [List.getElem?_map, h]; rfl
theorem leaf_part {l : List (S × Kid 0)} {key : S} {i : Nat} (h : PartK (keys l) key i) : Part l key i :=
  ⟨by have := h.le; rwa [keys_length] at this, fun j x hj hx => h.lo j x.1 hj (keys_get (d := 0) hx), fun j x hj hx => h.hi j x.1 hj (keys_get (d := 0) hx)⟩
/-- A leaf that has other contents. -/
theorem leaf_turned {w w' : World} {t t' : PT 0} (h1 : Rep w' 0 t') (h2 : Fr (own t) w w') (h3 : ∀ g, own t' g → own t g ∨ w.heap.size ≤ g) (hb : t'.b = t.b) : Turned 0 w t w' t' :=
  ⟨h1, h2.mono fun g hg => .inl hg, fun g hg => by
    rcases hg with hg | ⟨x, hx, hg⟩
    · exact (h3 g hg).imp .inl id
    · exact hg.elim, hb⟩
theorem ins_leaf {l : List (S × Kid 0)} {key v : S} {i : Nat} (hi : i ≤ l.length) : (keys l).take i ++ key :: (keys l).drop i = keys (l.take i ++ (key, upS v) :: l.drop i) ∧
    (cells l).take (i * 1) ++ [Value.string v] ++ (cells l).drop (i * 1) = cells (l.take i ++ (key, upS v) :: l.drop i) := by
  constructor
  · simp [keys]
  · have h := cells_split l i hi
    have he : elk 0 = 1 := rfl
    rw [he] at h
    rw [h.1, h.2, cells_append, cells_cons, List.append_assoc]
    rfl
theorem set_leaf {l : List (S × Kid 0)} {k v : S} {i : Nat} {x : Kid 0} (hx : l[i]? = some (k, x)) : keys (l.set i (k, upS v)) = keys l ∧ cells (l.set i (k, upS v)) = (cells l).set i (.string v) := by
  constructor
  · unfold keys
    rw [List.map_set]
    apply List.ext_getElem?
    intro j
    rw [List.getElem?_set]
    split
    · rename_i h
      subst h
      simp only [List.length_map]
      obtain ⟨hlt, e⟩ := List.getElem?_eq_some_iff.1 hx
      rw [if_pos hlt, List.getElem?_map, hx]
      rfl
    · rfl
  · rw [leaf_cells, leaf_cells, List.map_set]
    rfl
set_option maxHeartbeats 2000000 in
theorem put_leaf (w : World) (t : PT 0) (lo : S) (hi : Option S) (key v : S) (hr : Rep w 0 t) (hok : Ok 0 lo hi t) (hlo : lt key lo = false) (hhi : Below hi key) (hn : t.l.length ≤ 8796093021000) :
    Calls Try.prog 48 #[val 0 t, .string key, .string v] w (Puts 0 lo hi w t key v) := by
  have HR := hid hr; have HOK := hid hok; have HLO := hid hlo; have HHI := hid hhi; have HN := hid hn
  clear hr hok hlo hhi hn
  show Calls Try.prog _ #[.agg #[.pointer (some ⟨t.b, 0, none⟩), .pointer none], .string key, .string v] w _
  go_enter Try.func48, Try.ntmps48
  go_wp2_with ((with_reducible show wpList _ _ _ ({ dst := _, op := .box 103 _, type := _, pos := _, after := _, guard := _ } :: _) _ _); refine wpL_box rfl _ _ rfl _ rfl [.pointer (some ⟨t.b, 0, none⟩), .pointer none] rfl ?_; intro w1 HB1 F1 HS1; have c0 : w1.cell? ⟨w.heap.size, 0, none⟩ = some (.pointer (some ⟨t.b, 0, none⟩)) := HB1.out.cell 0)
  have HR1 : Hid (Rep w1 0 t) := hid (HR.out.no F1.out)
  refine (position_any w1 t.b _ _ (keys t.l) (cells t.l) key HR1.out.nd HOK.out.rises (by rw [keys_length]; have := HN.out; omega)).mono ?_
  rintro e w2 ⟨i, rfl, hpk, f2⟩
  have HP := hid (leaf_part hpk)
  have F2 : Hid (Fr No w w2) := hid (F1.out.trans' f2)
  have HR2 : Hid (Rep w2 0 t) := hid (HR1.out.no f2)
  have d0 : w2.cell? ⟨w.heap.size, 0, none⟩ = some (.pointer (some ⟨t.b, 0, none⟩)) := f2.cell c0 id
  have HS : Hid (Sorted (flat 0 t)) := hid (ok_sorted HOK.out)
  have HRG : Hid (∀ x ∈ flat 0 t, lt x.1 lo = false ∧ Below hi x.1) := hid (fun x hx => by
    rw [flat_zero] at hx
    exact ⟨HOK.out.2 x hx, chain_below HOK.out.1 x hx⟩)
  clear hpk f2 c0
  by_cases hh : hit (keys t.l) key i = true
  · rw [hh]
    have hx : (keys t.l)[i]? = some key := by simpa [hit] using hh
    obtain ⟨x, hx⟩ : ∃ x, t.l[i]? = some (key, x) := by
      unfold keys at hx
      rw [List.getElem?_map] at hx
      cases he : t.l[i]? with
      | none => rw [he] at hx; cases hx
      | some y =>
        rw [he] at hx
        have : y.1 = key := by simpa using hx
        exact ⟨y.2, by rw [← this]⟩
    have HX := hid hx
    obtain ⟨hil, -⟩ := List.getElem?_eq_some_iff.1 hx
    have hrc := HR2.out.nd.rc
    rw [keys_length] at hrc
    obtain ⟨gc, cc, cur, hcv, hB, hc1, hc2, hc3, hc4⟩ := own_open hrc (by omega)
    have d1 : w2.cell? ⟨t.b, 1, none⟩ = some (.slice (some ⟨gc, 0, none⟩) t.l.length cc) := by rw [← hcv]; exact HR2.out.nd.blk.cell 1
    have HBc := hid hB; have HC1 := hid hc1; have HC2 := hid hc2; have HC3 : Hid (cur.length = cc * 1) := hid hc3; have HC4 : Hid (cur.take (t.l.length * 1) = cells t.l) := hid hc4
    have HCV := hid hcv
    have hgo : own t gc := .inr (.inr (by rw [hcv]; rfl))
    have HGO := hid hgo
    have HHH := hid hh
    have hil' : (i : Int) < (t.l.length : Int) := by omega
    have HIL := hid hil
    have hib : i + 1 ≤ cur.length := by have : cur.length = cc * 1 := hc3; omega
    have HIB := hid hib
    clear hrc hcv hB hc1 hc2 hc3 hc4 hgo hx hh hib
    go_wp2_with ((with_reducible show wpList _ _ _ ({ dst := _, op := .store 9 _ _, type := _, pos := _, after := _, guard := _ } :: _) _ _); refine wpL_storeV rfl _ _ _ rfl gc i (.string v) [.string v] rfl rfl rfl _ _ HBc.out (by simpa using HIB.out) (by kernel_rfl) (by intro u hu; simp at hu; subst hu; rfl) ?_; intro w3 HB3 F3 HS3)
    go_ret
    have hset : spl cur i [.string v] = cur.set i (.string v) := spl_set _ _ _ (by have := HIB.out; omega)
    have hb3 : Blk w3 gc 9 (cur.set i (.string v)) := by rw [← hset]; exact HB3.out
    have hsl := set_leaf (v := v) HX.out
    have htk : (cur.set i (Value.string v)).take (t.l.length * 1) = cells (t.l.set i (key, upS v)) := by
      rw [hsl.2, ← HC4.out, List.take_set]
    have hrc3 : w3.ownsRow 0 (elT 0) (elk 0) t.c t.l.length (cells (t.l.set i (key, upS v))) := by
      rw [HCV.out]
      exact own_mk (k := 1) hb3 HC1.out HC2.out (by rw [List.length_set]; exact HC3.out) htk
    have hn2 := HR2.out.nd
    have hne : t.b ≠ gc := fun e => hn2.n2 (by rw [HCV.out, e]; rfl)
    have hne2 : ∀ g, t.k.ownBlock = some g → g ≠ gc := fun g hg e => hn2.n3 g hg (by rw [HCV.out, e]; rfl)
    have hrep : Rep w3 0 ⟨t.b, t.k, t.c, t.l.set i (key, upS v)⟩ := by
      refine ⟨⟨hn2.blk.fr F3.out (fun e => hne e), ?_, ?_, ?_, hn2.n1, hn2.n2, hn2.n3⟩, leaf_kids _ _ _⟩
      · show w3.ownsRow 0 _ 1 t.k (keys (t.l.set i (key, upS v))).length (sv (keys (t.l.set i (key, upS v))))
        rw [hsl.1]
        exact own_fr hn2.rk F3.out (fun g hg e => hne2 g hg e)
      · show w3.ownsRow 0 _ _ t.c (keys (t.l.set i (key, upS v))).length (cells (t.l.set i (key, upS v)))
        rw [hsl.1, keys_length]
        exact hrc3
      · intro u hu
        have hu' : u ∈ cells (t.l.set i (key, upS v)) := hu
        rw [leaf_cells] at hu'
        obtain ⟨q, -, rfl⟩ := List.mem_map.1 hu'
        rfl
    have hpt := HP.out.hit (k := key) HX.out rfl v
    have hfl : flat 0 (⟨t.b, t.k, t.c, t.l.set i (key, upS v)⟩ : PT 0) = put key v (flat 0 t) := by
      rw [flat_zero, flat_zero]; exact hpt.1.symm
    refine ⟨⟨t.b, t.k, t.c, t.l.set i (key, upS v)⟩, ?_, (leaf_turned (t := t) hrep (F3.out.mono fun g e => by rw [e]; exact HGO.out) (fun g hg => .inl hg) rfl).pre F2.out, leaf_ok (l := put key v (flat 0 t)) (put_sorted key v HS.out) (fun x hx => ?_) (by rw [← hfl, flat_zero]), leaf_good _, hfl, by simp, by simp⟩
    · have : has key (flat 0 t) = true := by
        unfold has
        rw [flat_zero]
        have h3 := hpt.2.2
        exact h3 ▸ rfl
      rw [this]; rfl
    · rcases put_keys key v _ x hx with e | ⟨y, hy, e⟩
      · rw [e]; exact ⟨HLO.out, HHI.out⟩
      · rw [← e]; exact HRG.out y hy
  · have hh' : hit (keys t.l) key i = false := by simpa using hh
    rw [hh']
    have hms : ∀ x, t.l[i]? = some x → x.1 ≠ key := fun x hx e => by
      have := keys_get (d := 0) hx
      rw [e] at this
      simp [hit, this] at hh
    have HMS := hid hms
    have HIN := hid HP.out.le
    clear hh hh' hms
    go_wp2_with fail
    refine (insert_nd_s w2 t.b i t.k t.c (keys t.l) (cells t.l) [.string v] key (.string v) rfl rfl (by intro u hu; simp at hu; subst hu; rfl) ⟨v, rfl⟩ HR2.out.nd (by rw [keys_length]; exact HIN.out) (by rw [keys_length]; have := HN.out; omega)).mono ?_
    rintro e w3 ⟨rfl, hp⟩
    have hil := ins_leaf (key := key) (v := v) HIN.out
    rw [hil.1, hil.2] at hp
    obtain ⟨t', e1, e2, r1, f3, g3⟩ := rep_node hp (leaf_kids _ _ _)
    have E1 := hid e1; have TN := hid ((leaf_turned r1 f3 g3 e2).pre F2.out)
    clear hil hp e1 e2 r1 f3 g3
    go_wp2
    go_ret
    have hpt := HP.out.put_miss (by have := HS.out; rwa [flat_zero] at this) HMS.out v
    have hfl : flat 0 t' = put key v (flat 0 t) := by
      rw [flat_zero, flat_zero, E1.out]; exact hpt.1.symm
    refine ⟨t', ?_, TN.out, leaf_ok (l := put key v (flat 0 t)) (put_sorted key v HS.out) (fun x hx => ?_) (by rw [← hfl, flat_zero]), leaf_good _, hfl, ?_, ?_⟩
    · have : has key (flat 0 t) = false := by rw [flat_zero]; exact hpt.2
      rw [this]; rfl
    · rcases put_keys key v _ x hx with e | ⟨y, hy, e⟩
      · rw [e]; exact ⟨HLO.out, HHI.out⟩
      · rw [← e]; exact HRG.out y hy
    · rw [E1.out]; have := HIN.out; simp; omega
    · rw [E1.out]; have := HIN.out; simp; omega
end Go.Proofs.Ytlnolnaapnijbaa.TR
