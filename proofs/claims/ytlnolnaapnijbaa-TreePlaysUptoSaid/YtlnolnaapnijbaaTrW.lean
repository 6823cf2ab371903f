/-
  Parts: fit, where the kid is wide enough.
-/
import Derived.Test.YtlnolnaapnijbaaTrV
namespace Go.Proofs.Ytlnolnaapnijbaa.TR
set_option maxRecDepth 100000
open Go.RowKit K

/-- The contents' slice of an inner node. -/
theorem node_open {w : World} {d : Nat} {t : PT (d + 1)} (h : Rep w (d + 1) t) (hp : 0 < t.l.length) : ∃ gc cc, t.c = .slice (some ⟨gc, 0, none⟩) t.l.length cc ∧ w.cell? ⟨t.b, 1, none⟩ = some (.slice (some ⟨gc, 0, none⟩) t.l.length cc) ∧ t.l.length ≤ cc ∧ cc ≤ maxLen ∧ own t gc ∧
    ∀ A k x B, t.l = A ++ (k, up x) :: B → w.rangeAt gc (A.length * 2) (ptr d x) := by
  have hn := h.nd
  have hrc := hn.rc
  rw [keys_length] at hrc
  obtain ⟨gc, cc, cur, hv, hB, h1, h2, h3, h4⟩ := own_open hrc hp
  refine ⟨gc, cc, hv, by rw [← hv]; exact hn.blk.cell 1, h1, h2, .inr (.inr (by rw [hv]; rfl)), fun A k x B e => ?_⟩
  have e2 : cells t.l = cells A ++ (ptr d x ++ cells B) := by rw [e, cells_append, cells_cons]; rfl
  have hl : (cells A).length = A.length * 2 := by
    have : ∀ A : List (S × Kid (d + 1)), (cells A).length = A.length * 2 := by
      intro A
      induction A with
      | nil => rfl
      | cons y r ih => rw [cells_cons, List.length_append, ih, show (cellK (d + 1) y.2).length = 2 from cellK_length (d + 1) y.2, List.length_cons]; omega
    exact this A
  refine hB.range _ _ ?_
  have h5 : ((cells t.l).drop (A.length * 2)).take 2 = ptr d x := by
    rw [e2, ← hl, List.drop_left, show (2 : Nat) = (ptr d x).length from (ptr_length d x).symm, List.take_left]
  rw [← h4] at h5
  rw [ptr_length]
  rw [← h5, List.drop_take, List.take_take]
  congr 1
  have : A.length < t.l.length := by rw [e]; simp
  have he : elk (d + 1) = 2 := rfl
  rw [he]; omega
/-- What fit leaves. -/
def Fitted (d : Nat) (lo : S) (hi : Option S) (w : World) (t : PT (d + 1)) (s : Nat) (w' : World) : Prop :=
  ∃ t' : PT (d + 1), Turned (d + 1) w t w' t' ∧ Ok (d + 1) lo hi t' ∧ Good (d + 1) t' ∧ flat (d + 1) t' = flat (d + 1) t ∧ (s ≤ 8 → t'.l.length ≤ t.l.length) ∧ (4 ≤ s → t.l.length ≤ t'.l.length) ∧ t'.l.length ≤ t.l.length + 1 ∧ t.l.length ≤ t'.l.length + 1
theorem val_agg : ∀ (d : Nat) (u : PT d), ∃ p q : Value, val d u = .agg #[p, q] ∧ p.oneCell' = true ∧ q.oneCell' = true
  | 0, u => ⟨_, _, rfl, rfl, rfl⟩
  | _ + 1, u => ⟨_, _, rfl, rfl, rfl⟩
theorem ins_keys {d : Nat} {A B : List (S × Kid (d + 1))} {k k' : S} {x x1 u : PT d} (hb : x1.b = x.b) {l : List (S × Kid (d + 1))} (hl : l = A ++ (k, up x) :: B) {j : Nat} (hj : A.length = j) :
    (keys l).take (j + 1) ++ k' :: (keys l).drop (j + 1) = keys (A ++ (k, up x1) :: (k', up u) :: B) ∧ (cells l).take ((j + 1) * 2) ++ ptr d u ++ (cells l).drop ((j + 1) * 2) = cells (A ++ (k, up x1) :: (k', up u) :: B) := by
  subst hj
  have el : l = (A ++ [(k, up x)]) ++ B := by rw [hl]; simp
  have e3 : l.take (A.length + 1) = A ++ [(k, up x)] := by
    rw [el, show A.length + 1 = (A ++ [(k, up x)]).length by simp, List.take_left]
  have e4 : l.drop (A.length + 1) = B := by
    rw [el, show A.length + 1 = (A ++ [(k, up x)]).length by simp, List.drop_left]
  have hle : A.length + 1 ≤ l.length := by rw [hl]; simp
  constructor
  · have h1 : (keys l).take (A.length + 1) = keys (l.take (A.length + 1)) := by simp [keys]
    have h2 : (keys l).drop (A.length + 1) = keys (l.drop (A.length + 1)) := by simp [keys]
    rw [h1, h2, e3, e4]
    simp [keys]
  · have h := cells_split l (A.length + 1) hle
    have he : elk (d + 1) = 2 := rfl
    rw [he] at h
    rw [h.1, h.2, e3, e4, cells_append, cells_append, cells_cons, cells_cons, cells_cons]
    have h5 : cellK (d + 1) (up x) = cellK (d + 1) (up x1) := (ptr_b hb).symm
    simp only [h5]
    have h6 : cells (d := d + 1) [] = [] := rfl
    rw [h6, List.append_nil]
    simp [cellK]
/-- A kid was cut and the new one put in: the whole. -/
theorem fit_cut {w w3 w4 w5 w6 : World} {d : Nat} {t : PT (d + 1)} {A B : List (S × Kid (d + 1))} {k k' : S} {x x1 u : PT d} {lo : S} {hi : Option S} {s q : Nat} {c : Kid d} {r : List (S × Kid d)} (hr3 : Rep w3 (d + 1) t) (F3 : Fr No w w3) (hl : t.l = A ++ (k, up x) :: B) (hok : Ok (d + 1) lo hi t)
    (hg : ∀ y ∈ A ++ B, szK (d + 1) y.2 ∧ goodK (d + 1) y.2) (hgx : Good d x) (hs : x.l.length = s) (hs9 : 8 < s) (hq : 4 ≤ q) (hqs : q < s) (hq8 : s - q ≤ 8 ∧ 4 ≤ s - q ∧ q ≤ 8)
    (hdk : x.l.drop q = (k', c) :: r) (l1 : x1.l = x.l.take q) (b1 : x1.b = x.b) (l2 : u.l = x.l.drop q) (r1 : Rep w4 d x1) (ru : Rep w4 d u) (f4 : Fr (own x) w3 w4)
    (g1 : ∀ g, fp d x1 g → fp d x g ∨ w3.heap.size ≤ g) (gu : ∀ g, fp d u g → fp d x g ∨ w3.heap.size ≤ g) (hdj : Dj (fp d x1) (fp d u)) (f5 : Fr No w4 w5)
    (hp : NdPost w5 (ndT (d + 1)) (elT (d + 1)) (elk (d + 1)) t.b t.k t.c (keys (A ++ (k, up x1) :: (k', up u) :: B)) (cells (A ++ (k, up x1) :: (k', up u) :: B)) w6) : Fitted d lo hi w t s w6 := by
  have hk5 := (kids_cut (k' := k') hr3 hl r1 ru f4 g1 gu hdj).fr f5 (fun _ _ _ _ e => e)
  obtain ⟨t', e1, e2, h1, h2, h3⟩ := rep_node hp hk5
  have hmx : (k, up x) ∈ t.l := by rw [hl]; simp
  have hch := hok.1
  rw [hl] at hch
  obtain ⟨hxk, hbk⟩ := chain_kid hch
  obtain ⟨o1, o2, o3, o4⟩ := ok_cut hxk (by omega : 0 < q) (by omega) l1 l2 hdk
  have s3 := F3.size; have s4 := f4.size; have s5 := f5.size
  have hx1l : x1.l.length = q := by rw [l1, List.length_take]; omega
  have hul : u.l.length = s - q := by rw [l2, List.length_drop]; omega
  refine ⟨t', ⟨h1, ?_, fun g hg' => ?_, e2⟩, ⟨?_, ?_⟩, fun y hy => ?_, ?_, fun h => by omega, fun _ => ?_, ?_, ?_⟩
  · exact (F3.no.trans' (f4.mono fun g hg => .inr ⟨(k, up x), hmx, own_fp hg⟩)).trans' (f5.no.trans' (h2.mono fun g hg => .inl hg))
  · rcases hg' with hg' | ⟨y, hy, hg'⟩
    · exact (h3 g hg').imp .inl (fun e => by omega)
    · rw [e1] at hy
      have hold : ∀ y ∈ A ++ B, fpK (d + 1) y.2 g → fp (d + 1) t g := fun y hy e => .inr ⟨y, by rw [hl]; rcases List.mem_append.1 hy with h | h <;> simp [h], e⟩
      rcases List.mem_append.1 hy with hy | hy
      · exact .inl (hold y (by simp [hy]) hg')
      · rcases List.mem_cons.1 hy with rfl | hy
        · exact (g1 g hg').imp (fun e => .inr ⟨(k, up x), hmx, e⟩) (fun e => by omega)
        · rcases List.mem_cons.1 hy with rfl | hy
          · exact (gu g hg').imp (fun e => .inr ⟨(k, up x), hmx, e⟩) (fun e => by omega)
          · exact .inl (hold y (by simp [hy]) hg')
  · rw [e1]
    rw [chain_append] at hch ⊢
    refine ⟨?_, o1, o3, o2, o4, hch.2.2.2⟩
    exact hch.1
  · rw [e1]
    have hf := hok.2
    rw [hl] at hf
    cases A with
    | nil =>
      obtain ⟨c0, r0, e⟩ := hf
      have : k = lo := by injection e with e1 e2; injection e1
      subst this
      exact ⟨up x1, _, rfl⟩
    | cons a A => exact first_prefix hf (by simp)
  · rw [e1] at hy
    rcases List.mem_append.1 hy with hy | hy
    · exact hg y (by simp [hy])
    · rcases List.mem_cons.1 hy with rfl | hy
      · exact ⟨⟨by show 4 ≤ x1.l.length; omega, by show x1.l.length ≤ 8; omega⟩, fun z hz => hgx z (List.mem_of_mem_take (by rw [← l1]; exact hz))⟩
      · rcases List.mem_cons.1 hy with rfl | hy
        · exact ⟨⟨by show 4 ≤ u.l.length; omega, by show u.l.length ≤ 8; omega⟩, fun z hz => hgx z (List.mem_of_mem_drop (by rw [← l2]; exact hz))⟩
        · exact hg y (by simp [hy])
  · rw [flat_of e1, flat_of hl, flats_append, flats_append, flats_cons, flats_cons, flats_cons]
    have h6 : flatK (d + 1) k (up x) = flatK (d + 1) k (up x1) ++ flatK (d + 1) k' (up u) := by
      show flats d x.l = flats d x1.l ++ flats d u.l
      rw [l1, l2, ← flats_append, List.take_append_drop]
    simp only [h6, List.append_assoc]
  · rw [e1, hl]; simp
  · rw [e1, hl]; simp; omega
  · rw [e1, hl]; simp; omega
set_option maxHeartbeats 4000000 in
theorem fit_wide (d : Nat) (w : World) (t : PT (d + 1)) (A B : List (S × Kid (d + 1))) (k : S) (x : PT d) (lo : S) (hi : Option S) (hr : Rep w (d + 1) t) (hl : t.l = A ++ (k, up x) :: B) (hok : Ok (d + 1) lo hi t)
    (hg : ∀ y ∈ A ++ B, szK (d + 1) y.2 ∧ goodK (d + 1) y.2) (hgx : Good d x) (h4 : 4 ≤ x.l.length) (h9 : x.l.length ≤ 11) (hn : t.l.length ≤ 8796093022000) :
    Calls Try.prog 79 #[val (d + 1) t, .int .i64 A.length] w fun e w' => e = .returned (.tuple #[]) ∧ Fitted d lo hi w t x.l.length w' := by
  have HR := hid hr; have HL := hid hl; have HOK := hid hok; have HG := hid hg; have HGX := hid hgx; have HN := hid hn
  have hAl : A.length < t.l.length := by rw [hl]; simp
  obtain ⟨gc, cc, hcv, hc1, hcc1, hcc2, hog, hrange⟩ := node_open hr (by omega)
  have HRG := hid (hrange A k x B hl)
  have HAL := hid hAl
  unfold maxLen at hcc2
  have hAi : (A.length : Int) < (t.l.length : Int) := by omega
  have hlt := hr.lt t.b (own_fp (.inl rfl))
  have hltg := hr.lt gc (own_fp hog)
  have HLT := hid hlt; have HLG := hid hltg
  clear hr hl hok hg hgx hn hrange hcv hog hAl hlt hltg
  have hlt4 : ¬ ((x.l.length : Int) < 4) := by omega
  have hlt4' : ¬ (x.l.length < 4) := by omega
  generalize hm : t.l.length = m at *
  have HM := hid hm
  clear hm
  show Calls Try.prog _ #[.agg #[.pointer none, .pointer (some ⟨t.b, 0, none⟩)], .int .i64 A.length] w _
  generalize hja : A.length = j at *
  have HJ := hid hja
  clear hja
  go_enter Try.func79, Try.ntmps79
  go_wp2_with (first
    | ((with_reducible show wpList _ _ _ ({ dst := _, op := .box 103 _, type := _, pos := _, after := _, guard := _ } :: _) _ _); refine wpL_box rfl _ _ rfl _ rfl [.pointer none, .pointer (some ⟨t.b, 0, none⟩)] rfl ?_; intro w1 HB1 F1 HS1; have c0 : w1.cell? ⟨w.heap.size, 1, none⟩ = some (.pointer (some ⟨t.b, 0, none⟩)) := HB1.out.cell 1; have c1 : w1.cell? ⟨t.b, 1, none⟩ = some (.slice (some ⟨gc, 0, none⟩) m cc) := F1.out.cell hc1 id)
    | ((with_reducible show wpList _ _ _ ({ dst := _, op := .load 103 _, type := _, pos := _, after := _, guard := _ } :: _) _ _); refine wpL_load rfl _ _ rfl gc (j * 2) rfl (ptr d x) _ (F1.out.range HRG.out id) rfl rfl (by rw [ptr_length]; exact info_p) ?_))
  have HRX1 : Hid (Rep w1 d x) := hid ((repK_succ.1 (HR.out.kids.rep (k, up x) (by rw [HL.out]; simp))).no F1.out)
  refine (psize_any d w1 x HRX1.out).mono ?_
  rintro e w2 ⟨rfl, f2⟩
  have F2 : Hid (Fr No w w2) := hid (F1.out.trans' f2)
  have d0 : w2.cell? ⟨w.heap.size, 1, none⟩ = some (.pointer (some ⟨t.b, 0, none⟩)) := f2.cell c0 id
  have HBX2 : Hid (Blk w2 w.heap.size 103 [.pointer none, .pointer (some ⟨t.b, 0, none⟩)]) := hid (HB1.out.fr f2 id)
  have d1 : w2.cell? ⟨t.b, 1, none⟩ = some (.slice (some ⟨gc, 0, none⟩) m cc) := f2.cell c1 id
  have HRX2 : Hid (Rep w2 d x) := hid (HRX1.out.no f2)
  clear f2 c0 c1
  generalize hs : x.l.length = s at *
  have HS := hid hs
  clear hs
  go_wp2_with ((with_reducible show wpList _ _ _ ({ dst := _, op := .load 103 _, type := _, pos := _, after := _, guard := _ } :: _) _ _); refine wpL_load rfl _ _ rfl gc (j * 2) rfl (ptr d x) _ (F2.out.range HRG.out id) rfl rfl (by rw [ptr_length]; exact info_p) ?_)
  refine (psize_any d w2 x HRX2.out).mono ?_
  rw [HS.out]
  rintro e w3 ⟨rfl, f3⟩
  have F3 : Hid (Fr No w w3) := hid (F2.out.trans' f3)
  have e0 : w3.cell? ⟨w.heap.size, 1, none⟩ = some (.pointer (some ⟨t.b, 0, none⟩)) := f3.cell d0 id
  have e1 : w3.cell? ⟨t.b, 1, none⟩ = some (.slice (some ⟨gc, 0, none⟩) m cc) := f3.cell d1 id
  have HBX3 : Hid (Blk w3 w.heap.size 103 [.pointer none, .pointer (some ⟨t.b, 0, none⟩)]) := hid (HBX2.out.fr f3 id)
  have HRX3 : Hid (Rep w3 d x) := hid (HRX2.out.no f3)
  have HR3 : Hid (Rep w3 (d + 1) t) := hid (HR.out.no F3.out)
  clear f3 d0 d1 HRX1 HRX2 HBX2 F1 F2 HB1
  by_cases h8 : s ≤ 8
  · have h8' : ¬ (8 < (s : Int)) := by omega
    have h8n : ¬ (8 < s) := by omega
    go_wp2
    refine bodyPost_end (v := .tuple #[]) (by simp [results, Try.results79]) rfl ⟨rfl, ?_⟩
    refine ⟨t, Turned.refl HR.out F3.out, HOK.out, fun y hy => ?_, rfl, fun _ => Nat.le_refl _, fun _ => Nat.le_refl _, by omega, by omega⟩
    rw [HL.out] at hy
    rcases List.mem_append.1 hy with hy | hy
    · exact HG.out y (by simp [hy])
    · rcases List.mem_cons.1 hy with rfl | hy
      · exact ⟨⟨by rw [show (Nd.l (α := Kid d) (up x)).length = s from HS.out]; omega, by rw [show (Nd.l (α := Kid d) (up x)).length = s from HS.out]; omega⟩, HGX.out⟩
      · exact HG.out y (by simp [hy])
  · have h8' : 8 < (s : Int) := by omega
    have h8n : 8 < s := by omega
    have hdv : (s : Int) / 2 = ((s / 2 : Nat) : Int) := by omega
    have HDV := hid hdv
    clear hdv h8
    go_wp2_with ((with_reducible show wpList _ _ _ ({ dst := _, op := .load 103 _, type := _, pos := _, after := _, guard := _ } :: _) _ _); refine wpL_load rfl _ _ rfl gc (j * 2) rfl (ptr d x) _ (F3.out.range HRG.out id) rfl rfl (by rw [ptr_length]; exact info_p) ?_)
    rw [HDV.out]
    generalize hq : s / 2 = q at *
    have hq4 : 4 ≤ q := by omega
    have hqs : q < s := by omega
    have hq8 : s - q ≤ 8 ∧ 4 ≤ s - q ∧ q ≤ 8 := by omega
    have HQ8 := hid hq8
    clear hq hq8
    refine (pcut_any d w3 x q HRX3.out (by rw [HS.out]; omega) (by rw [HS.out]; omega)).mono ?_
    rintro e w4 ⟨x1, u, k', cc', rr, rfl, hdk, l1, b1, l2, r1, ru, f4, g1, gu, hdj⟩
    have HDK := hid hdk; have L1 := hid l1; have B1 := hid b1; have L2 := hid l2; have R1 := hid r1; have RU := hid ru; have F4 := hid f4; have G1 := hid g1; have GU := hid gu; have HDJ := hid hdj
    clear hdk l1 b1 l2 r1 ru f4 g1 gu hdj
    obtain ⟨pu, qu, hvu, hpu, hqu⟩ := val_agg d u
    have HVU := hid hvu
    have hpl : ptr d u = [pu, qu] := by
      have : (val d u) = .agg (ptr d u).toArray := rfl
      rw [hvu] at this
      have h2 : #[pu, qu] = (ptr d u).toArray := by injection this
      have := congrArg Array.toList h2
      simpa using this.symm
    have HPL := hid hpl
    clear hvu hpl
    rw [HVU.out]
    have h0x : ∀ g, own t g → ¬ own x g := fun g h1 h2 => HR.out.kids.off (k, up x) (by rw [HL.out]; simp) g h1 (own_fp h2)
    have H0X := hid h0x
    clear h0x
    have hbx : ∀ g, own x g → g ≠ w.heap.size := fun g h1 e => by
      have := HR.out.lt g (.inr ⟨(k, up x), by rw [HL.out]; simp, own_fp h1⟩); omega
    have n0 : w4.cell? ⟨w.heap.size, 1, none⟩ = some (.pointer (some ⟨t.b, 0, none⟩)) := F4.out.cell e0 (fun e => hbx _ e rfl)
    clear hbx
    have HND4 : Hid (NdAt w4 (ndT (d + 1)) (elT (d + 1)) (elk (d + 1)) t.b t.k t.c (keys t.l) (cells t.l)) := hid (HR3.out.nd.fr F4.out H0X.out)
    have HWL : Hid (w.heap.size < w4.heap.size) := hid (by have := HBX3.out.lt; have := F4.out.size; omega)
    go_wp2_with (first
      | ((with_reducible show wpList _ _ _ ({ dst := _, op := .alloc 103, type := _, pos := _, after := _, guard := _ } :: _) _ _); refine wpL_alloc rfl _ rfl _ zero_pt [.pointer none, .pointer none] rfl ?_; intro w5 HB5 F5 HS5)
      | ((with_reducible show wpList _ _ _ ({ dst := _, op := .store 103 _ _, type := _, pos := _, after := _, guard := _ } :: _) _ _); refine wpL_storeV rfl _ _ _ rfl w4.heap.size 0 (.agg #[pu, qu]) [pu, qu] rfl rfl rfl _ _ HB5.out (by simp) info_p (by intro z hz; simp at hz; rcases hz with rfl | rfl <;> assumption) ?_; intro w6 HB6 F6 HS6; have n1 : w6.cell? ⟨w.heap.size, 1, none⟩ = some (.pointer (some ⟨t.b, 0, none⟩)) := F6.out.cell (F5.out.cell n0 id) (fun e => by have h1 : w.heap.size = w4.heap.size := e; have := HWL.out; omega))
      | ((with_reducible show wpList _ _ _ ({ dst := _, op := .load 103 _, type := _, pos := _, after := _, guard := _ } :: _) _ _); refine wpL_load rfl _ _ rfl w4.heap.size 0 rfl [pu, qu] _ (HB6.out.range 0 _ (by simp [spl])) rfl rfl info_p ?_))
    have HF6 : Hid (Fr No w4 w6) := hid (F5.out.trans (D' := fun k => k = w4.heap.size) F6.out (fun k e => .inr (by rw [e]; exact Nat.le_refl _)))
    have HND6 : Hid (NdAt w6 (ndT (d + 1)) (elT (d + 1)) (elk (d + 1)) t.b t.k t.c (keys t.l) (cells t.l)) := hid (HND4.out.fr HF6.out (fun _ _ e => e))
    have hins := insert_nd_p w6 t.b (j + 1) t.k t.c (keys t.l) (cells t.l) [pu, qu] k' (.agg #[pu, qu]) rfl rfl (by intro z hz; simp at hz; rcases hz with rfl | rfl <;> assumption) ⟨pu, qu, rfl, hpu, hqu⟩ HND6.out (by rw [keys_length, HM.out]; have := HAL.out; omega) (by rw [keys_length, HM.out]; have := HN.out; omega)
    rw [show (((j + 1 : Nat) : Int)) = (j : Int) + 1 from by omega] at hins
    have HINS := hid hins
    clear hins
    refine HINS.out.mono ?_
    rintro e w7 ⟨rfl, hp⟩
    have HP := hid hp
    clear hp
    go_wp2
    refine bodyPost_end (v := .tuple #[]) (by simp [results, Try.results79]) rfl ⟨rfl, ?_⟩
    have hik := ins_keys (k' := k') (u := u) B1.out HL.out HJ.out
    have hp2 := HP.out
    rw [← HPL.out, hik.1, hik.2] at hp2
    rw [HS.out]
    exact fit_cut HR3.out F3.out HL.out HOK.out HG.out HGX.out HS.out h8n hq4 hqs HQ8.out HDK.out L1.out B1.out L2.out R1.out RU.out F4.out G1.out GU.out HDJ.out HF6.out hp2
end Go.Proofs.Ytlnolnaapnijbaa.TR
