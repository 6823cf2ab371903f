/-
  Parts: clone, at any depth.
-/
import Derived.Test.YtlnolnaapnijbaaTrK
namespace Go.Proofs.Ytlnolnaapnijbaa.TR
set_option maxRecDepth 100000
open Go.RowKit K

/-- Behind some rounds: the new kids N, the old ones R. -/
structure Cl (d : Nat) (w : World) (t : PT (d + 1)) (b gc cc : Nat) (kv : Value) (wr : World) (N R : List (S × Kid (d + 1))) : Prop where
  nd : NdAt wr (ndT (d + 1)) (elT (d + 1)) (elk (d + 1)) b kv (.slice (some ⟨gc, 0, none⟩) t.l.length cc) (keys t.l) (cells (N ++ R))
  new : Kids wr (d + 1) (Own b kv (.slice (some ⟨gc, 0, none⟩) t.l.length cc)) N
  old : t.l = t.l.take N.length ++ R
  same : sks (d + 1) N = sks (d + 1) (t.l.take N.length)
  fresh : ∀ x ∈ N, ∀ g, fpK (d + 1) x.2 g → w.heap.size ≤ g
  fr : Fr No w wr
  own : ∀ g, Own b kv (.slice (some ⟨gc, 0, none⟩) t.l.length cc) g → w.heap.size ≤ g
theorem Cl.len {d : Nat} {w : World} {t : PT (d + 1)} {b gc cc : Nat} {kv : Value} {wr : World} {N R : List (S × Kid (d + 1))} (h : Cl d w t b gc cc kv wr N R) : N.length + R.length = t.l.length := by
  have h1 := sks_length h.same
  have h2 := congrArg List.length h.old
  simp only [List.length_append] at h2
  omega
theorem kids_nil (w : World) (d : Nat) (D : Nat → Prop) : Kids w d D [] := ⟨fun _ h => (by cases h), List.Pairwise.nil, fun _ h => (by cases h)⟩
theorem Cl.begin {d : Nat} {w : World} {t : PT (d + 1)} {b gc cc : Nat} {kv : Value} {wr : World} (h : NdAt wr (ndT (d + 1)) (elT (d + 1)) (elk (d + 1)) b kv (.slice (some ⟨gc, 0, none⟩) t.l.length cc) (keys t.l) (cells t.l)) (hf : Fr No w wr) (ho : ∀ g, Own b kv (.slice (some ⟨gc, 0, none⟩) t.l.length cc) g → w.heap.size ≤ g) : Cl d w t b gc cc kv wr [] t.l :=
  ⟨h, kids_nil _ _ _, rfl, rfl, fun _ h => (by cases h), hf, ho⟩
theorem Cl.row {d : Nat} {w : World} {t : PT (d + 1)} {b gc cc : Nat} {kv : Value} {wr : World} {N R : List (S × Kid (d + 1))} (h : Cl d w t b gc cc kv wr N R) (hp : 1 ≤ t.l.length) : ∃ cur : List Value, Blk wr gc 103 cur ∧ cur.length = cc * 2 ∧ cur.take (t.l.length * 2) = cells (N ++ R) := by
  have hrc := h.nd.rc
  rw [keys_length] at hrc
  obtain ⟨g, c, cur, hv, hB, -, -, h3, h4⟩ := own_open hrc hp
  cases hv
  exact ⟨cur, hB, h3, h4⟩
/-- A round more. -/
theorem Cl.step {d : Nat} {w : World} {t : PT (d + 1)} {b gc cc : Nat} {kv : Value} {wr w2 w3 : World} {N R : List (S × Kid (d + 1))} {k : S} {x u : PT d} (h : Cl d w t b gc cc kv wr N ((k, up x) :: R)) (hr : Rep w2 d u) (hs : sks d u.l = sks d x.l) (h2 : Fr No wr w2) (hf : ∀ g, fp d u g → wr.heap.size ≤ g) (h3 : Fr (fun g => g = gc) w2 w3)
    (hc : w3.ownsRow 0 (elT (d + 1)) (elk (d + 1)) (.slice (some ⟨gc, 0, none⟩) t.l.length cc) t.l.length (cells ((N ++ [(k, up u)]) ++ R))) : Cl d w t b gc cc kv w3 (N ++ [(k, up u)]) R := by
  have hlt := h.nd.lt
  have hgo : Own b kv (.slice (some ⟨gc, 0, none⟩) t.l.length cc) gc := .inr (.inr rfl)
  have hun : Dj (Own b kv (.slice (some ⟨gc, 0, none⟩) t.l.length cc)) (fp d u) := fun g h1 h2 => by have := hlt g h1; have := hf g h2; omega
  have e1 : ∀ (y : S × Kid (d + 1)), y ∈ N → Dj (fpK (d + 1) y.2) (fun g => g = gc) := fun y hy g hg e => h.new.off y hy gc hgo (by rw [← e]; exact hg)
  have hru : Rep w3 d u := hr.fr h3 (fun g hg e => hun gc hgo (by rw [← e]; exact hg))
  have hl := sks_length h.same
  have hlen := h.len
  have hold := h.old
  have e2 : t.l.take (N ++ [(k, up u)]).length = t.l.take N.length ++ [(k, up x)] := by
    have hn : (t.l.take N.length).length = N.length := hl.symm
    have h5 : t.l = (t.l.take N.length ++ [(k, up x)]) ++ R := by rw [List.append_assoc]; exact hold
    have h6 : (t.l.take N.length ++ [(k, up x)]).length = (N ++ [(k, up u)]).length := by simp [hn]
    conv => lhs; rw [h5, ← h6, List.take_left]
  refine ⟨⟨(h.nd.blk.fr h2 id).fr h3 (fun e => ?_), ?_, ?_, ?_, h.nd.n1, h.nd.n2, h.nd.n3⟩, ⟨fun y hy => ?_, ?_, fun y hy => ?_⟩, ?_, ?_, fun y hy g hg => ?_, ?_, h.own⟩
  · exact h.nd.n2 (by have e' : b = gc := e; rw [e']; rfl)
  · exact own_fr (own_fr h.nd.rk h2 (fun _ _ e => e)) h3 (fun g hg e => h.nd.n3 g hg (by have e' : g = gc := e; rw [e']; rfl))
  · rw [keys_length]; exact hc
  · intro v hv
    have hv' : v ∈ cells ((N ++ [(k, up u)]) ++ R) := hv
    obtain ⟨y, -, hy⟩ := List.mem_flatMap.1 hv'
    exact cellK_one _ _ v hy
  · rcases List.mem_append.1 hy with hy | hy
    · exact repK_fr (d + 1) y.2 (repK_fr (d + 1) y.2 (h.new.rep y hy) h2 (fun _ _ e => e)) h3 (e1 y hy)
    · rw [List.mem_singleton.1 hy]; exact repK_succ.2 hru
  · rw [List.pairwise_append]
    refine ⟨h.new.apart, List.pairwise_singleton _ _, fun a ha c hc => ?_⟩
    rw [List.mem_singleton.1 hc]
    intro g hg hg'
    have := repK_lt (d + 1) wr a.2 (h.new.rep a ha) g hg
    have := hf g hg'
    omega
  · rcases List.mem_append.1 hy with hy | hy
    · exact h.new.off y hy
    · rw [List.mem_singleton.1 hy]; exact hun
  · rw [e2]; simpa using hold
  · rw [e2]
    have : sk (d + 1) (up u) = sk (d + 1) (up x) := hs
    simp only [sks, List.map_append, List.map_cons, List.map_nil, this]
    have h7 := h.same
    simp only [sks] at h7
    rw [h7]
  · rcases List.mem_append.1 hy with hy | hy
    · exact h.fresh y hy g hg
    · rw [List.mem_singleton.1 hy] at hg
      exact Nat.le_trans h.fr.size (hf g hg)
  · exact (h.fr.trans' h2).trans (D' := fun g => g = gc) h3 (fun g e => .inr (by rw [e]; exact h.own gc hgo))
/-- One content's cells are set. -/
theorem row_put {w' : World} {d : Nat} {gc cc n : Nat} {N R : List (S × Kid (d + 1))} {k : S} {x u : PT d} {cur : List Value} (hB : Blk w' gc 103 (spl cur (N.length * 2) (ptr d u))) (hn : n ≤ cc) (hcm : cc ≤ maxLen) (hcl : cur.length = cc * 2) (ht : cur.take (n * 2) = cells (N ++ (k, up x) :: R)) (hlen : N.length + (R.length + 1) = n) :
    w'.ownsRow 0 (elT (d + 1)) (elk (d + 1)) (.slice (some ⟨gc, 0, none⟩) n cc) n (cells ((N ++ [(k, up u)]) ++ R)) := by
  have hN : ∀ A : List (S × Kid (d + 1)), (cells A).length = A.length * 2 := by
    intro A
    induction A with
    | nil => rfl
    | cons y r ih => rw [cells_cons, List.length_append, ih, show (cellK (d + 1) y.2).length = 2 from cellK_length (d + 1) y.2, List.length_cons]; omega
  have hle : N.length * 2 + (ptr d u).length ≤ cur.length := by rw [ptr_length, hcl]; omega
  refine own_mk (k := 2) hB hn hcm (by rw [spl_length _ _ _ hle]; exact hcl) ?_
  have e1 : cur = cells N ++ (ptr d x ++ (cells R ++ cur.drop (n * 2))) := by
    have h1 := (List.take_append_drop (n * 2) cur).symm
    rw [ht, cells_append, cells_cons, List.append_assoc, List.append_assoc] at h1
    exact h1
  have e2 : spl cur (N.length * 2) (ptr d u) = (cells N ++ ptr d u ++ cells R) ++ cur.drop (n * 2) := by
    conv => lhs; rw [e1]
    unfold spl
    rw [← hN N, List.take_left, ptr_length, ← List.drop_drop, List.drop_left]
    have : (ptr d x ++ (cells R ++ cur.drop (n * 2))).drop 2 = cells R ++ cur.drop (n * 2) := by
      rw [← ptr_length d x, List.drop_left]
    rw [this]; simp [List.append_assoc]
  rw [e2, cells_append, cells_append, cells_cons]
  have e3 : cells (d := d + 1) [] = [] := rfl
  rw [e3, List.append_nil]
  have hl3 : (cells N ++ ptr d u ++ cells R).length = n * 2 := by simp [hN, ptr_length]; omega
  rw [← hl3, List.take_left]
  rfl
theorem ent_clone (vs : Array Value) (w : World) : (callFunc 47 vs).run Try.prog w = .ok (.enter 47 vs) w := by kernel_rfl
set_option maxHeartbeats 4000000 in
theorem clone_any : ∀ (d : Nat) (w : World) (t : PT d), Rep w d t → Fine d t → Calls Try.prog 47 #[val d t] w (Clones d w t) := by
  intro d
  induction d with
  | zero => exact clone_leaf
  | succ d ih =>
    intro w t hr hf
    have hpos : 1 ≤ t.l.length := hf.two.elim (fun e => by cases e) id
    have HIH := hid ih; have HR := hid hr; have HF := hid hf; have HP := hid hpos
    clear ih hr hf hpos
    have bi := build_inner
    show Calls Try.prog _ #[.agg #[.pointer none, .pointer (some ⟨t.b, 0, none⟩)]] w _
    go_enter Try.func47, Try.ntmps47
    go_wp2_with (first
      | ((with_reducible show wpList _ _ _ ({ dst := _, op := .box 103 _, type := _, pos := _, after := _, guard := _ } :: _) _ _); refine wpL_box rfl _ _ rfl _ rfl [.pointer none, .pointer (some ⟨t.b, 0, none⟩)] rfl ?_; intro w1 HB1 F1 HS1)
      | ((with_reducible show wpList _ _ _ ({ dst := _, op := .alloc 103, type := _, pos := _, after := _, guard := _ } :: _) _ _); refine wpL_alloc rfl _ rfl _ zero_pt [.pointer none, .pointer none] rfl ?_; intro w2 HB2 F2 HS2; have c0 : w2.cell? ⟨w.heap.size, 0, none⟩ = some (.pointer none) := (HB1.out.fr F2.out id).cell 0; have c1 : w2.cell? ⟨w.heap.size, 1, none⟩ = some (.pointer (some ⟨t.b, 0, none⟩)) := (HB1.out.fr F2.out id).cell 1))
    have HF2 : Hid (Fr No w w2) := hid (F1.out.trans' F2.out)
    refine (clone_nd_p w2 t.b _ _ (keys t.l) (cells t.l) (HR.out.no HF2.out).nd (by rw [keys_length]; have := HF.out.len; omega)).mono ?_
    rintro e w3 ⟨b', kv', cv', rfl, n', f3, g'⟩
    have hrc := n'.rc
    rw [keys_length] at hrc
    obtain ⟨gc, cc, cur0, rfl, -, hcc1, hcc2, -, -⟩ := own_open hrc (by have := HP.out; omega)
    have HCL0 : Hid (Cl d w2 t b' gc cc kv' w3 [] t.l) := hid (Cl.begin n' f3 g')
    have HB3 : Hid (Blk w3 w1.heap.size 103 [.pointer none, .pointer none]) := hid (HB2.out.fr f3 id)
    have d1 : w3.cell? ⟨b', 1, none⟩ = some (.slice (some ⟨gc, 0, none⟩) t.l.length cc) := n'.blk.cell 1
    have HSB : Hid (w1.heap.size < w2.heap.size) := hid HB2.out.lt
    have HC1 := hid hcc1; have HC2 := hid hcc2
    have hlm : t.l.length ≤ 8796093021000 := HF.out.len
    clear n' f3 g' hrc c0 c1 hcc2
    go_wp2_with fail
    go_loopw [21] (fun i wr => ∃ (N R : List (S × Kid (d + 1))), i = .int .i64 N.length ∧ Hid (Cl d w2 t b' gc cc kv' wr N R)) (fun i _ => t.l.length - (intOf i).toNat)
    case atStart => exact ⟨[], t.l, rfl, HCL0⟩
    case round =>
      obtain ⟨N, R, rfl, HC⟩ := hrel
      have hlen := HC.out.len
      cases R with
      | nil =>
        have hnl : ¬ ((N.length : Int) < (t.l.length : Int)) := by simp at hlen; omega
        have hB5 : Hid (Blk wr w1.heap.size 103 [.pointer none, .pointer none]) := hid (HB2.out.fr HC.out.fr id)
        clear hlen
        go_wp2_with ((with_reducible show wpList _ _ _ ({ dst := _, op := .store 103 _ _, type := _, pos := _, after := _, guard := _ } :: _) _ _); refine wpL_storeV rfl _ _ _ rfl w1.heap.size 0 (.agg #[.pointer none, .pointer (some ⟨b', 0, none⟩)]) [.pointer none, .pointer (some ⟨b', 0, none⟩)] rfl rfl rfl _ _ hB5.out (by simp) info_p (by intro u hu; simp at hu; rcases hu with rfl | rfl <;> rfl) ?_; intro w4 HB4 F4 HS4)
        refine ret_cell rfl _ (by rfl) (cs := [.pointer none, .pointer (some ⟨b', 0, none⟩)]) (by have := HB4.out; simpa [spl] using this) rfl rfl info_p rfl ?_
        have h0 := HC.out
        have hsb := HSB.out
        have hne : ∀ g, Own b' kv' (.slice (some ⟨gc, 0, none⟩) t.l.length cc) g → g ≠ w1.heap.size := fun g hg e => by have := h0.own g hg; omega
        have hn4 := h0.nd.fr F4.out (fun g hg e => hne g hg e)
        rw [List.append_nil] at hn4
        have hsm : sks (d + 1) N = sks (d + 1) t.l := by
          have h1 := h0.same
          have h2 := h0.old
          rw [List.append_nil] at h2
          rw [← h2] at h1
          exact h1
        rw [show keys t.l = keys N from (sks_keys hsm).symm] at hn4
        refine ⟨⟨b', kv', .slice (some ⟨gc, 0, none⟩) t.l.length cc, N⟩, rfl, ⟨hn4, h0.new.fr F4.out (fun x hx g hg e => by have := h0.fresh x hx g hg; have e' : g = w1.heap.size := e; omega)⟩, hsm, ?_, fun g hg => ?_⟩
        · exact (HF2.out.trans' h0.fr).trans (D' := fun k => k = w1.heap.size) F4.out (fun k e => .inr (by rw [e]; exact F1.out.size))
        · have hs2 := HF2.out.size
          rcases hg with hg | ⟨x, hx, hg⟩
          · have := h0.own g hg; omega
          · have := h0.fresh x hx g hg; omega
      | cons y R =>
        obtain ⟨k, (x : PT d)⟩ := y
        have HC' : Hid (Cl d w2 t b' gc cc kv' wr N ((k, up x) :: R)) := HC
        have hlt : (N.length : Int) < (t.l.length : Int) := by simp at hlen; omega
        have HLEN : Hid (N.length + (R.length + 1) = t.l.length) := hid (by simpa using hlen)
        obtain ⟨cur, hB, hcl, htk⟩ := HC'.out.row HP.out
        have hmx : (k, up x) ∈ t.l := by rw [HC'.out.old]; simp
        have HRX : Hid (Rep wr d x) := hid ((repK_succ.1 (HR.out.kids.rep _ hmx)).no (HF2.out.trans' HC'.out.fr))
        have HFX : Hid (Fine d x) := hid (HF.out.kid HC'.out.old)
        have HRG : Hid (wr.rangeAt gc (N.length * 2) (ptr d x)) := hid (hB.range _ _ (by
          have hN : ∀ A : List (S × Kid (d + 1)), (cells A).length = A.length * 2 := by
            intro A
            induction A with
            | nil => rfl
            | cons y r ih => rw [cells_cons, List.length_append, ih, show (cellK (d + 1) y.2).length = 2 from cellK_length (d + 1) y.2, List.length_cons]; omega
          have h1 := List.take_append_drop (t.l.length * 2) cur
          rw [htk, cells_append, cells_cons, List.append_assoc, List.append_assoc] at h1
          rw [← h1, ← hN N, List.drop_left]
          exact List.take_left))
        have HB := hid hB; have HCL := hid hcl; have HTK := hid htk
        have d2 : wr.cell? ⟨b', 1, none⟩ = some (.slice (some ⟨gc, 0, none⟩) t.l.length cc) := HC'.out.nd.blk.cell 1
        clear hlen HC hB hcl htk hmx
        go_wp2_with (first
          | ((with_reducible show wpList _ _ _ ({ dst := _, op := .load 103 _, type := _, pos := _, after := _, guard := _ } :: _) _ _); refine wpL_load rfl _ _ rfl gc (N.length * 2) rfl (ptr d x) _ HRG.out rfl rfl (by rw [ptr_length]; exact info_p) ?_)
          | ((with_reducible show wpList _ _ _ ({ dst := _, op := .alloc 103, type := _, pos := _, after := _, guard := _ } :: _) _ _); refine wpL_alloc rfl _ rfl _ zero_pt [.pointer none, .pointer none] rfl ?_; intro w5 HB5 F5 HS5)
          | ((with_reducible show wpList _ _ _ ({ dst := _, op := .store 103 _ _, type := _, pos := _, after := _, guard := _ } :: _) _ _); refine wpL_storeV rfl _ _ _ rfl wr.heap.size 0 (.agg (ptr d x).toArray) (ptr d x) rfl rfl rfl _ _ HB5.out (by rw [ptr_length]; simp) (by rw [ptr_length]; exact info_p) (ptr_one d x) ?_; intro w6 HB6 F6 HS6))
        simp only [Act.put, List.setIfInBounds_toArray, List.set_cons_zero, List.set_cons_succ]
        have F6w : Hid (Fr No wr w6) := hid (F5.out.trans (D' := fun k => k = wr.heap.size) F6.out (fun k e => .inr (by rw [e]; exact Nat.le_refl _)))
        have HB6' : Hid (Blk w6 wr.heap.size 103 (ptr d x)) := hid (by
          have := HB6.out
          rwa [show spl [.pointer none, .pointer none] 0 (ptr d x) = ptr d x from by unfold spl; rw [ptr_length]; simp] at this)
        have d6 : w6.cell? ⟨b', 1, none⟩ = some (.slice (some ⟨gc, 0, none⟩) t.l.length cc) := F6w.out.cell d2 id
        have hr6 : w6.rangeAt wr.heap.size 0 (ptr d x) := HB6'.out.range 0 _ (by rw [List.drop_zero]; exact List.take_length)
        have hold : Facts.hold [(3, fun w' => w'.cell? ⟨b', 1, none⟩ = some (.slice (some ⟨gc, 0, none⟩) t.l.length cc)), (5, fun w' => w'.rangeAt wr.heap.size 0 (ptr d x))] w6.drew := Facts.cons_hold d6 (Facts.cons_hold hr6 (Facts.nil_hold _))
        refine wpD_region hold (by kernel_rfl) 9 rfl ?_
        (refine wpD_plain 0 (v := ?_) rfl (by kernel_rfl) (by kernel_rfl) (by kernel_rfl) (fun _ _ _ h => h) (by rfl) ?_ (by assumption) ?_; rotate_left; (intro _w; go_simp; try with_reducible rfl); simp only [Act.put, List.setIfInBounds_toArray, List.set_cons_zero, List.set_cons_succ])
        (refine wpD_plain 1 (v := ?_) rfl (by kernel_rfl) (by kernel_rfl) (by kernel_rfl) (fun _ _ _ h => h) (by rfl) ?_ (by assumption) ?_; rotate_left; (intro _w; go_simp; try with_reducible rfl); simp only [Act.put, List.setIfInBounds_toArray, List.set_cons_zero, List.set_cons_succ])
        (refine wpD_plain 2 (v := ?_) rfl (by kernel_rfl) (by kernel_rfl) (by kernel_rfl) (fun _ _ _ h => h) (by rfl) ?_ (by assumption) ?_; rotate_left; (intro _w; go_simp; try with_reducible rfl); simp only [Act.put, List.setIfInBounds_toArray, List.set_cons_zero, List.set_cons_succ])
        (refine wpD_take 3 _ rfl (by kernel_rfl) (by kernel_rfl) (by kernel_rfl) (fun _ _ _ h => h) List.mem_cons_self (by rfl) (v := ?_) ?_ (by assumption) ?_; rotate_left; (intro _w _hw; go_simp; try with_reducible rfl); simp only [Act.put, List.setIfInBounds_toArray, List.set_cons_zero, List.set_cons_succ])
        (refine wpD_plain 4 (v := ?_) rfl (by kernel_rfl) (by kernel_rfl) (by kernel_rfl) (fun _ _ _ h => h) (by rfl) ?_ (by assumption) ?_; rotate_left; (intro _w; go_simp; try with_reducible rfl); simp only [Act.put, List.setIfInBounds_toArray, List.set_cons_zero, List.set_cons_succ])
        (refine wpD_take 5 _ rfl (by kernel_rfl) (by kernel_rfl) (by kernel_rfl) (fun _ _ _ h => h) (List.mem_cons_of_mem _ List.mem_cons_self) (by rfl) (exec_load _ _ rfl wr.heap.size 0 rfl _ _ rfl rfl (by rw [ptr_length]; exact info_p)) (by assumption) ?_; simp only [Act.put, List.setIfInBounds_toArray, List.set_cons_zero, List.set_cons_succ])
        clear hold
        refine wpD_only 6 [(3, fun w' => w'.cell? ⟨b', 1, none⟩ = some (.slice (some ⟨gc, 0, none⟩) t.l.length cc))] rfl (by kernel_rfl) (by kernel_rfl) (by rfl) (fun K6 hK6 => ?_)
        refine wp_call (.func 47) _ _ rfl 47 [] rfl ent_clone [val d x] (by rfl) ?_
        refine (HIH.out w6.drew x ((HRX.out.no F6w.out).no (Fr.refl No w6).drew) HFX.out).mono ?_
        rintro e w7 ⟨u, rfl, hru, hsm, f7, hfr⟩
        have F7 : Hid (Fr No wr w7) := hid (F6w.out.trans' ((Fr.refl No w6).drew.trans' f7))
        have HRU := hid hru; have HSM := hid hsm
        have HFU : Hid (∀ g, fp d u g → wr.heap.size ≤ g) := hid (fun g hg => Nat.le_trans F6w.out.size (hfr g hg))
        have hold : Facts.hold [(3, fun w' => w'.cell? ⟨b', 1, none⟩ = some (.slice (some ⟨gc, 0, none⟩) t.l.length cc))] w7 := Facts.cons_hold (F7.out.cell d2 id) (Facts.nil_hold _)
        refine ⟨_, rfl, hK6 _ _ hold ?_⟩
        clear hru hsm f7 hfr hK6 K6 hr6 d6
        simp only [Act.put, List.setIfInBounds_toArray, List.set_cons_zero, List.set_cons_succ]
        (refine wpD_plain 7 (v := (.pointer (some ⟨gc, N.length * 2, none⟩))) rfl (by kernel_rfl) (by kernel_rfl) (by kernel_rfl) (fun _ _ _ h => h) (by rfl) ?_ (by assumption) ?_; (intro _w; go_simp; skip); simp only [Act.put, List.setIfInBounds_toArray, List.set_cons_zero, List.set_cons_succ])
        clear hold
        refine wpD_only 8 [] rfl (by kernel_rfl) (by kernel_rfl) (by rfl) (fun K8 hK8 => ?_)
        have hle : N.length * 2 + (ptr d u).length ≤ cur.length := by rw [ptr_length, HCL.out]; have := HLEN.out; have := HC1.out; omega
        refine wp_storeV _ _ _ rfl gc (N.length * 2) (val d u) (ptr d u) rfl rfl rfl _ _ (HB.out.fr F7.out id) hle (by rw [ptr_length]; exact info_p) (ptr_one d u) ?_
        intro w8 HB8 F8 HS8
        refine hK8 _ _ (Facts.nil_hold _) ?_
        clear hK8 K8
        refine wpD_done (by kernel_rfl) ?_ _
        simp only [Act.put, List.setIfInBounds_toArray, List.set_cons_zero, List.set_cons_succ]
        have hst := Cl.step HC'.out HRU.out HSM.out F7.out HFU.out F8.out (row_put HB8.out HC1.out HC2.out HCL.out HTK.out HLEN.out)
        have HST := hid hst
        clear hst hle d2
        have hnl : (N.length : Int) ≤ 8796093021000 := by omega
        go_wp2
        exact ⟨⟨N ++ [(k, up u)], R, by simp, HST⟩, by simp [intOf]; omega⟩
end Go.Proofs.Ytlnolnaapnijbaa.TR
