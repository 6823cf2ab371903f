/-
  Scans: each.
-/
import Derived.Test.YtlnolnaapnijbaaTrE
namespace Go.Proofs.Ytlnolnaapnijbaa.TR
set_option maxRecDepth 100000
open Go.RowKit K

def ge (fr : S) (l : L) : L := l.filter fun x => !lt x.1 fr
theorem ge_append (fr : S) (a b : L) : ge fr (a ++ b) = ge fr a ++ ge fr b := by simp [ge]
theorem ge_lt {fr : S} {a : L} (h : AllLt a fr) : ge fr a = [] := by
  unfold ge
  rw [List.filter_eq_nil_iff]
  intro x hx
  simp [h x hx]
theorem ge_le (fr : S) (l : L) : (ge fr l).length ≤ l.length := List.length_filter_le _ _
theorem ge_drop {l : L} {fr : S} {i : Nat} (h : Part l fr i) : ge fr l = l.drop i := by
  have e := List.take_append_drop i l
  conv => lhs; rw [← e]
  rw [ge_append, ge_lt h.take, List.nil_append]
  unfold ge
  rw [List.filter_eq_self]
  intro x hx
  obtain ⟨j, hj, e2⟩ := List.mem_iff_getElem.1 hx
  rw [List.getElem_drop] at e2
  simp only [List.length_drop] at hj
  have := h.hi (i + j) x (by omega) (by rw [List.getElem?_eq_getElem (by omega), e2])
  simp [this]
def vis (bt bp bm : Nat) : Value := .func (.func 72) #[] [Value.pointer (some ⟨bt, 0, none⟩), .pointer (some ⟨bp, 0, none⟩), .pointer (some ⟨bm, 0, none⟩)].toArray
/-- What each leaves. -/
def Eaches (base bt bp bm : Nat) (to : S) (most : Int) (acc : L) (pv : Value) (l : L) (w : World) (e : Ending) (w' : World) : Prop :=
  e = .returned (.bool (runS to most acc l).1) ∧ ∃ pv', PS base bt bp bm to most (runS to most acc l).2 pv' w' ∧ Fr (Vs bp pv) w w' ∧ ∀ g, pv'.ownBlock = some g → pv.ownBlock = some g ∨ w.heap.size ≤ g
theorem PS.no {base bt bp bm : Nat} {to : S} {most : Int} {acc : L} {pv : Value} {w w' : World} (h : PS base bt bp bm to most acc pv w) (hf : Fr No w w') : PS base bt bp bm to most acc pv w' :=
  ⟨h.t.fr hf id, h.m.fr hf id, h.p.fr hf id, own_fr h.r hf (fun _ _ e => e), h.n, h.ne1, h.ne2, h.b1, h.b2, h.b3⟩
theorem own_ge {w : World} {base : Nat} {e : TypeId} {k : Nat} {v : Value} {n : Nat} {xs : List Value} (h : w.ownsRow base e k v n xs) (g : Nat) (hg : v.ownBlock = some g) : base ≤ g ∧ g < w.heap.size := by
  rcases h.2 with ⟨rfl, _⟩ | ⟨g', cap, cur, rfl, hb, h1, -⟩
  · cases hg
  · cases hg; exact ⟨hb, (Array.getElem?_eq_some_iff.1 h1).1⟩
theorem PS.vs {base bt bp bm : Nat} {to : S} {most : Int} {acc : L} {pv : Value} {w : World} (h : PS base bt bp bm to most acc pv w) : ∀ g, Vs bp pv g → base ≤ g ∧ g < w.heap.size := by
  rintro g (rfl | hg)
  · exact ⟨h.b2, h.p.lt⟩
  · exact own_ge h.r g hg
/-- What visitors one behind the other turn. -/
theorem vs_trans {bp : Nat} {pv pv1 pv2 : Value} {w w1 w2 : World} (f1 : Fr (Vs bp pv) w w1) (g1 : ∀ g, pv1.ownBlock = some g → pv.ownBlock = some g ∨ w.heap.size ≤ g) (f2 : Fr (Vs bp pv1) w1 w2) (g2 : ∀ g, pv2.ownBlock = some g → pv1.ownBlock = some g ∨ w1.heap.size ≤ g) :
    Fr (Vs bp pv) w w2 ∧ ∀ g, pv2.ownBlock = some g → pv.ownBlock = some g ∨ w.heap.size ≤ g := by
  refine ⟨f1.trans f2 (fun g hg => ?_), fun g hg => ?_⟩
  · rcases hg with hg | hg
    · exact .inl (.inl hg)
    · exact (g1 g hg).imp .inr id
  · exact (g2 g hg).elim (g1 g) (fun e => .inr (Nat.le_trans f1.size e))
theorem ent_vis (vs : Array Value) (w : World) : (callFunc 72 vs).run Try.prog w = .ok (.enter 72 vs) w := by kernel_rfl
theorem visit_any (base bt bp bm : Nat) (to : S) (most : Int) (acc : L) (pv : Value) (k v : S) (w : World) (h : PS base bt bp bm to most acc pv w) (hn : acc.length + 1 ≤ 4398046511104) (hbs : base ≤ w.heap.size) :
    Calls Try.prog 72 #[.string k, .string v, .pointer (some ⟨bt, 0, none⟩), .pointer (some ⟨bp, 0, none⟩), .pointer (some ⟨bm, 0, none⟩)] w fun e w' => ∃ (b : Bool) (acc' : L) (pv' : Value), e = .returned (.bool b) ∧ PS base bt bp bm to most acc' pv' w' ∧ Fr (Vs bp pv) w w' ∧ (∀ g, pv'.ownBlock = some g → pv.ownBlock = some g ∨ w.heap.size ≤ g) ∧
      (∀ r, runS to most acc ((k, v) :: r) = if b then runS to most acc' r else (false, acc')) ∧ acc'.length ≤ acc.length + 1 := by
  by_cases hs : stopB to k = true
  · refine (visit_stop base bt bp bm to most acc pv k v w h hs).mono ?_
    rintro e w' ⟨rfl, rfl⟩
    exact ⟨false, acc, pv, rfl, h, Fr.refl _ _, fun g hg => .inl hg, fun r => by simp [runS, hs], by omega⟩
  · have hs' : stopB to k = false := by simpa using hs
    refine (visit_go base bt bp bm to most acc pv k v w h hs' hn hbs).mono ?_
    rintro e w' ⟨rfl, pv', h2, h3, h4⟩
    refine ⟨_, _, pv', rfl, h2, h3, h4, fun r => ?_, by simp⟩
    simp [runS, hs']
set_option maxHeartbeats 4000000 in
theorem each_leaf (base : Nat) (t : PT 0) (bt bp bm : Nat) (to fr : S) (most : Int) (acc : L) (pv : Value) (w : World) (hr : Rep w 0 t) (hf : Fine 0 t) (hlt : ∀ g, fp 0 t g → g < base) (hp : PS base bt bp bm to most acc pv w) (hn : acc.length + (flat 0 t).length ≤ 4398046511104) :
    Calls Try.prog 71 #[val 0 t, .string fr, vis bt bp bm] w (Eaches base bt bp bm to most acc pv (ge fr (flat 0 t)) w) := by
  obtain ⟨lo, hi, hok⟩ := hf.ok
  have HR := hid hr; have HOK := hid hok; have HP := hid hp; have HN : Hid (acc.length + t.l.length ≤ 4398046511104) := hid (by rwa [flat_zero] at hn); have HLN := hid hf.len; have HLT := hid hlt
  clear hr hf hp hn hok hlt
  show Calls Try.prog _ #[.agg #[.pointer (some ⟨t.b, 0, none⟩), .pointer none], .string fr, .func (.func 72) #[] [Value.pointer (some ⟨bt, 0, none⟩), .pointer (some ⟨bp, 0, none⟩), .pointer (some ⟨bm, 0, none⟩)].toArray] w _
  go_enter Try.func71, Try.ntmps71
  go_wp2_with ((with_reducible show wpList _ _ _ ({ dst := _, op := .box 103 _, type := _, pos := _, after := _, guard := _ } :: _) _ _); refine wpL_box rfl _ _ rfl _ rfl [.pointer (some ⟨t.b, 0, none⟩), .pointer none] rfl ?_; intro w1 HB1 F1 HS1; have c0 : w1.cell? ⟨w.heap.size, 0, none⟩ = some (.pointer (some ⟨t.b, 0, none⟩)) := HB1.out.cell 0)
  have HR1 : Hid (Rep w1 0 t) := hid (HR.out.no F1.out)
  refine (position_any w1 t.b _ _ (keys t.l) (cells t.l) fr HR1.out.nd HOK.out.rises (by rw [keys_length]; have := HLN.out; omega)).mono ?_
  rintro e w2 ⟨i, rfl, hpk, f2⟩
  have hpt := leaf_part hpk
  have HGE : Hid (ge fr (flat 0 t) = (flat 0 t).drop i) := hid (by rw [flat_zero]; exact ge_drop hpt)
  have HIL : Hid (i ≤ t.l.length) := hid hpt.le
  have F2 : Hid (Fr No w w2) := hid (F1.out.trans' f2)
  have HB2 : Hid (Blk w2 w.heap.size 103 [.pointer (some ⟨t.b, 0, none⟩), .pointer none]) := hid (HB1.out.fr f2 id)
  have HR2 : Hid (Rep w2 0 t) := hid (HR1.out.no f2)
  have HP2 : Hid (PS base bt bp bm to most acc pv w2) := hid (HP.out.no F2.out)
  have HNB : Hid (¬ Vs bp pv w.heap.size) := hid (fun e => by have := HP.out.vs _ e; omega)
  have HBW : Hid (base ≤ w.heap.size) := hid (by have := HP.out.b1; have := HP.out.t.lt; omega)
  clear hpk hpt f2 c0
  have HVR : Hid (∀ wr, Fr (Vs bp pv) w2 wr → Rep wr 0 t) := hid (fun wr hf => HR2.out.fr hf (fun g hg e => by have := HLT.out g hg; have := (HP2.out.vs g e).1; omega))
  have HIL2 : (i : Int) ≤ (t.l.length : Int) := by have := HIL.out; omega
  have hlm : t.l.length ≤ 8796093021000 := HLN.out
  go_wp2_with fail
  go_loopw [9] (fun q wr => ∃ (j : Nat) (acc' : L) (pv' : Value), q = .int .i64 j ∧ j ≤ t.l.length ∧ Hid (PS base bt bp bm to most acc' pv' wr) ∧ Hid (Fr (Vs bp pv) w2 wr) ∧ Hid (∀ g, pv'.ownBlock = some g → pv.ownBlock = some g ∨ w2.heap.size ≤ g) ∧ Hid (runS to most acc ((flat 0 t).drop i) = runS to most acc' ((flat 0 t).drop j)) ∧ Hid (acc'.length + (t.l.length - j) ≤ 4398046511104)) (fun q _ => t.l.length - (intOf q).toNat)
  case atStart => exact ⟨i, acc, pv, rfl, HIL.out, HP2, hid (Fr.refl _ _), hid (fun g hg => .inl hg), hid rfl, hid (by have := HN.out; omega)⟩
  case round =>
    obtain ⟨j, acc', pv', rfl, hjl, HPr, HFr, HGr, HRun, HAc⟩ := hrel
    have HRr : Hid (Rep wr 0 t) := hid (HVR.out wr HFr.out)
    have HBr : Hid (Blk wr w.heap.size 103 [.pointer (some ⟨t.b, 0, none⟩), .pointer none]) := hid (HB2.out.fr HFr.out HNB.out)
    have c0 : wr.cell? ⟨w.heap.size, 0, none⟩ = some (.pointer (some ⟨t.b, 0, none⟩)) := HBr.out.cell 0
    go_wp2_with fail
    refine (size_s wr t.b _ _ (keys t.l) (cells t.l) HRr.out.nd).mono ?_
    rintro e w3 ⟨rfl, rfl⟩
    rw [keys_length]
    have FIN : Hid (∀ (b : Bool) (acc2 : L) (pv2 : Value) (w4 : World), runS to most acc ((flat 0 t).drop i) = (b, acc2) → PS base bt bp bm to most acc2 pv2 w4 → Fr (Vs bp pv) w2 w4 → (∀ g, pv2.ownBlock = some g → pv.ownBlock = some g ∨ w2.heap.size ≤ g) → Eaches base bt bp bm to most acc pv (ge fr (flat 0 t)) w (.returned (.bool b)) w4) := hid (fun b acc2 pv2 w4 h1 h2 h3 h4 => by
      unfold Eaches
      rw [HGE.out]
      refine ⟨by rw [h1], pv2, by rw [h1]; exact h2, F2.out.no.trans' h3, fun g hg => (h4 g hg).imp id (fun e => Nat.le_trans F2.out.size e)⟩)
    by_cases hlt : j < t.l.length
    · have hlt' : (j : Int) < (t.l.length : Int) := by omega
      obtain ⟨gk, ck, hkv, hkc⟩ := own_text HRr.out.nd.rk (by rw [keys_length]; omega)
      rw [keys_length] at hkv
      obtain ⟨⟨kk, vv⟩, hx⟩ : ∃ x, t.l[j]? = some x := ⟨_, List.getElem?_eq_getElem hlt⟩
      have hrc := HRr.out.nd.rc
      rw [keys_length] at hrc
      obtain ⟨gc, cc, cur, hcv, hB, -, -, -, hc4⟩ := own_open hrc (by omega)
      have c1 : wr.cell? ⟨t.b, 0, none⟩ = some (.slice (some ⟨gk, 0, none⟩) t.l.length ck) := by rw [← hkv]; exact HRr.out.nd.blk.cell 0
      have c2 : wr.cell? ⟨gk, j, none⟩ = some (.string kk) := hkc j kk (keys_get (d := 0) hx)
      have c3 : wr.cell? ⟨t.b, 1, none⟩ = some (.slice (some ⟨gc, 0, none⟩) t.l.length cc) := by rw [← hcv]; exact HRr.out.nd.blk.cell 1
      have c4 : wr.cell? ⟨gc, j, none⟩ = some (.string (vv : S)) := by
        rw [hB.cell]
        have h5 : (cells t.l)[j]? = some (Value.string (vv : S)) := by rw [leaf_cells, List.getElem?_map, hx]; rfl
        rw [← hc4, List.getElem?_take] at h5
        split at h5
        · exact h5
        · cases h5
      have HDR : Hid ((flat 0 t).drop j = (kk, (vv : S)) :: (flat 0 t).drop (j + 1)) := hid (by
        obtain ⟨h1, h2⟩ := List.getElem?_eq_some_iff.1 hx
        have h3 : t.l.drop j = (kk, vv) :: t.l.drop (j + 1) := by rw [List.drop_eq_getElem_cons h1, h2]
        rw [flat_zero]; exact h3)
      have hw1 : (j : Int) + 1 ≤ 8796093021001 := by omega
      clear hkv hkc hrc hcv hB hc4 hx
      go_wp2_with fail
      have hold : Facts.hold [(2, fun w' => w'.cell? ⟨w.heap.size, 0, none⟩ = some (.pointer (some ⟨t.b, 0, none⟩))), (5, fun w' => w'.cell? ⟨t.b, 0, none⟩ = some (.slice (some ⟨gk, 0, none⟩) t.l.length ck)), (8, fun w' => w'.cell? ⟨gk, j, none⟩ = some (.string kk)), (10, fun w' => w'.cell? ⟨w.heap.size, 0, none⟩ = some (.pointer (some ⟨t.b, 0, none⟩))), (13, fun w' => w'.cell? ⟨t.b, 1, none⟩ = some (.slice (some ⟨gc, 0, none⟩) t.l.length cc)), (16, fun w' => w'.cell? ⟨gc, j, none⟩ = some (.string (vv : S)))] wr.drew :=
        Facts.cons_hold c0 (Facts.cons_hold c1 (Facts.cons_hold c2 (Facts.cons_hold c0 (Facts.cons_hold c3 (Facts.cons_hold c4 (Facts.nil_hold _))))))
      refine wpD_region hold (by kernel_rfl) 19 rfl ?_
      (refine wpD_plain 0 (v := ?_) rfl (by kernel_rfl) (by kernel_rfl) (by kernel_rfl) (fun _ _ _ h => h) (by rfl) ?_ (by assumption) ?_; rotate_left; (intro _w; go_simp; try with_reducible rfl); simp only [Act.put, List.setIfInBounds_toArray, List.set_cons_zero, List.set_cons_succ])
      (refine wpD_plain 1 (v := ?_) rfl (by kernel_rfl) (by kernel_rfl) (by kernel_rfl) (fun _ _ _ h => h) (by rfl) ?_ (by assumption) ?_; rotate_left; (intro _w; go_simp; try with_reducible rfl); simp only [Act.put, List.setIfInBounds_toArray, List.set_cons_zero, List.set_cons_succ])
      (refine wpD_take 2 _ rfl (by kernel_rfl) (by kernel_rfl) (by kernel_rfl) (fun _ _ _ h => h) List.mem_cons_self (by rfl) (v := ?_) ?_ (by assumption) ?_; rotate_left; (intro _w _hw; go_simp; try with_reducible rfl); simp only [Act.put, List.setIfInBounds_toArray, List.set_cons_zero, List.set_cons_succ])
      (refine wpD_plain 3 (v := ?_) rfl (by kernel_rfl) (by kernel_rfl) (by kernel_rfl) (fun _ _ _ h => h) (by rfl) ?_ (by assumption) ?_; rotate_left; (intro _w; go_simp; try with_reducible rfl); simp only [Act.put, List.setIfInBounds_toArray, List.set_cons_zero, List.set_cons_succ])
      (refine wpD_plain 4 (v := ?_) rfl (by kernel_rfl) (by kernel_rfl) (by kernel_rfl) (fun _ _ _ h => h) (by rfl) ?_ (by assumption) ?_; rotate_left; (intro _w; go_simp; try with_reducible rfl); simp only [Act.put, List.setIfInBounds_toArray, List.set_cons_zero, List.set_cons_succ])
      (refine wpD_take 5 _ rfl (by kernel_rfl) (by kernel_rfl) (by kernel_rfl) (fun _ _ _ h => h) (List.mem_cons_of_mem _ List.mem_cons_self) (by rfl) (v := ?_) ?_ (by assumption) ?_; rotate_left; (intro _w _hw; go_simp; try with_reducible rfl); simp only [Act.put, List.setIfInBounds_toArray, List.set_cons_zero, List.set_cons_succ])
      (refine wpD_plain 6 (v := ?_) rfl (by kernel_rfl) (by kernel_rfl) (by kernel_rfl) (fun _ _ _ h => h) (by rfl) ?_ (by assumption) ?_; rotate_left; (intro _w; go_simp; try with_reducible rfl); simp only [Act.put, List.setIfInBounds_toArray, List.set_cons_zero, List.set_cons_succ])
      (refine wpD_plain 7 (v := ?_) rfl (by kernel_rfl) (by kernel_rfl) (by kernel_rfl) (fun _ _ _ h => h) (by rfl) ?_ (by assumption) ?_; rotate_left; (intro _w; go_simp; try with_reducible rfl); simp only [Act.put, List.setIfInBounds_toArray, List.set_cons_zero, List.set_cons_succ])
      (refine wpD_take 8 _ rfl (by kernel_rfl) (by kernel_rfl) (by kernel_rfl) (fun _ _ _ h => h) (List.mem_cons_of_mem _ (List.mem_cons_of_mem _ List.mem_cons_self)) (by rfl) (v := ?_) ?_ (by assumption) ?_; rotate_left; (intro _w _hw; go_simp; try with_reducible rfl); simp only [Act.put, List.setIfInBounds_toArray, List.set_cons_zero, List.set_cons_succ])
      (refine wpD_plain 9 (v := ?_) rfl (by kernel_rfl) (by kernel_rfl) (by kernel_rfl) (fun _ _ _ h => h) (by rfl) ?_ (by assumption) ?_; rotate_left; (intro _w; go_simp; try with_reducible rfl); simp only [Act.put, List.setIfInBounds_toArray, List.set_cons_zero, List.set_cons_succ])
      (refine wpD_take 10 _ rfl (by kernel_rfl) (by kernel_rfl) (by kernel_rfl) (fun _ _ _ h => h) (List.mem_cons_of_mem _ (List.mem_cons_of_mem _ (List.mem_cons_of_mem _ List.mem_cons_self))) (by rfl) (v := ?_) ?_ (by assumption) ?_; rotate_left; (intro _w _hw; go_simp; try with_reducible rfl); simp only [Act.put, List.setIfInBounds_toArray, List.set_cons_zero, List.set_cons_succ])
      (refine wpD_plain 11 (v := ?_) rfl (by kernel_rfl) (by kernel_rfl) (by kernel_rfl) (fun _ _ _ h => h) (by rfl) ?_ (by assumption) ?_; rotate_left; (intro _w; go_simp; try with_reducible rfl); simp only [Act.put, List.setIfInBounds_toArray, List.set_cons_zero, List.set_cons_succ])
      (refine wpD_plain 12 (v := ?_) rfl (by kernel_rfl) (by kernel_rfl) (by kernel_rfl) (fun _ _ _ h => h) (by rfl) ?_ (by assumption) ?_; rotate_left; (intro _w; go_simp; try with_reducible rfl); simp only [Act.put, List.setIfInBounds_toArray, List.set_cons_zero, List.set_cons_succ])
      (refine wpD_take 13 _ rfl (by kernel_rfl) (by kernel_rfl) (by kernel_rfl) (fun _ _ _ h => h) (List.mem_cons_of_mem _ (List.mem_cons_of_mem _ (List.mem_cons_of_mem _ (List.mem_cons_of_mem _ List.mem_cons_self)))) (by rfl) (v := ?_) ?_ (by assumption) ?_; rotate_left; (intro _w _hw; go_simp; try with_reducible rfl); simp only [Act.put, List.setIfInBounds_toArray, List.set_cons_zero, List.set_cons_succ])
      (refine wpD_plain 14 (v := ?_) rfl (by kernel_rfl) (by kernel_rfl) (by kernel_rfl) (fun _ _ _ h => h) (by rfl) ?_ (by assumption) ?_; rotate_left; (intro _w; go_simp; try with_reducible rfl); simp only [Act.put, List.setIfInBounds_toArray, List.set_cons_zero, List.set_cons_succ])
      (refine wpD_plain 15 (v := ?_) rfl (by kernel_rfl) (by kernel_rfl) (by kernel_rfl) (fun _ _ _ h => h) (by rfl) ?_ (by assumption) ?_; rotate_left; (intro _w; go_simp; try with_reducible rfl); simp only [Act.put, List.setIfInBounds_toArray, List.set_cons_zero, List.set_cons_succ])
      (refine wpD_take 16 _ rfl (by kernel_rfl) (by kernel_rfl) (by kernel_rfl) (fun _ _ _ h => h) (List.mem_cons_of_mem _ (List.mem_cons_of_mem _ (List.mem_cons_of_mem _ (List.mem_cons_of_mem _ (List.mem_cons_of_mem _ List.mem_cons_self))))) (by rfl) (v := ?_) ?_ (by assumption) ?_; rotate_left; (intro _w _hw; go_simp; try with_reducible rfl); simp only [Act.put, List.setIfInBounds_toArray, List.set_cons_zero, List.set_cons_succ])
      clear hold
      refine wpD_only 17 [(2, fun w' => w'.cell? ⟨w.heap.size, 0, none⟩ = some (.pointer (some ⟨t.b, 0, none⟩))), (5, fun w' => w'.cell? ⟨t.b, 0, none⟩ = some (.slice (some ⟨gk, 0, none⟩) t.l.length ck)), (10, fun w' => w'.cell? ⟨w.heap.size, 0, none⟩ = some (.pointer (some ⟨t.b, 0, none⟩))), (13, fun w' => w'.cell? ⟨t.b, 1, none⟩ = some (.slice (some ⟨gc, 0, none⟩) t.l.length cc))] rfl (by kernel_rfl) (by kernel_rfl) (by rfl) (fun K17 hK17 => ?_)
      refine wp_call (.tmp 49) _ _ rfl 72 [.pointer (some ⟨bt, 0, none⟩), .pointer (some ⟨bp, 0, none⟩), .pointer (some ⟨bm, 0, none⟩)] rfl ent_vis [.string kk, .string (vv : S), .pointer (some ⟨bt, 0, none⟩), .pointer (some ⟨bp, 0, none⟩), .pointer (some ⟨bm, 0, none⟩)] (by rfl) ?_
      refine (visit_any base bt bp bm to most acc' pv' kk vv wr.drew (HPr.out.no (Fr.refl No wr).drew) (by have := HAc.out; omega) (by have h1 := HFr.out.size; have h2 := F2.out.size; have h3 : wr.drew.heap.size = wr.heap.size := rfl; have := HBW.out; omega)).mono ?_
      rintro e w4 ⟨b, acc2, pv2, rfl, hps, f4, g4, hrn, hal⟩
      have hvt := vs_trans HFr.out HGr.out ((Fr.refl _ wr).drew.trans' f4) g4
      have HP4 := hid hps; have HF4 := hid hvt.1; have HG4 := hid hvt.2
      have HRr4 : Hid (Rep w4 0 t) := hid (HVR.out w4 hvt.1)
      have HB4 : Hid (Blk w4 w.heap.size 103 [.pointer (some ⟨t.b, 0, none⟩), .pointer none]) := hid (HB2.out.fr hvt.1 HNB.out)
      have hxo : ∀ o v, wr.cell? ⟨t.b, o, none⟩ = some v → w4.cell? ⟨t.b, o, none⟩ = some v := fun o v hc => f4.cell (w := wr.drew) hc (fun e => by
        have h1 := HLT.out t.b (own_fp (.inl rfl)); have h2 := (HPr.out.vs t.b e).1; omega)
      have hold : Facts.hold [(2, fun w' => w'.cell? ⟨w.heap.size, 0, none⟩ = some (.pointer (some ⟨t.b, 0, none⟩))), (5, fun w' => w'.cell? ⟨t.b, 0, none⟩ = some (.slice (some ⟨gk, 0, none⟩) t.l.length ck)), (10, fun w' => w'.cell? ⟨w.heap.size, 0, none⟩ = some (.pointer (some ⟨t.b, 0, none⟩))), (13, fun w' => w'.cell? ⟨t.b, 1, none⟩ = some (.slice (some ⟨gc, 0, none⟩) t.l.length cc))] w4 :=
        Facts.cons_hold (HB4.out.cell 0) (Facts.cons_hold (hxo 0 _ c1) (Facts.cons_hold (HB4.out.cell 0) (Facts.cons_hold (hxo 1 _ c3) (Facts.nil_hold _))))
      have HRN : Hid (runS to most acc ((flat 0 t).drop i) = if b then runS to most acc2 ((flat 0 t).drop (j + 1)) else (false, acc2)) := hid (by rw [HRun.out, HDR.out]; exact hrn _)
      have HAL := hid hal
      refine ⟨_, rfl, hK17 _ _ hold ?_⟩
      clear hK17 K17 hps f4 g4 hrn hal hvt hxo
      simp only [Act.put, List.setIfInBounds_toArray, List.set_cons_zero, List.set_cons_succ]
      cases b
      · (refine wpD_plain 18 (v := ?_) rfl (by kernel_rfl) (by kernel_rfl) (by kernel_rfl) (fun _ _ _ h => h) (by rfl) ?_ (by assumption) ?_; rotate_left; (intro _w; go_simp; try with_reducible rfl); simp only [Act.put, List.setIfInBounds_toArray, List.set_cons_zero, List.set_cons_succ])
        refine wpD_done (by kernel_rfl) ?_ _
        clear hold c0 c1 c2 c3 c4
        go_wp2
        go_ret
        exact FIN.out false acc2 pv2 w4 (by have := HRN.out; simpa using this) HP4.out HF4.out HG4.out
      · (refine wpD_plain 18 (v := ?_) rfl (by kernel_rfl) (by kernel_rfl) (by kernel_rfl) (fun _ _ _ h => h) (by rfl) ?_ (by assumption) ?_; rotate_left; (intro _w; go_simp; try with_reducible rfl); simp only [Act.put, List.setIfInBounds_toArray, List.set_cons_zero, List.set_cons_succ])
        refine wpD_done (by kernel_rfl) ?_ _
        clear hold c0 c1 c2 c3 c4
        go_wp2
        exact ⟨⟨j + 1, acc2, pv2, by go_num, hlt, HP4, HF4, HG4, hid (by have := HRN.out; simpa using this), hid (by have := HAL.out; have := HAc.out; omega)⟩, by simp [intOf]; omega⟩
    · have hlt' : ¬ ((j : Int) < (t.l.length : Int)) := by omega
      have hje : (flat 0 t).drop j = [] := by
        have h5 : t.l.drop j = [] := List.drop_eq_nil_of_le (by omega)
        rw [flat_zero]; exact h5
      have HJE := hid hje
      clear hje
      go_wp2
      go_ret
      have hr := HRun.out
      rw [HJE.out] at hr
      exact FIN.out true acc' pv' wr hr HPr.out HFr.out HGr.out
end Go.Proofs.Ytlnolnaapnijbaa.TR
