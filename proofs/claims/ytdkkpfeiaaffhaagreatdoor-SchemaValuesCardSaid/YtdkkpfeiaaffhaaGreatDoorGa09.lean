/-
  Part 9 of the proof: ScS, DnJ.
-/
import Derived.Test.YtdkkpfeiaaffhaaGreatDoorGa08
import Derived.Test.YtdkkpfeiaaffhaaGreatDoorGa02
set_option linter.unusedSimpArgs false
set_option linter.unusedVariables false
namespace Go.Proofs.YtdkkpfeiaaffhaaGreatDoor.SC
set_option maxRecDepth 100000
open Go.RowKit K Go.Proofs.YtdkkpfeiaaffhaaGreatDoor.BE Go.Proofs.YtdkkpfeiaaffhaaGreatDoor.DN

set_option maxHeartbeats 8000000 in
theorem posTy_any {S : Nat → Prop} (v : Value) (X : List Ty) (w : World) (h : TysIn S w v X) :
    Calls Tryz.prog 129 #[v, .func (.func 103) #[] #[]] w fun e w' => ∃ bm, e = .returned (.map (some bm)) ∧ w.heap.size ≤ bm ∧ MpI w' bm X.length (posF (X.map (·.nm))) ∧ Fr No w w' := by
  have HX := hid h
  obtain ⟨a, cp, rfl, hcap, hl⟩ := h.form
  obtain ⟨R, hR⟩ : ∃ R, posF (X.map (·.nm)) = R := ⟨_, rfl⟩
  rw [hR]
  have HR : Hid (posM 0 ((X.drop 0).map (·.nm)) (fun _ => none) = R) := hid hR
  obtain ⟨n, hn⟩ : ∃ n, X.length = n := ⟨_, rfl⟩
  have HNN := hid hn
  rw [hn] at HX hcap hl ⊢
  have hni : (n : Int) ≤ 140737488351232 := by omega
  clear h hR hn hcap
  go_enter Tryz.func129, Tryz.ntmps129
  go_wp2_with (first
    | ((with_reducible refine K.atO (.makeMap _ _) ?_); refine wpL_makeMap rfl _ rfl ?_; intro w1 HM1 HF1 HS1)
    | fail)
  obtain ⟨bm, hbm⟩ : ∃ b, w.heap.size = b := ⟨_, rfl⟩
  have HBM := hid hbm
  rw [hbm] at HM1 ⊢
  have HSz : Hid (bm < w1.heap.size) := hid (by rw [← hbm]; have := HS1.out; omega)
  clear hbm HS1
  go_loopw [11] (fun iv wr => ∃ (i : Nat) (f : B → Option Int), iv = .int .i64 i ∧ i ≤ n ∧ Hid (MpI wr bm i f ∧ posM i ((X.drop i).map (·.nm)) f = R ∧ Fr No w wr ∧ bm < wr.heap.size)) (fun iv _ => n - (intOf iv).toNat)
  case atStart => exact ⟨0, _, rfl, Nat.zero_le _, hid ⟨HM1.out, HR.out, HF1.out, HSz.out⟩⟩
  case round =>
    obtain ⟨i, f, rfl, hi, HI⟩ := hrel
    by_cases hlt : i < n
    · obtain ⟨t, ht⟩ : ∃ t, X[i]? = some t := ⟨_, List.getElem?_eq_getElem (by rw [HNN.out]; exact hlt)⟩
      have hlti : (i : Int) < n := by omega
      have hi0 : (0 : Int) ≤ i := by omega
      obtain ⟨g, o, cq, c, e1, -, -, hr, -, hp⟩ := (TysIn.fr (D := No) HX.out HI.out.2.2.1 (fun _ _ _ e => e)).get ht
      rw [HNN.out] at e1
      simp only [Value.slice.injEq, true_and] at e1
      obtain ⟨rfl, rfl⟩ := e1
      obtain ⟨r, rfl, hrl, hz, hone⟩ := (show ∃ r, c = Value.string (sb t.nm) :: r ∧ r.length = 5 ∧ Sz t.nm ∧ ∀ v ∈ Value.string (sb t.nm) :: r, v.oneCell' = true from ⟨_, hp.1, rfl, hp.2, oneTy t⟩)
      have HRR := hid hr; have HZ := hid hz; have HRL := hid hrl
      obtain ⟨hdrop, -⟩ := drop_at ht
      have HP2 : Hid (posM (i + 1) ((X.drop (i + 1)).map (·.nm)) (updM f (low t.nm) i) = R) := hid (by
        have h := HI.out.2.1
        rw [hdrop] at h
        exact h)
      have HI3 : Hid ((Tryz.prog.info? 62).map (·.size) = some (Value.string (sb t.nm) :: r).length) := hid (by rw [List.length_cons, hrl]; exact infoTy)
      have HLE : Hid (0 + (Value.string (sb t.nm) :: r).length ≤ ([.string ⟨#[]⟩, .int .i64 0, .bool false, .bool false, .bool false, .bool false] : List Value).length) := hid (by rw [List.length_cons, hrl]; decide)
      have HONE := hid hone
      have HLT := hid hlt
      clear hr hz ht hdrop hi hlt hrl hone
      go_wp2_with (first
        | ((with_reducible refine K.atO (.load 62 _) ?_); (fail_if_success (have := HB2)); refine wpL_load rfl _ _ rfl g (o + i * 6) rfl (Value.string (sb t.nm) :: r) _ HRR.out rfl rfl HI3.out ?_)
        | ((with_reducible refine K.atO (.alloc 62) ?_); refine wpL_alloc rfl _ rfl _ zeroTy [.string ⟨#[]⟩, .int .i64 0, .bool false, .bool false, .bool false, .bool false] rfl ?_; intro w2 HB2 HF2 HS2)
        | ((with_reducible refine K.atO (.store 62 _ _) ?_); refine wpL_store rfl _ _ _ rfl wr.heap.size 0 (Value.string (sb t.nm) :: r) rfl rfl 62 _ HB2.out HLE.out HI3.out HONE.out ?_; intro w3 HB3 HF3 HS3; refine Hid.out ?_)
        | fail)
      have HFR3 : Hid (Fr No wr w3) := hid (HF2.out.trans HF3.out fun k e => .inr (by have e : k = wr.heap.size := e; omega))
      obtain ⟨b, hb⟩ : ∃ b, wr.heap.size = b := ⟨_, rfl⟩
      rw [hb] at HB3 ⊢
      have HC3 : Hid (w3.rangeAt b 0 (Value.string (sb t.nm) :: r)) := hid (HB3.out.range 0 _ (by
        have hz : ([.string ⟨#[]⟩, .int .i64 0, .bool false, .bool false, .bool false, .bool false] : List Value).length = 6 := rfl
        have := HRL.out
        unfold spl
        rw [List.take_zero, List.nil_append, List.drop_zero, List.take_left']
        rfl))
      clear hb HB3 HB2 HF2 HF3 HS2 HS3
      refine hid ?_
      go_wp2_with (first
        | ((with_reducible refine K.atO (.load 62 _) ?_); refine wpL_load rfl _ _ rfl b 0 rfl (Value.string (sb t.nm) :: r) _ HC3.out rfl rfl HI3.out ?_)
        | ((with_reducible refine K.atO (.call { callee := .value _, args := _, argTypes := _ }) ?_); refine wpL_callP rfl _ [_] _ rfl 103 [] rfl (fun vs w => by kernel_rfl) [.agg (Value.string (sb t.nm) :: r).toArray] rfl ?_)
        | fail)
      refine (typeName_any t.nm r HRL.out w3).mono ?_
      rintro e w4 ⟨rfl, f4⟩
      refine .inl ⟨_, rfl, ?_⟩
      have HF4 := hid (HFR3.out.trans' f4)
      clear f4
      go_wp2_with fail
      refine (slower_any t.nm HZ.out w4).mono ?_
      rintro e w5 ⟨rfl, f5⟩
      have HF5 := hid (HF4.out.trans' f5)
      have HM5 := hid (HI.out.1.fr HF5.out id)
      clear f5
      go_wp2_with (first
        | ((with_reducible refine K.atO (.mapUpdate _ _ _ _) ?_); refine wpL_upd rfl _ _ _ rfl bm i f rfl (low t.nm) i rfl rfl HM5.out (by unfold Sz; rw [low_length]; exact HZ.out) (by omega) ?_; intro w6 HM6 HF6)
        | fail)
      have HF6' : Hid (Fr No w w6) := hid ((HI.out.2.2.1.trans' HF5.out).trans HF6.out (fun k e => .inr (by have e : k = bm := e; have := HBM.out; omega)))
      have HS6 : Hid (bm < w6.heap.size) := hid (by have := HI.out.2.2.2; have := HF5.out.size; have := HF6.out.size; omega)
      refine ⟨⟨i + 1, _, by go_num, HLT.out, hid ⟨HM6.out, HP2.out, HF6'.out, HS6.out⟩⟩, ?_⟩
      have := HLT.out
      simp [intOf]; omega
    · obtain rfl : i = n := by omega
      have hR : f = R := by
        have h := HI.out.2.1
        rw [← HNN.out, List.drop_length] at h
        exact h
      have HRf := hid hR
      clear hR
      go_wp2_with fail
      go_ret
      exact ⟨bm, rfl, Nat.le_of_eq HBM.out, by rw [← HRf.out]; exact HI.out.1, HI.out.2.2.1⟩
set_option maxHeartbeats 8000000 in
theorem posCl_any {S : Nat → Prop} (v : Value) (X : List Cl) (w : World) (h : ClsIn S w v X) :
    Calls Tryz.prog 130 #[v, .func (.func 107) #[] #[]] w fun e w' => ∃ bm, e = .returned (.map (some bm)) ∧ w.heap.size ≤ bm ∧ MpI w' bm X.length (posF (X.map (·.nm))) ∧ Fr No w w' := by
  have HX := hid h
  obtain ⟨a, cp, rfl, hcap, hl⟩ := h.form
  obtain ⟨R, hR⟩ : ∃ R, posF (X.map (·.nm)) = R := ⟨_, rfl⟩
  rw [hR]
  have HR : Hid (posM 0 ((X.drop 0).map (·.nm)) (fun _ => none) = R) := hid hR
  obtain ⟨n, hn⟩ : ∃ n, X.length = n := ⟨_, rfl⟩
  have HNN := hid hn
  rw [hn] at HX hcap hl ⊢
  have hni : (n : Int) ≤ 140737488351232 := by omega
  clear h hR hn hcap
  go_enter Tryz.func130, Tryz.ntmps130
  go_wp2_with (first
    | ((with_reducible refine K.atO (.makeMap _ _) ?_); refine wpL_makeMap rfl _ rfl ?_; intro w1 HM1 HF1 HS1)
    | fail)
  obtain ⟨bm, hbm⟩ : ∃ b, w.heap.size = b := ⟨_, rfl⟩
  have HBM := hid hbm
  rw [hbm] at HM1 ⊢
  have HSz : Hid (bm < w1.heap.size) := hid (by rw [← hbm]; have := HS1.out; omega)
  clear hbm HS1
  go_loopw [11] (fun iv wr => ∃ (i : Nat) (f : B → Option Int), iv = .int .i64 i ∧ i ≤ n ∧ Hid (MpI wr bm i f ∧ posM i ((X.drop i).map (·.nm)) f = R ∧ Fr No w wr ∧ bm < wr.heap.size)) (fun iv _ => n - (intOf iv).toNat)
  case atStart => exact ⟨0, _, rfl, Nat.zero_le _, hid ⟨HM1.out, HR.out, HF1.out, HSz.out⟩⟩
  case round =>
    obtain ⟨i, f, rfl, hi, HI⟩ := hrel
    by_cases hlt : i < n
    · obtain ⟨t, ht⟩ : ∃ t, X[i]? = some t := ⟨_, List.getElem?_eq_getElem (by rw [HNN.out]; exact hlt)⟩
      have hlti : (i : Int) < n := by omega
      have hi0 : (0 : Int) ≤ i := by omega
      obtain ⟨g, o, cq, c, e1, -, -, hr, -, hp⟩ := (ClsIn.fr (D := No) HX.out HI.out.2.2.1 (fun _ _ _ e => e)).get ht
      rw [HNN.out] at e1
      simp only [Value.slice.injEq, true_and] at e1
      obtain ⟨rfl, rfl⟩ := e1
      obtain ⟨r, rfl, hrl, hz, hone⟩ := (show ∃ r, c = Value.string (sb t.nm) :: r ∧ r.length = 4 ∧ Sz t.nm ∧ ∀ v ∈ Value.string (sb t.nm) :: r, v.oneCell' = true from by
        obtain ⟨v1, v2, e, h1, h2, h3, h4, -⟩ := hp
        exact ⟨_, e, rfl, h1, oneCl t (by obtain ⟨a, cp, rfl, -⟩ := h3.form; rfl) (by obtain ⟨a, cp, rfl, -⟩ := h4.form; rfl)⟩)
      have HRR := hid hr; have HZ := hid hz; have HRL := hid hrl
      obtain ⟨hdrop, -⟩ := drop_at ht
      have HP2 : Hid (posM (i + 1) ((X.drop (i + 1)).map (·.nm)) (updM f (low t.nm) i) = R) := hid (by
        have h := HI.out.2.1
        rw [hdrop] at h
        exact h)
      have HI3 : Hid ((Tryz.prog.info? 71).map (·.size) = some (Value.string (sb t.nm) :: r).length) := hid (by rw [List.length_cons, hrl]; exact infoCl)
      have HLE : Hid (0 + (Value.string (sb t.nm) :: r).length ≤ ([.string ⟨#[]⟩, .int .i64 0, .string ⟨#[]⟩, .slice none 0 0, .slice none 0 0] : List Value).length) := hid (by rw [List.length_cons, hrl]; decide)
      have HONE := hid hone
      have HLT := hid hlt
      clear hr hz ht hdrop hi hlt hrl hone
      go_wp2_with (first
        | ((with_reducible refine K.atO (.load 71 _) ?_); (fail_if_success (have := HB2)); refine wpL_load rfl _ _ rfl g (o + i * 5) rfl (Value.string (sb t.nm) :: r) _ HRR.out rfl rfl HI3.out ?_)
        | ((with_reducible refine K.atO (.alloc 71) ?_); refine wpL_alloc rfl _ rfl _ zeroCl [.string ⟨#[]⟩, .int .i64 0, .string ⟨#[]⟩, .slice none 0 0, .slice none 0 0] rfl ?_; intro w2 HB2 HF2 HS2)
        | ((with_reducible refine K.atO (.store 71 _ _) ?_); refine wpL_store rfl _ _ _ rfl wr.heap.size 0 (Value.string (sb t.nm) :: r) rfl rfl 71 _ HB2.out HLE.out HI3.out HONE.out ?_; intro w3 HB3 HF3 HS3; refine Hid.out ?_)
        | fail)
      have HFR3 : Hid (Fr No wr w3) := hid (HF2.out.trans HF3.out fun k e => .inr (by have e : k = wr.heap.size := e; omega))
      obtain ⟨b, hb⟩ : ∃ b, wr.heap.size = b := ⟨_, rfl⟩
      rw [hb] at HB3 ⊢
      have HC3 : Hid (w3.rangeAt b 0 (Value.string (sb t.nm) :: r)) := hid (HB3.out.range 0 _ (by
        have hz : ([.string ⟨#[]⟩, .int .i64 0, .string ⟨#[]⟩, .slice none 0 0, .slice none 0 0] : List Value).length = 5 := rfl
        have := HRL.out
        unfold spl
        rw [List.take_zero, List.nil_append, List.drop_zero, List.take_left']
        rfl))
      clear hb HB3 HB2 HF2 HF3 HS2 HS3
      refine hid ?_
      go_wp2_with (first
        | ((with_reducible refine K.atO (.load 71 _) ?_); refine wpL_load rfl _ _ rfl b 0 rfl (Value.string (sb t.nm) :: r) _ HC3.out rfl rfl HI3.out ?_)
        | ((with_reducible refine K.atO (.call { callee := .value _, args := _, argTypes := _ }) ?_); refine wpL_callP rfl _ [_] _ rfl 107 [] rfl (fun vs w => by kernel_rfl) [.agg (Value.string (sb t.nm) :: r).toArray] rfl ?_)
        | fail)
      refine (className_any t.nm r HRL.out w3).mono ?_
      rintro e w4 ⟨rfl, f4⟩
      refine .inl ⟨_, rfl, ?_⟩
      have HF4 := hid (HFR3.out.trans' f4)
      clear f4
      go_wp2_with fail
      refine (slower_any t.nm HZ.out w4).mono ?_
      rintro e w5 ⟨rfl, f5⟩
      have HF5 := hid (HF4.out.trans' f5)
      have HM5 := hid (HI.out.1.fr HF5.out id)
      clear f5
      go_wp2_with (first
        | ((with_reducible refine K.atO (.mapUpdate _ _ _ _) ?_); refine wpL_upd rfl _ _ _ rfl bm i f rfl (low t.nm) i rfl rfl HM5.out (by unfold Sz; rw [low_length]; exact HZ.out) (by omega) ?_; intro w6 HM6 HF6)
        | fail)
      have HF6' : Hid (Fr No w w6) := hid ((HI.out.2.2.1.trans' HF5.out).trans HF6.out (fun k e => .inr (by have e : k = bm := e; have := HBM.out; omega)))
      have HS6 : Hid (bm < w6.heap.size) := hid (by have := HI.out.2.2.2; have := HF5.out.size; have := HF6.out.size; omega)
      refine ⟨⟨i + 1, _, by go_num, HLT.out, hid ⟨HM6.out, HP2.out, HF6'.out, HS6.out⟩⟩, ?_⟩
      have := HLT.out
      simp [intOf]; omega
    · obtain rfl : i = n := by omega
      have hR : f = R := by
        have h := HI.out.2.1
        rw [← HNN.out, List.drop_length] at h
        exact h
      have HRf := hid hR
      clear hR
      go_wp2_with fail
      go_ret
      exact ⟨bm, rfl, Nat.le_of_eq HBM.out, by rw [← HRf.out]; exact HI.out.1, HI.out.2.2.1⟩
/-! ### The maps say the places -/
theorem posM_at : ∀ (L : List B) (i : Nat) (f : B → Option Int) (key : B), L.Pairwise (fun a b => low a ≠ low b) → posM i L f key = match L.findIdx? (fun n => low n == key) with | some j => some ((i + j : Nat) : Int) | none => f key
  | [], _, _, _, _ => rfl
  | n :: r, i, f, key, h => by
    rw [List.pairwise_cons] at h
    rw [posM, posM_at r (i + 1) _ key h.2, List.findIdx?_cons]
    by_cases hk : low n = key
    · have : r.findIdx? (fun n => low n == key) = none := List.findIdx?_eq_none_iff.2 fun x hx => by
        have := h.1 x hx
        rw [beq_eq_false_iff_ne]
        intro e
        exact this (hk.trans e.symm)
      rw [this]
      have hb : (low n == key) = true := by simpa using hk
      rw [if_pos hb]
      simp [updM, hk]
    · have hb : ¬ (low n == key) = true := by simpa using hk
      rw [if_neg hb]
      cases r.findIdx? (fun n => low n == key) with
      | none => simp [updM, Ne.symm hk]
      | some j =>
        simp only [Option.map_some]
        congr 1
        omega
theorem pos_fnd {L : List B} (h : L.Pairwise (fun a b => low a ≠ low b)) (s : B) : posF L (low s) = (fnd L s).map (fun i : Nat => (i : Int)) := by
  unfold posF fnd
  rw [posM_at L 0 _ _ h]
  cases L.findIdx? (fun n => low n == low s) with
  | none => rfl
  | some j => simp
theorem fnd_none {L : List B} {s : B} (h : (fnd L s).isNone = true) : ∀ m ∈ L, low m ≠ low s := by
  unfold fnd at h
  rw [Option.isNone_iff_eq_none, List.findIdx?_eq_none_iff] at h
  intro m hm e
  have := h m hm
  rw [beq_eq_false_iff_ne] at this
  exact this e
theorem rTy_pw : ∀ (l : List Ty) (seen : List B), rTy seen l = true → (∀ m ∈ seen, ∀ t ∈ l, low m ≠ low t.nm) ∧ (l.map (·.nm)).Pairwise (fun a b => low a ≠ low b)
  | [], _, _ => ⟨fun _ _ t h => (by cases h), List.Pairwise.nil⟩
  | t :: r, seen, h => by
    simp only [rTy, newN, Bool.and_eq_true] at h
    obtain ⟨h1, h2⟩ := rTy_pw r _ h.2
    have h3 := fnd_none h.1.1.2
    refine ⟨fun m hm u hu => ?_, ?_⟩
    · rcases List.mem_cons.1 hu with rfl | hu
      · exact h3 m hm
      · exact h1 m (List.mem_append.2 (.inl hm)) u hu
    · rw [List.map_cons, List.pairwise_cons]
      refine ⟨fun m hm => ?_, h2⟩
      obtain ⟨u, hu, rfl⟩ := List.mem_map.1 hm
      exact h1 t.nm (List.mem_append.2 (.inr (by simp))) u hu
theorem rCl_pw : ∀ (l seen : List Cl) (tn : List B), rCl tn seen l = true → (∀ m ∈ seen, ∀ t ∈ l, low m.nm ≠ low t.nm) ∧ (l.map (·.nm)).Pairwise (fun a b => low a ≠ low b)
  | [], _, _, _ => ⟨fun _ _ t h => (by cases h), List.Pairwise.nil⟩
  | t :: r, seen, tn, h => by
    simp only [rCl, newN, Bool.and_eq_true] at h
    obtain ⟨h1, h2⟩ := rCl_pw r _ tn h.2
    have h3 := fnd_none h.1.1.1.1.1.2
    refine ⟨fun m hm u hu => ?_, ?_⟩
    · rcases List.mem_cons.1 hu with rfl | hu
      · exact h3 m.nm (List.mem_map_of_mem hm)
      · exact h1 m (List.mem_append.2 (.inl hm)) u hu
    · rw [List.map_cons, List.pairwise_cons]
      refine ⟨fun m hm => ?_, h2⟩
      obtain ⟨u, hu, rfl⟩ := List.mem_map.1 hm
      exact h1 t (List.mem_append.2 (.inr (by simp))) u hu
theorem okS_parts {s : Sch} (h : okS s = true) : rTy [] s.tys = true ∧ rCl s.tn [] s.cls = true := by
  unfold okS at h
  simp only [Bool.and_eq_true] at h
  exact ⟨h.2.1.2, h.2.2⟩
theorem tyAt_map {s : Sch} (h : okS s = true) (n : B) : posF s.tn (low n) = (s.tyAt n).map (fun i : Nat => (i : Int)) := pos_fnd (rTy_pw _ _ (okS_parts h).1).2 n
theorem clAt_map {s : Sch} (h : okS s = true) (n : B) : posF s.cn (low n) = (s.clAt n).map (fun i : Nat => (i : Int)) := pos_fnd (rCl_pw _ _ _ (okS_parts h).2).2 n
/-! ### build, typeAt, classAt -/
def Made (lo : Nat) (s : Sch) (tm cm : Value) (w : World) : Prop := ∃ bt bc n m, tm = .map (some bt) ∧ cm = .map (some bc) ∧ lo ≤ bt ∧ lo ≤ bc ∧ MpI w bt n (posF s.tn) ∧ MpI w bc m (posF s.cn)
theorem infoMp : (Tryz.prog.info? 85).map (·.size) = some 1 := by kernel_rfl
set_option maxHeartbeats 8000000 in
theorem build_any {S S2 : Nat → Prop} (b lo : Nat) (vt vc tm cm : Value) (s : Sch) (w : World) (hB : Blk w b 87 (schV vt vc 0 1 tm cm)) (ht : TysIn S w vt s.tys) (hc : ClsIn S2 w vc s.cls) (h1 : ∀ i, S i → i ≠ b) (h2 : ∀ i, S2 i → i ≠ b) (hlo : lo ≤ w.heap.size) :
    Calls Tryz.prog 86 #[.pointer (some ⟨b, 0, none⟩)] w fun e w' => e = .returned (.tuple #[]) ∧ ∃ tm' cm', Blk w' b 87 (schV vt vc 0 1 tm' cm') ∧ Fr (fun k => k = b) w w' ∧ Made lo s tm' cm' w' := by
  have HB := hid hB; have HT := hid ht; have HC := hid hc; have H1 := hid h1; have H2 := hid h2; have HLO := hid hlo
  have HBL := hid hB.lt
  have d0 : w.cell? ⟨b, 0, none⟩ = some vt := hB.cell 0
  obtain ⟨a, cp, e1, -, -⟩ := ht.form
  obtain ⟨a2, cp2, e2, -, -⟩ := hc.form
  generalize s.tys.length = n at e1
  generalize s.cls.length = m at e2
  subst e1 e2
  clear hB ht hc h1 h2 hlo
  go_enter Tryz.func86, Tryz.ntmps86
  go_wp2_with fail
  refine (posTy_any _ s.tys w HT.out).mono ?_
  rintro e w1 ⟨bt, rfl, hbt, hm1, f1⟩
  have HB1 := hid (HB.out.fr f1 id)
  have HF1 := hid f1; have HM1 := hid hm1; have HBT := hid hbt
  have HC1 : Hid (ClsIn S2 w1 (.slice a2 m cp2) s.cls) := hid (HC.out.fr (D := No) f1 (fun _ _ _ e => e))
  clear hbt hm1 f1 d0
  go_wp2_with (first
    | ((with_reducible refine K.atO (.store 85 _ _) ?_); (fail_if_success (have := HB2)); refine wpL_setV rfl _ _ _ rfl b 5 (.map (some bt)) rfl rfl rfl rfl 87 _ HB1.out (by simp [schV]) infoMp ?_; intro w2 HB2 F2 HS2; refine Hid.out ?_)
    | fail)
  have HB2' : Hid (Blk w2 b 87 (schV (.slice a n cp) (.slice a2 m cp2) 0 1 (.map (some bt)) cm)) := hid HB2.out
  have hne : ¬ bt = b := by have := HBT.out; have := HBL.out; omega
  have HM2 := hid (HM1.out.fr F2.out hne)
  have HF2 : Hid (Fr (fun k => k = b) w w2) := hid ((HF1.out.no).trans' F2.out)
  have HC2 : Hid (ClsIn S2 w2 (.slice a2 m cp2) s.cls) := hid (HC1.out.fr F2.out (fun i hi _ e => H2.out i hi e))
  have HNE := hid hne
  have d1 : w2.cell? ⟨b, 1, none⟩ = some (.slice a2 m cp2) := HB2'.out.cell 1
  clear HB2 F2 HS2 HM1 HF1 HC1 HB1 hne
  refine hid ?_
  go_wp2_with fail
  refine (posCl_any _ s.cls w2 HC2.out).mono ?_
  rintro e w3 ⟨bc, rfl, hbc, hm3, f3⟩
  have HB3 := hid (HB2'.out.fr f3 id)
  have HM3 := hid hm3; have HBC := hid hbc
  have HMt := hid (HM2.out.fr f3 id)
  have HF3 := hid (HF2.out.trans' f3.no)
  clear hbc hm3 f3 d1
  go_wp2_with (first
    | ((with_reducible refine K.atO (.store 85 _ _) ?_); refine wpL_setV rfl _ _ _ rfl b 6 (.map (some bc)) rfl rfl rfl rfl 87 _ HB3.out (by simp [schV]) infoMp ?_; intro w4 HB4 F4 HS4)
    | fail)
  go_end0
  have hne2 : ¬ bc = b := by have := HBC.out; have := HBL.out; have := HF2.out.size; omega
  exact ⟨rfl, .map (some bt), .map (some bc), HB4.out, HF3.out.trans' F4.out, bt, bc, _, _, rfl, rfl, Nat.le_trans HLO.out HBT.out, Nat.le_trans (Nat.le_trans HLO.out HF2.out.size) HBC.out, HMt.out.fr F4.out HNE.out, HM3.out.fr F4.out hne2⟩
/-- Behind Do the maps are there. -/
def Sy (w : World) (X : Nat → Prop) (b : Nat) (s : Sch) : Prop := ∃ vt vc bt bc n m, Blk w b 87 (schV vt vc 1 0 (.map (some bt)) (.map (some bc))) ∧ ¬ X b ∧ TysIn (Out X b) w vt s.tys ∧ ClsIn (Out X b) w vc s.cls ∧ okS s = true ∧ Out X b bt ∧ Out X b bc ∧ MpI w bt n (posF s.tn) ∧ MpI w bc m (posF s.cn)
theorem Sy.sx {w : World} {X : Nat → Prop} {b : Nat} {s : Sch} (h : Sy w X b s) : Sx w X b s := by
  obtain ⟨vt, vc, bt, bc, n, m, h1, h2, h3, h4, h5, h6, h7, h8, h9⟩ := h
  exact ⟨vt, vc, 1, _, _, h1, h2, h3, h4, h5, .inr ⟨rfl, bt, bc, n, m, rfl, rfl, h6, h7, h8, h9⟩⟩
theorem Sy.fr {X D : Nat → Prop} {w w' : World} {b : Nat} {s : Sch} (h : Sy w X b s) (hf : Fr D w w') (hd : ∀ k, D k → X k ∨ w.heap.size ≤ k) : Sy w' X b s := by
  obtain ⟨vt, vc, bt, bc, n, m, h1, h2, h3, h4, h5, h6, h7, h8, h9⟩ := h
  have hno : ∀ k, Out X b k → k < w.heap.size → ¬ D k := fun k ⟨h1, _⟩ hk hD => by
    rcases hd k hD with h | h
    · exact h1 h
    · omega
  refine ⟨vt, vc, bt, bc, n, m, h1.fr hf (fun hD => ?_), h2, h3.fr hf hno, h4.fr hf hno, h5, h6, h7, h8.fr hf (hno _ h6 h8.lt), h9.fr hf (hno _ h7 h9.lt)⟩
  rcases hd b hD with h | h
  · exact h2 h
  · have := h1.lt; omega
theorem do_any (X : Nat → Prop) (b : Nat) (s : Sch) (w : World) (h : Sx w X b s) (hX : ∀ k, X k → k < w.heap.size) :
    Calls Tryz.prog 85 #[.pointer (some ⟨b, 2, none⟩), .func (.func 86) #[.pointer (some ⟨b, 0, none⟩)] #[]] w fun e w' => e = .returned (.tuple #[]) ∧ Sy w' X b s ∧ Fr (fun k => k = b) w w' := by
  obtain ⟨vt, vc, d, tm, cm, h1, h2, h3, h4, h5, h6⟩ := h
  rcases h6 with ⟨rfl, rfl, rfl⟩ | ⟨rfl, bt, bc, n, m, rfl, rfl, g1, g2, g3, g4⟩
  · refine (do_first b vt vc (.map none) (.map none) 86 w (fun tm cm w2 => Made w.heap.size s tm cm w2 ∧ Fr (fun k => k = b) w w2) h1 (fun vs w => by kernel_rfl) (fun w1 hB1 hf1 => ?_)).mono ?_
    · refine (build_any b w.heap.size vt vc _ _ s w1 hB1 (h3.fr hf1 (fun i hi _ e => hi.2 e)) (h4.fr hf1 (fun i hi _ e => hi.2 e)) (fun i hi => hi.2) (fun i hi => hi.2) hf1.size).mono ?_
      rintro e w' ⟨rfl, tm', cm', k1, k2, k3⟩
      exact ⟨rfl, tm', cm', k1, k2, k3, hf1.trans' k2⟩
    · rintro e w' ⟨rfl, tm', cm', w2, ⟨⟨bt, bc, n, m, rfl, rfl, l1, l2, m1, m2⟩, hf2⟩, hB, hF, hF2⟩
      have hb := h1.lt
      have o1 : Out X b bt := ⟨fun hx => by have := hX bt hx; omega, by omega⟩
      have o2 : Out X b bc := ⟨fun hx => by have := hX bc hx; omega, by omega⟩
      exact ⟨rfl, ⟨vt, vc, bt, bc, n, m, hB, h2, h3.fr hF (fun i hi _ e => hi.2 e), h4.fr hF (fun i hi _ e => hi.2 e), h5, o1, o2, m1.fr hF2 o1.2, m2.fr hF2 o2.2⟩, hF⟩
  · refine (do_done b vt vc _ _ _ w h1).mono ?_
    rintro e w' ⟨rfl, rfl⟩
    exact ⟨rfl, ⟨vt, vc, bt, bc, n, m, h1, h2, h3, h4, h5, g1, g2, g3, g4⟩, Fr.refl _ _⟩
/-- A place, and whether there is one. -/
def atR (o : Option Nat) : Value := .tuple #[.int .i64 ((o.map (fun i : Nat => (i : Int))).getD 0), .bool (o.map (fun i : Nat => (i : Int))).isSome]
set_option maxHeartbeats 8000000 in
theorem typeAt_any (X : Nat → Prop) (b : Nat) (s : Sch) (n : B) (w : World) (h : Sx w X b s) (hX : ∀ k, X k → k < w.heap.size) (hz : Sz n) :
    Calls Tryz.prog 62 #[.pointer (some ⟨b, 0, none⟩), .string (sb n)] w fun e w' => e = .returned (atR (s.tyAt n)) ∧ Sy w' X b s ∧ Fr (fun k => k = b) w w' := by
  have HD := hid (do_any X b s w h hX)
  have HZ := hid hz
  have HMAP := hid (tyAt_map h.ok n)
  unfold atR
  obtain ⟨R, hR⟩ : ∃ R, (s.tyAt n).map (fun i : Nat => (i : Int)) = R := ⟨_, rfl⟩
  rw [hR] at HMAP ⊢
  clear h hX hz hR
  go_enter Tryz.func62, Tryz.ntmps62
  go_wp2_with fail
  refine HD.out.mono ?_
  rintro e w1 ⟨rfl, hs1, f1⟩
  have HS1 := hid hs1; have HF1 := hid f1
  obtain ⟨vt, vc, bt, bc, n1, m1, hB, -, -, -, -, o1, o2, hm1, hm2⟩ := hs1
  have HM := hid hm1
  have d5 : w1.cell? ⟨b, 5, none⟩ = some (.map (some bt)) := hB.cell 5
  clear f1 hB hm1 hm2 o1 o2 HD
  go_wp2_with fail
  have hold : Facts.hold [(3, fun w' => w'.cell? ⟨b, 5, none⟩ = some (.map (some bt))), (6, fun w' => MpI w' bt n1 (posF s.tn))] w1.drew := Facts.cons_hold d5 (Facts.cons_hold (HM.out.fr ((Fr.refl No w1).drew) id) (Facts.nil_hold _))
  refine wpD_region hold (by kernel_rfl) 12 rfl ?_
  (refine wpD_plain 0 (v := ?_) rfl (by kernel_rfl) (by kernel_rfl) (by kernel_rfl) (fun _ _ _ h => h) (by rfl) ?_ (by assumption) ?_; rotate_left; (intro _w; go_simp; try with_reducible rfl); simp only [Act.put, K.put3])
  (refine wpD_plain 1 (v := ?_) rfl (by kernel_rfl) (by kernel_rfl) (by kernel_rfl) (fun _ _ _ h => h) (by rfl) ?_ (by assumption) ?_; rotate_left; (intro _w; go_simp; try with_reducible rfl); simp only [Act.put, K.put3])
  (refine wpD_plain 2 (v := ?_) rfl (by kernel_rfl) (by kernel_rfl) (by kernel_rfl) (fun _ _ _ h => h) (by rfl) ?_ (by assumption) ?_; rotate_left; (intro _w; go_simp; try with_reducible rfl); simp only [Act.put, K.put3])
  (refine wpD_plain 4 (v := ?_) rfl (by kernel_rfl) (by kernel_rfl) (by kernel_rfl) (fun _ _ _ h => h) (by rfl) ?_ (by assumption) ?_; rotate_left; (intro _w; go_simp; try with_reducible rfl); simp only [Act.put, K.put3])
  (refine wpD_take 3 _ rfl (by kernel_rfl) (by kernel_rfl) (by kernel_rfl) (fun _ _ _ h => h) List.mem_cons_self (by rfl) (v := ?_) ?_ (by assumption) ?_; rotate_left; (intro _w _hw; go_simp; try with_reducible rfl); simp only [Act.put, K.put3])
  clear hold
  refine wpD_only 5 [(3, fun w' => w'.cell? ⟨b, 5, none⟩ = some (.map (some bt))), (6, fun w' => MpI w' bt n1 (posF s.tn))] rfl (by kernel_rfl) (by kernel_rfl) (by rfl) (fun K5 hK5 => ?_)
  refine wp_call _ _ _ rfl 87 [] rfl (fun vs w => by kernel_rfl) [.string (sb n)] (by rfl) ?_
  refine (slower_any n HZ.out w1.drew).mono ?_
  rintro e w2 ⟨rfl, f2⟩
  have HF2 := hid (HF1.out.trans' ((Fr.refl (fun k => k = b) w1).drew.trans' f2.no))
  have HS2 := hid (HS1.out.fr ((Fr.refl No w1).drew.trans' f2) (fun _ e => e.elim))
  have HM2 := hid (HM.out.fr ((Fr.refl No w1).drew.trans' f2) id)
  have d52 : w2.cell? ⟨b, 5, none⟩ = some (.map (some bt)) := f2.cell (show w1.drew.cell? _ = _ from d5) id
  refine ⟨_, rfl, hK5 _ _ (Facts.cons_hold d52 (Facts.cons_hold HM2.out (Facts.nil_hold _))) ?_⟩
  clear hK5 K5 f2 d5
  simp only [Act.put, K.put3]
  have hold : Facts.hold [(3, fun w' => w'.cell? ⟨b, 5, none⟩ = some (.map (some bt))), (6, fun w' => MpI w' bt n1 (posF s.tn))] w2 := Facts.cons_hold d52 (Facts.cons_hold HM2.out (Facts.nil_hold _))
  (refine wpD_take 6 _ rfl (by kernel_rfl) (by kernel_rfl) (by kernel_rfl) (fun _ _ _ h => h) (List.mem_cons_of_mem _ List.mem_cons_self) (by rfl) (v := .tuple #[.int .i64 (R.getD 0), .bool R.isSome]) (fun w' hw' => by rw [← HMAP.out]; exact exec_look2 _ _ rfl bt n1 _ rfl (low n) rfl hw' (by unfold Sz; rw [low_length]; exact HZ.out)) (by assumption) ?_; simp only [Act.put, K.put3])
  (refine wpD_plain 7 (v := ?_) rfl (by kernel_rfl) (by kernel_rfl) (by kernel_rfl) (fun _ _ _ h => h) (by rfl) ?_ (by assumption) ?_; rotate_left; (intro _w; go_simp; try with_reducible rfl); simp only [Act.put, K.put3])
  (refine wpD_plain 8 (v := ?_) rfl (by kernel_rfl) (by kernel_rfl) (by kernel_rfl) (fun _ _ _ h => h) (by rfl) ?_ (by assumption) ?_; rotate_left; (intro _w; go_simp; try with_reducible rfl); simp only [Act.put, K.put3])
  (refine wpD_plain 9 (v := ?_) rfl (by kernel_rfl) (by kernel_rfl) (by kernel_rfl) (fun _ _ _ h => h) (by rfl) ?_ (by assumption) ?_; rotate_left; (intro _w; go_simp; try with_reducible rfl); simp only [Act.put, K.put3])
  (refine wpD_plain 10 (v := ?_) rfl (by kernel_rfl) (by kernel_rfl) (by kernel_rfl) (fun _ _ _ h => h) (by rfl) ?_ (by assumption) ?_; rotate_left; (intro _w; go_simp; try with_reducible rfl); simp only [Act.put, K.put3])
  (refine wpD_plain 11 (v := ?_) rfl (by kernel_rfl) (by kernel_rfl) (by kernel_rfl) (fun _ _ _ h => h) (by rfl) ?_ (by assumption) ?_; rotate_left; (intro _w; go_simp; try with_reducible rfl); simp only [Act.put, K.put3])
  clear hold
  refine wpD_done (by kernel_rfl) ?_ _
  go_wp2_with fail
  go_ret2
  exact ⟨rfl, HS2.out, HF2.out⟩
set_option maxHeartbeats 8000000 in
theorem classAt_any (X : Nat → Prop) (b : Nat) (s : Sch) (n : B) (w : World) (h : Sx w X b s) (hX : ∀ k, X k → k < w.heap.size) (hz : Sz n) :
    Calls Tryz.prog 47 #[.pointer (some ⟨b, 0, none⟩), .string (sb n)] w fun e w' => e = .returned (atR (s.clAt n)) ∧ Sy w' X b s ∧ Fr (fun k => k = b) w w' := by
  have HD := hid (do_any X b s w h hX)
  have HZ := hid hz
  have HMAP := hid (clAt_map h.ok n)
  unfold atR
  obtain ⟨R, hR⟩ : ∃ R, (s.clAt n).map (fun i : Nat => (i : Int)) = R := ⟨_, rfl⟩
  rw [hR] at HMAP ⊢
  clear h hX hz hR
  go_enter Tryz.func47, Tryz.ntmps47
  go_wp2_with fail
  refine HD.out.mono ?_
  rintro e w1 ⟨rfl, hs1, f1⟩
  have HS1 := hid hs1; have HF1 := hid f1
  obtain ⟨vt, vc, bt, bc, n1, m1, hB, -, -, -, -, o1, o2, hm1, hm2⟩ := hs1
  have HM := hid hm2
  have d5 : w1.cell? ⟨b, 6, none⟩ = some (.map (some bc)) := hB.cell 6
  clear f1 hB hm1 hm2 o1 o2 HD
  go_wp2_with fail
  have hold : Facts.hold [(3, fun w' => w'.cell? ⟨b, 6, none⟩ = some (.map (some bc))), (6, fun w' => MpI w' bc m1 (posF s.cn))] w1.drew := Facts.cons_hold d5 (Facts.cons_hold (HM.out.fr ((Fr.refl No w1).drew) id) (Facts.nil_hold _))
  refine wpD_region hold (by kernel_rfl) 12 rfl ?_
  (refine wpD_plain 0 (v := ?_) rfl (by kernel_rfl) (by kernel_rfl) (by kernel_rfl) (fun _ _ _ h => h) (by rfl) ?_ (by assumption) ?_; rotate_left; (intro _w; go_simp; try with_reducible rfl); simp only [Act.put, K.put3])
  (refine wpD_plain 1 (v := ?_) rfl (by kernel_rfl) (by kernel_rfl) (by kernel_rfl) (fun _ _ _ h => h) (by rfl) ?_ (by assumption) ?_; rotate_left; (intro _w; go_simp; try with_reducible rfl); simp only [Act.put, K.put3])
  (refine wpD_plain 2 (v := ?_) rfl (by kernel_rfl) (by kernel_rfl) (by kernel_rfl) (fun _ _ _ h => h) (by rfl) ?_ (by assumption) ?_; rotate_left; (intro _w; go_simp; try with_reducible rfl); simp only [Act.put, K.put3])
  (refine wpD_plain 4 (v := ?_) rfl (by kernel_rfl) (by kernel_rfl) (by kernel_rfl) (fun _ _ _ h => h) (by rfl) ?_ (by assumption) ?_; rotate_left; (intro _w; go_simp; try with_reducible rfl); simp only [Act.put, K.put3])
  (refine wpD_take 3 _ rfl (by kernel_rfl) (by kernel_rfl) (by kernel_rfl) (fun _ _ _ h => h) List.mem_cons_self (by rfl) (v := ?_) ?_ (by assumption) ?_; rotate_left; (intro _w _hw; go_simp; try with_reducible rfl); simp only [Act.put, K.put3])
  clear hold
  refine wpD_only 5 [(3, fun w' => w'.cell? ⟨b, 6, none⟩ = some (.map (some bc))), (6, fun w' => MpI w' bc m1 (posF s.cn))] rfl (by kernel_rfl) (by kernel_rfl) (by rfl) (fun K5 hK5 => ?_)
  refine wp_call _ _ _ rfl 87 [] rfl (fun vs w => by kernel_rfl) [.string (sb n)] (by rfl) ?_
  refine (slower_any n HZ.out w1.drew).mono ?_
  rintro e w2 ⟨rfl, f2⟩
  have HF2 := hid (HF1.out.trans' ((Fr.refl (fun k => k = b) w1).drew.trans' f2.no))
  have HS2 := hid (HS1.out.fr ((Fr.refl No w1).drew.trans' f2) (fun _ e => e.elim))
  have HM2 := hid (HM.out.fr ((Fr.refl No w1).drew.trans' f2) id)
  have d52 : w2.cell? ⟨b, 6, none⟩ = some (.map (some bc)) := f2.cell (show w1.drew.cell? _ = _ from d5) id
  refine ⟨_, rfl, hK5 _ _ (Facts.cons_hold d52 (Facts.cons_hold HM2.out (Facts.nil_hold _))) ?_⟩
  clear hK5 K5 f2 d5
  simp only [Act.put, K.put3]
  have hold : Facts.hold [(3, fun w' => w'.cell? ⟨b, 6, none⟩ = some (.map (some bc))), (6, fun w' => MpI w' bc m1 (posF s.cn))] w2 := Facts.cons_hold d52 (Facts.cons_hold HM2.out (Facts.nil_hold _))
  (refine wpD_take 6 _ rfl (by kernel_rfl) (by kernel_rfl) (by kernel_rfl) (fun _ _ _ h => h) (List.mem_cons_of_mem _ List.mem_cons_self) (by rfl) (v := .tuple #[.int .i64 (R.getD 0), .bool R.isSome]) (fun w' hw' => by rw [← HMAP.out]; exact exec_look2 _ _ rfl bc m1 _ rfl (low n) rfl hw' (by unfold Sz; rw [low_length]; exact HZ.out)) (by assumption) ?_; simp only [Act.put, K.put3])
  (refine wpD_plain 7 (v := ?_) rfl (by kernel_rfl) (by kernel_rfl) (by kernel_rfl) (fun _ _ _ h => h) (by rfl) ?_ (by assumption) ?_; rotate_left; (intro _w; go_simp; try with_reducible rfl); simp only [Act.put, K.put3])
  (refine wpD_plain 8 (v := ?_) rfl (by kernel_rfl) (by kernel_rfl) (by kernel_rfl) (fun _ _ _ h => h) (by rfl) ?_ (by assumption) ?_; rotate_left; (intro _w; go_simp; try with_reducible rfl); simp only [Act.put, K.put3])
  (refine wpD_plain 9 (v := ?_) rfl (by kernel_rfl) (by kernel_rfl) (by kernel_rfl) (fun _ _ _ h => h) (by rfl) ?_ (by assumption) ?_; rotate_left; (intro _w; go_simp; try with_reducible rfl); simp only [Act.put, K.put3])
  (refine wpD_plain 10 (v := ?_) rfl (by kernel_rfl) (by kernel_rfl) (by kernel_rfl) (fun _ _ _ h => h) (by rfl) ?_ (by assumption) ?_; rotate_left; (intro _w; go_simp; try with_reducible rfl); simp only [Act.put, K.put3])
  (refine wpD_plain 11 (v := ?_) rfl (by kernel_rfl) (by kernel_rfl) (by kernel_rfl) (fun _ _ _ h => h) (by rfl) ?_ (by assumption) ?_; rotate_left; (intro _w; go_simp; try with_reducible rfl); simp only [Act.put, K.put3])
  clear hold
  refine wpD_done (by kernel_rfl) ?_ _
  go_wp2_with fail
  go_ret2
  exact ⟨rfl, HS2.out, HF2.out⟩
end Go.Proofs.YtdkkpfeiaaffhaaGreatDoor.SC

namespace Go.Proofs.YtdkkpfeiaaffhaaGreatDoor.DN
set_option maxRecDepth 100000
open Go.Proofs.YtdkkpfeiaaffhaaGreatDoor.BE

theorem parse_ok {s : B} {x : Nm} (h : parse s = (x, 0)) : s.length ≤ 400 ∧ read s = some x ∧ built x = true := by
  unfold parse at h
  split at h
  · cases h
  · rename_i hl
    cases hr : read s with
    | none => rw [hr] at h; cases h
    | some n =>
      rw [hr] at h
      simp only at h
      split at h
      · rename_i hb
        cases h
        exact ⟨by omega, rfl, hb⟩
      · cases h
end Go.Proofs.YtdkkpfeiaaffhaaGreatDoor.DN
