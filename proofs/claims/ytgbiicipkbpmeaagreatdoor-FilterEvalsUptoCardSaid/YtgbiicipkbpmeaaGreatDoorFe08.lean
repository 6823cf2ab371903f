/-
  Part 8 of the proof: ScS, DnJ, DnO.
-/
import Derived.Test.YtgbiicipkbpmeaaGreatDoorFe07
import Derived.Test.YtgbiicipkbpmeaaGreatDoorFe02
import Derived.Test.YtgbiicipkbpmeaaGreatDoorFe01
set_option linter.unusedSimpArgs false
set_option linter.unusedVariables false
namespace Go.Proofs.YtgbiicipkbpmeaaGreatDoor.SC
set_option maxRecDepth 100000
set_option maxHeartbeats 128000000
open Go.RowKit K BE DN
theorem posTy_any {S : Nat → Prop} (v : Value) (X : List Ty) (w : World) (h : TysIn S w v X) :
  Calls Tryz.prog 88 #[v, .func (.func 78) #[] #[]] w fun e w' => ∃ bm, e = .returned (.map (some bm)) ∧ w.heap.size ≤ bm ∧ MpI w' bm X.length (posF (X.map (·.nm))) ∧ Fr No w w' := by
 have HX := hid h
 obtain ⟨a, cp, rfl, hcap, hl⟩ := h.form
 obtain ⟨R, hR⟩ : ∃ R, posF (X.map (·.nm)) = R := ⟨_, rfl⟩
 rw [hR]
 have HR : Hid (posM 0 ((X.drop 0).map (·.nm)) (fun _ => none) = R) := hid hR
 obtain ⟨n, hn⟩ : ∃ n, X.length = n := ⟨_, rfl⟩
 have HNN := hid hn
 rw [hn] at HX hcap hl ⊢
 have hni : (n : Int) ≤ 140737488351232 := by omega
 clear h hR hn hcap
 go_enter Tryz.func88, Tryz.ntmps88
 go_wp2_with (first
  | ((with_reducible refine K.atO (.makeMap _ _) ?_); refine wpL_makeMap rfl _ rfl ?_; intro w1 HM1 HF1 HS1))
 obtain ⟨bm, hbm⟩ : ∃ b, w.heap.size = b := ⟨_, rfl⟩
 have HBM := hid hbm
 rw [hbm] at HM1 ⊢
 have HSz : Hid (bm < w1.heap.size) := hid (by rw [← hbm]; have := HS1.out; omega)
 clear hbm HS1
 go_loopw [11] (fun iv wr => ∃ (i : Nat) (f : B → Option Int), iv = .int .i64 i ∧ i ≤ n ∧ Hid (MpI wr bm i f ∧ posM i ((X.drop i).map (·.nm)) f = R ∧ Fr No w wr ∧ bm < wr.heap.size)) (fun iv _ => n - (intOf iv).toNat)
 case atStart => exact ⟨0, _, rfl, Nat.zero_le _, hid ⟨HM1.out, HR.out, HF1.out, HSz.out⟩⟩
 case round =>
  obtain ⟨i, f, rfl, hi, HI⟩ := hrel
  by_cases hlt : i < n
  ·obtain ⟨t, ht⟩ : ∃ t, X[i]? = some t := ⟨_, List.getElem?_eq_getElem (by rw [HNN.out]; exact hlt)⟩
   have hlti : (i : Int) < n := by omega
   have hi0 : (0 : Int) ≤ i := by omega
   obtain ⟨g, o, cq, c, e1, -, -, hr, -, hp⟩ := (TysIn.fr (D := No) HX.out HI.out.2.2.1 (fun _ _ _ e => e)).get ht
   rw [HNN.out] at e1
   obtain ⟨rfl, rfl⟩ := K.sj e1
   obtain ⟨r, rfl, hrl, hz, hone⟩ := (show ∃ r, c = Value.string (sb t.nm) :: r ∧ r.length = 5 ∧ Sz t.nm ∧ ∀ v ∈ Value.string (sb t.nm) :: r, v.oneCell' = true from ⟨_, hp.1, rfl, hp.2, oneTy t⟩)
   have HRR := hid hr; have HZ := hid hz; have HRL := hid hrl
   obtain ⟨hdrop, -⟩ := drop_at ht
   have HP2 : Hid (posM (i + 1) ((X.drop (i + 1)).map (·.nm)) (updM f (low t.nm) i) = R) := hid (by
    have h := HI.out.2.1
    rw [hdrop] at h
    exact h)
   have HI3 : Hid ((Tryz.prog.info? 53).map (·.size) = some (Value.string (sb t.nm) :: r).length) := hid (by rw [List.length_cons, hrl]; exact infoTy)
   have HLE : Hid (0 + (Value.string (sb t.nm) :: r).length ≤ ([.string ⟨#[]⟩, .int .i64 0, .bool false, .bool false, .bool false, .bool false] : List Value).length) := hid (by rw [List.length_cons, hrl]; decide)
   have HONE := hid hone
   have HLT := hid hlt
   clear hr hz ht hdrop hi hlt hrl hone
   go_wp2_with (first
    | ((with_reducible refine K.atO (.load 53 _) ?_); (fail_if_success (have := HB2)); refine wpL_load rfl _ _ rfl g (o + i * 6) rfl (Value.string (sb t.nm) :: r) _ HRR.out rfl rfl HI3.out ?_)
    | ((with_reducible refine K.atO (.alloc 53) ?_); refine wpL_alloc rfl _ rfl _ zeroTy [.string ⟨#[]⟩, .int .i64 0, .bool false, .bool false, .bool false, .bool false] rfl ?_; intro w2 HB2 HF2 HS2)
    | ((with_reducible refine K.atO (.store 53 _ _) ?_); refine wpL_store rfl _ _ _ rfl wr.heap.size 0 (Value.string (sb t.nm) :: r) rfl rfl 53 _ HB2.out HLE.out HI3.out HONE.out ?_; intro w3 HB3 HF3 HS3; refine Hid.out ?_))
   have HFR3 : Hid (Fr No wr w3) := hid (HF2.out.trans HF3.out fun k e => .inr (by have e : k = wr.heap.size := e; omega))
   obtain ⟨b, hb⟩ : ∃ b, wr.heap.size = b := ⟨_, rfl⟩
   rw [hb] at HB3 ⊢
   have HC3 : Hid (w3.rangeAt b 0 (Value.string (sb t.nm) :: r)) := hid (HB3.out.range 0 _ (by
    have hz : ([.string ⟨#[]⟩, .int .i64 0, .bool false, .bool false, .bool false, .bool false] : List Value).length = 6 := rfl
    have := HRL.out
    unfold spl
    rw [List.take_zero, List.nil_append, List.drop_zero, List.take_left']
    rfl))
   clear hb HB3 HB2 HF2 HF3 HS2 HS3
   refine hid ?_
   go_wp2_with (first
    | ((with_reducible refine K.atO (.load 53 _) ?_); refine wpL_load rfl _ _ rfl b 0 rfl (Value.string (sb t.nm) :: r) _ HC3.out rfl rfl HI3.out ?_)
    | ((with_reducible refine K.atO (.call { callee := .value _, args := _, argTypes := _ }) ?_); refine wpL_callP rfl _ [_] _ rfl 78 [] rfl (fun vs w => by kernel_rfl) [.agg (Value.string (sb t.nm) :: r).toArray] rfl ?_))
   refine (typeName_any t.nm r HRL.out w3).mono ?_
   rintro e w4 ⟨rfl, f4⟩
   refine .inl ⟨_, rfl, ?_⟩
   have HF4 := hid (HFR3.out.trans' f4)
   clear f4
   go_wp2_with fail
   refine (slower_any t.nm HZ.out w4).mono ?_
   rintro e w5 ⟨rfl, f5⟩
   have HF5 := hid (HF4.out.trans' f5)
   have HM5 := hid (HI.out.1.fr HF5.out id)
   clear f5
   go_wp2_with (first
    | ((with_reducible refine K.atO (.mapUpdate _ _ _ _) ?_); refine wpL_upd rfl _ _ _ rfl bm i f rfl (low t.nm) i rfl rfl HM5.out (by unfold Sz; rw [low_length]; exact HZ.out) (by omega) ?_; intro w6 HM6 HF6))
   have HF6' : Hid (Fr No w w6) := hid ((HI.out.2.2.1.trans' HF5.out).trans HF6.out (fun k e => .inr (by have e : k = bm := e; have := HBM.out; omega)))
   have HS6 : Hid (bm < w6.heap.size) := hid (by have := HI.out.2.2.2; have := HF5.out.size; have := HF6.out.size; omega)
   refine ⟨⟨i + 1, _, by go_num, HLT.out, hid ⟨HM6.out, HP2.out, HF6'.out, HS6.out⟩⟩, ?_⟩
   have := HLT.out
   simp [intOf]; omega
  ·obtain rfl : i = n := by omega
   have hR : f = R := by
    have h := HI.out.2.1
    rw [← HNN.out, List.drop_length] at h
    exact h
   have HRf := hid hR
   clear hR
   go_wp2_with fail
   go_ret
   exact ⟨bm, rfl, Nat.le_of_eq HBM.out, by rw [← HRf.out]; exact HI.out.1, HI.out.2.2.1⟩
theorem posCl_any {S : Nat → Prop} (v : Value) (X : List Cl) (w : World) (h : ClsIn S w v X) :
  Calls Tryz.prog 89 #[v, .func (.func 82) #[] #[]] w fun e w' => ∃ bm, e = .returned (.map (some bm)) ∧ w.heap.size ≤ bm ∧ MpI w' bm X.length (posF (X.map (·.nm))) ∧ Fr No w w' := by
 have HX := hid h
 obtain ⟨a, cp, rfl, hcap, hl⟩ := h.form
 obtain ⟨R, hR⟩ : ∃ R, posF (X.map (·.nm)) = R := ⟨_, rfl⟩
 rw [hR]
 have HR : Hid (posM 0 ((X.drop 0).map (·.nm)) (fun _ => none) = R) := hid hR
 obtain ⟨n, hn⟩ : ∃ n, X.length = n := ⟨_, rfl⟩
 have HNN := hid hn
 rw [hn] at HX hcap hl ⊢
 have hni : (n : Int) ≤ 140737488351232 := by omega
 clear h hR hn hcap
 go_enter Tryz.func89, Tryz.ntmps89
 go_wp2_with (first
  | ((with_reducible refine K.atO (.makeMap _ _) ?_); refine wpL_makeMap rfl _ rfl ?_; intro w1 HM1 HF1 HS1))
 obtain ⟨bm, hbm⟩ : ∃ b, w.heap.size = b := ⟨_, rfl⟩
 have HBM := hid hbm
 rw [hbm] at HM1 ⊢
 have HSz : Hid (bm < w1.heap.size) := hid (by rw [← hbm]; have := HS1.out; omega)
 clear hbm HS1
 go_loopw [11] (fun iv wr => ∃ (i : Nat) (f : B → Option Int), iv = .int .i64 i ∧ i ≤ n ∧ Hid (MpI wr bm i f ∧ posM i ((X.drop i).map (·.nm)) f = R ∧ Fr No w wr ∧ bm < wr.heap.size)) (fun iv _ => n - (intOf iv).toNat)
 case atStart => exact ⟨0, _, rfl, Nat.zero_le _, hid ⟨HM1.out, HR.out, HF1.out, HSz.out⟩⟩
 case round =>
  obtain ⟨i, f, rfl, hi, HI⟩ := hrel
  by_cases hlt : i < n
  ·obtain ⟨t, ht⟩ : ∃ t, X[i]? = some t := ⟨_, List.getElem?_eq_getElem (by rw [HNN.out]; exact hlt)⟩
   have hlti : (i : Int) < n := by omega
   have hi0 : (0 : Int) ≤ i := by omega
   obtain ⟨g, o, cq, c, e1, -, -, hr, -, hp⟩ := (ClsIn.fr (D := No) HX.out HI.out.2.2.1 (fun _ _ _ e => e)).get ht
   rw [HNN.out] at e1
   obtain ⟨rfl, rfl⟩ := K.sj e1
   obtain ⟨r, rfl, hrl, hz, hone⟩ := (show ∃ r, c = Value.string (sb t.nm) :: r ∧ r.length = 4 ∧ Sz t.nm ∧ ∀ v ∈ Value.string (sb t.nm) :: r, v.oneCell' = true from by
    obtain ⟨v1, v2, e, h1, h2, h3, h4, -⟩ := hp
    exact ⟨_, e, rfl, h1, oneCl t (by obtain ⟨a, cp, rfl, -⟩ := h3.form; rfl) (by obtain ⟨a, cp, rfl, -⟩ := h4.form; rfl)⟩)
   have HRR := hid hr; have HZ := hid hz; have HRL := hid hrl
   obtain ⟨hdrop, -⟩ := drop_at ht
   have HP2 : Hid (posM (i + 1) ((X.drop (i + 1)).map (·.nm)) (updM f (low t.nm) i) = R) := hid (by
    have h := HI.out.2.1
    rw [hdrop] at h
    exact h)
   have HI3 : Hid ((Tryz.prog.info? 55).map (·.size) = some (Value.string (sb t.nm) :: r).length) := hid (by rw [List.length_cons, hrl]; exact infoCl)
   have HLE : Hid (0 + (Value.string (sb t.nm) :: r).length ≤ ([.string ⟨#[]⟩, .int .i64 0, .string ⟨#[]⟩, .slice none 0 0, .slice none 0 0] : List Value).length) := hid (by rw [List.length_cons, hrl]; decide)
   have HONE := hid hone
   have HLT := hid hlt
   clear hr hz ht hdrop hi hlt hrl hone
   go_wp2_with (first
    | ((with_reducible refine K.atO (.load 55 _) ?_); (fail_if_success (have := HB2)); refine wpL_load rfl _ _ rfl g (o + i * 5) rfl (Value.string (sb t.nm) :: r) _ HRR.out rfl rfl HI3.out ?_)
    | ((with_reducible refine K.atO (.alloc 55) ?_); refine wpL_alloc rfl _ rfl _ zeroCl [.string ⟨#[]⟩, .int .i64 0, .string ⟨#[]⟩, .slice none 0 0, .slice none 0 0] rfl ?_; intro w2 HB2 HF2 HS2)
    | ((with_reducible refine K.atO (.store 55 _ _) ?_); refine wpL_store rfl _ _ _ rfl wr.heap.size 0 (Value.string (sb t.nm) :: r) rfl rfl 55 _ HB2.out HLE.out HI3.out HONE.out ?_; intro w3 HB3 HF3 HS3; refine Hid.out ?_))
   have HFR3 : Hid (Fr No wr w3) := hid (HF2.out.trans HF3.out fun k e => .inr (by have e : k = wr.heap.size := e; omega))
   obtain ⟨b, hb⟩ : ∃ b, wr.heap.size = b := ⟨_, rfl⟩
   rw [hb] at HB3 ⊢
   have HC3 : Hid (w3.rangeAt b 0 (Value.string (sb t.nm) :: r)) := hid (HB3.out.range 0 _ (by
    have hz : ([.string ⟨#[]⟩, .int .i64 0, .string ⟨#[]⟩, .slice none 0 0, .slice none 0 0] : List Value).length = 5 := rfl
    have := HRL.out
    unfold spl
    rw [List.take_zero, List.nil_append, List.drop_zero, List.take_left']
    rfl))
   clear hb HB3 HB2 HF2 HF3 HS2 HS3
   refine hid ?_
   go_wp2_with (first
    | ((with_reducible refine K.atO (.load 55 _) ?_); refine wpL_load rfl _ _ rfl b 0 rfl (Value.string (sb t.nm) :: r) _ HC3.out rfl rfl HI3.out ?_)
    | ((with_reducible refine K.atO (.call { callee := .value _, args := _, argTypes := _ }) ?_); refine wpL_callP rfl _ [_] _ rfl 82 [] rfl (fun vs w => by kernel_rfl) [.agg (Value.string (sb t.nm) :: r).toArray] rfl ?_))
   refine (className_any t.nm r HRL.out w3).mono ?_
   rintro e w4 ⟨rfl, f4⟩
   refine .inl ⟨_, rfl, ?_⟩
   have HF4 := hid (HFR3.out.trans' f4)
   clear f4
   go_wp2_with fail
   refine (slower_any t.nm HZ.out w4).mono ?_
   rintro e w5 ⟨rfl, f5⟩
   have HF5 := hid (HF4.out.trans' f5)
   have HM5 := hid (HI.out.1.fr HF5.out id)
   clear f5
   go_wp2_with (first
    | ((with_reducible refine K.atO (.mapUpdate _ _ _ _) ?_); refine wpL_upd rfl _ _ _ rfl bm i f rfl (low t.nm) i rfl rfl HM5.out (by unfold Sz; rw [low_length]; exact HZ.out) (by omega) ?_; intro w6 HM6 HF6))
   have HF6' : Hid (Fr No w w6) := hid ((HI.out.2.2.1.trans' HF5.out).trans HF6.out (fun k e => .inr (by have e : k = bm := e; have := HBM.out; omega)))
   have HS6 : Hid (bm < w6.heap.size) := hid (by have := HI.out.2.2.2; have := HF5.out.size; have := HF6.out.size; omega)
   refine ⟨⟨i + 1, _, by go_num, HLT.out, hid ⟨HM6.out, HP2.out, HF6'.out, HS6.out⟩⟩, ?_⟩
   have := HLT.out
   simp [intOf]; omega
  ·obtain rfl : i = n := by omega
   have hR : f = R := by
    have h := HI.out.2.1
    rw [← HNN.out, List.drop_length] at h
    exact h
   have HRf := hid hR
   clear hR
   go_wp2_with fail
   go_ret
   exact ⟨bm, rfl, Nat.le_of_eq HBM.out, by rw [← HRf.out]; exact HI.out.1, HI.out.2.2.1⟩
theorem posM_at : ∀ (L : List B) (i : Nat) (f : B → Option Int) (key : B), L.Pairwise (fun a b => low a ≠ low b) → posM i L f key = match L.findIdx? (fun n => low n == key) with | some j => some ((i + j : Nat) : Int) | none => f key
 | [], _, _, _, _ => rfl
 | n :: r, i, f, key, h => by
  rw [List.pairwise_cons] at h
  rw [posM, posM_at r (i + 1) _ key h.2, List.findIdx?_cons]
  by_cases hk : low n = key
  ·have : r.findIdx? (fun n => low n == key) = none := List.findIdx?_eq_none_iff.2 fun x hx => by
    have := h.1 x hx
    rw [beq_eq_false_iff_ne]
    intro e
    exact this (hk.trans e.symm)
   rw [this]
   have hb : (low n == key) = true := by simpa using hk
   rw [if_pos hb]
   simp [updM, hk]
  ·have hb : ¬ (low n == key) = true := by simpa using hk
   rw [if_neg hb]
   cases r.findIdx? (fun n => low n == key) with
   | none => simp [updM, Ne.symm hk]
   | some j =>
    simp only [Option.map_some]
    congr 1
    omega
theorem pos_fnd {L : List B} (h : L.Pairwise (fun a b => low a ≠ low b)) (s : B) : posF L (low s) = (fnd L s).map (fun i : Nat => (i : Int)) := by
 unfold posF fnd
 rw [posM_at L 0 _ _ h]
 cases L.findIdx? (fun n => low n == low s) with
 | none => rfl
 | some j => simp
theorem fnd_none {L : List B} {s : B} (h : (fnd L s).isNone = true) : ∀ m ∈ L, low m ≠ low s := by
 unfold fnd at h
 rw [Option.isNone_iff_eq_none, List.findIdx?_eq_none_iff] at h
 intro m hm e
 have := h m hm
 rw [beq_eq_false_iff_ne] at this
 exact this e
theorem rTy_pw : ∀ (l : List Ty) (seen : List B), rTy seen l = true → (∀ m ∈ seen, ∀ t ∈ l, low m ≠ low t.nm) ∧ (l.map (·.nm)).Pairwise (fun a b => low a ≠ low b)
 | [], _, _ => ⟨fun _ _ t h => (by cases h), List.Pairwise.nil⟩
 | t :: r, seen, h => by
  simp only [rTy, newN, Bool.and_eq_true] at h
  obtain ⟨h1, h2⟩ := rTy_pw r _ h.2
  have h3 := fnd_none h.1.1.2
  refine ⟨fun m hm u hu => ?_, ?_⟩
  ·rcases List.mem_cons.1 hu with rfl | hu
   ·exact h3 m hm
   ·exact h1 m (List.mem_append.2 (.inl hm)) u hu
  ·rw [List.map_cons, List.pairwise_cons]
   refine ⟨fun m hm => ?_, h2⟩
   obtain ⟨u, hu, rfl⟩ := List.mem_map.1 hm
   exact h1 t.nm (List.mem_append.2 (.inr (by simp))) u hu
theorem rCl_pw : ∀ (l seen : List Cl) (tn : List B), rCl tn seen l = true → (∀ m ∈ seen, ∀ t ∈ l, low m.nm ≠ low t.nm) ∧ (l.map (·.nm)).Pairwise (fun a b => low a ≠ low b)
 | [], _, _, _ => ⟨fun _ _ t h => (by cases h), List.Pairwise.nil⟩
 | t :: r, seen, tn, h => by
  simp only [rCl, newN, Bool.and_eq_true] at h
  obtain ⟨h1, h2⟩ := rCl_pw r _ tn h.2
  have h3 := fnd_none h.1.1.1.1.1.2
  refine ⟨fun m hm u hu => ?_, ?_⟩
  ·rcases List.mem_cons.1 hu with rfl | hu
   ·exact h3 m.nm (List.mem_map_of_mem hm)
   ·exact h1 m (List.mem_append.2 (.inl hm)) u hu
  ·rw [List.map_cons, List.pairwise_cons]
   refine ⟨fun m hm => ?_, h2⟩
   obtain ⟨u, hu, rfl⟩ := List.mem_map.1 hm
   exact h1 t (List.mem_append.2 (.inr (by simp))) u hu
theorem okS_parts {s : Sch} (h : okS s = true) : rTy [] s.tys = true ∧ rCl s.tn [] s.cls = true := by
 unfold okS at h
 simp only [Bool.and_eq_true] at h
 exact ⟨h.2.1.2, h.2.2⟩
theorem tyAt_map {s : Sch} (h : okS s = true) (n : B) : posF s.tn (low n) = (s.tyAt n).map (fun i : Nat => (i : Int)) := pos_fnd (rTy_pw _ _ (okS_parts h).1).2 n
theorem clAt_map {s : Sch} (h : okS s = true) (n : B) : posF s.cn (low n) = (s.clAt n).map (fun i : Nat => (i : Int)) := pos_fnd (rCl_pw _ _ _ (okS_parts h).2).2 n
def Made (lo : Nat) (s : Sch) (tm cm : Value) (w : World) : Prop := ∃ bt bc n m, tm = .map (some bt) ∧ cm = .map (some bc) ∧ lo ≤ bt ∧ lo ≤ bc ∧ MpI w bt n (posF s.tn) ∧ MpI w bc m (posF s.cn)
theorem infoMp : (Tryz.prog.info? 69).map (·.size) = some 1 := by kernel_rfl
theorem build_any {S S2 : Nat → Prop} (b lo : Nat) (vt vc tm cm : Value) (s : Sch) (w : World) (hB : Blk w b 71 (schV vt vc 0 1 tm cm)) (ht : TysIn S w vt s.tys) (hc : ClsIn S2 w vc s.cls) (h1 : ∀ i, S i → i ≠ b) (h2 : ∀ i, S2 i → i ≠ b) (hlo : lo ≤ w.heap.size) :
  Calls Tryz.prog 55 #[.pointer (some ⟨b, 0, none⟩)] w fun e w' => e = .returned (.tuple #[]) ∧ ∃ tm' cm', Blk w' b 71 (schV vt vc 0 1 tm' cm') ∧ Fr (fun k => k = b) w w' ∧ Made lo s tm' cm' w' := by
 have HB := hid hB; have HT := hid ht; have HC := hid hc; have H1 := hid h1; have H2 := hid h2; have HLO := hid hlo
 have HBL := hid hB.lt
 have d0 : w.cell? ⟨b, 0, none⟩ = some vt := hB.cell 0
 obtain ⟨a, cp, e1, -, -⟩ := ht.form
 obtain ⟨a2, cp2, e2, -, -⟩ := hc.form
 generalize s.tys.length = n at e1
 generalize s.cls.length = m at e2
 subst e1 e2
 clear hB ht hc h1 h2 hlo
 go_enter Tryz.func55, Tryz.ntmps55
 go_wp2_with fail
 refine (posTy_any _ s.tys w HT.out).mono ?_
 rintro e w1 ⟨bt, rfl, hbt, hm1, f1⟩
 have HB1 := hid (HB.out.fr f1 id)
 have HF1 := hid f1; have HM1 := hid hm1; have HBT := hid hbt
 have HC1 : Hid (ClsIn S2 w1 (.slice a2 m cp2) s.cls) := hid (HC.out.fr (D := No) f1 (fun _ _ _ e => e))
 clear hbt hm1 f1 d0
 go_wp2_with (first
  | ((with_reducible refine K.atO (.store 69 _ _) ?_); (fail_if_success (have := HB2)); refine wpL_setV rfl _ _ _ rfl b 5 (.map (some bt)) rfl rfl rfl rfl 71 _ HB1.out (by simp [schV]) infoMp ?_; intro w2 HB2 F2 HS2; refine Hid.out ?_))
 have HB2' : Hid (Blk w2 b 71 (schV (.slice a n cp) (.slice a2 m cp2) 0 1 (.map (some bt)) cm)) := hid HB2.out
 have hne : ¬ bt = b := by have := HBT.out; have := HBL.out; omega
 have HM2 := hid (HM1.out.fr F2.out hne)
 have HF2 : Hid (Fr (fun k => k = b) w w2) := hid ((HF1.out.no).trans' F2.out)
 have HC2 : Hid (ClsIn S2 w2 (.slice a2 m cp2) s.cls) := hid (HC1.out.fr F2.out (fun i hi _ e => H2.out i hi e))
 have HNE := hid hne
 have d1 : w2.cell? ⟨b, 1, none⟩ = some (.slice a2 m cp2) := HB2'.out.cell 1
 clear HB2 F2 HS2 HM1 HF1 HC1 HB1 hne
 refine hid ?_
 go_wp2_with fail
 refine (posCl_any _ s.cls w2 HC2.out).mono ?_
 rintro e w3 ⟨bc, rfl, hbc, hm3, f3⟩
 have HB3 := hid (HB2'.out.fr f3 id)
 have HM3 := hid hm3; have HBC := hid hbc
 have HMt := hid (HM2.out.fr f3 id)
 have HF3 := hid (HF2.out.trans' f3.no)
 clear hbc hm3 f3 d1
 go_wp2_with (first
  | ((with_reducible refine K.atO (.store 69 _ _) ?_); refine wpL_setV rfl _ _ _ rfl b 6 (.map (some bc)) rfl rfl rfl rfl 71 _ HB3.out (by simp [schV]) infoMp ?_; intro w4 HB4 F4 HS4))
 go_end0
 have hne2 : ¬ bc = b := by have := HBC.out; have := HBL.out; have := HF2.out.size; omega
 exact ⟨rfl, .map (some bt), .map (some bc), HB4.out, HF3.out.trans' F4.out, bt, bc, _, _, rfl, rfl, Nat.le_trans HLO.out HBT.out, Nat.le_trans (Nat.le_trans HLO.out HF2.out.size) HBC.out, HMt.out.fr F4.out HNE.out, HM3.out.fr F4.out hne2⟩
def Sy (w : World) (X : Nat → Prop) (b : Nat) (s : Sch) : Prop := ∃ vt vc bt bc n m, Blk w b 71 (schV vt vc 1 0 (.map (some bt)) (.map (some bc))) ∧ ¬ X b ∧ TysIn (Out X b) w vt s.tys ∧ ClsIn (Out X b) w vc s.cls ∧ okS s = true ∧ Out X b bt ∧ Out X b bc ∧ MpI w bt n (posF s.tn) ∧ MpI w bc m (posF s.cn)
theorem Sy.sx {w : World} {X : Nat → Prop} {b : Nat} {s : Sch} (h : Sy w X b s) : Sx w X b s := by
 obtain ⟨vt, vc, bt, bc, n, m, h1, h2, h3, h4, h5, h6, h7, h8, h9⟩ := h
 exact ⟨vt, vc, 1, _, _, h1, h2, h3, h4, h5, .inr ⟨rfl, bt, bc, n, m, rfl, rfl, h6, h7, h8, h9⟩⟩
theorem Sy.fr {X D : Nat → Prop} {w w' : World} {b : Nat} {s : Sch} (h : Sy w X b s) (hf : Fr D w w') (hd : ∀ k, D k → X k ∨ w.heap.size ≤ k) : Sy w' X b s := by
 obtain ⟨vt, vc, bt, bc, n, m, h1, h2, h3, h4, h5, h6, h7, h8, h9⟩ := h
 have hno : ∀ k, Out X b k → k < w.heap.size → ¬ D k := fun k ⟨h1, _⟩ hk hD => by
  rcases hd k hD with h | h
  ·exact h1 h
  ·omega
 refine ⟨vt, vc, bt, bc, n, m, h1.fr hf (fun hD => ?_), h2, h3.fr hf hno, h4.fr hf hno, h5, h6, h7, h8.fr hf (hno _ h6 h8.lt), h9.fr hf (hno _ h7 h9.lt)⟩
 rcases hd b hD with h | h
 ·exact h2 h
 ·have := h1.lt; omega
theorem do_any (X : Nat → Prop) (b : Nat) (s : Sch) (w : World) (h : Sx w X b s) (hX : ∀ k, X k → k < w.heap.size) :
  Calls Tryz.prog 54 #[.pointer (some ⟨b, 2, none⟩), .func (.func 55) #[.pointer (some ⟨b, 0, none⟩)] #[]] w fun e w' => e = .returned (.tuple #[]) ∧ Sy w' X b s ∧ Fr (fun k => k = b) w w' := by
 obtain ⟨vt, vc, d, tm, cm, h1, h2, h3, h4, h5, h6⟩ := h
 rcases h6 with ⟨rfl, rfl, rfl⟩ | ⟨rfl, bt, bc, n, m, rfl, rfl, g1, g2, g3, g4⟩
 ·refine (do_first b vt vc (.map none) (.map none) 55 w (fun tm cm w2 => Made w.heap.size s tm cm w2 ∧ Fr (fun k => k = b) w w2) h1 (fun vs w => by kernel_rfl) (fun w1 hB1 hf1 => ?_)).mono ?_
  ·refine (build_any b w.heap.size vt vc _ _ s w1 hB1 (h3.fr hf1 (fun i hi _ e => hi.2 e)) (h4.fr hf1 (fun i hi _ e => hi.2 e)) (fun i hi => hi.2) (fun i hi => hi.2) hf1.size).mono ?_
   rintro e w' ⟨rfl, tm', cm', k1, k2, k3⟩
   exact ⟨rfl, tm', cm', k1, k2, k3, hf1.trans' k2⟩
  ·rintro e w' ⟨rfl, tm', cm', w2, ⟨⟨bt, bc, n, m, rfl, rfl, l1, l2, m1, m2⟩, hf2⟩, hB, hF, hF2⟩
   have hb := h1.lt
   have o1 : Out X b bt := ⟨fun hx => by have := hX bt hx; omega, by omega⟩
   have o2 : Out X b bc := ⟨fun hx => by have := hX bc hx; omega, by omega⟩
   exact ⟨rfl, ⟨vt, vc, bt, bc, n, m, hB, h2, h3.fr hF (fun i hi _ e => hi.2 e), h4.fr hF (fun i hi _ e => hi.2 e), h5, o1, o2, m1.fr hF2 o1.2, m2.fr hF2 o2.2⟩, hF⟩
 ·refine (do_done b vt vc _ _ _ w h1).mono ?_
  rintro e w' ⟨rfl, rfl⟩
  exact ⟨rfl, ⟨vt, vc, bt, bc, n, m, h1, h2, h3, h4, h5, g1, g2, g3, g4⟩, Fr.refl _ _⟩
def atR (o : Option Nat) : Value := .tuple #[.int .i64 ((o.map (fun i : Nat => (i : Int))).getD 0), .bool (o.map (fun i : Nat => (i : Int))).isSome]
theorem typeAt_any (X : Nat → Prop) (b : Nat) (s : Sch) (n : B) (w : World) (h : Sx w X b s) (hX : ∀ k, X k → k < w.heap.size) (hz : Sz n) :
  Calls Tryz.prog 46 #[.pointer (some ⟨b, 0, none⟩), .string (sb n)] w fun e w' => e = .returned (atR (s.tyAt n)) ∧ Sy w' X b s ∧ Fr (fun k => k = b) w w' := by
 have HD := hid (do_any X b s w h hX)
 have HZ := hid hz
 have HMAP := hid (tyAt_map h.ok n)
 unfold atR
 obtain ⟨R, hR⟩ : ∃ R, (s.tyAt n).map (fun i : Nat => (i : Int)) = R := ⟨_, rfl⟩
 rw [hR] at HMAP ⊢
 clear h hX hz hR
 go_enter Tryz.func46, Tryz.ntmps46
 go_wp2_with fail
 refine HD.out.mono ?_
 rintro e w1 ⟨rfl, hs1, f1⟩
 have HS1 := hid hs1; have HF1 := hid f1
 obtain ⟨vt, vc, bt, bc, n1, m1, hB, -, -, -, -, o1, o2, hm1, hm2⟩ := hs1
 have HM := hid hm1
 have d5 : w1.cell? ⟨b, 5, none⟩ = some (.map (some bt)) := hB.cell 5
 clear f1 hB hm1 hm2 o1 o2 HD
 go_wp2_with fail
 have hold : Facts.hold [(3, fun w' => w'.cell? ⟨b, 5, none⟩ = some (.map (some bt))), (6, fun w' => MpI w' bt n1 (posF s.tn))] w1.drew := Facts.cons_hold d5 (Facts.cons_hold (HM.out.fr ((Fr.refl No w1).drew) id) (Facts.nil_hold _))
 refine wpD_region hold (by kernel_rfl) 12 rfl ?_
 (refine K.pl 0 (v := ?_) rfl ?_ ?_; rotate_left; (intro; go_simp; try with_reducible rfl); simp only [K.pu])
 (refine K.pl 1 (v := ?_) rfl ?_ ?_; rotate_left; (intro; go_simp; try with_reducible rfl); simp only [K.pu])
 (refine K.pl 2 (v := ?_) rfl ?_ ?_; rotate_left; (intro; go_simp; try with_reducible rfl); simp only [K.pu])
 (refine K.pl 4 (v := ?_) rfl ?_ ?_; rotate_left; (intro; go_simp; try with_reducible rfl); simp only [K.pu])
 (refine K.tk 3 _ rfl K.m0 (v := ?_) ?_ ?_; rotate_left; (intro _ _hw; go_simp; try with_reducible rfl); simp only [K.pu])
 clear hold
 refine K.on 5 [(3, fun w' => w'.cell? ⟨b, 5, none⟩ = some (.map (some bt))), (6, fun w' => MpI w' bt n1 (posF s.tn))] rfl (fun K5 hK5 => ?_)
 refine wp_call _ _ _ rfl 56 [] rfl (fun vs w => by kernel_rfl) [.string (sb n)] (by rfl) ?_
 refine (slower_any n HZ.out w1.drew).mono ?_
 rintro e w2 ⟨rfl, f2⟩
 have HF2 := hid (HF1.out.trans' ((Fr.refl (fun k => k = b) w1).drew.trans' f2.no))
 have HS2 := hid (HS1.out.fr ((Fr.refl No w1).drew.trans' f2) (fun _ e => e.elim))
 have HM2 := hid (HM.out.fr ((Fr.refl No w1).drew.trans' f2) id)
 have d52 : w2.cell? ⟨b, 5, none⟩ = some (.map (some bt)) := f2.cell (show w1.drew.cell? _ = _ from d5) id
 refine ⟨_, rfl, hK5 _ _ (Facts.cons_hold d52 (Facts.cons_hold HM2.out (Facts.nil_hold _))) ?_⟩
 clear hK5 K5 f2 d5
 simp only [K.pu]
 have hold : Facts.hold [(3, fun w' => w'.cell? ⟨b, 5, none⟩ = some (.map (some bt))), (6, fun w' => MpI w' bt n1 (posF s.tn))] w2 := Facts.cons_hold d52 (Facts.cons_hold HM2.out (Facts.nil_hold _))
 (refine wpD_take 6 _ rfl (by kernel_rfl) (by kernel_rfl) (by kernel_rfl) (fun _ _ _ h => h) (List.mem_cons_of_mem _ List.mem_cons_self) (by rfl) (v := .tuple #[.int .i64 (R.getD 0), .bool R.isSome]) (fun w' hw' => by rw [← HMAP.out]; exact exec_look2 _ _ rfl bt n1 _ rfl (low n) rfl hw' (by unfold Sz; rw [low_length]; exact HZ.out)) (by assumption) ?_; simp only [K.pu])
 (refine K.pl 7 (v := ?_) rfl ?_ ?_; rotate_left; (intro; go_simp; try with_reducible rfl); simp only [K.pu])
 (refine K.pl 8 (v := ?_) rfl ?_ ?_; rotate_left; (intro; go_simp; try with_reducible rfl); simp only [K.pu])
 (refine K.pl 9 (v := ?_) rfl ?_ ?_; rotate_left; (intro; go_simp; try with_reducible rfl); simp only [K.pu])
 (refine K.pl 10 (v := ?_) rfl ?_ ?_; rotate_left; (intro; go_simp; try with_reducible rfl); simp only [K.pu])
 (refine K.pl 11 (v := ?_) rfl ?_ ?_; rotate_left; (intro; go_simp; try with_reducible rfl); simp only [K.pu])
 clear hold
 refine wpD_done (by kernel_rfl) ?_ _
 go_wp2_with fail
 go_ret2
 exact ⟨rfl, HS2.out, HF2.out⟩
theorem classAt_any (X : Nat → Prop) (b : Nat) (s : Sch) (n : B) (w : World) (h : Sx w X b s) (hX : ∀ k, X k → k < w.heap.size) (hz : Sz n) :
  Calls Tryz.prog 24 #[.pointer (some ⟨b, 0, none⟩), .string (sb n)] w fun e w' => e = .returned (atR (s.clAt n)) ∧ Sy w' X b s ∧ Fr (fun k => k = b) w w' := by
 have HD := hid (do_any X b s w h hX)
 have HZ := hid hz
 have HMAP := hid (clAt_map h.ok n)
 unfold atR
 obtain ⟨R, hR⟩ : ∃ R, (s.clAt n).map (fun i : Nat => (i : Int)) = R := ⟨_, rfl⟩
 rw [hR] at HMAP ⊢
 clear h hX hz hR
 go_enter Tryz.func24, Tryz.ntmps24
 go_wp2_with fail
 refine HD.out.mono ?_
 rintro e w1 ⟨rfl, hs1, f1⟩
 have HS1 := hid hs1; have HF1 := hid f1
 obtain ⟨vt, vc, bt, bc, n1, m1, hB, -, -, -, -, o1, o2, hm1, hm2⟩ := hs1
 have HM := hid hm2
 have d5 : w1.cell? ⟨b, 6, none⟩ = some (.map (some bc)) := hB.cell 6
 clear f1 hB hm1 hm2 o1 o2 HD
 go_wp2_with fail
 have hold : Facts.hold [(3, fun w' => w'.cell? ⟨b, 6, none⟩ = some (.map (some bc))), (6, fun w' => MpI w' bc m1 (posF s.cn))] w1.drew := Facts.cons_hold d5 (Facts.cons_hold (HM.out.fr ((Fr.refl No w1).drew) id) (Facts.nil_hold _))
 refine wpD_region hold (by kernel_rfl) 12 rfl ?_
 (refine K.pl 0 (v := ?_) rfl ?_ ?_; rotate_left; (intro; go_simp; try with_reducible rfl); simp only [K.pu])
 (refine K.pl 1 (v := ?_) rfl ?_ ?_; rotate_left; (intro; go_simp; try with_reducible rfl); simp only [K.pu])
 (refine K.pl 2 (v := ?_) rfl ?_ ?_; rotate_left; (intro; go_simp; try with_reducible rfl); simp only [K.pu])
 (refine K.pl 4 (v := ?_) rfl ?_ ?_; rotate_left; (intro; go_simp; try with_reducible rfl); simp only [K.pu])
 (refine K.tk 3 _ rfl K.m0 (v := ?_) ?_ ?_; rotate_left; (intro _ _hw; go_simp; try with_reducible rfl); simp only [K.pu])
 clear hold
 refine K.on 5 [(3, fun w' => w'.cell? ⟨b, 6, none⟩ = some (.map (some bc))), (6, fun w' => MpI w' bc m1 (posF s.cn))] rfl (fun K5 hK5 => ?_)
 refine wp_call _ _ _ rfl 56 [] rfl (fun vs w => by kernel_rfl) [.string (sb n)] (by rfl) ?_
 refine (slower_any n HZ.out w1.drew).mono ?_
 rintro e w2 ⟨rfl, f2⟩
 have HF2 := hid (HF1.out.trans' ((Fr.refl (fun k => k = b) w1).drew.trans' f2.no))
 have HS2 := hid (HS1.out.fr ((Fr.refl No w1).drew.trans' f2) (fun _ e => e.elim))
 have HM2 := hid (HM.out.fr ((Fr.refl No w1).drew.trans' f2) id)
 have d52 : w2.cell? ⟨b, 6, none⟩ = some (.map (some bc)) := f2.cell (show w1.drew.cell? _ = _ from d5) id
 refine ⟨_, rfl, hK5 _ _ (Facts.cons_hold d52 (Facts.cons_hold HM2.out (Facts.nil_hold _))) ?_⟩
 clear hK5 K5 f2 d5
 simp only [K.pu]
 have hold : Facts.hold [(3, fun w' => w'.cell? ⟨b, 6, none⟩ = some (.map (some bc))), (6, fun w' => MpI w' bc m1 (posF s.cn))] w2 := Facts.cons_hold d52 (Facts.cons_hold HM2.out (Facts.nil_hold _))
 (refine wpD_take 6 _ rfl (by kernel_rfl) (by kernel_rfl) (by kernel_rfl) (fun _ _ _ h => h) (List.mem_cons_of_mem _ List.mem_cons_self) (by rfl) (v := .tuple #[.int .i64 (R.getD 0), .bool R.isSome]) (fun w' hw' => by rw [← HMAP.out]; exact exec_look2 _ _ rfl bc m1 _ rfl (low n) rfl hw' (by unfold Sz; rw [low_length]; exact HZ.out)) (by assumption) ?_; simp only [K.pu])
 (refine K.pl 7 (v := ?_) rfl ?_ ?_; rotate_left; (intro; go_simp; try with_reducible rfl); simp only [K.pu])
 (refine K.pl 8 (v := ?_) rfl ?_ ?_; rotate_left; (intro; go_simp; try with_reducible rfl); simp only [K.pu])
 (refine K.pl 9 (v := ?_) rfl ?_ ?_; rotate_left; (intro; go_simp; try with_reducible rfl); simp only [K.pu])
 (refine K.pl 10 (v := ?_) rfl ?_ ?_; rotate_left; (intro; go_simp; try with_reducible rfl); simp only [K.pu])
 (refine K.pl 11 (v := ?_) rfl ?_ ?_; rotate_left; (intro; go_simp; try with_reducible rfl); simp only [K.pu])
 clear hold
 refine wpD_done (by kernel_rfl) ?_ _
 go_wp2_with fail
 go_ret2
 exact ⟨rfl, HS2.out, HF2.out⟩
end Go.Proofs.YtgbiicipkbpmeaaGreatDoor.SC
namespace Go.Proofs.YtgbiicipkbpmeaaGreatDoor.DN
set_option maxRecDepth 100000
open BE
theorem parse_ok {s : B} {x : Nm} (h : parse s = (x, 0)) : s.length ≤ 400 ∧ read s = some x ∧ built x = true := by
 unfold parse at h
 split at h
 ·cases h
 ·rename_i hl
  cases hr : read s with
  | none => rw [hr] at h; cases h
  | some n =>
   rw [hr] at h
   simp only at h
   split at h
   ·rename_i hb
    cases h
    exact ⟨by omega, rfl, hb⟩
   ·cases h
end Go.Proofs.YtgbiicipkbpmeaaGreatDoor.DN
namespace Go.Proofs.YtgbiicipkbpmeaaGreatDoor.DN
set_option maxRecDepth 100000
open Go.RowKit K BE
def OwR (e : TypeId) (k : Nat) (w0 w : World) (v : Value) (n : Nat) (cs : List Value) : Prop := (∃ a c, v = .slice a n c) ∧ w.ownsRow w0.heap.size e k v n cs ∧ Fr No w0 w
def Info (e : TypeId) (z : Value) (k bytes : Nat) : Prop := (Tryz.prog.info? e).map (fun i => (i.zero, i.size, i.bytes)) = some (some z, k, bytes)
section
variable {e : TypeId} {k : Nat} {w0 w w' : World} {v : Value} {n : Nat} {cs : List Value}
theorem OwR.no (h : OwR e k w0 w v n cs) (hf : Fr No w w') : OwR e k w0 w' v n cs := ⟨h.1, own_fr h.2.1 hf (fun _ _ e => e), h.2.2.trans' hf⟩
theorem OwR.fr (h : OwR e k w0 w v n cs) : Fr No w0 w := h.2.2
theorem OwR.ge (h : OwR e k w0 w v n cs) (g : Nat) (hg : v.ownBlock = some g) : w0.heap.size ≤ g ∧ g < w.heap.size := own_ge h.2.1 g hg
theorem OwR.later {D : Nat → Prop} (h : OwR e k w0 w v n cs) (hf : Fr D w w') (hn : ∀ g, v.ownBlock = some g → ¬ D g) (hd : ∀ g, D g → w0.heap.size ≤ g) : OwR e k w0 w' v n cs :=
 ⟨h.1, own_fr h.2.1 hf hn, h.2.2.trans hf fun g e => .inr (hd g e)⟩
theorem owR_nil (h : Fr No w0 w) : OwR e k w0 w (.slice none 0 0) 0 [] := ⟨⟨_, _, rfl⟩, ⟨by simp, .inl ⟨rfl, rfl⟩⟩, h⟩
theorem OwR.reads (h : OwR e k w0 w v n cs) : ∃ a cap, v = .slice a n cap ∧ n ≤ cap ∧ (n = 0 ∨ ∃ g, a = some ⟨g, 0, none⟩ ∧ w0.heap.size ≤ g ∧ g < w.heap.size ∧ w.rangeAt g 0 cs) := by
 obtain ⟨⟨a, c, rfl⟩, h1, -⟩ := h
 have hc : n ≤ c := by
  rcases h1.2 with ⟨h2, h0⟩ | ⟨g', cap', cur, h2, _, _, h3, _⟩
  ·have h0 : n = 0 := h0
   omega
  ·simp only [Value.slice.injEq] at h2
   omega
 refine ⟨a, c, rfl, hc, ?_⟩
 rcases Nat.eq_zero_or_pos n with h0 | h0
 ·exact .inl h0
 ·right
  obtain ⟨a', c', e1, -, h2⟩ := own_form h1
  obtain ⟨rfl, rfl⟩ := K.sj e1
  obtain ⟨g, rfl⟩ := h2 h0
  have hg := own_ge h1 g rfl
  refine ⟨g, rfl, hg.1, hg.2, ?_⟩
  intro j u hj
  have := h1.cells (g := g) rfl j u hj
  rwa [Addr.add_mid] at this
end
section
variable {ops : Array Oper} {rest : List Oper} {op o1 o2 : Oper} {a : Act} {w : World} {Q : Exit → Act → World → Prop} {K : Act → World → Prop}
theorem wp_appR (s x : Operand) (t e : TypeId) (ho : op.op = .call { callee := .builtin .append, args := #[s, x], argTypes := #[t, t] }) (hu : Tryz.prog.underlying t = some (.slice e)) {z : Value} {k bytes : Nat} (hi : Info e z k bytes) (hz : z.cells.size = k) (hk : 0 < k)
  {w0 : World} {v : Value} {n : Nat} {cs : List Value} (hown : OwR e k w0 w v n cs) (hv : a.eval s = v) (b : Nat) (m c : Nat) (news : List Value) (hx : a.eval x = .slice (some ⟨b, 0, none⟩) m c) (hl : news.length = m * k) (hB : Blk w b e news) (h1 : ∀ u ∈ news, u.oneCell' = true)
  (hb : (n + m) * bytes ≤ 140737488355328) (h63 : n + m ≤ 140737488355328)
  (h : ∀ a' cap' w', Hid (OwR e k w0 w' (.slice a' (n + m) cap') (n + m) (cs ++ news)) → Hid (Fr (fun j => v.ownBlock = some j) w w') → K (a.put op.dst (.slice a' (n + m) cap')) w') : op.wp Tryz.prog a w K Q := by
 obtain ⟨i, hi0, hz0, hs, hbb⟩ := Go.info_parts hi
 refine BE.wp_append s x t ho w0.heap.size e i z k bytes hu hi0 hz0 hs hbb hz hk v n cs hv hown.2.1 (some ⟨b, 0, none⟩) m c news hx hl (.inr ⟨_, rfl, hB.news⟩) h1 (by unfold maxLen; omega) hb hown.2.2.size ?_
 intro a' cap' w' p q r
 exact h a' cap' w' (hid ⟨⟨_, _, rfl⟩, p.out, hown.2.2.trans (frown q.out) fun g e => .inr (hown.ge g e).1⟩) (hid (frown q.out))
theorem wpL_app1 (hg1 : o1.guard = none) (hg2 : o2.guard = none) (x s y : Operand) (t e : TypeId) (ho1 : o1.op = .buildSlice t 1 #[(0, x)]) (ho2 : o2.op = .call { callee := .builtin .append, args := #[s, y], argTypes := #[t, t] }) (hu : Tryz.prog.underlying t = some (.slice e))
  {z : Value} {k bytes : Nat} (hi : Info e z k bytes) (hz : z.cells.size = k) (hk : 0 < k) (hk2 : k ≤ 16777216) {w0 : World} {v : Value} {n : Nat} {cs : List Value} (hown : OwR e k w0 w v n cs) (u : Value) (us : List Value) (hx : a.eval x = u) (hus : u.cells = us.toArray) (hl : us.length = k) (h1 : ∀ q ∈ us, q.oneCell' = true)
  (hs : ∀ q, (a.put o1.dst q).eval s = v) (hy : ∀ q, (a.put o1.dst q).eval y = q) (hb : (n + 1) * bytes ≤ 140737488355328) (h63 : n + 1 ≤ 140737488355328)
  (h : ∀ q a' cap' w', Hid (OwR e k w0 w' (.slice a' (n + 1) cap') (n + 1) (cs ++ us)) → Hid (Fr (fun j => v.ownBlock = some j) w w') → wpList Tryz.prog ops Q rest ((a.put o1.dst q).put o2.dst (.slice a' (n + 1) cap')) w') : wpList Tryz.prog ops Q (o1 :: o2 :: rest) a w := by
 obtain ⟨i, hi0, hz0, hsz, hbb⟩ := Go.info_parts hi
 refine wpL_buildOne hg1 t e x ho1 i z hu hi0 hz0 (by rw [hsz]; exact hk) (by rw [hsz]; exact hk2) u us hx hus (by rw [hsz]; exact hl) ?_
 intro w1 HB HF HS
 refine wpList_plain hg2 fun K hK => ?_
 have hown1 : OwR e k w0 w1 v n cs := hown.no HF.out
 refine wp_appR s y t e ho2 hu hi hz hk hown1 (hs _) w.heap.size 1 1 us (hy _) (by rw [hl, Nat.one_mul]) HB.out h1 hb h63 ?_
 intro a' cap' w' p q
 exact hK _ _ (h _ a' cap' w' p (hid (HF.out.no.trans' q.out)))
theorem wpL_appU {x s y : Operand} (ho1 : o1.op = .buildSlice 150 1 #[(0, x)]) (ho2 : o2.op = .call { callee := .builtin .append, args := #[s, y], argTypes := #[150, 150] }) {w0 : World} {v : Value} {n : Nat} {cs : List Value} (hown : OwR 5 1 w0 w v n cs) (c : Int) (hx : a.eval x = .int .u8 c)
  (h : ∀ q a' cap' w', Hid (OwR 5 1 w0 w' (.slice a' (n + 1) cap') (n + 1) (cs ++ [.int .u8 c])) → Hid (Fr (fun j => v.ownBlock = some j) w w') → wpList Tryz.prog ops Q rest ((a.put o1.dst q).put o2.dst (.slice a' (n + 1) cap')) w')
  (hg1 : o1.guard = none := by rfl) (hg2 : o2.guard = none := by rfl) (hs : ∀ q, (a.put o1.dst q).eval s = v := by exact fun _ => rfl) (hy : ∀ q, (a.put o1.dst q).eval y = q := by exact fun _ => rfl) (hb : (n + 1) * 1 ≤ 140737488355328 := by omega) (h63 : n + 1 ≤ 140737488355328 := by omega) : wpList Tryz.prog ops Q (o1 :: o2 :: rest) a w :=
 wpL_app1 hg1 hg2 x s y 150 5 ho1 ho2 Tryz.underlying150 (show Info 5 (.int .u8 0) 1 1 from by unfold Info; kernel_rfl) rfl (by decide) (by decide) hown (.int .u8 c) [.int .u8 c] hx rfl rfl (by simp [Value.oneCell']) hs hy hb h63 h
theorem wpL_app1o (hg1 : o1.guard = none) (hg2 : o2.guard = none) (x s y : Operand) (t e : TypeId) (ho1 : o1.op = .buildSlice t 1 #[(0, x)]) (ho2 : o2.op = .call { callee := .builtin .append, args := #[s, y], argTypes := #[t, t] }) (hu : Tryz.prog.underlying t = some (.slice e))
  {z : Value} {k bytes : Nat} (hi : Info e z k bytes) (hz : z.cells.size = k) (hk : 0 < k) (hk2 : k ≤ 16777216) {w0 : World} {v : Value} {n : Nat} {cs : List Value} (hown : OwR e k w0 w v n cs) (u : Value) (us : List Value) (hx : a.eval x = u) (hus : u.cells = us.toArray) (hl : us.length = k) (h1 : ∀ q ∈ us, q.oneCell' = true)
  (hs : ∀ q, (a.put o1.dst q).eval s = v) (hy : ∀ q, (a.put o1.dst q).eval y = q) (hb : (n + 1) * bytes ≤ 140737488355328) (h63 : n + 1 ≤ 140737488355328)
  (h : ∀ q a' cap' w', Hid (OwR e k w0 w' (.slice a' (n + 1) cap') (n + 1) (cs ++ us)) → Hid (Fr (fun j => v.ownBlock = some j) w w') → Hid ((Value.slice a' (n + 1) cap').ownBlock = v.ownBlock ∨ ∃ g, (Value.slice a' (n + 1) cap').ownBlock = some g ∧ w.heap.size ≤ g) → wpList Tryz.prog ops Q rest ((a.put o1.dst q).put o2.dst (.slice a' (n + 1) cap')) w') : wpList Tryz.prog ops Q (o1 :: o2 :: rest) a w := by
 obtain ⟨i, hi0, hz0, hsz, hbb⟩ := Go.info_parts hi
 refine wpL_buildOne hg1 t e x ho1 i z hu hi0 hz0 (by rw [hsz]; exact hk) (by rw [hsz]; exact hk2) u us hx hus (by rw [hsz]; exact hl) ?_
 intro w1 HB HF HS
 refine wpList_plain hg2 fun K hK => ?_
 have hown1 : OwR e k w0 w1 v n cs := hown.no HF.out
 refine BE.wp_append s y t ho2 w0.heap.size e i z k bytes hu hi0 hz0 hsz hbb hz hk v n cs (hs _) hown1.2.1 (some ⟨w.heap.size, 0, none⟩) 1 1 us (hy _) (by rw [hl, Nat.one_mul]) (.inr ⟨_, rfl, HB.out.news⟩) h1 (by unfold maxLen; omega) hb hown1.2.2.size ?_
 intro a' cap' w' p q r
 refine hK _ _ (h _ a' cap' w' (hid ⟨⟨_, _, rfl⟩, p.out, hown1.2.2.trans (frown q.out) fun g e => .inr (hown1.ge g e).1⟩) (hid (HF.out.no.trans' (frown q.out))) (hid ?_))
 exact r.out.imp id fun e => ⟨_, e, by have := HF.out.size; exact this⟩
end
theorem infoU : Info 5 (.int .u8 0) 1 1 := by unfold Info; kernel_rfl
theorem infoStr : Info 9 (.string ⟨#[]⟩) 1 16 := by unfold Info; kernel_rfl
theorem infoAva : Info 191 (.agg #[.string ⟨#[]⟩, .string ⟨#[]⟩]) 2 32 := by unfold Info; kernel_rfl
theorem infoRdn : Info 175 (.slice none 0 0) 1 24 := by unfold Info; kernel_rfl
end Go.Proofs.YtgbiicipkbpmeaaGreatDoor.DN
