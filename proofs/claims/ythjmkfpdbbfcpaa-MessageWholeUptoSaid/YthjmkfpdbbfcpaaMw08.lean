/-
  Part 8 of the proof: MpU, MpD, MpV.
-/
import Derived.Test.YthjmkfpdbbfcpaaMw06
import Derived.Test.YthjmkfpdbbfcpaaMw07
import Derived.Test.YthjmkfpdbbfcpaaMw02
set_option linter.unusedSimpArgs false
set_option linter.unusedVariables false
namespace Go.Proofs.Ythjmkfpdbbfcpaa.ME
set_option maxRecDepth 100000
open Go.RowKit K Go.Proofs.Ythjmkfpdbbfcpaa.BE Go.Proofs.Ythjmkfpdbbfcpaa.FR

theorem kid_drop (n : Nd) (i : Nat) : (n.kids.drop i).headD nd0 = kidN n i := by
  unfold kidN
  rw [List.getD_eq_getElem?_getD, List.headD_eq_head?_getD, List.head?_drop]
theorem pkidn_any (M : Nat) (S : Nat → Prop) (bn : Nat) (n : Nd) (i : Nat) (w : World) (h : Rest (M + 1) S w bn (n.kids.drop i)) (hS : ¬ S bn) : Calls Try.prog 54 #[.pointer (some ⟨bn, 0, none⟩)] w fun e w' =>
    ∃ cs, e = .returned (.agg cs.toArray) ∧ NdAt (M + 1) S w' (kidN n i) cs ∧ Rest (M + 1) S w' bn (n.kids.drop (i + 1)) ∧ Fr (fun k => k = bn) w w' := by
  refine (pnext_any M S bn _ w h hS).mono ?_
  rintro e w' ⟨cs, h1, h2, h3, h4⟩
  rw [kid_drop] at h2
  rw [List.tail_drop] at h3
  exact ⟨cs, h1, h2, h3, h4⟩
theorem Rest.start {M : Nat} {S : Nat → Prop} {w : World} {bn : Nat} {n : Nd} (h : Rest M S w bn n.kids) : Rest M S w bn (n.kids.drop 0) := h
theorem num_lim2 (s : B) : -9223372036854775808 ≤ (numS s).1 ∧ (numS s).1 ≤ 9223372036854775807 := by
  cases s with
  | nil => decide
  | cons b r =>
    unfold numS
    simp only
    by_cases h4 : 4 < (b :: r).length
    · rw [if_pos h4]; decide
    · rw [if_neg h4]
      by_cases hi : intS (joinI (sgn b) r) = b :: r
      · rw [if_pos hi]
        have hb := sgn_lim b
        have hl := join_lim r (sgn b) 128 (by omega) (by omega)
        show -9223372036854775808 ≤ joinI (sgn b) r ∧ joinI (sgn b) r ≤ 9223372036854775807
        simp only [List.length_cons] at h4
        match r, h4 with
        | [], _ => simp at hl; omega
        | [_], _ => simp at hl; omega
        | [_, _], _ => simp at hl; omega
        | [_, _, _], _ => simp at hl; omega
        | _ :: _ :: _ :: _ :: _, h4 => simp only [List.length_cons] at h4; omega
      · rw [if_neg hi]; decide
theorem val_i64 (n : Nd) : I64 (valN n) := by
  unfold valN I64
  have := num_lim2 n.body
  omega
/-- A piece's blocks are below what is made from now on. -/
theorem nd_lo {M : Nat} {S : Nat → Prop} {w : World} {n : Nd} {cs : List Value} (h : NdAt M S w n cs) : NdAt M (Lo w.heap.size) w n cs := NdAt.mono (fun _ hk _ => hk) h
set_option maxHeartbeats 8000000 in
theorem pattrOf_any (M : Nat) (S : Nat → Prop) (n : Nd) (cs : List Value) (w : World) (hn : NdAt (M + 1) S w n cs) (hK : (kidN n 1).kids.length ≤ 100000) : Calls Try.prog 63 #[.agg cs.toArray] w fun e w' =>
    ∃ ds, e = .returned (.agg ds.toArray) ∧ AtC (Since w.heap.size) w' (atOf n) ds ∧ Fr No w w' := by
  have HKK := hid hK
  clear hK
  have HN := hid (nd_lo hn.more)
  have HD := hid hn
  obtain ⟨a, sc, hcs, -, -, -⟩ := hn.head
  subst hcs
  obtain ⟨bs, hbs⟩ : ∃ b, sb n.body = b := ⟨_, rfl⟩
  obtain ⟨tg, htg⟩ : ∃ t, n.tag = t := ⟨_, rfl⟩
  obtain ⟨kl, hkl⟩ : ∃ k, n.kids.length = k := ⟨_, rfl⟩
  rw [hbs, htg, hkl] at HN HD ⊢
  clear hn hbs htg hkl
  go_enter Try.func63, Try.ntmps63
  go_wp2_with (first
    | ((with_reducible refine K.atO (.box 44 _) ?_); refine wpL_box rfl _ _ rfl _ rfl [.int .i64 tg, .string bs, .slice a kl sc] rfl ?_; intro w1 HB1 F1 HS1)
    | ((with_reducible refine K.atO (.alloc 54) ?_); refine wpL_alloc rfl _ rfl _ zeroAt [.string ⟨#[]⟩, .slice none 0 0] rfl ?_; intro w2 HB2 F2 HS2; have HB1' := hid (HB1.out.fr F2.out id); have HF2 := hid (F1.out.trans' F2.out))
    | ((with_reducible refine K.atO (.load 44 _) ?_); refine wpL_load rfl _ _ rfl w.heap.size 0 rfl [.int .i64 tg, .string bs, .slice a kl sc] _ (HB1'.out.range 0 _ rfl) rfl rfl infoN ?_)
    | fail)
  refine (pchildren_any (M + 1) (Lo w.heap.size) n [.int .i64 tg, .string bs, .slice a kl sc] w2 (HN.out.no HF2.out)).mono ?_
  rintro e w3 ⟨bn, rfl, hbn, hr, f3⟩
  have HBN : Hid (w.heap.size ≤ bn) := hid (Nat.le_trans HF2.out.size hbn)
  have HNE : Hid (w1.heap.size < bn) := hid (by have := HS2.out; omega)
  have HR0 := hid hr.start; have HF3 := hid (HF2.out.trans' f3); have HBr := hid (HB2.out.fr f3 id)
  clear hbn hr f3 HB1 HB1' HB2
  go_wp2_with fail
  refine (pkidn_any M (Lo w.heap.size) bn n 0 w3 HR0.out (by have := HBN.out; show ¬ bn < w.heap.size; omega)).mono ?_
  rintro e y1 ⟨k1, rfl, hk1, hr1, f1⟩
  have HK1 := hid hk1; have HR1 := hid hr1; have HF1 := hid (HF3.out.trans f1 fun k e => .inr (by have e : k = bn := e; have := HBN.out; omega))
  have HBr_1 := hid (HBr.out.fr f1 (fun e => by have e : w1.heap.size = bn := e; have := HNE.out; omega))
  clear hk1 hr1 f1 
  go_wp2_with fail
  refine (ptextOf_any _ _ _ _ y1 HK1.out).mono ?_
  rintro e y2 ⟨rfl, f2⟩
  have HR2 := hid (HR1.out.no f2); have HF2 := hid (HF1.out.trans' f2)
  have HBr_2 := hid (HBr_1.out.fr f2 id)
  clear f2
  have HZ0 : Hid (Sz (kidN n 0).body) := hid (kid_szN HD.out 0)
  obtain ⟨T0, hT0⟩ : ∃ x, sb (kidN n 0).body = x := ⟨_, rfl⟩
  rw [hT0]
  have HT0 := hid hT0
  clear hT0
  go_wp2_with fail
  refine (pkidn_any M (Lo w.heap.size) bn n 1 y2 HR2.out (by have := HBN.out; show ¬ bn < w.heap.size; omega)).mono ?_
  rintro e y3 ⟨k3, rfl, hk3, hr3, f3⟩
  have HK3 := hid hk3; have HR3 := hid hr3; have HF3 := hid (HF2.out.trans f3 fun k e => .inr (by have e : k = bn := e; have := HBN.out; omega))
  have HBr_3 := hid (HBr_2.out.fr f3 (fun e => by have e : w1.heap.size = bn := e; have := HNE.out; omega))
  clear hk3 hr3 f3 
  go_wp2_with fail
  refine (plistTx gpTx Nd.body 56 M (Lo w.heap.size) (kidN n 1) _ y3 HK3.out HKK.out (fun vs w => by kernel_rfl) (fun x hx c wv hx2 _ => (ptextOf_any _ _ x c wv hx2).mono fun _ _ h => ⟨[.string (sb x.body)], h.1, ⟨rfl, kid_sz hx2⟩, h.2⟩) (fun _ _ _ _ h => ⟨_, h.1⟩)).mono ?_
  rintro e y4 ⟨v, rfl, hv, f4⟩
  have HR4 := hid (HR3.out.no f4); have HF4 := hid (HF3.out.trans' f4)
  have HBr_4 := hid (HBr_3.out.fr f4 id)
  have HV := hid (sl_tx hv)
  obtain ⟨va, vc, rfl, -, -⟩ := hv.form
  obtain ⟨vl, hvl⟩ : ∃ k, ((kidN n 1).kids.map Nd.body).length = k := ⟨_, rfl⟩
  rw [hvl] at HV ⊢
  clear hv hvl
  have HLE := hid (HF3.out.size); have HLT : Hid (w1.heap.size < y3.heap.size) := hid (by have := HNE.out; have := HR3.out.lt; omega)
  clear f4
  go_wp2_with (first
    | ((with_reducible refine K.atO (.store 54 _ _) ?_); refine wpL_storeV rfl _ _ _ rfl w1.heap.size 0 (.agg #[.string T0, .slice va vl vc]) [.string T0, .slice va vl vc] rfl rfl rfl _ _ HBr_4.out (by simp) infoAt (by intro u hu; simp at hu; rcases hu with rfl | rfl <;> rfl) ?_; intro wz HBz Fz HSz)
    | fail)
  refine ret_cell rfl _ rfl HBz.out rfl rfl infoAt rfl ?_
  refine ⟨_, rfl, ⟨_, by rw [← HT0.out]; rfl, HZ0.out, (HV.out.fr Fz.out (fun k hk _ e => by have h : y3.heap.size ≤ k := hk; have e : k = w1.heap.size := e; have h2 := HLT.out; omega)).monoS (fun k _ hk => Nat.le_trans HLE.out hk)⟩, HF4.out.trans Fz.out fun k e => .inr (by have e : k = w1.heap.size := e; have := HS1.out; omega)⟩
set_option maxHeartbeats 8000000 in
theorem pmodOf_any (M : Nat) (S : Nat → Prop) (n : Nd) (cs : List Value) (w : World) (hn : NdAt (M + 1) S w n cs) (hK : (kidN (kidN n 1) 1).kids.length ≤ 100000) : Calls Try.prog 61 #[.agg cs.toArray] w fun e w' =>
    ∃ ds, e = .returned (.agg ds.toArray) ∧ MoC (Since w.heap.size) w' (moOf n) ds ∧ Fr No w w' := by
  have HKK := hid hK
  clear hK
  have HN := hid (nd_lo hn.more)
  have HD := hid hn
  obtain ⟨a, sc, hcs, -, -, -⟩ := hn.head
  subst hcs
  obtain ⟨bs, hbs⟩ : ∃ b, sb n.body = b := ⟨_, rfl⟩
  obtain ⟨tg, htg⟩ : ∃ t, n.tag = t := ⟨_, rfl⟩
  obtain ⟨kl, hkl⟩ : ∃ k, n.kids.length = k := ⟨_, rfl⟩
  rw [hbs, htg, hkl] at HN HD ⊢
  clear hn hbs htg hkl
  go_enter Try.func61, Try.ntmps61
  go_wp2_with (first
    | ((with_reducible refine K.atO (.box 44 _) ?_); refine wpL_box rfl _ _ rfl _ rfl [.int .i64 tg, .string bs, .slice a kl sc] rfl ?_; intro w1 HB1 F1 HS1)
    | ((with_reducible refine K.atO (.alloc 56) ?_); refine wpL_alloc rfl _ rfl _ zeroMo [.int .i64 0, .string ⟨#[]⟩, .slice none 0 0] rfl ?_; intro w2 HB2 F2 HS2; have HB1' := hid (HB1.out.fr F2.out id); have HF2 := hid (F1.out.trans' F2.out))
    | ((with_reducible refine K.atO (.load 44 _) ?_); refine wpL_load rfl _ _ rfl w.heap.size 0 rfl [.int .i64 tg, .string bs, .slice a kl sc] _ (HB1'.out.range 0 _ rfl) rfl rfl infoN ?_)
    | fail)
  refine (pchildren_any (M + 1) (Lo w.heap.size) n [.int .i64 tg, .string bs, .slice a kl sc] w2 (HN.out.no HF2.out)).mono ?_
  rintro e w3 ⟨bn, rfl, hbn, hr, f3⟩
  have HBN : Hid (w.heap.size ≤ bn) := hid (Nat.le_trans HF2.out.size hbn)
  have HNE : Hid (w1.heap.size < bn) := hid (by have := HS2.out; omega)
  have HR0 := hid hr.start; have HF3 := hid (HF2.out.trans' f3); have HBr := hid (HB2.out.fr f3 id)
  clear hbn hr f3 HB1 HB1' HB2
  go_wp2_with fail
  refine (pkidn_any M (Lo w.heap.size) bn n 0 w3 HR0.out (by have := HBN.out; show ¬ bn < w.heap.size; omega)).mono ?_
  rintro e y1 ⟨k1, rfl, hk1, hr1, f1⟩
  have HK1 := hid hk1; have HR1 := hid hr1; have HF1 := hid (HF3.out.trans f1 fun k e => .inr (by have e : k = bn := e; have := HBN.out; omega))
  have HBr_1 := hid (HBr.out.fr f1 (fun e => by have e : w1.heap.size = bn := e; have := HNE.out; omega))
  clear hk1 hr1 f1 
  go_wp2_with fail
  refine (pnumberOf_any _ _ _ _ y1 HK1.out).mono ?_
  rintro e y2 ⟨rfl, f2⟩
  have HR2 := hid (HR1.out.no f2); have HF2 := hid (HF1.out.trans' f2)
  have HBr_2 := hid (HBr_1.out.fr f2 id)
  clear f2
  obtain ⟨N0, hN0⟩ : ∃ x, valN (kidN n 0) = x := ⟨_, rfl⟩
  rw [hN0]
  have HN0 := hid hN0
  clear hN0
  go_wp2_with fail
  refine (pkidn_any M (Lo w.heap.size) bn n 1 y2 HR2.out (by have := HBN.out; show ¬ bn < w.heap.size; omega)).mono ?_
  rintro e y3 ⟨k3, rfl, hk3, hr3, f3⟩
  have HK3 := hid hk3; have HR3 := hid hr3; have HF3 := hid (HF2.out.trans f3 fun k e => .inr (by have e : k = bn := e; have := HBN.out; omega))
  have HBr_3 := hid (HBr_2.out.fr f3 (fun e => by have e : w1.heap.size = bn := e; have := HNE.out; omega))
  clear hk3 hr3 f3 
  go_wp2_with fail
  refine (pattrOf_any M (Lo w.heap.size) (kidN n 1) _ y3 HK3.out HKK.out).mono ?_
  rintro e y4 ⟨ds, rfl, hv, f4⟩
  have HR4 := hid (HR3.out.no f4); have HF4 := hid (HF3.out.trans' f4)
  have HBr_4 := hid (HBr_3.out.fr f4 id)
  obtain ⟨v, rfl, hsz, htx⟩ := hv
  have HSZ := hid hsz; have HV := hid htx
  obtain ⟨va, vc, rfl, -, -⟩ := htx.form
  obtain ⟨vl, hvl⟩ : ∃ k, (atOf (kidN n 1)).values.length = k := ⟨_, rfl⟩
  rw [hvl] at HV ⊢
  obtain ⟨T0, hT0⟩ : ∃ x, sb (atOf (kidN n 1)).type = x := ⟨_, rfl⟩
  rw [hT0]
  have HT0 := hid hT0
  clear hsz htx hvl hT0
  have HLE := hid (HF3.out.size); have HLT : Hid (w1.heap.size < y3.heap.size) := hid (by have := HNE.out; have := HR3.out.lt; omega)
  clear f4
  go_wp2_with (first
    | ((with_reducible refine K.atO (.store 56 _ _) ?_); refine wpL_storeV rfl _ _ _ rfl w1.heap.size 0 (.agg #[.int .i64 N0, .string T0, .slice va vl vc]) [.int .i64 N0, .string T0, .slice va vl vc] rfl rfl rfl _ _ HBr_4.out (by simp) infoMo (by intro u hu; simp at hu; rcases hu with rfl | rfl | rfl <;> rfl) ?_; intro wz HBz Fz HSz)
    | fail)
  refine ret_cell rfl _ rfl HBz.out rfl rfl infoMo rfl ?_
  refine ⟨_, rfl, ⟨_, by rw [← HT0.out, ← HN0.out]; rfl, by show I64 (valN (kidN n 0)); exact val_i64 _, HSZ.out, (HV.out.fr Fz.out (fun k hk _ e => by have h : y3.heap.size ≤ k := hk; have e : k = w1.heap.size := e; have h2 := HLT.out; omega)).monoS (fun k _ hk => Nat.le_trans HLE.out hk)⟩, HF4.out.trans Fz.out fun k e => .inr (by have e : k = w1.heap.size := e; have := HS1.out; omega)⟩
end Go.Proofs.Ythjmkfpdbbfcpaa.ME

namespace Go.Proofs.Ythjmkfpdbbfcpaa.ME
set_option maxRecDepth 100000
open Go.Proofs.Ythjmkfpdbbfcpaa.BE

def partR (x : B × List B × B) (n : Nd) : B × List B × B := if n.tag = 128 then (n.body, x.2.1, x.2.2) else if n.tag = 129 then (x.1, x.2.1 ++ [n.body], x.2.2) else if n.tag = 130 then (x.1, x.2.1, n.body) else x
def partsR (l : List Nd) : B × List B × B := l.foldl partR ([], [], [])
def filterR : Nat → Nd → Fl
  | 0, _ => fl0
  | d + 1, n => if kidsK (n.tag % 32) then .mk (n.tag % 32) (n.kids.map (filterR d)) [] [] [] [] []
    else if valK (n.tag % 32) then .mk (n.tag % 32) [] (kidN n 0).body (kidN n 1).body [] [] []
    else if n.tag % 32 = 4 then .mk 4 [] (kidN n 0).body [] (partsR (kidN n 1).kids).1 (partsR (kidN n 1).kids).2.1 (partsR (kidN n 1).kids).2.2
    else if n.tag % 32 = 7 then .mk 7 [] n.body [] [] [] []
    else .mk (n.tag % 32) [] [] [] [] [] []
def readO (id : Int) (n : Nd) : Msg :=
  if n.tag = 96 then { msg0 id 96 with ver := valN (kidN n 0), name := (kidN n 1).body, pw := (kidN n 2).body }
  else if n.tag = 99 then { msg0 id 99 with name := (kidN n 0).body, scope := valN (kidN n 1), deref := valN (kidN n 2), size := valN (kidN n 3), time := valN (kidN n 4), typesOnly := decide ((kidN n 5).body = [255]), filter := filterR 6 (kidN n 6), wants := bodiesN (kidN n 7) }
  else if n.tag = 102 then { msg0 id 102 with name := (kidN n 0).body, mods := (kidN n 1).kids.map moOf }
  else if n.tag = 104 ∨ n.tag = 100 then { msg0 id n.tag with name := (kidN n 0).body, list := (kidN n 1).kids.map atOf }
  else if n.tag = 74 then { msg0 id 74 with name := n.body }
  else if n.tag = 108 then { msg0 id 108 with name := (kidN n 0).body, rdn := (kidN n 1).body, dropOld := decide ((kidN n 2).body = [255]), moves := decide (3 < n.kids.length), sup := (kidN n 3).body }
  else if n.tag = 110 then { msg0 id 110 with name := (kidN n 0).body, type := (kidN (kidN n 1) 0).body, value := (kidN (kidN n 1) 1).body }
  else if n.tag = 80 then { msg0 id 80 with target := valN n }
  else if ansO n.tag then { msg0 id n.tag with code := valN (kidN n 0), matched := (kidN n 1).body, text := (kidN n 2).body, name := (kidN n 3).body }
  else msg0 id n.tag
def readM (p : Nd) : Msg := readO (valN (kidN p 0)) (kidN p 1)
/-- What the program says of bytes. -/
def decR (s : B) : Option Msg := match rd 8 s with
  | .ok (p, _) => if encM (readM p) = (s, 0) then some (readM p) else none
  | .error _ => none

theorem partsR_any (x : B) (ys : List B) (z : B) (l : List B) : (l.map (fun a => Nd.mk 129 a [])).foldl partR (x, ys, z) = (x, ys ++ l, z) := by
  induction l generalizing ys with
  | nil => simp
  | cons a r ih =>
    rw [List.map_cons, List.foldl_cons]
    show List.foldl partR (x, ys ++ [a], z) _ = _
    rw [ih]
    simp
theorem partsR_back (f : Fl) : partsR (partsN f) = (f.first, f.any, f.last) := by
  unfold partsR partsN
  rw [List.foldl_append, List.foldl_append]
  have h1 : (if f.first.isEmpty then [] else [Nd.mk 128 f.first []]).foldl partR ([], [], []) = (f.first, [], []) := by
    cases hf : f.first with
    | nil => rfl
    | cons a r => rfl
  rw [h1, partsR_any]
  cases hl : f.last with
  | nil => rfl
  | cons a r => rfl
theorem filterR_back : ∀ (d : Nat) (f : Fl), rightF d f = true → filterR d (pieceF d f) = f
  | 0, f, h => by cases h
  | d + 1, f, h => by
    obtain ⟨k, ks, t, v, fi, an, la⟩ := f
    simp only [rightF, Fl.kind, Fl.kids, Fl.type, Fl.value, Fl.first, Fl.any, Fl.last, Bool.and_eq_true, List.all_eq_true] at h
    obtain ⟨⟨⟨⟨⟨⟨h1, h2⟩, h3⟩, h4⟩, h5⟩, h6⟩, h7⟩ := h
    by_cases hk : kidsK k = true
    · simp only [hk, if_true, Bool.and_eq_true, List.isEmpty_iff] at h2
      obtain ⟨⟨rfl, -⟩, -⟩ := h2
      have hkk : k = 0 ∨ k = 1 ∨ k = 2 := by simpa [kidsK, or_assoc] using hk
      have hv : v = [] := by
        rcases hkk with rfl | rfl | rfl <;> simpa [valK] using h3
      have hr : fi = [] ∧ la = [] ∧ an = [] := by
        rcases hkk with rfl | rfl | rfl <;> simpa [and_assoc] using h4
      obtain ⟨rfl, rfl, rfl⟩ := hr
      subst hv
      have hm : (160 + k) % 32 = k := by omega
      show filterR (d + 1) (if kidsK k then .mk (160 + k) [] (ks.map (pieceF d)) else _) = _
      rw [if_pos hk]
      show (if kidsK ((160 + k) % 32) = true then Fl.mk ((160 + k) % 32) ((ks.map (pieceF d)).map (filterR d)) [] [] [] [] [] else _) = _
      have hkt : kidsK ((160 + k) % 32) = true := by rw [hm]; exact hk
      rw [if_pos hkt, hm, map_back ks fun x hx => filterR_back d x (h7 x hx)]
    · have hkf : kidsK k = false := by simpa using hk
      have hks : ks = [] := by simpa [hkf] using h2
      subst hks
      by_cases h4k : k = 4
      · subst h4k
        have hv : v = [] := by simpa [valK] using h3
        subst hv
        show filterR (d + 1) (.mk 164 [] [txN t, .mk 48 [] (partsN (.mk 4 [] t [] fi an la))]) = _
        have hp := partsR_back (.mk 4 [] t [] fi an la)
        show Fl.mk 4 [] t [] (partsR (partsN (.mk 4 [] t [] fi an la))).1 (partsR (partsN (.mk 4 [] t [] fi an la))).2.1 (partsR (partsN (.mk 4 [] t [] fi an la))).2.2 = _
        rw [hp]
        rfl
      · have hr : fi = [] ∧ la = [] ∧ an = [] := by simpa [h4k, and_assoc] using h4
        obtain ⟨rfl, rfl, rfl⟩ := hr
        by_cases h7k : k = 7
        · subst h7k
          have hv : v = [] := by simpa [valK] using h3
          subst hv
          rfl
        · have hvk : k = 3 ∨ k = 5 ∨ k = 6 := by
            simpa [hkf, h4k, h7k, valK, or_assoc] using h1
          rcases hvk with rfl | rfl | rfl <;> rfl
theorem read_same {id : Int} {n : Nd} (h1 : n.tag = 99 → filterR 6 (kidN n 6) = filterOf 6 (kidN n 6)) (h2 : ansO n.tag = true → n.tag ≠ 120 → (kidN n 3).body = []) : readO id n = msgO id n := by
  unfold readO msgO
  by_cases c1 : n.tag = 96
  · rw [if_pos c1, if_pos c1]
  rw [if_neg c1, if_neg c1]
  by_cases c2 : n.tag = 99
  · rw [if_pos c2, if_pos c2, h1 c2]
  rw [if_neg c2, if_neg c2]
  by_cases c3 : n.tag = 102
  · rw [if_pos c3, if_pos c3]
  rw [if_neg c3, if_neg c3]
  by_cases c4 : n.tag = 104 ∨ n.tag = 100
  · rw [if_pos c4, if_pos c4]
  rw [if_neg c4, if_neg c4]
  by_cases c5 : n.tag = 74
  · rw [if_pos c5, if_pos c5]
  rw [if_neg c5, if_neg c5]
  by_cases c6 : n.tag = 108
  · rw [if_pos c6, if_pos c6]
  rw [if_neg c6, if_neg c6]
  by_cases c7 : n.tag = 110
  · rw [if_pos c7, if_pos c7]
  rw [if_neg c7, if_neg c7]
  by_cases c8 : n.tag = 80
  · rw [if_pos c8, if_pos c8]
  rw [if_neg c8, if_neg c8]
  by_cases c9 : ansO n.tag = true
  · rw [if_pos c9, if_pos c9]
    by_cases h120 : n.tag = 120
    · rw [if_pos h120]
    · rw [if_neg h120, h2 c9 h120]
  · rw [if_neg c9, if_neg c9]
theorem opN_tag (m : Msg) : (opN m).tag = m.op := by
  unfold opN
  split
  · rename_i h; rw [h]; rfl
  split
  · rename_i h; rw [h]; rfl
  split
  · rename_i h; rw [h]; rfl
  split
  · rename_i h; rw [h]; rfl
  split
  · rfl
  split
  · rename_i h; rw [h]; rfl
  split
  · rename_i h; rw [h]; rfl
  split
  · rename_i h; rw [h]; rfl
  split
  · rename_i h; rw [h]; rfl
  · rfl
theorem read_back (m : Msg) (h : rightM m = true) : readM (pieceM m) = m := by
  have hb := msg_back m h
  rw [← hb]
  rw [hb]
  show readO (valN (nuN 2 m.id)) (opN m) = m
  rw [read_same]
  · exact hb
  · rw [opN_tag]
    intro h99
    have e : kidN (opN m) 6 = pieceF 6 m.filter := by
      unfold opN
      simp [h99, kidN, Nd.kids]
    have hr : rightF 6 m.filter = true := by
      simp only [rightM, h99, if_true, Bool.and_eq_true] at h
      obtain ⟨⟨⟨⟨⟨⟨⟨⟨⟨⟨⟨⟨-, -⟩, -⟩, -⟩, h5⟩, -⟩, -⟩, -⟩, -⟩, -⟩, -⟩, -⟩, -⟩ := h
      exact h5.1.1.1.1
    rw [e, filterR_back 6 _ hr, filter_back 6 _ hr]
  · rw [opN_tag]
    intro ha h120
    have e : opN m = .mk m.op [] [nuN 10 m.code, txN m.matched, txN m.text] := by
      have hop : m.op = 97 ∨ m.op = 101 ∨ m.op = 103 ∨ m.op = 105 ∨ m.op = 107 ∨ m.op = 109 ∨ m.op = 111 := by
        simpa [ansO, h120, or_assoc] using ha
      unfold opN
      rcases hop with h | h | h | h | h | h | h <;> simp [h]
    rw [e]
    rfl
theorem decR_only {s : B} {m : Msg} (h : decR s = some m) : rightM m = true ∧ errN (pieceM m) = 0 ∧ encS (pieceM m) = s := by
  unfold decR at h
  split at h
  · split at h
    · rename_i hc
      cases h
      unfold encM at hc
      split at hc
      · rename_i hr
        simp only [Prod.mk.injEq] at hc
        exact ⟨hr, hc.2, hc.1⟩
      · simp at hc
    · cases h
  · cases h
theorem decR_back {m : Msg} (hr : rightM m = true) (he : errN (pieceM m) = 0) : decR (encS (pieceM m)) = some m := by
  have h1 : encS (pieceM m) = enc 8 (pieceM m) := by unfold encS; rw [if_pos he]
  obtain ⟨e1, e2, e3⟩ := errN_zero he
  have h2 := rd_enc 8 (pieceM m) [] e1 e2 e3
  rw [List.append_nil, ← h1] at h2
  unfold decR
  rw [h2]
  simp only
  have hb := read_back m hr
  rw [hb, if_pos]
  unfold encM
  rw [if_pos hr, he]
end Go.Proofs.Ythjmkfpdbbfcpaa.ME

namespace Go.Proofs.Ythjmkfpdbbfcpaa.ME
set_option maxRecDepth 100000
open Go.RowKit K Go.Proofs.Ythjmkfpdbbfcpaa.BE Go.Proofs.Ythjmkfpdbbfcpaa.FR

structure PR (wA : World) (fB : Nat) (T0 : ByteArray) (ks : List Nd) (i : Nat) (fi : B) (any : List B) (la : B) (v : Value) (L : List (List Value)) (wr : World) : Prop where
  p : partsR (ks.take i) = (fi, any, la)
  f : Blk wr fB 25 [.int .i64 4, .slice none 0 0, .string T0, .string ⟨#[]⟩, .string (sb fi), v, .string (sb la)]
  g : GR 9 1 TxP wA.heap.size any v L wr
  o : Fr (fun k => k = fB) wA wr
  zf : Sz fi
  zl : Sz la
  n : any.length ≤ i
theorem partsR_succ {ks : List Nd} {i : Nat} {x : Nd} (h : ks[i]? = some x) : partsR (ks.take (i + 1)) = partR (partsR (ks.take i)) x := by
  unfold partsR
  rw [List.take_add_one, h, List.foldl_append]
  rfl
def Parts (fB : Nat) (T0 : ByteArray) (ks : List Nd) (w : World) (e : Ending) (w' : World) : Prop := e = .returned (.tuple #[]) ∧ ∃ v, Blk w' fB 25 [.int .i64 4, .slice none 0 0, .string T0, .string ⟨#[]⟩, .string (sb (partsR ks).1), v, .string (sb (partsR ks).2.2)] ∧ Tx (Since w.heap.size) w' v (partsR ks).2.1 ∧ Sz (partsR ks).1 ∧ Sz (partsR ks).2.2 ∧ Fr (fun k => k = fB) w w'
set_option maxHeartbeats 16000000 in
theorem preadParts_any (M : Nat) (S : Nat → Prop) (n : Nd) (cs : List Value) (w : World) (fB : Nat) (T0 : ByteArray) (hn : NdAt (M + 1) S w n cs) (hS : ¬ S fB) (hl : n.kids.length ≤ 100000) (hB : Blk w fB 25 [.int .i64 4, .slice none 0 0, .string T0, .string ⟨#[]⟩, .string ⟨#[]⟩, .slice none 0 0, .string ⟨#[]⟩]) :
    Calls Try.prog 85 #[.pointer (some ⟨fB, 0, none⟩), .agg cs.toArray] w (Parts fB T0 n.kids w) := by
  obtain ⟨v0, hcs, hsl⟩ := nd_sl hn
  obtain ⟨a, cap, rfl, -, -⟩ := hsl.form
  have HN := hid hsl; have HB0 := hid hB; have HSF := hid hS
  subst hcs
  obtain ⟨kl, hkl⟩ : ∃ k, n.kids.length = k := ⟨_, rfl⟩
  rw [hkl] at HN hl ⊢
  have HKL := hid hkl
  have HLT0 := hid hB.lt
  generalize sb n.body = bs
  generalize n.tag = tg
  have hkli : (kl : Int) ≤ 100000 := by omega
  obtain ⟨ic, hic, hzc, hsc, hbc⟩ := Go.info_parts infoS3
  have IC := hid hic; have ZC := hid hzc; have SC := hid hsc; have BC := hid hbc
  clear hn hsl hkl hB hS hic hzc hsc hbc
  go_enter Try.func85, Try.ntmps85
  go_wp2_with (first
    | ((with_reducible refine K.atO (.box 44 _) ?_); refine wpL_box rfl _ _ rfl _ rfl [.int .i64 tg, .string bs, .slice a kl cap] rfl ?_; intro w1 HB1 F1 HS1; have c2 : w1.cell? ⟨w.heap.size, 2, none⟩ = some (.slice a kl cap) := HB1.out.cell 2)
    | fail)
  clear c2
  have HI0 : Hid (PR w1 fB T0 n.kids 0 [] [] [] (.slice none 0 0) [] w1) := hid ⟨rfl, HB0.out.fr F1.out id, GR.nil _ _, Fr.refl _ _, by show (0 : Nat) ≤ _; omega, by show (0 : Nat) ≤ _; omega, Nat.le_refl _⟩
  go_loopw [9] (fun iv wr => ∃ (i : Nat) (fi : B) (any : List B) (la : B) (v : Value) (L : List (List Value)), iv = .int .i64 i ∧ i ≤ kl ∧ Hid (PR w1 fB T0 n.kids i fi any la v L wr)) (fun iv _ => kl - (intOf iv).toNat)
  case atStart => exact ⟨0, _, _, _, _, _, rfl, Nat.zero_le _, HI0⟩
  case round =>
    clear HI0
    obtain ⟨i, fi, any, la, v, L, rfl, hi, HI⟩ := hrel
    by_cases hlt : i < kl
    · have hiX : i < n.kids.length := by rw [HKL.out]; exact hlt
      obtain ⟨x, hx⟩ : ∃ x, n.kids[i]? = some x := ⟨_, List.getElem?_eq_getElem hiX⟩
      have HSU := hid (partsR_succ hx)
      have hlti : (i : Int) < kl := by omega
      have hi0 : (0 : Int) ≤ i := by omega
      have hfw : Fr (fun k => k = fB) w wr := (F1.out.mono fun _ e => e.elim).trans' HI.out.o
      have hdd : ∀ k, S k → k < w.heap.size → ¬ k = fB := fun k hk _ e => HSF.out (e ▸ hk)
      obtain ⟨g, ofs, cp, c, e1, hEg, hgw, hr, hc, hxa⟩ := (HN.out.fr hfw hdd (fun x c _ h => NdAt.fr hfw hdd h)).get hx
      rw [HKL.out] at e1
      simp only [Value.slice.injEq, true_and] at e1
      obtain ⟨rfl, rfl⟩ := e1
      obtain ⟨ca, cc, rfl, -, hxs, -⟩ := hxa.head
      have HXA := hid hxa; have HRR := hid hr; have HXS := hid hxs
      obtain ⟨tx, htx⟩ : ∃ t, x.tag = t := ⟨_, rfl⟩
      obtain ⟨xk, hxk⟩ : ∃ k, x.kids.length = k := ⟨_, rfl⟩
      obtain ⟨SX, hSX⟩ : ∃ k, sb x.body = k := ⟨_, rfl⟩
      rw [htx, hxk, hSX] at HXA HRR
      have HTX := hid htx; have HSX := hid hSX
      have hop := HI.out.g.r
      obtain ⟨va, vc, rfl, -, -⟩ := own_form hop
      obtain ⟨m, hm⟩ : ∃ m, any.length = m := ⟨_, rfl⟩
      have HM := hid hm
      have HLT := hid hlt
      have hmi : (m : Int) ≤ 100000 := by have := HI.out.n; omega
      rw [hm] at HI
      clear hc hEg hgw hr hxa hx hlt hiX hfw hdd hxs htx hxk hSX hop hm
      have HPB : Hid (fB < wr.heap.size) := hid (Nat.lt_of_lt_of_le HLT0.out (Nat.le_trans F1.out.size HI.out.o.size))
      by_cases h128 : tx = 128
      · subst h128
        go_wp2_with (first
          | ((with_reducible refine K.atO (.load 44 _) ?_); (fail_if_success (have := HBb)); refine wpL_load rfl _ _ rfl g (ofs + i * 3) rfl [.int .i64 128, .string SX, .slice ca xk cc] _ HRR.out rfl rfl infoN ?_)
          | ((with_reducible refine K.atO (.alloc 44) ?_); refine wpL_alloc rfl _ rfl _ zeroN [.int .i64 0, .string ⟨#[]⟩, .slice none 0 0] rfl ?_; intro wa HBa FAa HSa)
          | ((with_reducible refine K.atO (.store 44 _ _) ?_); refine wpL_storeV rfl _ _ _ rfl wr.heap.size 0 (.agg #[.int .i64 128, .string SX, .slice ca xk cc]) [.int .i64 128, .string SX, .slice ca xk cc] rfl rfl rfl _ _ HBa.out (by simp) infoN (by intro u hu; simp at hu; rcases hu with rfl | rfl | rfl <;> rfl) ?_; intro wb HBb FBb HSb; have c0 : wb.cell? ⟨wr.heap.size, 0, none⟩ = some (.int .i64 128) := HBb.out.cell 0; have hfb : Hid (Fr No wr wb) := hid (FAa.out.trans FBb.out (fun j e => .inr (by have e : j = wr.heap.size := e; omega))))
          | ((with_reducible refine K.atO (.load 44 _) ?_); refine wpL_load rfl _ _ rfl wr.heap.size 0 rfl [.int .i64 128, .string SX, .slice ca xk cc] _ (HBb.out.range 0 _ rfl) rfl rfl infoN ?_)
          | fail)
        refine (ptextOf_any M S x [.int .i64 128, .string SX, .slice ca xk cc] wb (HXA.out.no hfb.out)).mono ?_
        rintro e w4 ⟨rfl, f4⟩
        rw [HSX.out]
        have HF4 := hid (hfb.out.trans' f4)
        have HBf := hid (HI.out.f.fr HF4.out id)
        clear f4 c0 HBa FAa HSa HBb FBb HSb
        go_wp2_with (first
          | ((with_reducible refine K.atO (.store 9 _ _) ?_); refine wpL_setV rfl _ _ _ rfl fB 4 (.string SX) rfl rfl rfl rfl _ _ HBf.out (by simp) infoS ?_; intro wz HBz Fz HSz)
          | fail)
        have hD : Hid (PR w1 fB T0 n.kids (i + 1) x.body any la (.slice va m vc) L wz) := hid (by
          refine ⟨?_, ?_, ?_, ?_, ?_, ?_, ?_⟩
          · rw [HSU.out, HI.out.p]
            unfold partR
            simp only [HTX.out]
            rfl
          · have h := HBz.out
            rw [← HSX.out] at h
            exact h
          · have h1 := HI.out.g.no gpTx HF4.out
            exact ⟨own_fr h1.r Fz.out (fun k hk e => by have := own_low h1.r k hk; have e : k = fB := e; have := HLT0.out; have := F1.out.size; omega), h1.l, h1.s, fun j y c hy hc => h1.k j y c hy hc⟩
          · exact (HI.out.o.trans' (HF4.out.mono fun _ e => e.elim)).trans' Fz.out
          · exact HXS.out
          · exact HI.out.zl
          · rw [HM.out]; have := HI.out.n; rw [HM.out] at this; omega)
        clear HBf HBz Fz HSz
        go_roundw
        case rel => exact ⟨i + 1, _, _, _, _, _, by go_num, HLT.out, hD⟩
        case measure => have := HLT.out; simp [intOf]; omega
      by_cases h130 : tx = 130
      · subst h130
        go_wp2_with (first
          | ((with_reducible refine K.atO (.load 44 _) ?_); (fail_if_success (have := HBb)); refine wpL_load rfl _ _ rfl g (ofs + i * 3) rfl [.int .i64 130, .string SX, .slice ca xk cc] _ HRR.out rfl rfl infoN ?_)
          | ((with_reducible refine K.atO (.alloc 44) ?_); refine wpL_alloc rfl _ rfl _ zeroN [.int .i64 0, .string ⟨#[]⟩, .slice none 0 0] rfl ?_; intro wa HBa FAa HSa)
          | ((with_reducible refine K.atO (.store 44 _ _) ?_); refine wpL_storeV rfl _ _ _ rfl wr.heap.size 0 (.agg #[.int .i64 130, .string SX, .slice ca xk cc]) [.int .i64 130, .string SX, .slice ca xk cc] rfl rfl rfl _ _ HBa.out (by simp) infoN (by intro u hu; simp at hu; rcases hu with rfl | rfl | rfl <;> rfl) ?_; intro wb HBb FBb HSb; have c0 : wb.cell? ⟨wr.heap.size, 0, none⟩ = some (.int .i64 130) := HBb.out.cell 0; have hfb : Hid (Fr No wr wb) := hid (FAa.out.trans FBb.out (fun j e => .inr (by have e : j = wr.heap.size := e; omega))))
          | ((with_reducible refine K.atO (.load 44 _) ?_); refine wpL_load rfl _ _ rfl wr.heap.size 0 rfl [.int .i64 130, .string SX, .slice ca xk cc] _ (HBb.out.range 0 _ rfl) rfl rfl infoN ?_)
          | fail)
        refine (ptextOf_any M S x [.int .i64 130, .string SX, .slice ca xk cc] wb (HXA.out.no hfb.out)).mono ?_
        rintro e w4 ⟨rfl, f4⟩
        rw [HSX.out]
        have HF4 := hid (hfb.out.trans' f4)
        have HBf := hid (HI.out.f.fr HF4.out id)
        clear f4 c0 HBa FAa HSa HBb FBb HSb
        go_wp2_with (first
          | ((with_reducible refine K.atO (.store 9 _ _) ?_); refine wpL_setV rfl _ _ _ rfl fB 6 (.string SX) rfl rfl rfl rfl _ _ HBf.out (by simp) infoS ?_; intro wz HBz Fz HSz)
          | fail)
        have hD : Hid (PR w1 fB T0 n.kids (i + 1) fi any x.body (.slice va m vc) L wz) := hid (by
          refine ⟨?_, ?_, ?_, ?_, ?_, ?_, ?_⟩
          · rw [HSU.out, HI.out.p]
            unfold partR
            simp only [HTX.out]
            rfl
          · have h := HBz.out
            rw [← HSX.out] at h
            exact h
          · have h1 := HI.out.g.no gpTx HF4.out
            exact ⟨own_fr h1.r Fz.out (fun k hk e => by have := own_low h1.r k hk; have e : k = fB := e; have := HLT0.out; have := F1.out.size; omega), h1.l, h1.s, fun j y c hy hc => h1.k j y c hy hc⟩
          · exact (HI.out.o.trans' (HF4.out.mono fun _ e => e.elim)).trans' Fz.out
          · exact HI.out.zf
          · exact HXS.out
          · rw [HM.out]; have := HI.out.n; rw [HM.out] at this; omega)
        clear HBf HBz Fz HSz
        go_roundw
        case rel => exact ⟨i + 1, _, _, _, _, _, by go_num, HLT.out, hD⟩
        case measure => have := HLT.out; simp [intOf]; omega
      by_cases h129 : tx = 129
      · subst h129
        go_wp2_with (first
          | ((with_reducible refine K.atO (.load 44 _) ?_); (fail_if_success (have := HBb)); refine wpL_load rfl _ _ rfl g (ofs + i * 3) rfl [.int .i64 129, .string SX, .slice ca xk cc] _ HRR.out rfl rfl infoN ?_)
          | ((with_reducible refine K.atO (.alloc 44) ?_); refine wpL_alloc rfl _ rfl _ zeroN [.int .i64 0, .string ⟨#[]⟩, .slice none 0 0] rfl ?_; intro wa HBa FAa HSa)
          | ((with_reducible refine K.atO (.store 44 _ _) ?_); refine wpL_storeV rfl _ _ _ rfl wr.heap.size 0 (.agg #[.int .i64 129, .string SX, .slice ca xk cc]) [.int .i64 129, .string SX, .slice ca xk cc] rfl rfl rfl _ _ HBa.out (by simp) infoN (by intro u hu; simp at hu; rcases hu with rfl | rfl | rfl <;> rfl) ?_; intro wb HBb FBb HSb; have c0 : wb.cell? ⟨wr.heap.size, 0, none⟩ = some (.int .i64 129) := HBb.out.cell 0; have hfb : Hid (Fr No wr wb) := hid (FAa.out.trans FBb.out (fun j e => .inr (by have e : j = wr.heap.size := e; omega))))
          | fail)
        obtain ⟨pB, hpB⟩ : ∃ b, wr.heap.size = b := ⟨_, rfl⟩
        have HPN := hid hpB
        have r5 : wb.rangeAt pB 0 [.int .i64 129, .string SX, .slice ca xk cc] := by rw [← hpB]; exact HBb.out.range 0 _ rfl
        rw [hpB]
        have HBf := hid (HI.out.f.fr hfb.out id)
        have k4 : wb.cell? ⟨fB, 5, none⟩ = some (.slice va m vc) := HBf.out.cell 5
        have HG0 := hid (HI.out.g.no gpTx hfb.out)
        clear c0 HBa FAa HSa HBb FBb HSb hpB
        have hold : Facts.hold [(4, fun w' => w'.cell? ⟨fB, 5, none⟩ = some (.slice va m vc)), (5, fun w' => w'.rangeAt pB 0 [.int .i64 129, .string SX, .slice ca xk cc])] wb.drew := Facts.cons_hold k4 (Facts.cons_hold r5 (Facts.nil_hold _))
        refine wpD_region hold (by kernel_rfl) 12 rfl ?_
        (refine wpD_plain 0 (v := ?_) rfl (by kernel_rfl) (by kernel_rfl) (by kernel_rfl) (fun _ _ _ h => h) (by rfl) ?_ (by assumption) ?_; rotate_left; (intro _w; go_simp; try with_reducible rfl); simp only [Act.put, K.put3])
        (refine wpD_plain 1 (v := ?_) rfl (by kernel_rfl) (by kernel_rfl) (by kernel_rfl) (fun _ _ _ h => h) (by rfl) ?_ (by assumption) ?_; rotate_left; (intro _w; go_simp; try with_reducible rfl); simp only [Act.put, K.put3])
        (refine wpD_plain 2 (v := ?_) rfl (by kernel_rfl) (by kernel_rfl) (by kernel_rfl) (fun _ _ _ h => h) (by rfl) ?_ (by assumption) ?_; rotate_left; (intro _w; go_simp; try with_reducible rfl); simp only [Act.put, K.put3])
        (refine wpD_plain 3 (v := ?_) rfl (by kernel_rfl) (by kernel_rfl) (by kernel_rfl) (fun _ _ _ h => h) (by rfl) ?_ (by assumption) ?_; rotate_left; (intro _w; go_simp; try with_reducible rfl); simp only [Act.put, K.put3])
        (refine wpD_take 4 _ rfl (by kernel_rfl) (by kernel_rfl) (by kernel_rfl) (fun _ _ _ h => h) List.mem_cons_self (by rfl) (v := ?_) ?_ (by assumption) ?_; rotate_left; (intro _w _hw; go_simp; try with_reducible rfl); simp only [Act.put, K.put3])
        (refine wpD_take 5 _ rfl (by kernel_rfl) (by kernel_rfl) (by kernel_rfl) (fun _ _ _ h => h) (List.mem_cons_of_mem _ List.mem_cons_self) (by rfl) (exec_load _ _ rfl pB 0 rfl _ _ rfl rfl infoN) (by assumption) ?_; simp only [Act.put, K.put3])
        clear hold
        refine wpD_only 6 [(4, fun w' => w'.cell? ⟨fB, 5, none⟩ = some (.slice va m vc))] rfl (by kernel_rfl) (by kernel_rfl) (by rfl) (fun K6 hK6 => ?_)
        refine wp_call _ _ _ rfl 56 [] rfl (fun vs w => by kernel_rfl) [.agg #[.int .i64 129, .string SX, .slice ca xk cc]] (by rfl) ?_
        refine (ptextOf_any M S x [.int .i64 129, .string SX, .slice ca xk cc] wb.drew (HXA.out.no (hfb.out.trans' (Fr.refl No wb).drew))).mono ?_
        rintro e w4 ⟨rfl, f4⟩
        have hf4 : Fr No wb w4 := (Fr.refl No wb).drew.trans' f4
        refine ⟨_, rfl, hK6 _ _ (Facts.cons_hold (hf4.cell k4 id) (Facts.nil_hold _)) ?_⟩
        have k5 := hf4.cell k4 id
        have HF4 := hid hf4
        rw [HSX.out]
        clear hK6 K6 f4 hf4 k4 r5
        simp only [Act.put, K.put3]
        refine wpD_only 7 [(4, fun w' => w'.cell? ⟨fB, 5, none⟩ = some (.slice va m vc))] rfl (by kernel_rfl) (by kernel_rfl) (by rfl) (fun K7 hK7 => ?_)
        refine wp_buildOne _ 9 _ rfl ic _ Try.underlying23 IC.out ZC.out (by rw [SC.out]; decide) (by rw [SC.out]; decide) (.string SX) [.string SX] rfl rfl (by rw [SC.out]; rfl) ?_
        intro w5 HB5 F5 HS5
        refine hK7 _ _ (Facts.cons_hold (F5.out.cell k5 id) (Facts.nil_hold _)) ?_
        have HF5 := hid (HF4.out.trans' F5.out)
        clear hK7 K7 k5
        simp only [Act.put, K.put3]
        refine wpD_only 8 [] rfl (by kernel_rfl) (by kernel_rfl) (by rfl) (fun K8 hK8 => ?_)
        refine wp_append _ _ 23 rfl w1.heap.size 9 ic _ 1 16 Try.underlying23 IC.out ZC.out SC.out BC.out rfl (by decide) (.slice va m vc) m L.flatten rfl (by have h := (HG0.out.no gpTx HF5.out).r; rwa [HM.out] at h) (some ⟨w4.heap.size, 0, none⟩) 1 _ [.string SX] rfl rfl (.inr ⟨_, rfl, HB5.out.news⟩) (by intro u hu; simp at hu; subst hu; rfl) (by unfold maxLen; omega) (by omega) (by have h1 := HI.out.o.size; have h2 := hfb.out.size; have h3 := HF5.out.size; omega) ?_
        intro a6 c6 w6 HO6 HG6 HA6
        refine hK8 _ _ (Facts.nil_hold _) ?_
        clear hK8 K8
        simp only [Act.put, K.put3]
        have hold : Facts.hold [] w6 := Facts.nil_hold _
        (refine wpD_plain 9 (v := ?_) rfl (by kernel_rfl) (by kernel_rfl) (by kernel_rfl) (fun _ _ _ h => h) (by rfl) ?_ (by assumption) ?_; rotate_left; (intro _w; go_simp; try with_reducible rfl); simp only [Act.put, K.put3])
        (refine wpD_plain 10 (v := ?_) rfl (by kernel_rfl) (by kernel_rfl) (by kernel_rfl) (fun _ _ _ h => h) (by rfl) ?_ (by assumption) ?_; rotate_left; (intro _w; go_simp; try with_reducible rfl); simp only [Act.put, K.put3])
        clear hold
        refine wpD_only 11 [] rfl (by kernel_rfl) (by kernel_rfl) (by rfl) (fun K11 hK11 => ?_)
        have HBf5 := hid (HBf.out.fr HF5.out id)
        have HLOW : Hid (∀ k, (Value.slice va m vc).ownBlock = some k → w1.heap.size ≤ k) := hid (fun k hk => by have h := (HG0.out.no gpTx HF5.out).r; exact own_low h k hk)
        refine wp_storeV _ _ _ rfl fB 5 (.slice a6 (m + 1) c6) [.slice a6 (m + 1) c6] rfl rfl rfl _ _ (HBf5.out.fr (frown HG6.out) (fun e => by have := HLOW.out fB e; have := HLT0.out; have := F1.out.size; omega)) (by simp) infoSs (by intro u hu; simp at hu; subst hu; rfl) ?_
        intro w7 HB7 F7 HS7
        refine hK11 _ _ (Facts.nil_hold _) ?_
        clear hK11 K11
        simp only [Act.put, K.put3]
        refine wpD_done (by kernel_rfl) ?_ _
        have hD : Hid (PR w1 fB T0 n.kids (i + 1) fi (any ++ [x.body]) la (.slice a6 (m + 1) c6) (L ++ [[.string SX]]) w7) := hid (by
          have hg5 := HG0.out.no gpTx HF5.out
          have hfr : Fr (fun k => (Value.slice va m vc).ownBlock = some k ∨ (Value.slice a6 (m + 1) c6).ownBlock = some k) w5 w6 := (frown HG6.out).mono fun k hk => .inl hk
          have hlow : ∀ k, ((Value.slice va m vc).ownBlock = some k ∨ (Value.slice a6 (m + 1) c6).ownBlock = some k) → w1.heap.size ≤ k := fun k hk => by
            rcases hk with h | h
            · exact HLOW.out k h
            · exact own_low HO6.out k h
          have hst := hg5.step gpTx (N := w5.heap.size) (n := x.body) (cs := [.string SX]) (by rw [← HSX.out]; exact ⟨rfl, HXS.out⟩) (by have h1 := HI.out.o.size; have h2 := hfb.out.size; have h3 := HF5.out.size; omega) (fun g hg => (own_ge hg5.r g hg).2) (by rw [HM.out]; exact HO6.out) hfr (or_own HA6.out)
          refine ⟨?_, ?_, ?_, ?_, HI.out.zf, HI.out.zl, ?_⟩
          · rw [HSU.out, HI.out.p]
            unfold partR
            simp only [HTX.out]
            rfl
          · exact HB7.out
          · exact ⟨own_fr hst.r F7.out (fun k hk e => by have := own_low hst.r k hk; have e : k = fB := e; have := HLT0.out; have := F1.out.size; omega), hst.l, hst.s, fun j y c hy hc => hst.k j y c hy hc⟩
          · refine (((HI.out.o.trans' ((hfb.out.trans' HF5.out).mono fun _ e => e.elim))).trans hfr ?_).trans' F7.out
            intro k hk
            exact .inr (hlow k hk)
          · have := HI.out.n; rw [HM.out] at this; simp only [List.length_append, List.length_cons, List.length_nil]; rw [HM.out]; omega)
        clear HB7 F7 HS7 HO6 HG6 HA6 HB5 F5 HS5
        go_wp2_with fail
        go_roundw
        case rel => exact ⟨i + 1, _, _, _, _, _, by go_num, HLT.out, hD⟩
        case measure => have := HLT.out; simp [intOf]; omega
      have g1 : (tx == 128) = false := by simpa using h128
      have g2 : (tx == 129) = false := by simpa using h129
      have g3 : (tx == 130) = false := by simpa using h130
      have HNO := hid (show ¬ tx = 128 ∧ ¬ tx = 129 ∧ ¬ tx = 130 from ⟨h128, h129, h130⟩)
      clear h128 h129 h130
      go_wp2_with (first
        | ((with_reducible refine K.atO (.load 44 _) ?_); (fail_if_success (have := HBb)); refine wpL_load rfl _ _ rfl g (ofs + i * 3) rfl [.int .i64 tx, .string SX, .slice ca xk cc] _ HRR.out rfl rfl infoN ?_)
        | ((with_reducible refine K.atO (.alloc 44) ?_); refine wpL_alloc rfl _ rfl _ zeroN [.int .i64 0, .string ⟨#[]⟩, .slice none 0 0] rfl ?_; intro wa HBa FAa HSa)
        | ((with_reducible refine K.atO (.store 44 _ _) ?_); refine wpL_storeV rfl _ _ _ rfl wr.heap.size 0 (.agg #[.int .i64 tx, .string SX, .slice ca xk cc]) [.int .i64 tx, .string SX, .slice ca xk cc] rfl rfl rfl _ _ HBa.out (by simp) infoN (by intro u hu; simp at hu; rcases hu with rfl | rfl | rfl <;> rfl) ?_; intro wb HBb FBb HSb; have c0 : wb.cell? ⟨wr.heap.size, 0, none⟩ = some (.int .i64 tx) := HBb.out.cell 0; have hfb : Hid (Fr No wr wb) := hid (FAa.out.trans FBb.out (fun j e => .inr (by have e : j = wr.heap.size := e; omega))))
        | fail)
      have hD : Hid (PR w1 fB T0 n.kids (i + 1) fi any la (.slice va m vc) L wb) := hid (by
        refine ⟨?_, HI.out.f.fr hfb.out id, HI.out.g.no gpTx hfb.out, HI.out.o.trans' (hfb.out.mono fun _ e => e.elim), HI.out.zf, HI.out.zl, by have := HI.out.n; omega⟩
        rw [HSU.out, HI.out.p]
        unfold partR
        rw [HTX.out, if_neg HNO.out.1, if_neg HNO.out.2.1, if_neg HNO.out.2.2])
      clear HBa FAa HSa HBb FBb HSb
      go_roundw
      case rel => exact ⟨i + 1, _, _, _, _, _, by go_num, HLT.out, hD⟩
      case measure => have := HLT.out; simp [intOf]; omega
    · obtain rfl : i = kl := by omega
      have hp := HI.out.p
      rw [List.take_of_length_le (by rw [HKL.out]; exact Nat.le_refl _)] at hp
      have HPP := hid hp
      have hlti : ¬ ((i : Int) < i) := by omega
      clear hp hlt
      go_wp2_with fail
      go_end0
      refine ⟨rfl, v, ?_, ?_, ?_, ?_, (F1.out.mono fun _ e => e.elim).trans' HI.out.o⟩
      · rw [HPP.out]; exact HI.out.f
      · rw [HPP.out]
        exact sl_tx (HI.out.g.sl gpTx F1.out.size (by have := HI.out.n; omega))
      · rw [HPP.out]; exact HI.out.zf
      · rw [HPP.out]; exact HI.out.zl
end Go.Proofs.Ythjmkfpdbbfcpaa.ME
