/-
  Part 18 of the proof: FtP, FtQ, FtRow, SdA.
-/
import Derived.Test.YtdkkpfeiaaffhaaGreatDoorFb16
import Derived.Test.YtdkkpfeiaaffhaaGreatDoorFb17
import Derived.Test.YtdkkpfeiaaffhaaGreatDoorFb14
import Derived.Test.YtdkkpfeiaaffhaaGreatDoorFb03
import Derived.HandedShaped
import Derived.Shelf.LaysM
set_option linter.unusedSimpArgs false
set_option linter.unusedVariables false
namespace Go.Proofs.YtdkkpfeiaaffhaaGreatDoor.FT
set_option maxRecDepth 100000
open Go.RowKit K Go.Proofs.YtdkkpfeiaaffhaaGreatDoor.BE Go.Proofs.YtdkkpfeiaaffhaaGreatDoor.DN Go.Proofs.YtdkkpfeiaaffhaaGreatDoor.SC

theorem exec_twoZ {op : Oper} {a : Act} (x g h : Operand) (ho : op.op = .slice 9 x (some g) (some h) none) (l : B) {S : ByteArray} (hS : sb l = S) (m k : Nat) {mi ki : Int} (hm : (m : Int) = mi) (hk : (k : Int) = ki) (hx : a.eval x = .string S) (hg : a.eval g = .int .i64 mi) (hh : a.eval h = .int .i64 ki) (h1 : m ≤ k) (h2 : k ≤ l.length) (r : B) (hr : (l.drop m).take (k - m) = r) (w : World) :
    (execOp a.eval op).run Tryz.prog w = .ok (.value (.string (sb r))) w := by
  subst hS hm hk
  exact exec_two x g h ho l m k hx hg hh h1 h2 r hr w
theorem sq_sm {p : B} (h : Sm p) : Sm (squeeze p) := Nat.le_trans (squeeze_len p) h
set_option maxHeartbeats 4000000 in
theorem squeeze_any (p : B) (hp : Sm p) (w : World) : Calls Tryz.prog 26 #[.string (sb p)] w fun e w' => e = .returned (.string (sb (squeeze p))) ∧ Fr No w w' := by
  have HP := hid hp
  have H := hid (fold_any (46 :: (p ++ [46])) (by unfold Sm at hp; simp; omega))
  rw [fold_sq] at H
  obtain ⟨F, hF⟩ : ∃ F, sb (46 :: (squeeze p ++ [46])) = F := ⟨_, rfl⟩
  obtain ⟨m, hm⟩ : ∃ m, (squeeze p).length = m := ⟨_, rfl⟩
  have hsz : (F.size : Int) = m + 2 := by rw [← hF, sb_size]; simp [hm]; omega
  have hmb : (m : Int) ≤ 4294967000 := by have := sq_sm hp; unfold Sm at this; omega
  have hm0 : (0 : Int) ≤ m := by omega
  have HM := hid hm; have HF := hid hF
  rw [hF] at H
  clear hp hm hF
  go_enter Tryz.func26, Tryz.ntmps26
  go_wp2_with (first
    | ((with_reducible refine K.atO (.binOp .add 9 _ _ _) ?_); (fail_if_success (have := HA)); refine wpL_valZ rfl (.string (sb (46 :: p))) (exec_addS _ _ _ rfl [46] p rfl rfl (by have := HP.out; unfold Sm at this; simp; omega) _ rfl _) ?_; have HA := hid trivial)
    | ((with_reducible refine K.atO (.binOp .add 9 _ _ _) ?_); refine wpL_valZ rfl (.string (sb (46 :: (p ++ [46])))) (exec_addS _ _ _ rfl (46 :: p) [46] rfl rfl (by have := HP.out; unfold Sm at this; simp; omega) _ rfl _) ?_)
    | fail)
  refine (H.out w).mono ?_
  rintro e w1 ⟨rfl, f1⟩
  have HF1 := hid f1
  clear f1
  go_wp2_with (first
    | ((with_reducible refine K.atO (.slice 9 _ _ _ _) ?_); refine wpL_valZ rfl (.string (sb (squeeze p))) (exec_twoZ _ _ _ rfl (46 :: (squeeze p ++ [46])) HF.out 1 (m + 1) (mi := 1) (ki := (m : Int) + 2 - 1) rfl (by push_cast; omega) rfl rfl rfl (by omega) (by simp [HM.out]) _ (by simp [← HM.out]) _) ?_)
    | fail)
  go_ret
  exact ⟨rfl, HF1.out⟩
/-! ### squeezed -/
def sqFl (f : Fl) : Fl := .mk f.kind f.kids f.type f.value (trimL (squeeze f.first)) (f.any.map squeeze) (trimR (squeeze f.last))
theorem one7 (f : Fl) {vk va : Value} (hk : ∃ a n c, vk = .slice a n c) (ha : ∃ a n c, va = .slice a n c) : ∀ v ∈ flV f vk va, v.oneCell' = true := by
  obtain ⟨a, n, c, rfl⟩ := hk
  obtain ⟨a2, n2, c2, rfl⟩ := ha
  simp [flV, Value.oneCell']
theorem zeroFl : ∀ w, (zeroValue 46).run Tryz.prog w = .ok (.agg (flV fl0 (.slice none 0 0) (.slice none 0 0)).toArray) w := fun _ => by kernel_rfl
theorem infoSls : (Tryz.prog.info? 44).map (·.size) = some 1 := by kernel_rfl
theorem infoS1 : (Tryz.prog.info? 9).map (·.size) = some 1 := by kernel_rfl
theorem strs_flat (xs : List B) : (xs.map fun x => [Value.string (sb x)]).flatten = strs xs := by
  induction xs with
  | nil => rfl
  | cons x r ih => rw [List.map_cons, List.flatten_cons, ih]; rfl
/-- A row of texts that a call made is a list of texts. -/
theorem own_ls {w0 w : World} {v : Value} {n : Nat} {xs : List B} (h : OwR 9 1 w0 w v n (strs xs)) (hs : ∀ x ∈ xs, Sz x) (hl : n ≤ 4294967000) : LsIn (fun i => w0.heap.size ≤ i) w v xs := by
  have hn : xs.length = n := by
    rcases h.2.1.2 with ⟨rfl, h0⟩ | ⟨g, cap, cur, rfl, hb, hg, h1, h2, h3, h4⟩
    · have h0 : n = 0 := h0
      have := h.2.1.1
      simp at this
      omega
    · have := h.2.1.1
      simp at this
      omega
  exact own_sl h.2.1 (xs.map fun x => [Value.string (sb x)]) (strs_flat xs) hn (by simp [hn]) (fun c hc => by
    obtain ⟨x, _, rfl⟩ := List.mem_map.1 hc
    rfl) (fun j x c hx hc => by
    rw [List.getElem?_map, hx] at hc
    cases hc
    exact ⟨rfl, hs x (List.mem_of_getElem? hx)⟩) (by omega)
set_option maxHeartbeats 16000000 in
theorem squeezed_any {T : Nat → Prop} (f : Fl) (vk va : Value) (w : World) (hk : ∃ a n c, vk = .slice a n c) (hf : Sm f.first) (hl : Sm f.last) (ha : LsIn T w va f.any) (hs : ∀ x ∈ f.any, Sm x) (hal : f.any.length ≤ 4294967000) :
    Calls Tryz.prog 136 #[.agg (flV f vk va).toArray] w fun e w' => (∃ va', e = .returned (.agg (flV (sqFl f) vk va').toArray) ∧ LsIn (fun i => w.heap.size ≤ i) w' va' (sqFl f).any) ∧ Fr No w w' := by
  have HKS := hid hk; have HFI := hid hf; have HLA := hid hl; have HA := hid ha; have HS := hid hs
  obtain ⟨aa, ac, rfl, hac, -⟩ := ha.form
  obtain ⟨n, hn⟩ : ∃ n, f.any.length = n := ⟨_, rfl⟩
  have HN := hid hn
  rw [hn] at HA hal hac ⊢
  have hni : (n : Int) ≤ 4294967000 := by omega
  obtain ⟨ka, kn, kc, rfl⟩ := hk
  clear hf hl ha hs hn hal hac
  go_enter Tryz.func136, Tryz.ntmps136
  go_wp2_with (first
    | ((with_reducible refine K.atO (.box 46 _) ?_); refine wpL_box rfl _ _ rfl _ rfl (flV f (.slice ka kn kc) (.slice aa n ac)) rfl ?_; intro w1 HB1 HF1 HS1)
    | ((with_reducible refine K.atO (.alloc 46) ?_); refine wpL_alloc rfl _ rfl _ zeroFl (flV fl0 (.slice none 0 0) (.slice none 0 0)) rfl ?_; intro w2 HB2 HF2 HS2; refine Hid.out ?_)
    | fail)
  obtain ⟨p, hp⟩ : ∃ p, w.heap.size = p := ⟨_, rfl⟩
  rw [hp] at HB1 ⊢
  obtain ⟨q, hq⟩ : ∃ q, w1.heap.size = q := ⟨_, rfl⟩
  rw [hq] at HB2 ⊢
  have HPQ := hid (show w.heap.size = p ∧ q = p + 1 ∧ w2.heap.size = p + 2 from ⟨hp, by have := HS1.out; omega, by have := HS1.out; have := HS2.out; omega⟩)
  have HF2' : Hid (Fr No w w2) := hid (HF1.out.trans' HF2.out)
  have HBp := hid (HB1.out.fr HF2.out id)
  have HBq := hid HB2.out
  have c5 : w2.cell? ⟨p, 5, none⟩ = some (.slice aa n ac) := HBp.out.cell 5
  clear hp hq HS1 HS2 HB1 HF1 HB2 HF2
  refine hid ?_
  go_wp2_with fail
  go_loopw [3, 9] (fun sv iv wr => ∃ (i : Nat), iv = .int .i64 i ∧ i ≤ n ∧ Hid (OwR 9 1 w2 wr sv i (strs ((f.any.take i).map squeeze)))) (fun _ iv _ => n - (intOf iv).toNat)
  case atStart => exact ⟨0, rfl, Nat.zero_le _, hid (owR_nil (Fr.refl _ _))⟩
  case round =>
    obtain ⟨i, rfl, hi, HO⟩ := hrel
    obtain ⟨sa, sc, rfl⟩ := HO.out.1
    by_cases hlt : i < n
    · obtain ⟨x, hx⟩ : ∃ x, f.any[i]? = some x := ⟨_, List.getElem?_eq_getElem (by rw [HN.out]; exact hlt)⟩
      have hlti : (i : Int) < n := by omega
      have hi0 : (0 : Int) ≤ i := by omega
      obtain ⟨g, o, cq, cs, e1, -, hgw, hrr, hc, hxa⟩ := (LsIn.fr (D := No) HA.out (HF2'.out.trans' HO.out.fr) (fun _ _ _ e => e)).get hx
      rw [HN.out] at e1
      simp only [Value.slice.injEq, true_and] at e1
      obtain ⟨rfl, rfl⟩ := e1
      obtain ⟨rfl, -⟩ := hxa
      have d0 : wr.cell? ⟨g, o + i, none⟩ = some (.string (sb x)) := by have := hrr 0 _ rfl; simpa using this
      have HXB : Hid (Sm x) := hid (HS.out x (List.mem_of_getElem? hx))
      have HNX : Hid (strs ((f.any.take (i + 1)).map squeeze) = strs ((f.any.take i).map squeeze) ++ [.string (sb (squeeze x))]) := hid (by
        rw [List.take_add_one, hx]
        simp [strs])
      have HLT := hid hlt
      clear hc hgw hrr hx hlt
      go_wp2_with fail
      refine (squeeze_any x HXB.out wr).mono ?_
      rintro e w4 ⟨rfl, f4⟩
      have HO4 := hid (OwR.no HO.out f4)
      clear f4 d0
      go_wp2_with (first
        | ((with_reducible refine K.atO (.buildSlice 44 _ _) ?_); refine wpL_app1 rfl rfl _ _ _ 44 9 rfl rfl Tryz.underlying44 infoStr rfl (by decide) (by decide) HO4.out (.string (sb (squeeze x))) [.string (sb (squeeze x))] rfl rfl rfl (by simp [Value.oneCell']) (fun _ => rfl) (fun _ => rfl) (by omega) (by omega) ?_; intro q5 a5 c5 w5 HO5 HF5)
        | fail)
      refine ⟨⟨i + 1, by go_num, HLT.out, hid (by rw [HNX.out]; exact HO5.out)⟩, ?_⟩
      have := HLT.out
      simp [intOf]; omega
    · obtain rfl : i = n := by omega
      have hall : (f.any.take i).map squeeze = f.any.map squeeze := by rw [← HN.out, List.take_length]
      have HO2 := HO.out
      rw [hall] at HO2
      have HOO := hid HO2
      have HALL : Hid (∀ x ∈ f.any.map squeeze, Sz x) := hid (fun x hx => by
        obtain ⟨y, hy, rfl⟩ := List.mem_map.1 hx
        have h1 := sq_sm (HS.out y hy)
        unfold Sm at h1; unfold Sz; omega)
      have HFr := hid HO.out.fr
      have HBpr := hid (HBp.out.fr HO.out.fr id)
      have HBqr := hid (HBq.out.fr HO.out.fr id)
      have HWR : Hid (p + 2 ≤ wr.heap.size) := hid (by have := HO.out.fr.size; have := HPQ.out; omega)
      have c4 : wr.cell? ⟨p, 4, none⟩ = some (.string (sb f.first)) := HBpr.out.cell 4
      clear hall HO2 HO hi hlt c5
      go_wp2_with fail
      refine (squeeze_any f.first HFI.out wr).mono ?_
      rintro e w3 ⟨rfl, f3⟩
      have HF3 := hid f3
      have HBp3 := hid (HBpr.out.fr f3 id)
      clear f3 c4
      go_wp2_with fail
      refine (trimL_any (squeeze f.first) w3).mono ?_
      rintro e w4 ⟨rfl, rfl⟩
      go_wp2_with (first
        | ((with_reducible refine K.atO (.store 9 _ _) ?_); refine wpL_setV rfl _ _ _ rfl p 4 (.string (sb (trimL (squeeze f.first)))) rfl rfl rfl rfl 46 _ HBp3.out (by simp [flV]) infoS1 ?_; intro w5 HB5 HF5 HS5)
        | ((with_reducible refine K.atO (.store 44 _ _) ?_); refine wpL_setV rfl _ _ _ rfl p 5 (.slice sa i sc) rfl rfl rfl rfl 46 _ HB5.out (by simp [flV]) infoSls ?_; intro w6 HB6 HF6 HS6; refine Hid.out ?_)
        | fail)
      have c6 : w6.cell? ⟨p, 6, none⟩ = some (.string (sb f.last)) := HB6.out.cell 6
      have HF6' : Hid (Fr (fun k => k = p) wr w6) := hid (HF3.out.no.trans' (HF5.out.trans' HF6.out))
      have HB6' := hid HB6.out
      clear HB5 HF5 HS5 HF6 HS6 HB6
      refine hid ?_
      go_wp2_with fail
      refine (squeeze_any f.last HLA.out w6).mono ?_
      rintro e w7 ⟨rfl, f7⟩
      have HF7 := hid (HF6'.out.trans' f7.no)
      have HB7 := hid (HB6'.out.fr f7 id)
      clear f7 c6
      go_wp2_with fail
      refine (trimR_any (squeeze f.last) (by have h1 := sq_sm HLA.out; unfold Sm at h1; unfold Sz; omega) w7).mono ?_
      rintro e w8 ⟨rfl, rfl⟩
      have HBq8 := hid (HBqr.out.fr HF7.out (by show ¬ q = p; have := HPQ.out; omega))
      go_wp2_with (first
        | ((with_reducible refine K.atO (.store 9 _ _) ?_); refine wpL_setV rfl _ _ _ rfl p 6 (.string (sb (trimR (squeeze f.last)))) rfl rfl rfl rfl 46 _ HB7.out (by simp [flV]) infoS1 ?_; intro w9 HB9 HF9 HS9)
        | ((with_reducible refine K.atO (.load 46 _) ?_); refine wpL_load rfl _ _ rfl p 0 rfl (flV (sqFl f) (.slice ka kn kc) (.slice sa i sc)) _ (HB9.out.range 0 _ rfl) rfl rfl infoFl ?_)
        | ((with_reducible refine K.atO (.store 46 _ _) ?_); refine wpL_store rfl _ _ _ rfl q 0 (flV (sqFl f) (.slice ka kn kc) (.slice sa i sc)) rfl rfl 46 _ (HBq8.out.fr HF9.out (by show ¬ q = p; have := HPQ.out; omega)) (by simp [flV]) infoFl (one7 _ ⟨_, _, _, rfl⟩ ⟨_, _, _, rfl⟩) ?_; intro w10 HB10 HF10 HS10)
        | fail)
      have HB10' : Hid (Blk w10 q 46 (flV (sqFl f) (.slice ka kn kc) (.slice sa i sc))) := hid HB10.out
      have hfr : Fr (fun k => k = p ∨ k = q) wr w10 := (HF7.out.trans' HF9.out).mono (fun k e => .inl e) |>.trans' (HF10.out.mono (fun k e => .inr e))
      refine ret_cell rfl _ rfl HB10'.out rfl rfl infoFl rfl ?_
      refine ⟨⟨_, rfl, ?_⟩, ?_⟩
      · have h1 := own_ls HOO.out HALL.out (by have := HN.out; omega)
        refine (LsIn.fr h1 hfr (fun j hj _ e => ?_)).mono (fun j hj _ => ?_)
        · have hj : w2.heap.size ≤ j := hj
          have := HPQ.out
          rcases e with e | e <;> omega
        · have hj : w2.heap.size ≤ j := hj
          have := HPQ.out
          omega
      · exact (HF2'.out.trans' HFr.out).trans hfr (fun k e => .inr (by have := HPQ.out; rcases e with e | e <;> omega))
end Go.Proofs.YtdkkpfeiaaffhaaGreatDoor.FT

namespace Go.Proofs.YtdkkpfeiaaffhaaGreatDoor.FT
set_option maxRecDepth 100000
open Go.RowKit K Go.Proofs.YtdkkpfeiaaffhaaGreatDoor.BE Go.Proofs.YtdkkpfeiaaffhaaGreatDoor.DN Go.Proofs.YtdkkpfeiaaffhaaGreatDoor.SC

theorem cut_sm {s p : B} (h : Sm s) : Sm (Lib.cut s p).2.1 := by
  cases hc : (Lib.cut s p).2.2 with
  | true => exact Nat.le_trans (cut_len hc) h
  | false =>
    have : (Lib.cut s p).2.1 = [] := by
      unfold Lib.cut at hc ⊢
      split at hc
      · cases hc
      · rw [if_neg (by assumption)]
    rw [this]
    unfold Sm
    simp
theorem pre_len (s p : B) : (Lib.trimPrefix s p).length ≤ s.length := by
  unfold Lib.trimPrefix
  split
  · simp
  · exact Nat.le_refl _
/-- What is still to be found. -/
def rest (fd : Bool) (r : B) (l : List B) (last : B) : Bool := fd && (match cutAll r l with | none => false | some r => Lib.hasSuffix r last)
theorem rest_cons (r p : B) (l : List B) (last : B) : rest true r (p :: l) last = rest (Lib.cut r p).2.2 (Lib.cut r p).2.1 l last := by
  unfold rest
  rw [cutAll]
  cases (Lib.cut r p).2.2 <;> simp
set_option maxHeartbeats 16000000 in
theorem hasParts_any {T : Nat → Prop} (text : B) (f : Fl) (vk va : Value) (w : World) (ht : Sm text) (hG : Gm w) (ha : LsIn T w va f.any) :
    Calls Tryz.prog 138 #[.string (sb text), .agg (flV f vk va).toArray] w fun e w' => e = .returned (.bool (hasP text f.first f.any f.last)) ∧ Fr No w w' := by
  have HT := hid ht; have HG := hid hG; have HA := hid ha
  obtain ⟨R, hR⟩ : ∃ R, hasP text f.first f.any f.last = R := ⟨_, rfl⟩
  have HR : Hid (rest (Lib.hasPrefix text f.first) (Lib.trimPrefix text f.first) f.any f.last = R) := hid hR
  rw [hR]
  obtain ⟨aa, ac, rfl, -, hl0⟩ := ha.form
  obtain ⟨n, hn⟩ : ∃ n, f.any.length = n := ⟨_, rfl⟩
  have HN := hid hn
  rw [hn] at HA hl0 ⊢
  have hni : (n : Int) ≤ 140737488351232 := by omega
  clear ht hG ha hR hn hl0
  go_enter Tryz.func138, Tryz.ntmps138
  go_wp2_with (first
    | ((with_reducible refine K.atO (.box 46 _) ?_); refine wpL_box rfl _ _ rfl _ rfl (flV f vk (.slice aa n ac)) rfl ?_; intro w1 HB1 HF1 HS1; refine Hid.out ?_)
    | fail)
  obtain ⟨p, hp⟩ : ∃ p, w.heap.size = p := ⟨_, rfl⟩
  rw [hp] at HB1 ⊢
  have c4 : w1.cell? ⟨p, 4, none⟩ = some (.string (sb f.first)) := HB1.out.cell 4
  clear hp HS1
  refine hid ?_
  go_wp2_with fail
  refine (cutPre_any text f.first (by have := HT.out; unfold Sm at this; unfold Sz; omega) w1).mono ?_
  rintro e w2 ⟨rfl, f2⟩
  have HB2 := hid (HB1.out.fr f2 id)
  have HF2 : Hid (Fr No w w2) := hid (HF1.out.trans' f2)
  have c5 : w2.cell? ⟨p, 5, none⟩ = some (.slice aa n ac) := HB2.out.cell 5
  have HR0 : Hid (Sm (Lib.trimPrefix text f.first)) := hid (Nat.le_trans (pre_len _ _) HT.out)
  generalize Lib.hasPrefix text f.first = fd0 at HR ⊢
  generalize Lib.trimPrefix text f.first = r0 at HR HR0 ⊢
  clear f2 c4 HB1 HF1
  go_wp2_with fail
  go_loopw [5, 6, 19] (fun rv fv iv wr => ∃ (i : Nat) (r : B) (fd : Bool), rv = .string (sb r) ∧ fv = .bool fd ∧ iv = .int .i64 i ∧ i ≤ n ∧ Hid (rest fd r (f.any.drop i) f.last = R ∧ Sm r ∧ Fr No w2 wr)) (fun _ _ iv _ => n - (intOf iv).toNat)
  case atStart => exact ⟨0, r0, fd0, rfl, rfl, rfl, Nat.zero_le _, hid ⟨HR.out, HR0.out, Fr.refl _ _⟩⟩
  case round =>
    obtain ⟨i, r, fd, rfl, rfl, rfl, hi, HI⟩ := hrel
    by_cases hlt : i < n
    · obtain ⟨x, hx⟩ : ∃ x, f.any[i]? = some x := ⟨_, List.getElem?_eq_getElem (by rw [HN.out]; exact hlt)⟩
      have hlti : (i : Int) < n := by omega
      have hi0 : (0 : Int) ≤ i := by omega
      obtain ⟨g, o, cq, cs, e1, -, hgw, hrr, hc, hxa⟩ := (LsIn.fr (D := No) HA.out (HF2.out.trans' HI.out.2.2) (fun _ _ _ e => e)).get hx
      rw [HN.out] at e1
      simp only [Value.slice.injEq, true_and] at e1
      obtain ⟨rfl, rfl⟩ := e1
      obtain ⟨rfl, -⟩ := hxa
      have d0 : wr.cell? ⟨g, o + i, none⟩ = some (.string (sb x)) := by have := hrr 0 _ rfl; simpa using this
      have HD : Hid (f.any.drop i = x :: f.any.drop (i + 1)) := hid (drop_at hx).1
      have HLT := hid hlt
      clear hc hgw hrr hx hlt
      cases fd with
      | false =>
        have HRF : Hid (false = R) := hid (by rw [← HI.out.1]; rfl)
        go_wp2_with fail
        go_ret
        exact ⟨by rw [← HRF.out]; rfl, HF2.out.trans' HI.out.2.2⟩
      | true =>
        go_wp2_with fail
        refine (cutX_any r x HI.out.2.1 wr (HG.out.no (HF2.out.trans' HI.out.2.2))).mono ?_
        rintro e w3 ⟨rfl, f3⟩
        have HI3 : Hid (rest (Lib.cut r x).2.2 (Lib.cut r x).2.1 (f.any.drop (i + 1)) f.last = R ∧ Sm (Lib.cut r x).2.1 ∧ Fr No w2 w3) := hid ⟨by rw [← rest_cons, ← HD.out]; exact HI.out.1, cut_sm HI.out.2.1, HI.out.2.2.trans' f3⟩
        generalize (Lib.cut r x).2.2 = fd1 at HI3 ⊢
        generalize (Lib.cut r x).2.1 = r1 at HI3 ⊢
        generalize (Lib.cut r x).1 = z1
        clear f3 d0
        go_wp2_with fail
        go_roundw
        case rel => exact ⟨i + 1, r1, fd1, rfl, rfl, by go_num, HLT.out, HI3⟩
        case measure => have := HLT.out; simp [intOf]; omega
    · obtain rfl : i = n := by omega
      have HDN : Hid (rest fd r [] f.last = R) := hid (by
        have h := HI.out.1
        rw [List.drop_eq_nil_of_le (by rw [HN.out]; exact Nat.le_refl _)] at h
        exact h)
      cases fd with
      | false =>
        have HRF : Hid (false = R) := hid HDN.out
        go_wp2_with fail
        go_ret
        exact ⟨by rw [← HRF.out]; rfl, HF2.out.trans' HI.out.2.2⟩
      | true =>
        have HRF : Hid (Lib.hasSuffix r f.last = R) := hid HDN.out
        have c6 : wr.cell? ⟨p, 6, none⟩ = some (.string (sb f.last)) := (HB2.out.fr HI.out.2.2 id).cell 6
        go_wp2_with fail
        refine (hasSuf_any r f.last (by have := HI.out.2.1; unfold Sm at this; unfold Sz; omega) wr).mono ?_
        rintro e w3 ⟨rfl, rfl⟩
        rw [HRF.out]
        go_wp2_with fail
        go_ret
        exact ⟨rfl, HF2.out.trans' HI.out.2.2⟩
/-! ### evalParts -/
set_option maxHeartbeats 4000000 in
theorem parts1_any {T : Nat → Prop} (q : Nat) (f : Fl) (vk va : Value) (v : B) (w : World) (hq : Blk w q 46 (flV f vk va)) (hv : Sm v) (hG : Gm w) (ha : LsIn T w va f.any) :
    Calls Tryz.prog 137 #[.string (sb v), .pointer (some ⟨q, 0, none⟩)] w fun e w' => e = .returned (.bool (hasP (fold v) f.first f.any f.last)) ∧ Fr No w w' := by
  have c3 := hq.range 0 (flV f vk va) rfl
  have HV := hid hv; have HG := hid hG; have HA := hid ha
  clear hq hv hG ha
  go_enter Tryz.func137, Tryz.ntmps137
  go_wp2_with fail
  have hold : Facts.hold [(2, fun w' => w'.rangeAt q 0 (flV f vk va))] w.drew := Facts.cons_hold c3 (Facts.nil_hold _)
  refine wpD_region hold (by kernel_rfl) 5 rfl ?_
  (refine wpD_plain 0 (v := ?_) rfl (by kernel_rfl) (by kernel_rfl) (by kernel_rfl) (fun _ _ _ h => h) (by rfl) ?_ (by assumption) ?_; rotate_left; (intro _w; go_simp; try with_reducible rfl); simp only [Act.put, K.put3])
  (refine wpD_take 2 _ rfl (by kernel_rfl) (by kernel_rfl) (by kernel_rfl) (fun _ _ _ h => h) List.mem_cons_self (by rfl) (exec_load _ _ rfl q 0 rfl _ _ rfl rfl infoFl) (by assumption) ?_; simp only [Act.put, K.put3])
  clear hold
  refine wpD_only 1 [(2, fun w' => w'.rangeAt q 0 (flV f vk va))] rfl (by kernel_rfl) (by kernel_rfl) (by rfl) (fun K1 hK1 => ?_)
  refine wp_call _ _ _ rfl 59 [] rfl (fun vs w => by kernel_rfl) [.string (sb v)] (by rfl) ?_
  refine (fold_any v (by have := HV.out; unfold Sm at this; omega) w.drew).mono ?_
  rintro e w2 ⟨rfl, f2⟩
  have HF2 := hid ((Fr.refl No w).drew.trans' f2)
  have c32 : w2.rangeAt q 0 (flV f vk va) := HF2.out.range c3 id
  refine ⟨_, rfl, hK1 _ _ (Facts.cons_hold c32 (Facts.nil_hold _)) ?_⟩
  clear hK1 K1 f2
  simp only [Act.put, K.put3]
  refine wpD_only 3 [] rfl (by kernel_rfl) (by kernel_rfl) (by rfl) (fun K3 hK3 => ?_)
  refine wp_call _ _ _ rfl 138 [] rfl (fun vs w => by kernel_rfl) [.string (sb (fold v)), .agg (flV f vk va).toArray] (by rfl) ?_
  refine (hasParts_any (fold v) f vk va w2 (Nat.le_trans (fold_len v) HV.out) (HG.out.no HF2.out) (HA.out.fr HF2.out (fun _ _ _ e => e))).mono ?_
  rintro e w3 ⟨rfl, f3⟩
  have HF3 := hid (HF2.out.trans' f3)
  refine ⟨_, rfl, hK3 _ _ (Facts.nil_hold _) ?_⟩
  clear hK3 K3 f3
  simp only [Act.put, K.put3]
  have hold : Facts.hold [] w3 := Facts.nil_hold _
  (refine wpD_plain 4 (v := ?_) rfl (by kernel_rfl) (by kernel_rfl) (by kernel_rfl) (fun _ _ _ h => h) (by rfl) ?_ (by assumption) ?_; rotate_left; (intro _w; go_simp; try with_reducible rfl); simp only [Act.put, K.put3])
  clear hold
  refine wpD_done (by kernel_rfl) ?_ _
  go_wp2_with fail
  go_ret
  exact ⟨rfl, HF3.out⟩
set_option maxHeartbeats 4000000 in
theorem parts2_any {T : Nat → Prop} (q : Nat) (f : Fl) (vk va : Value) (v : B) (w : World) (hq : Blk w q 46 (flV f vk va)) (hv : Sm v) (hG : Gm w) (ha : LsIn T w va f.any) :
    Calls Tryz.prog 139 #[.string (sb v), .pointer (some ⟨q, 0, none⟩)] w fun e w' => e = .returned (.bool (hasP v f.first f.any f.last)) ∧ Fr No w w' := by
  have HQ := hid hq; have H := hid (hasParts_any v f vk va w hv hG ha)
  clear hq hv hG ha
  go_enter Tryz.func139, Tryz.ntmps139
  go_wp2_with (first
    | ((with_reducible refine K.atO (.load 46 _) ?_); refine wpL_load rfl _ _ rfl q 0 rfl (flV f vk va) _ (HQ.out.range 0 _ rfl) rfl rfl infoFl ?_)
    | fail)
  refine H.out.mono ?_
  rintro e w' ⟨rfl, f1⟩
  have HF := hid f1
  clear f1
  go_wp2_with fail
  go_ret
  exact ⟨rfl, HF.out⟩
/-- No value of an entry is longer than may be folded. -/
def EnS (en : Ent) : Prop := ∀ a ∈ en, ∀ v ∈ a.2, Sm v
theorem valsOf_sm {s : Sch} {en : Ent} {n : B} (h : EnS en) : ∀ v ∈ valsOf s en n, Sm v := by
  intro v hv
  unfold valsOf at hv
  cases ht : tyN s n with
  | none => rw [ht] at hv; cases hv
  | some t =>
    rw [ht] at hv
    simp only at hv
    cases ha : attrOf s en t.nm with
    | none => rw [ha] at hv; cases hv
    | some a =>
      rw [ha] at hv
      exact h a (List.mem_of_find?_eq_some ha) v hv
set_option maxHeartbeats 16000000 in
theorem evalParts_any {S T : Nat → Prop} {M : Nat} (X : Nat → Prop) (b : Nat) (s : Sch) (ve : Value) (en : Ent) (lv : Int) (f : Fl) (t : Ty) (vk va : Value) (w : World) (h : Tn X b s w) (he : EnIn S w ve en) (hS : ∀ i, S i → i ≠ b) (hf : FlC M T w f (flV f vk va)) (hT : ∀ i, T i → i ≠ b) (hE : EnS en) (ht : tyN s f.type = some t) :
    Calls Tryz.prog 92 #[.agg (sjV b ve lv).toArray, .agg (flV f vk va).toArray] w fun e w' => e = .returned (.int .i64 (evParts s en f.type f.first f.any f.last)) ∧ Sx w' X b s ∧ Fr (fun k => k = b) w w' := by
  have HX := hid h; have HS := hid hS; have HES := hid hE; have HTN := hid ht
  have HE : Hid (EnIn (fun i => S i ∧ i < w.heap.size) w ve en) := hid (he.mono (fun i hi hlt => ⟨hi, hlt⟩))
  cases M with
  | zero => exact hf.elim
  | succ M =>
  obtain ⟨vk2, va2, e0, -, hzt, -, hzf, hzl, hza, hks⟩ := hf
  have e1 : va2 = va := by simp [flV] at e0; exact e0.2.symm
  have e2 : vk2 = vk := by simp [flV] at e0; exact e0.1.symm
  subst e1 e2
  have HZT := hid hzt; have HZF := hid hzf; have HZL := hid hzl; have HZA : Hid (LsIn (fun i => T i ∧ i < w.heap.size) w va2 f.any) := hid (hza.1.mono (fun i hi hlt => ⟨hi, hlt⟩)); have HZS := hid hza.2
  have HTB := hid hT
  obtain ⟨ka, kc, rfl, -, -⟩ := hks.form
  obtain ⟨aa, ac, rfl, -, -⟩ := hza.1.form
  obtain ⟨R, hR⟩ : ∃ R, evParts s en f.type f.first f.any f.last = R := ⟨_, rfl⟩
  have HR := hid hR
  rw [hR]
  have HBW := hid h.lt
  obtain ⟨ea, ec, rfl, -, -⟩ := he.form
  clear h he hS hE ht hzt hzf hzl hza hks hR e0 hT
  go_enter Tryz.func92, Tryz.ntmps92
  go_wp2_with (first
    | ((with_reducible refine K.atO (.box 113 _) ?_); refine wpL_box rfl _ _ rfl _ rfl (sjV b (.slice ea en.length ec) lv) rfl ?_; intro w1 HB1 HF1 HS1)
    | ((with_reducible refine K.atO (.box 46 _) ?_); refine wpL_box rfl _ _ rfl _ rfl (flV f (.slice ka f.kids.length kc) (.slice aa f.any.length ac)) rfl ?_; intro w2 HB2 HF2 HS2; refine Hid.out ?_)
    | fail)
  obtain ⟨p, hp⟩ : ∃ p, w.heap.size = p := ⟨_, rfl⟩
  rw [hp] at HB1 HE ⊢
  obtain ⟨q, hq⟩ : ∃ q, w1.heap.size = q := ⟨_, rfl⟩
  rw [hq] at HB2 ⊢
  have HPQ := hid (show ¬ p = b ∧ ¬ q = b ∧ w.heap.size = p ∧ q = p + 1 from ⟨by have := HBW.out; omega, by have := HBW.out; have := HS1.out; omega, hp, by have := HS1.out; omega⟩)
  have HF2' : Hid (Fr No w w2) := hid (HF1.out.trans' HF2.out)
  have HBp := hid (HB1.out.fr HF2.out id)
  have c2 : w2.cell? ⟨q, 2, none⟩ = some (.string (sb f.type)) := HB2.out.cell 2
  have HX2 : Hid (Tn (Also X q) b s w2) := hid (HX.out.also (by have := HPQ.out; omega) HF2'.out HB2.out.lt)
  have HGM : Hid (GM (fun k => k < q)) := hid (by have h := HX.out.2.2.2.gx; have h2 := HPQ.out; exact ⟨⟨by have := h.1.1; omega, by have := h.1.2.1; omega, by have := h.1.2.2; omega⟩, by have := h.2; omega⟩)
  have HE2 := hid (HE.out.fr HF2'.out (fun _ _ _ e => e))
  clear hp hq HS1 HS2 HB1 HF1 HF2
  refine hid ?_
  go_wp2_with (first
    | ((with_reducible refine K.atO (.load 113 _) ?_); refine wpL_load rfl _ _ rfl p 0 rfl (sjV b (.slice ea en.length ec) lv) _ (HBp.out.range 0 _ rfl) rfl rfl infoSj ?_)
    | ((with_reducible refine K.atO (.buildSlice 141 _ _) ?_); refine wpL_buildSlice rfl _ 3 _ _ rfl [.int .i64 1] (by kernel_rfl) ?_; intro w3 HB3 HF3 HS3; refine Hid.out ?_)
    | fail)
  obtain ⟨g, hg⟩ : ∃ g, w2.heap.size = g := ⟨_, rfl⟩
  rw [hg] at HB3 ⊢
  have HGB : Hid (g ≠ b) := hid (by have := HBW.out; have := HF2'.out.size; omega)
  have HX3 := hid (HX2.out.no HF3.out)
  have HE3 := hid (HE2.out.fr HF3.out (fun _ _ _ e => e))
  have HBp3 := hid (HBp.out.fr HF3.out id)
  have HBq3 := hid (HB2.out.fr HF3.out id)
  have HF3' := hid (HF2'.out.trans' HF3.out)
  clear hg HS3 HF3 HX2 HE2 HBp HB2
  refine hid ?_
  go_wp2_with fail
  refine (hasSyn_any (Also X q) b s f.type (.slice ea en.length ec) lv [1] g w3 HX3.out HZT.out (HB3.out.range 0 _ rfl) HGB.out (by decide)).mono ?_
  rintro e w4 ⟨rfl, hs4, f4⟩
  have HX4 := hid (HX3.out.step hs4 f4)
  have HE4 := hid (HE3.out.fr f4 (fun i hi _ e => HS.out i hi.1 e))
  have HBp4 := hid (HBp3.out.fr f4 HPQ.out.1)
  have HBq4 := hid (HBq3.out.fr f4 HPQ.out.2.1)
  have HF4 : Hid (Fr (fun k => k = b) w w4) := hid (HF3'.out.no.trans' f4)
  have HZA4 := hid (HZA.out.fr HF4.out (fun i hi _ e => HTB.out i hi.1 e))
  clear hs4 f4 c2 HX3 HE3 HBp3 HBq3 HB3
  cases hsy : hasSyn s f.type [1] with
  | true =>
    have HRT : Hid (truI ((valsOf s en f.type).any fun x => hasP (fold x) (sqFl f).first (sqFl f).any (sqFl f).last) = R) := hid (by rw [← HR.out]; unfold evParts; rw [hsy]; rfl)
    clear hsy
    go_wp2_with (first
      | ((with_reducible refine K.atO (.load 46 _) ?_); refine wpL_load rfl _ _ rfl q 0 rfl (flV f (.slice ka f.kids.length kc) (.slice aa f.any.length ac)) _ (HBq4.out.range 0 _ rfl) rfl rfl infoFl ?_)
      | fail)
    refine (squeezed_any f _ _ w4 ⟨_, _, _, rfl⟩ HZF.out HZL.out HZA4.out HZS.out.1 HZS.out.2).mono ?_
    rintro e w5 ⟨⟨va', rfl, hla'⟩, f5⟩
    obtain ⟨a2, c2', rfl, -, -⟩ := hla'.form
    have HLA := hid hla'
    have HF5 := hid f5
    have HBq5 := hid (HBq4.out.fr f5 id)
    have HW4 : Hid (q < w4.heap.size) := hid (by have := HF4.out.size; have h2 := HBq4.out.lt; exact h2)
    clear hla' f5
    go_wp2_with (first
      | ((with_reducible refine K.atO (.store 46 _ _) ?_); refine wpL_store rfl _ _ _ rfl q 0 (flV (sqFl f) (.slice ka f.kids.length kc) (.slice a2 (sqFl f).any.length c2')) rfl rfl 46 _ HBq5.out (by simp [flV]) infoFl (one7 _ ⟨_, _, _, rfl⟩ ⟨_, _, _, rfl⟩) ?_; intro w6 HB6 HF6 HS6; refine Hid.out ?_)
      | fail)
    have HB6' := hid HB6.out
    have HX6 : Hid (Tn (Also X q) b s w6) := hid ((HX4.out.no HF5.out).set HF6.out HGM.out)
    have HE6 : Hid (EnIn (fun i => S i ∧ i < p) w6 (.slice ea en.length ec) en) := hid (((HE4.out.no HF5.out).fr HF6.out (fun i hi _ e => by have e : i = q := e; have := hi.2; have := HPQ.out; omega)))
    have HF6' : Hid (Fr (fun k => k = b) w w6) := hid ((HF4.out.trans' HF5.out.no).trans HF6.out (fun k e => .inr (by have e : k = q := e; have := HPQ.out; omega)))
    have HB4 : Hid (b < w4.heap.size) := hid (by have := HX4.out.lt; exact this)
    have c26 : w6.cell? ⟨q, 2, none⟩ = some (.string (sb f.type)) := HB6'.out.cell 2
    have cp6 : w6.rangeAt p 0 (sjV b (.slice ea en.length ec) lv) := ((HBp4.out.fr HF5.out id).fr HF6.out (by show ¬ p = q; have := HPQ.out; omega)).range 0 _ rfl
    have HCP := hid cp6
    clear HS6 HB6 cp6
    refine hid ?_
    go_wp2_with (first
      | ((with_reducible refine K.atO (.load 113 _) ?_); refine wpL_load rfl _ _ rfl p 0 rfl (sjV b (.slice ea en.length ec) lv) _ HCP.out rfl rfl infoSj ?_)
      | fail)
    refine (evalValues_any 137 [.pointer (some ⟨q, 0, none⟩)] (fun x => hasP (fold x) (sqFl f).first (sqFl f).any (sqFl f).last) (Also X q) b s _ en lv f.type t w6 HX6.out HE6.out (fun i hi => HS.out i hi.1) HZT.out HTN.out (fun vs w => by kernel_rfl)
      (fun v hv hzv wv hx hfw => (parts1_any q (sqFl f) (.slice ka f.kids.length kc) (.slice a2 (sqFl f).any.length c2') v wv (HB6'.out.fr hfw HPQ.out.2.1) (valsOf_sm HES.out v hv) hx.2.2.2 (LsIn.fr (LsIn.fr HLA.out HF6.out (fun i hi _ e => by have hi : w4.heap.size ≤ i := hi; have e : i = q := e; have := HW4.out; omega)) hfw (fun i hi _ e => by have hi : w4.heap.size ≤ i := hi; have e : i = b := e; have := HB4.out; omega))).mono fun e w' h => ⟨h.1, hx.1.no h.2, h.2.no⟩)).mono ?_
    rintro e w7 ⟨rfl, hs7, f7⟩
    rw [HRT.out]
    have HS7 := hid hs7; have HF7 := hid (HF6'.out.trans' f7)
    clear hs7 f7 c26
    go_wp2_with fail
    go_ret
    exact ⟨rfl, Sx.back HS7.out, HF7.out⟩
  | false =>
    have HRT : Hid (truI ((valsOf s en f.type).any fun x => hasP x f.first f.any f.last) = R) := hid (by rw [← HR.out]; unfold evParts; rw [hsy]; rfl)
    have HE4' : Hid (EnIn (fun i => S i ∧ i < p) w4 (.slice ea en.length ec) en) := HE4
    have c24 : w4.cell? ⟨q, 2, none⟩ = some (.string (sb f.type)) := HBq4.out.cell 2
    have HCP := hid (HBp4.out.range 0 (sjV b (.slice ea en.length ec) lv) rfl)
    clear hsy
    go_wp2_with (first
      | ((with_reducible refine K.atO (.load 113 _) ?_); refine wpL_load rfl _ _ rfl p 0 rfl (sjV b (.slice ea en.length ec) lv) _ HCP.out rfl rfl infoSj ?_)
      | fail)
    refine (evalValues_any 139 [.pointer (some ⟨q, 0, none⟩)] (fun x => hasP x f.first f.any f.last) (Also X q) b s _ en lv f.type t w4 HX4.out HE4.out (fun i hi => HS.out i hi.1) HZT.out HTN.out (fun vs w => by kernel_rfl)
      (fun v hv hzv wv hx hfw => (parts2_any q f (.slice ka f.kids.length kc) (.slice aa f.any.length ac) v wv (HBq4.out.fr hfw HPQ.out.2.1) (valsOf_sm HES.out v hv) hx.2.2.2 (LsIn.fr HZA4.out hfw (fun i hi _ e => HTB.out i hi.1 e))).mono fun e w' h => ⟨h.1, hx.1.no h.2, h.2.no⟩)).mono ?_
    rintro e w7 ⟨rfl, hs7, f7⟩
    rw [HRT.out]
    have HS7 := hid hs7; have HF7 := hid (HF4.out.trans' f7)
    clear hs7 f7 c24
    go_wp2_with fail
    go_ret
    exact ⟨rfl, Sx.back HS7.out, HF7.out⟩
end Go.Proofs.YtdkkpfeiaaffhaaGreatDoor.FT

namespace Go.Proofs.YtdkkpfeiaaffhaaGreatDoor.FT
set_option maxRecDepth 100000
open Go.ChangeShapes Go.WideShapes Go.ChangeAt Go.RowKit K Go.Proofs.YtdkkpfeiaaffhaaGreatDoor.BE Go.Proofs.YtdkkpfeiaaffhaaGreatDoor.DN Go.Proofs.YtdkkpfeiaaffhaaGreatDoor.SC

/-! ### What the rows list -/
def laid : List (String × DataW Unit) := [("math/bits.deBruijn32tab", Rows.laid_math_bits_deBruijn32tab), ("math/bits.deBruijn64tab", Rows.laid_math_bits_deBruijn64tab), ("internal/strconv.uint64pow10", Rows.laid_internal_strconv_uint64pow10), ("unicode/utf8.acceptRanges", Rows.laid_unicode_utf8_acceptRanges), ("strconv.ErrRange", Rows.laid_strconv_ErrRange), ("strconv.ErrSyntax", Rows.laid_strconv_ErrSyntax), ("unicode/utf8.first", Rows.laid_unicode_utf8_first)]
/-- What the functions ask of the package-level variables, out of what the rows list, and of the world's shape. -/
theorem gs_of {W : World} (h : laidMetH Tryz.prog laid W) : Gs W := by
  have h0 : laidMet Tryz.prog laid W := h
  refine ⟨?_, ?_, ?_⟩
  · obtain ⟨a, s, hv, -⟩ := laid_sentinel (nm := "*errors.errorString") h0.tail.tail.tail.tail.tail gSyn gSynT Tryz.underlying131 rowES Tryz.underlying269 Tryz.underlying271 rfl rfl Tryz.underlying9 cES cS
    exact ⟨_, _, by simpa using World.var?_cell gSyn hv 0⟩
  · obtain ⟨a, s, hv, -⟩ := laid_sentinel (nm := "*errors.errorString") h0.tail.tail.tail.tail gRng gRngT Tryz.underlying131 rowES Tryz.underlying269 Tryz.underlying271 rfl rfl Tryz.underlying9 cES cS
    exact ⟨_, _, by simpa using World.var?_cell gRng hv 0⟩
  · have h2 : laidMet Tryz.prog (("internal/strconv.uint64pow10", Lib.tabData .u64 Lib.pow10Tab) :: [("unicode/utf8.acceptRanges", Rows.laid_unicode_utf8_acceptRanges), ("strconv.ErrRange", Rows.laid_strconv_ErrRange), ("strconv.ErrSyntax", Rows.laid_strconv_ErrSyntax), ("unicode/utf8.first", Rows.laid_unicode_utf8_first)]) W := h0.tail.tail
    exact Lib.tabIs_of_head gTab gTabT Tryz.underlying272 Tryz.underlying242 (by kernel_rfl) (by kernel_rfl) h2
theorem gm_of {W : World} (h : laidMetH Tryz.prog laid W) (hs : W.ShapedOpen Tryz.prog) : Gm W :=
  ⟨gs_of h, cell_of_shapedOpen_int (t := 3) (zero := #[.int .i64 0]) hs (of_decide_eq_true (by kernel_rfl)) (by kernel_rfl) rfl (by kernel_rfl) (by kernel_rfl) Tryz.underlying3⟩
mutual
def flatD : DataW Unit → List Value
  | .lit (.int k n) => [Value.int k n]
  | .agg xs => flatDs xs
  | _ => [undef]
def flatDs : List (DataW Unit) → List Value
  | [] => []
  | x :: r => flatD x ++ flatDs r
end
noncomputable def laidWorld (os : Os) : World :=
  let w0 := World.holding Tryz.prog os ⟨#[.cells #[.string (sb [118, 97, 108, 117, 101, 32, 111, 117, 116, 32, 111, 102, 32, 114, 97, 110, 103, 101])] 271, .cells #[.string (sb [105, 110, 118, 97, 108, 105, 100, 32, 115, 121, 110, 116, 97, 120])] 271], #[], []⟩
  { w0 with heap := ((((((w0.heap.modify 4 (lay (flatD Rows.laid_math_bits_deBruijn32tab).toArray)).modify 5 (lay (flatD Rows.laid_math_bits_deBruijn64tab).toArray)).modify 3 (lay (flatD Rows.laid_internal_strconv_uint64pow10).toArray)).modify 7 (lay (flatD Rows.laid_unicode_utf8_acceptRanges).toArray)).modify 2 (lay #[.iface 269 (.pointer (some ⟨lowG, 0, none⟩))])).modify 1 (lay #[.iface 269 (.pointer (some ⟨lowG + 1, 0, none⟩))])).modify 6 (lay (flatD Rows.laid_unicode_utf8_first).toArray) }
/-! ### Arguments -/
/-- No list and no text in it is longer. -/
def FlB (k : Nat) : Nat → Fl → Prop
  | 0, _ => True
  | d + 1, f => f.type.length ≤ k ∧ f.value.length ≤ k ∧ f.first.length ≤ k ∧ f.last.length ≤ k ∧ f.any.length ≤ k ∧ (∀ a ∈ f.any, a.length ≤ k) ∧ f.kids.length ≤ k ∧ ∀ x ∈ f.kids, FlB k d x
theorem cFl : Tryz.prog.cellsOf 46 = 7 := by kernel_rfl
theorem cFls : Tryz.prog.cellsOf 43 = 1 := by kernel_rfl
theorem bFl : 1 ≤ Tryz.prog.bytesOf 46 := by rw [show Tryz.prog.bytesOf 46 = 120 by kernel_rfl]; decide
theorem int_b {k f : Nat} {w : World} {cs : List Value} (h : ReadsB k f w 3 cs) : ∃ n, cs = [.int .i64 n] ∧ I64 n := by
  obtain ⟨H, enc, x, h1, -, -⟩ := h
  obtain ⟨n, e, -, hn⟩ := DataW.trod_int Tryz.underlying3 h1
  refine ⟨n, e, ?_⟩
  have : -9223372036854775808 ≤ n ∧ n ≤ 9223372036854775807 := by simpa [Lit.wf, IntKind.min, IntKind.signed, IntKind.bits] using hn
  exact this
theorem fl_b {k : Nat} (hk : k ≤ 4294967000) : ∀ (f : Nat) (w : World) (cs : List Value), ReadsB k f w 46 cs → ∃ x, FlC f (fun i => i < w.heap.size) w x cs ∧ ∀ d, FlB k d x := by
  intro f
  induction f using Nat.strongRecOn with
  | ind f ih =>
    intro w cs h
    obtain ⟨f1, rfl, hl, hf⟩ := h.struct Tryz.underlying46
    rw [cFl] at hl
    obtain ⟨c0, c1, c2, c3, c4, c5, c6, rfl⟩ : ∃ c0 c1 c2 c3 c4 c5 c6, cs = [c0, c1, c2, c3, c4, c5, c6] := by
      match cs, hl with
      | [c0, c1, c2, c3, c4, c5, c6], _ => exact ⟨c0, c1, c2, c3, c4, c5, c6, rfl⟩
    have k0 : ReadsB k f1 w 3 (([c0, c1, c2, c3, c4, c5, c6].drop 0).take (Tryz.prog.cellsOf 3)) := hf 0 _ rfl
    have k1 : ReadsB k f1 w 43 (([c0, c1, c2, c3, c4, c5, c6].drop 1).take (Tryz.prog.cellsOf 43)) := hf 1 _ rfl
    have k2 : ReadsB k f1 w 9 (([c0, c1, c2, c3, c4, c5, c6].drop 2).take (Tryz.prog.cellsOf 9)) := hf 2 _ rfl
    have k3 : ReadsB k f1 w 9 (([c0, c1, c2, c3, c4, c5, c6].drop 3).take (Tryz.prog.cellsOf 9)) := hf 3 _ rfl
    have k4 : ReadsB k f1 w 9 (([c0, c1, c2, c3, c4, c5, c6].drop 4).take (Tryz.prog.cellsOf 9)) := hf 4 _ rfl
    have k5 : ReadsB k f1 w 44 (([c0, c1, c2, c3, c4, c5, c6].drop 5).take (Tryz.prog.cellsOf 44)) := hf 5 _ rfl
    have k6 : ReadsB k f1 w 9 (([c0, c1, c2, c3, c4, c5, c6].drop 6).take (Tryz.prog.cellsOf 9)) := hf 6 _ rfl
    rw [cIn] at k0
    rw [cFls] at k1
    rw [cS] at k2 k3 k4 k6
    rw [cLs] at k5
    obtain ⟨n, e0, g0⟩ := int_b k0
    obtain ⟨vk, ks, e1, s1, l1, q1⟩ := k1.rows (p := FlC f1 (fun i => i < w.heap.size) w) (q := fun x => ∀ d, FlB k d x) Tryz.underlying43 cFl (by decide) bFl (fun f2 cs' hlt hr => by
      obtain ⟨x, hx, hb⟩ := ih f2 (by omega) w cs' hr
      exact ⟨x, hx.le (by omega), hb⟩)
    obtain ⟨t2, e2, g2, b2⟩ := k2.string Tryz.underlying9
    obtain ⟨t3, e3, g3, b3⟩ := k3.string Tryz.underlying9
    obtain ⟨t4, e4, g4, b4⟩ := k4.string Tryz.underlying9
    obtain ⟨va, as_, e5, g5, ⟨l5, b5⟩, -⟩ := ls_b k5
    obtain ⟨t6, e6, g6, b6⟩ := k6.string Tryz.underlying9
    simp only [List.drop_zero, List.drop_succ_cons, List.take_succ_cons, List.take_zero, List.cons.injEq, and_true] at e0 e1 e2 e3 e4 e5 e6
    subst e0 e1 e2 e3 e4 e5 e6
    refine ⟨.mk n ks t2 t3 t4 as_ t6, ⟨c1, c5, rfl, g0, g2, g3, Nat.le_trans b4 hk, Nat.le_trans b6 hk, ⟨g5, fun x hx => Nat.le_trans (b5 x hx) hk, Nat.le_trans l5 hk⟩, s1⟩, fun d => ?_⟩
    cases d with
    | zero => trivial
    | succ d => exact ⟨b2, b3, b4, b6, l5, b5, l1, fun x hx => q1 x hx d⟩
theorem fls_b {k : Nat} (hk : k ≤ 4294967000) (f : Nat) (w : World) (cs : List Value) (h : ReadsB k f w 43 cs) : ∃ v l M, cs = [v] ∧ Sl 7 (FlC M (fun i => i < w.heap.size) w) (fun i => i < w.heap.size) w v l ∧ l.length ≤ k ∧ ∀ x ∈ l, ∀ d, FlB k d x := by
  obtain ⟨v, xs, e, h1, h2, h3⟩ := h.rows (p := FlC f (fun i => i < w.heap.size) w) (q := fun x => ∀ d, FlB k d x) Tryz.underlying43 cFl (by decide) bFl (fun f1 cs' hlt hr => by
    obtain ⟨x, hx, hb⟩ := fl_b hk f1 w cs' hr
    exact ⟨x, hx.le (by omega), hb⟩)
  exact ⟨v, xs, f, e, h1, h2, h3⟩
theorem ens_of {k : Nat} {en : Ent} (h : EnB k en) (hk : k ≤ 4294967000) : EnS en := fun a ha v hv => Nat.le_trans ((h.2 a ha).2.2 v hv) hk
section
variable {H : Type} {enc : TypeId × Value → H} {W W' : World} {v : Value} {d : DataW H} {p : List MemPlace} {ts : List TypeId} {ds : List (DataW H)}
theorem arg_fls (hk : Rows.uptoBulk d ≤ 4294967000) (h : DataW.Trod enc Tryz.prog W 0 (fun _ => true) true 43 v d p) (hv : ∃ a l c, v = .slice a l c) (hsz : (DataW.weightsEach Tryz.prog ts ds).all (· ≤ reachBytes) = true) (j : Nat) (ht : ts[j]? = some 43) (hd : ds[j]? = some d) :
    ∃ M l, Sl 7 (FlC M (fun i => i < W.heap.size) W) (fun i => i < W.heap.size) W v l ∧ l.length ≤ Rows.uptoBulk d := by
  obtain ⟨fuel, hr⟩ := h
  obtain ⟨v', l, M, e, h1, h2, h3⟩ := fls_b hk fuel W v.cells.toList ⟨H, enc, _, hr, fun n hn => by simpa using List.all_eq_true.1 hsz n (DataW.weights_mem_each ht hd n hn), Nat.le_refl _⟩
  obtain ⟨a, n, c, rfl⟩ := hv
  have e2 : v' = .slice a n c := by simpa [Value.cells] using e.symm
  subst e2
  exact ⟨M, l, h1, h2⟩
end
end Go.Proofs.YtdkkpfeiaaffhaaGreatDoor.FT

namespace Go.Proofs.YtdkkpfeiaaffhaaGreatDoor.SC
set_option maxRecDepth 100000
open Go.RowKit K Go.Proofs.YtdkkpfeiaaffhaaGreatDoor.BE Go.Proofs.YtdkkpfeiaaffhaaGreatDoor.DN

def ints (l : List Nat) : List Value := l.map fun (k : Nat) => .int .i64 (k : Int)
@[simp] theorem ints_length (l : List Nat) : (ints l).length = l.length := by simp [ints]
theorem infoInt3 : (Tryz.prog.info? 3).map (fun i => (i.zero, i.size, i.bytes)) = some (some (.int .i64 0), 1, 8) := by kernel_rfl
/-- Structural ones among the first i. -/
def isSt (s : Sch) (f : Set) (k : Nat) : Bool := f k && decide (s.cls[k]?.map (·.kind) = some 1)
def stTo (s : Sch) (f : Set) (i : Nat) : List Nat := (List.range i).filter (isSt s f)
theorem stTo_step (s : Sch) (f : Set) (i : Nat) : stTo s f (i + 1) = if isSt s f i then stTo s f i ++ [i] else stTo s f i := by
  unfold stTo
  rw [List.range_succ, List.filter_append]
  cases h : isSt s f i <;> simp [h]
theorem stTo_zero (s : Sch) (f : Set) : stTo s f 0 = [] := by unfold stTo; rw [List.range_zero]; rfl
theorem stTo_len (s : Sch) (f : Set) (i : Nat) : (stTo s f i).length ≤ i := by
  unfold stTo
  exact Nat.le_trans (List.length_filter_le _ _) (by simp)
theorem stTo_lt {s : Sch} {f : Set} {i k : Nat} (h : k ∈ stTo s f i) : k < i := by
  unfold stTo at h
  exact List.mem_range.1 (List.mem_filter.1 h).1
theorem ints_sl {base n : Nat} {w : World} {v : Value} {l : List Nat} (h : w.ownsRow base 3 1 v n (ints l)) (hn : l.length = n) (hb : n ≤ 140737488351232) (p : Nat → Value → Prop) (hp : ∀ k ∈ l, p k (.int .i64 (k : Int))) : Sl 1 (fun x c => ∃ v, c = [v] ∧ p x v) (fun i => base ≤ i) w v l := by
  refine own_sl h (l.map fun (k : Nat) => [.int .i64 (k : Int)]) ?_ hn (by rw [List.length_map, hn]) (fun c hc => ?_) (fun j x c hx hc => ?_) hb
  · unfold ints
    clear h hn hp
    induction l with
    | nil => rfl
    | cons a r ih => simp only [List.map_cons, List.flatten_cons, ih]; rfl
  · obtain ⟨k, _, rfl⟩ := List.mem_map.1 hc
    rfl
  · rw [List.getElem?_map, hx] at hc
    obtain rfl : [Value.int .i64 (x : Int)] = c := by simpa using hc
    exact ⟨_, rfl, hp x (List.mem_of_getElem? hx)⟩
theorem notIn_any (g : Set) (k r : Nat) (w : World) (hk : k < 20) (hB : Blk w r 101 (bb g 20)) : Calls Tryz.prog 83 #[.int .i64 (k : Int), .pointer (some ⟨r, 0, none⟩)] w fun e w' => e = .returned (.bool (!g k)) ∧ w' = w := by
  have hki : (k : Int) < 20 := by omega
  have hk0 : (0 : Int) ≤ k := by omega
  have c : w.cell? ⟨r, k, none⟩ = some (.bool (g k)) := by rw [hB.cell, bb_get g hk]
  obtain ⟨p, hp⟩ : ∃ p, g k = p := ⟨_, rfl⟩
  rw [hp] at c ⊢
  clear hB hp hk
  go_enter Tryz.func83, Tryz.ntmps83
  go_wp2_with fail
  go_ret
  exact ⟨rfl, rfl⟩
theorem any_not {l : List Nat} {g : Set} : (l.any fun k => !g k) = !(l.all g) := by
  induction l with
  | nil => rfl
  | cons a r ih => rw [List.any_cons, List.all_cons, ih]; cases g a <;> simp
set_option maxHeartbeats 16000000 in
theorem isOneChain_any (X : Nat → Prop) (b : Nat) (s : Sch) (f : Set) (w : World) (h : Sx w X b s) (hX : ∀ k, X k → k < w.heap.size) :
    Calls Tryz.prog 45 #[.pointer (some ⟨b, 0, none⟩), .agg (bb f 20).toArray] w fun e w' => e = .returned (.bool (chain s f)) ∧ Sx w' X b s ∧ Fr (fun k => k = b) w w' := by
  have HX := hid h; have HXB := hid hX; have HOK := hid h.ok
  have HBL := hid h.lt
  obtain ⟨vt, vc, d, tm, cm, hSB, -, -, hcl, -, -⟩ := h
  have HCL := hid hcl
  obtain ⟨R, hR⟩ : ∃ R, chain s f = R := ⟨_, rfl⟩
  rw [hR]
  have HR : Hid ((match (stTo s f s.cls.length).getLast? with | none => false | some k => (stTo s f s.cls.length).all fun j => puts none_ (line s k) j) = R) := hid hR
  obtain ⟨a, cp, rfl, hcap, hl⟩ := hcl.form
  have hn20 := (okS_b HOK.out).2.2
  obtain ⟨n, hn⟩ : ∃ n, s.cls.length = n := ⟨_, rfl⟩
  have HNN := hid hn
  rw [hn] at HCL hSB hcap hl hn20 HR
  have HSB := hid hSB
  have hni : (n : Int) ≤ 20 := by omega
  obtain ⟨base, hbase⟩ : ∃ b, w.heap.size = b := ⟨_, rfl⟩
  have HBASE := hid hbase
  obtain ⟨ic, hic, hzc, hsc, hbc⟩ := info_ex infoInt3
  have IC := hid hic; have ZC := hid hzc; have SC := hid hsc; have BC := hid hbc
  have d1 : w.cell? ⟨b, 1, none⟩ = some (.slice a n cp) := hSB.cell 1
  have HN20 := hid hn20
  clear hX hR hcl hn hSB hcap hl hbase hic hzc hsc hbc d1 hn20
  go_enter Tryz.func45, Tryz.ntmps45
  go_wp2_with (first
    | ((with_reducible refine K.atO (.box 101 _) ?_); refine wpL_box rfl _ _ rfl _ rfl (bb f 20) rfl ?_; intro w1 HB1 HF1 HS1; refine Hid.out ?_)
    | fail)
  rw [HBASE.out] at HB1 ⊢
  have HSz1 : Hid (base < w1.heap.size) := hid (by have := HS1.out; have := HBASE.out; omega)
  have d1 : w1.cell? ⟨b, 1, none⟩ = some (.slice a n cp) := HF1.out.cell (HSB.out.cell 1) id
  clear HS1
  refine hid ?_
  go_wp2_with fail
  clear d1
  go_loopw [5, 15] (fun sv iv wr => ∃ (i : Nat) (va : Option Addr) (vcp : Nat), iv = .int .i64 i ∧ sv = .slice va (stTo s f i).length vcp ∧ i ≤ n ∧ Hid (wr.ownsRow base 3 1 (.slice va (stTo s f i).length vcp) (stTo s f i).length (ints (stTo s f i)) ∧ Fr No w wr ∧ Blk wr base 101 (bb f 20) ∧ (Value.slice va (stTo s f i).length vcp).ownBlock ≠ some base ∧ base < wr.heap.size)) (fun _ iv _ => n - (intOf iv).toNat)
  case atStart => exact ⟨0, none, 0, rfl, by rw [stTo_zero]; rfl, Nat.zero_le _, hid (by rw [stTo_zero]; exact ⟨⟨rfl, .inl ⟨rfl, rfl⟩⟩, HF1.out, HB1.out, fun e => (by cases e), HSz1.out⟩)⟩
  case round =>
    obtain ⟨i, va, vcp, rfl, rfl, hi, HI⟩ := hrel
    by_cases hlt : i < n
    · obtain ⟨c, hc⟩ : ∃ c, s.cls[i]? = some c := ⟨_, List.getElem?_eq_getElem (by rw [HNN.out]; exact hlt)⟩
      have hlti : (i : Int) < n := by omega
      have hi0 : (0 : Int) ≤ i := by omega
      have hi20 : (i : Int) < 20 := by omega
      obtain ⟨g, o, cq, cs, e1, -, -, hr, -, hp⟩ := (ClsIn.fr (D := No) HCL.out HI.out.2.1 (fun _ _ _ e => e)).get hc
      rw [HNN.out] at e1
      simp only [Value.slice.injEq, true_and] at e1
      obtain ⟨rfl, rfl⟩ := e1
      obtain ⟨v1, v2, rfl, -, -, hv1, hv2, -⟩ := hp
      have HRR := hid hr
      have HONE : Hid (∀ v ∈ clV c v1 v2, v.oneCell' = true) := hid (oneCl c (by obtain ⟨a, cp, rfl, -⟩ := hv1.form; rfl) (by obtain ⟨a, cp, rfl, -⟩ := hv2.form; rfl))
      have HST : Hid (isSt s f i = (f i && decide (c.kind = 1))) := hid (by unfold isSt; rw [hc]; congr 1; exact decide_eq_decide.2 (by simp))
      have HLT := hid hlt
      have hi20n : i < 20 := by have := HN20.out; omega
      have HFI : Hid (∀ w', Fr No wr w' → w'.cell? ⟨base, i, none⟩ = some (.bool (f i))) := hid (fun w' hf => by rw [(HI.out.2.2.1.fr hf id).cell, bb_get f hi20n])
      clear hr hv1 hv2 hc hi hlt hi20n
      go_wp2_with (first
        | ((with_reducible refine K.atO (.load 71 _) ?_); refine wpL_load rfl _ _ rfl g (o + i * 5) rfl (clV c v1 v2) _ HRR.out rfl rfl infoCl ?_)
        | ((with_reducible refine K.atO (.alloc 71) ?_); refine wpL_alloc rfl _ rfl _ zeroCl _ rfl ?_; intro y2 HB2 HF2 HS2)
        | ((with_reducible refine K.atO (.store 71 _ _) ?_); refine wpL_store rfl _ _ _ rfl wr.heap.size 0 (clV c v1 v2) rfl rfl 71 _ HB2.out (by simp [clV]) infoCl HONE.out ?_; intro y3 HB3 HF3 HS3; refine Hid.out ?_)
        | fail)
      have HFR3 : Hid (Fr No wr y3) := hid (HF2.out.trans HF3.out fun k e => .inr (by have e : k = wr.heap.size := e; omega))
      have HB3' : Hid (Blk y3 wr.heap.size 71 (clV c v1 v2)) := hid HB3.out
      obtain ⟨q, hq⟩ : ∃ q, wr.heap.size = q := ⟨_, rfl⟩
      rw [hq] at HB3' ⊢
      have c1 : y3.cell? ⟨q, 1, none⟩ = some (.int .i64 c.kind) := HB3'.out.cell 1
      have cf : y3.cell? ⟨base, i, none⟩ = some (.bool (f i)) := HFI.out y3 HFR3.out
      obtain ⟨P, hP⟩ : ∃ P, f i = P := ⟨_, rfl⟩
      have HP := hid hP
      rw [hP] at cf
      have HIy : Hid (y3.ownsRow base 3 1 (.slice va (stTo s f i).length vcp) (stTo s f i).length (ints (stTo s f i)) ∧ Fr No w y3 ∧ Blk y3 base 101 (bb f 20) ∧ base < y3.heap.size) := hid ⟨own_fr HI.out.1 HFR3.out (fun _ _ e => e), HI.out.2.1.trans' HFR3.out, HI.out.2.2.1.fr HFR3.out id, Nat.lt_of_lt_of_le HI.out.2.2.2.2 HFR3.out.size⟩
      have HSL := hid (stTo_len s f i)
      have HSTEP := hid (stTo_step s f i)
      obtain ⟨L, hL⟩ : ∃ L, stTo s f i = L := ⟨_, rfl⟩
      have HNB : Hid ((Value.slice va (stTo s f i).length vcp).ownBlock ≠ some base) := hid HI.out.2.2.2.1
      rw [hL] at HIy HSL HSTEP HNB ⊢
      clear HB2 HF2 HS2 HB3 HF3 HS3 hq hP hL HFI
      refine hid ?_
      cases P with
      | false =>
        have HE : Hid (stTo s f (i + 1) = L) := hid (by rw [HSTEP.out, if_neg (by rw [HST.out, HP.out]; simp)])
        go_wp2_with fail
        refine ⟨⟨i + 1, va, vcp, by go_num, by rw [HE.out], HLT.out, hid (by rw [HE.out]; exact ⟨HIy.out.1, HIy.out.2.1, HIy.out.2.2.1, HNB.out, HIy.out.2.2.2⟩)⟩, ?_⟩
        have := HLT.out
        simp [intOf]; omega
      | true =>
        by_cases hk : c.kind = 1
        · have HE : Hid (stTo s f (i + 1) = L ++ [i]) := hid (by rw [HSTEP.out, if_pos (by rw [HST.out, HP.out, decide_eq_true hk]; rfl)])
          have hkb : (c.kind == 1) = true := by rw [beq_iff_eq]; exact hk
          clear hk
          go_wp2_with (first
            | ((with_reducible refine K.atO (.buildSlice 141 _ _) ?_); refine wpL_buildOne rfl _ 3 _ rfl ic _ Tryz.underlying141 IC.out ZC.out (by rw [SC.out]; decide) (by rw [SC.out]; decide) (.int .i64 (i : Int)) [.int .i64 (i : Int)] rfl rfl (by rw [SC.out]; rfl) ?_; intro y4 HB4 HF4 HS4)
            | ((with_reducible refine K.atO (.call { callee := .builtin .append, args := _, argTypes := _ }) ?_); refine wpL_append rfl _ _ 141 rfl base 3 ic _ 1 8 Tryz.underlying141 IC.out ZC.out SC.out BC.out rfl (by decide) (.slice va L.length vcp) L.length (ints L) rfl (own_fr HIy.out.1 HF4.out (fun _ _ e => e)) (some ⟨y3.heap.size, 0, none⟩) 1 1 [.int .i64 (i : Int)] rfl rfl (.inr ⟨_, rfl, HB4.out.news⟩) (by intro u hu; rw [List.mem_singleton.1 hu]; rfl) (by unfold maxLen; have := HSL.out; have := HLT.out; have := HN20.out; omega) (by have := HSL.out; have := HLT.out; have := HN20.out; omega) (by have := HIy.out.2.2.2; have := HF4.out.size; omega) ?_; intro a5 c5 y5 HO5 HG5 HA5)
            | fail)
          have hfr : Fr No w y5 := (HIy.out.2.1.trans' HF4.out).grown HG5.out (fun k e => .inr (by have := (own_ge HIy.out.1 k e).1; rw [HBASE.out]; exact this))
          have hblk : Blk y5 base 101 (bb f 20) := (HIy.out.2.2.1.fr HF4.out id).grown HG5.out (fun e => HNB.out e.symm)
          have hown : y5.ownsRow base 3 1 (.slice a5 (L.length + 1) c5) (L.length + 1) (ints (L ++ [i])) := by
            have := HO5.out
            unfold ints at this ⊢
            rw [List.map_append]
            exact this
          have hnb : (Value.slice a5 (L.length + 1) c5).ownBlock ≠ some base := by
            rcases HA5.out with e | e
            · rw [e]; exact HNB.out
            · rw [e]
              intro e2
              cases e2
              have := HIy.out.2.2.2; have := HF4.out.size
              omega
          have hlen : (L ++ [i]).length = L.length + 1 := by simp
          refine ⟨⟨i + 1, a5, c5, by go_num, by rw [HE.out, hlen], HLT.out, hid (by rw [HE.out, hlen]; exact ⟨hown, hfr, hblk, hnb, by have := HIy.out.2.2.2; have := HF4.out.size; have := HG5.out.size; omega⟩)⟩, ?_⟩
          have := HLT.out
          simp [intOf]; omega
        · have HE : Hid (stTo s f (i + 1) = L) := hid (by rw [HSTEP.out, if_neg (by rw [HST.out, HP.out, decide_eq_false hk]; simp)])
          have hkb : (c.kind == 1) = false := by rw [beq_eq_false_iff_ne]; exact hk
          clear hk
          go_wp2_with fail
          refine ⟨⟨i + 1, va, vcp, by go_num, by rw [HE.out], HLT.out, hid (by rw [HE.out]; exact ⟨HIy.out.1, HIy.out.2.1, HIy.out.2.2.1, HNB.out, HIy.out.2.2.2⟩)⟩, ?_⟩
          have := HLT.out
          simp [intOf]; omega
    · obtain rfl : i = n := by omega
      have HSL := hid (stTo_len s f i)
      have HLTs : Hid (∀ k ∈ stTo s f i, k < 20) := hid (fun k hk => by have := stTo_lt hk; have := HN20.out; omega)
      have HLTc : Hid (∀ k ∈ stTo s f i, k < s.cls.length) := hid (fun k hk => by rw [HNN.out]; exact stTo_lt hk)
      obtain ⟨L, hL⟩ : ∃ L, stTo s f i = L := ⟨_, rfl⟩
      rw [hL] at HI HSL HLTs HLTc HR ⊢
      clear hL hi hlt
      by_cases h0 : L = []
      · subst h0
        obtain rfl : R = false := HR.out.symm
        go_wp2_with fail
        go_ret
        exact ⟨rfl, HX.out.no HI.out.2.1, HI.out.2.1.no⟩
      · obtain ⟨k, hk⟩ : ∃ k, L.getLast? = some k := by
          cases hl : L.getLast? with
          | none => exact absurd (List.getLast?_eq_none_iff.1 hl) h0
          | some k => exact ⟨k, rfl⟩
        have hkm : k ∈ L := List.mem_of_getLast? hk
        have HR2 : Hid (L.all (fun j => puts none_ (line s k) j) = R) := hid (by have h := HR.out; rw [hk] at h; exact h)
        obtain ⟨N, hN⟩ : ∃ N, L.length = N := ⟨_, rfl⟩
        have HN := hid hN
        have hNp : 0 < N := by rw [← hN]; exact List.length_pos_iff.2 h0
        obtain ⟨M, rfl⟩ : ∃ M, N = M + 1 := ⟨N - 1, by omega⟩
        have hM20 : (M : Int) < 20 := by have := HSL.out; have := HN20.out; omega
        have hM0 : (0 : Int) ≤ M := by omega
        rw [hN] at HI ⊢
        have hsl := HI.out.1
        have hkc : (ints L)[M]? = some (.int .i64 (k : Int)) := by
          unfold ints
          rw [List.getElem?_map]
          rw [List.getLast?_eq_getElem?, hN] at hk
          rw [show M + 1 - 1 = M from rfl] at hk
          rw [hk]
          rfl
        obtain ⟨ga, hga⟩ : ∃ g, va = some ⟨g, 0, none⟩ := by
          obtain ⟨a', c', e, -, hpos⟩ := own_form hsl
          cases e
          exact hpos hNp
        subst hga
        have hcap : M + 1 ≤ vcp := by
          rcases hsl.2 with ⟨e, -⟩ | ⟨g, cap, cur, e, -, -, h1, -⟩
          · cases e
          · cases e; exact h1
        have hcapi : (M : Int) < vcp := by omega
        have ck : wr.cell? ⟨ga, M, none⟩ = some (.int .i64 (k : Int)) := by
          have := hsl.cells (g := ga) rfl M _ hkc
          rwa [Addr.add_mid, Nat.zero_add] at this
        have HCK := hid ck
        have HKC := hid (HLTc.out k hkm)
        have hgas := own_ge hsl ga rfl
        have HGA := hid hgas
        have HX3 := hid (HX.out.no HI.out.2.1)
        have HXB3 : Hid (∀ k, X k → k < wr.heap.size) := hid (fun k hk => Nat.lt_of_lt_of_le (HXB.out k hk) HI.out.2.1.size)
        have HXN : Hid (¬ b = ga) := hid (by have := HBL.out; have := HBASE.out; omega)
        clear h0 hk hkm hN hsl hkc ck hNp hgas hcap
        go_wp2_with (first
          | ((with_reducible refine K.atO (.alloc 101) ?_); refine wpL_alloc rfl _ rfl _ zeroCs (bb none_ 20) rfl ?_; intro y2 HB2 HF2 HS2; refine Hid.out ?_)
          | fail)
        have ck2 : y2.cell? ⟨ga, M, none⟩ = some (.int .i64 (k : Int)) := HF2.out.cell HCK.out id
        obtain ⟨r, hr⟩ : ∃ r, wr.heap.size = r := ⟨_, rfl⟩
        rw [hr] at HB2 ⊢
        have HRR := hid (show w.heap.size ≤ r ∧ ga < r ∧ b < r from ⟨by rw [← hr]; exact HI.out.2.1.size, by have := HGA.out.2; omega, by have := HBL.out; have := HI.out.2.1.size; omega⟩)
        have HX4 : Hid (Sx y2 (Also X r) b s) := hid ((HX3.out.also (by omega)).no HF2.out)
        have HXB4 : Hid (∀ k, Also X r k → k < y2.heap.size) := hid (also_lt HXB3.out (by have := HS2.out; omega) (by have := HS2.out; omega))
        have HO4 := hid (own_fr HI.out.1 HF2.out (fun _ _ e => e))
        have HFR4 := hid (HI.out.2.1.trans' HF2.out)
        clear hr HF2 HS2
        refine hid ?_
        go_wp2_with fail
        refine (addLine_any (Also X r) b r s none_ k y2 HX4.out HXB4.out (.inr rfl) HB2.out HKC.out).mono ?_
        rintro e y3 ⟨rfl, hb3, hs3, f3⟩
        have HB3 := hid hb3; have HS3 := hid hs3
        have HFR5 : Hid (Fr (fun i => i = b) w y3) := hid (HFR4.out.no.trans f3 (fun i e => e.elim .inl (fun e => .inr (by have := HRR.out.1; omega))))
        have HO5 := hid (own_fr HO4.out f3 (fun i hi e => by
          have hi : i = ga := (Option.some.inj hi).symm
          rcases e with e | e
          · exact HXN.out (by omega)
          · have := HRR.out.2.1; omega))
        have HSL5 := hid (ints_sl HO5.out HN.out (by omega) (fun x v => v = .int .i64 (x : Int) ∧ x < 20) (fun x hx => ⟨rfl, HLTs.out x hx⟩))
        clear hb3 hs3 f3 ck2
        have HCN := hid (containsN (α := Nat) 83 [.pointer (some ⟨r, 0, none⟩)] (fun x => !puts none_ (line s k) x) (fun w' x v => (v = .int .i64 (x : Int) ∧ x < 20) ∧ Blk w' r 101 (bb (puts none_ (line s k)) 20)) No (fun w' => Fr No y3 w') (fun i => base ≤ i) (.slice (some ⟨ga, 0, none⟩) (M + 1) vcp) L y3
          (fun w w' x c h hf => ⟨h.1, h.2.fr hf id⟩) (fun _ _ _ e => e) (Fr.refl _ _) (Sl.fr HSL5.out (Fr.refl No y3) (fun _ _ _ e => e) (fun x c _ h => by obtain ⟨v, e, h⟩ := h; exact ⟨v, e, h, HB3.out⟩)) (fun vs w => by kernel_rfl)
          (fun x _ c wv hp hi _ => by
            obtain ⟨⟨rfl, hx20⟩, hbk⟩ := hp
            exact (notIn_any _ x r wv hx20 hbk).mono fun e w' ⟨h1, h2⟩ => by subst h2; exact ⟨h1, hi, Fr.refl _ _⟩))
        rw [any_not, HR2.out] at HCN
        go_wp2_with fail
        refine HCN.out.mono ?_
        rintro e y6 ⟨rfl, -, f6⟩
        have HF6 := hid f6
        clear f6 HCN
        go_wp2_with fail
        go_ret
        exact ⟨rfl, (HS3.out.less (fun _ hk => .inl hk)).no HF6.out, HFR5.out.trans' HF6.out.no⟩
end Go.Proofs.YtdkkpfeiaaffhaaGreatDoor.SC
