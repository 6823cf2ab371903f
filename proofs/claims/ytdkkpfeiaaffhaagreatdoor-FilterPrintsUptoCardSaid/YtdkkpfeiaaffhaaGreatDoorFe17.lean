/-
  Part 17 of the proof: FtP, FtQ, FtRow, FtJ, FtV, DrA, DrB.
-/
import Derived.Test.YtdkkpfeiaaffhaaGreatDoorFe15
import Derived.Test.YtdkkpfeiaaffhaaGreatDoorFe16
import Derived.Test.YtdkkpfeiaaffhaaGreatDoorFe13
import Derived.Test.YtdkkpfeiaaffhaaGreatDoorFe03
import Derived.HandedShaped
import Derived.Shelf.LaysM
import Derived.Test.YtdkkpfeiaaffhaaGreatDoorFe14
import Derived.Test.YtdkkpfeiaaffhaaGreatDoorFe05
import Derived.Test.YtdkkpfeiaaffhaaGreatDoorFe04
import Derived.Test.YtdkkpfeiaaffhaaGreatDoorFe08
set_option linter.unusedSimpArgs false
set_option linter.unusedVariables false
namespace Go.Proofs.YtdkkpfeiaaffhaaGreatDoor.FT
set_option maxRecDepth 100000
open Go.RowKit K Go.Proofs.YtdkkpfeiaaffhaaGreatDoor.BE Go.Proofs.YtdkkpfeiaaffhaaGreatDoor.DN Go.Proofs.YtdkkpfeiaaffhaaGreatDoor.SC

theorem exec_twoZ {op : Oper} {a : Act} (x g h : Operand) (ho : op.op = .slice 9 x (some g) (some h) none) (l : B) {S : ByteArray} (hS : sb l = S) (m k : Nat) {mi ki : Int} (hm : (m : Int) = mi) (hk : (k : Int) = ki) (hx : a.eval x = .string S) (hg : a.eval g = .int .i64 mi) (hh : a.eval h = .int .i64 ki) (h1 : m ≤ k) (h2 : k ≤ l.length) (r : B) (hr : (l.drop m).take (k - m) = r) (w : World) :
    (execOp a.eval op).run Tryz.prog w = .ok (.value (.string (sb r))) w := by
  subst hS hm hk
  exact exec_two x g h ho l m k hx hg hh h1 h2 r hr w
theorem sq_sm {p : B} (h : Sm p) : Sm (squeeze p) := Nat.le_trans (squeeze_len p) h
set_option maxHeartbeats 4000000 in
theorem squeeze_any (p : B) (hp : Sm p) (w : World) : Calls Tryz.prog 26 #[.string (sb p)] w fun e w' => e = .returned (.string (sb (squeeze p))) ∧ Fr No w w' := by
  have HP := hid hp
  have H := hid (fold_any (46 :: (p ++ [46])) (by unfold Sm at hp; simp; omega))
  rw [fold_sq] at H
  obtain ⟨F, hF⟩ : ∃ F, sb (46 :: (squeeze p ++ [46])) = F := ⟨_, rfl⟩
  obtain ⟨m, hm⟩ : ∃ m, (squeeze p).length = m := ⟨_, rfl⟩
  have hsz : (F.size : Int) = m + 2 := by rw [← hF, sb_size]; simp [hm]; omega
  have hmb : (m : Int) ≤ 4294967000 := by have := sq_sm hp; unfold Sm at this; omega
  have hm0 : (0 : Int) ≤ m := by omega
  have HM := hid hm; have HF := hid hF
  rw [hF] at H
  clear hp hm hF
  go_enter Tryz.func26, Tryz.ntmps26
  go_wp2_with (first
    | ((with_reducible refine K.atO (.binOp .add 9 _ _ _) ?_); (fail_if_success (have := HA)); refine wpL_valZ rfl (.string (sb (46 :: p))) (exec_addS _ _ _ rfl [46] p rfl rfl (by have := HP.out; unfold Sm at this; simp; omega) _ rfl _) ?_; have HA := hid trivial)
    | ((with_reducible refine K.atO (.binOp .add 9 _ _ _) ?_); refine wpL_valZ rfl (.string (sb (46 :: (p ++ [46])))) (exec_addS _ _ _ rfl (46 :: p) [46] rfl rfl (by have := HP.out; unfold Sm at this; simp; omega) _ rfl _) ?_)
    | fail)
  refine (H.out w).mono ?_
  rintro e w1 ⟨rfl, f1⟩
  have HF1 := hid f1
  clear f1
  go_wp2_with (first
    | ((with_reducible refine K.atO (.slice 9 _ _ _ _) ?_); refine wpL_valZ rfl (.string (sb (squeeze p))) (exec_twoZ _ _ _ rfl (46 :: (squeeze p ++ [46])) HF.out 1 (m + 1) (mi := 1) (ki := (m : Int) + 2 - 1) rfl (by push_cast; omega) rfl rfl rfl (by omega) (by simp [HM.out]) _ (by simp [← HM.out]) _) ?_)
    | fail)
  go_ret
  exact ⟨rfl, HF1.out⟩
/-! ### squeezed -/
def sqFl (f : Fl) : Fl := .mk f.kind f.kids f.type f.value (trimL (squeeze f.first)) (f.any.map squeeze) (trimR (squeeze f.last))
theorem one7 (f : Fl) {vk va : Value} (hk : ∃ a n c, vk = .slice a n c) (ha : ∃ a n c, va = .slice a n c) : ∀ v ∈ flV f vk va, v.oneCell' = true := by
  obtain ⟨a, n, c, rfl⟩ := hk
  obtain ⟨a2, n2, c2, rfl⟩ := ha
  simp [flV, Value.oneCell']
theorem zeroFl : ∀ w, (zeroValue 46).run Tryz.prog w = .ok (.agg (flV fl0 (.slice none 0 0) (.slice none 0 0)).toArray) w := fun _ => by kernel_rfl
theorem infoSls : (Tryz.prog.info? 44).map (·.size) = some 1 := by kernel_rfl
theorem infoS1 : (Tryz.prog.info? 9).map (·.size) = some 1 := by kernel_rfl
theorem strs_flat (xs : List B) : (xs.map fun x => [Value.string (sb x)]).flatten = strs xs := by
  induction xs with
  | nil => rfl
  | cons x r ih => rw [List.map_cons, List.flatten_cons, ih]; rfl
/-- A row of texts that a call made is a list of texts. -/
theorem own_ls {w0 w : World} {v : Value} {n : Nat} {xs : List B} (h : OwR 9 1 w0 w v n (strs xs)) (hs : ∀ x ∈ xs, Sz x) (hl : n ≤ 4294967000) : LsIn (fun i => w0.heap.size ≤ i) w v xs := by
  have hn : xs.length = n := by
    rcases h.2.1.2 with ⟨rfl, h0⟩ | ⟨g, cap, cur, rfl, hb, hg, h1, h2, h3, h4⟩
    · have h0 : n = 0 := h0
      have := h.2.1.1
      simp at this
      omega
    · have := h.2.1.1
      simp at this
      omega
  exact own_sl h.2.1 (xs.map fun x => [Value.string (sb x)]) (strs_flat xs) hn (by simp [hn]) (fun c hc => by
    obtain ⟨x, _, rfl⟩ := List.mem_map.1 hc
    rfl) (fun j x c hx hc => by
    rw [List.getElem?_map, hx] at hc
    cases hc
    exact ⟨rfl, hs x (List.mem_of_getElem? hx)⟩) (by omega)
set_option maxHeartbeats 16000000 in
theorem squeezed_any {T : Nat → Prop} (f : Fl) (vk va : Value) (w : World) (hk : ∃ a n c, vk = .slice a n c) (hf : Sm f.first) (hl : Sm f.last) (ha : LsIn T w va f.any) (hs : ∀ x ∈ f.any, Sm x) (hal : f.any.length ≤ 4294967000) :
    Calls Tryz.prog 136 #[.agg (flV f vk va).toArray] w fun e w' => (∃ va', e = .returned (.agg (flV (sqFl f) vk va').toArray) ∧ LsIn (fun i => w.heap.size ≤ i) w' va' (sqFl f).any) ∧ Fr No w w' := by
  have HKS := hid hk; have HFI := hid hf; have HLA := hid hl; have HA := hid ha; have HS := hid hs
  obtain ⟨aa, ac, rfl, hac, -⟩ := ha.form
  obtain ⟨n, hn⟩ : ∃ n, f.any.length = n := ⟨_, rfl⟩
  have HN := hid hn
  rw [hn] at HA hal hac ⊢
  have hni : (n : Int) ≤ 4294967000 := by omega
  obtain ⟨ka, kn, kc, rfl⟩ := hk
  clear hf hl ha hs hn hal hac
  go_enter Tryz.func136, Tryz.ntmps136
  go_wp2_with (first
    | ((with_reducible refine K.atO (.box 46 _) ?_); refine wpL_box rfl _ _ rfl _ rfl (flV f (.slice ka kn kc) (.slice aa n ac)) rfl ?_; intro w1 HB1 HF1 HS1)
    | ((with_reducible refine K.atO (.alloc 46) ?_); refine wpL_alloc rfl _ rfl _ zeroFl (flV fl0 (.slice none 0 0) (.slice none 0 0)) rfl ?_; intro w2 HB2 HF2 HS2; refine Hid.out ?_)
    | fail)
  obtain ⟨p, hp⟩ : ∃ p, w.heap.size = p := ⟨_, rfl⟩
  rw [hp] at HB1 ⊢
  obtain ⟨q, hq⟩ : ∃ q, w1.heap.size = q := ⟨_, rfl⟩
  rw [hq] at HB2 ⊢
  have HPQ := hid (show w.heap.size = p ∧ q = p + 1 ∧ w2.heap.size = p + 2 from ⟨hp, by have := HS1.out; omega, by have := HS1.out; have := HS2.out; omega⟩)
  have HF2' : Hid (Fr No w w2) := hid (HF1.out.trans' HF2.out)
  have HBp := hid (HB1.out.fr HF2.out id)
  have HBq := hid HB2.out
  have c5 : w2.cell? ⟨p, 5, none⟩ = some (.slice aa n ac) := HBp.out.cell 5
  clear hp hq HS1 HS2 HB1 HF1 HB2 HF2
  refine hid ?_
  go_wp2_with fail
  go_loopw [3, 9] (fun sv iv wr => ∃ (i : Nat), iv = .int .i64 i ∧ i ≤ n ∧ Hid (OwR 9 1 w2 wr sv i (strs ((f.any.take i).map squeeze)))) (fun _ iv _ => n - (intOf iv).toNat)
  case atStart => exact ⟨0, rfl, Nat.zero_le _, hid (owR_nil (Fr.refl _ _))⟩
  case round =>
    obtain ⟨i, rfl, hi, HO⟩ := hrel
    obtain ⟨sa, sc, rfl⟩ := HO.out.1
    by_cases hlt : i < n
    · obtain ⟨x, hx⟩ : ∃ x, f.any[i]? = some x := ⟨_, List.getElem?_eq_getElem (by rw [HN.out]; exact hlt)⟩
      have hlti : (i : Int) < n := by omega
      have hi0 : (0 : Int) ≤ i := by omega
      obtain ⟨g, o, cq, cs, e1, -, hgw, hrr, hc, hxa⟩ := (LsIn.fr (D := No) HA.out (HF2'.out.trans' HO.out.fr) (fun _ _ _ e => e)).get hx
      rw [HN.out] at e1
      simp only [Value.slice.injEq, true_and] at e1
      obtain ⟨rfl, rfl⟩ := e1
      obtain ⟨rfl, -⟩ := hxa
      have d0 : wr.cell? ⟨g, o + i, none⟩ = some (.string (sb x)) := by have := hrr 0 _ rfl; simpa using this
      have HXB : Hid (Sm x) := hid (HS.out x (List.mem_of_getElem? hx))
      have HNX : Hid (strs ((f.any.take (i + 1)).map squeeze) = strs ((f.any.take i).map squeeze) ++ [.string (sb (squeeze x))]) := hid (by
        rw [List.take_add_one, hx]
        simp [strs])
      have HLT := hid hlt
      clear hc hgw hrr hx hlt
      go_wp2_with fail
      refine (squeeze_any x HXB.out wr).mono ?_
      rintro e w4 ⟨rfl, f4⟩
      have HO4 := hid (OwR.no HO.out f4)
      clear f4 d0
      go_wp2_with (first
        | ((with_reducible refine K.atO (.buildSlice 44 _ _) ?_); refine wpL_app1 rfl rfl _ _ _ 44 9 rfl rfl Tryz.underlying44 infoStr rfl (by decide) (by decide) HO4.out (.string (sb (squeeze x))) [.string (sb (squeeze x))] rfl rfl rfl (by simp [Value.oneCell']) (fun _ => rfl) (fun _ => rfl) (by omega) (by omega) ?_; intro q5 a5 c5 w5 HO5 HF5)
        | fail)
      refine ⟨⟨i + 1, by go_num, HLT.out, hid (by rw [HNX.out]; exact HO5.out)⟩, ?_⟩
      have := HLT.out
      simp [intOf]; omega
    · obtain rfl : i = n := by omega
      have hall : (f.any.take i).map squeeze = f.any.map squeeze := by rw [← HN.out, List.take_length]
      have HO2 := HO.out
      rw [hall] at HO2
      have HOO := hid HO2
      have HALL : Hid (∀ x ∈ f.any.map squeeze, Sz x) := hid (fun x hx => by
        obtain ⟨y, hy, rfl⟩ := List.mem_map.1 hx
        have h1 := sq_sm (HS.out y hy)
        unfold Sm at h1; unfold Sz; omega)
      have HFr := hid HO.out.fr
      have HBpr := hid (HBp.out.fr HO.out.fr id)
      have HBqr := hid (HBq.out.fr HO.out.fr id)
      have HWR : Hid (p + 2 ≤ wr.heap.size) := hid (by have := HO.out.fr.size; have := HPQ.out; omega)
      have c4 : wr.cell? ⟨p, 4, none⟩ = some (.string (sb f.first)) := HBpr.out.cell 4
      clear hall HO2 HO hi hlt c5
      go_wp2_with fail
      refine (squeeze_any f.first HFI.out wr).mono ?_
      rintro e w3 ⟨rfl, f3⟩
      have HF3 := hid f3
      have HBp3 := hid (HBpr.out.fr f3 id)
      clear f3 c4
      go_wp2_with fail
      refine (trimL_any (squeeze f.first) w3).mono ?_
      rintro e w4 ⟨rfl, rfl⟩
      go_wp2_with (first
        | ((with_reducible refine K.atO (.store 9 _ _) ?_); refine wpL_setV rfl _ _ _ rfl p 4 (.string (sb (trimL (squeeze f.first)))) rfl rfl rfl rfl 46 _ HBp3.out (by simp [flV]) infoS1 ?_; intro w5 HB5 HF5 HS5)
        | ((with_reducible refine K.atO (.store 44 _ _) ?_); refine wpL_setV rfl _ _ _ rfl p 5 (.slice sa i sc) rfl rfl rfl rfl 46 _ HB5.out (by simp [flV]) infoSls ?_; intro w6 HB6 HF6 HS6; refine Hid.out ?_)
        | fail)
      have c6 : w6.cell? ⟨p, 6, none⟩ = some (.string (sb f.last)) := HB6.out.cell 6
      have HF6' : Hid (Fr (fun k => k = p) wr w6) := hid (HF3.out.no.trans' (HF5.out.trans' HF6.out))
      have HB6' := hid HB6.out
      clear HB5 HF5 HS5 HF6 HS6 HB6
      refine hid ?_
      go_wp2_with fail
      refine (squeeze_any f.last HLA.out w6).mono ?_
      rintro e w7 ⟨rfl, f7⟩
      have HF7 := hid (HF6'.out.trans' f7.no)
      have HB7 := hid (HB6'.out.fr f7 id)
      clear f7 c6
      go_wp2_with fail
      refine (trimR_any (squeeze f.last) (by have h1 := sq_sm HLA.out; unfold Sm at h1; unfold Sz; omega) w7).mono ?_
      rintro e w8 ⟨rfl, rfl⟩
      have HBq8 := hid (HBqr.out.fr HF7.out (by show ¬ q = p; have := HPQ.out; omega))
      go_wp2_with (first
        | ((with_reducible refine K.atO (.store 9 _ _) ?_); refine wpL_setV rfl _ _ _ rfl p 6 (.string (sb (trimR (squeeze f.last)))) rfl rfl rfl rfl 46 _ HB7.out (by simp [flV]) infoS1 ?_; intro w9 HB9 HF9 HS9)
        | ((with_reducible refine K.atO (.load 46 _) ?_); refine wpL_load rfl _ _ rfl p 0 rfl (flV (sqFl f) (.slice ka kn kc) (.slice sa i sc)) _ (HB9.out.range 0 _ rfl) rfl rfl infoFl ?_)
        | ((with_reducible refine K.atO (.store 46 _ _) ?_); refine wpL_store rfl _ _ _ rfl q 0 (flV (sqFl f) (.slice ka kn kc) (.slice sa i sc)) rfl rfl 46 _ (HBq8.out.fr HF9.out (by show ¬ q = p; have := HPQ.out; omega)) (by simp [flV]) infoFl (one7 _ ⟨_, _, _, rfl⟩ ⟨_, _, _, rfl⟩) ?_; intro w10 HB10 HF10 HS10)
        | fail)
      have HB10' : Hid (Blk w10 q 46 (flV (sqFl f) (.slice ka kn kc) (.slice sa i sc))) := hid HB10.out
      have hfr : Fr (fun k => k = p ∨ k = q) wr w10 := (HF7.out.trans' HF9.out).mono (fun k e => .inl e) |>.trans' (HF10.out.mono (fun k e => .inr e))
      refine ret_cell rfl _ rfl HB10'.out rfl rfl infoFl rfl ?_
      refine ⟨⟨_, rfl, ?_⟩, ?_⟩
      · have h1 := own_ls HOO.out HALL.out (by have := HN.out; omega)
        refine (LsIn.fr h1 hfr (fun j hj _ e => ?_)).mono (fun j hj _ => ?_)
        · have hj : w2.heap.size ≤ j := hj
          have := HPQ.out
          rcases e with e | e <;> omega
        · have hj : w2.heap.size ≤ j := hj
          have := HPQ.out
          omega
      · exact (HF2'.out.trans' HFr.out).trans hfr (fun k e => .inr (by have := HPQ.out; rcases e with e | e <;> omega))
end Go.Proofs.YtdkkpfeiaaffhaaGreatDoor.FT

namespace Go.Proofs.YtdkkpfeiaaffhaaGreatDoor.FT
set_option maxRecDepth 100000
open Go.RowKit K Go.Proofs.YtdkkpfeiaaffhaaGreatDoor.BE Go.Proofs.YtdkkpfeiaaffhaaGreatDoor.DN Go.Proofs.YtdkkpfeiaaffhaaGreatDoor.SC

theorem cut_sm {s p : B} (h : Sm s) : Sm (Lib.cut s p).2.1 := by
  cases hc : (Lib.cut s p).2.2 with
  | true => exact Nat.le_trans (cut_len hc) h
  | false =>
    have : (Lib.cut s p).2.1 = [] := by
      unfold Lib.cut at hc ⊢
      split at hc
      · cases hc
      · rw [if_neg (by assumption)]
    rw [this]
    unfold Sm
    simp
theorem pre_len (s p : B) : (Lib.trimPrefix s p).length ≤ s.length := by
  unfold Lib.trimPrefix
  split
  · simp
  · exact Nat.le_refl _
/-- What is still to be found. -/
def rest (fd : Bool) (r : B) (l : List B) (last : B) : Bool := fd && (match cutAll r l with | none => false | some r => Lib.hasSuffix r last)
theorem rest_cons (r p : B) (l : List B) (last : B) : rest true r (p :: l) last = rest (Lib.cut r p).2.2 (Lib.cut r p).2.1 l last := by
  unfold rest
  rw [cutAll]
  cases (Lib.cut r p).2.2 <;> simp
set_option maxHeartbeats 16000000 in
theorem hasParts_any {T : Nat → Prop} (text : B) (f : Fl) (vk va : Value) (w : World) (ht : Sm text) (hG : Gm w) (ha : LsIn T w va f.any) :
    Calls Tryz.prog 138 #[.string (sb text), .agg (flV f vk va).toArray] w fun e w' => e = .returned (.bool (hasP text f.first f.any f.last)) ∧ Fr No w w' := by
  have HT := hid ht; have HG := hid hG; have HA := hid ha
  obtain ⟨R, hR⟩ : ∃ R, hasP text f.first f.any f.last = R := ⟨_, rfl⟩
  have HR : Hid (rest (Lib.hasPrefix text f.first) (Lib.trimPrefix text f.first) f.any f.last = R) := hid hR
  rw [hR]
  obtain ⟨aa, ac, rfl, -, hl0⟩ := ha.form
  obtain ⟨n, hn⟩ : ∃ n, f.any.length = n := ⟨_, rfl⟩
  have HN := hid hn
  rw [hn] at HA hl0 ⊢
  have hni : (n : Int) ≤ 140737488351232 := by omega
  clear ht hG ha hR hn hl0
  go_enter Tryz.func138, Tryz.ntmps138
  go_wp2_with (first
    | ((with_reducible refine K.atO (.box 46 _) ?_); refine wpL_box rfl _ _ rfl _ rfl (flV f vk (.slice aa n ac)) rfl ?_; intro w1 HB1 HF1 HS1; refine Hid.out ?_)
    | fail)
  obtain ⟨p, hp⟩ : ∃ p, w.heap.size = p := ⟨_, rfl⟩
  rw [hp] at HB1 ⊢
  have c4 : w1.cell? ⟨p, 4, none⟩ = some (.string (sb f.first)) := HB1.out.cell 4
  clear hp HS1
  refine hid ?_
  go_wp2_with fail
  refine (cutPre_any text f.first (by have := HT.out; unfold Sm at this; unfold Sz; omega) w1).mono ?_
  rintro e w2 ⟨rfl, f2⟩
  have HB2 := hid (HB1.out.fr f2 id)
  have HF2 : Hid (Fr No w w2) := hid (HF1.out.trans' f2)
  have c5 : w2.cell? ⟨p, 5, none⟩ = some (.slice aa n ac) := HB2.out.cell 5
  have HR0 : Hid (Sm (Lib.trimPrefix text f.first)) := hid (Nat.le_trans (pre_len _ _) HT.out)
  generalize Lib.hasPrefix text f.first = fd0 at HR ⊢
  generalize Lib.trimPrefix text f.first = r0 at HR HR0 ⊢
  clear f2 c4 HB1 HF1
  go_wp2_with fail
  go_loopw [5, 6, 19] (fun rv fv iv wr => ∃ (i : Nat) (r : B) (fd : Bool), rv = .string (sb r) ∧ fv = .bool fd ∧ iv = .int .i64 i ∧ i ≤ n ∧ Hid (rest fd r (f.any.drop i) f.last = R ∧ Sm r ∧ Fr No w2 wr)) (fun _ _ iv _ => n - (intOf iv).toNat)
  case atStart => exact ⟨0, r0, fd0, rfl, rfl, rfl, Nat.zero_le _, hid ⟨HR.out, HR0.out, Fr.refl _ _⟩⟩
  case round =>
    obtain ⟨i, r, fd, rfl, rfl, rfl, hi, HI⟩ := hrel
    by_cases hlt : i < n
    · obtain ⟨x, hx⟩ : ∃ x, f.any[i]? = some x := ⟨_, List.getElem?_eq_getElem (by rw [HN.out]; exact hlt)⟩
      have hlti : (i : Int) < n := by omega
      have hi0 : (0 : Int) ≤ i := by omega
      obtain ⟨g, o, cq, cs, e1, -, hgw, hrr, hc, hxa⟩ := (LsIn.fr (D := No) HA.out (HF2.out.trans' HI.out.2.2) (fun _ _ _ e => e)).get hx
      rw [HN.out] at e1
      simp only [Value.slice.injEq, true_and] at e1
      obtain ⟨rfl, rfl⟩ := e1
      obtain ⟨rfl, -⟩ := hxa
      have d0 : wr.cell? ⟨g, o + i, none⟩ = some (.string (sb x)) := by have := hrr 0 _ rfl; simpa using this
      have HD : Hid (f.any.drop i = x :: f.any.drop (i + 1)) := hid (drop_at hx).1
      have HLT := hid hlt
      clear hc hgw hrr hx hlt
      cases fd with
      | false =>
        have HRF : Hid (false = R) := hid (by rw [← HI.out.1]; rfl)
        go_wp2_with fail
        go_ret
        exact ⟨by rw [← HRF.out]; rfl, HF2.out.trans' HI.out.2.2⟩
      | true =>
        go_wp2_with fail
        refine (cutX_any r x HI.out.2.1 wr (HG.out.no (HF2.out.trans' HI.out.2.2))).mono ?_
        rintro e w3 ⟨rfl, f3⟩
        have HI3 : Hid (rest (Lib.cut r x).2.2 (Lib.cut r x).2.1 (f.any.drop (i + 1)) f.last = R ∧ Sm (Lib.cut r x).2.1 ∧ Fr No w2 w3) := hid ⟨by rw [← rest_cons, ← HD.out]; exact HI.out.1, cut_sm HI.out.2.1, HI.out.2.2.trans' f3⟩
        generalize (Lib.cut r x).2.2 = fd1 at HI3 ⊢
        generalize (Lib.cut r x).2.1 = r1 at HI3 ⊢
        generalize (Lib.cut r x).1 = z1
        clear f3 d0
        go_wp2_with fail
        go_roundw
        case rel => exact ⟨i + 1, r1, fd1, rfl, rfl, by go_num, HLT.out, HI3⟩
        case measure => have := HLT.out; simp [intOf]; omega
    · obtain rfl : i = n := by omega
      have HDN : Hid (rest fd r [] f.last = R) := hid (by
        have h := HI.out.1
        rw [List.drop_eq_nil_of_le (by rw [HN.out]; exact Nat.le_refl _)] at h
        exact h)
      cases fd with
      | false =>
        have HRF : Hid (false = R) := hid HDN.out
        go_wp2_with fail
        go_ret
        exact ⟨by rw [← HRF.out]; rfl, HF2.out.trans' HI.out.2.2⟩
      | true =>
        have HRF : Hid (Lib.hasSuffix r f.last = R) := hid HDN.out
        have c6 : wr.cell? ⟨p, 6, none⟩ = some (.string (sb f.last)) := (HB2.out.fr HI.out.2.2 id).cell 6
        go_wp2_with fail
        refine (hasSuf_any r f.last (by have := HI.out.2.1; unfold Sm at this; unfold Sz; omega) wr).mono ?_
        rintro e w3 ⟨rfl, rfl⟩
        rw [HRF.out]
        go_wp2_with fail
        go_ret
        exact ⟨rfl, HF2.out.trans' HI.out.2.2⟩
/-! ### evalParts -/
set_option maxHeartbeats 4000000 in
theorem parts1_any {T : Nat → Prop} (q : Nat) (f : Fl) (vk va : Value) (v : B) (w : World) (hq : Blk w q 46 (flV f vk va)) (hv : Sm v) (hG : Gm w) (ha : LsIn T w va f.any) :
    Calls Tryz.prog 137 #[.string (sb v), .pointer (some ⟨q, 0, none⟩)] w fun e w' => e = .returned (.bool (hasP (fold v) f.first f.any f.last)) ∧ Fr No w w' := by
  have c3 := hq.range 0 (flV f vk va) rfl
  have HV := hid hv; have HG := hid hG; have HA := hid ha
  clear hq hv hG ha
  go_enter Tryz.func137, Tryz.ntmps137
  go_wp2_with fail
  have hold : Facts.hold [(2, fun w' => w'.rangeAt q 0 (flV f vk va))] w.drew := Facts.cons_hold c3 (Facts.nil_hold _)
  refine wpD_region hold (by kernel_rfl) 5 rfl ?_
  (refine wpD_plain 0 (v := ?_) rfl (by kernel_rfl) (by kernel_rfl) (by kernel_rfl) (fun _ _ _ h => h) (by rfl) ?_ (by assumption) ?_; rotate_left; (intro _w; go_simp; try with_reducible rfl); simp only [Act.put, K.put3])
  (refine wpD_take 2 _ rfl (by kernel_rfl) (by kernel_rfl) (by kernel_rfl) (fun _ _ _ h => h) List.mem_cons_self (by rfl) (exec_load _ _ rfl q 0 rfl _ _ rfl rfl infoFl) (by assumption) ?_; simp only [Act.put, K.put3])
  clear hold
  refine wpD_only 1 [(2, fun w' => w'.rangeAt q 0 (flV f vk va))] rfl (by kernel_rfl) (by kernel_rfl) (by rfl) (fun K1 hK1 => ?_)
  refine wp_call _ _ _ rfl 59 [] rfl (fun vs w => by kernel_rfl) [.string (sb v)] (by rfl) ?_
  refine (fold_any v (by have := HV.out; unfold Sm at this; omega) w.drew).mono ?_
  rintro e w2 ⟨rfl, f2⟩
  have HF2 := hid ((Fr.refl No w).drew.trans' f2)
  have c32 : w2.rangeAt q 0 (flV f vk va) := HF2.out.range c3 id
  refine ⟨_, rfl, hK1 _ _ (Facts.cons_hold c32 (Facts.nil_hold _)) ?_⟩
  clear hK1 K1 f2
  simp only [Act.put, K.put3]
  refine wpD_only 3 [] rfl (by kernel_rfl) (by kernel_rfl) (by rfl) (fun K3 hK3 => ?_)
  refine wp_call _ _ _ rfl 138 [] rfl (fun vs w => by kernel_rfl) [.string (sb (fold v)), .agg (flV f vk va).toArray] (by rfl) ?_
  refine (hasParts_any (fold v) f vk va w2 (Nat.le_trans (fold_len v) HV.out) (HG.out.no HF2.out) (HA.out.fr HF2.out (fun _ _ _ e => e))).mono ?_
  rintro e w3 ⟨rfl, f3⟩
  have HF3 := hid (HF2.out.trans' f3)
  refine ⟨_, rfl, hK3 _ _ (Facts.nil_hold _) ?_⟩
  clear hK3 K3 f3
  simp only [Act.put, K.put3]
  have hold : Facts.hold [] w3 := Facts.nil_hold _
  (refine wpD_plain 4 (v := ?_) rfl (by kernel_rfl) (by kernel_rfl) (by kernel_rfl) (fun _ _ _ h => h) (by rfl) ?_ (by assumption) ?_; rotate_left; (intro _w; go_simp; try with_reducible rfl); simp only [Act.put, K.put3])
  clear hold
  refine wpD_done (by kernel_rfl) ?_ _
  go_wp2_with fail
  go_ret
  exact ⟨rfl, HF3.out⟩
set_option maxHeartbeats 4000000 in
theorem parts2_any {T : Nat → Prop} (q : Nat) (f : Fl) (vk va : Value) (v : B) (w : World) (hq : Blk w q 46 (flV f vk va)) (hv : Sm v) (hG : Gm w) (ha : LsIn T w va f.any) :
    Calls Tryz.prog 139 #[.string (sb v), .pointer (some ⟨q, 0, none⟩)] w fun e w' => e = .returned (.bool (hasP v f.first f.any f.last)) ∧ Fr No w w' := by
  have HQ := hid hq; have H := hid (hasParts_any v f vk va w hv hG ha)
  clear hq hv hG ha
  go_enter Tryz.func139, Tryz.ntmps139
  go_wp2_with (first
    | ((with_reducible refine K.atO (.load 46 _) ?_); refine wpL_load rfl _ _ rfl q 0 rfl (flV f vk va) _ (HQ.out.range 0 _ rfl) rfl rfl infoFl ?_)
    | fail)
  refine H.out.mono ?_
  rintro e w' ⟨rfl, f1⟩
  have HF := hid f1
  clear f1
  go_wp2_with fail
  go_ret
  exact ⟨rfl, HF.out⟩
/-- No value of an entry is longer than may be folded. -/
def EnS (en : Ent) : Prop := ∀ a ∈ en, ∀ v ∈ a.2, Sm v
theorem valsOf_sm {s : Sch} {en : Ent} {n : B} (h : EnS en) : ∀ v ∈ valsOf s en n, Sm v := by
  intro v hv
  unfold valsOf at hv
  cases ht : tyN s n with
  | none => rw [ht] at hv; cases hv
  | some t =>
    rw [ht] at hv
    simp only at hv
    cases ha : attrOf s en t.nm with
    | none => rw [ha] at hv; cases hv
    | some a =>
      rw [ha] at hv
      exact h a (List.mem_of_find?_eq_some ha) v hv
set_option maxHeartbeats 16000000 in
theorem evalParts_any {S T : Nat → Prop} {M : Nat} (X : Nat → Prop) (b : Nat) (s : Sch) (ve : Value) (en : Ent) (lv : Int) (f : Fl) (t : Ty) (vk va : Value) (w : World) (h : Tn X b s w) (he : EnIn S w ve en) (hS : ∀ i, S i → i ≠ b) (hf : FlC M T w f (flV f vk va)) (hT : ∀ i, T i → i ≠ b) (hE : EnS en) (ht : tyN s f.type = some t) :
    Calls Tryz.prog 92 #[.agg (sjV b ve lv).toArray, .agg (flV f vk va).toArray] w fun e w' => e = .returned (.int .i64 (evParts s en f.type f.first f.any f.last)) ∧ Sx w' X b s ∧ Fr (fun k => k = b) w w' := by
  have HX := hid h; have HS := hid hS; have HES := hid hE; have HTN := hid ht
  have HE : Hid (EnIn (fun i => S i ∧ i < w.heap.size) w ve en) := hid (he.mono (fun i hi hlt => ⟨hi, hlt⟩))
  cases M with
  | zero => exact hf.elim
  | succ M =>
  obtain ⟨vk2, va2, e0, -, hzt, -, hzf, hzl, hza, hks⟩ := hf
  have e1 : va2 = va := by simp [flV] at e0; exact e0.2.symm
  have e2 : vk2 = vk := by simp [flV] at e0; exact e0.1.symm
  subst e1 e2
  have HZT := hid hzt; have HZF := hid hzf; have HZL := hid hzl; have HZA : Hid (LsIn (fun i => T i ∧ i < w.heap.size) w va2 f.any) := hid (hza.1.mono (fun i hi hlt => ⟨hi, hlt⟩)); have HZS := hid hza.2
  have HTB := hid hT
  obtain ⟨ka, kc, rfl, -, -⟩ := hks.form
  obtain ⟨aa, ac, rfl, -, -⟩ := hza.1.form
  obtain ⟨R, hR⟩ : ∃ R, evParts s en f.type f.first f.any f.last = R := ⟨_, rfl⟩
  have HR := hid hR
  rw [hR]
  have HBW := hid h.lt
  obtain ⟨ea, ec, rfl, -, -⟩ := he.form
  clear h he hS hE ht hzt hzf hzl hza hks hR e0 hT
  go_enter Tryz.func92, Tryz.ntmps92
  go_wp2_with (first
    | ((with_reducible refine K.atO (.box 113 _) ?_); refine wpL_box rfl _ _ rfl _ rfl (sjV b (.slice ea en.length ec) lv) rfl ?_; intro w1 HB1 HF1 HS1)
    | ((with_reducible refine K.atO (.box 46 _) ?_); refine wpL_box rfl _ _ rfl _ rfl (flV f (.slice ka f.kids.length kc) (.slice aa f.any.length ac)) rfl ?_; intro w2 HB2 HF2 HS2; refine Hid.out ?_)
    | fail)
  obtain ⟨p, hp⟩ : ∃ p, w.heap.size = p := ⟨_, rfl⟩
  rw [hp] at HB1 HE ⊢
  obtain ⟨q, hq⟩ : ∃ q, w1.heap.size = q := ⟨_, rfl⟩
  rw [hq] at HB2 ⊢
  have HPQ := hid (show ¬ p = b ∧ ¬ q = b ∧ w.heap.size = p ∧ q = p + 1 from ⟨by have := HBW.out; omega, by have := HBW.out; have := HS1.out; omega, hp, by have := HS1.out; omega⟩)
  have HF2' : Hid (Fr No w w2) := hid (HF1.out.trans' HF2.out)
  have HBp := hid (HB1.out.fr HF2.out id)
  have c2 : w2.cell? ⟨q, 2, none⟩ = some (.string (sb f.type)) := HB2.out.cell 2
  have HX2 : Hid (Tn (Also X q) b s w2) := hid (HX.out.also (by have := HPQ.out; omega) HF2'.out HB2.out.lt)
  have HGM : Hid (GM (fun k => k < q)) := hid (by have h := HX.out.2.2.2.gx; have h2 := HPQ.out; exact ⟨⟨by have := h.1.1; omega, by have := h.1.2.1; omega, by have := h.1.2.2; omega⟩, by have := h.2; omega⟩)
  have HE2 := hid (HE.out.fr HF2'.out (fun _ _ _ e => e))
  clear hp hq HS1 HS2 HB1 HF1 HF2
  refine hid ?_
  go_wp2_with (first
    | ((with_reducible refine K.atO (.load 113 _) ?_); refine wpL_load rfl _ _ rfl p 0 rfl (sjV b (.slice ea en.length ec) lv) _ (HBp.out.range 0 _ rfl) rfl rfl infoSj ?_)
    | ((with_reducible refine K.atO (.buildSlice 141 _ _) ?_); refine wpL_buildSlice rfl _ 3 _ _ rfl [.int .i64 1] (by kernel_rfl) ?_; intro w3 HB3 HF3 HS3; refine Hid.out ?_)
    | fail)
  obtain ⟨g, hg⟩ : ∃ g, w2.heap.size = g := ⟨_, rfl⟩
  rw [hg] at HB3 ⊢
  have HGB : Hid (g ≠ b) := hid (by have := HBW.out; have := HF2'.out.size; omega)
  have HX3 := hid (HX2.out.no HF3.out)
  have HE3 := hid (HE2.out.fr HF3.out (fun _ _ _ e => e))
  have HBp3 := hid (HBp.out.fr HF3.out id)
  have HBq3 := hid (HB2.out.fr HF3.out id)
  have HF3' := hid (HF2'.out.trans' HF3.out)
  clear hg HS3 HF3 HX2 HE2 HBp HB2
  refine hid ?_
  go_wp2_with fail
  refine (hasSyn_any (Also X q) b s f.type (.slice ea en.length ec) lv [1] g w3 HX3.out HZT.out (HB3.out.range 0 _ rfl) HGB.out (by decide)).mono ?_
  rintro e w4 ⟨rfl, hs4, f4⟩
  have HX4 := hid (HX3.out.step hs4 f4)
  have HE4 := hid (HE3.out.fr f4 (fun i hi _ e => HS.out i hi.1 e))
  have HBp4 := hid (HBp3.out.fr f4 HPQ.out.1)
  have HBq4 := hid (HBq3.out.fr f4 HPQ.out.2.1)
  have HF4 : Hid (Fr (fun k => k = b) w w4) := hid (HF3'.out.no.trans' f4)
  have HZA4 := hid (HZA.out.fr HF4.out (fun i hi _ e => HTB.out i hi.1 e))
  clear hs4 f4 c2 HX3 HE3 HBp3 HBq3 HB3
  cases hsy : hasSyn s f.type [1] with
  | true =>
    have HRT : Hid (truI ((valsOf s en f.type).any fun x => hasP (fold x) (sqFl f).first (sqFl f).any (sqFl f).last) = R) := hid (by rw [← HR.out]; unfold evParts; rw [hsy]; rfl)
    clear hsy
    go_wp2_with (first
      | ((with_reducible refine K.atO (.load 46 _) ?_); refine wpL_load rfl _ _ rfl q 0 rfl (flV f (.slice ka f.kids.length kc) (.slice aa f.any.length ac)) _ (HBq4.out.range 0 _ rfl) rfl rfl infoFl ?_)
      | fail)
    refine (squeezed_any f _ _ w4 ⟨_, _, _, rfl⟩ HZF.out HZL.out HZA4.out HZS.out.1 HZS.out.2).mono ?_
    rintro e w5 ⟨⟨va', rfl, hla'⟩, f5⟩
    obtain ⟨a2, c2', rfl, -, -⟩ := hla'.form
    have HLA := hid hla'
    have HF5 := hid f5
    have HBq5 := hid (HBq4.out.fr f5 id)
    have HW4 : Hid (q < w4.heap.size) := hid (by have := HF4.out.size; have h2 := HBq4.out.lt; exact h2)
    clear hla' f5
    go_wp2_with (first
      | ((with_reducible refine K.atO (.store 46 _ _) ?_); refine wpL_store rfl _ _ _ rfl q 0 (flV (sqFl f) (.slice ka f.kids.length kc) (.slice a2 (sqFl f).any.length c2')) rfl rfl 46 _ HBq5.out (by simp [flV]) infoFl (one7 _ ⟨_, _, _, rfl⟩ ⟨_, _, _, rfl⟩) ?_; intro w6 HB6 HF6 HS6; refine Hid.out ?_)
      | fail)
    have HB6' := hid HB6.out
    have HX6 : Hid (Tn (Also X q) b s w6) := hid ((HX4.out.no HF5.out).set HF6.out HGM.out)
    have HE6 : Hid (EnIn (fun i => S i ∧ i < p) w6 (.slice ea en.length ec) en) := hid (((HE4.out.no HF5.out).fr HF6.out (fun i hi _ e => by have e : i = q := e; have := hi.2; have := HPQ.out; omega)))
    have HF6' : Hid (Fr (fun k => k = b) w w6) := hid ((HF4.out.trans' HF5.out.no).trans HF6.out (fun k e => .inr (by have e : k = q := e; have := HPQ.out; omega)))
    have HB4 : Hid (b < w4.heap.size) := hid (by have := HX4.out.lt; exact this)
    have c26 : w6.cell? ⟨q, 2, none⟩ = some (.string (sb f.type)) := HB6'.out.cell 2
    have cp6 : w6.rangeAt p 0 (sjV b (.slice ea en.length ec) lv) := ((HBp4.out.fr HF5.out id).fr HF6.out (by show ¬ p = q; have := HPQ.out; omega)).range 0 _ rfl
    have HCP := hid cp6
    clear HS6 HB6 cp6
    refine hid ?_
    go_wp2_with (first
      | ((with_reducible refine K.atO (.load 113 _) ?_); refine wpL_load rfl _ _ rfl p 0 rfl (sjV b (.slice ea en.length ec) lv) _ HCP.out rfl rfl infoSj ?_)
      | fail)
    refine (evalValues_any 137 [.pointer (some ⟨q, 0, none⟩)] (fun x => hasP (fold x) (sqFl f).first (sqFl f).any (sqFl f).last) (Also X q) b s _ en lv f.type t w6 HX6.out HE6.out (fun i hi => HS.out i hi.1) HZT.out HTN.out (fun vs w => by kernel_rfl)
      (fun v hv hzv wv hx hfw => (parts1_any q (sqFl f) (.slice ka f.kids.length kc) (.slice a2 (sqFl f).any.length c2') v wv (HB6'.out.fr hfw HPQ.out.2.1) (valsOf_sm HES.out v hv) hx.2.2.2 (LsIn.fr (LsIn.fr HLA.out HF6.out (fun i hi _ e => by have hi : w4.heap.size ≤ i := hi; have e : i = q := e; have := HW4.out; omega)) hfw (fun i hi _ e => by have hi : w4.heap.size ≤ i := hi; have e : i = b := e; have := HB4.out; omega))).mono fun e w' h => ⟨h.1, hx.1.no h.2, h.2.no⟩)).mono ?_
    rintro e w7 ⟨rfl, hs7, f7⟩
    rw [HRT.out]
    have HS7 := hid hs7; have HF7 := hid (HF6'.out.trans' f7)
    clear hs7 f7 c26
    go_wp2_with fail
    go_ret
    exact ⟨rfl, Sx.back HS7.out, HF7.out⟩
  | false =>
    have HRT : Hid (truI ((valsOf s en f.type).any fun x => hasP x f.first f.any f.last) = R) := hid (by rw [← HR.out]; unfold evParts; rw [hsy]; rfl)
    have HE4' : Hid (EnIn (fun i => S i ∧ i < p) w4 (.slice ea en.length ec) en) := HE4
    have c24 : w4.cell? ⟨q, 2, none⟩ = some (.string (sb f.type)) := HBq4.out.cell 2
    have HCP := hid (HBp4.out.range 0 (sjV b (.slice ea en.length ec) lv) rfl)
    clear hsy
    go_wp2_with (first
      | ((with_reducible refine K.atO (.load 113 _) ?_); refine wpL_load rfl _ _ rfl p 0 rfl (sjV b (.slice ea en.length ec) lv) _ HCP.out rfl rfl infoSj ?_)
      | fail)
    refine (evalValues_any 139 [.pointer (some ⟨q, 0, none⟩)] (fun x => hasP x f.first f.any f.last) (Also X q) b s _ en lv f.type t w4 HX4.out HE4.out (fun i hi => HS.out i hi.1) HZT.out HTN.out (fun vs w => by kernel_rfl)
      (fun v hv hzv wv hx hfw => (parts2_any q f (.slice ka f.kids.length kc) (.slice aa f.any.length ac) v wv (HBq4.out.fr hfw HPQ.out.2.1) (valsOf_sm HES.out v hv) hx.2.2.2 (LsIn.fr HZA4.out hfw (fun i hi _ e => HTB.out i hi.1 e))).mono fun e w' h => ⟨h.1, hx.1.no h.2, h.2.no⟩)).mono ?_
    rintro e w7 ⟨rfl, hs7, f7⟩
    rw [HRT.out]
    have HS7 := hid hs7; have HF7 := hid (HF4.out.trans' f7)
    clear hs7 f7 c24
    go_wp2_with fail
    go_ret
    exact ⟨rfl, Sx.back HS7.out, HF7.out⟩
end Go.Proofs.YtdkkpfeiaaffhaaGreatDoor.FT

namespace Go.Proofs.YtdkkpfeiaaffhaaGreatDoor.FT
set_option maxRecDepth 100000
open Go.ChangeShapes Go.WideShapes Go.ChangeAt Go.RowKit K Go.Proofs.YtdkkpfeiaaffhaaGreatDoor.BE Go.Proofs.YtdkkpfeiaaffhaaGreatDoor.DN Go.Proofs.YtdkkpfeiaaffhaaGreatDoor.SC

/-! ### What the rows list -/
def laid : List (String × DataW Unit) := [("math/bits.deBruijn32tab", Rows.laid_math_bits_deBruijn32tab), ("math/bits.deBruijn64tab", Rows.laid_math_bits_deBruijn64tab), ("internal/strconv.uint64pow10", Rows.laid_internal_strconv_uint64pow10), ("unicode/utf8.acceptRanges", Rows.laid_unicode_utf8_acceptRanges), ("strconv.ErrRange", Rows.laid_strconv_ErrRange), ("strconv.ErrSyntax", Rows.laid_strconv_ErrSyntax), ("unicode/utf8.first", Rows.laid_unicode_utf8_first)]
/-- What the functions ask of the package-level variables, out of what the rows list, and of the world's shape. -/
theorem gs_of {W : World} (h : laidMetH Tryz.prog laid W) : Gs W := by
  have h0 : laidMet Tryz.prog laid W := h
  refine ⟨?_, ?_, ?_⟩
  · obtain ⟨a, s, hv, -⟩ := laid_sentinel (nm := "*errors.errorString") h0.tail.tail.tail.tail.tail gSyn gSynT Tryz.underlying131 rowES Tryz.underlying269 Tryz.underlying271 rfl rfl Tryz.underlying9 cES cS
    exact ⟨_, _, by simpa using World.var?_cell gSyn hv 0⟩
  · obtain ⟨a, s, hv, -⟩ := laid_sentinel (nm := "*errors.errorString") h0.tail.tail.tail.tail gRng gRngT Tryz.underlying131 rowES Tryz.underlying269 Tryz.underlying271 rfl rfl Tryz.underlying9 cES cS
    exact ⟨_, _, by simpa using World.var?_cell gRng hv 0⟩
  · have h2 : laidMet Tryz.prog (("internal/strconv.uint64pow10", Lib.tabData .u64 Lib.pow10Tab) :: [("unicode/utf8.acceptRanges", Rows.laid_unicode_utf8_acceptRanges), ("strconv.ErrRange", Rows.laid_strconv_ErrRange), ("strconv.ErrSyntax", Rows.laid_strconv_ErrSyntax), ("unicode/utf8.first", Rows.laid_unicode_utf8_first)]) W := h0.tail.tail
    exact Lib.tabIs_of_head gTab gTabT Tryz.underlying272 Tryz.underlying242 (by kernel_rfl) (by kernel_rfl) h2
theorem gm_of {W : World} (h : laidMetH Tryz.prog laid W) (hs : W.ShapedOpen Tryz.prog) : Gm W :=
  ⟨gs_of h, cell_of_shapedOpen_int (t := 3) (zero := #[.int .i64 0]) hs (of_decide_eq_true (by kernel_rfl)) (by kernel_rfl) rfl (by kernel_rfl) (by kernel_rfl) Tryz.underlying3⟩
mutual
def flatD : DataW Unit → List Value
  | .lit (.int k n) => [Value.int k n]
  | .agg xs => flatDs xs
  | _ => [undef]
def flatDs : List (DataW Unit) → List Value
  | [] => []
  | x :: r => flatD x ++ flatDs r
end
noncomputable def laidWorld (os : Os) : World :=
  let w0 := World.holding Tryz.prog os ⟨#[.cells #[.string (sb [118, 97, 108, 117, 101, 32, 111, 117, 116, 32, 111, 102, 32, 114, 97, 110, 103, 101])] 271, .cells #[.string (sb [105, 110, 118, 97, 108, 105, 100, 32, 115, 121, 110, 116, 97, 120])] 271], #[], []⟩
  { w0 with heap := ((((((w0.heap.modify 4 (lay (flatD Rows.laid_math_bits_deBruijn32tab).toArray)).modify 5 (lay (flatD Rows.laid_math_bits_deBruijn64tab).toArray)).modify 3 (lay (flatD Rows.laid_internal_strconv_uint64pow10).toArray)).modify 7 (lay (flatD Rows.laid_unicode_utf8_acceptRanges).toArray)).modify 2 (lay #[.iface 269 (.pointer (some ⟨lowG, 0, none⟩))])).modify 1 (lay #[.iface 269 (.pointer (some ⟨lowG + 1, 0, none⟩))])).modify 6 (lay (flatD Rows.laid_unicode_utf8_first).toArray) }
/-! ### Arguments -/
/-- No list and no text in it is longer. -/
def FlB (k : Nat) : Nat → Fl → Prop
  | 0, _ => True
  | d + 1, f => f.type.length ≤ k ∧ f.value.length ≤ k ∧ f.first.length ≤ k ∧ f.last.length ≤ k ∧ f.any.length ≤ k ∧ (∀ a ∈ f.any, a.length ≤ k) ∧ f.kids.length ≤ k ∧ ∀ x ∈ f.kids, FlB k d x
theorem cFl : Tryz.prog.cellsOf 46 = 7 := by kernel_rfl
theorem cFls : Tryz.prog.cellsOf 43 = 1 := by kernel_rfl
theorem bFl : 1 ≤ Tryz.prog.bytesOf 46 := by rw [show Tryz.prog.bytesOf 46 = 120 by kernel_rfl]; decide
theorem int_b {k f : Nat} {w : World} {cs : List Value} (h : ReadsB k f w 3 cs) : ∃ n, cs = [.int .i64 n] ∧ I64 n := by
  obtain ⟨H, enc, x, h1, -, -⟩ := h
  obtain ⟨n, e, -, hn⟩ := DataW.trod_int Tryz.underlying3 h1
  refine ⟨n, e, ?_⟩
  have : -9223372036854775808 ≤ n ∧ n ≤ 9223372036854775807 := by simpa [Lit.wf, IntKind.min, IntKind.signed, IntKind.bits] using hn
  exact this
theorem fl_b {k : Nat} (hk : k ≤ 4294967000) : ∀ (f : Nat) (w : World) (cs : List Value), ReadsB k f w 46 cs → ∃ x, FlC f (fun i => i < w.heap.size) w x cs ∧ ∀ d, FlB k d x := by
  intro f
  induction f using Nat.strongRecOn with
  | ind f ih =>
    intro w cs h
    obtain ⟨f1, rfl, hl, hf⟩ := h.struct Tryz.underlying46
    rw [cFl] at hl
    obtain ⟨c0, c1, c2, c3, c4, c5, c6, rfl⟩ : ∃ c0 c1 c2 c3 c4 c5 c6, cs = [c0, c1, c2, c3, c4, c5, c6] := by
      match cs, hl with
      | [c0, c1, c2, c3, c4, c5, c6], _ => exact ⟨c0, c1, c2, c3, c4, c5, c6, rfl⟩
    have k0 : ReadsB k f1 w 3 (([c0, c1, c2, c3, c4, c5, c6].drop 0).take (Tryz.prog.cellsOf 3)) := hf 0 _ rfl
    have k1 : ReadsB k f1 w 43 (([c0, c1, c2, c3, c4, c5, c6].drop 1).take (Tryz.prog.cellsOf 43)) := hf 1 _ rfl
    have k2 : ReadsB k f1 w 9 (([c0, c1, c2, c3, c4, c5, c6].drop 2).take (Tryz.prog.cellsOf 9)) := hf 2 _ rfl
    have k3 : ReadsB k f1 w 9 (([c0, c1, c2, c3, c4, c5, c6].drop 3).take (Tryz.prog.cellsOf 9)) := hf 3 _ rfl
    have k4 : ReadsB k f1 w 9 (([c0, c1, c2, c3, c4, c5, c6].drop 4).take (Tryz.prog.cellsOf 9)) := hf 4 _ rfl
    have k5 : ReadsB k f1 w 44 (([c0, c1, c2, c3, c4, c5, c6].drop 5).take (Tryz.prog.cellsOf 44)) := hf 5 _ rfl
    have k6 : ReadsB k f1 w 9 (([c0, c1, c2, c3, c4, c5, c6].drop 6).take (Tryz.prog.cellsOf 9)) := hf 6 _ rfl
    rw [cIn] at k0
    rw [cFls] at k1
    rw [cS] at k2 k3 k4 k6
    rw [cLs] at k5
    obtain ⟨n, e0, g0⟩ := int_b k0
    obtain ⟨vk, ks, e1, s1, l1, q1⟩ := k1.rows (p := FlC f1 (fun i => i < w.heap.size) w) (q := fun x => ∀ d, FlB k d x) Tryz.underlying43 cFl (by decide) bFl (fun f2 cs' hlt hr => by
      obtain ⟨x, hx, hb⟩ := ih f2 (by omega) w cs' hr
      exact ⟨x, hx.le (by omega), hb⟩)
    obtain ⟨t2, e2, g2, b2⟩ := k2.string Tryz.underlying9
    obtain ⟨t3, e3, g3, b3⟩ := k3.string Tryz.underlying9
    obtain ⟨t4, e4, g4, b4⟩ := k4.string Tryz.underlying9
    obtain ⟨va, as_, e5, g5, ⟨l5, b5⟩, -⟩ := ls_b k5
    obtain ⟨t6, e6, g6, b6⟩ := k6.string Tryz.underlying9
    simp only [List.drop_zero, List.drop_succ_cons, List.take_succ_cons, List.take_zero, List.cons.injEq, and_true] at e0 e1 e2 e3 e4 e5 e6
    subst e0 e1 e2 e3 e4 e5 e6
    refine ⟨.mk n ks t2 t3 t4 as_ t6, ⟨c1, c5, rfl, g0, g2, g3, Nat.le_trans b4 hk, Nat.le_trans b6 hk, ⟨g5, fun x hx => Nat.le_trans (b5 x hx) hk, Nat.le_trans l5 hk⟩, s1⟩, fun d => ?_⟩
    cases d with
    | zero => trivial
    | succ d => exact ⟨b2, b3, b4, b6, l5, b5, l1, fun x hx => q1 x hx d⟩
section
variable {H : Type} {enc : TypeId × Value → H} {W W' : World} {v : Value} {d : DataW H} {p : List MemPlace} {ts : List TypeId} {ds : List (DataW H)}
theorem arg_fl (hk : Rows.uptoBulk d ≤ 4294967000) (h : DataW.Trod enc Tryz.prog W 0 (fun _ => true) true 46 v d p) (hv : ∃ cs, v = .agg cs ∧ cs.size = Tryz.prog.cellsOf 46) (hsz : (DataW.weightsEach Tryz.prog ts ds).all (· ≤ reachBytes) = true) (j : Nat) (ht : ts[j]? = some 46) (hd : ds[j]? = some d) :
    ∃ M x cs, v = .agg cs.toArray ∧ FlC M (fun i => i < W.heap.size) W x cs ∧ ∀ e, FlB (Rows.uptoBulk d) e x := by
  obtain ⟨fuel, hr⟩ := h
  obtain ⟨cs, rfl, -⟩ := hv
  obtain ⟨x, h1, h2⟩ := fl_b hk fuel W cs.toList ⟨H, enc, _, by simpa [Value.cells] using hr, fun n hn => by simpa using List.all_eq_true.1 hsz n (DataW.weights_mem_each ht hd n hn), Nat.le_refl _⟩
  exact ⟨fuel, x, cs.toList, by simp, h1, h2⟩
end
end Go.Proofs.YtdkkpfeiaaffhaaGreatDoor.FT

namespace Go.Proofs.YtdkkpfeiaaffhaaGreatDoor.FT
set_option maxRecDepth 100000
open Go.RowKit K Go.Proofs.YtdkkpfeiaaffhaaGreatDoor.BE Go.Proofs.YtdkkpfeiaaffhaaGreatDoor.DN Go.Proofs.YtdkkpfeiaaffhaaGreatDoor.SC

theorem zeroFl' : ∀ w, (zeroValue 46).run Tryz.prog w = .ok (.agg (flV fl0 (.slice none 0 0) (.slice none 0 0)).toArray) w := fun _ => by kernel_rfl
theorem spl_whole (cs c : List Value) (h : cs.length = c.length) : spl cs 0 c = c := by simp [spl, ← h]
def notE : List Int → Int
  | [] => 2
  | r :: _ => opp r
/-- Seven cells that may be stored. -/
def Seven (c : List Value) : Prop := c.length = 7 ∧ ∀ v ∈ c, v.oneCell' = true
set_option maxHeartbeats 16000000 in
theorem joined_any {α : Type} (f : FuncId) (first : List Value) (q : α → Int) (p : World → α → List Value → Prop) (D : Nat → Prop) (I : World → Prop) (E : Nat → Prop) (v0 : Value) (X : List α) (dec : Int) (w : World) (hp : ∀ w w' x c, p w x c → Fr D w w' → p w' x c) (h7 : ∀ w x c, p w x c → Seven c) (hD : ∀ i, E i → i < w.heap.size → ¬ D i) (hI : I w) (hIn : ∀ w w', I w → Fr No w w' → I w') (hdec : dec = 0 ∨ dec = 1)
    (h0 : Sl 7 (p w) E w v0 X) (hent : ∀ (vs : Array Value) (w : World), (callFunc f vs).run Tryz.prog w = .ok (.enter f vs) w)
    (hf : ∀ x ∈ X, ∀ c wv, p wv x c → I wv → Fr D w wv → Calls Tryz.prog f (first ++ [Value.agg c.toArray]).toArray wv fun e w' => e = .returned (.int .i64 (q x)) ∧ I w' ∧ Fr D wv w') :
    Calls Tryz.prog 88 #[v0, .int .i64 dec, .func (.func f) first.toArray #[]] w fun e w' => e = .returned (.int .i64 (joinE dec (opp dec) (X.map q))) ∧ I w' ∧ Fr D w w' := by
  obtain ⟨a, c, rfl, -, hl0⟩ := h0.form
  have HX0 := hid h0
  obtain ⟨n, hn⟩ : ∃ n, X.length = n := ⟨_, rfl⟩
  rw [hn] at HX0 hl0 ⊢
  have HNN := hid hn; have HP := hid hp; have HE := hid hent; have HF := hid hf; have HD := hid hD; have HI0 := hid hI; have HIN := hid hIn; have H7 := hid h7
  obtain ⟨R, hR⟩ : ∃ R, joinE dec (opp dec) (X.map q) = R := ⟨_, rfl⟩
  rw [hR]
  have HR := hid hR
  have HDEC := hid hdec
  have hni : (n : Int) ≤ 140737488351232 := by omega
  clear hp h0 hent hf hn hR hD hI hIn h7 hdec
  go_enter Tryz.func88, Tryz.ntmps88
  go_wp2_with fail
  refine (opposite_any dec w).mono ?_
  rintro e w1 ⟨rfl, rfl⟩
  go_wp2_with fail
  go_loopw [7, 14] (fun rv iv wr => ∃ (i : Nat) (res : Int), rv = .int .i64 res ∧ iv = .int .i64 i ∧ i ≤ n ∧ Hid (joinE dec res ((X.drop i).map q) = R ∧ I wr ∧ Fr D w1 wr)) (fun _ iv _ => n - (intOf iv).toNat)
  case atStart => exact ⟨0, opp dec, rfl, rfl, Nat.zero_le _, hid ⟨HR.out, HI0.out, Fr.refl _ _⟩⟩
  case round =>
    obtain ⟨i, res, rfl, rfl, hi, HI⟩ := hrel
    by_cases hlt : i < n
    · have hiX : i < X.length := by rw [HNN.out]; exact hlt
      obtain ⟨x, hx⟩ : ∃ x, X[i]? = some x := ⟨_, List.getElem?_eq_getElem hiX⟩
      have HXM := hid (List.mem_of_getElem? hx)
      have HJ : Hid ((if q x = dec then dec else joinE dec (if q x = 2 then 2 else res) ((X.drop (i + 1)).map q)) = R) := hid (by
        have h := HI.out.1
        rw [(drop_at hx).1, List.map_cons] at h
        exact h)
      have hlti : (i : Int) < n := by omega
      have hi0 : (0 : Int) ≤ i := by omega
      obtain ⟨g, o, cp, c, e1, hEg, hgw, hr, hc, hxa⟩ := (HX0.out.fr HI.out.2.2 HD.out (fun x c _ h => HP.out _ _ x c h HI.out.2.2)).get hx
      rw [HNN.out] at e1
      simp only [Value.slice.injEq, true_and] at e1
      obtain ⟨rfl, rfl⟩ := e1
      have HXA := hid hxa; have HRR := hid hr
      have H7C := hid (H7.out _ _ _ hxa)
      have HI3 : Hid ((Tryz.prog.info? 46).map (·.size) = some c.length) := hid (by rw [hc]; exact infoFl)
      have HLT := hid hlt
      clear hc hEg hgw hr hxa hx hlt hiX
      go_wp2_with (first
        | ((with_reducible refine K.atO (.load 46 _) ?_); (fail_if_success (have := HB2)); refine wpL_load rfl _ _ rfl g (o + i * 7) rfl c _ HRR.out rfl rfl HI3.out ?_)
        | ((with_reducible refine K.atO (.alloc 46) ?_); refine wpL_alloc rfl _ rfl _ zeroFl' (flV fl0 (.slice none 0 0) (.slice none 0 0)) rfl ?_; intro w2 HB2 HF2 HS2)
        | ((with_reducible refine K.atO (.store 46 _ _) ?_); refine wpL_store rfl _ _ _ rfl wr.heap.size 0 c rfl rfl 46 _ HB2.out (by rw [H7C.out.1]; simp [flV]) HI3.out H7C.out.2 ?_; intro w3 HB3 HF3 HS3; refine Hid.out ?_)
        | fail)
      have HF3' : Hid (Fr No wr w3) := hid (HF2.out.trans HF3.out (fun k e => .inr (by have e : k = wr.heap.size := e; omega)))
      have HB3' : Hid (Blk w3 wr.heap.size 46 c) := hid (by
        have h := HB3.out
        rw [spl_whole (flV fl0 (.slice none 0 0) (.slice none 0 0)) c (by rw [H7C.out.1]; rfl)] at h
        exact h)
      obtain ⟨r, hr⟩ : ∃ r, wr.heap.size = r := ⟨_, rfl⟩
      rw [hr] at HB3' ⊢
      have HXA3 := hid (HP.out _ _ x c HXA.out (HF3'.out.mono (fun _ e => e.elim)))
      have HI3' := hid (HIN.out _ _ HI.out.2.1 HF3'.out)
      have HFD3 : Hid (Fr D w1 w3) := hid (HI.out.2.2.trans' (HF3'.out.mono (fun _ e => e.elim)))
      clear hr HB2 HF2 HS2 HB3 HF3 HS3
      refine hid ?_
      go_wp2_with (first
        | ((with_reducible refine K.atO (.load 46 _) ?_); refine wpL_load rfl _ _ rfl r 0 rfl c _ (HB3'.out.range 0 _ (by simp)) rfl rfl HI3.out ?_)
        | ((with_reducible refine K.atO (.call { callee := .value _, args := _, argTypes := _ }) ?_); refine wpL_callF rfl _ [_] _ rfl f first [] rfl HE.out (first ++ [Value.agg c.toArray]) (by rw [List.append_nil]; rfl) ?_)
        | fail)
      refine (HF.out x HXM.out c w3 HXA3.out HI3'.out HFD3.out).mono ?_
      rintro e w4 ⟨rfl, i4, f4⟩
      refine ⟨_, rfl, ?_⟩
      have HF4 := hid (HFD3.out.trans' f4)
      have HI4 := hid i4
      generalize q x = y at HJ ⊢
      clear f4 i4 HXA HXA3 HRR HB3'
      by_cases hy : y = dec
      · have HRY : Hid (dec = R) := hid (by have h := HJ.out; rw [if_pos hy] at h; exact h)
        have ey := beqI hy
        clear hy
        go_wp2_with fail
        go_ret
        exact ⟨by rw [← HRY.out]; rfl, HI4.out, HF4.out⟩
      · have HRY : Hid (joinE dec (if y = 2 then 2 else res) ((X.drop (i + 1)).map q) = R) := hid (by have h := HJ.out; rw [if_neg hy] at h; exact h)
        have ey := beqN hy
        clear hy
        by_cases h2 : y = 2
        · have HRZ : Hid (joinE dec 2 ((X.drop (i + 1)).map q) = R) := hid (by have h := HRY.out; rw [if_pos h2] at h; exact h)
          have e2 := beqI h2
          clear h2
          go_wp2_with fail
          go_roundw
          case rel => exact ⟨i + 1, 2, rfl, by go_num, HLT.out, hid ⟨HRZ.out, HI4.out, HF4.out⟩⟩
          case measure => have := HLT.out; simp [intOf]; omega
        · have HRZ : Hid (joinE dec res ((X.drop (i + 1)).map q) = R) := hid (by have h := HRY.out; rw [if_neg h2] at h; exact h)
          have e2 := beqN h2
          clear h2
          go_wp2_with fail
          go_roundw
          case rel => exact ⟨i + 1, res, rfl, by go_num, HLT.out, hid ⟨HRZ.out, HI4.out, HF4.out⟩⟩
          case measure => have := HLT.out; simp [intOf]; omega
    · obtain rfl : i = n := by omega
      have HDN : Hid (res = R) := hid (by
        have h := HI.out.1
        rw [List.drop_eq_nil_of_le (by rw [HNN.out]; exact Nat.le_refl _)] at h
        exact h)
      go_wp2_with fail
      go_ret
      exact ⟨by rw [← HDN.out]; rfl, HI.out.2.1, HI.out.2.2⟩
set_option maxHeartbeats 8000000 in
theorem denied_any {α : Type} (f : FuncId) (first : List Value) (q : α → Int) (p : World → α → List Value → Prop) (D : Nat → Prop) (I : World → Prop) (E : Nat → Prop) (v0 : Value) (X : List α) (w : World) (hI : I w)
    (h0 : Sl 7 (p w) E w v0 X) (hent : ∀ (vs : Array Value) (w : World), (callFunc f vs).run Tryz.prog w = .ok (.enter f vs) w)
    (hf : ∀ x ∈ X, ∀ c wv, p wv x c → I wv → Fr D w wv → Calls Tryz.prog f (first ++ [Value.agg c.toArray]).toArray wv fun e w' => e = .returned (.int .i64 (q x)) ∧ I w' ∧ Fr D wv w') :
    Calls Tryz.prog 89 #[v0, .func (.func f) first.toArray #[]] w fun e w' => e = .returned (.int .i64 (notE (X.map q))) ∧ I w' ∧ Fr D w w' := by
  obtain ⟨a, c, rfl, -, hl0⟩ := h0.form
  cases X with
  | nil =>
    have HI0 := hid hI
    clear h0 hent hf hI
    go_enter Tryz.func89, Tryz.ntmps89
    go_wp2_with fail
    go_ret
    exact ⟨rfl, HI0.out, Fr.refl _ _⟩
  | cons x r =>
    have hx : (x :: r)[0]? = some x := rfl
    obtain ⟨g, o, cp, c, e1, hEg, hgw, hr, hc, hxa⟩ := h0.get hx
    simp only [Value.slice.injEq, true_and] at e1
    obtain ⟨rfl, rfl⟩ := e1
    have HF := hid (hf x List.mem_cons_self c w hxa hI (Fr.refl _ _))
    have HE := hid hent; have HRR : Hid (w.rangeAt g o c) := hid (by rw [Nat.zero_mul, Nat.add_zero] at hr; exact hr)
    have HI3 : Hid ((Tryz.prog.info? 46).map (·.size) = some c.length) := hid (by rw [hc]; exact infoFl)
    obtain ⟨n, hn⟩ : ∃ n, (x :: r).length = n := ⟨_, rfl⟩
    have hn0 : ((n : Int) == 0) = false := by rw [beq_eq_false_iff_ne]; simp at hn; omega
    have hn1 : (0 : Int) < n := by simp at hn; omega
    have hnb : (n : Int) ≤ 140737488351232 := by omega
    rw [hn]
    clear h0 hent hf hI hx hEg hgw hr hc hxa hl0 hn
    go_enter Tryz.func89, Tryz.ntmps89
    go_wp2_with (first
      | ((with_reducible refine K.atO (.load 46 _) ?_); refine wpL_load rfl _ _ rfl g o rfl c _ HRR.out rfl rfl HI3.out ?_)
      | ((with_reducible refine K.atO (.call { callee := .value _, args := _, argTypes := _ }) ?_); refine wpL_callF rfl _ [_] _ rfl f first [] rfl HE.out (first ++ [Value.agg c.toArray]) (by rw [List.append_nil]; rfl) ?_)
      | fail)
    refine HF.out.mono ?_
    rintro e w4 ⟨rfl, i4, f4⟩
    refine ⟨_, rfl, ?_⟩
    have HF4 := hid f4
    have HI4 := hid i4
    clear f4 i4
    go_wp2_with fail
    refine (opposite_any _ w4).mono ?_
    rintro e w5 ⟨rfl, rfl⟩
    go_wp2_with fail
    go_ret
    exact ⟨rfl, HI4.out, HF4.out⟩
end Go.Proofs.YtdkkpfeiaaffhaaGreatDoor.FT

namespace Go.Proofs.YtdkkpfeiaaffhaaGreatDoor.FT
set_option maxRecDepth 100000
open Go.Proofs.YtdkkpfeiaaffhaaGreatDoor.BE Go.Proofs.YtdkkpfeiaaffhaaGreatDoor.DN Go.Proofs.YtdkkpfeiaaffhaaGreatDoor.SC

def isEsc (c : UInt8) : Bool := c == 40 || c == 41 || c == 42 || c == 92 || c == 0
def escB (c : UInt8) : B := if isEsc c then [92, dgt (c / 16), dgt (c % 16)] else [c]
def escF (v : B) : B := v.flatMap escB
def anyT (l : List B) : B := l.flatMap fun p => escF p ++ [42]
def partsT (f : Fl) : B := escF f.first ++ [42] ++ anyT f.any ++ escF f.last
def prK (kids : List B) (k : UInt8) : B := [40, k] ++ kids.flatten ++ [41]
def prV (t o v : B) : B := [40] ++ t ++ o ++ escF v ++ [41]
def prQ : B := [40, 63, 41]
def prF : Nat → Fl → B
  | 0, _ => prQ
  | d + 1, f =>
    if f.kind = 0 then prK (f.kids.map (prF d)) 38
    else if f.kind = 1 then prK (f.kids.map (prF d)) 124
    else if f.kind = 2 then prK ((f.kids.take 1).map (prF d)) 33
    else if f.kind = 3 then prV f.type [61] f.value
    else if f.kind = 4 then [40] ++ f.type ++ [61] ++ partsT f ++ [41]
    else if f.kind = 5 then prV f.type [62, 61] f.value
    else if f.kind = 6 then prV f.type [60, 61] f.value
    else if f.kind = 7 then [40] ++ f.type ++ [61, 42, 41]
    else prQ
theorem escB_len (c : UInt8) : (escB c).length ≤ 3 := by unfold escB; split <;> simp
theorem escF_len : ∀ v : B, (escF v).length ≤ 3 * v.length
  | [] => by simp [escF]
  | c :: r => by
    have ih := escF_len r
    have := escB_len c
    have e : escF (c :: r) = escB c ++ escF r := rfl
    rw [e, List.length_append, List.length_cons]
    omega
theorem escF_snoc (v : B) (c : UInt8) : escF (v ++ [c]) = escF v ++ escB c := by simp [escF]
theorem escF_take (v : B) (i : Nat) : (escF (v.take i)).length ≤ 3 * v.length := by
  have := escF_len (v.take i)
  rw [List.length_take] at this
  omega
theorem anyT_snoc (l : List B) (p : B) : anyT (l ++ [p]) = anyT l ++ (escF p ++ [42]) := by simp [anyT]
theorem anyT_take (l : List B) (i : Nat) : (anyT (l.take i)).length ≤ (anyT l).length := by
  have : anyT l = anyT (l.take i) ++ anyT (l.drop i) := by
    unfold anyT
    rw [← List.flatMap_append, List.take_append_drop]
  rw [this, List.length_append]
  omega
theorem flat_take (l : List B) (i : Nat) : (l.take i).flatten.length ≤ l.flatten.length := by
  have : l.flatten = (l.take i).flatten ++ (l.drop i).flatten := by rw [← List.flatten_append, List.take_append_drop]
  rw [this, List.length_append]
  omega
theorem flat_mem (l : List B) (i : Nat) (x : B) (h : l[i]? = some x) : (l.take i).flatten.length + x.length ≤ l.flatten.length := by
  have := flat_take l (i + 1)
  rw [List.take_add_one, h] at this
  simpa using this
theorem any_mem (l : List B) (i : Nat) (x : B) (h : l[i]? = some x) : (anyT (l.take i)).length + (escF x ++ [42]).length ≤ (anyT l).length := by
  have := anyT_take l (i + 1)
  rw [List.take_add_one, h, Option.toList_some, anyT_snoc, List.length_append] at this
  exact this
end Go.Proofs.YtdkkpfeiaaffhaaGreatDoor.FT

namespace Go.Proofs.YtdkkpfeiaaffhaaGreatDoor.DN
set_option maxRecDepth 100000
open Go.RowKit K Go.Proofs.YtdkkpfeiaaffhaaGreatDoor.BE

theorem esc_no {d : UInt8} {r : B} (h : ¬ (sign d || d == 35 || d == 61 || d == 32) = true) : esc (d :: r) = match r with
    | [] => none
    | d2 :: r' => match hexv d, hexv d2 with
      | some x, some y => some (16 * x + y, r')
      | _, _ => none := by
  unfold esc
  simp only [h, Bool.false_eq_true, if_false]
  cases r <;> rfl
end Go.Proofs.YtdkkpfeiaaffhaaGreatDoor.DN

namespace Go.Proofs.YtdkkpfeiaaffhaaGreatDoor.DN
set_option maxRecDepth 100000
open Go.RowKit K Go.Proofs.YtdkkpfeiaaffhaaGreatDoor.BE

theorem exec_idxB {op : Oper} {a : Act} (x y : Operand) (ho : op.op = .index 9 x y) (l : B) {S : ByteArray} (hS : sb l = S) (i : Nat) (b : UInt8) (hi : l[i]? = some b) (n : Int) (hn : n = (i : Int)) (hx : a.eval x = .string S) (hy : a.eval y = .int .i64 n) (w : World) : (execOp a.eval op).run Tryz.prog w = .ok (.value (.int .u8 (b.toNat : Int))) w := by
  subst hS
  exact exec_idx x y ho l i b hi n hn hx hy w
end Go.Proofs.YtdkkpfeiaaffhaaGreatDoor.DN
