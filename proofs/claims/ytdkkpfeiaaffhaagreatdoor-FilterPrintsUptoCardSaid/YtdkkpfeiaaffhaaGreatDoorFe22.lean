/-
  Part 22 of the proof: FtU.
-/
import Derived.Test.YtdkkpfeiaaffhaaGreatDoorFe18
import Derived.Test.YtdkkpfeiaaffhaaGreatDoorFe21
set_option linter.unusedSimpArgs false
set_option linter.unusedVariables false
namespace Go.Proofs.YtdkkpfeiaaffhaaGreatDoor.FT
set_option maxRecDepth 100000
open Go.RowKit K Go.Proofs.YtdkkpfeiaaffhaaGreatDoor.BE Go.Proofs.YtdkkpfeiaaffhaaGreatDoor.DN Go.Proofs.YtdkkpfeiaaffhaaGreatDoor.SC

theorem escF_ge : ∀ v : B, v.length ≤ (escF v).length
  | [] => Nat.le_refl _
  | c :: r => by
    have ih := escF_ge r
    have e : escF (c :: r) = escB c ++ escF r := rfl
    have h1 : 1 ≤ (escB c).length := by unfold escB; split <;> simp
    rw [e, List.length_append, List.length_cons]
    omega
theorem anyT_ge : ∀ (l : List B) (x : B), x ∈ l → x.length ≤ (anyT l).length
  | y :: r, x, h => by
    have e : anyT (y :: r) = (escF y ++ [42]) ++ anyT r := rfl
    rw [e, List.length_append, List.length_append]
    rcases List.mem_cons.1 h with rfl | h
    · have := escF_ge x
      omega
    · have := anyT_ge r x h
      omega
theorem Sl.take {α : Type} {k : Nat} {p : α → List Value → Prop} {S : Nat → Prop} {w : World} {a : Option Addr} {n c : Nat} {xs : List α} (h : Sl k p S w (.slice a n c) xs) (m : Nat) : Sl k p S w (.slice a (xs.take m).length c) (xs.take m) := by
  obtain ⟨a', c', e, h2, h3, h4⟩ := h
  simp only [Value.slice.injEq] at e
  obtain ⟨rfl, rfl, rfl⟩ := e
  have hm : (xs.take m).length ≤ xs.length := by rw [List.length_take]; omega
  refine ⟨a, c, rfl, by omega, by omega, ?_⟩
  rcases h4 with rfl | ⟨g, o, L, e, hS, hg, hr, hL, hc, hp⟩
  · left; simp
  · right
    refine ⟨g, o, L.take m, e, hS, hg, fun j v hj => hr j v ?_, by rw [List.length_take, List.length_take, hL], fun c hcc => hc c (List.mem_of_mem_take hcc), fun j x c hx hcj => ?_⟩
    · have : L.flatten = (L.take m).flatten ++ (L.drop m).flatten := by rw [← List.flatten_append, List.take_append_drop]
      rw [this, List.getElem?_append_left (List.getElem?_eq_some_iff.1 hj).1]
      exact hj
    · rw [List.getElem?_take] at hx hcj
      split at hx
      · rw [if_pos (by assumption)] at hcj
        exact hp j x c hx hcj
      · cases hx
set_option maxHeartbeats 8000000 in
theorem partsText_any {T : Nat → Prop} (f : Fl) (vk va : Value) (w : World) (ha : LsIn T w va f.any) (hl : (partsT f).length ≤ 1099511627776) :
    Calls Tryz.prog 97 #[.agg (flV f vk va).toArray] w fun e w' => e = .returned (.string (sb (partsT f))) ∧ Fr No w w' := by
  have hle : (escF f.first).length + 1 + (anyT f.any).length + (escF f.last).length ≤ 1099511627776 := by unfold partsT at hl; simp at hl; omega
  have HL := hid hle
  have H1 := hid (escaped_any f.first (by have := escF_ge f.first; omega))
  have H2 := hid (escaped_any f.last (by have := escF_ge f.last; omega))
  have HX := hid (fun w' (hf : Fr No w w') => textsS_any va f.any w' (LsIn.fr (D := No) ha hf (fun _ _ _ e => e)) (fun x hx => by have := anyT_ge _ x hx; omega) (by omega))
  obtain ⟨aa, ac, rfl, -, -⟩ := ha.form
  clear ha hl hle
  go_enter Tryz.func97, Tryz.ntmps97
  go_wp2_with (first
    | ((with_reducible refine K.atO (.box 46 _) ?_); refine wpL_box rfl _ _ rfl _ rfl (flV f vk (.slice aa f.any.length ac)) rfl ?_; intro w1 HB1 HF1 HS1; refine Hid.out ?_)
    | fail)
  obtain ⟨q, hq⟩ : ∃ q, w.heap.size = q := ⟨_, rfl⟩
  rw [hq] at HB1 ⊢
  have c5 : w1.cell? ⟨q, 5, none⟩ = some (.slice aa f.any.length ac) := HB1.out.cell 5
  clear hq HS1
  refine hid ?_
  go_wp2_with fail
  refine (HX.out w1 HF1.out).mono ?_
  rintro e w2 ⟨rfl, f2⟩
  have HB2 := hid (HB1.out.fr f2 id)
  have HF2 := hid (HF1.out.trans' f2)
  have k4 : w2.cell? ⟨q, 4, none⟩ = some (.string (sb f.first)) := HB2.out.cell 4
  have k6 : w2.cell? ⟨q, 6, none⟩ = some (.string (sb f.last)) := HB2.out.cell 6
  clear f2 c5 HB1
  go_wp2_with fail
  have hold : Facts.hold [(1, fun w' => w'.cell? ⟨q, 4, none⟩ = some (.string (sb f.first))), (7, fun w' => w'.cell? ⟨q, 6, none⟩ = some (.string (sb f.last)))] w2.drew := Facts.cons_hold k4 (Facts.cons_hold k6 (Facts.nil_hold _))
  refine wpD_region hold (by kernel_rfl) 11 rfl ?_
  (refine wpD_plain 0 (v := ?_) rfl (by kernel_rfl) (by kernel_rfl) (by kernel_rfl) (fun _ _ _ h => h) (by rfl) ?_ (by assumption) ?_; rotate_left; (intro _w; go_simp; try with_reducible rfl); simp only [Act.put, K.put3])
  (refine wpD_take 1 _ rfl (by kernel_rfl) (by kernel_rfl) (by kernel_rfl) (fun _ _ _ h => h) List.mem_cons_self (by rfl) (v := ?_) ?_ (by assumption) ?_; rotate_left; (intro _w _hw; go_simp; try with_reducible rfl); simp only [Act.put, K.put3])
  (refine wpD_plain 4 (v := ?_) rfl (by kernel_rfl) (by kernel_rfl) (by kernel_rfl) (fun _ _ _ h => h) (by rfl) ?_ (by assumption) ?_; rotate_left; (intro _w; go_simp; try with_reducible rfl); simp only [Act.put, K.put3])
  (refine wpD_plain 6 (v := ?_) rfl (by kernel_rfl) (by kernel_rfl) (by kernel_rfl) (fun _ _ _ h => h) (by rfl) ?_ (by assumption) ?_; rotate_left; (intro _w; go_simp; try with_reducible rfl); simp only [Act.put, K.put3])
  (refine wpD_take 7 _ rfl (by kernel_rfl) (by kernel_rfl) (by kernel_rfl) (fun _ _ _ h => h) (List.mem_cons_of_mem _ List.mem_cons_self) (by rfl) (v := ?_) ?_ (by assumption) ?_; rotate_left; (intro _w _hw; go_simp; try with_reducible rfl); simp only [Act.put, K.put3])
  clear hold
  refine wpD_only 2 [(7, fun w' => w'.cell? ⟨q, 6, none⟩ = some (.string (sb f.last)))] rfl (by kernel_rfl) (by kernel_rfl) (by rfl) (fun K2 hK2 => ?_)
  refine wp_call _ _ _ rfl 96 [] rfl (fun vs w => by kernel_rfl) [.string (sb f.first)] (by rfl) ?_
  refine (H1.out w2.drew).mono ?_
  rintro e w3 ⟨rfl, f3⟩
  have k63 : w3.cell? ⟨q, 6, none⟩ = some (.string (sb f.last)) := f3.cell (show w2.drew.cell? _ = _ from k6) id
  have HF3 := hid (HF2.out.trans' ((Fr.refl No w2).drew.trans' f3))
  refine ⟨_, rfl, hK2 _ _ (Facts.cons_hold k63 (Facts.nil_hold _)) ?_⟩
  clear hK2 K2 f3 k4 k6
  simp only [Act.put, K.put3]
  have hold : Facts.hold [(7, fun w' => w'.cell? ⟨q, 6, none⟩ = some (.string (sb f.last)))] w3 := Facts.cons_hold k63 (Facts.nil_hold _)
  (refine wpD_plain 3 (v := (.string (sb (escF f.first ++ [42])))) rfl (by kernel_rfl) (by kernel_rfl) (by kernel_rfl) (fun _ _ _ h => h) (by rfl) ?_ (by assumption) ?_; (intro _w; exact exec_addS _ _ _ rfl (escF f.first) [42] rfl rfl (by have := HL.out; simp; omega) _ rfl _w); simp only [Act.put, K.put3])
  (refine wpD_plain 5 (v := (.string (sb (escF f.first ++ [42] ++ anyT f.any)))) rfl (by kernel_rfl) (by kernel_rfl) (by kernel_rfl) (fun _ _ _ h => h) (by rfl) ?_ (by assumption) ?_; (intro _w; exact exec_addS _ _ _ rfl (escF f.first ++ [42]) (anyT f.any) rfl rfl (by have := HL.out; simp; omega) _ rfl _w); simp only [Act.put, K.put3])
  clear hold
  refine wpD_only 8 [] rfl (by kernel_rfl) (by kernel_rfl) (by rfl) (fun K8 hK8 => ?_)
  refine wp_call _ _ _ rfl 96 [] rfl (fun vs w => by kernel_rfl) [.string (sb f.last)] (by rfl) ?_
  refine (H2.out w3).mono ?_
  rintro e w4 ⟨rfl, f4⟩
  have HF4 := hid (HF3.out.trans' f4)
  refine ⟨_, rfl, hK8 _ _ (Facts.nil_hold _) ?_⟩
  clear hK8 K8 f4 k63
  simp only [Act.put, K.put3]
  have hold : Facts.hold [] w4 := Facts.nil_hold _
  (refine wpD_plain 9 (v := (.string (sb (partsT f)))) rfl (by kernel_rfl) (by kernel_rfl) (by kernel_rfl) (fun _ _ _ h => h) (by rfl) ?_ (by assumption) ?_; (intro _w; exact exec_addS _ _ _ rfl (escF f.first ++ [42] ++ anyT f.any) (escF f.last) rfl rfl (by have := HL.out; simp; omega) _ rfl _w); simp only [Act.put, K.put3])
  (refine wpD_plain 10 (v := ?_) rfl (by kernel_rfl) (by kernel_rfl) (by kernel_rfl) (fun _ _ _ h => h) (by rfl) ?_ (by assumption) ?_; rotate_left; (intro _w; go_simp; try with_reducible rfl); simp only [Act.put, K.put3])
  clear hold
  refine wpD_done (by kernel_rfl) ?_ _
  go_wp2_with fail
  go_ret
  exact ⟨rfl, HF4.out⟩
theorem infoPr : (Tryz.prog.info? 118).map (·.size) = some 1 := by kernel_rfl
set_option maxHeartbeats 16000000 in
theorem pr3 {T : Nat → Prop} {M : Nat} (d : Nat) (f : Fl) (cs : List Value) (w : World) (hf : FlC M T w f cs) (hd : d ≤ 50) (hlen : (prF (d + 1) f).length ≤ 1099511627776) (hk : f.kind = 3) :
    Calls Tryz.prog 58 #[.agg #[.int .i64 ((d + 1 : Nat) : Int)], .agg cs.toArray] w fun e w' => e = .returned (.string (sb (prF (d + 1) f))) ∧ Fr No w w' := by
  have HFL := hid hf
  obtain ⟨ka, kc, aa, ac, rfl, -, hzt, hzv⟩ := hf.form
  obtain ⟨R, hR⟩ : ∃ R, prF (d + 1) f = R := ⟨_, rfl⟩
  rw [hR] at hlen ⊢
  have hl : prF (d + 1) f = prV f.type [61] f.value := by unfold prF; simp [hk]
  have HR : Hid ([40] ++ f.type ++ [61] ++ escF f.value ++ [41] = R) := hid (by rw [← hR, hl]; rfl)
  have hb : f.type.length + (escF f.value).length + 4 ≤ 1099511627776 + 2 := by rw [← HR.out] at hlen; simp at hlen; omega
  have HL := hid hb
  have HE := hid (escaped_any f.value (by have := escF_ge f.value; omega))
  have HKK := hid hk
  have hd0 : (((d + 1 : Nat) : Int) == 0) = false := beqN (by omega)
  have hd1 : ((d + 1 : Nat) : Int) - 1 = (d : Int) := by omega
  have hd2 : ((d + 1 : Nat) : Int) ≤ 100 := by omega
  obtain ⟨dd, hdd⟩ : ∃ dd : Int, ((d + 1 : Nat) : Int) = dd := ⟨_, rfl⟩
  rw [hdd] at hd0 hd1 hd2 ⊢
  have hd3 : (0 : Int) ≤ dd := by omega
  have HDD := hid hd1
  clear hf hR hzt hzv hdd hd1 hlen hl hk hb
  go_enter Tryz.func58, Tryz.ntmps58
  go_wp2_with (first
    | ((with_reducible refine K.atO (.box 118 _) ?_); refine wpL_box rfl _ _ rfl _ rfl [.int .i64 dd] rfl ?_; intro w1 HB1 HF1 HS1)
    | ((with_reducible refine K.atO (.box 46 _) ?_); refine wpL_box rfl _ _ rfl _ rfl (flV f (.slice ka f.kids.length kc) (.slice aa f.any.length ac)) rfl ?_; intro w2 HB2 HF2 HS2; refine Hid.out ?_)
    | fail)
  obtain ⟨p, hp⟩ : ∃ p, w.heap.size = p := ⟨_, rfl⟩
  rw [hp] at HB1 ⊢
  obtain ⟨q, hq⟩ : ∃ q, w1.heap.size = q := ⟨_, rfl⟩
  rw [hq] at HB2 ⊢
  have HPQ := hid (show w.heap.size = p ∧ q = p + 1 from ⟨hp, by have := HS1.out; omega⟩)
  have HF2' : Hid (Fr No w w2) := hid (HF1.out.trans' HF2.out)
  have HBp := hid (HB1.out.fr HF2.out id)
  have cl : w2.cell? ⟨p, 0, none⟩ = some (.int .i64 dd) := HBp.out.cell 0
  clear hp hq HS1 HS2 HB1 HF1 HF2
  refine hid ?_
  go_wp2_with (first
    | ((with_reducible refine K.atO (.store 3 _ _) ?_); refine wpL_setV rfl _ _ _ rfl p 0 (.int .i64 (dd - 1)) rfl rfl rfl rfl 118 _ HBp.out (by simp) infoI1 ?_; intro w3 HB3 HF3 HS3; refine Hid.out ?_)
    | fail)
  rw [HDD.out] at HB3 ⊢
  have HB3' : Hid (Blk w3 p 118 [.int .i64 d]) := hid HB3.out
  have HF3' : Hid (Fr No w w3) := hid (HF2'.out.trans HF3.out (fun k e => .inr (by have e : k = p := e; have := HPQ.out; omega)))
  have HBq := hid (HB2.out.fr HF3.out (by show ¬ q = p; have := HPQ.out; omega))
  have HFL3 := hid (HFL.out.no HF3'.out)
  have HCP := hid (HB3'.out.range 0 [.int .i64 d] rfl)
  have HCQ := hid (HBq.out.range 0 (flV f (.slice ka f.kids.length kc) (.slice aa f.any.length ac)) rfl)
  have ck : w3.cell? ⟨q, 0, none⟩ = some (.int .i64 3) := by have := HBq.out.cell 0; rw [this]; simp [flV, HKK.out]
  have c2 : w3.cell? ⟨q, 2, none⟩ = some (.string (sb f.type)) := HBq.out.cell 2
  have c3 : w3.cell? ⟨q, 3, none⟩ = some (.string (sb f.value)) := HBq.out.cell 3
  clear HB2 HB3 HF3 HS3 HBp HFL HF2' cl
  refine hid ?_
  go_wp2_with fail
  have hold : Facts.hold [(1, fun w' => w'.cell? ⟨q, 2, none⟩ = some (.string (sb f.type))), (5, fun w' => w'.cell? ⟨q, 3, none⟩ = some (.string (sb f.value)))] w3.drew := Facts.cons_hold c2 (Facts.cons_hold c3 (Facts.nil_hold _))
  refine wpD_region hold (by kernel_rfl) 10 rfl ?_
  (refine wpD_plain 0 (v := ?_) rfl (by kernel_rfl) (by kernel_rfl) (by kernel_rfl) (fun _ _ _ h => h) (by rfl) ?_ (by assumption) ?_; rotate_left; (intro _w; go_simp; try with_reducible rfl); simp only [Act.put, K.put3])
  (refine wpD_take 1 _ rfl (by kernel_rfl) (by kernel_rfl) (by kernel_rfl) (fun _ _ _ h => h) List.mem_cons_self (by rfl) (v := ?_) ?_ (by assumption) ?_; rotate_left; (intro _w _hw; go_simp; try with_reducible rfl); simp only [Act.put, K.put3])
  (refine wpD_plain 2 (v := (.string (sb ([40] ++ f.type)))) rfl (by kernel_rfl) (by kernel_rfl) (by kernel_rfl) (fun _ _ _ h => h) (by rfl) ?_ (by assumption) ?_; (intro _w; exact exec_addS _ _ _ rfl [40] f.type rfl rfl (by have := HL.out; simp; omega) _ rfl _w); simp only [Act.put, K.put3])
  (refine wpD_plain 3 (v := (.string (sb ([40] ++ f.type ++ [61])))) rfl (by kernel_rfl) (by kernel_rfl) (by kernel_rfl) (fun _ _ _ h => h) (by rfl) ?_ (by assumption) ?_; (intro _w; exact exec_addS _ _ _ rfl ([40] ++ f.type) [61] rfl rfl (by have := HL.out; simp; omega) _ rfl _w); simp only [Act.put, K.put3])
  (refine wpD_plain 4 (v := ?_) rfl (by kernel_rfl) (by kernel_rfl) (by kernel_rfl) (fun _ _ _ h => h) (by rfl) ?_ (by assumption) ?_; rotate_left; (intro _w; go_simp; try with_reducible rfl); simp only [Act.put, K.put3])
  (refine wpD_take 5 _ rfl (by kernel_rfl) (by kernel_rfl) (by kernel_rfl) (fun _ _ _ h => h) (List.mem_cons_of_mem _ List.mem_cons_self) (by rfl) (v := ?_) ?_ (by assumption) ?_; rotate_left; (intro _w _hw; go_simp; try with_reducible rfl); simp only [Act.put, K.put3])
  clear hold
  refine wpD_only 6 [(1, fun w' => w'.cell? ⟨q, 2, none⟩ = some (.string (sb f.type)))] rfl (by kernel_rfl) (by kernel_rfl) (by rfl) (fun K6 hK6 => ?_)
  refine wp_call _ _ _ rfl 96 [] rfl (fun vs w => by kernel_rfl) [.string (sb f.value)] (by rfl) ?_
  refine (HE.out w3.drew).mono ?_
  rintro e w4 ⟨rfl, f4⟩
  have c24 : w4.cell? ⟨q, 2, none⟩ = some (.string (sb f.type)) := f4.cell (show w3.drew.cell? _ = _ from c2) id
  have HF4 := hid (HF3'.out.trans' ((Fr.refl No w3).drew.trans' f4))
  refine ⟨_, rfl, hK6 _ _ (Facts.cons_hold c24 (Facts.nil_hold _)) ?_⟩
  clear hK6 K6 f4 c2 c3
  simp only [Act.put, K.put3]
  have hold : Facts.hold [(1, fun w' => w'.cell? ⟨q, 2, none⟩ = some (.string (sb f.type)))] w4 := Facts.cons_hold c24 (Facts.nil_hold _)
  (refine wpD_plain 7 (v := (.string (sb ([40] ++ f.type ++ [61] ++ escF f.value)))) rfl (by kernel_rfl) (by kernel_rfl) (by kernel_rfl) (fun _ _ _ h => h) (by rfl) ?_ (by assumption) ?_; (intro _w; exact exec_addS _ _ _ rfl ([40] ++ f.type ++ [61]) (escF f.value) rfl rfl (by have := HL.out; simp; omega) _ rfl _w); simp only [Act.put, K.put3])
  (refine wpD_plain 8 (v := (.string (sb R))) rfl (by kernel_rfl) (by kernel_rfl) (by kernel_rfl) (fun _ _ _ h => h) (by rfl) ?_ (by assumption) ?_; (intro _w; exact exec_addS _ _ _ rfl ([40] ++ f.type ++ [61] ++ escF f.value) [41] rfl rfl (by have := HL.out; simp; omega) _ HR.out _w); simp only [Act.put, K.put3])
  (refine wpD_plain 9 (v := ?_) rfl (by kernel_rfl) (by kernel_rfl) (by kernel_rfl) (fun _ _ _ h => h) (by rfl) ?_ (by assumption) ?_; rotate_left; (intro _w; go_simp; try with_reducible rfl); simp only [Act.put, K.put3])
  clear hold
  refine wpD_done (by kernel_rfl) ?_ _
  go_wp2_with fail
  go_ret
  exact ⟨rfl, HF4.out⟩
set_option maxHeartbeats 16000000 in
theorem pr5 {T : Nat → Prop} {M : Nat} (d : Nat) (f : Fl) (cs : List Value) (w : World) (hf : FlC M T w f cs) (hd : d ≤ 50) (hlen : (prF (d + 1) f).length ≤ 1099511627776) (hk : f.kind = 5) :
    Calls Tryz.prog 58 #[.agg #[.int .i64 ((d + 1 : Nat) : Int)], .agg cs.toArray] w fun e w' => e = .returned (.string (sb (prF (d + 1) f))) ∧ Fr No w w' := by
  have HFL := hid hf
  obtain ⟨ka, kc, aa, ac, rfl, -, hzt, hzv⟩ := hf.form
  obtain ⟨R, hR⟩ : ∃ R, prF (d + 1) f = R := ⟨_, rfl⟩
  rw [hR] at hlen ⊢
  have hl : prF (d + 1) f = prV f.type [62, 61] f.value := by unfold prF; simp [hk]
  have HR : Hid ([40] ++ f.type ++ [62, 61] ++ escF f.value ++ [41] = R) := hid (by rw [← hR, hl]; rfl)
  have hb : f.type.length + (escF f.value).length + 4 ≤ 1099511627776 + 2 := by rw [← HR.out] at hlen; simp at hlen; omega
  have HL := hid hb
  have HE := hid (escaped_any f.value (by have := escF_ge f.value; omega))
  have HKK := hid hk
  have hd0 : (((d + 1 : Nat) : Int) == 0) = false := beqN (by omega)
  have hd1 : ((d + 1 : Nat) : Int) - 1 = (d : Int) := by omega
  have hd2 : ((d + 1 : Nat) : Int) ≤ 100 := by omega
  obtain ⟨dd, hdd⟩ : ∃ dd : Int, ((d + 1 : Nat) : Int) = dd := ⟨_, rfl⟩
  rw [hdd] at hd0 hd1 hd2 ⊢
  have hd3 : (0 : Int) ≤ dd := by omega
  have HDD := hid hd1
  clear hf hR hzt hzv hdd hd1 hlen hl hk hb
  go_enter Tryz.func58, Tryz.ntmps58
  go_wp2_with (first
    | ((with_reducible refine K.atO (.box 118 _) ?_); refine wpL_box rfl _ _ rfl _ rfl [.int .i64 dd] rfl ?_; intro w1 HB1 HF1 HS1)
    | ((with_reducible refine K.atO (.box 46 _) ?_); refine wpL_box rfl _ _ rfl _ rfl (flV f (.slice ka f.kids.length kc) (.slice aa f.any.length ac)) rfl ?_; intro w2 HB2 HF2 HS2; refine Hid.out ?_)
    | fail)
  obtain ⟨p, hp⟩ : ∃ p, w.heap.size = p := ⟨_, rfl⟩
  rw [hp] at HB1 ⊢
  obtain ⟨q, hq⟩ : ∃ q, w1.heap.size = q := ⟨_, rfl⟩
  rw [hq] at HB2 ⊢
  have HPQ := hid (show w.heap.size = p ∧ q = p + 1 from ⟨hp, by have := HS1.out; omega⟩)
  have HF2' : Hid (Fr No w w2) := hid (HF1.out.trans' HF2.out)
  have HBp := hid (HB1.out.fr HF2.out id)
  have cl : w2.cell? ⟨p, 0, none⟩ = some (.int .i64 dd) := HBp.out.cell 0
  clear hp hq HS1 HS2 HB1 HF1 HF2
  refine hid ?_
  go_wp2_with (first
    | ((with_reducible refine K.atO (.store 3 _ _) ?_); refine wpL_setV rfl _ _ _ rfl p 0 (.int .i64 (dd - 1)) rfl rfl rfl rfl 118 _ HBp.out (by simp) infoI1 ?_; intro w3 HB3 HF3 HS3; refine Hid.out ?_)
    | fail)
  rw [HDD.out] at HB3 ⊢
  have HB3' : Hid (Blk w3 p 118 [.int .i64 d]) := hid HB3.out
  have HF3' : Hid (Fr No w w3) := hid (HF2'.out.trans HF3.out (fun k e => .inr (by have e : k = p := e; have := HPQ.out; omega)))
  have HBq := hid (HB2.out.fr HF3.out (by show ¬ q = p; have := HPQ.out; omega))
  have HFL3 := hid (HFL.out.no HF3'.out)
  have HCP := hid (HB3'.out.range 0 [.int .i64 d] rfl)
  have HCQ := hid (HBq.out.range 0 (flV f (.slice ka f.kids.length kc) (.slice aa f.any.length ac)) rfl)
  have ck : w3.cell? ⟨q, 0, none⟩ = some (.int .i64 5) := by have := HBq.out.cell 0; rw [this]; simp [flV, HKK.out]
  have c2 : w3.cell? ⟨q, 2, none⟩ = some (.string (sb f.type)) := HBq.out.cell 2
  have c3 : w3.cell? ⟨q, 3, none⟩ = some (.string (sb f.value)) := HBq.out.cell 3
  clear HB2 HB3 HF3 HS3 HBp HFL HF2' cl
  refine hid ?_
  go_wp2_with fail
  have hold : Facts.hold [(1, fun w' => w'.cell? ⟨q, 2, none⟩ = some (.string (sb f.type))), (5, fun w' => w'.cell? ⟨q, 3, none⟩ = some (.string (sb f.value)))] w3.drew := Facts.cons_hold c2 (Facts.cons_hold c3 (Facts.nil_hold _))
  refine wpD_region hold (by kernel_rfl) 10 rfl ?_
  (refine wpD_plain 0 (v := ?_) rfl (by kernel_rfl) (by kernel_rfl) (by kernel_rfl) (fun _ _ _ h => h) (by rfl) ?_ (by assumption) ?_; rotate_left; (intro _w; go_simp; try with_reducible rfl); simp only [Act.put, K.put3])
  (refine wpD_take 1 _ rfl (by kernel_rfl) (by kernel_rfl) (by kernel_rfl) (fun _ _ _ h => h) List.mem_cons_self (by rfl) (v := ?_) ?_ (by assumption) ?_; rotate_left; (intro _w _hw; go_simp; try with_reducible rfl); simp only [Act.put, K.put3])
  (refine wpD_plain 2 (v := (.string (sb ([40] ++ f.type)))) rfl (by kernel_rfl) (by kernel_rfl) (by kernel_rfl) (fun _ _ _ h => h) (by rfl) ?_ (by assumption) ?_; (intro _w; exact exec_addS _ _ _ rfl [40] f.type rfl rfl (by have := HL.out; simp; omega) _ rfl _w); simp only [Act.put, K.put3])
  (refine wpD_plain 3 (v := (.string (sb ([40] ++ f.type ++ [62, 61])))) rfl (by kernel_rfl) (by kernel_rfl) (by kernel_rfl) (fun _ _ _ h => h) (by rfl) ?_ (by assumption) ?_; (intro _w; exact exec_addS _ _ _ rfl ([40] ++ f.type) [62, 61] rfl rfl (by have := HL.out; simp; omega) _ rfl _w); simp only [Act.put, K.put3])
  (refine wpD_plain 4 (v := ?_) rfl (by kernel_rfl) (by kernel_rfl) (by kernel_rfl) (fun _ _ _ h => h) (by rfl) ?_ (by assumption) ?_; rotate_left; (intro _w; go_simp; try with_reducible rfl); simp only [Act.put, K.put3])
  (refine wpD_take 5 _ rfl (by kernel_rfl) (by kernel_rfl) (by kernel_rfl) (fun _ _ _ h => h) (List.mem_cons_of_mem _ List.mem_cons_self) (by rfl) (v := ?_) ?_ (by assumption) ?_; rotate_left; (intro _w _hw; go_simp; try with_reducible rfl); simp only [Act.put, K.put3])
  clear hold
  refine wpD_only 6 [(1, fun w' => w'.cell? ⟨q, 2, none⟩ = some (.string (sb f.type)))] rfl (by kernel_rfl) (by kernel_rfl) (by rfl) (fun K6 hK6 => ?_)
  refine wp_call _ _ _ rfl 96 [] rfl (fun vs w => by kernel_rfl) [.string (sb f.value)] (by rfl) ?_
  refine (HE.out w3.drew).mono ?_
  rintro e w4 ⟨rfl, f4⟩
  have c24 : w4.cell? ⟨q, 2, none⟩ = some (.string (sb f.type)) := f4.cell (show w3.drew.cell? _ = _ from c2) id
  have HF4 := hid (HF3'.out.trans' ((Fr.refl No w3).drew.trans' f4))
  refine ⟨_, rfl, hK6 _ _ (Facts.cons_hold c24 (Facts.nil_hold _)) ?_⟩
  clear hK6 K6 f4 c2 c3
  simp only [Act.put, K.put3]
  have hold : Facts.hold [(1, fun w' => w'.cell? ⟨q, 2, none⟩ = some (.string (sb f.type)))] w4 := Facts.cons_hold c24 (Facts.nil_hold _)
  (refine wpD_plain 7 (v := (.string (sb ([40] ++ f.type ++ [62, 61] ++ escF f.value)))) rfl (by kernel_rfl) (by kernel_rfl) (by kernel_rfl) (fun _ _ _ h => h) (by rfl) ?_ (by assumption) ?_; (intro _w; exact exec_addS _ _ _ rfl ([40] ++ f.type ++ [62, 61]) (escF f.value) rfl rfl (by have := HL.out; simp; omega) _ rfl _w); simp only [Act.put, K.put3])
  (refine wpD_plain 8 (v := (.string (sb R))) rfl (by kernel_rfl) (by kernel_rfl) (by kernel_rfl) (fun _ _ _ h => h) (by rfl) ?_ (by assumption) ?_; (intro _w; exact exec_addS _ _ _ rfl ([40] ++ f.type ++ [62, 61] ++ escF f.value) [41] rfl rfl (by have := HL.out; simp; omega) _ HR.out _w); simp only [Act.put, K.put3])
  (refine wpD_plain 9 (v := ?_) rfl (by kernel_rfl) (by kernel_rfl) (by kernel_rfl) (fun _ _ _ h => h) (by rfl) ?_ (by assumption) ?_; rotate_left; (intro _w; go_simp; try with_reducible rfl); simp only [Act.put, K.put3])
  clear hold
  refine wpD_done (by kernel_rfl) ?_ _
  go_wp2_with fail
  go_ret
  exact ⟨rfl, HF4.out⟩
set_option maxHeartbeats 16000000 in
theorem pr6 {T : Nat → Prop} {M : Nat} (d : Nat) (f : Fl) (cs : List Value) (w : World) (hf : FlC M T w f cs) (hd : d ≤ 50) (hlen : (prF (d + 1) f).length ≤ 1099511627776) (hk : f.kind = 6) :
    Calls Tryz.prog 58 #[.agg #[.int .i64 ((d + 1 : Nat) : Int)], .agg cs.toArray] w fun e w' => e = .returned (.string (sb (prF (d + 1) f))) ∧ Fr No w w' := by
  have HFL := hid hf
  obtain ⟨ka, kc, aa, ac, rfl, -, hzt, hzv⟩ := hf.form
  obtain ⟨R, hR⟩ : ∃ R, prF (d + 1) f = R := ⟨_, rfl⟩
  rw [hR] at hlen ⊢
  have hl : prF (d + 1) f = prV f.type [60, 61] f.value := by unfold prF; simp [hk]
  have HR : Hid ([40] ++ f.type ++ [60, 61] ++ escF f.value ++ [41] = R) := hid (by rw [← hR, hl]; rfl)
  have hb : f.type.length + (escF f.value).length + 4 ≤ 1099511627776 + 2 := by rw [← HR.out] at hlen; simp at hlen; omega
  have HL := hid hb
  have HE := hid (escaped_any f.value (by have := escF_ge f.value; omega))
  have HKK := hid hk
  have hd0 : (((d + 1 : Nat) : Int) == 0) = false := beqN (by omega)
  have hd1 : ((d + 1 : Nat) : Int) - 1 = (d : Int) := by omega
  have hd2 : ((d + 1 : Nat) : Int) ≤ 100 := by omega
  obtain ⟨dd, hdd⟩ : ∃ dd : Int, ((d + 1 : Nat) : Int) = dd := ⟨_, rfl⟩
  rw [hdd] at hd0 hd1 hd2 ⊢
  have hd3 : (0 : Int) ≤ dd := by omega
  have HDD := hid hd1
  clear hf hR hzt hzv hdd hd1 hlen hl hk hb
  go_enter Tryz.func58, Tryz.ntmps58
  go_wp2_with (first
    | ((with_reducible refine K.atO (.box 118 _) ?_); refine wpL_box rfl _ _ rfl _ rfl [.int .i64 dd] rfl ?_; intro w1 HB1 HF1 HS1)
    | ((with_reducible refine K.atO (.box 46 _) ?_); refine wpL_box rfl _ _ rfl _ rfl (flV f (.slice ka f.kids.length kc) (.slice aa f.any.length ac)) rfl ?_; intro w2 HB2 HF2 HS2; refine Hid.out ?_)
    | fail)
  obtain ⟨p, hp⟩ : ∃ p, w.heap.size = p := ⟨_, rfl⟩
  rw [hp] at HB1 ⊢
  obtain ⟨q, hq⟩ : ∃ q, w1.heap.size = q := ⟨_, rfl⟩
  rw [hq] at HB2 ⊢
  have HPQ := hid (show w.heap.size = p ∧ q = p + 1 from ⟨hp, by have := HS1.out; omega⟩)
  have HF2' : Hid (Fr No w w2) := hid (HF1.out.trans' HF2.out)
  have HBp := hid (HB1.out.fr HF2.out id)
  have cl : w2.cell? ⟨p, 0, none⟩ = some (.int .i64 dd) := HBp.out.cell 0
  clear hp hq HS1 HS2 HB1 HF1 HF2
  refine hid ?_
  go_wp2_with (first
    | ((with_reducible refine K.atO (.store 3 _ _) ?_); refine wpL_setV rfl _ _ _ rfl p 0 (.int .i64 (dd - 1)) rfl rfl rfl rfl 118 _ HBp.out (by simp) infoI1 ?_; intro w3 HB3 HF3 HS3; refine Hid.out ?_)
    | fail)
  rw [HDD.out] at HB3 ⊢
  have HB3' : Hid (Blk w3 p 118 [.int .i64 d]) := hid HB3.out
  have HF3' : Hid (Fr No w w3) := hid (HF2'.out.trans HF3.out (fun k e => .inr (by have e : k = p := e; have := HPQ.out; omega)))
  have HBq := hid (HB2.out.fr HF3.out (by show ¬ q = p; have := HPQ.out; omega))
  have HFL3 := hid (HFL.out.no HF3'.out)
  have HCP := hid (HB3'.out.range 0 [.int .i64 d] rfl)
  have HCQ := hid (HBq.out.range 0 (flV f (.slice ka f.kids.length kc) (.slice aa f.any.length ac)) rfl)
  have ck : w3.cell? ⟨q, 0, none⟩ = some (.int .i64 6) := by have := HBq.out.cell 0; rw [this]; simp [flV, HKK.out]
  have c2 : w3.cell? ⟨q, 2, none⟩ = some (.string (sb f.type)) := HBq.out.cell 2
  have c3 : w3.cell? ⟨q, 3, none⟩ = some (.string (sb f.value)) := HBq.out.cell 3
  clear HB2 HB3 HF3 HS3 HBp HFL HF2' cl
  refine hid ?_
  go_wp2_with fail
  have hold : Facts.hold [(1, fun w' => w'.cell? ⟨q, 2, none⟩ = some (.string (sb f.type))), (5, fun w' => w'.cell? ⟨q, 3, none⟩ = some (.string (sb f.value)))] w3.drew := Facts.cons_hold c2 (Facts.cons_hold c3 (Facts.nil_hold _))
  refine wpD_region hold (by kernel_rfl) 10 rfl ?_
  (refine wpD_plain 0 (v := ?_) rfl (by kernel_rfl) (by kernel_rfl) (by kernel_rfl) (fun _ _ _ h => h) (by rfl) ?_ (by assumption) ?_; rotate_left; (intro _w; go_simp; try with_reducible rfl); simp only [Act.put, K.put3])
  (refine wpD_take 1 _ rfl (by kernel_rfl) (by kernel_rfl) (by kernel_rfl) (fun _ _ _ h => h) List.mem_cons_self (by rfl) (v := ?_) ?_ (by assumption) ?_; rotate_left; (intro _w _hw; go_simp; try with_reducible rfl); simp only [Act.put, K.put3])
  (refine wpD_plain 2 (v := (.string (sb ([40] ++ f.type)))) rfl (by kernel_rfl) (by kernel_rfl) (by kernel_rfl) (fun _ _ _ h => h) (by rfl) ?_ (by assumption) ?_; (intro _w; exact exec_addS _ _ _ rfl [40] f.type rfl rfl (by have := HL.out; simp; omega) _ rfl _w); simp only [Act.put, K.put3])
  (refine wpD_plain 3 (v := (.string (sb ([40] ++ f.type ++ [60, 61])))) rfl (by kernel_rfl) (by kernel_rfl) (by kernel_rfl) (fun _ _ _ h => h) (by rfl) ?_ (by assumption) ?_; (intro _w; exact exec_addS _ _ _ rfl ([40] ++ f.type) [60, 61] rfl rfl (by have := HL.out; simp; omega) _ rfl _w); simp only [Act.put, K.put3])
  (refine wpD_plain 4 (v := ?_) rfl (by kernel_rfl) (by kernel_rfl) (by kernel_rfl) (fun _ _ _ h => h) (by rfl) ?_ (by assumption) ?_; rotate_left; (intro _w; go_simp; try with_reducible rfl); simp only [Act.put, K.put3])
  (refine wpD_take 5 _ rfl (by kernel_rfl) (by kernel_rfl) (by kernel_rfl) (fun _ _ _ h => h) (List.mem_cons_of_mem _ List.mem_cons_self) (by rfl) (v := ?_) ?_ (by assumption) ?_; rotate_left; (intro _w _hw; go_simp; try with_reducible rfl); simp only [Act.put, K.put3])
  clear hold
  refine wpD_only 6 [(1, fun w' => w'.cell? ⟨q, 2, none⟩ = some (.string (sb f.type)))] rfl (by kernel_rfl) (by kernel_rfl) (by rfl) (fun K6 hK6 => ?_)
  refine wp_call _ _ _ rfl 96 [] rfl (fun vs w => by kernel_rfl) [.string (sb f.value)] (by rfl) ?_
  refine (HE.out w3.drew).mono ?_
  rintro e w4 ⟨rfl, f4⟩
  have c24 : w4.cell? ⟨q, 2, none⟩ = some (.string (sb f.type)) := f4.cell (show w3.drew.cell? _ = _ from c2) id
  have HF4 := hid (HF3'.out.trans' ((Fr.refl No w3).drew.trans' f4))
  refine ⟨_, rfl, hK6 _ _ (Facts.cons_hold c24 (Facts.nil_hold _)) ?_⟩
  clear hK6 K6 f4 c2 c3
  simp only [Act.put, K.put3]
  have hold : Facts.hold [(1, fun w' => w'.cell? ⟨q, 2, none⟩ = some (.string (sb f.type)))] w4 := Facts.cons_hold c24 (Facts.nil_hold _)
  (refine wpD_plain 7 (v := (.string (sb ([40] ++ f.type ++ [60, 61] ++ escF f.value)))) rfl (by kernel_rfl) (by kernel_rfl) (by kernel_rfl) (fun _ _ _ h => h) (by rfl) ?_ (by assumption) ?_; (intro _w; exact exec_addS _ _ _ rfl ([40] ++ f.type ++ [60, 61]) (escF f.value) rfl rfl (by have := HL.out; simp; omega) _ rfl _w); simp only [Act.put, K.put3])
  (refine wpD_plain 8 (v := (.string (sb R))) rfl (by kernel_rfl) (by kernel_rfl) (by kernel_rfl) (fun _ _ _ h => h) (by rfl) ?_ (by assumption) ?_; (intro _w; exact exec_addS _ _ _ rfl ([40] ++ f.type ++ [60, 61] ++ escF f.value) [41] rfl rfl (by have := HL.out; simp; omega) _ HR.out _w); simp only [Act.put, K.put3])
  (refine wpD_plain 9 (v := ?_) rfl (by kernel_rfl) (by kernel_rfl) (by kernel_rfl) (fun _ _ _ h => h) (by rfl) ?_ (by assumption) ?_; rotate_left; (intro _w; go_simp; try with_reducible rfl); simp only [Act.put, K.put3])
  clear hold
  refine wpD_done (by kernel_rfl) ?_ _
  go_wp2_with fail
  go_ret
  exact ⟨rfl, HF4.out⟩
set_option maxHeartbeats 16000000 in
theorem pr7 {T : Nat → Prop} {M : Nat} (d : Nat) (f : Fl) (cs : List Value) (w : World) (hf : FlC M T w f cs) (hd : d ≤ 50) (hlen : (prF (d + 1) f).length ≤ 1099511627776) (hk : f.kind = 7) :
    Calls Tryz.prog 58 #[.agg #[.int .i64 ((d + 1 : Nat) : Int)], .agg cs.toArray] w fun e w' => e = .returned (.string (sb (prF (d + 1) f))) ∧ Fr No w w' := by
  have HFL := hid hf
  obtain ⟨ka, kc, aa, ac, rfl, -, hzt, hzv⟩ := hf.form
  obtain ⟨R, hR⟩ : ∃ R, prF (d + 1) f = R := ⟨_, rfl⟩
  rw [hR] at hlen ⊢
  have hl : prF (d + 1) f = [40] ++ f.type ++ [61, 42, 41] := by unfold prF; simp [hk]
  have HR : Hid ([40] ++ f.type ++ [61, 42, 41] = R) := hid (by rw [← hR, hl])
  have HL := hid hzt
  have HKK := hid hk
  have hd0 : (((d + 1 : Nat) : Int) == 0) = false := beqN (by omega)
  have hd1 : ((d + 1 : Nat) : Int) - 1 = (d : Int) := by omega
  have hd2 : ((d + 1 : Nat) : Int) ≤ 100 := by omega
  obtain ⟨dd, hdd⟩ : ∃ dd : Int, ((d + 1 : Nat) : Int) = dd := ⟨_, rfl⟩
  rw [hdd] at hd0 hd1 hd2 ⊢
  have hd3 : (0 : Int) ≤ dd := by omega
  have HDD := hid hd1
  clear hf hR hzt hzv hdd hd1 hlen hl hk
  go_enter Tryz.func58, Tryz.ntmps58
  go_wp2_with (first
    | ((with_reducible refine K.atO (.box 118 _) ?_); refine wpL_box rfl _ _ rfl _ rfl [.int .i64 dd] rfl ?_; intro w1 HB1 HF1 HS1)
    | ((with_reducible refine K.atO (.box 46 _) ?_); refine wpL_box rfl _ _ rfl _ rfl (flV f (.slice ka f.kids.length kc) (.slice aa f.any.length ac)) rfl ?_; intro w2 HB2 HF2 HS2; refine Hid.out ?_)
    | fail)
  obtain ⟨p, hp⟩ : ∃ p, w.heap.size = p := ⟨_, rfl⟩
  rw [hp] at HB1 ⊢
  obtain ⟨q, hq⟩ : ∃ q, w1.heap.size = q := ⟨_, rfl⟩
  rw [hq] at HB2 ⊢
  have HPQ := hid (show w.heap.size = p ∧ q = p + 1 from ⟨hp, by have := HS1.out; omega⟩)
  have HF2' : Hid (Fr No w w2) := hid (HF1.out.trans' HF2.out)
  have HBp := hid (HB1.out.fr HF2.out id)
  have cl : w2.cell? ⟨p, 0, none⟩ = some (.int .i64 dd) := HBp.out.cell 0
  clear hp hq HS1 HS2 HB1 HF1 HF2
  refine hid ?_
  go_wp2_with (first
    | ((with_reducible refine K.atO (.store 3 _ _) ?_); refine wpL_setV rfl _ _ _ rfl p 0 (.int .i64 (dd - 1)) rfl rfl rfl rfl 118 _ HBp.out (by simp) infoI1 ?_; intro w3 HB3 HF3 HS3; refine Hid.out ?_)
    | fail)
  rw [HDD.out] at HB3 ⊢
  have HB3' : Hid (Blk w3 p 118 [.int .i64 d]) := hid HB3.out
  have HF3' : Hid (Fr No w w3) := hid (HF2'.out.trans HF3.out (fun k e => .inr (by have e : k = p := e; have := HPQ.out; omega)))
  have HBq := hid (HB2.out.fr HF3.out (by show ¬ q = p; have := HPQ.out; omega))
  have HFL3 := hid (HFL.out.no HF3'.out)
  have HCP := hid (HB3'.out.range 0 [.int .i64 d] rfl)
  have HCQ := hid (HBq.out.range 0 (flV f (.slice ka f.kids.length kc) (.slice aa f.any.length ac)) rfl)
  have ck : w3.cell? ⟨q, 0, none⟩ = some (.int .i64 7) := by have := HBq.out.cell 0; rw [this]; simp [flV, HKK.out]
  have c2 : w3.cell? ⟨q, 2, none⟩ = some (.string (sb f.type)) := HBq.out.cell 2
  clear HB2 HB3 HF3 HS3 HBp HFL HF2' cl
  refine hid ?_
  go_wp2_with (first
    | ((with_reducible refine K.atO (.binOp .add 9 _ _ _) ?_); (fail_if_success (have := HA)); refine wpL_valZ rfl (.string (sb ([40] ++ f.type))) (exec_addS _ _ _ rfl [40] f.type rfl rfl (by have := HL.out; unfold Sz at this; simp; omega) _ rfl _) ?_; have HA := hid trivial)
    | ((with_reducible refine K.atO (.binOp .add 9 _ _ _) ?_); refine wpL_valZ rfl (.string (sb R)) (exec_addS _ _ _ rfl ([40] ++ f.type) [61, 42, 41] rfl rfl (by have := HL.out; unfold Sz at this; simp; omega) _ HR.out _) ?_)
    | fail)
  go_ret
  exact ⟨rfl, HF3'.out⟩
set_option maxHeartbeats 16000000 in
theorem pr4 {T : Nat → Prop} {M : Nat} (d : Nat) (f : Fl) (cs : List Value) (w : World) (hf : FlC M T w f cs) (hd : d ≤ 50) (hlen : (prF (d + 1) f).length ≤ 1099511627776) (hk : f.kind = 4) :
    Calls Tryz.prog 58 #[.agg #[.int .i64 ((d + 1 : Nat) : Int)], .agg cs.toArray] w fun e w' => e = .returned (.string (sb (prF (d + 1) f))) ∧ Fr No w w' := by
  have HFL := hid hf
  obtain ⟨ka, kc, aa, ac, rfl, -, hzt, hzv⟩ := hf.form
  obtain ⟨R, hR⟩ : ∃ R, prF (d + 1) f = R := ⟨_, rfl⟩
  rw [hR] at hlen ⊢
  have hl : prF (d + 1) f = [40] ++ f.type ++ [61] ++ partsT f ++ [41] := by unfold prF; simp [hk]
  have HR : Hid ([40] ++ f.type ++ [61] ++ partsT f ++ [41] = R) := hid (by rw [← hR, hl])
  have hb : f.type.length + (partsT f).length + 3 ≤ 1099511627776 + 2 := by rw [← HR.out] at hlen; simp at hlen; omega
  have HL := hid hb
  have HPL : Hid ((partsT f).length ≤ 1099511627776) := hid (by rw [← HR.out] at hlen; simp at hlen; omega)
  have HKK := hid hk
  have hd0 : (((d + 1 : Nat) : Int) == 0) = false := beqN (by omega)
  have hd1 : ((d + 1 : Nat) : Int) - 1 = (d : Int) := by omega
  have hd2 : ((d + 1 : Nat) : Int) ≤ 100 := by omega
  obtain ⟨dd, hdd⟩ : ∃ dd : Int, ((d + 1 : Nat) : Int) = dd := ⟨_, rfl⟩
  rw [hdd] at hd0 hd1 hd2 ⊢
  have hd3 : (0 : Int) ≤ dd := by omega
  have HDD := hid hd1
  clear hf hR hzt hzv hdd hd1 hlen hl hk hb
  go_enter Tryz.func58, Tryz.ntmps58
  go_wp2_with (first
    | ((with_reducible refine K.atO (.box 118 _) ?_); refine wpL_box rfl _ _ rfl _ rfl [.int .i64 dd] rfl ?_; intro w1 HB1 HF1 HS1)
    | ((with_reducible refine K.atO (.box 46 _) ?_); refine wpL_box rfl _ _ rfl _ rfl (flV f (.slice ka f.kids.length kc) (.slice aa f.any.length ac)) rfl ?_; intro w2 HB2 HF2 HS2; refine Hid.out ?_)
    | fail)
  obtain ⟨p, hp⟩ : ∃ p, w.heap.size = p := ⟨_, rfl⟩
  rw [hp] at HB1 ⊢
  obtain ⟨q, hq⟩ : ∃ q, w1.heap.size = q := ⟨_, rfl⟩
  rw [hq] at HB2 ⊢
  have HPQ := hid (show w.heap.size = p ∧ q = p + 1 from ⟨hp, by have := HS1.out; omega⟩)
  have HF2' : Hid (Fr No w w2) := hid (HF1.out.trans' HF2.out)
  have HBp := hid (HB1.out.fr HF2.out id)
  have cl : w2.cell? ⟨p, 0, none⟩ = some (.int .i64 dd) := HBp.out.cell 0
  clear hp hq HS1 HS2 HB1 HF1 HF2
  refine hid ?_
  go_wp2_with (first
    | ((with_reducible refine K.atO (.store 3 _ _) ?_); refine wpL_setV rfl _ _ _ rfl p 0 (.int .i64 (dd - 1)) rfl rfl rfl rfl 118 _ HBp.out (by simp) infoI1 ?_; intro w3 HB3 HF3 HS3; refine Hid.out ?_)
    | fail)
  rw [HDD.out] at HB3 ⊢
  have HB3' : Hid (Blk w3 p 118 [.int .i64 d]) := hid HB3.out
  have HF3' : Hid (Fr No w w3) := hid (HF2'.out.trans HF3.out (fun k e => .inr (by have e : k = p := e; have := HPQ.out; omega)))
  have HBq := hid (HB2.out.fr HF3.out (by show ¬ q = p; have := HPQ.out; omega))
  have HFL3 := hid (HFL.out.no HF3'.out)
  have HCP := hid (HB3'.out.range 0 [.int .i64 d] rfl)
  have HCQ := hid (HBq.out.range 0 (flV f (.slice ka f.kids.length kc) (.slice aa f.any.length ac)) rfl)
  have ck : w3.cell? ⟨q, 0, none⟩ = some (.int .i64 4) := by have := HBq.out.cell 0; rw [this]; simp [flV, HKK.out]
  have c2 : w3.cell? ⟨q, 2, none⟩ = some (.string (sb f.type)) := HBq.out.cell 2
  clear HB2 HB3 HF3 HS3 HBp HFL HF2' cl
  refine hid ?_
  have HAN : Hid (LsIn T w3 (.slice aa f.any.length ac) f.any) := hid (by
    have h := HFL3.out
    cases M with
    | zero => exact h.elim
    | succ M =>
      obtain ⟨vk2, va2, e0, -, -, -, -, -, ha, -⟩ := h
      have e1 : va2 = .slice aa f.any.length ac := by simp [flV] at e0; exact e0.2.symm
      subst e1
      exact ha.1)
  go_wp2_with fail
  have cq : w3.rangeAt q 0 (flV f (.slice ka f.kids.length kc) (.slice aa f.any.length ac)) := HCQ.out
  have hold : Facts.hold [(1, fun w' => w'.cell? ⟨q, 2, none⟩ = some (.string (sb f.type))), (4, fun w' => w'.rangeAt q 0 (flV f (.slice ka f.kids.length kc) (.slice aa f.any.length ac)))] w3.drew := Facts.cons_hold c2 (Facts.cons_hold cq (Facts.nil_hold _))
  refine wpD_region hold (by kernel_rfl) 9 rfl ?_
  (refine wpD_plain 0 (v := ?_) rfl (by kernel_rfl) (by kernel_rfl) (by kernel_rfl) (fun _ _ _ h => h) (by rfl) ?_ (by assumption) ?_; rotate_left; (intro _w; go_simp; try with_reducible rfl); simp only [Act.put, K.put3])
  (refine wpD_take 1 _ rfl (by kernel_rfl) (by kernel_rfl) (by kernel_rfl) (fun _ _ _ h => h) List.mem_cons_self (by rfl) (v := ?_) ?_ (by assumption) ?_; rotate_left; (intro _w _hw; go_simp; try with_reducible rfl); simp only [Act.put, K.put3])
  (refine wpD_plain 2 (v := (.string (sb ([40] ++ f.type)))) rfl (by kernel_rfl) (by kernel_rfl) (by kernel_rfl) (fun _ _ _ h => h) (by rfl) ?_ (by assumption) ?_; (intro _w; exact exec_addS _ _ _ rfl [40] f.type rfl rfl (by have := HL.out; simp; omega) _ rfl _w); simp only [Act.put, K.put3])
  (refine wpD_plain 3 (v := (.string (sb ([40] ++ f.type ++ [61])))) rfl (by kernel_rfl) (by kernel_rfl) (by kernel_rfl) (fun _ _ _ h => h) (by rfl) ?_ (by assumption) ?_; (intro _w; exact exec_addS _ _ _ rfl ([40] ++ f.type) [61] rfl rfl (by have := HL.out; simp; omega) _ rfl _w); simp only [Act.put, K.put3])
  (refine wpD_take 4 _ rfl (by kernel_rfl) (by kernel_rfl) (by kernel_rfl) (fun _ _ _ h => h) (List.mem_cons_of_mem _ List.mem_cons_self) (by rfl) (exec_load _ _ rfl q 0 rfl _ _ rfl rfl infoFl) (by assumption) ?_; simp only [Act.put, K.put3])
  clear hold
  refine wpD_only 5 [(1, fun w' => w'.cell? ⟨q, 2, none⟩ = some (.string (sb f.type)))] rfl (by kernel_rfl) (by kernel_rfl) (by rfl) (fun K6 hK6 => ?_)
  refine wp_call _ _ _ rfl 97 [] rfl (fun vs w => by kernel_rfl) [.agg (flV f (.slice ka f.kids.length kc) (.slice aa f.any.length ac)).toArray] (by rfl) ?_
  refine (partsText_any f _ _ w3.drew (LsIn.fr (D := No) HAN.out ((Fr.refl No w3).drew) (fun _ _ _ e => e)) HPL.out).mono ?_
  rintro e w4 ⟨rfl, f4⟩
  have c24 : w4.cell? ⟨q, 2, none⟩ = some (.string (sb f.type)) := f4.cell (show w3.drew.cell? _ = _ from c2) id
  have HF4 := hid (HF3'.out.trans' ((Fr.refl No w3).drew.trans' f4))
  refine ⟨_, rfl, hK6 _ _ (Facts.cons_hold c24 (Facts.nil_hold _)) ?_⟩
  clear hK6 K6 f4 c2 cq
  simp only [Act.put, K.put3]
  have hold : Facts.hold [(1, fun w' => w'.cell? ⟨q, 2, none⟩ = some (.string (sb f.type)))] w4 := Facts.cons_hold c24 (Facts.nil_hold _)
  (refine wpD_plain 6 (v := (.string (sb ([40] ++ f.type ++ [61] ++ partsT f)))) rfl (by kernel_rfl) (by kernel_rfl) (by kernel_rfl) (fun _ _ _ h => h) (by rfl) ?_ (by assumption) ?_; (intro _w; exact exec_addS _ _ _ rfl ([40] ++ f.type ++ [61]) (partsT f) rfl rfl (by have := HL.out; simp; omega) _ rfl _w); simp only [Act.put, K.put3])
  (refine wpD_plain 7 (v := (.string (sb R))) rfl (by kernel_rfl) (by kernel_rfl) (by kernel_rfl) (fun _ _ _ h => h) (by rfl) ?_ (by assumption) ?_; (intro _w; exact exec_addS _ _ _ rfl ([40] ++ f.type ++ [61] ++ partsT f) [41] rfl rfl (by have := HL.out; simp; omega) _ HR.out _w); simp only [Act.put, K.put3])
  (refine wpD_plain 8 (v := ?_) rfl (by kernel_rfl) (by kernel_rfl) (by kernel_rfl) (fun _ _ _ h => h) (by rfl) ?_ (by assumption) ?_; rotate_left; (intro _w; go_simp; try with_reducible rfl); simp only [Act.put, K.put3])
  clear hold
  refine wpD_done (by kernel_rfl) ?_ _
  go_wp2_with fail
  go_ret
  exact ⟨rfl, HF4.out⟩
set_option maxHeartbeats 16000000 in
theorem prN {T : Nat → Prop} {M : Nat} (d : Nat) (f : Fl) (cs : List Value) (w : World) (hf : FlC M T w f cs) (hd : d ≤ 50) (hlen : (prF (d + 1) f).length ≤ 1099511627776) (hk : ∀ k, 0 ≤ k → k ≤ 7 → f.kind ≠ k) :
    Calls Tryz.prog 58 #[.agg #[.int .i64 ((d + 1 : Nat) : Int)], .agg cs.toArray] w fun e w' => e = .returned (.string (sb (prF (d + 1) f))) ∧ Fr No w w' := by
  have HFL := hid hf
  obtain ⟨ka, kc, aa, ac, rfl, -, hzt, hzv⟩ := hf.form
  obtain ⟨R, hR⟩ : ∃ R, prF (d + 1) f = R := ⟨_, rfl⟩
  rw [hR] at hlen ⊢
  have hl : prF (d + 1) f = prQ := by unfold prF; simp [hk 0 (by decide) (by decide), hk 1 (by decide) (by decide), hk 2 (by decide) (by decide), hk 3 (by decide) (by decide), hk 4 (by decide) (by decide), hk 5 (by decide) (by decide), hk 6 (by decide) (by decide), hk 7 (by decide) (by decide)]
  have HR : Hid (prQ = R) := hid (by rw [← hR, hl])
  have e0 := beqN (hk 0 (by decide) (by decide))
  have e1 := beqN (hk 1 (by decide) (by decide))
  have e2 := beqN (hk 2 (by decide) (by decide))
  have e3 := beqN (hk 3 (by decide) (by decide))
  have e4 := beqN (hk 4 (by decide) (by decide))
  have e5 := beqN (hk 5 (by decide) (by decide))
  have e6 := beqN (hk 6 (by decide) (by decide))
  have e7 := beqN (hk 7 (by decide) (by decide))
  obtain ⟨kk, hkk⟩ : ∃ kk, f.kind = kk := ⟨_, rfl⟩
  rw [hkk] at e0 e1 e2 e3 e4 e5 e6 e7
  have HKK := hid hkk
  have hd0 : (((d + 1 : Nat) : Int) == 0) = false := beqN (by omega)
  have hd1 : ((d + 1 : Nat) : Int) - 1 = (d : Int) := by omega
  have hd2 : ((d + 1 : Nat) : Int) ≤ 100 := by omega
  obtain ⟨dd, hdd⟩ : ∃ dd : Int, ((d + 1 : Nat) : Int) = dd := ⟨_, rfl⟩
  rw [hdd] at hd0 hd1 hd2 ⊢
  have hd3 : (0 : Int) ≤ dd := by omega
  have HDD := hid hd1
  clear hf hR hzt hzv hdd hd1 hlen hl hk hkk
  go_enter Tryz.func58, Tryz.ntmps58
  go_wp2_with (first
    | ((with_reducible refine K.atO (.box 118 _) ?_); refine wpL_box rfl _ _ rfl _ rfl [.int .i64 dd] rfl ?_; intro w1 HB1 HF1 HS1)
    | ((with_reducible refine K.atO (.box 46 _) ?_); refine wpL_box rfl _ _ rfl _ rfl (flV f (.slice ka f.kids.length kc) (.slice aa f.any.length ac)) rfl ?_; intro w2 HB2 HF2 HS2; refine Hid.out ?_)
    | fail)
  obtain ⟨p, hp⟩ : ∃ p, w.heap.size = p := ⟨_, rfl⟩
  rw [hp] at HB1 ⊢
  obtain ⟨q, hq⟩ : ∃ q, w1.heap.size = q := ⟨_, rfl⟩
  rw [hq] at HB2 ⊢
  have HPQ := hid (show w.heap.size = p ∧ q = p + 1 from ⟨hp, by have := HS1.out; omega⟩)
  have HF2' : Hid (Fr No w w2) := hid (HF1.out.trans' HF2.out)
  have HBp := hid (HB1.out.fr HF2.out id)
  have cl : w2.cell? ⟨p, 0, none⟩ = some (.int .i64 dd) := HBp.out.cell 0
  clear hp hq HS1 HS2 HB1 HF1 HF2
  refine hid ?_
  go_wp2_with (first
    | ((with_reducible refine K.atO (.store 3 _ _) ?_); refine wpL_setV rfl _ _ _ rfl p 0 (.int .i64 (dd - 1)) rfl rfl rfl rfl 118 _ HBp.out (by simp) infoI1 ?_; intro w3 HB3 HF3 HS3; refine Hid.out ?_)
    | fail)
  rw [HDD.out] at HB3 ⊢
  have HB3' : Hid (Blk w3 p 118 [.int .i64 d]) := hid HB3.out
  have HF3' : Hid (Fr No w w3) := hid (HF2'.out.trans HF3.out (fun k e => .inr (by have e : k = p := e; have := HPQ.out; omega)))
  have HBq := hid (HB2.out.fr HF3.out (by show ¬ q = p; have := HPQ.out; omega))
  have HFL3 := hid (HFL.out.no HF3'.out)
  have HCP := hid (HB3'.out.range 0 [.int .i64 d] rfl)
  have HCQ := hid (HBq.out.range 0 (flV f (.slice ka f.kids.length kc) (.slice aa f.any.length ac)) rfl)
  have ck : w3.cell? ⟨q, 0, none⟩ = some (.int .i64 kk) := by have := HBq.out.cell 0; rw [this]; simp [flV, HKK.out]
  clear HB2 HB3 HF3 HS3 HBp HFL HF2' cl
  refine hid ?_
  go_wp2_with fail
  go_ret
  exact ⟨by rw [← HR.out]; rfl, HF3'.out⟩
end Go.Proofs.YtdkkpfeiaaffhaaGreatDoor.FT
