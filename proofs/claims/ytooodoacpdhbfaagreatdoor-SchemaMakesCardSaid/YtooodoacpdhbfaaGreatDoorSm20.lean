/-
  Part 20 of the proof: ScO, SdS, SdT, SdU.
-/
import Derived.Test.YtooodoacpdhbfaaGreatDoorSm04
import Derived.Test.YtooodoacpdhbfaaGreatDoorSm08
import Derived.Test.YtooodoacpdhbfaaGreatDoorSm19
set_option linter.unusedSimpArgs false
set_option linter.unusedVariables false
namespace Go.Proofs.YtooodoacpdhbfaaGreatDoor.SC
set_option maxRecDepth 100000
open Go.Proofs.YtooodoacpdhbfaaGreatDoor.BE Go.Proofs.YtooodoacpdhbfaaGreatDoor.DN

theorem puts_iff : ∀ (l : List Nat) (f : Set) (j : Nat), puts f l j = (f j || decide (j ∈ l))
  | [], f, j => by simp [puts]
  | i :: r, f, j => by
    have := puts_iff r (put f i) j
    unfold puts at this ⊢
    rw [List.foldl_cons, this]
    simp only [put, List.mem_cons, Bool.decide_or, Bool.or_assoc]
theorem nodup_rev {l : List Nat} (h : l.Nodup) : l.reverse.Nodup := by
  unfold List.Nodup at h ⊢
  rw [List.pairwise_reverse]
  exact h.imp fun h e => h e.symm
def good (s : Sch) (a : Atr) : Prop := ∃ i t, s.tyAt a.1 = some i ∧ s.tys[i]? = some t ∧ chkVals t a.2 = 0
def pos (s : Sch) (en : Ent) : List Nat := en.filterMap fun a => s.tyAt a.1
theorem chkAts_iff (s : Sch) : ∀ (en : Ent) (f : Set), (chkAts s f en).2 = 0 ↔ (∀ a ∈ en, good s a) ∧ (pos s en).Nodup ∧ ∀ i ∈ pos s en, f i = false
  | [], f => by simp [chkAts, pos]
  | a :: r, f => by
    unfold chkAts
    cases ht : s.tyAt a.1 with
    | none =>
      simp only []
      refine iff_of_false (by decide) ?_
      rintro ⟨h, -⟩
      obtain ⟨i, t, e, -⟩ := h a List.mem_cons_self
      rw [ht] at e; cases e
    | some i =>
      simp only []
      have hpos : pos s (a :: r) = i :: pos s r := by simp [pos, ht]
      rw [hpos]
      by_cases hf : f i = true
      · rw [if_pos hf]
        refine iff_of_false (by decide) ?_
        rintro ⟨-, -, h⟩
        rw [h i List.mem_cons_self] at hf; cases hf
      · rw [if_neg hf]
        have hff : f i = false := by simpa using hf
        cases hx : s.tys[i]? with
        | none =>
          simp only []
          refine iff_of_false (by decide) ?_
          rintro ⟨h, -⟩
          obtain ⟨i', t, e, e2, -⟩ := h a List.mem_cons_self
          rw [ht] at e; cases e
          rw [hx] at e2; cases e2
        | some t =>
          simp only []
          by_cases hc : chkVals t a.2 = 0
          · rw [if_pos hc, chkAts_iff s r (put f i), List.nodup_cons]
            constructor
            · rintro ⟨h1, h2, h3⟩
              refine ⟨fun b hb => ?_, ⟨fun hm => ?_, h2⟩, fun j hj => ?_⟩
              · rcases List.mem_cons.1 hb with rfl | hb
                · exact ⟨i, t, ht, hx, hc⟩
                · exact h1 b hb
              · have := h3 i hm
                simp [put] at this
              · rcases List.mem_cons.1 hj with rfl | hj
                · exact hff
                · have := h3 j hj
                  simp only [put, Bool.or_eq_false_iff] at this
                  exact this.1
            · rintro ⟨h1, ⟨h2, h3⟩, h4⟩
              refine ⟨fun b hb => h1 b (List.mem_cons_of_mem _ hb), h3, fun j hj => ?_⟩
              have hji : j ≠ i := fun e => h2 (e ▸ hj)
              simp [put, h4 j (List.mem_cons_of_mem _ hj), hji]
          · rw [if_neg hc]
            refine iff_of_false hc ?_
            rintro ⟨h, -⟩
            obtain ⟨i', t', e, e2, e3⟩ := h a List.mem_cons_self
            rw [ht] at e; cases e
            rw [hx] at e2; cases e2
            exact hc e3
theorem chkAts_set (s : Sch) : ∀ (en : Ent) (f : Set), (chkAts s f en).2 = 0 → (chkAts s f en).1 = puts f (pos s en)
  | [], _, _ => rfl
  | a :: r, f, h => by
    obtain ⟨h1, h2, h3⟩ := (chkAts_iff s (a :: r) f).1 h
    obtain ⟨i, t, e1, e2, e3⟩ := h1 a List.mem_cons_self
    have hpos : pos s (a :: r) = i :: pos s r := by simp [pos, e1]
    have hf : f i = false := h3 i (by rw [hpos]; exact List.mem_cons_self)
    have hstep : chkAts s f (a :: r) = chkAts s (put f i) r := by
      rw [chkAts, e1]
      simp only [hf, e2, e3, Bool.false_eq_true, if_false, if_true]
    rw [hstep] at h ⊢
    rw [chkAts_set s r _ h, hpos]
    rfl
/-- Of the entry at most one attribute is of a type. -/
theorem find_mid {α : Type} (p : α → Bool) (l1 l2 : List α) (a : α) (h : p a = true) (h1 : ∀ x ∈ l1, p x = false) : (l1 ++ a :: l2).find? p = some a := by
  rw [List.find?_append]
  have : l1.find? p = none := List.find?_eq_none.2 fun x hx => by simp [h1 x hx]
  rw [this, List.find?_cons_of_pos h]
  rfl
theorem classesOf_back {s : Sch} {en : Ent} (hn : (pos s en).Nodup) : classesOf s en.reverse = classesOf s en := by
  unfold classesOf
  cases h : en.find? (fun a => decide (s.tyAt a.1 = some 0)) with
  | none =>
    rw [List.find?_eq_none] at h
    rw [List.find?_eq_none.2 fun x hx => h x (List.mem_reverse.1 hx)]
  | some a =>
    obtain ⟨hp, l1, l2, rfl, h1⟩ := List.find?_eq_some_iff_append.1 h
    have ha : s.tyAt a.1 = some 0 := by simpa using hp
    rw [List.reverse_append, List.reverse_cons, List.append_assoc, List.singleton_append]
    rw [find_mid (fun a : Atr => decide (s.tyAt a.1 = some 0)) l2.reverse l1.reverse a hp]
    intro x hx
    rw [decide_eq_false_iff_not]
    intro hx0
    have hpos : pos s (l1 ++ a :: l2) = pos s l1 ++ 0 :: pos s l2 := by simp [pos, ha]
    rw [hpos, List.nodup_append] at hn
    have h2 := (List.nodup_cons.1 hn.2.1).1
    exact h2 (List.mem_filterMap.2 ⟨x, List.mem_reverse.1 hx, hx0⟩)
theorem check_iff {s : Sch} {en : Ent} : check s en = 0 ↔ (chkAts s none_ en).2 = 0 ∧ (classesOf s en).2 = true ∧ chain s (classesOf s en).1 = true ∧ okMust s (chkAts s none_ en).1 (classesOf s en).1 = true ∧ okMayF s (chkAts s none_ en).1 (classesOf s en).1 0 s.tys = true := by
  unfold check chkTys
  by_cases h1 : (chkAts s none_ en).2 = 0
  · rw [if_pos h1]
    by_cases h2 : (classesOf s en).2 = true
    · by_cases h3 : chain s (classesOf s en).1 = true
      · rw [h2, h3, Bool.and_true, if_pos rfl]
        by_cases h4 : okMust s (chkAts s none_ en).1 (classesOf s en).1 = true
        · rw [if_pos h4]
          by_cases h5 : okMayF s (chkAts s none_ en).1 (classesOf s en).1 0 s.tys = true
          · rw [if_pos h5]; simp [h1, h4, h5]
          · rw [if_neg h5]; simp [h5]
        · rw [if_neg h4]; simp [h4]
      · simp [h3]
    · simp [h2]
  · rw [if_neg h1]; simp [h1]
theorem check_back {s : Sch} {en : Ent} (h : check s en = 0) : check s en.reverse = 0 := by
  obtain ⟨h1, h2, h3, h4, h5⟩ := check_iff.1 h
  obtain ⟨g1, g2, g3⟩ := (chkAts_iff s en none_).1 h1
  have hpr : pos s en.reverse = (pos s en).reverse := by simp [pos, List.filterMap_reverse]
  have hr : (chkAts s none_ en.reverse).2 = 0 := (chkAts_iff s en.reverse none_).2 ⟨fun a ha => g1 a (List.mem_reverse.1 ha), by rw [hpr]; exact nodup_rev g2, fun _ _ => rfl⟩
  have hs : (chkAts s none_ en.reverse).1 = (chkAts s none_ en).1 := by
    rw [chkAts_set _ _ _ hr, chkAts_set _ _ _ h1, hpr]
    funext j
    simp [puts_iff]
  rw [check_iff, hs, classesOf_back g2]
  exact ⟨hr, h2, h3, h4, h5⟩
theorem okMust_more {s : Sch} {pr pr' f : Set} (h : okMust s pr f = true) (hm : ∀ i, pr i = true → pr' i = true) : okMust s pr' f = true := by
  unfold okMust at h ⊢
  rw [List.all_eq_true] at h ⊢
  intro i hi
  have := h i hi
  cases hp : pr i with
  | true => simp [hm i hp]
  | false =>
    rw [hp] at this
    simp at this
    simp [this]
theorem okMay_more {s : Sch} {pr pr' f : Set} : ∀ (l : List Ty) (i : Nat), okMayF s pr f i l = true → (∀ j t, l[j]? = some t → pr' (i + j) = true → pr (i + j) = true ∨ t.sys = true) → okMayF s pr' f i l = true
  | [], _, _, _ => rfl
  | t :: r, i, h, hm => by
    simp only [okMayF, Bool.and_eq_true] at h ⊢
    refine ⟨?_, okMay_more r (i + 1) h.2 fun j t' hj => by
      have := hm (j + 1) t' (by simpa using hj)
      rwa [show i + (j + 1) = i + 1 + j by omega] at this⟩
    have h1 := h.1
    unfold okMay1 at h1 ⊢
    cases hp : pr' i with
    | false => simp
    | true =>
      rcases hm 0 t rfl (by simpa using hp) with h2 | h2
      · rw [Nat.add_zero] at h2
        rw [h2] at h1
        exact h1
      · simp [h2]
theorem check_more {s : Sch} {en : Ent} {n v : B} {i : Nat} {t : Ty} (h : check s en = 0) (ht : s.tyAt n = some i) (hx : s.tys[i]? = some t) (hs : t.sys = true) (hv : (normV t.syn v).isSome = true) (h0 : i ≠ 0) (hnew : ∀ a ∈ en, low a.1 ≠ low n) (hfn : ∀ m, s.tyAt m = some i → low m = low n) :
    check s (en ++ [(n, [v])]) = 0 := by
  obtain ⟨h1, h2, h3, h4, h5⟩ := check_iff.1 h
  obtain ⟨g1, g2, g3⟩ := (chkAts_iff s en none_).1 h1
  have hpa : pos s (en ++ [(n, [v])]) = pos s en ++ [i] := by simp [pos, ht]
  have hni : i ∉ pos s en := fun hm => by
    obtain ⟨a, ha, e⟩ := List.mem_filterMap.1 hm
    exact hnew a ha (hfn _ e)
  have hcv : chkVals t [v] = 0 := by
    unfold chkVals
    rw [if_neg (by simp)]
    obtain ⟨x, hx⟩ := Option.isSome_iff_exists.1 hv
    have : okVals t.syn [] [v] = true := by simp [okVals, hx]
    rw [if_pos this, if_neg (by simp)]
  have hr : (chkAts s none_ (en ++ [(n, [v])])).2 = 0 := (chkAts_iff s _ none_).2 ⟨fun a ha => by
      rcases List.mem_append.1 ha with ha | ha
      · exact g1 a ha
      · obtain rfl := List.mem_singleton.1 ha
        exact ⟨i, t, ht, hx, hcv⟩, by
      rw [hpa, List.nodup_append]
      exact ⟨g2, by simp, fun a ha b hb e => hni (by rw [List.mem_singleton] at hb; rw [← hb, ← e]; exact ha)⟩, fun _ _ => rfl⟩
  have hset : (chkAts s none_ (en ++ [(n, [v])])).1 = put (chkAts s none_ en).1 i := by
    rw [chkAts_set _ _ _ hr, chkAts_set _ _ _ h1, hpa]
    unfold puts
    rw [List.foldl_append]
    rfl
  have hcl : classesOf s (en ++ [(n, [v])]) = classesOf s en := by
    unfold classesOf
    rw [List.find?_append]
    have : List.find? (fun a : Atr => decide (s.tyAt a.1 = some 0)) [(n, [v])] = none := by
      rw [List.find?_eq_none]
      intro a ha
      obtain rfl := List.mem_singleton.1 ha
      simp [ht, h0]
    rw [this, Option.or_none]
  rw [check_iff, hset, hcl]
  refine ⟨hr, h2, h3, okMust_more h4 fun j hj => by simp [put, hj], okMay_more s.tys 0 h5 fun j t' hj hp => ?_⟩
  simp only [Nat.zero_add, put, Bool.or_eq_true, decide_eq_true_eq] at hp ⊢
  rcases hp with hp | rfl
  · exact .inl hp
  · rw [hx] at hj
    cases hj
    exact .inr hs
theorem fnd_low {L : List B} {s t : B} {i : Nat} (h : fnd L s = some i) (k : fnd L t = some i) : low s = low t := by
  unfold fnd at h k
  rw [List.findIdx?_eq_some_iff_getElem] at h k
  obtain ⟨hl, e, -⟩ := h
  obtain ⟨_, e2, -⟩ := k
  rw [beq_iff_eq] at e e2
  exact e.symm.trans e2
end Go.Proofs.YtooodoacpdhbfaaGreatDoor.SC

namespace Go.Proofs.YtooodoacpdhbfaaGreatDoor.SC
set_option maxRecDepth 100000
open Go.RowKit K Go.Proofs.YtooodoacpdhbfaaGreatDoor.BE Go.Proofs.YtooodoacpdhbfaaGreatDoor.DN

set_option maxHeartbeats 8000000 in
theorem smallZ_any (s : B) (hs : Sz s) (w : World) : Calls Tryz.prog 33 #[.string (sb s)] w fun e w' => e = .returned (.string (sb (low s))) ∧ Fr No w w' := by
  obtain ⟨S, hS⟩ : ∃ S, sb s = S := ⟨_, rfl⟩
  obtain ⟨n, hn⟩ : ∃ n, s.length = n := ⟨_, rfl⟩
  have hsz : (S.size : Int) = n := by rw [← hS, sb_size, hn]
  have hni : (n : Int) ≤ 140737488351232 := by unfold Sz at hs; omega
  have HS := hid hS; have HN := hid hn
  rw [hS]
  clear hS hn hs
  go_enter Tryz.func33, Tryz.ntmps33
  go_wp2_with fail
  go_loopw [3, 4] (fun dv iv wr => ∃ (i : Nat), iv = .int .i64 i ∧ i ≤ n ∧ Hid (OwR 5 1 w wr dv i (u8s ((low s).take i)))) (fun _ iv _ => n - (intOf iv).toNat)
  case atStart => exact ⟨0, rfl, Nat.zero_le _, hid (owR_nil (Fr.refl _ _))⟩
  case round =>
    obtain ⟨i, rfl, hi, HO⟩ := hrel
    obtain ⟨va, vc, rfl⟩ := HO.out.1
    by_cases hlt : i < n
    · obtain ⟨c, hc⟩ : ∃ c, s[i]? = some c := ⟨_, List.getElem?_eq_getElem (by rw [HN.out]; exact hlt)⟩
      have hlti : (i : Int) < n := by omega
      have hi0 : (0 : Int) ≤ i := by omega
      have HC := hid hc
      have HLT := hid hlt
      have HNX : Hid (u8s ((low s).take (i + 1)) = u8s ((low s).take i) ++ [.int .u8 ((lo c).toNat : Int)]) := hid (by
        have hl : (low s)[i]? = some (lo c) := by simp [low, hc]
        rw [List.take_add_one, hl]
        simp [u8s])
      by_cases hup : 65 ≤ c.toNat ∧ c.toNat ≤ 90
      · have h1 : (65 : Int) ≤ (c.toNat : Int) := by omega
        have h2 : (c.toNat : Int) ≤ 90 := by omega
        have hlo : ((lo c).toNat : Int) = (c.toNat : Int) + 32 := by
          rw [lo_n, if_pos hup, UInt8.toNat_add]
          have : (32 : UInt8).toNat = 32 := rfl
          rw [this]
          omega
        rw [hlo] at HNX
        clear hup hlo hc hlt
        go_wp2_with (first
          | ((with_reducible refine K.atO (.index 9 _ _) ?_); refine wpL_valZ (by rfl) (.int .u8 (c.toNat : Int)) (exec_idxB _ _ rfl s HS.out i c HC.out _ rfl rfl rfl _) ?_)
          | ((with_reducible refine K.atO (.buildSlice 120 _ _) ?_); refine wpL_app1 rfl rfl _ _ _ 120 5 rfl rfl Tryz.underlying120 infoU rfl (by decide) (by decide) HO.out (.int .u8 ((c.toNat : Int) + 32)) [.int .u8 ((c.toNat : Int) + 32)] rfl rfl rfl (by simp [Value.oneCell']) (fun _ => rfl) (fun _ => rfl) (by omega) (by omega) ?_; intro q a4 c4 w4 HO4 HF4)
          | fail)
        refine ⟨⟨i + 1, by go_num, HLT.out, hid (by rw [HNX.out]; exact HO4.out)⟩, ?_⟩
        have := HLT.out
        simp [intOf]; omega
      · have hlo : lo c = c := by rw [lo_n, if_neg hup]
        rw [hlo] at HNX
        have hcase : c.toNat < 65 ∨ (65 ≤ c.toNat ∧ 90 < c.toNat) := by omega
        clear hup hlo hc hlt
        rcases hcase with h | ⟨h, h'⟩
        · have h1 : ¬ (65 : Int) ≤ (c.toNat : Int) := by omega
          clear h
          go_wp2_with (first
            | ((with_reducible refine K.atO (.index 9 _ _) ?_); refine wpL_valZ (by rfl) (.int .u8 (c.toNat : Int)) (exec_idxB _ _ rfl s HS.out i c HC.out _ rfl rfl rfl _) ?_)
            | ((with_reducible refine K.atO (.buildSlice 120 _ _) ?_); refine wpL_app1 rfl rfl _ _ _ 120 5 rfl rfl Tryz.underlying120 infoU rfl (by decide) (by decide) HO.out (.int .u8 (c.toNat : Int)) [.int .u8 (c.toNat : Int)] rfl rfl rfl (by simp [Value.oneCell']) (fun _ => rfl) (fun _ => rfl) (by omega) (by omega) ?_; intro q a4 c4 w4 HO4 HF4)
            | fail)
          refine ⟨⟨i + 1, by go_num, HLT.out, hid (by rw [HNX.out]; exact HO4.out)⟩, ?_⟩
          have := HLT.out
          simp [intOf]; omega
        · have h1 : (65 : Int) ≤ (c.toNat : Int) := by omega
          have h2 : ¬ (c.toNat : Int) ≤ 90 := by omega
          clear h h'
          go_wp2_with (first
            | ((with_reducible refine K.atO (.index 9 _ _) ?_); refine wpL_valZ (by rfl) (.int .u8 (c.toNat : Int)) (exec_idxB _ _ rfl s HS.out i c HC.out _ rfl rfl rfl _) ?_)
            | ((with_reducible refine K.atO (.buildSlice 120 _ _) ?_); refine wpL_app1 rfl rfl _ _ _ 120 5 rfl rfl Tryz.underlying120 infoU rfl (by decide) (by decide) HO.out (.int .u8 (c.toNat : Int)) [.int .u8 (c.toNat : Int)] rfl rfl rfl (by simp [Value.oneCell']) (fun _ => rfl) (fun _ => rfl) (by omega) (by omega) ?_; intro q a4 c4 w4 HO4 HF4)
            | fail)
          refine ⟨⟨i + 1, by go_num, HLT.out, hid (by rw [HNX.out]; exact HO4.out)⟩, ?_⟩
          have := HLT.out
          simp [intOf]; omega
    · obtain rfl : i = n := by omega
      have hall : (low s).take i = low s := List.take_of_length_le (by rw [low_length, HN.out]; exact Nat.le_refl _)
      have HO2 : Hid (OwR 5 1 w wr (.slice va i vc) (low s).length (u8s (low s))) := hid (by rw [low_length, HN.out]; have h := HO.out; rw [hall] at h; exact h)
      have HDEN := hid (owR_bytes HO2.out)
      clear hall hlt
      go_wp2_with (first
        | ((with_reducible refine K.atO (.convert _ 9 _) ?_); refine wpL_stringOf rfl _ _ _ _ rfl _ _ (low s) rfl HDEN.out Tryz.underlying120 Tryz.underlying5 Tryz.underlying9 ?_)
        | fail)
      go_ret
      exact ⟨rfl, HO.out.fr⟩
set_option maxHeartbeats 8000000 in
theorem at_any {S : Nat → Prop} (ve : Value) (en : Ent) (m : B) (w : World) (h : EnIn S w ve en) (hz : Sz m) : Calls Tryz.prog 32 #[ve, .string (sb m)] w fun e w' => e = .returned (.int .i64 (idxI en fun a => low a.1 == low m)) ∧ Fr No w w' := by
  obtain ⟨va, vcp, rfl, -, hle⟩ := h.form
  obtain ⟨n, hn⟩ : ∃ n, en.length = n := ⟨_, rfl⟩
  have HE := hid h; have HN := hid hn; have HM := hid hz
  rw [hn] at HE hle ⊢
  obtain ⟨R, hR⟩ : ∃ R, idxI en (fun a => low a.1 == low m) = R := ⟨_, rfl⟩
  have HR := hid hR
  rw [hR]
  have hni : (n : Int) ≤ 140737488351232 := by omega
  clear h hn hz hR
  go_enter Tryz.func32, Tryz.ntmps32
  go_wp2_with fail
  refine (smallZ_any m HM.out w).mono ?_
  rintro e w1 ⟨rfl, f1⟩
  have HF1 := hid f1
  clear f1
  go_wp2_with fail
  go_loopw [6] (fun iv wr => ∃ (i : Nat), iv = .int .i64 i ∧ i ≤ n ∧ Hid ((en.take i).any (fun a => low a.1 == low m) = false ∧ Fr No w wr)) (fun iv _ => n - (intOf iv).toNat)
  case atStart => exact ⟨0, rfl, Nat.zero_le _, hid ⟨rfl, HF1.out⟩⟩
  case round =>
    obtain ⟨i, rfl, hi, HI⟩ := hrel
    by_cases hlt : i < n
    · have hiX : i < en.length := by rw [HN.out]; exact hlt
      obtain ⟨⟨nm, ls⟩, hx⟩ : ∃ x, en[i]? = some x := ⟨_, List.getElem?_eq_getElem hiX⟩
      have hlti : (i : Int) < n := by omega
      have hi0 : (0 : Int) ≤ i := by omega
      obtain ⟨g, o, cq, cs, e1, -, -, hr, -, hp⟩ := (EnIn.fr (D := No) HE.out HI.out.2 (fun _ _ _ e => e)).get hx
      rw [HN.out] at e1
      simp only [Value.slice.injEq, true_and] at e1
      obtain ⟨rfl, rfl⟩ := e1
      obtain ⟨u, rfl, hznm, -⟩ := hp
      have d0 : wr.cell? ⟨g, o + i * 2, none⟩ = some (.string (sb nm)) := by have := hr 0 _ rfl; simpa using this
      have HZN := hid hznm
      have HXX := hid hx
      have HLT := hid hlt
      have HNX : Hid ((en.take (i + 1)).any (fun a => low a.1 == low m) = ((low nm == low m) || false)) := hid (by
        have hxx : en[i] = (nm, ls) := by rw [List.getElem?_eq_getElem hiX] at hx; exact Option.some.inj hx
        rw [List.take_succ_eq_append_getElem hiX, List.any_append, HI.out.1, hxx]; simp)
      clear hr hznm hx hlt hiX
      go_wp2_with fail
      refine (smallZ_any nm HZN.out wr).mono ?_
      rintro e w2 ⟨rfl, f2⟩
      have HF2 := hid (HI.out.2.trans' f2)
      clear f2 d0
      cases hq : (low nm == low m) with
      | true =>
        have HQ := hid hq
        have HQE : Hid (decide (low nm = low m) = true) := hid (by simpa using hq)
        clear hq
        go_wp2_with (first
          | ((with_reducible refine K.atO (.binOp .eql 9 _ _ _) ?_); refine wpL_valZ rfl (.bool true) (by rw [← HQE.out]; exact exec_eqS _ _ _ rfl (low nm) (low m) rfl rfl _) ?_)
          | fail)
        go_ret
        exact ⟨by rw [← HR.out, idx_at HI.out.1 HXX.out HQ.out]; rfl, HF2.out⟩
      | false =>
        have HQ := hid hq
        have HQE : Hid (decide (low nm = low m) = false) := hid (by simpa using hq)
        clear hq
        go_wp2_with (first
          | ((with_reducible refine K.atO (.binOp .eql 9 _ _ _) ?_); refine wpL_valZ rfl (.bool false) (by rw [← HQE.out]; exact exec_eqS _ _ _ rfl (low nm) (low m) rfl rfl _) ?_)
          | fail)
        refine ⟨⟨i + 1, by go_num, HLT.out, hid ⟨by rw [HNX.out, HQ.out]; rfl, HF2.out⟩⟩, ?_⟩
        have := HLT.out
        simp [intOf]; omega
    · obtain rfl : i = n := by omega
      go_wp2_with fail
      go_ret
      refine ⟨?_, HI.out.2⟩
      have h1 := HI.out.1
      rw [List.take_of_length_le (by rw [HN.out]; exact Nat.le_refl _)] at h1
      rw [← HR.out, idx_none h1]
      rfl
end Go.Proofs.YtooodoacpdhbfaaGreatDoor.SC

namespace Go.Proofs.YtooodoacpdhbfaaGreatDoor.SC
set_option maxRecDepth 100000
open Go.RowKit K Go.Proofs.YtooodoacpdhbfaaGreatDoor.BE Go.Proofs.YtooodoacpdhbfaaGreatDoor.DN

theorem infoSc4 : (Tryz.prog.info? 33).map (·.size) = some 2 := by kernel_rfl
set_option maxHeartbeats 8000000 in
theorem rfind_any {S S2 : Nat → Prop} (vt vc : Value) (s : Sch) (m : B) (w : World) (h : TysIn S w vt s.tys) (hy : ClsIn S2 w vc s.cls) (hz : Sz m) : Calls Tryz.prog 21 #[.agg #[vt, vc], .string (sb m)] w fun e w' => e = .returned (.int .i64 (idxI s.tys fun a => low a.nm == low m)) ∧ Fr No w w' := by
  obtain ⟨va, vcp, e0, -, hle⟩ := h.form
  obtain ⟨n, hn⟩ : ∃ n, s.tys.length = n := ⟨_, rfl⟩
  have HE := hid h; have HN := hid hn; have HM := hid hz
  obtain ⟨a2, n2, c2, e2⟩ : ∃ a n c, vc = .slice a n c := by obtain ⟨a, c, e, -⟩ := hy.form; exact ⟨_, _, _, e⟩
  rw [e0] at HE ⊢
  rw [e2]
  rw [hn] at HE hle ⊢
  obtain ⟨X, hX⟩ : ∃ X, s.tys = X := ⟨_, rfl⟩
  rw [hX] at HE HN ⊢
  obtain ⟨R, hR⟩ : ∃ R, idxI X (fun a => low a.nm == low m) = R := ⟨_, rfl⟩
  have HR := hid hR
  rw [hR]
  have hni : (n : Int) ≤ 140737488351232 := by omega
  clear h hy hn hz hR hX e0 e2
  go_enter Tryz.func21, Tryz.ntmps21
  go_wp2_with (first
    | ((with_reducible refine K.atO (.box 33 _) ?_); refine wpL_box rfl _ _ rfl _ rfl [.slice va n vcp, .slice a2 n2 c2] rfl ?_; intro w1 HB1 HF1 HS1; refine Hid.out ?_)
    | fail)
  obtain ⟨b, hb⟩ : ∃ b, w.heap.size = b := ⟨_, rfl⟩
  rw [hb] at HB1 ⊢
  clear hb HS1
  refine hid ?_
  go_wp2_with fail
  refine (smallZ_any m HM.out w1).mono ?_
  rintro e w2 ⟨rfl, f1⟩
  have HF2 := hid (HF1.out.trans' f1)
  have HB2 := hid (HB1.out.fr f1 id)
  clear f1
  go_wp2_with fail
  go_loopw [6] (fun iv wr => ∃ (i : Nat), iv = .int .i64 i ∧ i ≤ n ∧ Hid ((X.take i).any (fun a => low a.nm == low m) = false ∧ Fr No w wr ∧ Blk wr b 33 [.slice va n vcp, .slice a2 n2 c2])) (fun iv _ => n - (intOf iv).toNat)
  case atStart => exact ⟨0, rfl, Nat.zero_le _, hid ⟨rfl, HF2.out, HB2.out⟩⟩
  case round =>
    obtain ⟨i, rfl, hi, HI⟩ := hrel
    have cb : wr.cell? ⟨b, 0, none⟩ = some (.slice va n vcp) := HI.out.2.2.cell 0
    by_cases hlt : i < n
    · have hiX : i < X.length := by rw [HN.out]; exact hlt
      obtain ⟨x, hx⟩ : ∃ x, X[i]? = some x := ⟨_, List.getElem?_eq_getElem hiX⟩
      have hlti : (i : Int) < n := by omega
      have hi0 : (0 : Int) ≤ i := by omega
      obtain ⟨g, o, cq, cs, e1, -, -, hr, -, hp⟩ := (TysIn.fr (D := No) HE.out HI.out.2.1 (fun _ _ _ e => e)).get hx
      rw [HN.out] at e1
      simp only [Value.slice.injEq, true_and] at e1
      obtain ⟨rfl, rfl⟩ := e1
      obtain ⟨rfl, hznm⟩ := hp
      have d0 : wr.cell? ⟨g, o + i * 6, none⟩ = some (.string (sb x.nm)) := by have := hr 0 _ rfl; simpa using this
      have HZN := hid hznm
      have HXX := hid hx
      have HLT := hid hlt
      have HNX : Hid ((X.take (i + 1)).any (fun a => low a.nm == low m) = ((low x.nm == low m) || false)) := hid (by
        have hxx : X[i] = x := by rw [List.getElem?_eq_getElem hiX] at hx; exact Option.some.inj hx
        rw [List.take_succ_eq_append_getElem hiX, List.any_append, HI.out.1, hxx]; simp)
      obtain ⟨nm, hnm⟩ : ∃ nm, x.nm = nm := ⟨_, rfl⟩
      have HNM := hid hnm
      rw [hnm] at HZN HNX d0
      clear hr hznm hx hlt hiX hnm
      go_wp2_with fail
      refine (smallZ_any nm HZN.out wr).mono ?_
      rintro e w3 ⟨rfl, f2⟩
      have HF3 := hid (HI.out.2.1.trans' f2); have HB3 := hid (HI.out.2.2.fr f2 id)
      clear f2 d0 cb
      cases hq : (low nm == low m) with
      | true =>
        have HQ := hid hq
        have HQE : Hid (decide (low nm = low m) = true) := hid (by simpa using hq)
        clear hq
        go_wp2_with (first
          | ((with_reducible refine K.atO (.binOp .eql 9 _ _ _) ?_); refine wpL_valZ rfl (.bool true) (by rw [← HQE.out]; exact exec_eqS _ _ _ rfl (low nm) (low m) rfl rfl _) ?_)
          | fail)
        go_ret
        exact ⟨by rw [← HR.out, idx_at HI.out.1 HXX.out (by rw [HNM.out]; exact HQ.out)]; rfl, HF3.out⟩
      | false =>
        have HQ := hid hq
        have HQE : Hid (decide (low nm = low m) = false) := hid (by simpa using hq)
        clear hq
        go_wp2_with (first
          | ((with_reducible refine K.atO (.binOp .eql 9 _ _ _) ?_); refine wpL_valZ rfl (.bool false) (by rw [← HQE.out]; exact exec_eqS _ _ _ rfl (low nm) (low m) rfl rfl _) ?_)
          | fail)
        refine ⟨⟨i + 1, by go_num, HLT.out, hid ⟨by rw [HNX.out, HQ.out]; rfl, HF3.out, HB3.out⟩⟩, ?_⟩
        have := HLT.out
        simp [intOf]; omega
    · obtain rfl : i = n := by omega
      go_wp2_with fail
      go_ret
      refine ⟨?_, HI.out.2.1⟩
      have h1 := HI.out.1
      rw [List.take_of_length_le (by rw [HN.out]; exact Nat.le_refl _)] at h1
      rw [← HR.out, idx_none h1]
      rfl
set_option maxHeartbeats 8000000 in
theorem rfindC_any {S S2 : Nat → Prop} (vt vc : Value) (s : Sch) (m : B) (w : World) (h : TysIn S w vt s.tys) (hy : ClsIn S2 w vc s.cls) (hz : Sz m) : Calls Tryz.prog 22 #[.agg #[vt, vc], .string (sb m)] w fun e w' => e = .returned (.int .i64 (idxI s.cls fun a => low a.nm == low m)) ∧ Fr No w w' := by
  obtain ⟨va, vcp, e0, -, hle⟩ := hy.form
  obtain ⟨n, hn⟩ : ∃ n, s.cls.length = n := ⟨_, rfl⟩
  have HE := hid hy; have HN := hid hn; have HM := hid hz
  obtain ⟨a2, n2, c2, e2⟩ : ∃ a n c, vt = .slice a n c := by obtain ⟨a, c, e, -⟩ := h.form; exact ⟨_, _, _, e⟩
  rw [e0] at HE ⊢
  rw [e2]
  rw [hn] at HE hle ⊢
  obtain ⟨X, hX⟩ : ∃ X, s.cls = X := ⟨_, rfl⟩
  rw [hX] at HE HN ⊢
  obtain ⟨R, hR⟩ : ∃ R, idxI X (fun a => low a.nm == low m) = R := ⟨_, rfl⟩
  have HR := hid hR
  rw [hR]
  have hni : (n : Int) ≤ 140737488351232 := by omega
  clear h hy hn hz hR hX e0 e2
  go_enter Tryz.func22, Tryz.ntmps22
  go_wp2_with (first
    | ((with_reducible refine K.atO (.box 33 _) ?_); refine wpL_box rfl _ _ rfl _ rfl [.slice a2 n2 c2, .slice va n vcp] rfl ?_; intro w1 HB1 HF1 HS1; refine Hid.out ?_)
    | fail)
  obtain ⟨b, hb⟩ : ∃ b, w.heap.size = b := ⟨_, rfl⟩
  rw [hb] at HB1 ⊢
  clear hb HS1
  refine hid ?_
  go_wp2_with fail
  refine (smallZ_any m HM.out w1).mono ?_
  rintro e w2 ⟨rfl, f1⟩
  have HF2 := hid (HF1.out.trans' f1)
  have HB2 := hid (HB1.out.fr f1 id)
  clear f1
  go_wp2_with fail
  go_loopw [6] (fun iv wr => ∃ (i : Nat), iv = .int .i64 i ∧ i ≤ n ∧ Hid ((X.take i).any (fun a => low a.nm == low m) = false ∧ Fr No w wr ∧ Blk wr b 33 [.slice a2 n2 c2, .slice va n vcp])) (fun iv _ => n - (intOf iv).toNat)
  case atStart => exact ⟨0, rfl, Nat.zero_le _, hid ⟨rfl, HF2.out, HB2.out⟩⟩
  case round =>
    obtain ⟨i, rfl, hi, HI⟩ := hrel
    have cb : wr.cell? ⟨b, 1, none⟩ = some (.slice va n vcp) := HI.out.2.2.cell 1
    by_cases hlt : i < n
    · have hiX : i < X.length := by rw [HN.out]; exact hlt
      obtain ⟨x, hx⟩ : ∃ x, X[i]? = some x := ⟨_, List.getElem?_eq_getElem hiX⟩
      have hlti : (i : Int) < n := by omega
      have hi0 : (0 : Int) ≤ i := by omega
      obtain ⟨g, o, cq, cs, e1, -, -, hr, -, hp⟩ := (ClsIn.fr (D := No) HE.out HI.out.2.1 (fun _ _ _ e => e)).get hx
      rw [HN.out] at e1
      simp only [Value.slice.injEq, true_and] at e1
      obtain ⟨rfl, rfl⟩ := e1
      obtain ⟨u1, u2, rfl, hznm, -⟩ := hp
      have d0 : wr.cell? ⟨g, o + i * 5, none⟩ = some (.string (sb x.nm)) := by have := hr 0 _ rfl; simpa using this
      have HZN := hid hznm
      have HXX := hid hx
      have HLT := hid hlt
      have HNX : Hid ((X.take (i + 1)).any (fun a => low a.nm == low m) = ((low x.nm == low m) || false)) := hid (by
        have hxx : X[i] = x := by rw [List.getElem?_eq_getElem hiX] at hx; exact Option.some.inj hx
        rw [List.take_succ_eq_append_getElem hiX, List.any_append, HI.out.1, hxx]; simp)
      obtain ⟨nm, hnm⟩ : ∃ nm, x.nm = nm := ⟨_, rfl⟩
      have HNM := hid hnm
      rw [hnm] at HZN HNX d0
      clear hr hznm hx hlt hiX hnm
      go_wp2_with fail
      refine (smallZ_any nm HZN.out wr).mono ?_
      rintro e w3 ⟨rfl, f2⟩
      have HF3 := hid (HI.out.2.1.trans' f2); have HB3 := hid (HI.out.2.2.fr f2 id)
      clear f2 d0 cb
      cases hq : (low nm == low m) with
      | true =>
        have HQ := hid hq
        have HQE : Hid (decide (low nm = low m) = true) := hid (by simpa using hq)
        clear hq
        go_wp2_with (first
          | ((with_reducible refine K.atO (.binOp .eql 9 _ _ _) ?_); refine wpL_valZ rfl (.bool true) (by rw [← HQE.out]; exact exec_eqS _ _ _ rfl (low nm) (low m) rfl rfl _) ?_)
          | fail)
        go_ret
        exact ⟨by rw [← HR.out, idx_at HI.out.1 HXX.out (by rw [HNM.out]; exact HQ.out)]; rfl, HF3.out⟩
      | false =>
        have HQ := hid hq
        have HQE : Hid (decide (low nm = low m) = false) := hid (by simpa using hq)
        clear hq
        go_wp2_with (first
          | ((with_reducible refine K.atO (.binOp .eql 9 _ _ _) ?_); refine wpL_valZ rfl (.bool false) (by rw [← HQE.out]; exact exec_eqS _ _ _ rfl (low nm) (low m) rfl rfl _) ?_)
          | fail)
        refine ⟨⟨i + 1, by go_num, HLT.out, hid ⟨by rw [HNX.out, HQ.out]; rfl, HF3.out, HB3.out⟩⟩, ?_⟩
        have := HLT.out
        simp [intOf]; omega
    · obtain rfl : i = n := by omega
      go_wp2_with fail
      go_ret
      refine ⟨?_, HI.out.2.1⟩
      have h1 := HI.out.1
      rw [List.take_of_length_le (by rw [HN.out]; exact Nat.le_refl _)] at h1
      rw [← HR.out, idx_none h1]
      rfl
set_option maxHeartbeats 8000000 in
theorem named_any {S S2 S3 : Nat → Prop} (vt vc vl : Value) (s : Sch) (l : List B) (w : World) (h : TysIn S w vt s.tys) (hy : ClsIn S2 w vc s.cls) (hl : LsIn S3 w vl l) : Calls Tryz.prog 50 #[.agg #[vt, vc], vl] w fun e w' => e = .returned (.bool (l.all fun x => decide (0 ≤ idxI s.tys fun a => low a.nm == low x))) ∧ Fr No w w' := by
  obtain ⟨va, vcp, rfl, -, hle⟩ := hl.form
  obtain ⟨n, hn⟩ : ∃ n, l.length = n := ⟨_, rfl⟩
  have HT := hid h; have HC := hid hy; have HL := hid hl; have HN := hid hn
  rw [hn] at HL hle ⊢
  obtain ⟨R, hR⟩ : ∃ R, (l.all fun x => decide (0 ≤ idxI s.tys fun a => low a.nm == low x)) = R := ⟨_, rfl⟩
  have HR := hid hR
  rw [hR]
  have hni : (n : Int) ≤ 140737488351232 := by omega
  clear h hy hl hn hR
  go_enter Tryz.func50, Tryz.ntmps50
  go_wp2_with (first
    | ((with_reducible refine K.atO (.box 33 _) ?_); refine wpL_box rfl _ _ rfl _ rfl [vt, vc] rfl ?_; intro w1 HB1 HF1 HS1; refine Hid.out ?_)
    | fail)
  obtain ⟨b, hb⟩ : ∃ b, w.heap.size = b := ⟨_, rfl⟩
  rw [hb] at HB1 ⊢
  clear hb HS1
  refine hid ?_
  go_wp2_with fail
  go_loopw [5] (fun iv wr => ∃ (i : Nat), iv = .int .i64 i ∧ i ≤ n ∧ Hid ((l.take i).all (fun x => decide (0 ≤ idxI s.tys fun a => low a.nm == low x)) = true ∧ Fr No w wr ∧ Blk wr b 33 [vt, vc])) (fun iv _ => n - (intOf iv).toNat)
  case atStart => exact ⟨0, rfl, Nat.zero_le _, hid ⟨rfl, HF1.out, HB1.out⟩⟩
  case round =>
    obtain ⟨i, rfl, hi, HI⟩ := hrel
    by_cases hlt : i < n
    · have hiX : i < l.length := by rw [HN.out]; exact hlt
      obtain ⟨x, hx⟩ : ∃ x, l[i]? = some x := ⟨_, List.getElem?_eq_getElem hiX⟩
      have hlti : (i : Int) < n := by omega
      have hi0 : (0 : Int) ≤ i := by omega
      obtain ⟨g, o, cq, e1, d0, hz⟩ := (LsIn.fr (D := No) HL.out HI.out.2.1 (fun _ _ _ e => e)).at_ hx
      rw [HN.out] at e1
      simp only [Value.slice.injEq, true_and] at e1
      obtain ⟨rfl, rfl⟩ := e1
      have HZ := hid hz; have HLT := hid hlt; have HXM := hid (List.mem_of_getElem? hx)
      have HNX : Hid ((l.take (i + 1)).all (fun x => decide (0 ≤ idxI s.tys fun a => low a.nm == low x)) = decide (0 ≤ idxI s.tys fun a => low a.nm == low x)) := hid (by
        have hxx : l[i] = x := by rw [List.getElem?_eq_getElem hiX] at hx; exact Option.some.inj hx
        rw [List.take_succ_eq_append_getElem hiX, List.all_append, HI.out.1, hxx]; simp)
      have d1 : wr.rangeAt b 0 [vt, vc] := HI.out.2.2.range 0 _ rfl
      clear hz hx hlt hiX
      go_wp2_with fail
      have hold : Facts.hold [(0, fun w' => w'.rangeAt b 0 [vt, vc]), (4, fun w' => w'.cell? ⟨g, o + i, none⟩ = some (.string (sb x)))] wr.drew := Facts.cons_hold d1 (Facts.cons_hold d0 (Facts.nil_hold _))
      refine wpD_region hold (by kernel_rfl) 7 rfl ?_
      (refine wpD_plain 1 (v := ?_) rfl (by kernel_rfl) (by kernel_rfl) (by kernel_rfl) (fun _ _ _ h => h) (by rfl) ?_ (by assumption) ?_; rotate_left; (intro _w; go_simp; try with_reducible rfl); simp only [Act.put, K.put3])
      (refine wpD_plain 2 (v := ?_) rfl (by kernel_rfl) (by kernel_rfl) (by kernel_rfl) (fun _ _ _ h => h) (by rfl) ?_ (by assumption) ?_; rotate_left; (intro _w; go_simp; try with_reducible rfl); simp only [Act.put, K.put3])
      (refine wpD_plain 3 (v := ?_) rfl (by kernel_rfl) (by kernel_rfl) (by kernel_rfl) (fun _ _ _ h => h) (by rfl) ?_ (by assumption) ?_; rotate_left; (intro _w; go_simp; try with_reducible rfl); simp only [Act.put, K.put3])
      (refine wpD_take 0 _ rfl (by kernel_rfl) (by kernel_rfl) (by kernel_rfl) (fun _ _ _ h => h) List.mem_cons_self (by rfl) (exec_load _ _ rfl b 0 rfl _ _ rfl rfl infoSc4) (by assumption) ?_; simp only [Act.put, K.put3])
      (refine wpD_take 4 _ rfl (by kernel_rfl) (by kernel_rfl) (by kernel_rfl) (fun _ _ _ h => h) (List.mem_cons_of_mem _ List.mem_cons_self) (by rfl) (v := ?_) ?_ (by assumption) ?_; rotate_left; (intro _w _hw; go_simp; try with_reducible rfl); simp only [Act.put, K.put3])
      clear hold
      refine wpD_only 5 [] rfl (by kernel_rfl) (by kernel_rfl) (by rfl) (fun K5 hK5 => ?_)
      refine wp_call _ _ _ rfl 21 [] rfl (fun vs w => by kernel_rfl) [.agg #[vt, vc], .string (sb x)] (by rfl) ?_
      refine (rfind_any vt vc s x wr.drew (TysIn.fr (D := No) HT.out (HI.out.2.1.trans' (Fr.refl No wr).drew) (fun _ _ _ e => e)) (ClsIn.fr (D := No) HC.out (HI.out.2.1.trans' (Fr.refl No wr).drew) (fun _ _ _ e => e)) HZ.out).mono ?_
      rintro e w3 ⟨rfl, f3⟩
      have HF3 : Hid (Fr No w w3) := hid ((HI.out.2.1.trans' (Fr.refl No wr).drew).trans' f3)
      have HB3 : Hid (Blk w3 b 33 [vt, vc]) := hid (Blk.fr (w := wr.drew) HI.out.2.2 f3 id)
      refine ⟨_, rfl, hK5 _ _ (Facts.nil_hold _) ?_⟩
      clear hK5 K5 f3 d0 d1
      simp only [Act.put, K.put3]
      have hold : Facts.hold [] w3 := Facts.nil_hold _
      (refine wpD_plain 6 (v := ?_) rfl (by kernel_rfl) (by kernel_rfl) (by kernel_rfl) (fun _ _ _ h => h) (by rfl) ?_ (by assumption) ?_; rotate_left; (intro _w; go_simp; try with_reducible rfl); simp only [Act.put, K.put3])
      clear hold
      refine wpD_done (by kernel_rfl) ?_ _
      obtain ⟨A, hA⟩ : ∃ A, (idxI s.tys fun a => low a.nm == low x) = A := ⟨_, rfl⟩
      have HA := hid hA
      rw [hA] at HNX ⊢
      clear hA
      by_cases h0 : 0 ≤ A
      · have hn0 : ¬ A < 0 := by omega
        have HT0 : Hid (decide (0 ≤ A) = true) := hid (decide_eq_true h0)
        go_wp2_with fail
        refine ⟨⟨i + 1, by go_num, HLT.out, hid ⟨by rw [HNX.out]; exact HT0.out, HF3.out, HB3.out⟩⟩, ?_⟩
        have := HLT.out
        simp [intOf]; omega
      · have hn0 : A < 0 := by omega
        obtain rfl : R = false := by
          rw [← HR.out, List.all_eq_false]
          exact ⟨x, HXM.out, by rw [HA.out]; simp; omega⟩
        go_wp2_with fail
        go_ret
        exact ⟨rfl, HF3.out⟩
    · obtain rfl : i = n := by omega
      obtain rfl : R = true := by
        have h1 := HI.out.1
        rw [List.take_of_length_le (by rw [HN.out]; exact Nat.le_refl _)] at h1
        rw [← HR.out, h1]
      go_wp2_with fail
      go_ret
      exact ⟨rfl, HI.out.2.1⟩
end Go.Proofs.YtooodoacpdhbfaaGreatDoor.SC

namespace Go.Proofs.YtooodoacpdhbfaaGreatDoor.SC
set_option maxRecDepth 100000
open Go.Proofs.YtooodoacpdhbfaaGreatDoor.BE Go.Proofs.YtooodoacpdhbfaaGreatDoor.DN

theorem idx_app {α : Type} (p r : List α) (q : α → Bool) : (∃ j, p.findIdx? q = some j ∧ j < p.length ∧ idxI (p ++ r) q = (j : Int)) ∨ (p.findIdx? q = none ∧ (idxI (p ++ r) q = -1 ∨ (p.length : Int) ≤ idxI (p ++ r) q)) := by
  unfold idxI
  rw [List.findIdx?_append]
  cases h : p.findIdx? q with
  | some j =>
    left
    obtain ⟨hl, -⟩ := List.findIdx?_eq_some_iff_getElem.1 h
    exact ⟨j, rfl, hl, rfl⟩
  | none =>
    right
    refine ⟨rfl, ?_⟩
    cases hr : r.findIdx? q with
    | none => left; rfl
    | some k => right; simp only [Option.map_some, Option.none_or]; omega
theorem fnd_ty (X : List Ty) (m : B) : fnd (X.map (·.nm)) m = X.findIdx? fun a => low a.nm == low m := by
  unfold fnd
  rw [List.findIdx?_map]
  rfl
theorem fnd_cl (X : List Cl) (m : B) : fnd (X.map (·.nm)) m = X.findIdx? fun a => low a.nm == low m := by
  unfold fnd
  rw [List.findIdx?_map]
  rfl
theorem new_at {α : Type} (p r : List α) (t : α) (q : α → Bool) (ht : q t = true) : (p.findIdx? q).isNone = decide (idxI (p ++ t :: r) q = (p.length : Int)) := by
  have h0 := idx_app p (t :: r) q
  cases hp : p.findIdx? q with
  | some j =>
    rw [hp] at h0
    rcases h0 with ⟨k, e, hl, h⟩ | ⟨h, -⟩
    · rw [h, decide_eq_false (by omega)]
      rfl
    · cases h
  | none =>
    have : idxI (p ++ t :: r) q = (p.length : Int) := by
      unfold idxI
      rw [List.findIdx?_append, hp, List.findIdx?_cons, if_pos ht]
      simp
    rw [this, decide_eq_true rfl]
    rfl
def rT (X : List Ty) (i : Nat) (t : Ty) : Bool := typ t.nm && decide (idxI X (fun a => low a.nm == low t.nm) = (i : Int)) && (decide (1 ≤ t.syn) && decide (t.syn ≤ 5))
def supI (X : List Cl) (i : Nat) (c : Cl) : Bool :=
  if c.sup = [] then true else
  decide (0 ≤ idxI X fun a => low a.nm == low c.sup) && decide ((idxI X fun a => low a.nm == low c.sup) < i) && (match X[(idxI X fun a => low a.nm == low c.sup).toNat]? with | none => false | some d => d.kind == 0 || d.kind == c.kind)
def isIn (X : List Ty) (l : List B) : Bool := l.all fun x => decide (0 ≤ idxI X fun a => low a.nm == low x)
def rC (T : List Ty) (X : List Cl) (i : Nat) (c : Cl) : Bool := typ c.nm && decide (idxI X (fun a => low a.nm == low c.nm) = (i : Int)) && (decide (0 ≤ c.kind) && decide (c.kind ≤ 2)) && isIn T c.must && isIn T c.may && supI X i c
theorem has_in (T : List Ty) (l : List B) : has (T.map (·.nm)) l = isIn T l := by
  unfold has isIn
  refine congrArg (fun f => l.all f) (funext fun m => ?_)
  rw [fnd_ty]
  unfold idxI
  cases T.findIdx? fun a => low a.nm == low m with
  | none => rfl
  | some j => simp
theorem rTy_iff (X : List Ty) : ∀ (r p : List Ty), X = p ++ r → (rTy (p.map (·.nm)) r = true ↔ ∀ j t, r[j]? = some t → rT X (p.length + j) t = true)
  | [], p, _ => ⟨fun _ j t h => by simp at h, fun _ => rfl⟩
  | t :: r, p, h => by
    have ih := rTy_iff X r (p ++ [t]) (by rw [h, List.append_assoc]; rfl)
    rw [List.map_append, List.map_singleton, List.length_append, List.length_singleton] at ih
    have hn : newN (p.map (·.nm)) t.nm = (typ t.nm && decide (idxI X (fun a => low a.nm == low t.nm) = (p.length : Int))) := by
      unfold newN
      rw [fnd_ty, h, new_at p r t (fun a => low a.nm == low t.nm) (beq_self_eq_true _)]
    have e : rTy (p.map (·.nm)) (t :: r) = (rT X p.length t && rTy (p.map (·.nm) ++ [t.nm]) r) := by
      show (newN (p.map (·.nm)) t.nm && (decide (1 ≤ t.syn) && decide (t.syn ≤ 5)) && rTy (p.map (·.nm) ++ [t.nm]) r) = _
      rw [hn]
      rfl
    rw [e, Bool.and_eq_true, ih]
    constructor
    · rintro ⟨h1, h2⟩ j x hx
      cases j with
      | zero => cases hx; exact h1
      | succ j =>
        have := h2 j x hx
        rwa [show p.length + 1 + j = p.length + (j + 1) by omega] at this
    · intro hh
      refine ⟨hh 0 t rfl, fun j x hx => ?_⟩
      have := hh (j + 1) x hx
      rwa [show p.length + (j + 1) = p.length + 1 + j by omega] at this
theorem sup_iff (X r p : List Cl) (h : X = p ++ r) (c : Cl) : supOk p c = supI X p.length c := by
  unfold supOk supI
  by_cases h0 : c.sup = []
  · rw [if_pos h0, if_pos h0]
  · rw [if_neg h0, if_neg h0, fnd_cl]
    have h1 := idx_app p r (fun a => low a.nm == low c.sup)
    rw [← h] at h1
    cases hp : p.findIdx? fun a => low a.nm == low c.sup with
    | none =>
      rw [hp] at h1
      rcases h1 with ⟨j, e, -⟩ | ⟨-, h1 | h1⟩
      · cases e
      · rw [h1, decide_eq_false (by decide)]
        rfl
      · rw [decide_eq_false (show ¬ (idxI X fun a => low a.nm == low c.sup) < (p.length : Int) by omega), Bool.and_false]
        rfl
    | some j =>
      rw [hp] at h1
      rcases h1 with ⟨k, e, hl, h1⟩ | ⟨e, -⟩
      · cases e
        rw [h1, decide_eq_true (by omega), decide_eq_true (by omega)]
        have : X[(j : Int).toNat]? = p[j]? := by rw [Int.toNat_natCast, h, List.getElem?_append_left hl]
        rw [this]
        rfl
      · cases e
theorem rCl_iff (T : List Ty) (X : List Cl) : ∀ (r p : List Cl), X = p ++ r → (rCl (T.map (·.nm)) p r = true ↔ ∀ j t, r[j]? = some t → rC T X (p.length + j) t = true)
  | [], p, _ => ⟨fun _ j t h => by simp at h, fun _ => rfl⟩
  | t :: r, p, h => by
    have ih := rCl_iff T X r (p ++ [t]) (by rw [h, List.append_assoc]; rfl)
    rw [List.length_append, List.length_singleton] at ih
    have hn : newN (p.map (·.nm)) t.nm = (typ t.nm && decide (idxI X (fun a => low a.nm == low t.nm) = (p.length : Int))) := by
      unfold newN
      rw [fnd_cl, h, new_at p r t (fun a => low a.nm == low t.nm) (beq_self_eq_true _)]
    have e : rCl (T.map (·.nm)) p (t :: r) = (rC T X p.length t && rCl (T.map (·.nm)) (p ++ [t]) r) := by
      show (newN (p.map (·.nm)) t.nm && (decide (0 ≤ t.kind) && decide (t.kind ≤ 2)) && supOk p t && has (T.map (·.nm)) t.must && has (T.map (·.nm)) t.may && rCl (T.map (·.nm)) (p ++ [t]) r) = _
      rw [hn, has_in, has_in, sup_iff X (t :: r) p h]
      unfold rC
      generalize typ t.nm = a
      generalize decide (idxI X (fun a => low a.nm == low t.nm) = (p.length : Int)) = b
      generalize (decide (0 ≤ t.kind) && decide (t.kind ≤ 2)) = d
      generalize isIn T t.must = f
      generalize isIn T t.may = g
      generalize supI X p.length t = k
      generalize rCl (T.map (·.nm)) (p ++ [t]) r = l
      revert a b d f g k l
      decide
    rw [e, Bool.and_eq_true, ih]
    constructor
    · rintro ⟨h1, h2⟩ j x hx
      cases j with
      | zero => cases hx; exact h1
      | succ j =>
        have := h2 j x hx
        rwa [show p.length + 1 + j = p.length + (j + 1) by omega] at this
    · intro hh
      refine ⟨hh 0 t rfl, fun j x hx => ?_⟩
      have := hh (j + 1) x hx
      rwa [show p.length + (j + 1) = p.length + 1 + j by omega] at this
/-- Which schemas may be: the bounds, the first type, each type, each class. -/
theorem okS_iff (s : Sch) : okS s = true ↔ (1 ≤ s.tys.length ∧ s.tys.length ≤ 40 ∧ s.cls.length ≤ 20) ∧ (∀ t, s.tys[0]? = some t → rFirst t = true) ∧ (∀ i t, s.tys[i]? = some t → rT s.tys i t = true) ∧ ∀ i c, s.cls[i]? = some c → rC s.tys s.cls i c = true := by
  have h1 := rTy_iff s.tys s.tys [] rfl
  have h2 := rCl_iff s.tys s.cls s.cls [] rfl
  simp only [List.map_nil, List.length_nil, Nat.zero_add] at h1 h2
  unfold okS Sch.tn
  simp only [Bool.and_eq_true, decide_eq_true_eq]
  rw [h1, h2]
  cases ht : s.tys with
  | nil =>
    constructor
    · rintro ⟨⟨⟨h, -⟩, -⟩, -⟩
      simp at h
    · rintro ⟨⟨h, -⟩, -⟩
      simp at h
  | cons t r =>
    constructor
    · rintro ⟨⟨⟨a, b⟩, c⟩, ⟨d, e⟩, f⟩
      exact ⟨⟨a, b, c⟩, fun x hx => by cases hx; exact d, e, f⟩
    · rintro ⟨⟨a, b, c⟩, d, e, f⟩
      exact ⟨⟨⟨a, b⟩, c⟩, ⟨d t rfl, e⟩, f⟩
end Go.Proofs.YtooodoacpdhbfaaGreatDoor.SC
