/-
  Part 21 of the proof: SdS, SdI.
-/
import Derived.Test.YtooodoacpdhbfaaGreatDoorSl20
import Derived.Test.YtooodoacpdhbfaaGreatDoorSl19
set_option linter.unusedSimpArgs false
set_option linter.unusedVariables false
namespace Go.Proofs.YtooodoacpdhbfaaGreatDoor.SC
set_option maxRecDepth 100000
open Go.RowKit K Go.Proofs.YtooodoacpdhbfaaGreatDoor.BE Go.Proofs.YtooodoacpdhbfaaGreatDoor.DN

set_option maxHeartbeats 8000000 in
theorem smallZ_any (s : B) (hs : Sz s) (w : World) : Calls Tryz.prog 33 #[.string (sb s)] w fun e w' => e = .returned (.string (sb (low s))) ∧ Fr No w w' := by
  obtain ⟨S, hS⟩ : ∃ S, sb s = S := ⟨_, rfl⟩
  obtain ⟨n, hn⟩ : ∃ n, s.length = n := ⟨_, rfl⟩
  have hsz : (S.size : Int) = n := by rw [← hS, sb_size, hn]
  have hni : (n : Int) ≤ 140737488351232 := by unfold Sz at hs; omega
  have HS := hid hS; have HN := hid hn
  rw [hS]
  clear hS hn hs
  go_enter Tryz.func33, Tryz.ntmps33
  go_wp2_with fail
  go_loopw [3, 4] (fun dv iv wr => ∃ (i : Nat), iv = .int .i64 i ∧ i ≤ n ∧ Hid (OwR 5 1 w wr dv i (u8s ((low s).take i)))) (fun _ iv _ => n - (intOf iv).toNat)
  case atStart => exact ⟨0, rfl, Nat.zero_le _, hid (owR_nil (Fr.refl _ _))⟩
  case round =>
    obtain ⟨i, rfl, hi, HO⟩ := hrel
    obtain ⟨va, vc, rfl⟩ := HO.out.1
    by_cases hlt : i < n
    · obtain ⟨c, hc⟩ : ∃ c, s[i]? = some c := ⟨_, List.getElem?_eq_getElem (by rw [HN.out]; exact hlt)⟩
      have hlti : (i : Int) < n := by omega
      have hi0 : (0 : Int) ≤ i := by omega
      have HC := hid hc
      have HLT := hid hlt
      have HNX : Hid (u8s ((low s).take (i + 1)) = u8s ((low s).take i) ++ [.int .u8 ((lo c).toNat : Int)]) := hid (by
        have hl : (low s)[i]? = some (lo c) := by simp [low, hc]
        rw [List.take_add_one, hl]
        simp [u8s])
      by_cases hup : 65 ≤ c.toNat ∧ c.toNat ≤ 90
      · have h1 : (65 : Int) ≤ (c.toNat : Int) := by omega
        have h2 : (c.toNat : Int) ≤ 90 := by omega
        have hlo : ((lo c).toNat : Int) = (c.toNat : Int) + 32 := by
          rw [lo_n, if_pos hup, UInt8.toNat_add]
          have : (32 : UInt8).toNat = 32 := rfl
          rw [this]
          omega
        rw [hlo] at HNX
        clear hup hlo hc hlt
        go_wp2_with (first
          | ((with_reducible refine K.atO (.index 9 _ _) ?_); refine wpL_valZ (by rfl) (.int .u8 (c.toNat : Int)) (exec_idxB _ _ rfl s HS.out i c HC.out _ rfl rfl rfl _) ?_)
          | ((with_reducible refine K.atO (.buildSlice 120 _ _) ?_); refine wpL_app1 rfl rfl _ _ _ 120 5 rfl rfl Tryz.underlying120 infoU rfl (by decide) (by decide) HO.out (.int .u8 ((c.toNat : Int) + 32)) [.int .u8 ((c.toNat : Int) + 32)] rfl rfl rfl (by simp [Value.oneCell']) (fun _ => rfl) (fun _ => rfl) (by omega) (by omega) ?_; intro q a4 c4 w4 HO4 HF4)
          | fail)
        refine ⟨⟨i + 1, by go_num, HLT.out, hid (by rw [HNX.out]; exact HO4.out)⟩, ?_⟩
        have := HLT.out
        simp [intOf]; omega
      · have hlo : lo c = c := by rw [lo_n, if_neg hup]
        rw [hlo] at HNX
        have hcase : c.toNat < 65 ∨ (65 ≤ c.toNat ∧ 90 < c.toNat) := by omega
        clear hup hlo hc hlt
        rcases hcase with h | ⟨h, h'⟩
        · have h1 : ¬ (65 : Int) ≤ (c.toNat : Int) := by omega
          clear h
          go_wp2_with (first
            | ((with_reducible refine K.atO (.index 9 _ _) ?_); refine wpL_valZ (by rfl) (.int .u8 (c.toNat : Int)) (exec_idxB _ _ rfl s HS.out i c HC.out _ rfl rfl rfl _) ?_)
            | ((with_reducible refine K.atO (.buildSlice 120 _ _) ?_); refine wpL_app1 rfl rfl _ _ _ 120 5 rfl rfl Tryz.underlying120 infoU rfl (by decide) (by decide) HO.out (.int .u8 (c.toNat : Int)) [.int .u8 (c.toNat : Int)] rfl rfl rfl (by simp [Value.oneCell']) (fun _ => rfl) (fun _ => rfl) (by omega) (by omega) ?_; intro q a4 c4 w4 HO4 HF4)
            | fail)
          refine ⟨⟨i + 1, by go_num, HLT.out, hid (by rw [HNX.out]; exact HO4.out)⟩, ?_⟩
          have := HLT.out
          simp [intOf]; omega
        · have h1 : (65 : Int) ≤ (c.toNat : Int) := by omega
          have h2 : ¬ (c.toNat : Int) ≤ 90 := by omega
          clear h h'
          go_wp2_with (first
            | ((with_reducible refine K.atO (.index 9 _ _) ?_); refine wpL_valZ (by rfl) (.int .u8 (c.toNat : Int)) (exec_idxB _ _ rfl s HS.out i c HC.out _ rfl rfl rfl _) ?_)
            | ((with_reducible refine K.atO (.buildSlice 120 _ _) ?_); refine wpL_app1 rfl rfl _ _ _ 120 5 rfl rfl Tryz.underlying120 infoU rfl (by decide) (by decide) HO.out (.int .u8 (c.toNat : Int)) [.int .u8 (c.toNat : Int)] rfl rfl rfl (by simp [Value.oneCell']) (fun _ => rfl) (fun _ => rfl) (by omega) (by omega) ?_; intro q a4 c4 w4 HO4 HF4)
            | fail)
          refine ⟨⟨i + 1, by go_num, HLT.out, hid (by rw [HNX.out]; exact HO4.out)⟩, ?_⟩
          have := HLT.out
          simp [intOf]; omega
    · obtain rfl : i = n := by omega
      have hall : (low s).take i = low s := List.take_of_length_le (by rw [low_length, HN.out]; exact Nat.le_refl _)
      have HO2 : Hid (OwR 5 1 w wr (.slice va i vc) (low s).length (u8s (low s))) := hid (by rw [low_length, HN.out]; have h := HO.out; rw [hall] at h; exact h)
      have HDEN := hid (owR_bytes HO2.out)
      clear hall hlt
      go_wp2_with (first
        | ((with_reducible refine K.atO (.convert _ 9 _) ?_); refine wpL_stringOf rfl _ _ _ _ rfl _ _ (low s) rfl HDEN.out Tryz.underlying120 Tryz.underlying5 Tryz.underlying9 ?_)
        | fail)
      go_ret
      exact ⟨rfl, HO.out.fr⟩
set_option maxHeartbeats 8000000 in
theorem at_any {S : Nat → Prop} (ve : Value) (en : Ent) (m : B) (w : World) (h : EnIn S w ve en) (hz : Sz m) : Calls Tryz.prog 32 #[ve, .string (sb m)] w fun e w' => e = .returned (.int .i64 (idxI en fun a => low a.1 == low m)) ∧ Fr No w w' := by
  obtain ⟨va, vcp, rfl, -, hle⟩ := h.form
  obtain ⟨n, hn⟩ : ∃ n, en.length = n := ⟨_, rfl⟩
  have HE := hid h; have HN := hid hn; have HM := hid hz
  rw [hn] at HE hle ⊢
  obtain ⟨R, hR⟩ : ∃ R, idxI en (fun a => low a.1 == low m) = R := ⟨_, rfl⟩
  have HR := hid hR
  rw [hR]
  have hni : (n : Int) ≤ 140737488351232 := by omega
  clear h hn hz hR
  go_enter Tryz.func32, Tryz.ntmps32
  go_wp2_with fail
  refine (smallZ_any m HM.out w).mono ?_
  rintro e w1 ⟨rfl, f1⟩
  have HF1 := hid f1
  clear f1
  go_wp2_with fail
  go_loopw [6] (fun iv wr => ∃ (i : Nat), iv = .int .i64 i ∧ i ≤ n ∧ Hid ((en.take i).any (fun a => low a.1 == low m) = false ∧ Fr No w wr)) (fun iv _ => n - (intOf iv).toNat)
  case atStart => exact ⟨0, rfl, Nat.zero_le _, hid ⟨rfl, HF1.out⟩⟩
  case round =>
    obtain ⟨i, rfl, hi, HI⟩ := hrel
    by_cases hlt : i < n
    · have hiX : i < en.length := by rw [HN.out]; exact hlt
      obtain ⟨⟨nm, ls⟩, hx⟩ : ∃ x, en[i]? = some x := ⟨_, List.getElem?_eq_getElem hiX⟩
      have hlti : (i : Int) < n := by omega
      have hi0 : (0 : Int) ≤ i := by omega
      obtain ⟨g, o, cq, cs, e1, -, -, hr, -, hp⟩ := (EnIn.fr (D := No) HE.out HI.out.2 (fun _ _ _ e => e)).get hx
      rw [HN.out] at e1
      simp only [Value.slice.injEq, true_and] at e1
      obtain ⟨rfl, rfl⟩ := e1
      obtain ⟨u, rfl, hznm, -⟩ := hp
      have d0 : wr.cell? ⟨g, o + i * 2, none⟩ = some (.string (sb nm)) := by have := hr 0 _ rfl; simpa using this
      have HZN := hid hznm
      have HXX := hid hx
      have HLT := hid hlt
      have HNX : Hid ((en.take (i + 1)).any (fun a => low a.1 == low m) = ((low nm == low m) || false)) := hid (by
        have hxx : en[i] = (nm, ls) := by rw [List.getElem?_eq_getElem hiX] at hx; exact Option.some.inj hx
        rw [List.take_succ_eq_append_getElem hiX, List.any_append, HI.out.1, hxx]; simp)
      clear hr hznm hx hlt hiX
      go_wp2_with fail
      refine (smallZ_any nm HZN.out wr).mono ?_
      rintro e w2 ⟨rfl, f2⟩
      have HF2 := hid (HI.out.2.trans' f2)
      clear f2 d0
      cases hq : (low nm == low m) with
      | true =>
        have HQ := hid hq
        have HQE : Hid (decide (low nm = low m) = true) := hid (by simpa using hq)
        clear hq
        go_wp2_with (first
          | ((with_reducible refine K.atO (.binOp .eql 9 _ _ _) ?_); refine wpL_valZ rfl (.bool true) (by rw [← HQE.out]; exact exec_eqS _ _ _ rfl (low nm) (low m) rfl rfl _) ?_)
          | fail)
        go_ret
        exact ⟨by rw [← HR.out, idx_at HI.out.1 HXX.out HQ.out]; rfl, HF2.out⟩
      | false =>
        have HQ := hid hq
        have HQE : Hid (decide (low nm = low m) = false) := hid (by simpa using hq)
        clear hq
        go_wp2_with (first
          | ((with_reducible refine K.atO (.binOp .eql 9 _ _ _) ?_); refine wpL_valZ rfl (.bool false) (by rw [← HQE.out]; exact exec_eqS _ _ _ rfl (low nm) (low m) rfl rfl _) ?_)
          | fail)
        refine ⟨⟨i + 1, by go_num, HLT.out, hid ⟨by rw [HNX.out, HQ.out]; rfl, HF2.out⟩⟩, ?_⟩
        have := HLT.out
        simp [intOf]; omega
    · obtain rfl : i = n := by omega
      go_wp2_with fail
      go_ret
      refine ⟨?_, HI.out.2⟩
      have h1 := HI.out.1
      rw [List.take_of_length_le (by rw [HN.out]; exact Nat.le_refl _)] at h1
      rw [← HR.out, idx_none h1]
      rfl
end Go.Proofs.YtooodoacpdhbfaaGreatDoor.SC

namespace Go.Proofs.YtooodoacpdhbfaaGreatDoor.SC
set_option maxRecDepth 100000
open Go.RowKit K Go.Proofs.YtooodoacpdhbfaaGreatDoor.BE Go.Proofs.YtooodoacpdhbfaaGreatDoor.DN

theorem infoSc5 : (Tryz.prog.info? 33).map (·.size) = some 2 := by kernel_rfl
theorem ok_first {s : Sch} (h : okS s = true) : ∃ t r, s.tys = t :: r ∧ low t.nm = oc ∧ t.sys = false := by
  unfold okS at h
  simp only [Bool.and_eq_true] at h
  have h1 := h.2.1.1
  cases ht : s.tys with
  | nil => rw [ht] at h1; cases h1
  | cons t r =>
    rw [ht] at h1
    unfold rFirst at h1
    simp only [Bool.and_eq_true, decide_eq_true_eq, Bool.not_eq_true'] at h1
    exact ⟨t, r, rfl, h1.1, h1.2.1.2⟩
theorem ty_first {s : Sch} (h : okS s = true) {n : B} (hn : low n = oc) : s.tyAt n = some 0 := by
  obtain ⟨t, r, e, h1, -⟩ := ok_first h
  unfold Sch.tyAt fnd Sch.tn
  rw [e, List.map_cons, List.findIdx?_cons, if_pos (by rw [h1, hn]; exact beq_self_eq_true oc)]
theorem open_ok {s : Sch} {en : Ent} {n v : B} (hok : okS s = true) (h : check s en = 0) (his : (s.tyAt n).isSome = true) (hsys : (tyOf s n).sys = true) (hn : (normE s n v).2 = 0) (hat : idxI en (fun a => low a.1 == low n) < 0) : check s (en ++ [(n, [v])]) = 0 ∧ low n ≠ oc := by
  obtain ⟨i, hi⟩ := Option.isSome_iff_exists.1 his
  have hlt : i < s.tys.length := (tyAt_lt hok hi).1
  obtain ⟨t, ht⟩ : ∃ t, s.tys[i]? = some t := ⟨_, List.getElem?_eq_getElem hlt⟩
  have hty : tyOf s n = t := by unfold tyOf; rw [hi, Option.bind_some, ht]; rfl
  rw [hty] at hsys
  have h0 : i ≠ 0 := fun e => by
    subst e
    obtain ⟨t0, r, e, -, h2⟩ := ok_first hok
    rw [e] at ht
    cases ht
    rw [h2] at hsys
    cases hsys
  refine ⟨check_more h hi ht hsys ?_ h0 ?_ ?_, fun e => h0 (by have := ty_first hok e; rw [hi] at this; exact Option.some.inj this)⟩
  · unfold normE at hn
    rw [hi, Option.bind_some, ht] at hn
    cases hv : normV t.syn v with
    | none => simp [hv] at hn
    | some x => rfl
  · intro a ha e
    have h2 := idx_any en (fun a => low a.1 == low n)
    rw [decide_eq_false (by omega)] at h2
    have := List.any_eq_false.1 h2.symm a ha
    simp [e] at this
  · intro m hm
    exact fnd_low hm hi
theorem rev_take {α : Type} {en : List α} {k : Nat} {x : α} (h : en[k]? = some x) : (en.drop k).reverse = (en.drop (k + 1)).reverse ++ [x] := by
  rw [(drop_at h).1, List.reverse_cons]
set_option maxHeartbeats 16000000 in
theorem openLaw {S2 S3 : Nat → Prop} (vt vc : Value) (s : Sch) (ve : Value) (en : Ent) (c v : B) (w : World) (h : TysIn S2 w vt s.tys) (hy : ClsIn S3 w vc s.cls) (he : EnIn (fun i => i < w.heap.size) w ve en) (hl : en.length * 40 ≤ 140737488351232) (hG : Gs w) (hc : Sz c) (hv : Sz v) :
    Calls Tryz.prog 9 #[.agg #[vt, vc], ve, .string (sb c), .string (sb v)] w fun e w' => e = .returned (.bool true) ∧ Fr No w w' := by
  obtain ⟨X, hXe⟩ : ∃ X : Nat → Prop, X = fun k => k < w.heap.size := ⟨_, rfl⟩
  have HX := hid hXe
  have HGX : Hid (GX X) := hid (by rw [hXe]; exact hG.gx)
  have HG := hid hG; have HT := hid h; have HC := hid hy
  obtain ⟨va1, vcp1, rfl, -, -⟩ := he.form
  obtain ⟨n, hn⟩ : ∃ n, en.length = n := ⟨_, rfl⟩
  have HN := hid hn; have HE := hid he; have HLE := hid hl
  rw [hn] at HE HLE ⊢
  have HZ := hid (show Sz c ∧ Sz v from ⟨hc, hv⟩)
  obtain ⟨ia, hia, hza, hsa, hba⟩ := info_ex infoAt3
  have IA := hid hia; have ZA := hid hza; have SA := hid hsa; have BA := hid hba
  clear h hy hG he hXe hc hv hn hl hia hza hsa hba
  go_enter Tryz.func9, Tryz.ntmps9
  go_wp2_with (first
    | ((with_reducible refine K.atO (.box 33 _) ?_); refine wpL_box rfl _ _ rfl _ rfl [vt, vc] rfl ?_; intro w1 HB1 HF1 HS1; refine Hid.out ?_)
    | fail)
  obtain ⟨sb0, hsb⟩ : ∃ b, w.heap.size = b := ⟨_, rfl⟩
  rw [hsb] at HB1 ⊢
  clear hsb HS1
  refine hid ?_
  go_wp2_with fail
  refine (awake_any w1 (HG.out.no HF1.out)).mono ?_
  rintro e w2 ⟨rfl, f2⟩
  have HR2 : Hid (w2.rangeAt sb0 0 [vt, vc]) := hid ((HB1.out.fr f2 id).range 0 _ rfl)
  have HF2 : Hid (Fr No w w2) := hid (HF1.out.trans' f2)
  have HT2 := hid (TysIn.fr (D := No) HT.out HF2.out (fun _ _ _ e => e)); have HC2 := hid (ClsIn.fr (D := No) HC.out HF2.out (fun _ _ _ e => e))
  clear f2 HB1 HF1 HT HC
  go_wp2_with (first
    | ((with_reducible refine K.atO (.load 33 _) ?_); refine wpL_valZ rfl (.agg #[vt, vc]) (exec_load _ _ rfl sb0 0 rfl [vt, vc] _ rfl rfl infoSc5 w2 HR2.out) ?_)
    | fail)
  cases hok : okS s with
  | false =>
    refine (new_bad vt vc s w2 HT2.out HC2.out hok).mono ?_
    rintro e w3 ⟨rfl, f3⟩
    go_wp2_with fail
    go_ret
    exact ⟨rfl, HF2.out.trans' f3⟩
  | true =>
    refine (new_ok vt vc s w2 HT2.out HC2.out hok).mono ?_
    rintro e w3 ⟨q, rfl, hs, f3⟩
    have HS3 : Hid (Sx w3 X q s) := hid (hs.less (fun k hk => by rw [HX.out] at hk; exact Nat.lt_of_lt_of_le hk HF2.out.size))
    have HG3 := hid (HG.out.no (HF2.out.trans' f3))
    have HF3 : Hid (Fr No w w3) := hid (HF2.out.trans' f3)
    have HQ : Hid (w.heap.size ≤ q) := hid (by have := HS3.out.nx; rw [HX.out] at this; omega)
    have HQL : Hid (q < w3.heap.size) := hid hs.lt
    have HFQ : Hid (∀ u v : World, Fr No w u → Fr (fun i => i = q) u v → Fr No w v) := hid (fun _ _ f g => f.trans g (fun i e => .inr (by rw [e]; exact HQ.out)))
    have HXB : Hid (∀ u, Fr No w u → ∀ k, X k → k < u.heap.size) := hid (fun u f k hk => by rw [HX.out] at hk; exact Nat.lt_of_lt_of_le (show k < w.heap.size from hk) f.size)
    have HE3 : Hid (EnIn (fun i => i < w.heap.size) w3 (.slice va1 n vcp1) en) := hid (EnIn.fr (D := No) HE.out HF3.out (fun _ _ _ e => e))
    clear hs f3 HT2 HC2 HF2 HR2 hok HE HG
    have hni : (n : Int) ≤ 140737488351232 := by have := HLE.out; omega
    have HSE : Hid (∀ k, k < w.heap.size → k ≠ q) := hid (fun k hk => by have := HQ.out; omega)
    have HOK := hid HS3.out.ok
    go_wp2_with fail
    refine (check_any X q s _ en w3 HS3.out (HXB.out _ HF3.out) HGX.out HG3.out HE3.out HSE.out).mono ?_
    rintro e w4 ⟨rfl, hs, f⟩
    have HS4 := hid hs; have HG4 := hid (hs.bb HG3.out f HGX.out); have HF4 := hid (HFQ.out _ _ HF3.out f)
    have HE4 := hid (HE3.out.fr f (fun i hi _ e => HSE.out i hi e))
    have HQ4 : Hid (q < w4.heap.size) := hid hs.lt
    clear hs f HS3 HG3 HE3 HF3 HQL
    by_cases h0 : check s en = 0
    case neg =>
      obtain ⟨F, hF⟩ : ∃ F, check s en = F := ⟨_, rfl⟩
      rw [hF] at h0 ⊢
      clear hF
      go_wp2_with fail
      go_ret
      exact ⟨rfl, HF4.out⟩
    case pos =>
      have HCK := hid h0
      rw [h0]
      clear h0
      obtain ⟨base, hbase⟩ : ∃ b, w4.heap.size = b := ⟨_, rfl⟩
      have HBASE := hid hbase
      have HWB : Hid (w.heap.size ≤ base) := hid (by rw [← hbase]; exact HF4.out.size)
      rw [hbase] at HQ4
      clear hbase
      go_wp2_with fail
      go_loopw [13, 14] (fun sv iv wr => ∃ (j : Nat) (va : Option Addr) (vcp : Nat) (L : List (List Value)), iv = .int .i64 ((j : Int) - 1) ∧ sv = .slice va (n - j) vcp ∧ j ≤ n ∧ Hid (RwL (fun i => i < w.heap.size) base wr va vcp (en.drop j).reverse L ∧ Fr No w4 wr ∧ (en.drop j).reverse.length = n - j)) (fun _ iv _ => (intOf iv + 1).toNat)
      case atStart => exact ⟨n, none, 0, [], rfl, by rw [Nat.sub_self], Nat.le_refl _, hid (by rw [← HN.out, List.drop_length]; exact ⟨RwL.nil, Fr.refl _ _, by simp⟩)⟩
      case round =>
        obtain ⟨j, va, vcp, L, rfl, rfl, hj, HI⟩ := hrel
        cases j with
        | succ k =>
          obtain ⟨⟨nm, ls⟩, hx⟩ : ∃ x, en[k]? = some x := ⟨_, List.getElem?_eq_getElem (by rw [HN.out]; omega)⟩
          have ek : (((k + 1 : Nat) : Int) - 1) = (k : Int) := by omega
          rw [ek]
          have hlti : (k : Int) < n := by omega
          have hi0 : (0 : Int) ≤ k := by omega
          obtain ⟨g, o, cq, cs, e1, hgS, -, hr, -, hp⟩ := (EnIn.fr (D := No) HE4.out HI.out.2.1 (fun _ _ _ e => e)).get hx
          rw [HN.out] at e1
          simp only [Value.slice.injEq, true_and] at e1
          obtain ⟨rfl, rfl⟩ := e1
          obtain ⟨u, rfl, hznm, hu⟩ := hp
          obtain ⟨ua, ucp, rfl, -, -⟩ := hu.form
          obtain ⟨un, hun⟩ : ∃ k, ls.length = k := ⟨_, rfl⟩
          rw [hun] at hu hr
          have HU := hid hu; have HRR := hid hr; have HZN := hid hznm
          have HJ := hid hj
          have HTK := hid (rev_take hx)
          have HNL := hid HI.out.2.2; have HRW := hid HI.out.1; have HFW := hid HI.out.2.1
          obtain ⟨xs, hxs⟩ : ∃ xs, (en.drop (k + 1)).reverse = xs := ⟨_, rfl⟩
          rw [hxs] at HTK HNL HRW
          obtain ⟨m, hm⟩ : ∃ m, n - (k + 1) = m := ⟨_, rfl⟩
          have HM := hid hm
          rw [hm] at HNL ⊢
          clear hr hu hznm hx hj hxs hun HI hgS ek hm
          go_wp2_with (first
            | ((with_reducible refine K.atO (.load 64 _) ?_); refine wpL_valZ rfl (.agg #[.string (sb nm), .slice ua un ucp]) (exec_load _ _ rfl g (o + k * 2) rfl [.string (sb nm), .slice ua un ucp] _ rfl rfl infoAt _ HRR.out) ?_)
            | ((with_reducible refine K.atO (.buildSlice 56 _ _) ?_); refine wpL_buildOne rfl 56 64 _ rfl ia _ Tryz.underlying56 IA.out ZA.out (by rw [SA.out]; decide) (by rw [SA.out]; decide) (.agg #[.string (sb nm), .slice ua un ucp]) [.string (sb nm), .slice ua un ucp] rfl rfl (by rw [SA.out]; rfl) ?_; intro y4 HB4 HF4y HS4y)
            | ((with_reducible refine K.atO (.call { callee := .builtin .append, args := _, argTypes := _ }) ?_); refine wpL_append rfl _ _ 56 rfl base 64 ia _ 2 40 Tryz.underlying56 IA.out ZA.out SA.out BA.out rfl (by decide) (.slice va m vcp) m L.flatten rfl (by have h := (HRW.out.fr (D := No) HF4y.out (fun _ _ _ e => e) (fun _ _ _ e => e)).2.2.2; rw [HNL.out] at h; exact h) (some ⟨wr.heap.size, 0, none⟩) 1 1 [.string (sb nm), .slice ua un ucp] rfl rfl (.inr ⟨_, rfl, HB4.out.news⟩) (by intro u hu; simp only [List.mem_cons, List.not_mem_nil, or_false] at hu; rcases hu with rfl | rfl <;> rfl) (by unfold maxLen; have := HM.out; have := HLE.out; omega) (by have := HM.out; have := HJ.out; have := HLE.out; omega) (by have := HFW.out.size; have := HF4y.out.size; have := HBASE.out; omega) ?_; intro a5 c5 y5 HO5 HG5 HA5)
            | fail)
          have HRW2 : Hid (RwL (fun i => i < w.heap.size) base y4 va vcp xs L) := hid (HRW.out.fr (D := No) HF4y.out (fun _ _ _ e => e) (fun _ _ _ e => e))
          have hown : y4.ownsRow base 64 2 (.slice va m vcp) m L.flatten := by have := HRW2.out.2.2.2; rw [HNL.out] at this; exact this
          have HFB : Hid (Fr (fun k => base ≤ k) y4 y5) := hid ((frown HG5.out).mono (fun k e => (own_ge hown k e).1))
          refine ⟨⟨k, a5, c5, _, by go_num, by rw [show n - k = m + 1 by have := HM.out; have := HJ.out; omega], by have := HJ.out; omega, hid (by
            rw [HTK.out]
            refine ⟨HRW2.out.push HFB.out (fun i hi => Nat.lt_of_lt_of_le hi HWB.out) ⟨_, rfl, HZN.out, LsIn.fr (D := No) (by have := HU.out; exact this) HF4y.out (fun _ _ _ e => e)⟩ (by rw [HNL.out]; exact HO5.out), (HFW.out.trans' HF4y.out).trans HFB.out (fun k e => .inr (by rw [HBASE.out]; exact e)), by rw [List.length_append, HNL.out]; have := HM.out; have := HJ.out; simp; omega⟩)⟩, ?_⟩
          simp [intOf]
        | zero =>
          have e0 : (((0 : Nat) : Int) - 1) = -1 := rfl
          rw [e0, Nat.sub_zero]
          have HGR : Hid (EnIn (fun k => k < w.heap.size ∨ base ≤ k) wr (.slice va n vcp) en.reverse) := hid (by
            have h1 := HI.out.1
            have h2 := HI.out.2.2
            rw [List.drop_zero] at h1 h2
            have := h1.en (by rw [h2]; have := HLE.out; omega)
            rw [h2] at this
            exact this)
          have HFW : Hid (Fr No w wr) := hid (HF4.out.trans' HI.out.2.1)
          have HS5 := hid (HS4.out.no HI.out.2.1); have HG5 := hid (HG4.out.no HI.out.2.1)
          have HE5 : Hid (EnIn (fun k => k < w.heap.size) wr (.slice va1 n vcp1) en) := hid (EnIn.fr (D := No) HE4.out HI.out.2.1 (fun _ _ _ e => e))
          have HSG : Hid (∀ k, (k < w.heap.size ∨ base ≤ k) → k ≠ q) := hid (fun k hk => by have := HQ.out; have := HQ4.out; omega)
          have HBK := hid (check_back HCK.out)
          clear HI HS4 HG4 HE4 hj e0
          go_wp2_with fail
          refine (check_any X q s _ en.reverse wr HS5.out (HXB.out _ HFW.out) HGX.out HG5.out HGR.out HSG.out).mono ?_
          rintro e z6 ⟨rfl, hs, f⟩
          have HS6 := hid hs; have HG6 := hid (hs.bb HG5.out f HGX.out); have HF6 := hid (HFQ.out _ _ HFW.out f)
          have HE6 := hid (HE5.out.fr f (fun i hi _ e => HSE.out i hi e))
          rw [HBK.out]
          clear hs f HS5 HG5 HE5 HFW HGR HSG HBK
          go_wp2_with fail
          refine (type_any X q s c z6 HS6.out (HXB.out _ HF6.out) HZ.out.1).mono ?_
          rintro e z7 ⟨rfl, hs, f⟩
          have HS7 := hid hs.sx; have HG7 := hid (hs.bb HG6.out f HGX.out); have HF7 := hid (HFQ.out _ _ HF6.out f)
          have HE7 := hid (HE6.out.fr f (fun i hi _ e => HSE.out i hi e))
          clear hs f HS6 HG6 HE6 HF6
          obtain ⟨ty, hty⟩ : ∃ t, tyOf s c = t := ⟨_, rfl⟩
          obtain ⟨B1, hB1⟩ : ∃ b, (s.tyAt c).isSome = b := ⟨_, rfl⟩
          have HTY := hid hty; have HB1_ := hid hB1
          rw [hty, hB1]
          clear hty hB1
          go_wp2_with (first
            | ((with_reducible refine K.atO (.alloc 39) ?_); refine wpL_alloc rfl _ rfl _ zeroTy [.string ⟨#[]⟩, .int .i64 0, .bool false, .bool false, .bool false, .bool false] rfl ?_; intro y8 HY8 GY8 TY8)
            | ((with_reducible refine K.atO (.store 39 _ _) ?_); refine wpL_store rfl _ _ _ rfl z7.heap.size 0 (tyV ty) rfl rfl 39 _ HY8.out (by simp [tyV]) infoTy (by intro v hv; simp only [tyV, List.mem_cons, List.not_mem_nil, or_false] at hv; rcases hv with rfl | rfl | rfl | rfl | rfl | rfl <;> rfl) ?_; intro y9 HY9 GY9 TY9; refine Hid.out ?_)
            | fail)
          obtain ⟨tb, htb⟩ : ∃ b, z7.heap.size = b := ⟨_, rfl⟩
          have HF9 : Hid (Fr No z7 y9) := hid (GY8.out.trans GY9.out (fun k e => .inr (by have e : k = z7.heap.size := e; omega)))
          have HTB : Hid (w.heap.size ≤ tb ∧ q < tb) := hid (by rw [← htb]; exact ⟨HF7.out.size, HS7.out.lt⟩)
          have HB9 : Hid (Blk y9 z7.heap.size 39 (tyV ty)) := hid HY9.out
          rw [htb] at HB9 ⊢
          have HS9 := hid (HS7.out.no HF9.out); have HG9 := hid (HG7.out.no HF9.out); have HW9 := hid (HF7.out.trans' HF9.out)
          have HE9 : Hid (EnIn (fun k => k < w.heap.size) y9 (.slice va1 n vcp1) en) := hid (EnIn.fr (D := No) HE7.out HF9.out (fun _ _ _ e => e))
          clear htb HY8 GY8 TY8 HY9 GY9 TY9 HF9 HS7 HG7 HF7 HE7
          refine hid ?_
          go_wp2_with fail
          refine (norm_any X q s c v y9 HS9.out (HXB.out _ HW9.out) HGX.out HG9.out HZ.out.1 HZ.out.2).mono ?_
          rintro e x1 ⟨rfl, hs, f⟩
          have HS10 := hid hs.sx; have HG10 := hid (hs.bb HG9.out f HGX.out); have HF10 := hid (HFQ.out _ _ HW9.out f)
          have HE10 := hid (HE9.out.fr f (fun i hi _ e => HSE.out i hi e))
          have HB10 := hid (HB9.out.fr f (by show ¬ tb = q; have := HTB.out; omega))
          clear hs f HS9 HG9 HE9 HW9 HB9
          obtain ⟨M1, hM1⟩ : ∃ M, (normE s c v).1 = M := ⟨_, rfl⟩
          obtain ⟨M2, hM2⟩ : ∃ M, (normE s c v).2 = M := ⟨_, rfl⟩
          have HM2 := hid hM2
          rw [hM1, hM2]
          clear hM1 hM2
          go_wp2_with fail
          refine (at_any _ en c x1 HE10.out HZ.out.1).mono ?_
          rintro e x2 ⟨rfl, f⟩
          have HS11 := hid (HS10.out.no f); have HG11 := hid (HG10.out.no f); have HF11 := hid (HF10.out.trans' f)
          have HE11 : Hid (EnIn (fun k => k < w.heap.size) x2 (.slice va1 n vcp1) en) := hid (EnIn.fr (D := No) HE10.out f (fun _ _ _ e => e))
          have c4 : x2.cell? ⟨tb, 4, none⟩ = some (.bool ty.sys) := (HB10.out.fr f id).cell 4
          clear f HS10 HG10 HE10 HF10 HB10
          have HIB := hid (idx_b en (fun a => low a.1 == low c))
          obtain ⟨A, hA⟩ : ∃ A, idxI en (fun a => low a.1 == low c) = A := ⟨_, rfl⟩
          have HA := hid hA
          rw [hA]
          clear hA
          obtain ⟨B2, hB2⟩ : ∃ b, ty.sys = b := ⟨_, rfl⟩
          have HB2_ := hid hB2
          rw [hB2] at c4
          clear hB2
          cases B1 with
          | false =>
            clear HIB
            go_wp2_with fail
            go_ret
            exact ⟨rfl, HF11.out⟩
          | true =>
            cases B2 with
            | false =>
              clear HIB
              go_wp2_with fail
              go_ret
              exact ⟨rfl, HF11.out⟩
            | true =>
              by_cases hm0 : M2 = 0
              case neg =>
                clear HIB
                go_wp2_with fail
                go_ret
                exact ⟨rfl, HF11.out⟩
              case pos =>
                subst hm0
                by_cases ha0 : 0 ≤ A
                · clear HIB
                  go_wp2_with fail
                  go_ret
                  exact ⟨rfl, HF11.out⟩
                · obtain ⟨hmore, hlow⟩ := open_ok HOK.out HCK.out HB1_.out (by rw [HTY.out]; exact HB2_.out) HM2.out (by rw [HA.out]; omega)
                  have HMORE := hid hmore
                  have HLOW : Hid ((!decide (low c = oc)) = true) := hid (by rw [decide_eq_false hlow]; rfl)
                  obtain ⟨is, his, hzs, hss, hbs⟩ := info_ex infoS3
                  have IS := hid his; have ZS := hid hzs; have SS := hid hss
                  obtain ⟨L, hLl, hLk, hLp, hLr⟩ := slCells HE11.out
                  have HL := hid (show L.length = n ∧ (∀ c ∈ L, c.length = 2) ∧ (∀ (j : Nat) (x : Atr) (c : List Value), en[j]? = some x → L[j]? = some c → AtC (fun k => k < w.heap.size) x2 x c) from ⟨hLl, hLk, hLp⟩)
                  have HFL : Hid (L.flatten.length = n * 2) := hid (by rw [flat_length L hLk, hLl])
                  have HONE : Hid (∀ v ∈ L.flatten, v.oneCell' = true) := hid (fun v hv => by
                    obtain ⟨c, hc, hvc⟩ := List.mem_flatten.1 hv
                    obtain ⟨j, hj, rfl⟩ := List.mem_iff_getElem.1 hc
                    have hjl : j < en.length := by rw [HN.out]; omega
                    obtain ⟨u, e, -, hu⟩ := hLp j _ _ (List.getElem?_eq_getElem hjl) (List.getElem?_eq_getElem hj)
                    obtain ⟨ua, ucp, rfl, -, -⟩ := hu.form
                    rw [e] at hvc
                    simp only [List.mem_cons, List.not_mem_nil, or_false] at hvc
                    rcases hvc with rfl | rfl <;> rfl)
                  obtain ⟨V, hV⟩ : ∃ V, L.flatten = V := ⟨_, rfl⟩
                  have HV := hid hV
                  rw [hV] at hLr HFL HONE
                  have HR := hid hLr
                  obtain ⟨b2, hb2⟩ : ∃ b, x2.heap.size = b := ⟨_, rfl⟩
                  have HB2 := hid hb2
                  have HQ2 : Hid (q < b2 ∧ w.heap.size ≤ b2) := hid (by rw [← hb2]; exact ⟨HS11.out.lt, HF11.out.size⟩)
                  clear hmore hlow his hzs hss hbs hLl hLk hLp hV hLr HIB hb2
                  go_wp2_with (first
                    | ((with_reducible refine K.atO (.call { callee := .builtin .append, args := _, argTypes := _ }) ?_); (fail_if_success (have := Hx4)); refine wpL_appendNew rfl _ _ 56 rfl x2.heap.size 64 ia _ 2 40 Tryz.underlying56 IA.out ZA.out SA.out BA.out rfl (by decide) (.slice (some ⟨x2.heap.size, 0, none⟩) 0 0) rfl (Hx3.out.own (Nat.le_refl _) rfl (Nat.le_refl _) (by unfold maxLen; omega) rfl rfl) va1 n vcp1 V rfl HFL.out (HR.out.imp id (fun ⟨g, o, e, hg, hr⟩ => ⟨_, e, fun j u hj => by rw [Addr.add_mid]; exact (Gx3.out.range hr id) j u hj⟩)) HONE.out (by unfold maxLen; have := HLE.out; omega) (by have := HLE.out; omega) Gx3.out.size ?_; intro a4 c4 x4 Hx4 Gx4 Ax4; simp only [Act.put, K.put3])
                    | ((with_reducible refine K.atO (.call { callee := .builtin .append, args := _, argTypes := _ }) ?_); refine wpL_append rfl _ _ 56 rfl x2.heap.size 64 ia _ 2 40 Tryz.underlying56 IA.out ZA.out SA.out BA.out rfl (by decide) (.slice a4 n c4) n V rfl (own_fr Hx4.out (Gx5.out.trans' Gx6.out) (fun _ _ e => e)) (some ⟨x5.heap.size, 0, none⟩) 1 1 [.string (sb c), .slice (some ⟨x4.heap.size, 0, none⟩) 1 1] rfl rfl (.inr ⟨_, rfl, Hx6.out.news⟩) (by intro u hu; simp only [List.mem_cons, List.not_mem_nil, or_false] at hu; rcases hu with rfl | rfl <;> rfl) (by unfold maxLen; have := HLE.out; omega) (by have := HLE.out; omega) (Nat.le_trans Gx3.out.size (Nat.le_trans Gx4.out.size (Nat.le_trans Gx5.out.size Gx6.out.size))) ?_; intro a7 c7 x7 Hx7 Gx7 Ax7; simp only [Act.put, K.put3])
                    | ((with_reducible refine K.atO (.buildSlice 42 _ _) ?_); refine wpL_buildOne rfl 42 9 _ rfl is _ Tryz.underlying42 IS.out ZS.out (by rw [SS.out]; decide) (by rw [SS.out]; decide) (.string (sb v)) [.string (sb v)] rfl rfl (by rw [SS.out]; rfl) ?_; intro x5 Hx5 Gx5 Tx5; simp only [Act.put, K.put3])
                    | ((with_reducible refine K.atO (.build 64 _) ?_); refine wpL_valZ rfl (.agg #[.string (sb c), .slice (some ⟨x4.heap.size, 0, none⟩) 1 1]) (exec_bld _ [(0, .tmp 97), (1, .tmp 99)] rfl [(0, .string (sb c)), (1, .slice (some ⟨x4.heap.size, 0, none⟩) 1 1)] rfl _ _ (bat _ _ _ _)) ?_; simp only [Act.put, K.put3])
                    | ((with_reducible refine K.atO (.buildSlice 56 _ _) ?_); (have := Hx5); refine wpL_buildOne rfl 56 64 _ rfl ia _ Tryz.underlying56 IA.out ZA.out (by rw [SA.out]; decide) (by rw [SA.out]; decide) (.agg #[.string (sb c), .slice (some ⟨x4.heap.size, 0, none⟩) 1 1]) [.string (sb c), .slice (some ⟨x4.heap.size, 0, none⟩) 1 1] rfl rfl (by rw [SA.out]; rfl) ?_; intro x6 Hx6 Gx6 Tx6; simp only [Act.put, K.put3])
                    | ((with_reducible refine K.atO (.buildSlice 56 _ _) ?_); refine wpL_buildNone rfl 56 64 rfl (fun _ => by kernel_rfl) ?_; intro x3 Hx3 Gx3 Tx3; simp only [Act.put, K.put3])
                    | fail)
                  have HF4 : Hid (Fr No x2 x4) := hid (Gx3.out.grown Gx4.out (fun k e => .inr (by cases e; exact Nat.le_refl _)))
                  have hown : x6.ownsRow x2.heap.size 64 2 (.slice a4 n c4) n V := own_fr Hx4.out (Gx5.out.trans' Gx6.out) (fun _ _ e => e)
                  have HFB : Hid (Fr (fun k => x2.heap.size ≤ k) x6 x7) := hid ((frown Gx7.out).mono (fun k e => (own_ge hown k e).1))
                  have HF6 : Hid (Fr No x2 x6) := hid ((HF4.out.trans' Gx5.out).trans' Gx6.out)
                  have HF7 : Hid (Fr No x2 x7) := hid (HF6.out.trans HFB.out (fun k e => .inr e))
                  have hls : LsIn (fun k => k < w.heap.size ∨ x2.heap.size ≤ k) x7 (.slice (some ⟨x4.heap.size, 0, none⟩) 1 1) [v] := by
                    have hB : Blk x7 x4.heap.size 9 (strs [v]) := (Hx5.out.fr Gx6.out id).grown Gx7.out (fun e => by have := (own_ge Hx4.out _ e.symm).2; omega)
                    exact LsIn.mono (blk_ls [v] hB (by simp) (by intro y hy; rw [List.mem_singleton.1 hy]; exact HZ.out.2)) (fun i hi _ => .inr (by have hi : i = x4.heap.size := hi; rw [hi]; exact Nat.le_trans Gx3.out.size Gx4.out.size))
                  have hlen : (en ++ [(c, [v])]).length = n + 1 := by rw [List.length_append, HN.out]; rfl
                  have hen : EnIn (fun k => k < w.heap.size ∨ x2.heap.size ≤ k) x7 (.slice a7 (n + 1) c7) (en ++ [(c, [v])]) :=
                    own_sl_S Hx7.out (L ++ [[.string (sb c), .slice (some ⟨x4.heap.size, 0, none⟩) 1 1]]) (by rw [List.flatten_append, HV.out]; rfl) hlen (by rw [List.length_append, HL.out.1]; rfl) (fun y hy => by
                      rcases List.mem_append.1 hy with hy | hy
                      · exact HL.out.2.1 y hy
                      · rw [List.mem_singleton.1 hy]; rfl) (fun j y z hy hz => by
                      by_cases hj : j < n
                      · rw [List.getElem?_append_left (by rw [HN.out]; exact hj)] at hy
                        rw [List.getElem?_append_left (by rw [HL.out.1]; exact hj)] at hz
                        exact AtC.mono (AtC.fr (D := No) (HL.out.2.2 j y z hy hz) HF7.out (fun _ _ _ e => e)) (fun i hi _ => .inl hi)
                      · rw [List.getElem?_append_right (by rw [HN.out]; omega), HN.out] at hy
                        rw [List.getElem?_append_right (by rw [HL.out.1]; omega), HL.out.1] at hz
                        obtain ⟨k, hk⟩ : ∃ k, j - n = k := ⟨_, rfl⟩
                        rw [hk] at hy hz
                        cases k with
                        | zero => cases hy; cases hz; exact ⟨_, rfl, HZ.out.1, hls⟩
                        | succ k => simp at hy) (by have := HLE.out; omega) (fun g hg => .inr (own_ge Hx7.out g hg).1)
                  have HEN := hid hen
                  have HSG : Hid (∀ k, (k < w.heap.size ∨ x2.heap.size ≤ k) → k ≠ q) := hid (fun k hk => by have := HQ.out; have := HQ2.out.1; have := HB2.out; omega)
                  have HS12 := hid (HS11.out.no HF7.out); have HG12 := hid (HG11.out.no HF7.out); have HF12 := hid (HF11.out.trans' HF7.out)
                  clear hen hls hlen hown Hx3 Hx4 Hx5 Hx6 Hx7 Gx3 Gx4 Gx5 Gx6 Gx7 Tx3 Ax4 Tx5 Tx6 Ax7 HF4 HFB HF6 HF7 HS11 HG11 HF11 HL HFL HONE HV HR
                  refine (check_any X q s _ (en ++ [(c, [v])]) x7 HS12.out (HXB.out _ HF12.out) HGX.out HG12.out HEN.out HSG.out).mono ?_
                  rintro e x8 ⟨rfl, hs, f⟩
                  have HF13 := hid (HFQ.out _ _ HF12.out f)
                  rw [HMORE.out]
                  clear hs f
                  go_wp2_with fail
                  refine (smallZ_any c HZ.out.1 x8).mono ?_
                  rintro e x9 ⟨rfl, f⟩
                  have HF14 := hid (HF13.out.trans' f)
                  clear f
                  go_wp2_with (first
                    | ((with_reducible refine K.atO (.binOp .neq 9 _ _ _) ?_); refine wpL_valZ rfl (.bool true) (by rw [← HLOW.out]; exact exec_neS _ _ _ rfl (low c) oc rfl rfl _) ?_)
                    | fail)
                  go_ret
                  exact ⟨rfl, HF14.out⟩
end Go.Proofs.YtooodoacpdhbfaaGreatDoor.SC
