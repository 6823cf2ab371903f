/-
  Part 26 of the proof: FtKy, DrR, DnOne, DzA.
-/
import Derived.Test.YtgbiicipkbpmeaaGreatDoorFe25
import Derived.Test.YtgbiicipkbpmeaaGreatDoorFe17
import Derived.Test.YtgbiicipkbpmeaaGreatDoorFe10
import Derived.Test.YtgbiicipkbpmeaaGreatDoorFe11
import Derived.Test.YtgbiicipkbpmeaaGreatDoorFe13
set_option linter.unusedSimpArgs false
set_option linter.unusedVariables false
namespace Go.Proofs.YtgbiicipkbpmeaaGreatDoor.FT
set_option maxRecDepth 100000
set_option maxHeartbeats 128000000
open Go.RowKit K BE DN SC
theorem rds_norm {r : Rd} (h : RdS r) : RdS (normR r) := by
 refine ⟨by unfold normR; rw [srt_len, List.length_map]; exact h.1, fun a ha => ?_⟩
 unfold normR at ha
 rw [srt_mem] at ha
 obtain ⟨y, hy, rfl⟩ := List.mem_map.1 ha
 have h1 := h.2 y hy
 exact ⟨by show (low y.1).length ≤ _; rw [low_length]; exact h1.1, by show (fold y.2).length ≤ _; exact Nat.le_trans (fold_len y.2) h1.2⟩
theorem stepT_len {r : Rd} (h : RdS r) : (DN.stepT r).length ≤ 4194306000 := by
 have := step_len (r.map avaT) 4194305 (fun x hx => by
  obtain ⟨a, ha, rfl⟩ := List.mem_map.1 hx
  exact (avaT_len h ha).1)
 rw [List.length_map] at this
 have := Nat.mul_le_mul_right 4194306 h.1
 have e : (DN.stepT r).length = (joinB [43] (r.map avaT)).length := rfl
 omega
def keyP (m : Nm) : B := (m.reverse.map fun r => DN.stepT r ++ [0]).flatten
theorem keyP_cons (r : Rd) (m : Nm) : keyP (r :: m) = keyP m ++ (DN.stepT r ++ [0]) := by unfold keyP; simp
theorem keyP_len : ∀ m : Nm, (∀ r ∈ m, RdS r) → (keyP m).length ≤ m.length * 4194306001
 | [], _ => by simp [keyP]
 | r :: m, h => by
  have h1 := keyP_len m fun x hx => h x (by simp [hx])
  have h2 := stepT_len (h r (by simp))
  rw [keyP_cons, List.length_append, List.length_append]
  have e : (r :: m).length * 4194306001 = m.length * 4194306001 + 4194306001 := by rw [List.length_cons, Nat.add_mul, Nat.one_mul]
  rw [e]
  simp only [List.length_cons, List.length_nil]
  omega
theorem rkey_any {S : Nat → Prop} (v : Value) (n : Nm) (w : World) (h : NmIn S w v n) (hl : n.length ≤ 1000) (hb : ∀ r ∈ n, RdS r) :
  Calls Tryz.prog 93 #[v] w fun e w' => e = .returned (.string (sb (key n))) ∧ Fr No w w' := by
 have HNM := hid (rnorm_any v n w h hl hb)
 obtain ⟨va, vcp, rfl, -, -⟩ := h.form
 have hbm : ∀ r ∈ norm n, RdS r := fun r hr => by
  unfold norm at hr
  obtain ⟨q, hq, rfl⟩ := List.mem_map.1 hr
  exact rds_norm (hb q hq)
 have hlm : (norm n).length ≤ 1000 := by rw [norm_length]; exact hl
 have hk : key n = keyP (norm n) := rfl
 rw [hk]
 obtain ⟨m, hm⟩ : ∃ m, norm n = m := ⟨_, rfl⟩
 rw [hm] at HNM hbm hlm ⊢
 have HBM := hid hbm
 obtain ⟨M, hM⟩ : ∃ M, m.length = M := ⟨_, rfl⟩
 have HMM := hid hM
 have hMi : (M : Int) ≤ 1000 := by omega
 clear h hl hb hbm hlm hk hm
 obtain ⟨N, hN⟩ : ∃ N, n.length = N := ⟨_, rfl⟩
 rw [hN] at HNM ⊢
 clear hN hM
 go_enter Tryz.func93, Tryz.ntmps93
 go_wp2_with fail
 refine HNM.out.mono ?_
 rintro e w1 ⟨v1, rfl, hn1, f1⟩
 obtain ⟨ma, mc, rfl, -, -⟩ := hn1.form
 rw [HMM.out] at hn1 ⊢
 have HN1 := hid hn1; have HF1 := hid f1
 clear hn1 f1 HNM
 go_wp2_with fail
 go_loopw [4, 5] (fun sv iv wr => ∃ (t : Nat) (P : B) (j : Int), iv = .int .i64 j ∧ sv = .string (sb P) ∧ j = (t : Int) - 1 ∧ t ≤ M ∧ Hid (P = keyP (m.drop t)) ∧ Hid (Fr No w1 wr)) (fun _ iv _ => (intOf iv + 1).toNat)
 case atStart => exact ⟨M, [], (M : Int) - 1, by go_num, rfl, rfl, Nat.le_refl _, hid (by rw [List.drop_of_length_le (by rw [HMM.out]; exact Nat.le_refl _)]; rfl), hid (Fr.refl _ _)⟩
 case round =>
  obtain ⟨t, P, j, rfl, rfl, hj, ht, HP, HFw⟩ := hrel
  cases t with
  | zero =>
   obtain rfl : j = -1 := by omega
   have HPE : Hid (P = keyP m) := hid (by rw [HP.out, List.drop_zero])
   clear hj
   go_wp2_with fail
   go_ret
   exact ⟨by rw [← HPE.out]; rfl, HF1.out.trans' HFw.out⟩
  | succ t =>
   obtain rfl : j = (t : Int) := by omega
   obtain ⟨r, hr⟩ : ∃ r, m[t]? = some r := ⟨_, List.getElem?_eq_getElem (by rw [HMM.out]; omega)⟩
   have ht0 : (0 : Int) ≤ t := by omega
   have htM : (t : Int) < M := by omega
   have HTT := hid ht
   obtain ⟨g, o, cq, c, e1, -, hgw, hrr, hc, hxa⟩ := (NmIn.no HN1.out HFw.out).get hr
   rw [HMM.out] at e1
   obtain ⟨rfl, rfl⟩ := K.sj e1
   obtain ⟨vx, rfl, hvx⟩ := hxa
   have hcell : wr.cell? ⟨g, o + t, none⟩ = some vx := by have := hrr 0 vx rfl; simpa using this
   obtain ⟨xa, xc, rfl, -, -⟩ := Sl.form hvx
   have HRS := hid (HBM.out r (List.mem_of_getElem? hr))
   have HVX := hid hvx
   obtain ⟨T1, hT1⟩ : ∃ T1, P ++ DN.stepT r = T1 := ⟨_, rfl⟩
   obtain ⟨T2, hT2⟩ : ∃ T2, T1 ++ [0] = T2 := ⟨_, rfl⟩
   have HT1 := hid hT1; have HT2 := hid hT2
   have HPL : Hid (P.length ≤ 4194306001000) := hid (by
    rw [HP.out]
    have h1 := keyP_len (m.drop (t + 1)) fun x hx => HBM.out x (List.mem_of_mem_drop hx)
    have h2 : (m.drop (t + 1)).length ≤ 1000 := by rw [List.length_drop, HMM.out]; omega
    have := Nat.mul_le_mul_right 4194306001 h2
    omega)
   have HTL : Hid (T1.length ≤ 4198500307000) := hid (by rw [← hT1, List.length_append]; have := stepT_len HRS.out; have := HPL.out; omega)
   have HNX : Hid (T2 = keyP (m.drop t)) := hid (by
    have hd : m.drop t = r :: m.drop (t + 1) := by
     obtain ⟨h1, h2⟩ := List.getElem?_eq_some_iff.1 hr
     rw [← h2]
     exact List.drop_eq_getElem_cons h1
    rw [hd, keyP_cons, ← HP.out, ← hT2, ← hT1, List.append_assoc])
   clear hj ht hr hgw hrr hc hvx hT1 hT2
   go_wp2_with fail
   refine (rstep_any _ r wr HVX.out HRS.out).mono ?_
   rintro e w4 ⟨rfl, f4⟩
   have HF4 := hid (HFw.out.trans' f4)
   clear f4 hcell
   go_wp2_with (first
    | ((with_reducible refine K.atO (.binOp .add 9 _ _ _) ?_); (fail_if_success (have := HA1)); refine wpL_valZ rfl (.string (sb T1)) (exec_addS _ _ _ rfl P (DN.stepT r) rfl rfl (by have := HPL.out; have := stepT_len HRS.out; omega) _ HT1.out _) ?_; have HA1 := hid trivial)
    | ((with_reducible refine K.atO (.binOp .add 9 _ _ _) ?_); refine wpL_valZ rfl (.string (sb T2)) (exec_addS _ _ _ rfl T1 [0] rfl rfl (by have := HTL.out; simp; omega) _ HT2.out _) ?_))
   refine ⟨⟨t, T2, (t : Int) - 1, by go_num, rfl, rfl, by have := HTT.out; omega, HNX, HF4⟩, ?_⟩
   simp [intOf]
end Go.Proofs.YtgbiicipkbpmeaaGreatDoor.FT
namespace Go.Proofs.YtgbiicipkbpmeaaGreatDoor.DN
set_option maxRecDepth 100000
set_option maxHeartbeats 128000000
open Go.RowKit K BE
def ToldR (n : Nat) (o : Option (B × B)) (e : Ending) : Prop := match o with
 | none => e = .returned (.tuple #[.string (sb []), .int .i64 0, .bool false])
 | some (v, r) => e = .returned (.tuple #[.string (sb v), .int .i64 ((n - r.length : Nat) : Int), .bool true]) ∧ v.length ≤ 400
theorem drop_at {s : B} {p : Nat} {c : UInt8} (h : s[p]? = some c) : s.drop p = c :: s.drop (p + 1) := by
 obtain ⟨hl, rfl⟩ := List.getElem?_eq_some_iff.1 h
 exact List.drop_eq_getElem_cons hl
theorem rvF_any {f : Nat} {den s : B} {bl : Bool} (h : s.length < f) : rvF f den bl s = rvF (s.length + 1) den bl s := by
 obtain ⟨f', rfl⟩ : ∃ f', f = f' + 1 := ⟨f - 1, by omega⟩
 exact rvF_more _ _ _ _ _ (by omega) (by omega)
theorem reads_any (s : B) (at0 : Nat) (hs : s.length ≤ 400) (hat : at0 ≤ s.length) (w : World) : Calls Tryz.prog 136 #[.string (sb s), .int .i64 (at0 : Int)] w fun e w' => ToldR s.length (rv (s.drop at0)) e ∧ Fr No w w' := by
 obtain ⟨RV, hRV⟩ : ∃ RV, rv (s.drop at0) = RV := ⟨_, rfl⟩
 have HRV : Hid (rvF ((s.drop at0).length + 1) [] false (s.drop at0) = RV) := hid hRV
 rw [hRV]
 obtain ⟨S, hS⟩ : ∃ S, sb s = S := ⟨_, rfl⟩
 obtain ⟨n, hn⟩ : ∃ n, s.length = n := ⟨_, rfl⟩
 have hsz : (S.size : Int) = n := by rw [← hS, sb_size, hn]
 have hn4 : (n : Int) ≤ 400 := by omega
 have HS := hid hS; have HN := hid hn
 rw [hn] at hat ⊢
 have HAT := hid hat
 rw [hS]
 clear hRV hS hn hs hat
 go_enter Tryz.func136, Tryz.ntmps136
 go_wp2_with fail
 go_loopw [1, 7, 8] (fun av dv bv wr => ∃ (p : Nat) (den : B) (bare : Bool), av = .int .i64 p ∧ bv = .bool bare ∧ p ≤ n ∧ den.length ≤ p ∧ Hid (OwR 5 1 w wr dv den.length (u8s den)) ∧ Hid (rvF ((s.drop p).length + 1) den (bare && den.getLast? == some 32) (s.drop p) = RV)) (fun av _ _ _ => n - (intOf av).toNat)
 case atStart => exact ⟨at0, [], false, rfl, rfl, HAT.out, Nat.zero_le _, hid (owR_nil (Fr.refl _ _)), HRV⟩
 case round =>
  obtain ⟨p, den, bare, rfl, rfl, hp, hdp, HO, HR⟩ := hrel
  obtain ⟨va, vc, rfl⟩ := HO.out.1
  obtain ⟨dl, hdl⟩ : ∃ dl, den.length = dl := ⟨_, rfl⟩
  have HDL := hid hdl
  have HDEN := hid (owR_bytes HO.out)
  rw [hdl] at HO HDEN hdp ⊢
  have HDP := hid hdp
  have hdl4 : (dl : Int) ≤ 400 := by omega
  have hdl0 : (0 : Int) ≤ dl := by omega
  have HBND : Hid (den.length ≤ 400) := hid (by rw [hdl]; omega)
  have hp0 : (0 : Int) ≤ p := by omega
  have hp4 : (p : Int) ≤ 400 := by omega
  by_cases hlt : p < n
  ·obtain ⟨c, hc⟩ : ∃ c, s[p]? = some c := ⟨_, List.getElem?_eq_getElem (by rw [HN.out]; exact hlt)⟩
   have hlti : (p : Int) < n := by omega
   have HC := hid hc
   have hR := HR.out
   have hda := drop_at hc
   have hdal : (s.drop (p + 1)).length = n - (p + 1) := by rw [List.length_drop, HN.out]
   rw [hda, rvF_len1 0] at hR
   have HLT := hid hlt
   obtain ⟨r, hr⟩ : ∃ r, s.drop (p + 1) = r := ⟨_, rfl⟩
   have HRD := hid hr
   rw [hr] at hR hdal
   have HRL := hid hdal
   by_cases hcm : c = 44 ∨ c = 43
   ·rw [if_pos hcm] at hR
    obtain ⟨rest, hrest⟩ : ∃ rest, c :: r = rest := ⟨_, rfl⟩
    rw [hrest] at hR
    have HEND := hid hR
    have HPR : Hid (n - rest.length = p) := hid (by rw [← hrest, List.length_cons, hdal]; omega)
    rcases hcm with hcm | hcm
    ·have e44 : ((c.toNat : Int) != 44) = false := by rw [hcm]; rfl
     clear hcm hR hda hdal hr hrest hdl hc hlt hp hdp HR
     cases bare with
     | false =>
      have HRV2 : Hid (some (den, rest) = RV) := hid (by have h := HEND.out; simpa using h)
      go_wp2_with (first | ((with_reducible refine K.atO (.index 9 _ _) ?_); refine idxZ HS HC rfl rfl rfl rfl ?_) | ((with_reducible refine K.atO (.convert _ 9 _) ?_); refine wpL_stringOf rfl _ _ _ _ rfl _ _ den rfl HDEN.out Tryz.underlying150 Tryz.underlying5 Tryz.underlying9 ?_))
      try rw [Exit.noGoto_ret]
      refine ret_three rfl rfl ⟨?_, HO.out.fr⟩
      rw [← HRV2.out]
      exact ⟨congrArg (fun x : Nat => Ending.returned (.tuple #[.string (sb den), .int .i64 (x : Int), .bool true])) HPR.out.symm, HBND.out⟩
     | true =>
      by_cases hd0 : den = []
      ·subst hd0
       obtain rfl : 0 = dl := HDL.out
       have HRV2 : Hid (some (([] : B), rest) = RV) := hid (by have h := HEND.out; simpa using h)
       go_wp2_with (first | ((with_reducible refine K.atO (.index 9 _ _) ?_); refine idxZ HS HC rfl rfl rfl rfl ?_) | ((with_reducible refine K.atO (.convert _ 9 _) ?_); refine wpL_stringOf rfl _ _ _ _ rfl _ _ [] rfl HDEN.out Tryz.underlying150 Tryz.underlying5 Tryz.underlying9 ?_))
       try rw [Exit.noGoto_ret]
       refine ret_three rfl rfl ⟨?_, HO.out.fr⟩
       rw [← HRV2.out]
       exact ⟨congrArg (fun x : Nat => Ending.returned (.tuple #[.string (sb []), .int .i64 (x : Int), .bool true])) HPR.out.symm, HBND.out⟩
      ·obtain ⟨ini, z, hz⟩ : ∃ ini z, den = ini ++ [z] := ⟨den.dropLast, den.getLast hd0, (List.dropLast_concat_getLast hd0).symm⟩
       obtain ⟨a1, c1, e1, hcap, h5⟩ := HO.out.reads
       obtain ⟨rfl, rfl⟩ := K.sj e1
       obtain ⟨m, hm⟩ : ∃ m, dl = m + 1 := ⟨ini.length, by rw [← HDL.out, hz]; simp⟩
       obtain ⟨g, rfl, -, -, hrg⟩ := h5.resolve_left (by omega)
       have hcz : wr.cell? ⟨g, m, none⟩ = some (.int .u8 (z.toNat : Int)) := by
        have := hrg m (.int .u8 (z.toNat : Int)) (by
         have hml : m = ini.length := by have := HDL.out; rw [hz] at this; simp at this; omega
         rw [hz, hml]
         simp [u8s])
        simpa using this
       have hmi : (dl : Int) - 1 = (m : Int) := by omega
       have hm0 : (0 : Int) ≤ m := by omega
       have hml : (m : Int) < dl := by omega
       have hd1 : (0 : Int) < dl := by omega
       have hlast : den.getLast? = some z := by rw [hz]; simp
       have hcapi : (dl : Int) ≤ vc := by omega
       by_cases hz32 : z = 32
       ·have e32 : ((z.toNat : Int) == 32) = true := beqT (k := 32) (by rw [hz32]; rfl)
        have HRV2 : Hid (none = RV) := hid (by have h := HEND.out; rw [hlast, hz32] at h; simpa using h)
        clear hz hm h5 hrg hd0 hz32 hlast hcap
        go_wp2_with (first | ((with_reducible refine K.atO (.index 9 _ _) ?_); refine idxZ HS HC rfl rfl rfl rfl ?_) | ((with_reducible refine K.atO (.convert _ 9 _) ?_); refine wpL_stringOf rfl _ _ _ _ rfl _ _ den rfl HDEN.out Tryz.underlying150 Tryz.underlying5 Tryz.underlying9 ?_))
        try rw [Exit.noGoto_ret]
        refine ret_three rfl rfl ⟨?_, HO.out.fr⟩
        rw [← HRV2.out]
        rfl
       ·have e32 : ((z.toNat : Int) == 32) = false := beqF (k := 32) (fun e => hz32 (UInt8.toNat_inj.1 e))
        have HRV2 : Hid (some (den, rest) = RV) := hid (by have h := HEND.out; rw [hlast] at h; simpa [hz32] using h)
        clear hz hm h5 hrg hd0 hz32 hlast hcap
        go_wp2_with (first | ((with_reducible refine K.atO (.index 9 _ _) ?_); refine idxZ HS HC rfl rfl rfl rfl ?_) | ((with_reducible refine K.atO (.convert _ 9 _) ?_); refine wpL_stringOf rfl _ _ _ _ rfl _ _ den rfl HDEN.out Tryz.underlying150 Tryz.underlying5 Tryz.underlying9 ?_))
        try rw [Exit.noGoto_ret]
        refine ret_three rfl rfl ⟨?_, HO.out.fr⟩
        rw [← HRV2.out]
        exact ⟨congrArg (fun x : Nat => Ending.returned (.tuple #[.string (sb den), .int .i64 (x : Int), .bool true])) HPR.out.symm, HBND.out⟩
    ·have e44 : ((c.toNat : Int) != 44) = true := by rw [hcm]; rfl
     have e43 : ((c.toNat : Int) != 43) = false := by rw [hcm]; rfl
     clear hcm hR hda hdal hr hrest hdl hc hlt hp hdp HR
     cases bare with
     | false =>
      have HRV2 : Hid (some (den, rest) = RV) := hid (by have h := HEND.out; simpa using h)
      go_wp2_with (first | ((with_reducible refine K.atO (.index 9 _ _) ?_); refine idxZ HS HC rfl rfl rfl rfl ?_) | ((with_reducible refine K.atO (.convert _ 9 _) ?_); refine wpL_stringOf rfl _ _ _ _ rfl _ _ den rfl HDEN.out Tryz.underlying150 Tryz.underlying5 Tryz.underlying9 ?_))
      try rw [Exit.noGoto_ret]
      refine ret_three rfl rfl ⟨?_, HO.out.fr⟩
      rw [← HRV2.out]
      exact ⟨congrArg (fun x : Nat => Ending.returned (.tuple #[.string (sb den), .int .i64 (x : Int), .bool true])) HPR.out.symm, HBND.out⟩
     | true =>
      by_cases hd0 : den = []
      ·subst hd0
       obtain rfl : 0 = dl := HDL.out
       have HRV2 : Hid (some (([] : B), rest) = RV) := hid (by have h := HEND.out; simpa using h)
       go_wp2_with (first | ((with_reducible refine K.atO (.index 9 _ _) ?_); refine idxZ HS HC rfl rfl rfl rfl ?_) | ((with_reducible refine K.atO (.convert _ 9 _) ?_); refine wpL_stringOf rfl _ _ _ _ rfl _ _ [] rfl HDEN.out Tryz.underlying150 Tryz.underlying5 Tryz.underlying9 ?_))
       try rw [Exit.noGoto_ret]
       refine ret_three rfl rfl ⟨?_, HO.out.fr⟩
       rw [← HRV2.out]
       exact ⟨congrArg (fun x : Nat => Ending.returned (.tuple #[.string (sb []), .int .i64 (x : Int), .bool true])) HPR.out.symm, HBND.out⟩
      ·obtain ⟨ini, z, hz⟩ : ∃ ini z, den = ini ++ [z] := ⟨den.dropLast, den.getLast hd0, (List.dropLast_concat_getLast hd0).symm⟩
       obtain ⟨a1, c1, e1, hcap, h5⟩ := HO.out.reads
       obtain ⟨rfl, rfl⟩ := K.sj e1
       obtain ⟨m, hm⟩ : ∃ m, dl = m + 1 := ⟨ini.length, by rw [← HDL.out, hz]; simp⟩
       obtain ⟨g, rfl, -, -, hrg⟩ := h5.resolve_left (by omega)
       have hcz : wr.cell? ⟨g, m, none⟩ = some (.int .u8 (z.toNat : Int)) := by
        have := hrg m (.int .u8 (z.toNat : Int)) (by
         have hml : m = ini.length := by have := HDL.out; rw [hz] at this; simp at this; omega
         rw [hz, hml]
         simp [u8s])
        simpa using this
       have hmi : (dl : Int) - 1 = (m : Int) := by omega
       have hm0 : (0 : Int) ≤ m := by omega
       have hml : (m : Int) < dl := by omega
       have hd1 : (0 : Int) < dl := by omega
       have hlast : den.getLast? = some z := by rw [hz]; simp
       have hcapi : (dl : Int) ≤ vc := by omega
       by_cases hz32 : z = 32
       ·have e32 : ((z.toNat : Int) == 32) = true := beqT (k := 32) (by rw [hz32]; rfl)
        have HRV2 : Hid (none = RV) := hid (by have h := HEND.out; rw [hlast, hz32] at h; simpa using h)
        clear hz hm h5 hrg hd0 hz32 hlast hcap
        go_wp2_with (first | ((with_reducible refine K.atO (.index 9 _ _) ?_); refine idxZ HS HC rfl rfl rfl rfl ?_) | ((with_reducible refine K.atO (.convert _ 9 _) ?_); refine wpL_stringOf rfl _ _ _ _ rfl _ _ den rfl HDEN.out Tryz.underlying150 Tryz.underlying5 Tryz.underlying9 ?_))
        try rw [Exit.noGoto_ret]
        refine ret_three rfl rfl ⟨?_, HO.out.fr⟩
        rw [← HRV2.out]
        rfl
       ·have e32 : ((z.toNat : Int) == 32) = false := beqF (k := 32) (fun e => hz32 (UInt8.toNat_inj.1 e))
        have HRV2 : Hid (some (den, rest) = RV) := hid (by have h := HEND.out; rw [hlast] at h; simpa [hz32] using h)
        clear hz hm h5 hrg hd0 hz32 hlast hcap
        go_wp2_with (first | ((with_reducible refine K.atO (.index 9 _ _) ?_); refine idxZ HS HC rfl rfl rfl rfl ?_) | ((with_reducible refine K.atO (.convert _ 9 _) ?_); refine wpL_stringOf rfl _ _ _ _ rfl _ _ den rfl HDEN.out Tryz.underlying150 Tryz.underlying5 Tryz.underlying9 ?_))
        try rw [Exit.noGoto_ret]
        refine ret_three rfl rfl ⟨?_, HO.out.fr⟩
        rw [← HRV2.out]
        exact ⟨congrArg (fun x : Nat => Ending.returned (.tuple #[.string (sb den), .int .i64 (x : Int), .bool true])) HPR.out.symm, HBND.out⟩
   ·have h44 : c ≠ 44 := fun e => hcm (.inl e)
    have h43 : c ≠ 43 := fun e => hcm (.inr e)
    rw [if_neg hcm] at hR
    have e44 : ((c.toNat : Int) != 44) = true := by have : c.toNat ≠ 44 := fun e => h44 (UInt8.toNat_inj.1 e); simp; omega
    have e43 : ((c.toNat : Int) != 43) = true := by have : c.toNat ≠ 43 := fun e => h43 (UInt8.toNat_inj.1 e); simp; omega
    have HSG := hid (signs_any c)
    obtain ⟨sg, hsg⟩ : ∃ sg, sign c = sg := ⟨_, rfl⟩
    have HSGE := hid hsg
    rw [hsg] at HSG
    by_cases h92 : c = 92
    ·have e92 : ((c.toNat : Int) != 92) = false := by rw [h92]; rfl
     rw [show one den c r = (esc r).map fun x => (x.1, false, x.2) by rw [h92]; unfold one; rw [if_pos rfl]] at hR
     clear hcm hda hr hdl hc hlt hp hdp HR h44 h43 h92 hsg
     cases hrc : r with
     | nil =>
      have HRV2 : Hid (none = RV) := hid (by rw [hrc] at hR; exact hR)
      have hp1 : (n : Int) ≤ p + 1 := by rw [hrc] at hdal; have := HLT.out; simp at hdal; omega
      clear hR hdal hrc
      go_wp2_with (first | ((with_reducible refine K.atO (.index 9 _ _) ?_); refine idxZ HS HC rfl rfl rfl rfl ?_))
      refine (HSG.out _).mono ?_
      rintro e wX ⟨rfl, rfl⟩
      go_wp2_with (first | ((with_reducible refine K.atO (.index 9 _ _) ?_); refine idxZ HS HC rfl rfl rfl rfl ?_))
      try rw [Exit.noGoto_ret]
      refine ret_three rfl rfl ⟨?_, HO.out.fr⟩
      rw [← HRV2.out]
      rfl
     | cons d r1 =>
      have hd : s[p + 1]? = some d := by
       have := HRD.out
       rw [hrc] at this
       have h2 : (s.drop (p + 1))[0]? = some d := by rw [this]; rfl
       rwa [List.getElem?_drop, Nat.add_zero] at h2
      have HD := hid hd
      have HRD1 : Hid (s.drop (p + 2) = r1) := hid (by have := drop_at hd; rw [HRD.out, hrc] at this; exact (List.cons.inj this).2.symm)
      have hpn : ¬ (n : Int) ≤ p + 1 := by rw [hrc] at hdal; simp at hdal; have := HLT.out; omega
      have hp1i : (p : Int) + 1 < n := by omega
      have HL1 : Hid (r1.length = n - (p + 2)) := hid (by rw [← HRD1.out, List.length_drop, HN.out])
      have HPN : Hid (p + 1 < n) := hid (by omega)
      have HSD := hid (signs_any d)
      obtain ⟨sd, hsd⟩ : ∃ sd, sign d = sd := ⟨_, rfl⟩
      rw [hsd] at HSD
      rw [hrc] at hR
      clear hdal hrc hd
      by_cases hok : (sign d || d == 35 || d == 61 || d == 32) = true
      ·rw [esc_ok hok] at hR
       have HNX : Hid (rvF ((s.drop (p + 2)).length + 1) (den ++ [d]) (false && (den ++ [d]).getLast? == some 32) (s.drop (p + 2)) = RV) := hid (by rw [HRD1.out]; simpa using hR)
       have HPK : Hid (p + 2 ≤ n) := hid (by have := HPN.out; omega)
       have hor : sd = true ∨ (sd = false ∧ d = 35) ∨ (sd = false ∧ d ≠ 35 ∧ d = 61) ∨ (sd = false ∧ d ≠ 35 ∧ d ≠ 61 ∧ d = 32) := by
        rw [hsd] at hok
        cases sd
        ·by_cases h35 : d = 35
         ·exact .inr (.inl ⟨rfl, h35⟩)
         ·by_cases h61 : d = 61
          ·exact .inr (.inr (.inl ⟨rfl, h35, h61⟩))
          ·by_cases h32 : d = 32
           ·exact .inr (.inr (.inr ⟨rfl, h35, h61, h32⟩))
           ·simp [h35, h61, h32] at hok
        ·exact .inl rfl
       clear hR hok hsd
       rcases hor with rfl | ⟨rfl, h35⟩ | ⟨rfl, h35, h61⟩ | ⟨rfl, h35, h61, h32⟩
       ·skip
        go_wp2_with (first | ((with_reducible refine K.atO (.index 9 _ _) ?_); refine idxZ HS HC rfl rfl rfl rfl ?_))
        refine (HSG.out _).mono ?_
        rintro e wX ⟨rfl, rfl⟩
        go_wp2_with (first | ((with_reducible refine K.atO (.index 9 _ _) ?_); refine idxZ HS HC rfl rfl rfl rfl ?_) | ((with_reducible refine K.atO (.index 9 _ _) ?_); refine wpL_valZ (by rfl) (.int .u8 (d.toNat : Int)) (exec_idxB _ _ rfl s HS.out (p + 1) d HD.out _ (by push_cast; rfl) rfl rfl _) ?_))
        refine (HSD.out _).mono ?_
        rintro e wX ⟨rfl, rfl⟩
        go_wp2_with (first | ((with_reducible refine K.atO (.index 9 _ _) ?_); refine wpL_valZ (by rfl) (.int .u8 (d.toNat : Int)) (exec_idxB _ _ rfl s HS.out (p + 1) d HD.out _ (by push_cast; rfl) rfl rfl _) ?_) | ((with_reducible refine K.atO (.buildSlice 150 _ _) ?_); refine wpL_appU rfl rfl HO.out (d.toNat : Int) rfl ?_; intro q a4 c4 w4 HO4 HF4))
        refine ⟨⟨p + 2, den ++ [d], false, by go_num, rfl, HPK.out, by rw [List.length_append, HDL.out]; have := HPK.out; have := HDP.out; first | (simp; omega) | simp, hid ?_, HNX⟩, ?_⟩
        ·have h := HO4.out
         rw [show (den ++ [d]).length = den.length + 1 by simp, HDL.out]
         rwa [show u8s den ++ [Value.int .u8 (d.toNat : Int)] = u8s (den ++ [d]) by simp [u8s]] at h
        ·have := HPK.out
         simp [intOf]; omega
       ·have e35 : ((d.toNat : Int) == 35) = true := beqT (k := 35) (by rw [h35]; rfl)
        clear h35
        go_wp2_with (first | ((with_reducible refine K.atO (.index 9 _ _) ?_); refine idxZ HS HC rfl rfl rfl rfl ?_))
        refine (HSG.out _).mono ?_
        rintro e wX ⟨rfl, rfl⟩
        go_wp2_with (first | ((with_reducible refine K.atO (.index 9 _ _) ?_); refine idxZ HS HC rfl rfl rfl rfl ?_) | ((with_reducible refine K.atO (.index 9 _ _) ?_); refine wpL_valZ (by rfl) (.int .u8 (d.toNat : Int)) (exec_idxB _ _ rfl s HS.out (p + 1) d HD.out _ (by push_cast; rfl) rfl rfl _) ?_))
        refine (HSD.out _).mono ?_
        rintro e wX ⟨rfl, rfl⟩
        go_wp2_with (first | ((with_reducible refine K.atO (.index 9 _ _) ?_); refine wpL_valZ (by rfl) (.int .u8 (d.toNat : Int)) (exec_idxB _ _ rfl s HS.out (p + 1) d HD.out _ (by push_cast; rfl) rfl rfl _) ?_) | ((with_reducible refine K.atO (.buildSlice 150 _ _) ?_); refine wpL_appU rfl rfl HO.out (d.toNat : Int) rfl ?_; intro q a4 c4 w4 HO4 HF4))
        refine ⟨⟨p + 2, den ++ [d], false, by go_num, rfl, HPK.out, by rw [List.length_append, HDL.out]; have := HPK.out; have := HDP.out; first | (simp; omega) | simp, hid ?_, HNX⟩, ?_⟩
        ·have h := HO4.out
         rw [show (den ++ [d]).length = den.length + 1 by simp, HDL.out]
         rwa [show u8s den ++ [Value.int .u8 (d.toNat : Int)] = u8s (den ++ [d]) by simp [u8s]] at h
        ·have := HPK.out
         simp [intOf]; omega
       ·have e35 : ((d.toNat : Int) == 35) = false := beqF (k := 35) (fun e => h35 (UInt8.toNat_inj.1 e))
        have e61 : ((d.toNat : Int) == 61) = true := beqT (k := 61) (by rw [h61]; rfl)
        clear h35 h61
        go_wp2_with (first | ((with_reducible refine K.atO (.index 9 _ _) ?_); refine idxZ HS HC rfl rfl rfl rfl ?_))
        refine (HSG.out _).mono ?_
        rintro e wX ⟨rfl, rfl⟩
        go_wp2_with (first | ((with_reducible refine K.atO (.index 9 _ _) ?_); refine idxZ HS HC rfl rfl rfl rfl ?_) | ((with_reducible refine K.atO (.index 9 _ _) ?_); refine wpL_valZ (by rfl) (.int .u8 (d.toNat : Int)) (exec_idxB _ _ rfl s HS.out (p + 1) d HD.out _ (by push_cast; rfl) rfl rfl _) ?_))
        refine (HSD.out _).mono ?_
        rintro e wX ⟨rfl, rfl⟩
        go_wp2_with (first | ((with_reducible refine K.atO (.index 9 _ _) ?_); refine wpL_valZ (by rfl) (.int .u8 (d.toNat : Int)) (exec_idxB _ _ rfl s HS.out (p + 1) d HD.out _ (by push_cast; rfl) rfl rfl _) ?_) | ((with_reducible refine K.atO (.buildSlice 150 _ _) ?_); refine wpL_appU rfl rfl HO.out (d.toNat : Int) rfl ?_; intro q a4 c4 w4 HO4 HF4))
        refine ⟨⟨p + 2, den ++ [d], false, by go_num, rfl, HPK.out, by rw [List.length_append, HDL.out]; have := HPK.out; have := HDP.out; first | (simp; omega) | simp, hid ?_, HNX⟩, ?_⟩
        ·have h := HO4.out
         rw [show (den ++ [d]).length = den.length + 1 by simp, HDL.out]
         rwa [show u8s den ++ [Value.int .u8 (d.toNat : Int)] = u8s (den ++ [d]) by simp [u8s]] at h
        ·have := HPK.out
         simp [intOf]; omega
       ·have e35 : ((d.toNat : Int) == 35) = false := beqF (k := 35) (fun e => h35 (UInt8.toNat_inj.1 e))
        have e61 : ((d.toNat : Int) == 61) = false := beqF (k := 61) (fun e => h61 (UInt8.toNat_inj.1 e))
        have e32 : ((d.toNat : Int) == 32) = true := beqT (k := 32) (by rw [h32]; rfl)
        clear h35 h61 h32
        go_wp2_with (first | ((with_reducible refine K.atO (.index 9 _ _) ?_); refine idxZ HS HC rfl rfl rfl rfl ?_))
        refine (HSG.out _).mono ?_
        rintro e wX ⟨rfl, rfl⟩
        go_wp2_with (first | ((with_reducible refine K.atO (.index 9 _ _) ?_); refine idxZ HS HC rfl rfl rfl rfl ?_) | ((with_reducible refine K.atO (.index 9 _ _) ?_); refine wpL_valZ (by rfl) (.int .u8 (d.toNat : Int)) (exec_idxB _ _ rfl s HS.out (p + 1) d HD.out _ (by push_cast; rfl) rfl rfl _) ?_))
        refine (HSD.out _).mono ?_
        rintro e wX ⟨rfl, rfl⟩
        go_wp2_with (first | ((with_reducible refine K.atO (.index 9 _ _) ?_); refine wpL_valZ (by rfl) (.int .u8 (d.toNat : Int)) (exec_idxB _ _ rfl s HS.out (p + 1) d HD.out _ (by push_cast; rfl) rfl rfl _) ?_) | ((with_reducible refine K.atO (.buildSlice 150 _ _) ?_); refine wpL_appU rfl rfl HO.out (d.toNat : Int) rfl ?_; intro q a4 c4 w4 HO4 HF4))
        refine ⟨⟨p + 2, den ++ [d], false, by go_num, rfl, HPK.out, by rw [List.length_append, HDL.out]; have := HPK.out; have := HDP.out; first | (simp; omega) | simp, hid ?_, HNX⟩, ?_⟩
        ·have h := HO4.out
         rw [show (den ++ [d]).length = den.length + 1 by simp, HDL.out]
         rwa [show u8s den ++ [Value.int .u8 (d.toNat : Int)] = u8s (den ++ [d]) by simp [u8s]] at h
        ·have := HPK.out
         simp [intOf]; omega
      ·have hno : sd = false ∧ d ≠ 35 ∧ d ≠ 61 ∧ d ≠ 32 := by
        rw [hsd] at hok
        refine ⟨by cases sd <;> simp_all, fun e => hok (by simp [e]), fun e => hok (by simp [e]), fun e => hok (by simp [e])⟩
       obtain ⟨rfl, h35, h61, h32⟩ := hno
       have e35 : ((d.toNat : Int) == 35) = false := beqF (k := 35) (fun e => h35 (UInt8.toNat_inj.1 e))
       have e61 : ((d.toNat : Int) == 61) = false := beqF (k := 61) (fun e => h61 (UInt8.toNat_inj.1 e))
       have e32 : ((d.toNat : Int) == 32) = false := beqF (k := 32) (fun e => h32 (UInt8.toNat_inj.1 e))
       rw [esc_no hok] at hR
       clear hok hsd h35 h61 h32
       cases hr1 : r1 with
       | nil =>
        have HRV2 : Hid (none = RV) := hid (by rw [hr1] at hR; exact hR)
        have hp2 : (n : Int) ≤ p + 2 := by have := HL1.out; rw [hr1] at this; simp at this; omega
        clear hR hr1
        go_wp2_with (first | ((with_reducible refine K.atO (.index 9 _ _) ?_); refine idxZ HS HC rfl rfl rfl rfl ?_))
        refine (HSG.out _).mono ?_
        rintro e wX ⟨rfl, rfl⟩
        go_wp2_with (first | ((with_reducible refine K.atO (.index 9 _ _) ?_); refine idxZ HS HC rfl rfl rfl rfl ?_) | ((with_reducible refine K.atO (.index 9 _ _) ?_); refine wpL_valZ (by rfl) (.int .u8 (d.toNat : Int)) (exec_idxB _ _ rfl s HS.out (p + 1) d HD.out _ (by push_cast; rfl) rfl rfl _) ?_))
        refine (HSD.out _).mono ?_
        rintro e wX ⟨rfl, rfl⟩
        go_wp2_with (first | ((with_reducible refine K.atO (.index 9 _ _) ?_); refine wpL_valZ (by rfl) (.int .u8 (d.toNat : Int)) (exec_idxB _ _ rfl s HS.out (p + 1) d HD.out _ (by push_cast; rfl) rfl rfl _) ?_))
        try rw [Exit.noGoto_ret]
        refine ret_three rfl rfl ⟨?_, HO.out.fr⟩
        rw [← HRV2.out]
        rfl
       | cons d2 r2 =>
        have hd2 : s[p + 2]? = some d2 := by
         have := HRD1.out
         rw [hr1] at this
         have h2 : (s.drop (p + 2))[0]? = some d2 := by rw [this]; rfl
         rwa [List.getElem?_drop, Nat.add_zero] at h2
        have HD2 := hid hd2
        have HRD2 : Hid (s.drop (p + 3) = r2) := hid (by have := drop_at hd2; rw [HRD1.out, hr1] at this; exact (List.cons.inj this).2.symm)
        have hp2n : ¬ (n : Int) ≤ p + 2 := by have := HL1.out; rw [hr1] at this; simp at this; omega
        have hp2i : (p : Int) + 2 < n := by omega
        have HPK : Hid (p + 3 ≤ n) := hid (by omega)
        have HX1 := hid (hex_any d); have HX2 := hid (hex_any d2)
        rw [hr1] at hR
        simp only at hR
        obtain ⟨x1, hx1⟩ : ∃ x, hexN d = x := ⟨_, rfl⟩
        obtain ⟨x2, hx2⟩ : ∃ x, hexN d2 = x := ⟨_, rfl⟩
        rw [hx1] at HX1
        rw [hx2] at HX2
        cases hh1 : hexv d with
        | none =>
         have HRV2 : Hid (none = RV) := hid (by rw [hh1] at hR; exact hR)
         obtain rfl : 16 = x1 := by rw [← hx1]; unfold hexN; rw [hh1]
         clear hR hr1 hd2 hx1 hx2 hh1
         go_wp2_with (first | ((with_reducible refine K.atO (.index 9 _ _) ?_); refine idxZ HS HC rfl rfl rfl rfl ?_))
         refine (HSG.out _).mono ?_
         rintro e wX ⟨rfl, rfl⟩
         go_wp2_with (first | ((with_reducible refine K.atO (.index 9 _ _) ?_); refine idxZ HS HC rfl rfl rfl rfl ?_) | ((with_reducible refine K.atO (.index 9 _ _) ?_); refine wpL_valZ (by rfl) (.int .u8 (d.toNat : Int)) (exec_idxB _ _ rfl s HS.out (p + 1) d HD.out _ (by push_cast; rfl) rfl rfl _) ?_))
         refine (HSD.out _).mono ?_
         rintro e wX ⟨rfl, rfl⟩
         go_wp2_with (first | ((with_reducible refine K.atO (.index 9 _ _) ?_); refine wpL_valZ (by rfl) (.int .u8 (d.toNat : Int)) (exec_idxB _ _ rfl s HS.out (p + 1) d HD.out _ (by push_cast; rfl) rfl rfl _) ?_))
         refine (HX1.out _).mono ?_
         rintro e wX ⟨rfl, rfl⟩
         go_wp2_with (first | ((with_reducible refine K.atO (.index 9 _ _) ?_); refine wpL_valZ (by rfl) (.int .u8 (d2.toNat : Int)) (exec_idxB _ _ rfl s HS.out (p + 2) d2 HD2.out _ (by push_cast; rfl) rfl rfl _) ?_))
         refine (HX2.out _).mono ?_
         rintro e wX ⟨rfl, rfl⟩
         go_wp2_with fail
         try rw [Exit.noGoto_ret]
         refine ret_three rfl rfl ⟨?_, HO.out.fr⟩
         rw [← HRV2.out]
         rfl
        | some y1 =>
         obtain rfl : y1.toNat = x1 := by rw [← hx1]; unfold hexN; rw [hh1]
         have hy1 : y1.toNat < 16 := hexv_lt16 hh1
         have e16 : ((y1.toNat : Int) == 16) = false := beqF (k := 16) (by omega)
         cases hh2 : hexv d2 with
         | none =>
          have HRV2 : Hid (none = RV) := hid (by rw [hh1, hh2] at hR; exact hR)
          obtain rfl : 16 = x2 := by rw [← hx2]; unfold hexN; rw [hh2]
          clear hR hr1 hd2 hx1 hx2 hh1 hh2 hy1
          go_wp2_with (first | ((with_reducible refine K.atO (.index 9 _ _) ?_); refine idxZ HS HC rfl rfl rfl rfl ?_))
          refine (HSG.out _).mono ?_
          rintro e wX ⟨rfl, rfl⟩
          go_wp2_with (first | ((with_reducible refine K.atO (.index 9 _ _) ?_); refine idxZ HS HC rfl rfl rfl rfl ?_) | ((with_reducible refine K.atO (.index 9 _ _) ?_); refine wpL_valZ (by rfl) (.int .u8 (d.toNat : Int)) (exec_idxB _ _ rfl s HS.out (p + 1) d HD.out _ (by push_cast; rfl) rfl rfl _) ?_))
          refine (HSD.out _).mono ?_
          rintro e wX ⟨rfl, rfl⟩
          go_wp2_with (first | ((with_reducible refine K.atO (.index 9 _ _) ?_); refine wpL_valZ (by rfl) (.int .u8 (d.toNat : Int)) (exec_idxB _ _ rfl s HS.out (p + 1) d HD.out _ (by push_cast; rfl) rfl rfl _) ?_))
          refine (HX1.out _).mono ?_
          rintro e wX ⟨rfl, rfl⟩
          go_wp2_with (first | ((with_reducible refine K.atO (.index 9 _ _) ?_); refine wpL_valZ (by rfl) (.int .u8 (d2.toNat : Int)) (exec_idxB _ _ rfl s HS.out (p + 2) d2 HD2.out _ (by push_cast; rfl) rfl rfl _) ?_))
          refine (HX2.out _).mono ?_
          rintro e wX ⟨rfl, rfl⟩
          go_wp2_with fail
          try rw [Exit.noGoto_ret]
          refine ret_three rfl rfl ⟨?_, HO.out.fr⟩
          rw [← HRV2.out]
          rfl
         | some y2 =>
          obtain rfl : y2.toNat = x2 := by rw [← hx2]; unfold hexN; rw [hh2]
          have hy2 : y2.toNat < 16 := hexv_lt16 hh2
          have f16 : ((y2.toNat : Int) == 16) = false := beqF (k := 16) (by omega)
          rw [hh1, hh2] at hR
          obtain ⟨z, hz⟩ : ∃ z : UInt8, 16 * y1 + y2 = z := ⟨_, rfl⟩
          have hzn : z.toNat = 16 * y1.toNat + y2.toNat := by rw [← hz]; exact hex_join hy1 hy2
          have HZI : Hid ((16 : Int) * y1.toNat + y2.toNat = z.toNat) := hid (by rw [hzn]; push_cast; rfl)
          have hzi : (16 : Int) * (y1.toNat : Int) + (y2.toNat : Int) = (z.toNat : Int) := HZI.out
          have HNX : Hid (rvF ((s.drop (p + 3)).length + 1) (den ++ [z]) (false && (den ++ [z]).getLast? == some 32) (s.drop (p + 3)) = RV) := hid (by rw [HRD2.out, ← hz]; simpa using hR)
          have hzl : (z.toNat : Int) < 256 := by have := z.toNat_lt; omega
          have hy1i : (y1.toNat : Int) < 16 := by omega
          have hy2i : (y2.toNat : Int) < 16 := by omega
          clear hR hr1 hd2 hx1 hx2 hh1 hh2 hz hzn hy1 hy2
          go_wp2_with (first | ((with_reducible refine K.atO (.index 9 _ _) ?_); refine idxZ HS HC rfl rfl rfl rfl ?_))
          refine (HSG.out _).mono ?_
          rintro e wX ⟨rfl, rfl⟩
          go_wp2_with (first | ((with_reducible refine K.atO (.index 9 _ _) ?_); refine idxZ HS HC rfl rfl rfl rfl ?_) | ((with_reducible refine K.atO (.index 9 _ _) ?_); refine wpL_valZ (by rfl) (.int .u8 (d.toNat : Int)) (exec_idxB _ _ rfl s HS.out (p + 1) d HD.out _ (by push_cast; rfl) rfl rfl _) ?_))
          refine (HSD.out _).mono ?_
          rintro e wX ⟨rfl, rfl⟩
          go_wp2_with (first | ((with_reducible refine K.atO (.index 9 _ _) ?_); refine wpL_valZ (by rfl) (.int .u8 (d.toNat : Int)) (exec_idxB _ _ rfl s HS.out (p + 1) d HD.out _ (by push_cast; rfl) rfl rfl _) ?_))
          refine (HX1.out _).mono ?_
          rintro e wX ⟨rfl, rfl⟩
          go_wp2_with (first | ((with_reducible refine K.atO (.index 9 _ _) ?_); refine wpL_valZ (by rfl) (.int .u8 (d2.toNat : Int)) (exec_idxB _ _ rfl s HS.out (p + 2) d2 HD2.out _ (by push_cast; rfl) rfl rfl _) ?_))
          refine (HX2.out _).mono ?_
          rintro e wX ⟨rfl, rfl⟩
          go_wp2_with (first | ((with_reducible refine K.atO (.buildSlice 150 _ _) ?_); refine wpL_appU rfl rfl HO.out (z.toNat : Int) rfl ?_; intro q a4 c4 w4 HO4 HF4))
          refine ⟨⟨p + 3, den ++ [z], false, by go_num, rfl, HPK.out, by rw [List.length_append, HDL.out]; have := HPK.out; have := HDP.out; first | (simp; omega) | simp, hid ?_, HNX⟩, ?_⟩
          ·have h := HO4.out
           rw [show (den ++ [z]).length = den.length + 1 by simp, HDL.out]
           rwa [show u8s den ++ [Value.int .u8 (z.toNat : Int)] = u8s (den ++ [z]) by simp [u8s]] at h
          ·have := HPK.out
           simp [intOf]; omega
    ·have e92 : ((c.toNat : Int) != 92) = true := by have : c.toNat ≠ 92 := fun e => h92 (UInt8.toNat_inj.1 e); simp; omega
     have hcn : c.toNat ≠ 92 ∧ c.toNat ≠ 44 ∧ c.toNat ≠ 43 := ⟨fun e => h92 (UInt8.toNat_inj.1 e), fun e => h44 (UInt8.toNat_inj.1 e), fun e => h43 (UInt8.toNat_inj.1 e)⟩
     have hcase : (c = 0 ∨ (c ≠ 0 ∧ sg = true) ∨ (c ≠ 0 ∧ sg = false ∧ den = [] ∧ c = 35) ∨ (c ≠ 0 ∧ sg = false ∧ den = [] ∧ c ≠ 35 ∧ c = 32)) ∨ (c ≠ 0 ∧ sg = false ∧ (den ≠ [] ∨ (den = [] ∧ c ≠ 35 ∧ c ≠ 32))) := by
      by_cases k0 : c = 0 <;> by_cases k1 : sg = true <;> by_cases k2 : den = [] <;> by_cases k3 : c = 35 <;> by_cases k4 : c = 32 <;> simp_all
     have hone : one den c r = if c = 0 ∨ sg = true ∨ (den = [] ∧ (c = 35 ∨ c = 32)) then none else some (c, c == 32, r) := by
      rw [← hsg]
      exact one_bare den r h92 h44 h43
     rw [hone] at hR
     clear hcm hda hdal hr hdl hc hlt hp hdp HR h44 h43 h92 hsg hone hcn
     rcases hcase with hbad | hgood
     ·have HRV2 : Hid (none = RV) := hid (by rw [if_pos (by rcases hbad with h | ⟨-, h⟩ | ⟨-, -, h, h'⟩ | ⟨-, -, h, -, h'⟩; exact .inl h; exact .inr (.inl h); exact .inr (.inr ⟨h, .inl h'⟩); exact .inr (.inr ⟨h, .inr h'⟩))] at hR; exact hR)
      clear hR
      rcases hbad with h | ⟨h0, h⟩ | ⟨h0, h, hd, h'⟩ | ⟨h0, h, hd, h5, h'⟩
      ·have e0 : ((c.toNat : Int) == 0) = true := beqT (k := 0) (by rw [h]; rfl)
       clear h
       go_wp2_with (first | ((with_reducible refine K.atO (.index 9 _ _) ?_); refine idxZ HS HC rfl rfl rfl rfl ?_))
       refine (HSG.out _).mono ?_
       rintro e wX ⟨rfl, rfl⟩
       go_wp2_with (first | ((with_reducible refine K.atO (.index 9 _ _) ?_); refine idxZ HS HC rfl rfl rfl rfl ?_))
       try rw [Exit.noGoto_ret]
       refine ret_three rfl rfl ⟨?_, HO.out.fr⟩
       rw [← HRV2.out]
       rfl
      ·have e0 : ((c.toNat : Int) == 0) = false := beqF (k := 0) (fun e => h0 (UInt8.toNat_inj.1 e))
       subst h
       clear h0
       go_wp2_with (first | ((with_reducible refine K.atO (.index 9 _ _) ?_); refine idxZ HS HC rfl rfl rfl rfl ?_))
       refine (HSG.out _).mono ?_
       rintro e wX ⟨rfl, rfl⟩
       go_wp2_with (first | ((with_reducible refine K.atO (.index 9 _ _) ?_); refine idxZ HS HC rfl rfl rfl rfl ?_))
       try rw [Exit.noGoto_ret]
       refine ret_three rfl rfl ⟨?_, HO.out.fr⟩
       rw [← HRV2.out]
       rfl
      ·have e0 : ((c.toNat : Int) == 0) = false := beqF (k := 0) (fun e => h0 (UInt8.toNat_inj.1 e))
       have e35 : ((c.toNat : Int) == 35) = true := beqT (k := 35) (by rw [h']; rfl)
       obtain rfl : 0 = dl := by rw [← HDL.out, hd]; rfl
       subst h
       clear h0 h' hd
       go_wp2_with (first | ((with_reducible refine K.atO (.index 9 _ _) ?_); refine idxZ HS HC rfl rfl rfl rfl ?_))
       refine (HSG.out _).mono ?_
       rintro e wX ⟨rfl, rfl⟩
       go_wp2_with (first | ((with_reducible refine K.atO (.index 9 _ _) ?_); refine idxZ HS HC rfl rfl rfl rfl ?_))
       try rw [Exit.noGoto_ret]
       refine ret_three rfl rfl ⟨?_, HO.out.fr⟩
       rw [← HRV2.out]
       rfl
      ·have e0 : ((c.toNat : Int) == 0) = false := beqF (k := 0) (fun e => h0 (UInt8.toNat_inj.1 e))
       have e35 : ((c.toNat : Int) == 35) = false := beqF (k := 35) (fun e => h5 (UInt8.toNat_inj.1 e))
       have e32 : ((c.toNat : Int) == 32) = true := beqT (k := 32) (by rw [h']; rfl)
       obtain rfl : 0 = dl := by rw [← HDL.out, hd]; rfl
       subst h
       clear h0 h5 h' hd
       go_wp2_with (first | ((with_reducible refine K.atO (.index 9 _ _) ?_); refine idxZ HS HC rfl rfl rfl rfl ?_))
       refine (HSG.out _).mono ?_
       rintro e wX ⟨rfl, rfl⟩
       go_wp2_with (first | ((with_reducible refine K.atO (.index 9 _ _) ?_); refine idxZ HS HC rfl rfl rfl rfl ?_))
       try rw [Exit.noGoto_ret]
       refine ret_three rfl rfl ⟨?_, HO.out.fr⟩
       rw [← HRV2.out]
       rfl
     ·obtain ⟨h0, h, hg⟩ := hgood
      have HNX : Hid (rvF ((s.drop (p + 1)).length + 1) (den ++ [c]) (true && (den ++ [c]).getLast? == some 32) (s.drop (p + 1)) = RV) := hid (by
       rw [if_neg (by rintro (k | k | ⟨k, k'⟩); exact h0 k; rw [h] at k; cases k; rcases hg with g | ⟨-, g, g'⟩; exact g k; rcases k' with k' | k'; exact g k'; exact g' k')] at hR
       rw [HRD.out, ← rvF_any (f := (c :: r).length) (by simp)]
       simpa using hR)
      have HPK : Hid (p + 1 ≤ n) := hid (by have := HLT.out; omega)
      have e0 : ((c.toNat : Int) == 0) = false := beqF (k := 0) (fun e => h0 (UInt8.toNat_inj.1 e))
      subst h
      clear hR h0
      rcases hg with hg | ⟨hd, h5, h'⟩
      ·have hdn : ((dl : Int) == 0) = false := beqF (k := 0) (fun e => hg (List.eq_nil_of_length_eq_zero (by rw [HDL.out]; exact e)))
       clear hg
       go_wp2_with (first | ((with_reducible refine K.atO (.index 9 _ _) ?_); refine idxZ HS HC rfl rfl rfl rfl ?_))
       refine (HSG.out _).mono ?_
       rintro e wX ⟨rfl, rfl⟩
       go_wp2_with (first | ((with_reducible refine K.atO (.index 9 _ _) ?_); refine idxZ HS HC rfl rfl rfl rfl ?_) | ((with_reducible refine K.atO (.buildSlice 150 _ _) ?_); refine wpL_appU rfl rfl HO.out (c.toNat : Int) rfl ?_; intro q a4 c4 w4 HO4 HF4))
       refine ⟨⟨p + 1, den ++ [c], true, by go_num, rfl, HPK.out, by rw [List.length_append, HDL.out]; have := HPK.out; have := HDP.out; first | (simp; omega) | simp, hid ?_, HNX⟩, ?_⟩
       ·have h := HO4.out
        rw [show (den ++ [c]).length = den.length + 1 by simp, HDL.out]
        rwa [show u8s den ++ [Value.int .u8 (c.toNat : Int)] = u8s (den ++ [c]) by simp [u8s]] at h
       ·have := HPK.out
        simp [intOf]; omega
      ·obtain rfl : 0 = dl := by rw [← HDL.out, hd]; rfl
       have e35 : ((c.toNat : Int) == 35) = false := beqF (k := 35) (fun e => h5 (UInt8.toNat_inj.1 e))
       have e32 : ((c.toNat : Int) == 32) = false := beqF (k := 32) (fun e => h' (UInt8.toNat_inj.1 e))
       clear h5 h' hd
       go_wp2_with (first | ((with_reducible refine K.atO (.index 9 _ _) ?_); refine idxZ HS HC rfl rfl rfl rfl ?_))
       refine (HSG.out _).mono ?_
       rintro e wX ⟨rfl, rfl⟩
       go_wp2_with (first | ((with_reducible refine K.atO (.index 9 _ _) ?_); refine idxZ HS HC rfl rfl rfl rfl ?_) | ((with_reducible refine K.atO (.buildSlice 150 _ _) ?_); refine wpL_appU rfl rfl HO.out (c.toNat : Int) rfl ?_; intro q a4 c4 w4 HO4 HF4))
       refine ⟨⟨p + 1, den ++ [c], true, by go_num, rfl, HPK.out, by rw [List.length_append, HDL.out]; have := HPK.out; have := HDP.out; first | (simp; omega) | simp, hid ?_, HNX⟩, ?_⟩
       ·have h := HO4.out
        rw [show (den ++ [c]).length = den.length + 1 by simp, HDL.out]
        rwa [show u8s den ++ [Value.int .u8 (c.toNat : Int)] = u8s (den ++ [c]) by simp [u8s]] at h
       ·have := HPK.out
        simp [intOf]; omega
  ·obtain rfl : p = n := by omega
   have hR := HR.out
   rw [show s.drop p = [] from List.drop_of_length_le (by rw [HN.out]; exact Nat.le_refl _)] at hR
   obtain ⟨rest, hrest⟩ : ∃ rest : B, [] = rest := ⟨_, rfl⟩
   have HEND : Hid ((if (bare && den.getLast? == some 32) = true then none else some (den, rest)) = RV) := hid (by rw [← hrest]; exact hR)
   have HPR : Hid (p - rest.length = p) := hid (by rw [← hrest]; rfl)
   clear hR hrest hdl hlt hp hdp HR
   cases bare with
   | false =>
    have HRV2 : Hid (some (den, rest) = RV) := hid (by have h := HEND.out; simpa using h)
    go_wp2_with (first | ((with_reducible refine K.atO (.convert _ 9 _) ?_); refine wpL_stringOf rfl _ _ _ _ rfl _ _ den rfl HDEN.out Tryz.underlying150 Tryz.underlying5 Tryz.underlying9 ?_))
    try rw [Exit.noGoto_ret]
    refine ret_three rfl rfl ⟨?_, HO.out.fr⟩
    rw [← HRV2.out]
    exact ⟨congrArg (fun x : Nat => Ending.returned (.tuple #[.string (sb den), .int .i64 (x : Int), .bool true])) HPR.out.symm, HBND.out⟩
   | true =>
    by_cases hd0 : den = []
    ·subst hd0
     obtain rfl : 0 = dl := HDL.out
     have HRV2 : Hid (some (([] : B), rest) = RV) := hid (by have h := HEND.out; simpa using h)
     go_wp2_with (first | ((with_reducible refine K.atO (.convert _ 9 _) ?_); refine wpL_stringOf rfl _ _ _ _ rfl _ _ [] rfl HDEN.out Tryz.underlying150 Tryz.underlying5 Tryz.underlying9 ?_))
     try rw [Exit.noGoto_ret]
     refine ret_three rfl rfl ⟨?_, HO.out.fr⟩
     rw [← HRV2.out]
     exact ⟨congrArg (fun x : Nat => Ending.returned (.tuple #[.string (sb []), .int .i64 (x : Int), .bool true])) HPR.out.symm, HBND.out⟩
    ·obtain ⟨ini, z, hz⟩ : ∃ ini z, den = ini ++ [z] := ⟨den.dropLast, den.getLast hd0, (List.dropLast_concat_getLast hd0).symm⟩
     obtain ⟨a1, c1, e1, hcap, h5⟩ := HO.out.reads
     obtain ⟨rfl, rfl⟩ := K.sj e1
     obtain ⟨m, hm⟩ : ∃ m, dl = m + 1 := ⟨ini.length, by rw [← HDL.out, hz]; simp⟩
     obtain ⟨g, rfl, -, -, hrg⟩ := h5.resolve_left (by omega)
     have hcz : wr.cell? ⟨g, m, none⟩ = some (.int .u8 (z.toNat : Int)) := by
      have := hrg m (.int .u8 (z.toNat : Int)) (by
       have hml : m = ini.length := by have := HDL.out; rw [hz] at this; simp at this; omega
       rw [hz, hml]
       simp [u8s])
      simpa using this
     have hmi : (dl : Int) - 1 = (m : Int) := by omega
     have hm0 : (0 : Int) ≤ m := by omega
     have hml : (m : Int) < dl := by omega
     have hd1 : (0 : Int) < dl := by omega
     have hlast : den.getLast? = some z := by rw [hz]; simp
     have hcapi : (dl : Int) ≤ vc := by omega
     by_cases hz32 : z = 32
     ·have e32 : ((z.toNat : Int) == 32) = true := beqT (k := 32) (by rw [hz32]; rfl)
      have HRV2 : Hid (none = RV) := hid (by have h := HEND.out; rw [hlast, hz32] at h; simpa using h)
      clear hz hm h5 hrg hd0 hz32 hlast hcap
      go_wp2_with (first | ((with_reducible refine K.atO (.convert _ 9 _) ?_); refine wpL_stringOf rfl _ _ _ _ rfl _ _ den rfl HDEN.out Tryz.underlying150 Tryz.underlying5 Tryz.underlying9 ?_))
      try rw [Exit.noGoto_ret]
      refine ret_three rfl rfl ⟨?_, HO.out.fr⟩
      rw [← HRV2.out]
      rfl
     ·have e32 : ((z.toNat : Int) == 32) = false := beqF (k := 32) (fun e => hz32 (UInt8.toNat_inj.1 e))
      have HRV2 : Hid (some (den, rest) = RV) := hid (by have h := HEND.out; rw [hlast] at h; simpa [hz32] using h)
      clear hz hm h5 hrg hd0 hz32 hlast hcap
      go_wp2_with (first | ((with_reducible refine K.atO (.convert _ 9 _) ?_); refine wpL_stringOf rfl _ _ _ _ rfl _ _ den rfl HDEN.out Tryz.underlying150 Tryz.underlying5 Tryz.underlying9 ?_))
      try rw [Exit.noGoto_ret]
      refine ret_three rfl rfl ⟨?_, HO.out.fr⟩
      rw [← HRV2.out]
      exact ⟨congrArg (fun x : Nat => Ending.returned (.tuple #[.string (sb den), .int .i64 (x : Int), .bool true])) HPR.out.symm, HBND.out⟩
end Go.Proofs.YtgbiicipkbpmeaaGreatDoor.DN
namespace Go.Proofs.YtgbiicipkbpmeaaGreatDoor.DN
set_option maxRecDepth 100000
open Go.RowKit K BE
end Go.Proofs.YtgbiicipkbpmeaaGreatDoor.DN
namespace Go.Proofs.YtgbiicipkbpmeaaGreatDoor.DN
set_option maxRecDepth 100000
open Go.RowKit K BE
theorem p1 : parse [99, 110, 61, 65, 108, 92, 44, 66, 111, 44, 100, 99, 61, 120] = ([[([99, 110], [65, 108, 44, 66, 111])], [([100, 99], [120])]], 0) := by decide +kernel
theorem p2 : parse [97, 61, 49, 43, 65, 61, 50] = ([], 120) := by decide +kernel
theorem q1 : printT [[([97], [32, 74])]] = [97, 61, 92, 32, 74] := by decide +kernel
theorem q2 : fold [32, 65, 108, 32, 32, 66, 32] = [97, 108, 32, 98] := by decide +kernel
theorem q4 : under [[([99, 110], [65])], [([100, 99], [88])]] [[([68, 67], [120])]] = true := by decide +kernel
theorem q5 : under [[([68, 67], [120])]] [[([99, 110], [65])], [([100, 99], [88])]] = false := by decide +kernel
theorem exec_eqT {op : Oper} {a : Act} (x y : Operand) (u : TypeId) (ho : op.op = .binOp .eql 9 x y u) (p q : B) (r : Bool) (hr : decide (p = q) = r) (hx : a.eval x = .string (sb p)) (hy : a.eval y = .string (sb q)) (w : World) :
  (execOp a.eval op).run Tryz.prog w = .ok (.value (.bool r)) w := by
 subst hr
 exact exec_eqS x y u ho p q hx hy w
end Go.Proofs.YtgbiicipkbpmeaaGreatDoor.DN
