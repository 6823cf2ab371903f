/-
  Part 29 of the proof: StWI, StOL.
-/
import Derived.Test.YtflfmkokfbgclaaGreatRc27
import Derived.Test.YtflfmkokfbgclaaGreatRc28
import Derived.Test.YtflfmkokfbgclaaGreatRc22
set_option linter.unusedSimpArgs false
set_option linter.unusedVariables false
namespace Go.Proofs.YtflfmkokfbgclaaGreat.ST
set_option maxRecDepth 100000
open Go.RowKit K L

/-- An image is written from sector s on, and made durable. -/
def U.wimg : Nat → U → Nat → List UInt8 → Int × U
  | 0, u, _, _ => (0, u)
  | k + 1, u, s, l => if l = [] then u.flush else if (u.write s (l.take 64)).1 = 0 then U.wimg k (u.write s (l.take 64)).2 (s + 1) (l.drop 64) else u.write s (l.take 64)
def U.wimage (u : U) (s : Nat) (l : List UInt8) : Int × U := U.wimg (l.length + 1) u s l
theorem write_P (u : U) (n : Int) (b : List UInt8) : (u.write n b).2.P.length ≤ u.P.length + 1 := by
  have hs : u.spend.2.P = u.P := by unfold U.spend; (repeat' split) <;> rfl
  unfold U.write
  (repeat' split) <;> simp [hs]
section
variable {w : World} {bd : Nat} {Z : Nat → Prop} {u : U}
set_option maxHeartbeats 16000000 in
theorem writeImage_any (a : Nat) (t : S) (ha : a ≤ 2) (ht : t.size ≤ 500000) (h : Dk w bd Z u) (hp : u.P.length < 400000) : Calls Tryz.prog 64 #[vol bd, .int .i64 (a : Int), .string t] w fun e w' =>
    e = .returned (.int .i64 (U.wimage u (1 + a * areaN u.L.length) t.data.toList).1) ∧ ∃ Z', Dk w' bd Z' (U.wimage u (1 + a * areaN u.L.length) t.data.toList).2 ∧ Fr Z w w' ∧ Grows w Z Z' := by
  have H := hid h
  have hl := dk_len h
  have hZ : ∀ j, Z j → j < w.heap.size := h.lt
  have HZ := hid hZ
  obtain ⟨s, hs⟩ : ∃ s, 1 + a * areaN u.L.length = s := ⟨_, rfl⟩
  have hs1 : s ≤ 3000 := by
    rw [← hs]
    have : a * areaN u.L.length ≤ 2 * areaN u.L.length := Nat.mul_le_mul_right _ ha
    have h2 : areaN u.L.length ≤ 1024 := by unfold areaN; omega
    omega
  have HSTART := hid (fun w (h : Dk w bd Z u) => start_any h a ha)
  have HSE := hid hs
  rw [hs]
  obtain ⟨R, hR⟩ : ∃ R, U.wimage u s t.data.toList = R := ⟨_, rfl⟩
  have HR := hid hR
  have HP := hid hp
  have HT := hid ht
  have HS1 := hid hs1
  rw [hR]
  clear h hl hZ hs hR hp ha hs1 ht
  go_enter Tryz.func64, Tryz.ntmps64
  go_wp2_with (first
    | ((with_reducible show wpList _ _ _ (⟨_, .box 59 _, _, _, _, _⟩ :: _) _ _); refine wpL_box rfl _ _ rfl _ rfl [pt bd] rfl ?_; intro w1 HB1 F1 HS1'; have hrv := HB1.out.range 0 [pt bd] rfl)
    | ((with_reducible show wpList _ _ _ (⟨_, .load 59 _, _, _, _, _⟩ :: _) _ _); refine wpL_load rfl _ _ rfl w.heap.size 0 rfl [pt bd] _ hrv rfl rfl infoVol ?_)
    | fail)
  refine (HSTART.out w1 (D.Rep.no H.out F1.out)).mono ?_
  rintro e w3 ⟨rfl, f3⟩
  rw [HSE.out]
  have HF3 := hid (F1.out.trans' f3)
  have HV3 := hid (HB1.out.fr f3 id)
  have HD3 : Hid (Dk w3 bd Z u) := hid (D.Rep.no H.out HF3.out)
  have hbw := HB1.out.lt
  obtain ⟨bv, hbv⟩ : ∃ b, w.heap.size = b := ⟨_, rfl⟩
  have HZV := hid (show ¬ Z bv from fun hz => by have := HZ.out _ hz; omega)
  rw [hbv] at HV3 ⊢
  clear f3 hrv HB1 F1 HS1' hbw hbv H
  go_wp2_with fail
  go_loopw [2, 7] (fun iv nv wr => ∃ (t' : S) (j : Nat) (u' : U) (Z' : Nat → Prop) (k : Nat), iv = .string t' ∧ nv = .int .i64 (j : Int) ∧ Hid (Dk wr bd Z' u') ∧ Hid (Fr Z w3 wr) ∧ Hid (Grows w3 Z Z') ∧ Hid (U.wimg k u' j t'.data.toList = R) ∧ Hid (t'.size < k) ∧ Hid (u'.P.length + t'.size < 1000000) ∧ Hid (j + t'.size ≤ 1000000)) (fun iv _ _ => strLen iv)
  case atStart => exact ⟨t, s, u, Z, _, rfl, rfl, HD3, hid (Fr.refl _ _), hid (fun j hj => .inl hj), HR, hid (by simp), hid (by have := HP.out; have := HT.out; omega), hid (by have := HS1.out; have := HT.out; omega)⟩
  case round =>
    obtain ⟨t', j, u', Z', k, rfl, rfl, HD, HF, HG, HW, HK, HPL, HJ⟩ := hrel
    have hes := empty_size t'
    have hji : (j : Int) ≤ 1000000 := by have := HJ.out; omega
    have htz : (t'.size : Int) ≤ 1000000 := by have := HJ.out; omega
    have q0 : wr.cell? ⟨bv, 0, none⟩ = some (pt bd) := (HV3.out.fr HF.out HZV.out).cell 0
    obtain ⟨k', rfl⟩ : ∃ n, k = n + 1 := ⟨k - 1, by have := HK.out; omega⟩
    by_cases h0 : t'.size = 0
    · have hte : t'.toList.isEmpty = true := by rw [hes]; simp [h0]
      have hll : t'.data.toList = [] := List.eq_nil_of_length_eq_zero (by simpa using h0)
      have HRN : Hid (u'.flush = R) := hid (by have h := HW.out; rw [hll] at h; unfold U.wimg at h; rwa [if_pos rfl] at h)
      clear h0 hes hll
      go_wp2_with fail
      refine (dflush_any HD.out).mono ?_
      rintro e w7 ⟨rfl, h1, h2⟩
      go_wp2_with fail
      go_ret
      rw [HRN.out] at h1 ⊢
      have hf := (HF3.out.no.trans' HF.out)
      have hg : Grows w Z Z' := fun j hj => (HG.out j hj).imp id (fun hge => by have hge' : w3.heap.size ≤ j := hge; have := HF3.out.size; omega)
      exact ⟨rfl, Z', h1, hf.trans h2 hg, hg⟩
    · have hte : t'.toList.isEmpty = false := by rw [hes]; simp [h0]
      clear hes
      have HT1 := hid (show 1 ≤ t'.size by omega)
      clear h0
      obtain ⟨x, hx⟩ : ∃ x, t'.extract 0 64 = x := ⟨_, rfl⟩
      have hxl : x.data.toList = t'.data.toList.take 64 := by rw [← hx, ByteArray.data_extract]; simp [List.extract_eq_take_drop]
      have hxz : x.size = min 64 t'.size := by rw [← hx, ByteArray.size_extract, Nat.sub_zero]
      have HX1 : Hid (t'.size < 64 → t' = x) := hid fun h => by
        apply ByteArray.ext
        apply Array.toList_inj.1
        rw [hxl, List.take_of_length_le (by simp; omega)]
      have HX2 := hid hx; have HXL := hid hxl; have HXZ := hid hxz
      have hxi : (x.size : Int) ≤ t'.size := by omega
      have HRN : Hid ((if (u'.write j x.data.toList).1 = 0 then U.wimg k' (u'.write j x.data.toList).2 (j + 1) (t'.data.toList.drop 64) else u'.write j x.data.toList) = R) := hid (by
        have h := HW.out
        unfold U.wimg at h
        rw [if_neg (by intro hn; have h1 := congrArg List.length hn; rw [Array.length_toList] at h1; have h2 : t'.size = 0 := h1; have := HT1.out; omega)] at h
        rwa [hxl])
      clear hx hxl hxz HW
      rcases (show (t'.size < 64 ∧ (t'.size : Int) < 64) ∨ (64 ≤ t'.size ∧ ¬ (t'.size : Int) < 64) by omega) with ⟨h64, h64i⟩ | ⟨h64, h64i⟩
      all_goals
        have h64h := hid h64
        clear h64
        go_wp2_with (first
          | ((with_reducible show wpList _ _ _ (⟨_, .convert _ 40 _, _, _, _, _⟩ :: _) _ _); refine Hid.out ?_)
          | fail)
        refine hid ?_
        refine wpL_bytesOf rfl _ _ _ _ rfl x (by first | exact congrArg Value.string (HX1.out h64h.out) | exact congrArg Value.string HX2.out) Tryz.underlying9 Tryz.underlying40 Tryz.underlying5 ?_
        intro c4 w4 HB4 F4
        have q4 : w4.cell? ⟨bv, 0, none⟩ = some (pt bd) := F4.out.cell q0 id
        have HD4 : Hid (Dk w4 bd Z' u') := hid (D.Rep.no HD.out F4.out)
        clear q0 h64i
        go_wp2_with fail
        refine (dwrite_any (j : Int) _ x.data.toList (New wr) HB4.out (fun b hb hz => by have hb' : wr.heap.size ≤ b := hb; have := HD.out.lt b hz; omega) HD4.out (by have := HPL.out; omega)).mono ?_
        rintro e w5 ⟨rfl, Z5, h1, h2, h3⟩
        have HD5 := hid h1
        have HF5 : Hid (Fr Z w3 w5) := hid ((HF.out.trans F4.out (fun _ e => e.elim)).trans h2 HG.out)
        have HG5 : Hid (Grows w3 Z Z5) := hid (fun b hb => (h3 b hb).elim (fun h => HG.out b h) (fun h => .inr (by have h' : w4.heap.size ≤ b := h; have := HF.out.size; have := F4.out.size; omega)))
        have HPW := hid (write_P u' j x.data.toList)
        clear h1 h2 h3 q4
        obtain ⟨p, hp⟩ : ∃ p, u'.write j x.data.toList = p := ⟨_, rfl⟩
        rw [hp] at HD5 HPW ⊢
        have HRP : Hid ((if p.1 = 0 then U.wimg k' p.2 (j + 1) (t'.data.toList.drop 64) else p) = R) := hid (by have h := HRN.out; rwa [hp] at h)
        obtain ⟨c, u5⟩ := p
        simp only at HD5 HPW HRP ⊢
        clear hp
        by_cases hc : c = 0
        · have HRQ : Hid (U.wimg k' u5 (j + 1) (t'.data.toList.drop 64) = R) := hid (by have h := HRP.out; rwa [if_pos hc] at h)
          subst hc
          go_wp2_with fail
          have hz : (t'.extract x.size t'.size).size = t'.size - x.size := by rw [ByteArray.size_extract]; omega
          have hd : (t'.extract x.size t'.size).data.toList = t'.data.toList.drop 64 := by
            rw [ext_list, HXZ.out]
            rcases Nat.le_total 64 t'.size with h | h
            · rw [Nat.min_eq_left h]
            · rw [Nat.min_eq_right h, List.drop_of_length_le (by simp), List.drop_of_length_le (by simpa using h)]
          have hx1 := HXZ.out; have ht1 := HT1.out; have hk := HK.out; have hpl := HPL.out; have hjj := HJ.out; have hpw := HPW.out
          exact ⟨⟨t'.extract x.size t'.size, j + 1, u5, Z5, k', rfl, by go_num, HD5, HF5, HG5, hid (by rw [hd]; exact HRQ.out), hid (by omega), hid (by omega), hid (by omega)⟩, by simp only [strLen]; omega⟩
        · have HRQ : Hid (R = (c, u5)) := hid (by have h := HRP.out; rw [if_neg hc] at h; exact h.symm)
          go_wp2_with fail
          go_ret
          rw [HRQ.out]
          exact ⟨rfl, Z5, HD5.out, HF3.out.no.trans' HF5.out, fun b hb => (HG5.out b hb).imp id (fun hge => by have hge' : w3.heap.size ≤ b := hge; have := HF3.out.size; omega)⟩
end
end Go.Proofs.YtflfmkokfbgclaaGreat.ST

namespace Go.Proofs.YtflfmkokfbgclaaGreat.ST
set_option maxRecDepth 100000
open Go.RowKit K L

/-- The log behind the areas. -/
def U.olog (u : U) (ep : Nat) : Int × U × Option (Lg × List (List UInt8)) := u.opens (1 + 2 * areaN u.L.length) (u.L.length - (1 + 2 * areaN u.L.length)) ep
theorem opened_tuple {w w' : World} {bd : Nat} {Z : Nat → Prop} {r : Int × U × Option (Lg × List (List UInt8))} {e : Ending} (h : Opened w bd Z r e w') : ∃ v1 v2 v3, e = .returned (.tuple #[v1, v2, v3]) := by
  obtain ⟨Z', _, _, h⟩ := h
  cases hr : r.2.2 with
  | none => rw [hr] at h; exact ⟨_, _, _, h.1⟩
  | some p => rw [hr] at h; obtain ⟨bg, v, h, _⟩ := h; exact ⟨_, _, _, h⟩
theorem opened_pre {w0 w w' : World} {bd : Nat} {Z : Nat → Prop} {r : Int × U × Option (Lg × List (List UInt8))} {e : Ending} (hf : Fr No w0 w) (h : Opened w bd Z r e w') : Opened w0 bd Z r e w' := by
  obtain ⟨Z', h1, h2, h⟩ := h
  have hs := hf.size
  refine ⟨Z', hf.no.trans' h1, fun j hj => (h2 j hj).imp id (fun hge => by have hge' : w.heap.size ≤ j := hge; omega), ?_⟩
  cases hr : r.2.2 with
  | none => rw [hr] at h; exact h
  | some p =>
    rw [hr] at h
    obtain ⟨bg, v, h3, h4, h5, h6⟩ := h
    exact ⟨bg, v, h3, by omega, h5, h6.mono fun k hk => ⟨by omega, hk.2⟩⟩
section
variable {w : World} {bd : Nat} {Z : Nat → Prop} {u : U}
theorem hentDS (vs : Array Value) (w : World) : (callFunc 32 vs).run Tryz.prog w = .ok (.enter 32 vs) w := by kernel_rfl
theorem hentLO (vs : Array Value) (w : World) : (callFunc 72 vs).run Tryz.prog w = .ok (.enter 72 vs) w := by kernel_rfl
set_option maxHeartbeats 16000000 in
theorem openLog_any (ep : Nat) (h : Dk w bd Z u) (h32 : 32 ≤ u.L.length) (he : ep < 4294967296) (hp : u.P.length < 1000000) :
    Calls Tryz.prog 52 #[vol bd, .int .u32 (ep : Int)] w (Opened w bd Z (U.olog u ep)) := by
  have H := hid h
  have hl := dk_len h
  obtain ⟨n, hn⟩ : ∃ n, u.L.length = n := ⟨_, rfl⟩
  obtain ⟨s, hs⟩ : ∃ s, 1 + 2 * areaN n = s := ⟨_, rfl⟩
  have hsn : s + 2 ≤ n := by rw [← hs]; unfold areaN; omega
  have HSTART := hid (fun w (h : Dk w bd Z u) => start_any h 2 (by decide))
  have HSE : Hid (1 + 2 * areaN u.L.length = s) := hid (by rw [hn, hs])
  obtain ⟨R, hR⟩ : ∃ R, U.olog u ep = R := ⟨_, rfl⟩
  have HR : Hid (u.opens s (n - s) ep = R) := hid (by rw [← hR]; unfold U.olog; rw [hn, hs])
  rw [hR]
  have hni : (n : Int) ≤ 4096 := by omega
  have hsi : (s : Int) ≤ 4096 := by omega
  have HSN := hid hsn
  have HN := hid hn
  have HP := hid hp
  clear h hl hR hp hs hsn hn h32
  go_enter Tryz.func52, Tryz.ntmps52
  go_wp2_with (first
    | ((with_reducible show wpList _ _ _ (⟨_, .box 59 _, _, _, _, _⟩ :: _) _ _); refine wpL_box rfl _ _ rfl _ rfl [pt bd] rfl ?_; intro w1 HB1 F1 HS1'; have hrv := HB1.out.range 0 [pt bd] rfl)
    | ((with_reducible show wpList _ _ _ (⟨_, .load 59 _, _, _, _, _⟩ :: _) _ _); refine wpL_load rfl _ _ rfl w.heap.size 0 rfl [pt bd] _ hrv rfl rfl infoVol ?_)
    | fail)
  refine (HSTART.out w1 (D.Rep.no H.out F1.out)).mono ?_
  rintro e w3 ⟨rfl, f3⟩
  rw [HSE.out]
  have HF3 := hid (F1.out.trans' f3).drew
  have HV3 := hid (HB1.out.fr f3 id)
  have HD3 : Hid (Dk w3.drew bd Z u) := hid (D.Rep.no H.out HF3.out)
  obtain ⟨bv, hbv⟩ : ∃ b, w.heap.size = b := ⟨_, rfl⟩
  rw [hbv] at HV3 ⊢
  clear f3 hrv HB1 F1 HS1' hbv H
  go_wp2_with fail
  have c0 : w3.cell? ⟨bv, 0, none⟩ = some (pt bd) := HV3.out.cell 0
  have hold : Facts.hold [(1, fun w' => w'.cell? ⟨bv, 0, none⟩ = some (pt bd)), (4, fun w' => w'.cell? ⟨bv, 0, none⟩ = some (pt bd))] w3.drew := Facts.cons_hold c0 (Facts.cons_hold c0 (Facts.nil_hold _))
  have WS : Hid (IntKind.i64.wrap ((n : Int) - s) = ((n - s : Nat) : Int)) := hid ((L.wrap_small (by omega) (by have := HSN.out; omega)).trans (by have := HSN.out; omega))
  refine wpD_region hold (by kernel_rfl) 16 rfl ?_
  (refine wpD_plain 0 (v := ?_) rfl (by kernel_rfl) (by kernel_rfl) (by kernel_rfl) (fun _ _ _ h => h) (by rfl) ?_ (by assumption) ?_; rotate_left; (intro _w; go_simp; try with_reducible rfl); simp only [Act.put, List.setIfInBounds_toArray, List.set_cons_zero, List.set_cons_succ])
  (refine wpD_take 1 _ rfl (by kernel_rfl) (by kernel_rfl) (by kernel_rfl) (fun _ _ _ h => h) List.mem_cons_self (by rfl) (v := ?_) ?_ (by assumption) ?_; rotate_left; (intro _w _hw; go_simp; try with_reducible rfl); simp only [Act.put, List.setIfInBounds_toArray, List.set_cons_zero, List.set_cons_succ])
  (refine wpD_plain 2 (v := ?_) rfl (by kernel_rfl) (by kernel_rfl) (by kernel_rfl) (fun _ _ _ h => h) (by rfl) ?_ (by assumption) ?_; rotate_left; (intro _w; go_simp; try with_reducible rfl); simp only [Act.put, List.setIfInBounds_toArray, List.set_cons_zero, List.set_cons_succ])
  (refine wpD_plain 3 (v := ?_) rfl (by kernel_rfl) (by kernel_rfl) (by kernel_rfl) (fun _ _ _ h => h) (by rfl) ?_ (by assumption) ?_; rotate_left; (intro _w; go_simp; try with_reducible rfl); simp only [Act.put, List.setIfInBounds_toArray, List.set_cons_zero, List.set_cons_succ])
  (refine wpD_take 4 _ rfl (by kernel_rfl) (by kernel_rfl) (by kernel_rfl) (fun _ _ _ h => h) (List.mem_cons_of_mem _ List.mem_cons_self) (by rfl) (v := ?_) ?_ (by assumption) ?_; rotate_left; (intro _w _hw; go_simp; try with_reducible rfl); simp only [Act.put, List.setIfInBounds_toArray, List.set_cons_zero, List.set_cons_succ])
  (refine wpD_plain 6 (v := ?_) rfl (by kernel_rfl) (by kernel_rfl) (by kernel_rfl) (fun _ _ _ h => h) (by rfl) ?_ (by assumption) ?_; rotate_left; (intro _w; go_simp; try with_reducible rfl); simp only [Act.put, List.setIfInBounds_toArray, List.set_cons_zero, List.set_cons_succ])
  (refine wpD_plain 8 (v := ?_) rfl (by kernel_rfl) (by kernel_rfl) (by kernel_rfl) (fun _ _ _ h => h) (by rfl) ?_ (by assumption) ?_; rotate_left; (intro _w; go_simp; try with_reducible rfl); simp only [Act.put, List.setIfInBounds_toArray, List.set_cons_zero, List.set_cons_succ])
  clear hold
  refine wpD_only 5 [(1, fun w' => w'.cell? ⟨bv, 0, none⟩ = some (pt bd))] rfl (by kernel_rfl) (by kernel_rfl) (by rfl) (fun K5 hK5 => ?_)
  refine wp_call (.func 32) _ _ rfl 32 [] rfl hentDS [pt bd] (by rfl) ?_
  refine (dsectors_any HD3.out).mono ?_
  rintro e wq ⟨rfl, rfl⟩
  rw [HN.out]
  have hold : Facts.hold [(1, fun w' => w'.cell? ⟨bv, 0, none⟩ = some (pt bd))] w3.drew := Facts.cons_hold c0 (Facts.nil_hold _)
  refine ⟨_, rfl, hK5 _ _ hold ?_⟩
  clear hK5 K5
  simp only [Act.put, List.setIfInBounds_toArray, List.set_cons_zero, List.set_cons_succ]
  (refine wpD_plain 7 (v := (.int .i64 ((n - s : Nat) : Int))) rfl (by kernel_rfl) (by kernel_rfl) (by kernel_rfl) (fun _ _ _ h => h) (by rfl) ?_ (by assumption) ?_; (intro _w; go_simp; exact WS.out); simp only [Act.put, List.setIfInBounds_toArray, List.set_cons_zero, List.set_cons_succ])
  clear hold
  refine wpD_only 9 [] rfl (by kernel_rfl) (by kernel_rfl) (by rfl) (fun K9 hK9 => ?_)
  refine wp_call (.func 72) _ _ rfl 72 [] rfl hentLO [pt bd, .int .i64 (s : Int), .int .i64 ((n - s : Nat) : Int), .int .u32 (ep : Int)] (by rfl) ?_
  refine (open_any s (n - s) ep HD3.out (by have := HSN.out; omega) (by rw [HN.out]; have := HSN.out; omega) he HP.out).mono ?_
  intro e w4 ho
  obtain ⟨v1, v2, v3, rfl⟩ := opened_tuple ho
  rw [HR.out] at ho
  have HO := hid (opened_pre HF3.out ho)
  clear ho
  have hold : Facts.hold [] w4 := Facts.nil_hold _
  refine ⟨_, rfl, hK9 _ _ hold ?_⟩
  clear hK9 K9
  simp only [Act.put, List.setIfInBounds_toArray, List.set_cons_zero, List.set_cons_succ]
  (refine wpD_plain 10 (v := ?_) rfl (by kernel_rfl) (by kernel_rfl) (by kernel_rfl) (fun _ _ _ h => h) (by rfl) ?_ (by assumption) ?_; rotate_left; (intro _w; go_simp; try with_reducible rfl); simp only [Act.put, List.setIfInBounds_toArray, List.set_cons_zero, List.set_cons_succ])
  (refine wpD_plain 11 (v := ?_) rfl (by kernel_rfl) (by kernel_rfl) (by kernel_rfl) (fun _ _ _ h => h) (by rfl) ?_ (by assumption) ?_; rotate_left; (intro _w; go_simp; try with_reducible rfl); simp only [Act.put, List.setIfInBounds_toArray, List.set_cons_zero, List.set_cons_succ])
  (refine wpD_plain 12 (v := ?_) rfl (by kernel_rfl) (by kernel_rfl) (by kernel_rfl) (fun _ _ _ h => h) (by rfl) ?_ (by assumption) ?_; rotate_left; (intro _w; go_simp; try with_reducible rfl); simp only [Act.put, List.setIfInBounds_toArray, List.set_cons_zero, List.set_cons_succ])
  (refine wpD_plain 13 (v := ?_) rfl (by kernel_rfl) (by kernel_rfl) (by kernel_rfl) (fun _ _ _ h => h) (by rfl) ?_ (by assumption) ?_; rotate_left; (intro _w; go_simp; try with_reducible rfl); simp only [Act.put, List.setIfInBounds_toArray, List.set_cons_zero, List.set_cons_succ])
  (refine wpD_plain 14 (v := ?_) rfl (by kernel_rfl) (by kernel_rfl) (by kernel_rfl) (fun _ _ _ h => h) (by rfl) ?_ (by assumption) ?_; rotate_left; (intro _w; go_simp; try with_reducible rfl); simp only [Act.put, List.setIfInBounds_toArray, List.set_cons_zero, List.set_cons_succ])
  (refine wpD_plain 15 (v := ?_) rfl (by kernel_rfl) (by kernel_rfl) (by kernel_rfl) (fun _ _ _ h => h) (by rfl) ?_ (by assumption) ?_; rotate_left; (intro _w; go_simp; try with_reducible rfl); simp only [Act.put, List.setIfInBounds_toArray, List.set_cons_zero, List.set_cons_succ])
  refine wpD_done (by kernel_rfl) ?_ _
  clear hold
  go_wp2_with fail
  refine ret_three rfl rfl ?_
  exact HO.out
end
end Go.Proofs.YtflfmkokfbgclaaGreat.ST
