/-
  The program's texts: of a type with its value, of a step, of a name.
-/
import Derived.Test.YthjmkfpdbbfcpaaGreatDoorDnP
import Derived.Test.YthjmkfpdbbfcpaaGreatDoorDnSh
set_option linter.unusedVariables false
set_option linter.unusedSimpArgs false
namespace Go.Proofs.YthjmkfpdbbfcpaaGreatDoor.DN
set_option maxRecDepth 100000
open Go.RowKit K Go.Proofs.YthjmkfpdbbfcpaaGreatDoor.BE

theorem joinB_len {sep : B} {m : Nat} : ∀ (L : List B), (∀ x ∈ L, x.length ≤ m) → (joinB sep L).length ≤ L.length * (m + sep.length)
  | [], _ => by simp [joinB]
  | [a], h => by
    have := h a (by simp)
    show a.length ≤ 1 * _
    omega
  | a :: b :: r, h => by
    have h1 := h a (by simp)
    have h2 := joinB_len (sep := sep) (b :: r) (fun x hx => h x (by simp [hx]))
    simp only [joinB, List.length_append, List.length_cons] at h2 ⊢
    have e : (r.length + 1 + 1) * (m + sep.length) = (r.length + 1) * (m + sep.length) + (m + sep.length) := by rw [Nat.add_mul]; omega
    rw [e]
    omega
theorem avaT_le {a : Av} (h : AvB 1048576 a) : (avaT a).length ≤ 4194305 := by
  have h1 := (valFrom_len a.2 true).2
  obtain ⟨h2, h3⟩ := h
  simp only [avaT, valT, List.length_append, List.length_singleton]
  omega
theorem stepT_le {r : Rd} (h : RdB 1048576 r) (hr : r.length ≤ 4) : (stepT r).length ≤ 16777224 := by
  have := joinB_len (sep := [43]) (m := 4194305) (r.map avaT) (fun x hx => by
    obtain ⟨a, ha, rfl⟩ := List.mem_map.1 hx
    exact avaT_le (h.2 a ha))
  rw [List.length_map] at this
  have h2 : r.length * (4194305 + [43].length) ≤ 4 * (4194305 + 1) := Nat.mul_le_mul_right _ hr
  exact Nat.le_trans this (Nat.le_trans h2 (by decide))
set_option maxHeartbeats 4000000 in
theorem avaText_any (x : Av) (hx : AvB 1048576 x) (w : World) : Calls Tryz.prog 41 #[.agg #[.string (sb x.1), .string (sb x.2)]] w fun e w' => e = .returned (.string (sb (avaT x))) ∧ Fr No w w' := by
  obtain ⟨t, v⟩ := x
  have HB := hid hx
  simp only at HB ⊢
  clear hx
  go_enter Tryz.func41, Tryz.ntmps41
  go_wp2_with (first
    | ((with_reducible refine K.atO (.box 35 _) ?_); refine wpL_box rfl _ _ rfl _ rfl [.string (sb t), .string (sb v)] rfl ?_; intro w1 HB1 HF1 HS1)
    | fail)
  obtain ⟨g, hg⟩ : ∃ g, w.heap.size = g := ⟨_, rfl⟩
  rw [hg] at HB1 ⊢
  have c0 : w1.cell? ⟨g, 0, none⟩ = some (.string (sb t)) := HB1.out.cell 0
  have c1 : w1.cell? ⟨g, 1, none⟩ = some (.string (sb v)) := HB1.out.cell 1
  have hold : Facts.hold [(1, fun w' => w'.cell? ⟨g, 0, none⟩ = some (.string (sb t))), (4, fun w' => w'.cell? ⟨g, 1, none⟩ = some (.string (sb v)))] w1.drew := Facts.cons_hold c0 (Facts.cons_hold c1 (Facts.nil_hold _))
  refine wpD_region hold (by kernel_rfl) 8 rfl ?_
  (refine wpD_plain 0 (v := ?_) rfl (by kernel_rfl) (by kernel_rfl) (by kernel_rfl) (fun _ _ _ h => h) (by rfl) ?_ (by assumption) ?_; rotate_left; (intro _w; go_simp; try with_reducible rfl); simp only [Act.put, K.put3])
  (refine wpD_plain 3 (v := ?_) rfl (by kernel_rfl) (by kernel_rfl) (by kernel_rfl) (fun _ _ _ h => h) (by rfl) ?_ (by assumption) ?_; rotate_left; (intro _w; go_simp; try with_reducible rfl); simp only [Act.put, K.put3])
  (refine wpD_take 1 _ rfl (by kernel_rfl) (by kernel_rfl) (by kernel_rfl) (fun _ _ _ h => h) List.mem_cons_self (by rfl) (v := ?_) ?_ (by assumption) ?_; rotate_left; (intro _w _hw; go_simp; try with_reducible rfl); simp only [Act.put, K.put3])
  (refine wpD_take 4 _ rfl (by kernel_rfl) (by kernel_rfl) (by kernel_rfl) (fun _ _ _ h => h) (List.mem_cons_of_mem _ List.mem_cons_self) (by rfl) (v := ?_) ?_ (by assumption) ?_; rotate_left; (intro _w _hw; go_simp; try with_reducible rfl); simp only [Act.put, K.put3])
  (refine wpD_plain 2 (v := (.string (sb (t ++ [61])))) rfl (by kernel_rfl) (by kernel_rfl) (by kernel_rfl) (fun _ _ _ h => h) (by rfl) ?_ (by assumption) ?_; (intro _w; exact exec_addS _ _ _ rfl t [61] rfl rfl (by have := HB.out.1; simp only [List.length_singleton] at *; omega) _ rfl _w); simp only [Act.put, K.put3])
  clear hold
  refine wpD_only 5 [(1, fun w' => w'.cell? ⟨g, 0, none⟩ = some (.string (sb t)))] rfl (by kernel_rfl) (by kernel_rfl) (by rfl) (fun K5 hK5 => ?_)
  refine wp_call _ _ _ rfl 53 [] rfl (fun vs w => by kernel_rfl) [.string (sb v)] (by rfl) ?_
  refine (valueText_any v (by have := HB.out.2; simp only at this; omega) w1.drew).mono ?_
  rintro e w2 ⟨rfl, f2⟩
  have c02 : w2.cell? ⟨g, 0, none⟩ = some (.string (sb t)) := f2.cell (show w1.drew.cell? _ = _ from c0) id
  have HF2 := hid (HF1.out.trans' ((Fr.refl No w1).drew.trans' f2))
  refine ⟨_, rfl, hK5 _ _ (Facts.cons_hold c02 (Facts.nil_hold _)) ?_⟩
  clear hK5 K5 f2
  simp only [Act.put, K.put3]
  have hold : Facts.hold [(1, fun w' => w'.cell? ⟨g, 0, none⟩ = some (.string (sb t)))] w2 := Facts.cons_hold c02 (Facts.nil_hold _)
  (refine wpD_plain 6 (v := (.string (sb (t ++ [61] ++ valT v)))) rfl (by kernel_rfl) (by kernel_rfl) (by kernel_rfl) (fun _ _ _ h => h) (by rfl) ?_ (by assumption) ?_; (intro _w; exact exec_addS _ _ _ rfl (t ++ [61]) (valT v) rfl rfl (by have := HB.out; have h2 := (valFrom_len v true).2; unfold AvB at this; simp only [List.length_append, List.length_singleton, valT] at *; omega) _ rfl _w); simp only [Act.put, K.put3])
  (refine wpD_plain 7 (v := ?_) rfl (by kernel_rfl) (by kernel_rfl) (by kernel_rfl) (fun _ _ _ h => h) (by rfl) ?_ (by assumption) ?_; rotate_left; (intro _w; go_simp; try with_reducible rfl); simp only [Act.put, K.put3])
  clear hold
  refine wpD_done (by kernel_rfl) ?_ _
  go_wp2_with fail
  go_ret
  exact ⟨by show Ending.returned (.string (sb (t ++ 61 :: valT v))) = _; simp [avaT], HF2.out⟩
set_option maxHeartbeats 4000000 in
theorem joinedAv_any (E : Nat → Prop) (v : Value) (r : Rd) (w : World) (h : RdIn E w v r) (hb : RdB 1048576 r) (hr : r.length ≤ 4) :
    Calls Tryz.prog 40 #[v, .string (sb [43]), .func (.func 41) #[] #[]] w fun e w' => e = .returned (.string (sb (stepT r))) ∧ Fr No w w' := by
  obtain ⟨a, cp, rfl, -, hl0⟩ := h.form
  have HX := hid h
  have HL := hid (stepT_le hb hr)
  have HB := hid hb
  obtain ⟨n, hn⟩ : ∃ n, r.length = n := ⟨_, rfl⟩
  rw [hn] at HX hr ⊢
  have HNN := hid hn
  have hni : (n : Int) ≤ 4 := by omega
  rw [show sb [43] = (⟨#[43]⟩ : ByteArray) from rfl]
  clear h hb hn hl0
  go_enter Tryz.func40, Tryz.ntmps40
  go_wp2_with fail
  go_loopw [7, 12] (fun sv iv wr => ∃ (i : Nat), iv = .int .i64 i ∧ i ≤ n ∧ Hid (OwR 9 1 w wr sv i (strs ((r.take i).map avaT)))) (fun _ iv _ => n - (intOf iv).toNat)
  case atStart => exact ⟨0, rfl, Nat.zero_le _, hid (owR_nil (Fr.refl _ _))⟩
  case round =>
    obtain ⟨i, rfl, hi, HO⟩ := hrel
    obtain ⟨va, vc, rfl⟩ := HO.out.1
    by_cases hlt : i < n
    · obtain ⟨x, hx⟩ : ∃ x, r[i]? = some x := ⟨_, List.getElem?_eq_getElem (by rw [HNN.out]; exact hlt)⟩
      have hlti : (i : Int) < n := by omega
      have hi0 : (0 : Int) ≤ i := by omega
      obtain ⟨g, o, cq, c, e1, -, hgw, hrr, hc, hxa⟩ := (RdIn.no HX.out HO.out.fr).get hx
      rw [HNN.out] at e1
      simp only [Value.slice.injEq, true_and] at e1
      obtain ⟨rfl, rfl⟩ := e1
      obtain ⟨rfl, hs1, hs2⟩ := hxa
      have HRR := hid hrr
      have HXB : Hid (AvB 1048576 x) := hid (HB.out.2 x (List.mem_of_getElem? hx))
      have HNX : Hid (strs ((r.take (i + 1)).map avaT) = strs ((r.take i).map avaT) ++ [.string (sb (avaT x))]) := hid (by
        rw [List.take_add_one, hx]
        simp [strs])
      have HLT := hid hlt
      clear hc hgw hrr hs1 hs2 hx hlt
      go_wp2_with (first
        | ((with_reducible refine K.atO (.load 35 _) ?_); (fail_if_success (have := HB2)); refine wpL_load rfl _ _ rfl g (o + i * 2) rfl [.string (sb x.1), .string (sb x.2)] _ HRR.out rfl rfl infoAv ?_)
        | ((with_reducible refine K.atO (.alloc 35) ?_); refine wpList_plain rfl fun K1 hK1 => ?_; refine wp_alloc 35 rfl (.agg #[.string ⟨#[]⟩, .string ⟨#[]⟩]) (fun _ => by kernel_rfl) [.string ⟨#[]⟩, .string ⟨#[]⟩] rfl ?_; intro w2 HB2 HF2 HS2; refine hK1 _ _ ?_; clear hK1 K1)
        | ((with_reducible refine K.atO (.store 35 _ _) ?_); refine wpL_store rfl _ _ _ rfl wr.heap.size 0 [.string (sb x.1), .string (sb x.2)] rfl rfl 35 _ HB2.out (by simp) infoAv (by simp [Value.oneCell']) ?_; intro w3 HB3 HF3 HS3)
        | ((with_reducible refine K.atO (.load 35 _) ?_); refine wpL_load rfl _ _ rfl wr.heap.size 0 rfl [.string (sb x.1), .string (sb x.2)] _ (by simpa [spl] using HB3.out.range 0 [.string (sb x.1), .string (sb x.2)] rfl) rfl rfl infoAv ?_)
        | fail)
      refine (avaText_any x HXB.out w3).mono ?_
      rintro e w4 ⟨rfl, f4⟩
      have HF4 : Hid (Fr No wr w4) := hid ((HF2.out.trans HF3.out fun k e => .inr (by have e : k = wr.heap.size := e; omega)).trans' f4)
      have HO4 := hid (OwR.no HO.out HF4.out)
      clear f4
      go_wp2_with (first
        | ((with_reducible refine K.atO (.buildSlice 45 _ _) ?_); refine wpL_app1 rfl rfl _ _ _ 45 9 rfl rfl Tryz.underlying45 infoStr rfl (by decide) (by decide) HO4.out (.string (sb (avaT x))) [.string (sb (avaT x))] rfl rfl rfl (by simp [Value.oneCell']) (fun _ => rfl) (fun _ => rfl) (by omega) (by omega) ?_; intro q a5 c5 w5 HO5 HF5)
        | fail)
      refine ⟨⟨i + 1, by go_num, HLT.out, hid (by rw [HNX.out]; exact HO5.out)⟩, ?_⟩
      have := HLT.out
      simp [intOf]; omega
    · obtain rfl : i = n := by omega
      obtain ⟨a1, c1, e1, hcap, h5⟩ := HO.out.reads
      simp only [Value.slice.injEq, true_and] at e1
      obtain ⟨rfl, rfl⟩ := e1
      have hall : (r.take i).map avaT = r.map avaT := by rw [← HNN.out, List.take_length]
      rw [hall] at h5
      have hlm : (r.map avaT).length = i := by rw [List.length_map]; exact HNN.out
      have HJ := hid (join_any (fun _ => True) (.slice va i vc) (r.map avaT) [43] wr ⟨va, vc, by rw [hlm], by rw [hlm]; exact hcap, by
        rcases h5 with h0 | ⟨g, h1, h2, h3, h4⟩
        · exact .inl (List.eq_nil_of_length_eq_zero (by omega))
        · exact .inr ⟨g, 0, h1, h3, h4⟩⟩ (by omega) (Nat.le_trans HL.out (by decide)))
      clear hcap h5 hall hlm hi hlt
      go_wp2_with fail
      refine HJ.out.mono ?_
      rintro e w6 ⟨rfl, f6⟩
      have HF6 := hid (HO.out.fr.trans' f6)
      clear f6
      go_wp2_with fail
      go_ret
      exact ⟨rfl, HF6.out⟩
theorem stepText_any (E : Nat → Prop) (v : Value) (r : Rd) (w : World) (h : RdIn E w v r) (hb : RdB 1048576 r) (hr : r.length ≤ 4) :
    Calls Tryz.prog 23 #[v] w fun e w' => e = .returned (.string (sb (stepT r))) ∧ Fr No w w' := by
  have H := hid (joinedAv_any E v r w h hb hr)
  obtain ⟨a, cp, rfl, -, -⟩ := h.form
  clear h hb hr
  go_enter Tryz.func23, Tryz.ntmps23
  go_wp2_with fail
  refine H.out.mono ?_
  rintro e w1 ⟨rfl, f1⟩
  have HF := hid f1
  clear f1
  go_wp2_with fail
  go_ret
  exact ⟨rfl, HF.out⟩
set_option maxHeartbeats 4000000 in
theorem joinedRd_any (E : Nat → Prop) (v : Value) (r : Nm) (w : World) (h : NmIn E w v r) (hb : NmB 1048576 r) (hr : r.length ≤ 16) (hs : ∀ x ∈ r, x.length ≤ 4) :
    Calls Tryz.prog 22 #[v, .string (sb [44]), .func (.func 23) #[] #[]] w fun e w' => e = .returned (.string (sb (printT r))) ∧ Fr No w w' := by
  obtain ⟨a, cp, rfl, -, hl0⟩ := h.form
  have HX := hid h
  have HL : Hid ((printT r).length ≤ 140737488355328) := hid (by
    have h1 := joinB_len (sep := [44]) (m := 16777224) (r.map stepT) (fun x hx => by
      obtain ⟨a, ha, rfl⟩ := List.mem_map.1 hx
      exact stepT_le (hb.2 a ha) (hs a ha))
    rw [List.length_map] at h1
    have h2 : r.length * (16777224 + [44].length) ≤ 16 * (16777224 + 1) := Nat.mul_le_mul_right _ hr
    exact Nat.le_trans h1 (Nat.le_trans h2 (by decide)))
  have HB := hid hb
  have HS := hid hs
  obtain ⟨n, hn⟩ : ∃ n, r.length = n := ⟨_, rfl⟩
  rw [hn] at HX hr ⊢
  have HNN := hid hn
  have hni : (n : Int) ≤ 16 := by omega
  rw [show sb [44] = (⟨#[44]⟩ : ByteArray) from rfl]
  clear h hb hn hl0 hs
  go_enter Tryz.func22, Tryz.ntmps22
  go_wp2_with fail
  go_loopw [7, 12] (fun sv iv wr => ∃ (i : Nat), iv = .int .i64 i ∧ i ≤ n ∧ Hid (OwR 9 1 w wr sv i (strs ((r.take i).map stepT)))) (fun _ iv _ => n - (intOf iv).toNat)
  case atStart => exact ⟨0, rfl, Nat.zero_le _, hid (owR_nil (Fr.refl _ _))⟩
  case round =>
    obtain ⟨i, rfl, hi, HO⟩ := hrel
    obtain ⟨va, vc, rfl⟩ := HO.out.1
    by_cases hlt : i < n
    · obtain ⟨x, hx⟩ : ∃ x, r[i]? = some x := ⟨_, List.getElem?_eq_getElem (by rw [HNN.out]; exact hlt)⟩
      have hlti : (i : Int) < n := by omega
      have hi0 : (0 : Int) ≤ i := by omega
      obtain ⟨g, o, cq, c, e1, -, hgw, hrr, hc, hxa⟩ := (NmIn.no HX.out HO.out.fr).get hx
      rw [HNN.out] at e1
      simp only [Value.slice.injEq, true_and] at e1
      obtain ⟨rfl, rfl⟩ := e1
      obtain ⟨vx, rfl, hvx⟩ := hxa
      have hcell : wr.cell? ⟨g, o + i, none⟩ = some vx := by have := hrr 0 vx rfl; simpa using this
      have HVX := hid hvx
      obtain ⟨xa, xc, rfl, -, -⟩ := Sl.form hvx
      have HXB : Hid (RdB 1048576 x ∧ x.length ≤ 4) := hid ⟨HB.out.2 x (List.mem_of_getElem? hx), HS.out x (List.mem_of_getElem? hx)⟩
      have HNX : Hid (strs ((r.take (i + 1)).map stepT) = strs ((r.take i).map stepT) ++ [.string (sb (stepT x))]) := hid (by
        rw [List.take_add_one, hx]
        simp [strs])
      have HLT := hid hlt
      clear hc hgw hrr hvx hx hlt
      go_wp2_with fail
      refine (stepText_any E _ x wr HVX.out HXB.out.1 HXB.out.2).mono ?_
      rintro e w4 ⟨rfl, f4⟩
      have HO4 := hid (OwR.no HO.out f4)
      clear f4
      go_wp2_with (first
        | ((with_reducible refine K.atO (.buildSlice 45 _ _) ?_); refine wpL_app1 rfl rfl _ _ _ 45 9 rfl rfl Tryz.underlying45 infoStr rfl (by decide) (by decide) HO4.out (.string (sb (stepT x))) [.string (sb (stepT x))] rfl rfl rfl (by simp [Value.oneCell']) (fun _ => rfl) (fun _ => rfl) (by omega) (by omega) ?_; intro q a5 c5 w5 HO5 HF5)
        | fail)
      refine ⟨⟨i + 1, by go_num, HLT.out, hid (by rw [HNX.out]; exact HO5.out)⟩, ?_⟩
      have := HLT.out
      simp [intOf]; omega
    · obtain rfl : i = n := by omega
      obtain ⟨a1, c1, e1, hcap, h5⟩ := HO.out.reads
      simp only [Value.slice.injEq, true_and] at e1
      obtain ⟨rfl, rfl⟩ := e1
      have hall : (r.take i).map stepT = r.map stepT := by rw [← HNN.out, List.take_length]
      rw [hall] at h5
      have hlm : (r.map stepT).length = i := by rw [List.length_map]; exact HNN.out
      have HJ := hid (join_any (fun _ => True) (.slice va i vc) (r.map stepT) [44] wr ⟨va, vc, by rw [hlm], by rw [hlm]; exact hcap, by
        rcases h5 with h0 | ⟨g, h1, h2, h3, h4⟩
        · exact .inl (List.eq_nil_of_length_eq_zero (by omega))
        · exact .inr ⟨g, 0, h1, h3, h4⟩⟩ (by omega) HL.out)
      clear hcap h5 hall hlm hi hlt
      go_wp2_with fail
      refine HJ.out.mono ?_
      rintro e w6 ⟨rfl, f6⟩
      have HF6 := hid (HO.out.fr.trans' f6)
      clear f6
      go_wp2_with fail
      go_ret
      exact ⟨rfl, HF6.out⟩
theorem print_any (E : Nat → Prop) (v : Value) (r : Nm) (w : World) (h : NmIn E w v r) (hb : NmB 1048576 r) (hr : r.length ≤ 16) (hs : ∀ x ∈ r, x.length ≤ 4) :
    Calls Tryz.prog 10 #[v] w fun e w' => e = .returned (.string (sb (printT r))) ∧ Fr No w w' := by
  have H := hid (joinedRd_any E v r w h hb hr hs)
  obtain ⟨a, cp, rfl, -, -⟩ := h.form
  clear h hb hr hs
  go_enter Tryz.func10, Tryz.ntmps10
  go_wp2_with fail
  refine H.out.mono ?_
  rintro e w1 ⟨rfl, f1⟩
  have HF := hid f1
  clear f1
  go_wp2_with fail
  go_ret
  exact ⟨rfl, HF.out⟩
end Go.Proofs.YthjmkfpdbbfcpaaGreatDoor.DN
