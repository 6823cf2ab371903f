/-
  Part 17 of the proof: MpF.
-/
import Derived.Test.YthjmkfpdbbfcpaaMn16
set_option linter.unusedSimpArgs false
set_option linter.unusedVariables false
namespace Go.Proofs.Ythjmkfpdbbfcpaa.ME
set_option maxRecDepth 100000
open Go.RowKit K Go.Proofs.Ythjmkfpdbbfcpaa.BE Go.Proofs.Ythjmkfpdbbfcpaa.FR

theorem parts_len (f : Fl) : (partsN f).length ≤ f.any.length + 2 := by
  unfold partsN
  simp only [List.length_append, List.length_map]
  split <;> split <;> simp <;> omega
def wfOk (d : Nat) : Prop := ∀ (M : Nat) (E : Nat → Prop) (f : Fl) (cs : List Value) (w : World), FlC M E w f cs → rightF d f = true → FlB 1048576 d f → Calls Try.prog 74 #[.agg cs.toArray] w (Makes (d + 2) (pieceF d f) w)
set_option maxHeartbeats 8000000 in
theorem wfilter_0 (d M : Nat) (E : Nat → Prop) (kids : List Fl) (ty va fi : B) (any : List B) (la : B) (cs : List Value) (w : World) (h : FlC M E w (.mk 0 kids ty va fi any la) cs) (ih : wfOk d) (hB : FlB 1048576 (d + 1) (.mk 0 kids ty va fi any la)) (hr : ∀ x ∈ kids, rightF d x = true) : Calls Try.prog 74 #[.agg cs.toArray] w (Makes (d + 3) (.mk 160 [] (kids.map (pieceF d))) w) := by
  have HH := hid h
  obtain ⟨M, rfl⟩ := h.succ
  obtain ⟨vk, va', rfl, -, hsT, hsV, -, -, ht, hs⟩ := h
  obtain ⟨k1, ck, rfl, -, -⟩ := hs.form
  obtain ⟨a1, ca, rfl, -, -⟩ := ht.form
  have HKIDS := hid hs; have HST := hid hsT; have HSV := hid hsV
  simp only [Fl.kind, Fl.kids, Fl.type, Fl.value, Fl.first, Fl.any, Fl.last] at HH HKIDS HST HSV ⊢
  obtain ⟨nk, hnk⟩ : ∃ n, kids.length = n := ⟨_, rfl⟩
  obtain ⟨na, hna⟩ : ∃ n, any.length = n := ⟨_, rfl⟩
  rw [hnk, hna] at HH
  rw [hnk] at HKIDS
  rw [hnk, hna]
  obtain ⟨ic, hic, hzc, hsc, hbc⟩ := Go.info_parts infozN
  have IC := hid hic; have ZC := hid hzc; have SC := hid hsc; have BC := hid hbc
  clear hic hzc hsc hbc ht hs hsT hsV hnk hna
  have HBB := hid hB; have HR := hid hr; have IH := hid ih
  clear hB hr ih
  go_enter Try.func74, Try.ntmps74
  go_wp2_with (first
    | ((with_reducible refine K.atO (.box 25 _) ?_); refine wpL_box rfl _ _ rfl _ rfl [.int .i64 0, .slice k1 nk ck, .string (sb ty), .string (sb va), .string (sb fi), .slice a1 na ca, .string (sb la)] rfl ?_; intro w1 HB1 F1 HS1)
    | ((with_reducible refine K.atO (.alloc 44) ?_); refine wpL_alloc rfl _ rfl _ zeroN [.int .i64 0, .string ⟨#[]⟩, .slice none 0 0] rfl ?_; intro w2 HB2 F2 HS2; have HB1' := hid (HB1.out.fr F2.out id); have HF2 := hid (F1.out.trans' F2.out); have c0 : w2.cell? ⟨w.heap.size, 0, none⟩ = some (.int .i64 0) := HB1'.out.cell 0; have c1 : w2.cell? ⟨w.heap.size, 1, none⟩ = some (.slice k1 nk ck) := HB1'.out.cell 1; have c2 : w2.cell? ⟨w.heap.size, 2, none⟩ = some (.string (sb ty)) := HB1'.out.cell 2; have c3 : w2.cell? ⟨w.heap.size, 3, none⟩ = some (.string (sb va)) := HB1'.out.cell 3)
    | fail)
  refine (wlist_fl (d + 2) 160 74 (pieceF d) (fun w x c => FlC M E w x c) E (.slice k1 nk ck) kids w2 ⟨by omega, by omega⟩ (fun _ _ _ _ h hf => h.no hf) (fun _ _ _ h => h.one) (HKIDS.out.noF HF2.out) HBB.out.2.2.2.2.2.2.1 (fun vs w => by kernel_rfl) (fun x hx c wv hc _ => IH.out M E x c wv hc (HR.out x hx) (HBB.out.2.2.2.2.2.2.2 x hx))).mono ?_
  rintro e w3 ⟨ds, rfl, hnd, f3⟩
  obtain ⟨d0, d1, d2, rfl⟩ : ∃ d0 d1 d2, ds = [d0, d1, d2] := by
    have := hnd.len
    match ds, this with
    | [d0, d1, d2], _ => exact ⟨d0, d1, d2, rfl⟩
  have HND := hid hnd; have HBr := hid (HB2.out.fr f3 id); have HF3 := hid (HF2.out.trans' f3)
  clear hnd f3 c0 c1 c2 c3
  go_wp2_with (first
    | ((with_reducible refine K.atO (.store 44 _ _) ?_); refine wpL_storeV rfl _ _ _ rfl w1.heap.size 0 (.agg #[d0, d1, d2]) [d0, d1, d2] rfl rfl rfl _ _ HBr.out (by simp) infoN (by intro u hu; exact HND.out.one u hu) ?_; intro wz HBz Fz HSz)
    | fail)
  refine ret_cell rfl _ rfl HBz.out rfl rfl infoN rfl ?_
  refine ⟨_, rfl, ?_, HF3.out.trans Fz.out fun k e => .inr (by have e : k = w1.heap.size := e; have := HS1.out; omega)⟩
  exact since_le (NdAt.fr Fz.out (fun k hk _ e => by have h : w2.heap.size ≤ k := hk; have e : k = w1.heap.size := e; have := HS2.out; omega) HND.out) (by have := HS1.out; have := HS2.out; omega)
set_option maxHeartbeats 8000000 in
theorem wfilter_1 (d M : Nat) (E : Nat → Prop) (kids : List Fl) (ty va fi : B) (any : List B) (la : B) (cs : List Value) (w : World) (h : FlC M E w (.mk 1 kids ty va fi any la) cs) (ih : wfOk d) (hB : FlB 1048576 (d + 1) (.mk 1 kids ty va fi any la)) (hr : ∀ x ∈ kids, rightF d x = true) : Calls Try.prog 74 #[.agg cs.toArray] w (Makes (d + 3) (.mk 161 [] (kids.map (pieceF d))) w) := by
  have HH := hid h
  obtain ⟨M, rfl⟩ := h.succ
  obtain ⟨vk, va', rfl, -, hsT, hsV, -, -, ht, hs⟩ := h
  obtain ⟨k1, ck, rfl, -, -⟩ := hs.form
  obtain ⟨a1, ca, rfl, -, -⟩ := ht.form
  have HKIDS := hid hs; have HST := hid hsT; have HSV := hid hsV
  simp only [Fl.kind, Fl.kids, Fl.type, Fl.value, Fl.first, Fl.any, Fl.last] at HH HKIDS HST HSV ⊢
  obtain ⟨nk, hnk⟩ : ∃ n, kids.length = n := ⟨_, rfl⟩
  obtain ⟨na, hna⟩ : ∃ n, any.length = n := ⟨_, rfl⟩
  rw [hnk, hna] at HH
  rw [hnk] at HKIDS
  rw [hnk, hna]
  obtain ⟨ic, hic, hzc, hsc, hbc⟩ := Go.info_parts infozN
  have IC := hid hic; have ZC := hid hzc; have SC := hid hsc; have BC := hid hbc
  clear hic hzc hsc hbc ht hs hsT hsV hnk hna
  have HBB := hid hB; have HR := hid hr; have IH := hid ih
  clear hB hr ih
  go_enter Try.func74, Try.ntmps74
  go_wp2_with (first
    | ((with_reducible refine K.atO (.box 25 _) ?_); refine wpL_box rfl _ _ rfl _ rfl [.int .i64 1, .slice k1 nk ck, .string (sb ty), .string (sb va), .string (sb fi), .slice a1 na ca, .string (sb la)] rfl ?_; intro w1 HB1 F1 HS1)
    | ((with_reducible refine K.atO (.alloc 44) ?_); refine wpL_alloc rfl _ rfl _ zeroN [.int .i64 0, .string ⟨#[]⟩, .slice none 0 0] rfl ?_; intro w2 HB2 F2 HS2; have HB1' := hid (HB1.out.fr F2.out id); have HF2 := hid (F1.out.trans' F2.out); have c0 : w2.cell? ⟨w.heap.size, 0, none⟩ = some (.int .i64 1) := HB1'.out.cell 0; have c1 : w2.cell? ⟨w.heap.size, 1, none⟩ = some (.slice k1 nk ck) := HB1'.out.cell 1; have c2 : w2.cell? ⟨w.heap.size, 2, none⟩ = some (.string (sb ty)) := HB1'.out.cell 2; have c3 : w2.cell? ⟨w.heap.size, 3, none⟩ = some (.string (sb va)) := HB1'.out.cell 3)
    | fail)
  refine (wlist_fl (d + 2) 161 74 (pieceF d) (fun w x c => FlC M E w x c) E (.slice k1 nk ck) kids w2 ⟨by omega, by omega⟩ (fun _ _ _ _ h hf => h.no hf) (fun _ _ _ h => h.one) (HKIDS.out.noF HF2.out) HBB.out.2.2.2.2.2.2.1 (fun vs w => by kernel_rfl) (fun x hx c wv hc _ => IH.out M E x c wv hc (HR.out x hx) (HBB.out.2.2.2.2.2.2.2 x hx))).mono ?_
  rintro e w3 ⟨ds, rfl, hnd, f3⟩
  obtain ⟨d0, d1, d2, rfl⟩ : ∃ d0 d1 d2, ds = [d0, d1, d2] := by
    have := hnd.len
    match ds, this with
    | [d0, d1, d2], _ => exact ⟨d0, d1, d2, rfl⟩
  have HND := hid hnd; have HBr := hid (HB2.out.fr f3 id); have HF3 := hid (HF2.out.trans' f3)
  clear hnd f3 c0 c1 c2 c3
  go_wp2_with (first
    | ((with_reducible refine K.atO (.store 44 _ _) ?_); refine wpL_storeV rfl _ _ _ rfl w1.heap.size 0 (.agg #[d0, d1, d2]) [d0, d1, d2] rfl rfl rfl _ _ HBr.out (by simp) infoN (by intro u hu; exact HND.out.one u hu) ?_; intro wz HBz Fz HSz)
    | fail)
  refine ret_cell rfl _ rfl HBz.out rfl rfl infoN rfl ?_
  refine ⟨_, rfl, ?_, HF3.out.trans Fz.out fun k e => .inr (by have e : k = w1.heap.size := e; have := HS1.out; omega)⟩
  exact since_le (NdAt.fr Fz.out (fun k hk _ e => by have h : w2.heap.size ≤ k := hk; have e : k = w1.heap.size := e; have := HS2.out; omega) HND.out) (by have := HS1.out; have := HS2.out; omega)
set_option maxHeartbeats 8000000 in
theorem wfilter_2 (d M : Nat) (E : Nat → Prop) (kids : List Fl) (ty va fi : B) (any : List B) (la : B) (cs : List Value) (w : World) (h : FlC M E w (.mk 2 kids ty va fi any la) cs) (ih : wfOk d) (hB : FlB 1048576 (d + 1) (.mk 2 kids ty va fi any la)) (hr : ∀ x ∈ kids, rightF d x = true) : Calls Try.prog 74 #[.agg cs.toArray] w (Makes (d + 3) (.mk 162 [] (kids.map (pieceF d))) w) := by
  have HH := hid h
  obtain ⟨M, rfl⟩ := h.succ
  obtain ⟨vk, va', rfl, -, hsT, hsV, -, -, ht, hs⟩ := h
  obtain ⟨k1, ck, rfl, -, -⟩ := hs.form
  obtain ⟨a1, ca, rfl, -, -⟩ := ht.form
  have HKIDS := hid hs; have HST := hid hsT; have HSV := hid hsV
  simp only [Fl.kind, Fl.kids, Fl.type, Fl.value, Fl.first, Fl.any, Fl.last] at HH HKIDS HST HSV ⊢
  obtain ⟨nk, hnk⟩ : ∃ n, kids.length = n := ⟨_, rfl⟩
  obtain ⟨na, hna⟩ : ∃ n, any.length = n := ⟨_, rfl⟩
  rw [hnk, hna] at HH
  rw [hnk] at HKIDS
  rw [hnk, hna]
  obtain ⟨ic, hic, hzc, hsc, hbc⟩ := Go.info_parts infozN
  have IC := hid hic; have ZC := hid hzc; have SC := hid hsc; have BC := hid hbc
  clear hic hzc hsc hbc ht hs hsT hsV hnk hna
  have HBB := hid hB; have HR := hid hr; have IH := hid ih
  clear hB hr ih
  go_enter Try.func74, Try.ntmps74
  go_wp2_with (first
    | ((with_reducible refine K.atO (.box 25 _) ?_); refine wpL_box rfl _ _ rfl _ rfl [.int .i64 2, .slice k1 nk ck, .string (sb ty), .string (sb va), .string (sb fi), .slice a1 na ca, .string (sb la)] rfl ?_; intro w1 HB1 F1 HS1)
    | ((with_reducible refine K.atO (.alloc 44) ?_); refine wpL_alloc rfl _ rfl _ zeroN [.int .i64 0, .string ⟨#[]⟩, .slice none 0 0] rfl ?_; intro w2 HB2 F2 HS2; have HB1' := hid (HB1.out.fr F2.out id); have HF2 := hid (F1.out.trans' F2.out); have c0 : w2.cell? ⟨w.heap.size, 0, none⟩ = some (.int .i64 2) := HB1'.out.cell 0; have c1 : w2.cell? ⟨w.heap.size, 1, none⟩ = some (.slice k1 nk ck) := HB1'.out.cell 1; have c2 : w2.cell? ⟨w.heap.size, 2, none⟩ = some (.string (sb ty)) := HB1'.out.cell 2; have c3 : w2.cell? ⟨w.heap.size, 3, none⟩ = some (.string (sb va)) := HB1'.out.cell 3)
    | fail)
  refine (wlist_fl (d + 2) 162 74 (pieceF d) (fun w x c => FlC M E w x c) E (.slice k1 nk ck) kids w2 ⟨by omega, by omega⟩ (fun _ _ _ _ h hf => h.no hf) (fun _ _ _ h => h.one) (HKIDS.out.noF HF2.out) HBB.out.2.2.2.2.2.2.1 (fun vs w => by kernel_rfl) (fun x hx c wv hc _ => IH.out M E x c wv hc (HR.out x hx) (HBB.out.2.2.2.2.2.2.2 x hx))).mono ?_
  rintro e w3 ⟨ds, rfl, hnd, f3⟩
  obtain ⟨d0, d1, d2, rfl⟩ : ∃ d0 d1 d2, ds = [d0, d1, d2] := by
    have := hnd.len
    match ds, this with
    | [d0, d1, d2], _ => exact ⟨d0, d1, d2, rfl⟩
  have HND := hid hnd; have HBr := hid (HB2.out.fr f3 id); have HF3 := hid (HF2.out.trans' f3)
  clear hnd f3 c0 c1 c2 c3
  go_wp2_with (first
    | ((with_reducible refine K.atO (.store 44 _ _) ?_); refine wpL_storeV rfl _ _ _ rfl w1.heap.size 0 (.agg #[d0, d1, d2]) [d0, d1, d2] rfl rfl rfl _ _ HBr.out (by simp) infoN (by intro u hu; exact HND.out.one u hu) ?_; intro wz HBz Fz HSz)
    | fail)
  refine ret_cell rfl _ rfl HBz.out rfl rfl infoN rfl ?_
  refine ⟨_, rfl, ?_, HF3.out.trans Fz.out fun k e => .inr (by have e : k = w1.heap.size := e; have := HS1.out; omega)⟩
  exact since_le (NdAt.fr Fz.out (fun k hk _ e => by have h : w2.heap.size ≤ k := hk; have e : k = w1.heap.size := e; have := HS2.out; omega) HND.out) (by have := HS1.out; have := HS2.out; omega)
set_option maxHeartbeats 8000000 in
theorem wfilter_3 (d M : Nat) (E : Nat → Prop) (kids : List Fl) (ty va fi : B) (any : List B) (la : B) (cs : List Value) (w : World) (h : FlC M E w (.mk 3 kids ty va fi any la) cs)  : Calls Try.prog 74 #[.agg cs.toArray] w (Makes (d + 3) (.mk 163 [] [txN ty, txN va]) w) := by
  have HH := hid h
  obtain ⟨M, rfl⟩ := h.succ
  obtain ⟨vk, va', rfl, -, hsT, hsV, -, -, ht, hs⟩ := h
  obtain ⟨k1, ck, rfl, -, -⟩ := hs.form
  obtain ⟨a1, ca, rfl, -, -⟩ := ht.form
  have HKIDS := hid hs; have HST := hid hsT; have HSV := hid hsV
  simp only [Fl.kind, Fl.kids, Fl.type, Fl.value, Fl.first, Fl.any, Fl.last] at HH HKIDS HST HSV ⊢
  obtain ⟨nk, hnk⟩ : ∃ n, kids.length = n := ⟨_, rfl⟩
  obtain ⟨na, hna⟩ : ∃ n, any.length = n := ⟨_, rfl⟩
  rw [hnk, hna] at HH
  rw [hnk] at HKIDS
  rw [hnk, hna]
  obtain ⟨ic, hic, hzc, hsc, hbc⟩ := Go.info_parts infozN
  have IC := hid hic; have ZC := hid hzc; have SC := hid hsc; have BC := hid hbc
  clear hic hzc hsc hbc ht hs hsT hsV hnk hna
  go_enter Try.func74, Try.ntmps74
  go_wp2_with (first
    | ((with_reducible refine K.atO (.box 25 _) ?_); refine wpL_box rfl _ _ rfl _ rfl [.int .i64 3, .slice k1 nk ck, .string (sb ty), .string (sb va), .string (sb fi), .slice a1 na ca, .string (sb la)] rfl ?_; intro w1 HB1 F1 HS1)
    | ((with_reducible refine K.atO (.alloc 44) ?_); refine wpL_alloc rfl _ rfl _ zeroN [.int .i64 0, .string ⟨#[]⟩, .slice none 0 0] rfl ?_; intro w2 HB2 F2 HS2; have HB1' := hid (HB1.out.fr F2.out id); have HF2 := hid (F1.out.trans' F2.out); have c0 : w2.cell? ⟨w.heap.size, 0, none⟩ = some (.int .i64 3) := HB1'.out.cell 0; have c1 : w2.cell? ⟨w.heap.size, 1, none⟩ = some (.slice k1 nk ck) := HB1'.out.cell 1; have c2 : w2.cell? ⟨w.heap.size, 2, none⟩ = some (.string (sb ty)) := HB1'.out.cell 2; have c3 : w2.cell? ⟨w.heap.size, 3, none⟩ = some (.string (sb va)) := HB1'.out.cell 3)
    | fail)
  have hold : Facts.hold [(1, fun w' => w'.cell? ⟨w.heap.size, 0, none⟩ = some (.int .i64 3)), (4, fun w' => w'.cell? ⟨w.heap.size, 2, none⟩ = some (.string (sb ty))), (7, fun w' => w'.cell? ⟨w.heap.size, 3, none⟩ = some (.string (sb va)))] w2.drew := Facts.cons_hold c0 (Facts.cons_hold c2 (Facts.cons_hold c3 (Facts.nil_hold _)))
  refine wpD_region hold (by kernel_rfl) 12 rfl ?_
  (refine wpD_plain 0 (v := ?_) rfl (by kernel_rfl) (by kernel_rfl) (by kernel_rfl) (fun _ _ _ h => h) (by rfl) ?_ (by assumption) ?_; rotate_left; (intro _w; go_simp; try with_reducible rfl); simp only [Act.put, K.put3])
  (refine wpD_take 1 _ rfl (by kernel_rfl) (by kernel_rfl) (by kernel_rfl) (fun _ _ _ h => h) List.mem_cons_self (by rfl) (v := ?_) ?_ (by assumption) ?_; rotate_left; (intro _w _hw; go_simp; try with_reducible rfl); simp only [Act.put, K.put3])
  (refine wpD_plain 2 (v := ?_) rfl (by kernel_rfl) (by kernel_rfl) (by kernel_rfl) (fun _ _ _ h => h) (by rfl) ?_ (by assumption) ?_; rotate_left; (intro _w; go_simp; try with_reducible rfl); simp only [Act.put, K.put3])
  (refine wpD_plain 3 (v := ?_) rfl (by kernel_rfl) (by kernel_rfl) (by kernel_rfl) (fun _ _ _ h => h) (by rfl) ?_ (by assumption) ?_; rotate_left; (intro _w; go_simp; try with_reducible rfl); simp only [Act.put, K.put3])
  (refine wpD_take 4 _ rfl (by kernel_rfl) (by kernel_rfl) (by kernel_rfl) (fun _ _ _ h => h) (List.mem_cons_of_mem _ List.mem_cons_self) (by rfl) (v := ?_) ?_ (by assumption) ?_; rotate_left; (intro _w _hw; go_simp; try with_reducible rfl); simp only [Act.put, K.put3])
  (refine wpD_plain 6 (v := ?_) rfl (by kernel_rfl) (by kernel_rfl) (by kernel_rfl) (fun _ _ _ h => h) (by rfl) ?_ (by assumption) ?_; rotate_left; (intro _w; go_simp; try with_reducible rfl); simp only [Act.put, K.put3])
  (refine wpD_take 7 _ rfl (by kernel_rfl) (by kernel_rfl) (by kernel_rfl) (fun _ _ _ h => h) (List.mem_cons_of_mem _ (List.mem_cons_of_mem _ List.mem_cons_self)) (by rfl) (v := ?_) ?_ (by assumption) ?_; rotate_left; (intro _w _hw; go_simp; try with_reducible rfl); simp only [Act.put, K.put3])
  clear hold
  clear c1
  refine wpD_only 5 [(1, fun w' => w'.cell? ⟨w.heap.size, 0, none⟩ = some (.int .i64 3)), (7, fun w' => w'.cell? ⟨w.heap.size, 3, none⟩ = some (.string (sb va)))] rfl (by kernel_rfl) (by kernel_rfl) (by rfl) (fun K5 hK5 => ?_)
  refine wp_call _ _ _ rfl 71 [] rfl (fun vs w => by kernel_rfl) [.string (sb ty)] (by rfl) ?_
  refine (wtext_any (sb ty) w2.drew).mono ?_
  rintro e w1c ⟨rfl, f1⟩
  have hf1 : Fr No w2 w1c := (Fr.refl No w2).drew.trans' f1
  refine ⟨_, rfl, hK5 _ _ (Facts.cons_hold (hf1.cell c0 id) (Facts.cons_hold (hf1.cell c3 id) (Facts.nil_hold _))) ?_⟩
  have k1_1 := hf1.cell c0 id
  have k1_7 := hf1.cell c3 id
  have HF1 := hid (HF2.out.trans' hf1)
  have HG1 := hid hf1
  clear hK5 K5 f1 hf1 c0 c3 c2
  simp only [Act.put, K.put3]
  refine wpD_only 8 [(1, fun w' => w'.cell? ⟨w.heap.size, 0, none⟩ = some (.int .i64 3))] rfl (by kernel_rfl) (by kernel_rfl) (by rfl) (fun K8 hK8 => ?_)
  refine wp_call _ _ _ rfl 71 [] rfl (fun vs w => by kernel_rfl) [.string (sb va)] (by rfl) ?_
  refine (wtext_any (sb va) w1c).mono ?_
  rintro e w2c ⟨rfl, f2⟩
  have hf2 : Fr No w1c w2c := f2
  refine ⟨_, rfl, hK8 _ _ (Facts.cons_hold (hf2.cell k1_1 id) (Facts.nil_hold _)) ?_⟩
  have k2_1 := hf2.cell k1_1 id
  have HF2 := hid (HF1.out.trans' hf2)
  have HG2 := hid (HG1.out.trans' hf2)
  clear hK8 K8 f2 hf2 k1_1 k1_7 HG1 HF1
  simp only [Act.put, K.put3]
  refine wpD_only 9 [(1, fun w' => w'.cell? ⟨w.heap.size, 0, none⟩ = some (.int .i64 3))] rfl (by kernel_rfl) (by kernel_rfl) (by rfl) (fun K9 hK9 => ?_)
  refine wp_buildRun 42 44 2 [(0, _), (1, _)] rfl [.int .i64 4, .string (sb ty), .slice none 0 0, .int .i64 4, .string (sb va), .slice none 0 0] (run_buildAll 42 44 [.agg #[.int .i64 4, .string (sb ty), .slice none 0 0], .agg #[.int .i64 4, .string (sb va), .slice none 0 0]] ic _ Try.underlying42 IC.out ZC.out (by rw [SC.out]; decide) (by rw [SC.out]; show 2 * 3 ≤ 16777216; decide) (by show 0 < 2; decide) (by rw [SC.out]; intro u hu; simp at hu; rcases hu with rfl | rfl <;> rfl) _) ?_
  intro w3c HB3 F3 HS3
  have hf3 := F3.out
  refine hK9 _ _ (Facts.cons_hold (hf3.cell k2_1 id) (Facts.nil_hold _)) ?_
  have HL3 := hid HG2.out.size
  have k3_1 := hf3.cell k2_1 id
  have HF3 := hid (HF2.out.trans' hf3)
  have HG3 := hid (HG2.out.trans' hf3)
  have hX3 := HB3
  clear hK9 K9 F3 hf3 HS3 HB3 k2_1 HG2 HF2
  simp only [Act.put, K.put3]
  refine wpD_only 10 [(1, fun w' => w'.cell? ⟨w.heap.size, 0, none⟩ = some (.int .i64 3))] rfl (by kernel_rfl) (by kernel_rfl) (by rfl) (fun K10 hK10 => ?_)
  refine wp_call _ _ _ rfl 23 [] rfl (fun vs w => by kernel_rfl) [.int .i64 163, .slice (some ⟨w2c.heap.size, 0, none⟩) 2 2] (by rfl) ?_
  refine (wof_any 163 (some ⟨w2c.heap.size, 0, none⟩) 2 2 w3c).mono ?_
  rintro e w4c ⟨rfl, f4⟩
  have hf4 : Fr No w3c w4c := f4
  refine ⟨_, rfl, hK10 _ _ (Facts.cons_hold (hf4.cell k3_1 id) (Facts.nil_hold _)) ?_⟩
  have k4_1 := hf4.cell k3_1 id
  have HX4_b3 := hid (hX3.out.fr hf4 id)
  have HF4 := hid (HF3.out.trans' hf4)
  have HG4 := hid (HG3.out.trans' hf4)
  clear hK10 K10 f4 hf4 k3_1 hX3 HG3 HF3
  simp only [Act.put, K.put3]
  have HWH := hid (nd_kids (M := 1) (S := Since w2.heap.size) (t := 163) (kids := [txN ty, txN va]) (L := [[.int .i64 4, .string (sb ty), .slice none 0 0], [.int .i64 4, .string (sb va), .slice none 0 0]]) ⟨by omega, by omega⟩ HX4_b3.out (by show w2.heap.size ≤ _; exact HL3.out) rfl (by show (2 : Nat) ≤ _; omega) (fun j y c hy hc => by
    match j, hy, hc with
    | 0, hy, hc => cases hy; cases hc; exact leaf_any 0 _ _ 4 ty ⟨by omega, by omega⟩ HST.out
    | 1, hy, hc => cases hy; cases hc; exact leaf_any 0 _ _ 4 va ⟨by omega, by omega⟩ HSV.out
    | j + 2, hy, hc => simp at hc))
  have HBr := hid (HB2.out.fr HG4.out id)
  refine wpD_only 11 [] rfl (by kernel_rfl) (by kernel_rfl) (by rfl) (fun K11 hK11 => ?_)
  refine wp_storeV _ _ _ rfl w1.heap.size 0 (.agg #[.int .i64 163, .string ⟨#[]⟩, .slice (some ⟨w2c.heap.size, 0, none⟩) 2 2]) [.int .i64 163, .string ⟨#[]⟩, .slice (some ⟨w2c.heap.size, 0, none⟩) 2 2] rfl rfl rfl _ _ HBr.out (by simp) infoN (by intro u hu; simp at hu; rcases hu with rfl | rfl | rfl <;> rfl) ?_
  intro wz HBz Fz HSz
  refine hK11 _ _ (Facts.nil_hold _) ?_
  clear hK11 K11
  simp only [Act.put, K.put3]
  refine wpD_done (by kernel_rfl) ?_ _
  have HFz := hid (HF4.out.trans Fz.out fun k e => .inr (by have e : k = w1.heap.size := e; have := HS1.out; omega))
  have HNz := hid (since_le (N' := w.heap.size) (NdAt.fr Fz.out (fun k hk _ e => by have h : w2.heap.size ≤ k := hk; have e : k = w1.heap.size := e; have := HS2.out; omega) HWH.out) (by have := HS1.out; have := HS2.out; omega))
  go_wp2_with fail
  refine ret_cell rfl _ rfl HBz.out rfl rfl infoN rfl ?_
  exact ⟨_, rfl, nd_le HNz.out (by omega), HFz.out⟩
set_option maxHeartbeats 8000000 in
theorem wfilter_5 (d M : Nat) (E : Nat → Prop) (kids : List Fl) (ty va fi : B) (any : List B) (la : B) (cs : List Value) (w : World) (h : FlC M E w (.mk 5 kids ty va fi any la) cs)  : Calls Try.prog 74 #[.agg cs.toArray] w (Makes (d + 3) (.mk 165 [] [txN ty, txN va]) w) := by
  have HH := hid h
  obtain ⟨M, rfl⟩ := h.succ
  obtain ⟨vk, va', rfl, -, hsT, hsV, -, -, ht, hs⟩ := h
  obtain ⟨k1, ck, rfl, -, -⟩ := hs.form
  obtain ⟨a1, ca, rfl, -, -⟩ := ht.form
  have HKIDS := hid hs; have HST := hid hsT; have HSV := hid hsV
  simp only [Fl.kind, Fl.kids, Fl.type, Fl.value, Fl.first, Fl.any, Fl.last] at HH HKIDS HST HSV ⊢
  obtain ⟨nk, hnk⟩ : ∃ n, kids.length = n := ⟨_, rfl⟩
  obtain ⟨na, hna⟩ : ∃ n, any.length = n := ⟨_, rfl⟩
  rw [hnk, hna] at HH
  rw [hnk] at HKIDS
  rw [hnk, hna]
  obtain ⟨ic, hic, hzc, hsc, hbc⟩ := Go.info_parts infozN
  have IC := hid hic; have ZC := hid hzc; have SC := hid hsc; have BC := hid hbc
  clear hic hzc hsc hbc ht hs hsT hsV hnk hna
  go_enter Try.func74, Try.ntmps74
  go_wp2_with (first
    | ((with_reducible refine K.atO (.box 25 _) ?_); refine wpL_box rfl _ _ rfl _ rfl [.int .i64 5, .slice k1 nk ck, .string (sb ty), .string (sb va), .string (sb fi), .slice a1 na ca, .string (sb la)] rfl ?_; intro w1 HB1 F1 HS1)
    | ((with_reducible refine K.atO (.alloc 44) ?_); refine wpL_alloc rfl _ rfl _ zeroN [.int .i64 0, .string ⟨#[]⟩, .slice none 0 0] rfl ?_; intro w2 HB2 F2 HS2; have HB1' := hid (HB1.out.fr F2.out id); have HF2 := hid (F1.out.trans' F2.out); have c0 : w2.cell? ⟨w.heap.size, 0, none⟩ = some (.int .i64 5) := HB1'.out.cell 0; have c1 : w2.cell? ⟨w.heap.size, 1, none⟩ = some (.slice k1 nk ck) := HB1'.out.cell 1; have c2 : w2.cell? ⟨w.heap.size, 2, none⟩ = some (.string (sb ty)) := HB1'.out.cell 2; have c3 : w2.cell? ⟨w.heap.size, 3, none⟩ = some (.string (sb va)) := HB1'.out.cell 3)
    | fail)
  have hold : Facts.hold [(1, fun w' => w'.cell? ⟨w.heap.size, 0, none⟩ = some (.int .i64 5)), (4, fun w' => w'.cell? ⟨w.heap.size, 2, none⟩ = some (.string (sb ty))), (7, fun w' => w'.cell? ⟨w.heap.size, 3, none⟩ = some (.string (sb va)))] w2.drew := Facts.cons_hold c0 (Facts.cons_hold c2 (Facts.cons_hold c3 (Facts.nil_hold _)))
  refine wpD_region hold (by kernel_rfl) 12 rfl ?_
  (refine wpD_plain 0 (v := ?_) rfl (by kernel_rfl) (by kernel_rfl) (by kernel_rfl) (fun _ _ _ h => h) (by rfl) ?_ (by assumption) ?_; rotate_left; (intro _w; go_simp; try with_reducible rfl); simp only [Act.put, K.put3])
  (refine wpD_take 1 _ rfl (by kernel_rfl) (by kernel_rfl) (by kernel_rfl) (fun _ _ _ h => h) List.mem_cons_self (by rfl) (v := ?_) ?_ (by assumption) ?_; rotate_left; (intro _w _hw; go_simp; try with_reducible rfl); simp only [Act.put, K.put3])
  (refine wpD_plain 2 (v := ?_) rfl (by kernel_rfl) (by kernel_rfl) (by kernel_rfl) (fun _ _ _ h => h) (by rfl) ?_ (by assumption) ?_; rotate_left; (intro _w; go_simp; try with_reducible rfl); simp only [Act.put, K.put3])
  (refine wpD_plain 3 (v := ?_) rfl (by kernel_rfl) (by kernel_rfl) (by kernel_rfl) (fun _ _ _ h => h) (by rfl) ?_ (by assumption) ?_; rotate_left; (intro _w; go_simp; try with_reducible rfl); simp only [Act.put, K.put3])
  (refine wpD_take 4 _ rfl (by kernel_rfl) (by kernel_rfl) (by kernel_rfl) (fun _ _ _ h => h) (List.mem_cons_of_mem _ List.mem_cons_self) (by rfl) (v := ?_) ?_ (by assumption) ?_; rotate_left; (intro _w _hw; go_simp; try with_reducible rfl); simp only [Act.put, K.put3])
  (refine wpD_plain 6 (v := ?_) rfl (by kernel_rfl) (by kernel_rfl) (by kernel_rfl) (fun _ _ _ h => h) (by rfl) ?_ (by assumption) ?_; rotate_left; (intro _w; go_simp; try with_reducible rfl); simp only [Act.put, K.put3])
  (refine wpD_take 7 _ rfl (by kernel_rfl) (by kernel_rfl) (by kernel_rfl) (fun _ _ _ h => h) (List.mem_cons_of_mem _ (List.mem_cons_of_mem _ List.mem_cons_self)) (by rfl) (v := ?_) ?_ (by assumption) ?_; rotate_left; (intro _w _hw; go_simp; try with_reducible rfl); simp only [Act.put, K.put3])
  clear hold
  clear c1
  refine wpD_only 5 [(1, fun w' => w'.cell? ⟨w.heap.size, 0, none⟩ = some (.int .i64 5)), (7, fun w' => w'.cell? ⟨w.heap.size, 3, none⟩ = some (.string (sb va)))] rfl (by kernel_rfl) (by kernel_rfl) (by rfl) (fun K5 hK5 => ?_)
  refine wp_call _ _ _ rfl 71 [] rfl (fun vs w => by kernel_rfl) [.string (sb ty)] (by rfl) ?_
  refine (wtext_any (sb ty) w2.drew).mono ?_
  rintro e w1c ⟨rfl, f1⟩
  have hf1 : Fr No w2 w1c := (Fr.refl No w2).drew.trans' f1
  refine ⟨_, rfl, hK5 _ _ (Facts.cons_hold (hf1.cell c0 id) (Facts.cons_hold (hf1.cell c3 id) (Facts.nil_hold _))) ?_⟩
  have k1_1 := hf1.cell c0 id
  have k1_7 := hf1.cell c3 id
  have HF1 := hid (HF2.out.trans' hf1)
  have HG1 := hid hf1
  clear hK5 K5 f1 hf1 c0 c3 c2
  simp only [Act.put, K.put3]
  refine wpD_only 8 [(1, fun w' => w'.cell? ⟨w.heap.size, 0, none⟩ = some (.int .i64 5))] rfl (by kernel_rfl) (by kernel_rfl) (by rfl) (fun K8 hK8 => ?_)
  refine wp_call _ _ _ rfl 71 [] rfl (fun vs w => by kernel_rfl) [.string (sb va)] (by rfl) ?_
  refine (wtext_any (sb va) w1c).mono ?_
  rintro e w2c ⟨rfl, f2⟩
  have hf2 : Fr No w1c w2c := f2
  refine ⟨_, rfl, hK8 _ _ (Facts.cons_hold (hf2.cell k1_1 id) (Facts.nil_hold _)) ?_⟩
  have k2_1 := hf2.cell k1_1 id
  have HF2 := hid (HF1.out.trans' hf2)
  have HG2 := hid (HG1.out.trans' hf2)
  clear hK8 K8 f2 hf2 k1_1 k1_7 HG1 HF1
  simp only [Act.put, K.put3]
  refine wpD_only 9 [(1, fun w' => w'.cell? ⟨w.heap.size, 0, none⟩ = some (.int .i64 5))] rfl (by kernel_rfl) (by kernel_rfl) (by rfl) (fun K9 hK9 => ?_)
  refine wp_buildRun 42 44 2 [(0, _), (1, _)] rfl [.int .i64 4, .string (sb ty), .slice none 0 0, .int .i64 4, .string (sb va), .slice none 0 0] (run_buildAll 42 44 [.agg #[.int .i64 4, .string (sb ty), .slice none 0 0], .agg #[.int .i64 4, .string (sb va), .slice none 0 0]] ic _ Try.underlying42 IC.out ZC.out (by rw [SC.out]; decide) (by rw [SC.out]; show 2 * 3 ≤ 16777216; decide) (by show 0 < 2; decide) (by rw [SC.out]; intro u hu; simp at hu; rcases hu with rfl | rfl <;> rfl) _) ?_
  intro w3c HB3 F3 HS3
  have hf3 := F3.out
  refine hK9 _ _ (Facts.cons_hold (hf3.cell k2_1 id) (Facts.nil_hold _)) ?_
  have HL3 := hid HG2.out.size
  have k3_1 := hf3.cell k2_1 id
  have HF3 := hid (HF2.out.trans' hf3)
  have HG3 := hid (HG2.out.trans' hf3)
  have hX3 := HB3
  clear hK9 K9 F3 hf3 HS3 HB3 k2_1 HG2 HF2
  simp only [Act.put, K.put3]
  refine wpD_only 10 [(1, fun w' => w'.cell? ⟨w.heap.size, 0, none⟩ = some (.int .i64 5))] rfl (by kernel_rfl) (by kernel_rfl) (by rfl) (fun K10 hK10 => ?_)
  refine wp_call _ _ _ rfl 23 [] rfl (fun vs w => by kernel_rfl) [.int .i64 165, .slice (some ⟨w2c.heap.size, 0, none⟩) 2 2] (by rfl) ?_
  refine (wof_any 165 (some ⟨w2c.heap.size, 0, none⟩) 2 2 w3c).mono ?_
  rintro e w4c ⟨rfl, f4⟩
  have hf4 : Fr No w3c w4c := f4
  refine ⟨_, rfl, hK10 _ _ (Facts.cons_hold (hf4.cell k3_1 id) (Facts.nil_hold _)) ?_⟩
  have k4_1 := hf4.cell k3_1 id
  have HX4_b3 := hid (hX3.out.fr hf4 id)
  have HF4 := hid (HF3.out.trans' hf4)
  have HG4 := hid (HG3.out.trans' hf4)
  clear hK10 K10 f4 hf4 k3_1 hX3 HG3 HF3
  simp only [Act.put, K.put3]
  have HWH := hid (nd_kids (M := 1) (S := Since w2.heap.size) (t := 165) (kids := [txN ty, txN va]) (L := [[.int .i64 4, .string (sb ty), .slice none 0 0], [.int .i64 4, .string (sb va), .slice none 0 0]]) ⟨by omega, by omega⟩ HX4_b3.out (by show w2.heap.size ≤ _; exact HL3.out) rfl (by show (2 : Nat) ≤ _; omega) (fun j y c hy hc => by
    match j, hy, hc with
    | 0, hy, hc => cases hy; cases hc; exact leaf_any 0 _ _ 4 ty ⟨by omega, by omega⟩ HST.out
    | 1, hy, hc => cases hy; cases hc; exact leaf_any 0 _ _ 4 va ⟨by omega, by omega⟩ HSV.out
    | j + 2, hy, hc => simp at hc))
  have HBr := hid (HB2.out.fr HG4.out id)
  refine wpD_only 11 [] rfl (by kernel_rfl) (by kernel_rfl) (by rfl) (fun K11 hK11 => ?_)
  refine wp_storeV _ _ _ rfl w1.heap.size 0 (.agg #[.int .i64 165, .string ⟨#[]⟩, .slice (some ⟨w2c.heap.size, 0, none⟩) 2 2]) [.int .i64 165, .string ⟨#[]⟩, .slice (some ⟨w2c.heap.size, 0, none⟩) 2 2] rfl rfl rfl _ _ HBr.out (by simp) infoN (by intro u hu; simp at hu; rcases hu with rfl | rfl | rfl <;> rfl) ?_
  intro wz HBz Fz HSz
  refine hK11 _ _ (Facts.nil_hold _) ?_
  clear hK11 K11
  simp only [Act.put, K.put3]
  refine wpD_done (by kernel_rfl) ?_ _
  have HFz := hid (HF4.out.trans Fz.out fun k e => .inr (by have e : k = w1.heap.size := e; have := HS1.out; omega))
  have HNz := hid (since_le (N' := w.heap.size) (NdAt.fr Fz.out (fun k hk _ e => by have h : w2.heap.size ≤ k := hk; have e : k = w1.heap.size := e; have := HS2.out; omega) HWH.out) (by have := HS1.out; have := HS2.out; omega))
  go_wp2_with fail
  refine ret_cell rfl _ rfl HBz.out rfl rfl infoN rfl ?_
  exact ⟨_, rfl, nd_le HNz.out (by omega), HFz.out⟩
set_option maxHeartbeats 8000000 in
theorem wfilter_6 (d M : Nat) (E : Nat → Prop) (kids : List Fl) (ty va fi : B) (any : List B) (la : B) (cs : List Value) (w : World) (h : FlC M E w (.mk 6 kids ty va fi any la) cs)  : Calls Try.prog 74 #[.agg cs.toArray] w (Makes (d + 3) (.mk 166 [] [txN ty, txN va]) w) := by
  have HH := hid h
  obtain ⟨M, rfl⟩ := h.succ
  obtain ⟨vk, va', rfl, -, hsT, hsV, -, -, ht, hs⟩ := h
  obtain ⟨k1, ck, rfl, -, -⟩ := hs.form
  obtain ⟨a1, ca, rfl, -, -⟩ := ht.form
  have HKIDS := hid hs; have HST := hid hsT; have HSV := hid hsV
  simp only [Fl.kind, Fl.kids, Fl.type, Fl.value, Fl.first, Fl.any, Fl.last] at HH HKIDS HST HSV ⊢
  obtain ⟨nk, hnk⟩ : ∃ n, kids.length = n := ⟨_, rfl⟩
  obtain ⟨na, hna⟩ : ∃ n, any.length = n := ⟨_, rfl⟩
  rw [hnk, hna] at HH
  rw [hnk] at HKIDS
  rw [hnk, hna]
  obtain ⟨ic, hic, hzc, hsc, hbc⟩ := Go.info_parts infozN
  have IC := hid hic; have ZC := hid hzc; have SC := hid hsc; have BC := hid hbc
  clear hic hzc hsc hbc ht hs hsT hsV hnk hna
  go_enter Try.func74, Try.ntmps74
  go_wp2_with (first
    | ((with_reducible refine K.atO (.box 25 _) ?_); refine wpL_box rfl _ _ rfl _ rfl [.int .i64 6, .slice k1 nk ck, .string (sb ty), .string (sb va), .string (sb fi), .slice a1 na ca, .string (sb la)] rfl ?_; intro w1 HB1 F1 HS1)
    | ((with_reducible refine K.atO (.alloc 44) ?_); refine wpL_alloc rfl _ rfl _ zeroN [.int .i64 0, .string ⟨#[]⟩, .slice none 0 0] rfl ?_; intro w2 HB2 F2 HS2; have HB1' := hid (HB1.out.fr F2.out id); have HF2 := hid (F1.out.trans' F2.out); have c0 : w2.cell? ⟨w.heap.size, 0, none⟩ = some (.int .i64 6) := HB1'.out.cell 0; have c1 : w2.cell? ⟨w.heap.size, 1, none⟩ = some (.slice k1 nk ck) := HB1'.out.cell 1; have c2 : w2.cell? ⟨w.heap.size, 2, none⟩ = some (.string (sb ty)) := HB1'.out.cell 2; have c3 : w2.cell? ⟨w.heap.size, 3, none⟩ = some (.string (sb va)) := HB1'.out.cell 3)
    | fail)
  have hold : Facts.hold [(1, fun w' => w'.cell? ⟨w.heap.size, 0, none⟩ = some (.int .i64 6)), (4, fun w' => w'.cell? ⟨w.heap.size, 2, none⟩ = some (.string (sb ty))), (7, fun w' => w'.cell? ⟨w.heap.size, 3, none⟩ = some (.string (sb va)))] w2.drew := Facts.cons_hold c0 (Facts.cons_hold c2 (Facts.cons_hold c3 (Facts.nil_hold _)))
  refine wpD_region hold (by kernel_rfl) 12 rfl ?_
  (refine wpD_plain 0 (v := ?_) rfl (by kernel_rfl) (by kernel_rfl) (by kernel_rfl) (fun _ _ _ h => h) (by rfl) ?_ (by assumption) ?_; rotate_left; (intro _w; go_simp; try with_reducible rfl); simp only [Act.put, K.put3])
  (refine wpD_take 1 _ rfl (by kernel_rfl) (by kernel_rfl) (by kernel_rfl) (fun _ _ _ h => h) List.mem_cons_self (by rfl) (v := ?_) ?_ (by assumption) ?_; rotate_left; (intro _w _hw; go_simp; try with_reducible rfl); simp only [Act.put, K.put3])
  (refine wpD_plain 2 (v := ?_) rfl (by kernel_rfl) (by kernel_rfl) (by kernel_rfl) (fun _ _ _ h => h) (by rfl) ?_ (by assumption) ?_; rotate_left; (intro _w; go_simp; try with_reducible rfl); simp only [Act.put, K.put3])
  (refine wpD_plain 3 (v := ?_) rfl (by kernel_rfl) (by kernel_rfl) (by kernel_rfl) (fun _ _ _ h => h) (by rfl) ?_ (by assumption) ?_; rotate_left; (intro _w; go_simp; try with_reducible rfl); simp only [Act.put, K.put3])
  (refine wpD_take 4 _ rfl (by kernel_rfl) (by kernel_rfl) (by kernel_rfl) (fun _ _ _ h => h) (List.mem_cons_of_mem _ List.mem_cons_self) (by rfl) (v := ?_) ?_ (by assumption) ?_; rotate_left; (intro _w _hw; go_simp; try with_reducible rfl); simp only [Act.put, K.put3])
  (refine wpD_plain 6 (v := ?_) rfl (by kernel_rfl) (by kernel_rfl) (by kernel_rfl) (fun _ _ _ h => h) (by rfl) ?_ (by assumption) ?_; rotate_left; (intro _w; go_simp; try with_reducible rfl); simp only [Act.put, K.put3])
  (refine wpD_take 7 _ rfl (by kernel_rfl) (by kernel_rfl) (by kernel_rfl) (fun _ _ _ h => h) (List.mem_cons_of_mem _ (List.mem_cons_of_mem _ List.mem_cons_self)) (by rfl) (v := ?_) ?_ (by assumption) ?_; rotate_left; (intro _w _hw; go_simp; try with_reducible rfl); simp only [Act.put, K.put3])
  clear hold
  clear c1
  refine wpD_only 5 [(1, fun w' => w'.cell? ⟨w.heap.size, 0, none⟩ = some (.int .i64 6)), (7, fun w' => w'.cell? ⟨w.heap.size, 3, none⟩ = some (.string (sb va)))] rfl (by kernel_rfl) (by kernel_rfl) (by rfl) (fun K5 hK5 => ?_)
  refine wp_call _ _ _ rfl 71 [] rfl (fun vs w => by kernel_rfl) [.string (sb ty)] (by rfl) ?_
  refine (wtext_any (sb ty) w2.drew).mono ?_
  rintro e w1c ⟨rfl, f1⟩
  have hf1 : Fr No w2 w1c := (Fr.refl No w2).drew.trans' f1
  refine ⟨_, rfl, hK5 _ _ (Facts.cons_hold (hf1.cell c0 id) (Facts.cons_hold (hf1.cell c3 id) (Facts.nil_hold _))) ?_⟩
  have k1_1 := hf1.cell c0 id
  have k1_7 := hf1.cell c3 id
  have HF1 := hid (HF2.out.trans' hf1)
  have HG1 := hid hf1
  clear hK5 K5 f1 hf1 c0 c3 c2
  simp only [Act.put, K.put3]
  refine wpD_only 8 [(1, fun w' => w'.cell? ⟨w.heap.size, 0, none⟩ = some (.int .i64 6))] rfl (by kernel_rfl) (by kernel_rfl) (by rfl) (fun K8 hK8 => ?_)
  refine wp_call _ _ _ rfl 71 [] rfl (fun vs w => by kernel_rfl) [.string (sb va)] (by rfl) ?_
  refine (wtext_any (sb va) w1c).mono ?_
  rintro e w2c ⟨rfl, f2⟩
  have hf2 : Fr No w1c w2c := f2
  refine ⟨_, rfl, hK8 _ _ (Facts.cons_hold (hf2.cell k1_1 id) (Facts.nil_hold _)) ?_⟩
  have k2_1 := hf2.cell k1_1 id
  have HF2 := hid (HF1.out.trans' hf2)
  have HG2 := hid (HG1.out.trans' hf2)
  clear hK8 K8 f2 hf2 k1_1 k1_7 HG1 HF1
  simp only [Act.put, K.put3]
  refine wpD_only 9 [(1, fun w' => w'.cell? ⟨w.heap.size, 0, none⟩ = some (.int .i64 6))] rfl (by kernel_rfl) (by kernel_rfl) (by rfl) (fun K9 hK9 => ?_)
  refine wp_buildRun 42 44 2 [(0, _), (1, _)] rfl [.int .i64 4, .string (sb ty), .slice none 0 0, .int .i64 4, .string (sb va), .slice none 0 0] (run_buildAll 42 44 [.agg #[.int .i64 4, .string (sb ty), .slice none 0 0], .agg #[.int .i64 4, .string (sb va), .slice none 0 0]] ic _ Try.underlying42 IC.out ZC.out (by rw [SC.out]; decide) (by rw [SC.out]; show 2 * 3 ≤ 16777216; decide) (by show 0 < 2; decide) (by rw [SC.out]; intro u hu; simp at hu; rcases hu with rfl | rfl <;> rfl) _) ?_
  intro w3c HB3 F3 HS3
  have hf3 := F3.out
  refine hK9 _ _ (Facts.cons_hold (hf3.cell k2_1 id) (Facts.nil_hold _)) ?_
  have HL3 := hid HG2.out.size
  have k3_1 := hf3.cell k2_1 id
  have HF3 := hid (HF2.out.trans' hf3)
  have HG3 := hid (HG2.out.trans' hf3)
  have hX3 := HB3
  clear hK9 K9 F3 hf3 HS3 HB3 k2_1 HG2 HF2
  simp only [Act.put, K.put3]
  refine wpD_only 10 [(1, fun w' => w'.cell? ⟨w.heap.size, 0, none⟩ = some (.int .i64 6))] rfl (by kernel_rfl) (by kernel_rfl) (by rfl) (fun K10 hK10 => ?_)
  refine wp_call _ _ _ rfl 23 [] rfl (fun vs w => by kernel_rfl) [.int .i64 166, .slice (some ⟨w2c.heap.size, 0, none⟩) 2 2] (by rfl) ?_
  refine (wof_any 166 (some ⟨w2c.heap.size, 0, none⟩) 2 2 w3c).mono ?_
  rintro e w4c ⟨rfl, f4⟩
  have hf4 : Fr No w3c w4c := f4
  refine ⟨_, rfl, hK10 _ _ (Facts.cons_hold (hf4.cell k3_1 id) (Facts.nil_hold _)) ?_⟩
  have k4_1 := hf4.cell k3_1 id
  have HX4_b3 := hid (hX3.out.fr hf4 id)
  have HF4 := hid (HF3.out.trans' hf4)
  have HG4 := hid (HG3.out.trans' hf4)
  clear hK10 K10 f4 hf4 k3_1 hX3 HG3 HF3
  simp only [Act.put, K.put3]
  have HWH := hid (nd_kids (M := 1) (S := Since w2.heap.size) (t := 166) (kids := [txN ty, txN va]) (L := [[.int .i64 4, .string (sb ty), .slice none 0 0], [.int .i64 4, .string (sb va), .slice none 0 0]]) ⟨by omega, by omega⟩ HX4_b3.out (by show w2.heap.size ≤ _; exact HL3.out) rfl (by show (2 : Nat) ≤ _; omega) (fun j y c hy hc => by
    match j, hy, hc with
    | 0, hy, hc => cases hy; cases hc; exact leaf_any 0 _ _ 4 ty ⟨by omega, by omega⟩ HST.out
    | 1, hy, hc => cases hy; cases hc; exact leaf_any 0 _ _ 4 va ⟨by omega, by omega⟩ HSV.out
    | j + 2, hy, hc => simp at hc))
  have HBr := hid (HB2.out.fr HG4.out id)
  refine wpD_only 11 [] rfl (by kernel_rfl) (by kernel_rfl) (by rfl) (fun K11 hK11 => ?_)
  refine wp_storeV _ _ _ rfl w1.heap.size 0 (.agg #[.int .i64 166, .string ⟨#[]⟩, .slice (some ⟨w2c.heap.size, 0, none⟩) 2 2]) [.int .i64 166, .string ⟨#[]⟩, .slice (some ⟨w2c.heap.size, 0, none⟩) 2 2] rfl rfl rfl _ _ HBr.out (by simp) infoN (by intro u hu; simp at hu; rcases hu with rfl | rfl | rfl <;> rfl) ?_
  intro wz HBz Fz HSz
  refine hK11 _ _ (Facts.nil_hold _) ?_
  clear hK11 K11
  simp only [Act.put, K.put3]
  refine wpD_done (by kernel_rfl) ?_ _
  have HFz := hid (HF4.out.trans Fz.out fun k e => .inr (by have e : k = w1.heap.size := e; have := HS1.out; omega))
  have HNz := hid (since_le (N' := w.heap.size) (NdAt.fr Fz.out (fun k hk _ e => by have h : w2.heap.size ≤ k := hk; have e : k = w1.heap.size := e; have := HS2.out; omega) HWH.out) (by have := HS1.out; have := HS2.out; omega))
  go_wp2_with fail
  refine ret_cell rfl _ rfl HBz.out rfl rfl infoN rfl ?_
  exact ⟨_, rfl, nd_le HNz.out (by omega), HFz.out⟩
set_option maxHeartbeats 8000000 in
theorem wfilter_4 (d M : Nat) (E : Nat → Prop) (kids : List Fl) (ty va fi : B) (any : List B) (la : B) (cs : List Value) (w : World) (h : FlC M E w (.mk 4 kids ty va fi any la) cs) (hA : any.length ≤ 1048576) : Calls Try.prog 74 #[.agg cs.toArray] w (Makes (d + 3) (.mk 164 [] [txN ty, .mk 48 [] (partsN (.mk 4 kids ty va fi any la))]) w) := by
  have HH := hid h
  obtain ⟨M, rfl⟩ := h.succ
  obtain ⟨vk, va', rfl, -, hsT, hsV, -, -, ht, hs⟩ := h
  obtain ⟨k1, ck, rfl, -, -⟩ := hs.form
  obtain ⟨a1, ca, rfl, -, -⟩ := ht.form
  have HKIDS := hid hs; have HST := hid hsT; have HSV := hid hsV
  simp only [Fl.kind, Fl.kids, Fl.type, Fl.value, Fl.first, Fl.any, Fl.last] at HH HKIDS HST HSV ⊢
  obtain ⟨nk, hnk⟩ : ∃ n, kids.length = n := ⟨_, rfl⟩
  obtain ⟨na, hna⟩ : ∃ n, any.length = n := ⟨_, rfl⟩
  rw [hnk, hna] at HH
  rw [hnk] at HKIDS
  rw [hnk, hna]
  obtain ⟨ic, hic, hzc, hsc, hbc⟩ := Go.info_parts infozN
  have IC := hid hic; have ZC := hid hzc; have SC := hid hsc; have BC := hid hbc
  clear hic hzc hsc hbc ht hs hsT hsV hnk hna
  have HAN := hid hA
  have HI7 := hid (show (Try.prog.info? 25).map (·.size) = some [Value.int .i64 4, .slice k1 nk ck, .string (sb ty), .string (sb va), .string (sb fi), .slice a1 na ca, .string (sb la)].length from infoFl)
  clear hA
  go_enter Try.func74, Try.ntmps74
  go_wp2_with (first
    | ((with_reducible refine K.atO (.box 25 _) ?_); refine wpL_box rfl _ _ rfl _ rfl [.int .i64 4, .slice k1 nk ck, .string (sb ty), .string (sb va), .string (sb fi), .slice a1 na ca, .string (sb la)] rfl ?_; intro w1 HB1 F1 HS1)
    | ((with_reducible refine K.atO (.alloc 44) ?_); refine wpL_alloc rfl _ rfl _ zeroN [.int .i64 0, .string ⟨#[]⟩, .slice none 0 0] rfl ?_; intro w2 HB2 F2 HS2; have HB1' := hid (HB1.out.fr F2.out id); have HF2 := hid (F1.out.trans' F2.out); have c0 : w2.cell? ⟨w.heap.size, 0, none⟩ = some (.int .i64 4) := HB1'.out.cell 0; have c1 : w2.cell? ⟨w.heap.size, 1, none⟩ = some (.slice k1 nk ck) := HB1'.out.cell 1; have c2 : w2.cell? ⟨w.heap.size, 2, none⟩ = some (.string (sb ty)) := HB1'.out.cell 2; have c3 : w2.cell? ⟨w.heap.size, 3, none⟩ = some (.string (sb va)) := HB1'.out.cell 3)
    | fail)
  have r6 : w2.rangeAt w.heap.size 0 [.int .i64 4, .slice k1 nk ck, .string (sb ty), .string (sb va), .string (sb fi), .slice a1 na ca, .string (sb la)] := HB1'.out.range 0 _ rfl
  have hold : Facts.hold [(1, fun w' => w'.cell? ⟨w.heap.size, 0, none⟩ = some (.int .i64 4)), (4, fun w' => w'.cell? ⟨w.heap.size, 2, none⟩ = some (.string (sb ty))), (6, fun w' => w'.rangeAt w.heap.size 0 [.int .i64 4, .slice k1 nk ck, .string (sb ty), .string (sb va), .string (sb fi), .slice a1 na ca, .string (sb la)])] w2.drew := Facts.cons_hold c0 (Facts.cons_hold c2 (Facts.cons_hold r6 (Facts.nil_hold _)))
  refine wpD_region hold (by kernel_rfl) 12 rfl ?_
  (refine wpD_plain 0 (v := ?_) rfl (by kernel_rfl) (by kernel_rfl) (by kernel_rfl) (fun _ _ _ h => h) (by rfl) ?_ (by assumption) ?_; rotate_left; (intro _w; go_simp; try with_reducible rfl); simp only [Act.put, K.put3])
  (refine wpD_take 1 _ rfl (by kernel_rfl) (by kernel_rfl) (by kernel_rfl) (fun _ _ _ h => h) List.mem_cons_self (by rfl) (v := ?_) ?_ (by assumption) ?_; rotate_left; (intro _w _hw; go_simp; try with_reducible rfl); simp only [Act.put, K.put3])
  (refine wpD_plain 2 (v := ?_) rfl (by kernel_rfl) (by kernel_rfl) (by kernel_rfl) (fun _ _ _ h => h) (by rfl) ?_ (by assumption) ?_; rotate_left; (intro _w; go_simp; try with_reducible rfl); simp only [Act.put, K.put3])
  (refine wpD_plain 3 (v := ?_) rfl (by kernel_rfl) (by kernel_rfl) (by kernel_rfl) (fun _ _ _ h => h) (by rfl) ?_ (by assumption) ?_; rotate_left; (intro _w; go_simp; try with_reducible rfl); simp only [Act.put, K.put3])
  (refine wpD_take 4 _ rfl (by kernel_rfl) (by kernel_rfl) (by kernel_rfl) (fun _ _ _ h => h) (List.mem_cons_of_mem _ List.mem_cons_self) (by rfl) (v := ?_) ?_ (by assumption) ?_; rotate_left; (intro _w _hw; go_simp; try with_reducible rfl); simp only [Act.put, K.put3])
  (refine wpD_take 6 _ rfl (by kernel_rfl) (by kernel_rfl) (by kernel_rfl) (fun _ _ _ h => h) (List.mem_cons_of_mem _ (List.mem_cons_of_mem _ List.mem_cons_self)) (by rfl) (exec_load _ _ rfl w.heap.size 0 rfl _ _ rfl rfl HI7.out) (by assumption) ?_; simp only [Act.put, K.put3])
  clear hold
  clear c1 c3
  refine wpD_only 5 [(1, fun w' => w'.cell? ⟨w.heap.size, 0, none⟩ = some (.int .i64 4)), (6, fun w' => w'.rangeAt w.heap.size 0 [.int .i64 4, .slice k1 nk ck, .string (sb ty), .string (sb va), .string (sb fi), .slice a1 na ca, .string (sb la)])] rfl (by kernel_rfl) (by kernel_rfl) (by rfl) (fun K5 hK5 => ?_)
  refine wp_call _ _ _ rfl 71 [] rfl (fun vs w => by kernel_rfl) [.string (sb ty)] (by rfl) ?_
  refine (wtext_any (sb ty) w2.drew).mono ?_
  rintro e w1c ⟨rfl, f1⟩
  have hf1 : Fr No w2 w1c := (Fr.refl No w2).drew.trans' f1
  refine ⟨_, rfl, hK5 _ _ (Facts.cons_hold (hf1.cell c0 id) (Facts.cons_hold (hf1.range r6 id) (Facts.nil_hold _))) ?_⟩
  have k1_1 := hf1.cell c0 id
  have k1_6 := hf1.range r6 id
  have HF1 := hid (HF2.out.trans' hf1)
  have HG1 := hid hf1
  clear hK5 K5 f1 hf1 c0 r6 c2
  simp only [Act.put, K.put3]
  refine wpD_only 7 [(1, fun w' => w'.cell? ⟨w.heap.size, 0, none⟩ = some (.int .i64 4))] rfl (by kernel_rfl) (by kernel_rfl) (by rfl) (fun K7 hK7 => ?_)
  refine wp_call _ _ _ rfl 90 [] rfl (fun vs w => by kernel_rfl) [.agg #[.int .i64 4, .slice k1 nk ck, .string (sb ty), .string (sb va), .string (sb fi), .slice a1 na ca, .string (sb la)]] (by rfl) ?_
  refine (wparts_any (M + 1) E (.mk 4 kids ty va fi any la) [.int .i64 4, .slice k1 nk ck, .string (sb ty), .string (sb va), .string (sb fi), .slice a1 na ca, .string (sb la)] w1c (by have h := HH.out.no (HF1.out.trans' (Fr.refl No _)); exact h) HAN.out).mono ?_
  rintro e w2c ⟨pv, pL, pb, rfl, hbs, hkr, f2⟩
  have hf2 : Fr No w1c w2c := f2
  refine ⟨_, rfl, hK7 _ _ (Facts.cons_hold (hf2.cell k1_1 id) (Facts.nil_hold _)) ?_⟩
  have k2_1 := hf2.cell k1_1 id
  have HF2 := hid (HF1.out.trans' hf2)
  have HG2 := hid (HG1.out.trans' hf2)
  obtain ⟨pa, pc, rfl, -, -⟩ := own_form hkr.r
  obtain ⟨pn, hpn⟩ : ∃ n, (partsN (.mk 4 kids ty va fi any la)).length = n := ⟨_, rfl⟩
  rw [hpn]
  have HPN : Hid (NdAt 2 (Since w2.heap.size) w2c (.mk 48 [] (partsN (.mk 4 kids ty va fi any la))) [.int .i64 48, .string ⟨#[]⟩, .slice pa pn pc]) := hid (since_le (by have h := kr_nd (t := 48) hkr ⟨by omega, by omega⟩ (by have := parts_len (.mk 4 kids ty va fi any la); have h2 := HAN.out; simp only [Fl.any] at this; omega); rw [hpn] at h; exact h) (Nat.le_trans HG1.out.size hbs))
  clear hkr hbs hpn
  clear hK7 K7 f2 hf2 k1_1 k1_6 HG1 HF1
  simp only [Act.put, K.put3]
  refine wpD_only 8 [(1, fun w' => w'.cell? ⟨w.heap.size, 0, none⟩ = some (.int .i64 4))] rfl (by kernel_rfl) (by kernel_rfl) (by rfl) (fun K8 hK8 => ?_)
  refine wp_call _ _ _ rfl 23 [] rfl (fun vs w => by kernel_rfl) [.int .i64 48, .slice pa pn pc] (by rfl) ?_
  refine (wof_any 48 pa pn pc w2c).mono ?_
  rintro e w3c ⟨rfl, f3⟩
  have hf3 : Fr No w2c w3c := f3
  refine ⟨_, rfl, hK8 _ _ (Facts.cons_hold (hf3.cell k2_1 id) (Facts.nil_hold _)) ?_⟩
  have k3_1 := hf3.cell k2_1 id
  have HM3_p := hid (HPN.out.no hf3)
  have HF3 := hid (HF2.out.trans' hf3)
  have HG3 := hid (HG2.out.trans' hf3)
  clear hK8 K8 f3 hf3 k2_1 HPN HG2 HF2
  simp only [Act.put, K.put3]
  refine wpD_only 9 [(1, fun w' => w'.cell? ⟨w.heap.size, 0, none⟩ = some (.int .i64 4))] rfl (by kernel_rfl) (by kernel_rfl) (by rfl) (fun K9 hK9 => ?_)
  refine wp_buildRun 42 44 2 [(0, _), (1, _)] rfl [.int .i64 4, .string (sb ty), .slice none 0 0, .int .i64 48, .string ⟨#[]⟩, .slice pa pn pc] (run_buildAll 42 44 [.agg #[.int .i64 4, .string (sb ty), .slice none 0 0], .agg #[.int .i64 48, .string ⟨#[]⟩, .slice pa pn pc]] ic _ Try.underlying42 IC.out ZC.out (by rw [SC.out]; decide) (by rw [SC.out]; show 2 * 3 ≤ 16777216; decide) (by show 0 < 2; decide) (by rw [SC.out]; intro u hu; simp at hu; rcases hu with rfl | rfl <;> rfl) _) ?_
  intro w4c HB4 F4 HS4
  have hf4 := F4.out
  refine hK9 _ _ (Facts.cons_hold (hf4.cell k3_1 id) (Facts.nil_hold _)) ?_
  have HL4 := hid HG3.out.size
  have k4_1 := hf4.cell k3_1 id
  have HM4_p := hid (HM3_p.out.no hf4)
  have HF4 := hid (HF3.out.trans' hf4)
  have HG4 := hid (HG3.out.trans' hf4)
  have hX4 := HB4
  clear hK9 K9 F4 hf4 HS4 HB4 k3_1 HM3_p HG3 HF3
  simp only [Act.put, K.put3]
  refine wpD_only 10 [(1, fun w' => w'.cell? ⟨w.heap.size, 0, none⟩ = some (.int .i64 4))] rfl (by kernel_rfl) (by kernel_rfl) (by rfl) (fun K10 hK10 => ?_)
  refine wp_call _ _ _ rfl 23 [] rfl (fun vs w => by kernel_rfl) [.int .i64 164, .slice (some ⟨w3c.heap.size, 0, none⟩) 2 2] (by rfl) ?_
  refine (wof_any 164 (some ⟨w3c.heap.size, 0, none⟩) 2 2 w4c).mono ?_
  rintro e w5c ⟨rfl, f5⟩
  have hf5 : Fr No w4c w5c := f5
  refine ⟨_, rfl, hK10 _ _ (Facts.cons_hold (hf5.cell k4_1 id) (Facts.nil_hold _)) ?_⟩
  have k5_1 := hf5.cell k4_1 id
  have HM5_p := hid (HM4_p.out.no hf5)
  have HX5_b4 := hid (hX4.out.fr hf5 id)
  have HF5 := hid (HF4.out.trans' hf5)
  have HG5 := hid (HG4.out.trans' hf5)
  clear hK10 K10 f5 hf5 k4_1 HM4_p hX4 HG4 HF4
  simp only [Act.put, K.put3]
  have HWH := hid (nd_kids (M := 2) (S := Since w2.heap.size) (t := 164) (kids := [txN ty, .mk 48 [] (partsN (.mk 4 kids ty va fi any la))]) (L := [[.int .i64 4, .string (sb ty), .slice none 0 0], [.int .i64 48, .string ⟨#[]⟩, .slice pa pn pc]]) ⟨by omega, by omega⟩ HX5_b4.out (by show w2.heap.size ≤ _; exact HL4.out) rfl (by show (2 : Nat) ≤ _; omega) (fun j y c hy hc => by
    match j, hy, hc with
    | 0, hy, hc => cases hy; cases hc; exact leaf_any 1 _ _ 4 ty ⟨by omega, by omega⟩ HST.out
    | 1, hy, hc => cases hy; cases hc; exact HM5_p.out
    | j + 2, hy, hc => simp at hc))
  have HBr := hid (HB2.out.fr HG5.out id)
  refine wpD_only 11 [] rfl (by kernel_rfl) (by kernel_rfl) (by rfl) (fun K11 hK11 => ?_)
  refine wp_storeV _ _ _ rfl w1.heap.size 0 (.agg #[.int .i64 164, .string ⟨#[]⟩, .slice (some ⟨w3c.heap.size, 0, none⟩) 2 2]) [.int .i64 164, .string ⟨#[]⟩, .slice (some ⟨w3c.heap.size, 0, none⟩) 2 2] rfl rfl rfl _ _ HBr.out (by simp) infoN (by intro u hu; simp at hu; rcases hu with rfl | rfl | rfl <;> rfl) ?_
  intro wz HBz Fz HSz
  refine hK11 _ _ (Facts.nil_hold _) ?_
  clear hK11 K11
  simp only [Act.put, K.put3]
  refine wpD_done (by kernel_rfl) ?_ _
  have HFz := hid (HF5.out.trans Fz.out fun k e => .inr (by have e : k = w1.heap.size := e; have := HS1.out; omega))
  have HNz := hid (since_le (N' := w.heap.size) (NdAt.fr Fz.out (fun k hk _ e => by have h : w2.heap.size ≤ k := hk; have e : k = w1.heap.size := e; have := HS2.out; omega) HWH.out) (by have := HS1.out; have := HS2.out; omega))
  go_wp2_with fail
  refine ret_cell rfl _ rfl HBz.out rfl rfl infoN rfl ?_
  exact ⟨_, rfl, nd_le HNz.out (by omega), HFz.out⟩
set_option maxHeartbeats 8000000 in
theorem wfilter_7 (d M : Nat) (E : Nat → Prop) (kids : List Fl) (ty va fi : B) (any : List B) (la : B) (cs : List Value) (w : World) (h : FlC M E w (.mk 7 kids ty va fi any la) cs)  : Calls Try.prog 74 #[.agg cs.toArray] w (Makes (d + 3) (.mk 135 ty []) w) := by
  have HH := hid h
  obtain ⟨M, rfl⟩ := h.succ
  obtain ⟨vk, va', rfl, -, hsT, hsV, -, -, ht, hs⟩ := h
  obtain ⟨k1, ck, rfl, -, -⟩ := hs.form
  obtain ⟨a1, ca, rfl, -, -⟩ := ht.form
  have HKIDS := hid hs; have HST := hid hsT; have HSV := hid hsV
  simp only [Fl.kind, Fl.kids, Fl.type, Fl.value, Fl.first, Fl.any, Fl.last] at HH HKIDS HST HSV ⊢
  obtain ⟨nk, hnk⟩ : ∃ n, kids.length = n := ⟨_, rfl⟩
  obtain ⟨na, hna⟩ : ∃ n, any.length = n := ⟨_, rfl⟩
  rw [hnk, hna] at HH
  rw [hnk] at HKIDS
  rw [hnk, hna]
  obtain ⟨ic, hic, hzc, hsc, hbc⟩ := Go.info_parts infozN
  have IC := hid hic; have ZC := hid hzc; have SC := hid hsc; have BC := hid hbc
  clear hic hzc hsc hbc ht hs hsT hsV hnk hna
  go_enter Try.func74, Try.ntmps74
  go_wp2_with (first
    | ((with_reducible refine K.atO (.box 25 _) ?_); refine wpL_box rfl _ _ rfl _ rfl [.int .i64 7, .slice k1 nk ck, .string (sb ty), .string (sb va), .string (sb fi), .slice a1 na ca, .string (sb la)] rfl ?_; intro w1 HB1 F1 HS1)
    | ((with_reducible refine K.atO (.alloc 44) ?_); refine wpL_alloc rfl _ rfl _ zeroN [.int .i64 0, .string ⟨#[]⟩, .slice none 0 0] rfl ?_; intro w2 HB2 F2 HS2; have HB1' := hid (HB1.out.fr F2.out id); have HF2 := hid (F1.out.trans' F2.out); have c0 : w2.cell? ⟨w.heap.size, 0, none⟩ = some (.int .i64 7) := HB1'.out.cell 0; have c1 : w2.cell? ⟨w.heap.size, 1, none⟩ = some (.slice k1 nk ck) := HB1'.out.cell 1; have c2 : w2.cell? ⟨w.heap.size, 2, none⟩ = some (.string (sb ty)) := HB1'.out.cell 2; have c3 : w2.cell? ⟨w.heap.size, 3, none⟩ = some (.string (sb va)) := HB1'.out.cell 3)
    | fail)
  refine (wleaf_any 135 (sb ty) w2).mono ?_
  rintro e w3 ⟨rfl, f3⟩
  have HBr := hid (HB2.out.fr f3 id); have HF3 := hid (HF2.out.trans' f3)
  clear f3 c0 c1 c2 c3
  go_wp2_with (first
    | ((with_reducible refine K.atO (.store 44 _ _) ?_); refine wpL_storeV rfl _ _ _ rfl w1.heap.size 0 (.agg #[.int .i64 135, .string (sb ty), .slice none 0 0]) [.int .i64 135, .string (sb ty), .slice none 0 0] rfl rfl rfl _ _ HBr.out (by simp) infoN (by intro u hu; simp at hu; rcases hu with rfl | rfl | rfl <;> rfl) ?_; intro wz HBz Fz HSz)
    | fail)
  refine ret_cell rfl _ rfl HBz.out rfl rfl infoN rfl ?_
  refine ⟨_, rfl, leaf_any (d + 2) _ _ 135 ty ⟨by omega, by omega⟩ HST.out, HF3.out.trans Fz.out fun k e => .inr (by have e : k = w1.heap.size := e; have := HS1.out; omega)⟩
theorem wfilter_any : ∀ d, wfOk d
  | 0 => fun M E f cs w _ hr => by cases hr
  | d + 1 => fun M E f cs w h hr hB => by
    have ih := wfilter_any d
    obtain ⟨k, ks, t, v, fi, an, la⟩ := f
    have hr0 := hr
    simp only [rightF, Fl.kind, Fl.kids, Fl.type, Fl.value, Fl.first, Fl.any, Fl.last, Bool.and_eq_true, List.all_eq_true] at hr
    obtain ⟨⟨⟨⟨⟨⟨h1, -⟩, -⟩, -⟩, -⟩, -⟩, h7⟩ := hr
    have hk : k = 0 ∨ k = 1 ∨ k = 2 ∨ k = 3 ∨ k = 5 ∨ k = 6 ∨ k = 4 ∨ k = 7 := by
      simp only [kidsK, valK, Bool.or_eq_true, decide_eq_true_eq, or_assoc] at h1
      rcases h1 with h | h | h | h | h | h | h | h <;> first | (simp [h]; done) | (simp [of_decide_eq_true h]; done)
    rcases hk with rfl | rfl | rfl | rfl | rfl | rfl | rfl | rfl
    · exact wfilter_0 d M E ks t v fi an la cs w h ih hB h7
    · exact wfilter_1 d M E ks t v fi an la cs w h ih hB h7
    · exact wfilter_2 d M E ks t v fi an la cs w h ih hB h7
    · exact wfilter_3 d M E ks t v fi an la cs w h
    · exact wfilter_5 d M E ks t v fi an la cs w h
    · exact wfilter_6 d M E ks t v fi an la cs w h
    · exact wfilter_4 d M E ks t v fi an la cs w h hB.2.2.2.2.1
    · exact wfilter_7 d M E ks t v fi an la cs w h
end Go.Proofs.Ythjmkfpdbbfcpaa.ME
