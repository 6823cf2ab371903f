/-
  The tree: Put.
-/
import Derived.Test.YtlnolnaapnijbaaTrTa
namespace Go.Proofs.Ytlnolnaapnijbaa.TR
set_option maxRecDepth 100000
open Go.RowKit K

/-- What a call that turns a tree leaves. -/
def TPost (w : World) (T : TD) (r : Bool) (l' : L) (e : Ending) (w' : World) : Prop :=
  e = .returned (.bool r) ∧ ∃ T' : TD, T'.b = T.b ∧ TrAt w' T' l' ∧ Fr T.fp w w' ∧ ∀ g, T'.fp g → T.fp g ∨ w.heap.size ≤ g
theorem spl_len (d : Nat) (t : PT d) (x y : Value) : spl (ptr d t ++ [x]) 2 [y] = ptr d t ++ [y] := by
  unfold spl
  rw [List.take_append_of_le_length (by rw [ptr_length]; exact Nat.le_refl _), List.take_of_length_le (by rw [ptr_length]; exact Nat.le_refl _)]
  simp [ptr_length]
theorem spl_root (d d' : Nat) (t : PT d) (u : PT d') (x : Value) : spl (ptr d t ++ [x]) 0 (ptr d' u) = ptr d' u ++ [x] := by
  unfold spl
  rw [ptr_length, List.drop_append_of_le_length (by rw [ptr_length]; exact Nat.le_refl _), List.drop_of_length_le (by rw [ptr_length]; exact Nat.le_refl _)]
  simp
theorem info_i64 : (Try.prog.info? 3).map (·.size) = some 1 := by kernel_rfl
set_option maxHeartbeats 8000000 in
theorem tput_to (w : World) (T : TD) (l : L) (key v : S) (h : TrAt w T l) (hn : l.length ≤ 4398046511103) : Calls Try.prog 16 #[T.v, .string key, .string v] w (TPost w T (has key l) (put key v l)) := by
  have H := hid h
  have hsz := h.size (by omega)
  have HSZ := hid hsz
  have HD : Hid (T.d ≤ 13) := hid (h.d_le (by omega))
  have HN := hid hn
  clear h hsz hn
  show Calls Try.prog _ #[.pointer (some ⟨T.b, 0, none⟩), .string key, .string v] w _
  go_enter Try.func16, Try.ntmps16
  go_wp2_with ((with_reducible show wpList _ _ _ ({ dst := _, op := .load 103 _, type := _, pos := _, after := _, guard := _ } :: _) _ _); refine wpL_load rfl _ _ rfl T.b 0 rfl (ptr T.d T.t) _ H.out.rg rfl rfl (by rw [ptr_length]; exact info_p) ?_)
  refine (put_any T.d w T.t ⟨#[]⟩ none key v H.out.rep H.out.ok H.out.good HSZ.out.1 (lt_empty _) trivial (by have := HSZ.out.2; omega)).mono ?_
  rintro e w2 ⟨t', rfl, ht, hok, hgd, hfl, hs1, hs2⟩
  rw [H.out.fl] at hfl ⊢
  have HT := hid ht; have HO := hid hok; have HG := hid hgd; have HFL := hid hfl
  have HPT : Hid (ptr T.d t' = ptr T.d T.t) := hid (ptr_b ht.b)
  have HS := hid (And.intro hs1 hs2)
  have HB2 : Hid (Blk w2 T.b 105 (ptr T.d T.t ++ [.int .i64 l.length])) := hid (H.out.blk.fr ht.fr H.out.off)
  have HFR : Hid (Fr T.fp w w2) := hid (ht.fr.mono fun g hg => .inr hg)
  have HGR : Hid (∀ g, fp T.d t' g → T.fp g ∨ w.heap.size ≤ g) := hid (fun g hg => (ht.grow g hg).imp .inr id)
  have HOF : Hid (¬ fp T.d t' T.b) := hid (fun e => (ht.grow _ e).elim H.out.off (fun e => by have := H.out.blk.lt; omega))
  clear ht hok hgd hfl hs1 hs2
  cases hh : has key l with
  | true =>
    have HL : Hid ((put key v l).length = l.length) := hid (by rw [put_length, hh]; rfl)
    go_wp2
    go_ret
    refine ⟨by first | rfl | (rw [hh]; rfl), ⟨T.d, t', T.b⟩, rfl, ⟨?_, HT.out.rep, HO.out, HG.out, HFL.out, ?_, ?_, HOF.out⟩, HFR.out, fun g hg => hg.elim (fun e => .inl (.inl e)) (HGR.out g)⟩
    · rw [HL.out]; show Blk _ _ _ (ptr T.d t' ++ _); rw [HPT.out]; exact HB2.out
    · rw [HL.out]; exact H.out.cap
    · rw [HL.out]; exact H.out.low
  | false =>
    have HL : Hid ((put key v l).length = l.length + 1) := hid (by rw [put_length, hh]; rfl)
    have hni : (l.length : Int) ≤ 4398046511103 := by have := HN.out; omega
    have c2 : w2.cell? ⟨T.b, 2, none⟩ = some (.int .i64 l.length) := by
      rw [HB2.out.cell 2, List.getElem?_append_right (by rw [ptr_length]; exact Nat.le_refl _), ptr_length]; rfl
    go_wp2_with ((with_reducible show wpList _ _ _ ({ dst := _, op := .store 3 _ _, type := _, pos := _, after := _, guard := _ } :: _) _ _); refine wpL_storeV rfl _ _ _ rfl T.b 2 (.int .i64 ((l.length : Int) + 1)) [.int .i64 ((l.length : Int) + 1)] rfl (by go_num) rfl _ _ HB2.out (by simp [ptr_length]) info_i64 (by intro u hu; simp at hu; subst hu; rfl) ?_; intro w3 HB3 F3 HS3)
    clear c2
    have HB3' : Hid (Blk w3 T.b 105 (ptr T.d t' ++ [.int .i64 ((l.length : Int) + 1)])) := hid (by have := HB3.out; rwa [spl_len, ← HPT.out] at this)
    have c3 : w3.cell? ⟨T.b, 2, none⟩ = some (.int .i64 ((l.length : Int) + 1)) := by
      rw [HB3'.out.cell 2, List.getElem?_append_right (by rw [ptr_length]; exact Nat.le_refl _), ptr_length]; rfl
    have HR3 : Hid (Rep w3 T.d t') := hid (HT.out.rep.fr F3.out (fun g hg e => HOF.out (by have e' : g = T.b := e; rw [← e']; exact hg)))
    have HFR3 : Hid (Fr T.fp w w3) := hid (HFR.out.trans F3.out (fun k e => .inl (.inl e)))
    obtain ⟨q, hq⟩ : ∃ q : Nat, 8 ^ (T.d + 1) = q := ⟨_, rfl⟩
    have HQ := hid hq
    have hold : Facts.hold [(3, fun w' => w'.cell? ⟨T.b, 2, none⟩ = some (.int .i64 ((l.length : Int) + 1)))] w3.drew := Facts.cons_hold c3 (Facts.nil_hold _)
    refine wpD_region hold (by kernel_rfl) 8 rfl ?_
    (refine wpD_plain 0 (v := ?_) rfl (by kernel_rfl) (by kernel_rfl) (by kernel_rfl) (fun _ _ _ h => h) (by rfl) ?_ (by assumption) ?_; rotate_left; (intro _w; go_simp; try with_reducible rfl); simp only [Act.put, List.setIfInBounds_toArray, List.set_cons_zero, List.set_cons_succ])
    (refine wpD_plain 1 (v := ?_) rfl (by kernel_rfl) (by kernel_rfl) (by kernel_rfl) (fun _ _ _ h => h) (by rfl) ?_ (by assumption) ?_; rotate_left; (intro _w; go_simp; try with_reducible rfl); simp only [Act.put, List.setIfInBounds_toArray, List.set_cons_zero, List.set_cons_succ])
    (refine wpD_plain 2 (v := ?_) rfl (by kernel_rfl) (by kernel_rfl) (by kernel_rfl) (fun _ _ _ h => h) (by rfl) ?_ (by assumption) ?_; rotate_left; (intro _w; go_simp; try with_reducible rfl); simp only [Act.put, List.setIfInBounds_toArray, List.set_cons_zero, List.set_cons_succ])
    (refine wpD_take 3 _ rfl (by kernel_rfl) (by kernel_rfl) (by kernel_rfl) (fun _ _ _ h => h) List.mem_cons_self (by rfl) (v := ?_) ?_ (by assumption) ?_; rotate_left; (intro _w _hw; go_simp; try with_reducible rfl); simp only [Act.put, List.setIfInBounds_toArray, List.set_cons_zero, List.set_cons_succ])
    (refine wpD_plain 4 (v := ?_) rfl (by kernel_rfl) (by kernel_rfl) (by kernel_rfl) (fun _ _ _ h => h) (by rfl) ?_ (by assumption) ?_; rotate_left; (intro _w; go_simp; try with_reducible rfl); simp only [Act.put, List.setIfInBounds_toArray, List.set_cons_zero, List.set_cons_succ])
    clear hold
    refine wpD_only 5 [(3, fun w' => w'.cell? ⟨T.b, 2, none⟩ = some (.int .i64 ((l.length : Int) + 1)))] rfl (by kernel_rfl) (by kernel_rfl) (by rfl) (fun K5 hK5 => ?_)
    have hrg3 : w3.rangeAt T.b 0 (ptr T.d t') := HB3'.out.range 0 _ (by simp [ptr_length])
    refine wp_call (.func 50) _ _ rfl 50 [] rfl (fun vs w => by kernel_rfl) [.pointer (some ⟨T.b, 0, none⟩)] (by rfl) ?_
    refine (tdepth_in w3.drew T.b T.d t' hrg3 (HR3.out.no (Fr.refl No w3).drew) ⟨⟨_, _, HO.out⟩, HG.out, HSZ.out.1.imp id (fun e => by have := HS.out; omega), by have := HS.out; have := HSZ.out; omega⟩ (by have := HD.out; omega)).mono ?_
    rintro e w4 ⟨rfl, f4⟩
    have F4 : Hid (Fr No w3 w4) := hid ((Fr.refl No w3).drew.trans' f4)
    have hold : Facts.hold [(3, fun w' => w'.cell? ⟨T.b, 2, none⟩ = some (.int .i64 ((l.length : Int) + 1)))] w4 := Facts.cons_hold (F4.out.cell c3 id) (Facts.nil_hold _)
    refine ⟨_, rfl, hK5 _ _ hold ?_⟩
    clear hold
    clear hK5 K5 f4 hrg3
    simp only [Act.put, List.setIfInBounds_toArray, List.set_cons_zero, List.set_cons_succ]
    refine wpD_only 6 [(3, fun w' => w'.cell? ⟨T.b, 2, none⟩ = some (.int .i64 ((l.length : Int) + 1)))] rfl (by kernel_rfl) (by kernel_rfl) (by rfl) (fun K6 hK6 => ?_)
    refine wp_call (.func 49) _ _ rfl 49 [] rfl (fun vs w => by kernel_rfl) [.int .i64 ((T.d + 1 : Nat) : Int)] (by rfl) ?_
    refine (capacity_any w4 (T.d + 1) q (by have := HD.out; omega) hq).mono ?_
    rintro e w5 ⟨rfl, f5⟩
    have F5 : Hid (Fr No w3 w5) := hid (F4.out.trans' f5)
    have hold : Facts.hold [(3, fun w' => w'.cell? ⟨T.b, 2, none⟩ = some (.int .i64 ((l.length : Int) + 1)))] w5 := Facts.cons_hold (F5.out.cell c3 id) (Facts.nil_hold _)
    refine ⟨_, rfl, hK6 _ _ hold ?_⟩
    clear hK6 K6 f5
    simp only [Act.put, List.setIfInBounds_toArray, List.set_cons_zero, List.set_cons_succ]
    (refine wpD_plain 7 (v := ?_) rfl (by kernel_rfl) (by kernel_rfl) (by kernel_rfl) (fun _ _ _ h => h) (by rfl) ?_ (by assumption) ?_; rotate_left; (intro _w; go_simp; try with_reducible rfl); simp only [Act.put, List.setIfInBounds_toArray, List.set_cons_zero, List.set_cons_succ])
    clear hold
    refine wpD_done (by kernel_rfl) ?_ _
    try simp only [Act.put, List.setIfInBounds_toArray, List.set_cons_zero, List.set_cons_succ]
    have HB5 : Hid (Blk w5 T.b 105 (ptr T.d t' ++ [.int .i64 ((l.length : Int) + 1)])) := hid (HB3'.out.fr F5.out id)
    have HR5 : Hid (Rep w5 T.d t') := hid (HR3.out.no F5.out)
    have HFR5 : Hid (Fr T.fp w w5) := hid (HFR3.out.trans' F5.out.no)
    have hlen : ((put key v l).length : Int) = (l.length : Int) + 1 := by rw [HL.out]; rfl
    have HLEN := hid hlen
    clear hlen c3
    by_cases hm : q < l.length + 1
    · have hmi : (q : Int) < (l.length : Int) + 1 := by omega
      have hb0 := HSZ.out.2
      have hfc := flat_count HG.out
      rw [HFL.out, HL.out] at hfc
      have h9 : 9 ≤ t'.l.length := by
        rcases Nat.lt_or_ge t'.l.length 9 with h1 | h1
        · have h2 : t'.l.length * 8 ^ T.d ≤ 8 * 8 ^ T.d := Nat.mul_le_mul_right _ (by omega)
          rw [Nat.pow_succ] at hq
          omega
        · exact h1
      have H9 := hid h9
      have h30 : t'.l.length ≤ 1073741824 := by have := HS.out; omega
      have H30 := hid h30
      clear hfc h9 h30 hb0
      go_wp2_with ((with_reducible show wpList _ _ _ ({ dst := _, op := .load 103 _, type := _, pos := _, after := _, guard := _ } :: _) _ _); refine wpL_load rfl _ _ rfl T.b 0 rfl (ptr T.d t') _ (HB5.out.range 0 _ (by simp [ptr_length])) rfl rfl (by rw [ptr_length]; exact info_p) ?_)
      refine (raised_any T.d w5 t' HR5.out HO.out HG.out H9.out H30.out).mono ?_
      rintro e w6 ⟨u, rfl, r1, r2, r3, r4, r5, r6, r7, r8⟩
      have R1 := hid r1; have R2 := hid r2; have R3 := hid r3; have R4 := hid r4; have R6 := hid r6
      have HB6 : Hid (Blk w6 T.b 105 (ptr T.d t' ++ [.int .i64 ((l.length : Int) + 1)])) := hid (HB5.out.fr r5 HOF.out)
      have HFR6 : Hid (Fr T.fp w w6) := hid (HFR5.out.trans r5 (fun k e => HGR.out k e))
      clear r1 r2 r3 r4 r5 r6 r7 r8
      go_wp2_with ((with_reducible show wpList _ _ _ ({ dst := _, op := .store 103 _ _, type := _, pos := _, after := _, guard := _ } :: _) _ _); refine wpL_storeV rfl _ _ _ rfl T.b 0 (val (T.d + 1) u) (ptr (T.d + 1) u) rfl rfl rfl _ _ HB6.out (by simp [ptr_length]) (by rw [ptr_length]; exact info_p) (ptr_one (T.d + 1) u) ?_; intro w7 HB7 F7 HS7)
      go_ret
      have HGU : ∀ g, fp (T.d + 1) u g → T.fp g ∨ w.heap.size ≤ g := fun g hg => (R6.out g hg).elim (HGR.out g) (fun e => .inr (by have := HFR5.out.size; omega))
      have hnb : ¬ fp (T.d + 1) u T.b := fun e => (R6.out _ e).elim HOF.out (fun e => by have := HB5.out.lt; omega)
      refine ⟨by first | rfl | (rw [hh]; rfl), ⟨T.d + 1, u, T.b⟩, rfl, ⟨?_, R1.out.fr F7.out (fun g hg e => hnb (by have e' : g = T.b := e; rw [← e']; exact hg)), R2.out, R3.out, R4.out.trans HFL.out, ?_, .inr ?_, hnb⟩, HFR6.out.trans F7.out (fun k e => .inl (.inl e)), fun g hg => hg.elim (fun e => .inl (.inl e)) (HGU g)⟩
      · have := HB7.out
        rw [spl_root] at this
        rw [HLEN.out]
        exact this
      · have h1 := H.out.cap
        have h2 : (8 : Nat) ^ (T.d + 1 + 1) = 8 ^ (T.d + 1) * 8 := Nat.pow_succ _ _
        rw [HL.out]
        have h3 : 0 < 8 ^ (T.d + 1) := Nat.pos_of_ne_zero (by simp)
        show l.length + 1 ≤ 8 ^ (T.d + 1 + 1)
        omega
      · rw [HL.out]; show 8 ^ (T.d + 1) < l.length + 1; rw [HQ.out]; exact hm
    · have hmi : ¬ ((q : Int) < (l.length : Int) + 1) := by omega
      go_wp2
      go_ret
      refine ⟨by first | rfl | (rw [hh]; rfl), ⟨T.d, t', T.b⟩, rfl, ⟨?_, HR5.out, HO.out, HG.out, HFL.out, ?_, ?_, HOF.out⟩, HFR5.out, fun g hg => hg.elim (fun e => .inl (.inl e)) (HGR.out g)⟩
      · rw [HLEN.out]; exact HB5.out
      · rw [HL.out]; show l.length + 1 ≤ 8 ^ (T.d + 1); rw [HQ.out]; omega
      · rw [HL.out]; exact H.out.low.imp id (fun e => by show 8 ^ T.d < l.length + 1; omega)
theorem tput_any (w : World) (T : TD) (l : L) (key v : S) (h : TrAt w T l) (hn : l.length ≤ 4398046511000) : Calls Try.prog 16 #[T.v, .string key, .string v] w (TPost w T (has key l) (put key v l)) := tput_to w T l key v h (by omega)
end Go.Proofs.Ytlnolnaapnijbaa.TR
