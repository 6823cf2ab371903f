/-
  The document's answer for layer 1: flushing, a crash; and the comparison of two lists of bytes.
-/
import Derived.Test.YtlnolnaapnijbaaRefW
namespace Go.Proofs.Ytlnolnaapnijbaa.D
set_option maxRecDepth 100000
open Go.RowKit K

section
variable {w : World} {bd : Nat} {D : Nat → Prop} {s : St}
theorem rflush_any (h : Rf w bd D s) : Calls Try.prog 32 #[.pointer (some ⟨bd, 0, none⟩)] w fun e w' => e = .returned (.int .i64 s.flush.1) ∧ Rf w' bd D s.flush.2 ∧ Fr D w w' := by
  obtain ⟨bl, pv, c0, c1, c2, c3⟩ := h.cells
  cases hu : s.up with
  | false =>
    have e1 : s.flush = (10, s) := by simp [St.flush, hu]
    rw [e1]
    rw [hu] at c2
    simp only [Bool.not_false] at c2
    have HH := hid h
    clear h hu e1
    go_enter Try.func32, Try.ntmps32
    go_wp2
    go_ret
    exact ⟨rfl, HH.out, Fr.refl _ _⟩
  | true =>
    rw [hu] at c2
    simp only [Bool.not_true] at c2
    have hsp := goes_any h
    cases hs : s.spend.1 with
    | false =>
      rw [hs] at hsp
      have e1 : s.flush = (10, s.spend.2) := by simp [St.flush, hu, hs]
      rw [e1]
      have HS := hid hsp
      clear h hu hs hsp e1
      go_enter Try.func32, Try.ntmps32
      go_wp2_with (go_at_call 66; refine HS.out.mono ?_; rintro e w1 ⟨rfl, hA, hF⟩; have HA := hid hA; have HF := hid hF; clear hA hF)
      go_ret
      exact ⟨rfl, HA.out, HF.out⟩
    | true =>
      rw [hs] at hsp
      have e1 : s.flush = (0, { s.spend.2.some s.P with P := [] }) := by simp [St.flush, hu, hs]
      rw [e1]
      have HS := hid hsp
      clear h hu hs hsp e1 c0 c1 c3
      go_enter Try.func32, Try.ntmps32
      go_wp2_with (go_at_call 66; refine HS.out.mono ?_; rintro e w1 ⟨rfl, hA, hF⟩; obtain ⟨bl1, pv1, hX⟩ := hA.x; obtain ⟨a1, cap1, rfl, hn1, ha1⟩ := own_form hX.2.2.2.1; rw [St.spend_P] at hn1 ha1 hX; have HX := hid hX; have HF := hid hF; have HA1 := hid ha1; clear hA hF hX ha1)
      go_loopw [4] (fun i wr => ∃ k : Nat, k ≤ s.P.length ∧ i = .int .i64 k ∧ Hid (RepX 83 116 130 not wr bd D (s.spend.2.some (s.P.take k)) bl1 (.slice a1 s.P.length cap1)) ∧ Hid (Fr D w wr)) (fun i _ => s.P.length - (intOf i).toNat)
      case atStart => exact ⟨0, Nat.zero_le _, rfl, HX, HF⟩
      case round =>
        obtain ⟨k, hk, rfl, HR, HFr⟩ := hrel
        have c1 := HR.out.2.1.cell 1
        simp only [List.getElem?_cons_succ, List.getElem?_cons_zero] at c1
        by_cases hlt : k < s.P.length
        · obtain ⟨p, hp⟩ : ∃ p, s.P[k]? = some p := ⟨s.P[k], List.getElem?_eq_getElem hlt⟩
          obtain ⟨g, rfl⟩ := HA1.out (by omega)
          have okp := HR.out.1.pnd p (by simpa [St.some] using List.mem_of_getElem? hp)
          have hr := HR.out.pend (k := k) (p := p) (by simpa [St.some] using hp)
          have cp : wr.cell? ⟨g, k * 65, none⟩ = some (.int .i64 p.1) := hr 0 _ rfl
          have rp : wr.rangeAt g (k * 65 + 1) (u8s p.2) := fun j v hj => by have := hr (j + 1) v (by simpa using hj); rwa [show k * 65 + (j + 1) = k * 65 + 1 + j by omega] at this
          have hL : (s.spend.2.some (s.P.take k)).L.length = s.L.length := by simp [St.some, applied_length]
          have c0 : wr.cell? ⟨bd, 0, none⟩ = some (.slice (some ⟨bl1, 0, none⟩) s.L.length s.L.length) := by rw [← hL]; exact HR.out.2.1.cell 0
          have hold : Facts.hold [(3, fun w' => w'.cell? ⟨bd, 0, none⟩ = some (.slice (some ⟨bl1, 0, none⟩) s.L.length s.L.length)), (7, fun w' => w'.cell? ⟨bd, 1, none⟩ = some (.slice (some ⟨g, 0, none⟩) s.P.length cap1)), (11, fun w' => w'.cell? ⟨g, k * 65, none⟩ = some (.int .i64 p.1)), (15, fun w' => w'.cell? ⟨bd, 1, none⟩ = some (.slice (some ⟨g, 0, none⟩) s.P.length cap1)), (19, fun w' => w'.rangeAt g (k * 65 + 1) (u8s p.2))] wr.drew :=
            Facts.cons_hold c0 (Facts.cons_hold c1 (Facts.cons_hold cp (Facts.cons_hold c1 (Facts.cons_hold rp (Facts.nil_hold _)))))
          have HP := hid hp; have HOK := hid okp; have HL := hid hL
          have hk0 : (0 : Int) ≤ k := by omega
          have hk1 : (k : Int) < s.P.length := by omega
          have hp1 : (p.1 : Int) < s.L.length := by have := okp.1; rw [hL] at this; omega
          have hp0 : (0 : Int) ≤ p.1 := by omega
          clear hr hp okp cp rp hL c0
          go_wp2_with fail
          refine wpD_region hold (by kernel_rfl) 22 rfl ?_
          clear c1
          (refine wpD_plain 0 (v := ?_) rfl (by kernel_rfl) (by kernel_rfl) (by kernel_rfl) (fun _ _ _ h => h) (by rfl) ?_ (by assumption) ?_; rotate_left; (intro _w; go_simp; try with_reducible rfl); simp only [Act.put, List.setIfInBounds_toArray, List.set_cons_zero, List.set_cons_succ])
          (refine wpD_plain 1 (v := ?_) rfl (by kernel_rfl) (by kernel_rfl) (by kernel_rfl) (fun _ _ _ h => h) (by rfl) ?_ (by assumption) ?_; rotate_left; (intro _w; go_simp; try with_reducible rfl); simp only [Act.put, List.setIfInBounds_toArray, List.set_cons_zero, List.set_cons_succ])
          (refine wpD_plain 2 (v := ?_) rfl (by kernel_rfl) (by kernel_rfl) (by kernel_rfl) (fun _ _ _ h => h) (by rfl) ?_ (by assumption) ?_; rotate_left; (intro _w; go_simp; try with_reducible rfl); simp only [Act.put, List.setIfInBounds_toArray, List.set_cons_zero, List.set_cons_succ])
          (refine wpD_take 3 _ rfl (by kernel_rfl) (by kernel_rfl) (by kernel_rfl) (fun _ _ _ h => h) List.mem_cons_self (by rfl) (v := ?_) ?_ (by assumption) ?_; rotate_left; (intro _w _hw; go_simp; try with_reducible rfl); simp only [Act.put, List.setIfInBounds_toArray, List.set_cons_zero, List.set_cons_succ])
          (refine wpD_plain 4 (v := ?_) rfl (by kernel_rfl) (by kernel_rfl) (by kernel_rfl) (fun _ _ _ h => h) (by rfl) ?_ (by assumption) ?_; rotate_left; (intro _w; go_simp; try with_reducible rfl); simp only [Act.put, List.setIfInBounds_toArray, List.set_cons_zero, List.set_cons_succ])
          (refine wpD_plain 5 (v := ?_) rfl (by kernel_rfl) (by kernel_rfl) (by kernel_rfl) (fun _ _ _ h => h) (by rfl) ?_ (by assumption) ?_; rotate_left; (intro _w; go_simp; try with_reducible rfl); simp only [Act.put, List.setIfInBounds_toArray, List.set_cons_zero, List.set_cons_succ])
          (refine wpD_plain 6 (v := ?_) rfl (by kernel_rfl) (by kernel_rfl) (by kernel_rfl) (fun _ _ _ h => h) (by rfl) ?_ (by assumption) ?_; rotate_left; (intro _w; go_simp; try with_reducible rfl); simp only [Act.put, List.setIfInBounds_toArray, List.set_cons_zero, List.set_cons_succ])
          (refine wpD_take 7 _ rfl (by kernel_rfl) (by kernel_rfl) (by kernel_rfl) (fun _ _ _ h => h) (List.mem_cons_of_mem _ List.mem_cons_self) (by rfl) (v := ?_) ?_ (by assumption) ?_; rotate_left; (intro _w _hw; go_simp; try with_reducible rfl); simp only [Act.put, List.setIfInBounds_toArray, List.set_cons_zero, List.set_cons_succ])
          (refine wpD_plain 8 (v := ?_) rfl (by kernel_rfl) (by kernel_rfl) (by kernel_rfl) (fun _ _ _ h => h) (by rfl) ?_ (by assumption) ?_; rotate_left; (intro _w; go_simp; try with_reducible rfl); simp only [Act.put, List.setIfInBounds_toArray, List.set_cons_zero, List.set_cons_succ])
          (refine wpD_plain 9 (v := ?_) rfl (by kernel_rfl) (by kernel_rfl) (by kernel_rfl) (fun _ _ _ h => h) (by rfl) ?_ (by assumption) ?_; rotate_left; (intro _w; go_simp; try with_reducible rfl); simp only [Act.put, List.setIfInBounds_toArray, List.set_cons_zero, List.set_cons_succ])
          (refine wpD_plain 10 (v := ?_) rfl (by kernel_rfl) (by kernel_rfl) (by kernel_rfl) (fun _ _ _ h => h) (by rfl) ?_ (by assumption) ?_; rotate_left; (intro _w; go_simp; try with_reducible rfl); simp only [Act.put, List.setIfInBounds_toArray, List.set_cons_zero, List.set_cons_succ])
          (refine wpD_take 11 _ rfl (by kernel_rfl) (by kernel_rfl) (by kernel_rfl) (fun _ _ _ h => h) (List.mem_cons_of_mem _ (List.mem_cons_of_mem _ List.mem_cons_self)) (by rfl) (v := ?_) ?_ (by assumption) ?_; rotate_left; (intro _w _hw; go_simp; try with_reducible rfl); simp only [Act.put, List.setIfInBounds_toArray, List.set_cons_zero, List.set_cons_succ])
          (refine wpD_plain 12 (v := ?_) rfl (by kernel_rfl) (by kernel_rfl) (by kernel_rfl) (fun _ _ _ h => h) (by rfl) ?_ (by assumption) ?_; rotate_left; (intro _w; go_simp; try with_reducible rfl); simp only [Act.put, List.setIfInBounds_toArray, List.set_cons_zero, List.set_cons_succ])
          (refine wpD_plain 13 (v := ?_) rfl (by kernel_rfl) (by kernel_rfl) (by kernel_rfl) (fun _ _ _ h => h) (by rfl) ?_ (by assumption) ?_; rotate_left; (intro _w; go_simp; try with_reducible rfl); simp only [Act.put, List.setIfInBounds_toArray, List.set_cons_zero, List.set_cons_succ])
          (refine wpD_plain 14 (v := ?_) rfl (by kernel_rfl) (by kernel_rfl) (by kernel_rfl) (fun _ _ _ h => h) (by rfl) ?_ (by assumption) ?_; rotate_left; (intro _w; go_simp; try with_reducible rfl); simp only [Act.put, List.setIfInBounds_toArray, List.set_cons_zero, List.set_cons_succ])
          (refine wpD_take 15 _ rfl (by kernel_rfl) (by kernel_rfl) (by kernel_rfl) (fun _ _ _ h => h) (List.mem_cons_of_mem _ (List.mem_cons_of_mem _ (List.mem_cons_of_mem _ List.mem_cons_self))) (by rfl) (v := ?_) ?_ (by assumption) ?_; rotate_left; (intro _w _hw; go_simp; try with_reducible rfl); simp only [Act.put, List.setIfInBounds_toArray, List.set_cons_zero, List.set_cons_succ])
          (refine wpD_plain 16 (v := ?_) rfl (by kernel_rfl) (by kernel_rfl) (by kernel_rfl) (fun _ _ _ h => h) (by rfl) ?_ (by assumption) ?_; rotate_left; (intro _w; go_simp; try with_reducible rfl); simp only [Act.put, List.setIfInBounds_toArray, List.set_cons_zero, List.set_cons_succ])
          (refine wpD_plain 17 (v := ?_) rfl (by kernel_rfl) (by kernel_rfl) (by kernel_rfl) (fun _ _ _ h => h) (by rfl) ?_ (by assumption) ?_; rotate_left; (intro _w; go_simp; try with_reducible rfl); simp only [Act.put, List.setIfInBounds_toArray, List.set_cons_zero, List.set_cons_succ])
          (refine wpD_plain 18 (v := ?_) rfl (by kernel_rfl) (by kernel_rfl) (by kernel_rfl) (fun _ _ _ h => h) (by rfl) ?_ (by assumption) ?_; rotate_left; (intro _w; go_simp; try with_reducible rfl); simp only [Act.put, List.setIfInBounds_toArray, List.set_cons_zero, List.set_cons_succ])
          (refine wpD_take 19 _ rfl (by kernel_rfl) (by kernel_rfl) (by kernel_rfl) (fun _ _ _ h => h) (List.mem_cons_of_mem _ (List.mem_cons_of_mem _ (List.mem_cons_of_mem _ (List.mem_cons_of_mem _ List.mem_cons_self)))) (by rfl) (exec_load _ _ rfl g (k * 65 + 1) rfl _ _ rfl rfl (by simp [HOK.out.2, info73])) (by assumption) ?_; simp only [Act.put, List.setIfInBounds_toArray, List.set_cons_zero, List.set_cons_succ])
          (refine wpD_plain 20 (v := ?_) rfl (by kernel_rfl) (by kernel_rfl) (by kernel_rfl) (fun _ _ _ h => h) (by rfl) ?_ (by assumption) ?_; rotate_left; (intro _w; go_simp; try with_reducible rfl); simp only [Act.put, List.setIfInBounds_toArray, List.set_cons_zero, List.set_cons_succ])
          refine wpD_only 21 [] rfl (by kernel_rfl) (by kernel_rfl) (by rfl) (fun K9 hK9 => ?_)
          refine wp_storeB _ _ _ rfl bl1 (p.1 * 64) (u8s p.2) rfl rfl _ _ HR.out.2.2.1 ?_ ?_ (u8s_one _) ?_
          · exact HR.out.sets HOK.out.2 (by rw [HL.out]; omega)
          · simp [HOK.out.2, info73]
          · intro w5 HB5 HF5 HS5
            refine hK9 _ _ (Facts.nil_hold _) ?_
            refine wpD_done (by kernel_rfl) ?_ _
            clear hK9 K9 hold
            go_wp2
            refine ⟨⟨k + 1, by omega, by go_num, hid ?_, hid ?_⟩, by simp [intOf]; omega⟩
            · rw [some_snoc _ _ HP.out]
              exact HR.out.put (w := wr.drew) p.1 p.2 HOK.out.2 (by rw [HL.out]; omega) HB5.out HF5.out
            · exact HFr.out.drew.trans HF5.out (fun j hj => .inl (by rw [hj]; exact HR.out.2.2.2.2.2.2.2.1))
        · have f1 := HR.out.2.1.frozen 1
          have hge : ¬ ((k : Int) < s.P.length) := by omega
          have hk' : k = s.P.length := by omega
          have HK := hid hk'; clear hk'
          go_wp2
          go_ret
          have := HR.out.rep
          rw [HK.out, List.take_length] at this
          exact ⟨rfl, this.setNil, HFr.out.setCell _ _ (.inl this.dst.1)⟩

theorem rcrash_any (v : Value) (keep : List Bool) (E : Nat → Prop) (hv : BoolsIn w E v keep) (hE : ∀ k, E k → ¬ D k) (hlen : keep.length ≤ 9223372036854775807) (h : Rf w bd D s) :
    Calls Try.prog 33 #[.pointer (some ⟨bd, 0, none⟩), v] w fun e w' => e = .returned (.int .i64 (s.crash keep).1) ∧ Rf w' bd D (s.crash keep).2 ∧ Fr D w w' := by
  obtain ⟨bl1, pv1, hX⟩ := h.x
  obtain ⟨a1, cap1, rfl, hn1, ha1⟩ := own_form hX.2.2.2.1
  obtain ⟨a, len, cap, rfl, hl, hsrc⟩ := hv
  have hlen' : (len : Int) ≤ 9223372036854775807 := by omega
  have HX := hid hX; have HA1 := hid ha1; have HS := hid hsrc; have HE := hid hE; have HL := hid hl
  clear hX ha1 h hsrc hE hlen hl
  go_enter Try.func33, Try.ntmps33
  go_wp2_with fail
  go_loopw [5, 6] (fun kept i wr => ∃ k : Nat, k ≤ s.P.length ∧ i = .int .i64 k ∧ kept = .int .i64 (picked (s.P.take k) keep).length ∧ Hid (RepX 83 116 130 not wr bd D (s.some (picked (s.P.take k) keep)) bl1 (.slice a1 s.P.length cap1)) ∧ Hid (Fr D w wr)) (fun _ i _ => s.P.length - (intOf i).toNat)
  case atStart => exact ⟨0, Nat.zero_le _, rfl, rfl, by simpa [St.some, picked, applied] using HX, hid (Fr.refl _ _)⟩
  case round =>
    obtain ⟨k, hk, rfl, rfl, HR, HFr⟩ := hrel
    have c1 := HR.out.2.1.cell 1
    simp only [List.getElem?_cons_succ, List.getElem?_cons_zero] at c1
    by_cases hlt : k < s.P.length
    · obtain ⟨p, hp⟩ : ∃ p, s.P[k]? = some p := ⟨s.P[k], List.getElem?_eq_getElem hlt⟩
      obtain ⟨g, rfl⟩ := HA1.out (by omega)
      have okp := HR.out.1.pnd p (by simpa [St.some] using List.mem_of_getElem? hp)
      have hr := HR.out.pend (k := k) (p := p) (by simpa [St.some] using hp)
      have hps := picked_snoc s.P keep k p hp
      have hpk : (picked (s.P.take k) keep).length ≤ k := Nat.le_trans (picked_sub _ _) (by simp; omega)
      have hk0 : (0 : Int) ≤ k := by omega
      have hk1 : (k : Int) < s.P.length := by omega
      have hpk' : ((picked (s.P.take k) keep).length : Int) ≤ k := by omega
      have hpk0 : (0 : Int) ≤ ((picked (s.P.take k) keep).length : Int) := by omega
      clear hpk
      by_cases hkk : keep[k]? = some true
      · rw [if_pos hkk] at hps
        have hkl : k < len := by have := (List.getElem?_eq_some_iff.1 hkk).1; have := HL.out; omega
        obtain ⟨gk, ok, rfl, hgE, hgl, hgr⟩ := HS.out.resolve_left (by omega)
        have ck : wr.cell? ⟨gk, ok + k, none⟩ = some (.bool true) := HFr.out.cell (hgr k _ (by simp [hkk])) (HE.out _ hgE)
        have hkl' : (k : Int) < len := by omega
        have cp : wr.cell? ⟨g, k * 65, none⟩ = some (.int .i64 p.1) := hr 0 _ rfl
        have rp : wr.rangeAt g (k * 65 + 1) (u8s p.2) := fun j v hj => by have := hr (j + 1) v (by simpa using hj); rwa [show k * 65 + (j + 1) = k * 65 + 1 + j by omega] at this
        have hL : (s.some (picked (s.P.take k) keep)).L.length = s.L.length := by simp [St.some, applied_length]
        have c0 : wr.cell? ⟨bd, 0, none⟩ = some (.slice (some ⟨bl1, 0, none⟩) s.L.length s.L.length) := by rw [← hL]; exact HR.out.2.1.cell 0
        have hold : Facts.hold [(3, fun w' => w'.cell? ⟨bd, 0, none⟩ = some (.slice (some ⟨bl1, 0, none⟩) s.L.length s.L.length)), (7, fun w' => w'.cell? ⟨bd, 1, none⟩ = some (.slice (some ⟨g, 0, none⟩) s.P.length cap1)), (11, fun w' => w'.cell? ⟨g, k * 65, none⟩ = some (.int .i64 p.1)), (15, fun w' => w'.cell? ⟨bd, 1, none⟩ = some (.slice (some ⟨g, 0, none⟩) s.P.length cap1)), (19, fun w' => w'.rangeAt g (k * 65 + 1) (u8s p.2))] wr.drew :=
          Facts.cons_hold c0 (Facts.cons_hold c1 (Facts.cons_hold cp (Facts.cons_hold c1 (Facts.cons_hold rp (Facts.nil_hold _)))))
        have hp1 : (p.1 : Int) < s.L.length := by have := okp.1; rw [hL] at this; omega
        have hp0 : (0 : Int) ≤ p.1 := by omega
        have HLL := hid hL; have HPS := hid hps; have HGE := hid hgE; have HP := hid hp; have HOK := hid okp
        clear hps hkk hgr hgE hgl hL hp okp hr cp rp c0
        go_wp2_with fail
        refine wpD_region hold (by kernel_rfl) 22 rfl ?_
        clear c1 ck
        (refine wpD_plain 0 (v := ?_) rfl (by kernel_rfl) (by kernel_rfl) (by kernel_rfl) (fun _ _ _ h => h) (by rfl) ?_ (by assumption) ?_; rotate_left; (intro _w; go_simp; try with_reducible rfl); simp only [Act.put, List.setIfInBounds_toArray, List.set_cons_zero, List.set_cons_succ])
        (refine wpD_plain 1 (v := ?_) rfl (by kernel_rfl) (by kernel_rfl) (by kernel_rfl) (fun _ _ _ h => h) (by rfl) ?_ (by assumption) ?_; rotate_left; (intro _w; go_simp; try with_reducible rfl); simp only [Act.put, List.setIfInBounds_toArray, List.set_cons_zero, List.set_cons_succ])
        (refine wpD_plain 2 (v := ?_) rfl (by kernel_rfl) (by kernel_rfl) (by kernel_rfl) (fun _ _ _ h => h) (by rfl) ?_ (by assumption) ?_; rotate_left; (intro _w; go_simp; try with_reducible rfl); simp only [Act.put, List.setIfInBounds_toArray, List.set_cons_zero, List.set_cons_succ])
        (refine wpD_take 3 _ rfl (by kernel_rfl) (by kernel_rfl) (by kernel_rfl) (fun _ _ _ h => h) List.mem_cons_self (by rfl) (v := ?_) ?_ (by assumption) ?_; rotate_left; (intro _w _hw; go_simp; try with_reducible rfl); simp only [Act.put, List.setIfInBounds_toArray, List.set_cons_zero, List.set_cons_succ])
        (refine wpD_plain 4 (v := ?_) rfl (by kernel_rfl) (by kernel_rfl) (by kernel_rfl) (fun _ _ _ h => h) (by rfl) ?_ (by assumption) ?_; rotate_left; (intro _w; go_simp; try with_reducible rfl); simp only [Act.put, List.setIfInBounds_toArray, List.set_cons_zero, List.set_cons_succ])
        (refine wpD_plain 5 (v := ?_) rfl (by kernel_rfl) (by kernel_rfl) (by kernel_rfl) (fun _ _ _ h => h) (by rfl) ?_ (by assumption) ?_; rotate_left; (intro _w; go_simp; try with_reducible rfl); simp only [Act.put, List.setIfInBounds_toArray, List.set_cons_zero, List.set_cons_succ])
        (refine wpD_plain 6 (v := ?_) rfl (by kernel_rfl) (by kernel_rfl) (by kernel_rfl) (fun _ _ _ h => h) (by rfl) ?_ (by assumption) ?_; rotate_left; (intro _w; go_simp; try with_reducible rfl); simp only [Act.put, List.setIfInBounds_toArray, List.set_cons_zero, List.set_cons_succ])
        (refine wpD_take 7 _ rfl (by kernel_rfl) (by kernel_rfl) (by kernel_rfl) (fun _ _ _ h => h) (List.mem_cons_of_mem _ List.mem_cons_self) (by rfl) (v := ?_) ?_ (by assumption) ?_; rotate_left; (intro _w _hw; go_simp; try with_reducible rfl); simp only [Act.put, List.setIfInBounds_toArray, List.set_cons_zero, List.set_cons_succ])
        (refine wpD_plain 8 (v := ?_) rfl (by kernel_rfl) (by kernel_rfl) (by kernel_rfl) (fun _ _ _ h => h) (by rfl) ?_ (by assumption) ?_; rotate_left; (intro _w; go_simp; try with_reducible rfl); simp only [Act.put, List.setIfInBounds_toArray, List.set_cons_zero, List.set_cons_succ])
        (refine wpD_plain 9 (v := ?_) rfl (by kernel_rfl) (by kernel_rfl) (by kernel_rfl) (fun _ _ _ h => h) (by rfl) ?_ (by assumption) ?_; rotate_left; (intro _w; go_simp; try with_reducible rfl); simp only [Act.put, List.setIfInBounds_toArray, List.set_cons_zero, List.set_cons_succ])
        (refine wpD_plain 10 (v := ?_) rfl (by kernel_rfl) (by kernel_rfl) (by kernel_rfl) (fun _ _ _ h => h) (by rfl) ?_ (by assumption) ?_; rotate_left; (intro _w; go_simp; try with_reducible rfl); simp only [Act.put, List.setIfInBounds_toArray, List.set_cons_zero, List.set_cons_succ])
        (refine wpD_take 11 _ rfl (by kernel_rfl) (by kernel_rfl) (by kernel_rfl) (fun _ _ _ h => h) (List.mem_cons_of_mem _ (List.mem_cons_of_mem _ List.mem_cons_self)) (by rfl) (v := ?_) ?_ (by assumption) ?_; rotate_left; (intro _w _hw; go_simp; try with_reducible rfl); simp only [Act.put, List.setIfInBounds_toArray, List.set_cons_zero, List.set_cons_succ])
        (refine wpD_plain 12 (v := ?_) rfl (by kernel_rfl) (by kernel_rfl) (by kernel_rfl) (fun _ _ _ h => h) (by rfl) ?_ (by assumption) ?_; rotate_left; (intro _w; go_simp; try with_reducible rfl); simp only [Act.put, List.setIfInBounds_toArray, List.set_cons_zero, List.set_cons_succ])
        (refine wpD_plain 13 (v := ?_) rfl (by kernel_rfl) (by kernel_rfl) (by kernel_rfl) (fun _ _ _ h => h) (by rfl) ?_ (by assumption) ?_; rotate_left; (intro _w; go_simp; try with_reducible rfl); simp only [Act.put, List.setIfInBounds_toArray, List.set_cons_zero, List.set_cons_succ])
        (refine wpD_plain 14 (v := ?_) rfl (by kernel_rfl) (by kernel_rfl) (by kernel_rfl) (fun _ _ _ h => h) (by rfl) ?_ (by assumption) ?_; rotate_left; (intro _w; go_simp; try with_reducible rfl); simp only [Act.put, List.setIfInBounds_toArray, List.set_cons_zero, List.set_cons_succ])
        (refine wpD_take 15 _ rfl (by kernel_rfl) (by kernel_rfl) (by kernel_rfl) (fun _ _ _ h => h) (List.mem_cons_of_mem _ (List.mem_cons_of_mem _ (List.mem_cons_of_mem _ List.mem_cons_self))) (by rfl) (v := ?_) ?_ (by assumption) ?_; rotate_left; (intro _w _hw; go_simp; try with_reducible rfl); simp only [Act.put, List.setIfInBounds_toArray, List.set_cons_zero, List.set_cons_succ])
        (refine wpD_plain 16 (v := ?_) rfl (by kernel_rfl) (by kernel_rfl) (by kernel_rfl) (fun _ _ _ h => h) (by rfl) ?_ (by assumption) ?_; rotate_left; (intro _w; go_simp; try with_reducible rfl); simp only [Act.put, List.setIfInBounds_toArray, List.set_cons_zero, List.set_cons_succ])
        (refine wpD_plain 17 (v := ?_) rfl (by kernel_rfl) (by kernel_rfl) (by kernel_rfl) (fun _ _ _ h => h) (by rfl) ?_ (by assumption) ?_; rotate_left; (intro _w; go_simp; try with_reducible rfl); simp only [Act.put, List.setIfInBounds_toArray, List.set_cons_zero, List.set_cons_succ])
        (refine wpD_plain 18 (v := ?_) rfl (by kernel_rfl) (by kernel_rfl) (by kernel_rfl) (fun _ _ _ h => h) (by rfl) ?_ (by assumption) ?_; rotate_left; (intro _w; go_simp; try with_reducible rfl); simp only [Act.put, List.setIfInBounds_toArray, List.set_cons_zero, List.set_cons_succ])
        (refine wpD_take 19 _ rfl (by kernel_rfl) (by kernel_rfl) (by kernel_rfl) (fun _ _ _ h => h) (List.mem_cons_of_mem _ (List.mem_cons_of_mem _ (List.mem_cons_of_mem _ (List.mem_cons_of_mem _ List.mem_cons_self)))) (by rfl) (exec_load _ _ rfl g (k * 65 + 1) rfl _ _ rfl rfl (by simp [HOK.out.2, info73])) (by assumption) ?_; simp only [Act.put, List.setIfInBounds_toArray, List.set_cons_zero, List.set_cons_succ])
        (refine wpD_plain 20 (v := ?_) rfl (by kernel_rfl) (by kernel_rfl) (by kernel_rfl) (fun _ _ _ h => h) (by rfl) ?_ (by assumption) ?_; rotate_left; (intro _w; go_simp; try with_reducible rfl); simp only [Act.put, List.setIfInBounds_toArray, List.set_cons_zero, List.set_cons_succ])
        refine wpD_only 21 [] rfl (by kernel_rfl) (by kernel_rfl) (by rfl) (fun K9 hK9 => ?_)
        refine wp_storeB _ _ _ rfl bl1 (p.1 * 64) (u8s p.2) rfl rfl _ _ HR.out.2.2.1 ?_ ?_ (u8s_one _) ?_
        · exact HR.out.sets HOK.out.2 (by rw [HLL.out]; omega)
        · simp [HOK.out.2, info73]
        · intro w5 HB5 HF5 HS5
          refine hK9 _ _ (Facts.nil_hold _) ?_
          refine wpD_done (by kernel_rfl) ?_ _
          clear hK9 K9 hold
          go_wp2
          have e := HPS.out
          refine ⟨⟨k + 1, by omega, by go_num, ?_, hid ?_, hid ?_⟩, by simp [intOf]; omega⟩
          · rw [e]; simp
          · rw [e, some_app]
            exact HR.out.put (w := wr.drew) p.1 p.2 HOK.out.2 (by rw [HLL.out]; omega) HB5.out HF5.out
          · exact HFr.out.drew.trans HF5.out (fun j hj => .inl (by rw [hj]; exact HR.out.2.2.2.2.2.2.2.1))
      · rw [if_neg hkk, List.append_nil] at hps
        have hkeep : ∀ gk ok, a = some ⟨gk, ok, none⟩ → k < len → True := fun _ _ _ _ => trivial
        by_cases hkl : k < len
        · obtain ⟨gk, ok, rfl, hgE, hgl, hgr⟩ := HS.out.resolve_left (by omega)
          have hkf : keep[k]? = some false := by
            have : k < keep.length := by have := HL.out; omega
            rw [List.getElem?_eq_getElem this] at hkk ⊢
            cases hb : keep[k] with
            | true => exact absurd (by rw [hb]) hkk
            | false => rfl
          have ck : wr.cell? ⟨gk, ok + k, none⟩ = some (.bool false) := HFr.out.cell (hgr k _ (by simp [hkf])) (HE.out _ hgE)
          have hkl' : (k : Int) < len := by omega
          have HPS := hid hps
          clear hps hkk hgr hgE hgl hkf hp okp hr hkeep
          go_wp2
          have e := HPS.out
          exact ⟨⟨k + 1, by omega, by go_num, by rw [e], hid (by rw [e]; exact HR.out), HFr⟩, by simp [intOf]; omega⟩
        · have hkl' : ¬ ((k : Int) < len) := by omega
          have HPS := hid hps
          clear hps hkk hp okp hr hkeep
          go_wp2
          have e := HPS.out
          exact ⟨⟨k + 1, by omega, by go_num, by rw [e], hid (by rw [e]; exact HR.out), HFr⟩, by simp [intOf]; omega⟩
    · have f1 := HR.out.2.1.frozen 1
      have c2 := HR.out.2.1.cell 2
      have f2 := HR.out.2.1.frozen 2
      have c3 := HR.out.2.1.cell 3
      have f3 := HR.out.2.1.frozen 3
      simp only [List.getElem?_cons_succ, List.getElem?_cons_zero] at c2 c3
      have hge : ¬ ((k : Int) < s.P.length) := by omega
      have hk' : k = s.P.length := by omega
      have HK := hid hk'; clear hk'
      go_wp2
      go_ret
      have := HR.out.rep
      rw [HK.out, List.take_length] at this
      have hD := this.dst.1
      refine ⟨?_, ((this.setNil.setUp true).setLeft (-1) (by decide) (by decide)), ((HFr.out.setCell _ _ (.inl hD)).setCell _ _ (.inl hD)).setCell _ _ (.inl hD)⟩
      show Ending.returned (.int .i64 ((picked (List.take k s.P) keep).length : Int)) = _
      rw [HK.out, List.take_length]
      rfl
end
end Go.Proofs.Ytlnolnaapnijbaa.D
