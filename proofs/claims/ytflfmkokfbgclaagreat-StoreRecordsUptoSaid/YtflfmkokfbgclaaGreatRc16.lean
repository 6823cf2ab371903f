/-
  Part 16 of the proof: DiskF, Crc, LogU, LogD, SumD, SumA.
-/
import Derived.Test.YtflfmkokfbgclaaGreatRc15
import Derived.Laws.BitsAllLaws
import Derived.Test.YtflfmkokfbgclaaGreatRc00
import Derived.Test.YtflfmkokfbgclaaGreatChecked
set_option linter.unusedSimpArgs false
set_option linter.unusedVariables false
namespace Go.Proofs.YtflfmkokfbgclaaGreat.D
set_option maxRecDepth 100000
open Go.RowKit K

/-- Rep, where its blocks are. -/
def RepX (td tl tp : TypeId) (f : Bool → Bool) (w : World) (bd : Nat) (D : Nat → Prop) (s : St) (bl : Nat) (pv : Value) : Prop :=
  s.Ok ∧ Blk w bd td [.slice (some ⟨bl, 0, none⟩) s.L.length s.L.length, pv, .bool (f s.up), .int .i64 s.left] ∧ Blk w bl tl (rowsL s.L) ∧
    w.ownsRow 0 tp 65 pv s.P.length (rowsP s.P) ∧ bd ≠ bl ∧ (∀ k, pv.ownBlock = some k → k ≠ bd ∧ k ≠ bl ∧ D k) ∧ D bd ∧ D bl ∧ (∀ k, D k → k < w.heap.size)
section
variable {td tl tp : TypeId} {f : Bool → Bool} {w w' : World} {bd : Nat} {D E : Nat → Prop} {s : St} {bl : Nat} {pv : Value}
theorem RepX.rep (h : RepX td tl tp f w bd D s bl pv) : Rep td tl tp f w bd D s := ⟨h.1, bl, pv, h.2⟩
theorem Rep.x (h : Rep td tl tp f w bd D s) : ∃ bl pv, RepX td tl tp f w bd D s bl pv := by
  obtain ⟨ok, bl, pv, r⟩ := h
  exact ⟨bl, pv, ok, r⟩
theorem RepX.fr (h : RepX td tl tp f w bd D s bl pv) (hf : Fr E w w') (hd : ∀ k, D k → ¬ E k) : RepX td tl tp f w' bd D s bl pv := by
  obtain ⟨ok, h1, h2, h3, h4, h5, h6, h7, h8⟩ := h
  exact ⟨ok, h1.fr hf (hd _ h6), h2.fr hf (hd _ h7), own_fr h3 hf (fun k hk => hd k (h5 k hk).2.2), h4, h5, h6, h7, fun k hk => Nat.lt_of_lt_of_le (h8 k hk) hf.size⟩
/-- A sector is stored. -/
theorem RepX.put (h : RepX td tl tp f w bd D s bl pv) (i : Nat) (l : List Int) (hl : l.length = 64) (hi : i < s.L.length) (hB : Blk w' bl tl (spl (rowsL s.L) (i * 64) (u8s l))) (hf : Fr (fun k => k = bl) w w') :
    RepX td tl tp f w' bd D { s with L := s.L.set i l } bl pv := by
  obtain ⟨ok, h1, h2, h3, h4, h5, h6, h7, h8⟩ := h
  refine ⟨⟨by simpa using ok.1, by simpa using ok.2, ?_, by simpa using ok.4, ok.5, ok.6⟩, ?_, ?_, own_fr h3 hf (fun k hk => (h5 k hk).2.1), h4, h5, h6, h7, fun k hk => Nat.lt_of_lt_of_le (h8 k hk) hf.size⟩
  · intro x hx
    rcases List.mem_or_eq_of_mem_set hx with hx | hx
    · exact ok.3 x hx
    · rw [hx]; exact hl
  · simpa using h1.fr hf h4
  · have e := flat_set (m := 64) (s.L.map u8s) i (u8s l) (by simpa using ok.sec) (by simpa using hl) (by simpa using hi)
    have e' : spl (rowsL s.L) (i * 64) (u8s l) = rowsL (s.L.set i l) := by unfold rowsL; rw [e, List.map_set]
    rw [← e']; exact hB
theorem RepX.sets (h : RepX td tl tp f w bd D s bl pv) {i : Nat} {l : List Int} (hl : l.length = 64) (hi : i < s.L.length) : i * 64 + (u8s l).length ≤ (rowsL s.L).length := by
  rw [rowsL_length h.1.sec, u8s_length, hl]; omega
theorem RepX.pend {g cap : Nat} {n : Nat} (h : RepX td tl tp f w bd D s bl (.slice (some ⟨g, 0, none⟩) n cap)) {k : Nat} {p : Nat × List Int} (hk : s.P[k]? = some p) : w.rangeAt g (k * 65) (.int .i64 p.1 :: u8s p.2) := by
  obtain ⟨ok, h1, h2, h3, h4, h5, h6, h7, h8⟩ := h
  have hc := h3.cells (g := g) rfl
  have hg := flat_get (m := 65) (s.P.map fun p => Value.int .i64 (p.1 : Int) :: u8s p.2) k (.int .i64 p.1 :: u8s p.2) (by intro l hl; obtain ⟨p, hp', rfl⟩ := List.mem_map.1 hl; simp [(ok.pnd p hp').2]) (by simp [hk])
  have hp64 := (ok.pnd p (List.mem_of_getElem? hk)).2
  intro j v hj
  have hlt : j < 65 := by have := (List.getElem?_eq_some_iff.1 hj).1; simpa [hp64] using this
  rw [← hg, List.getElem?_take, if_pos hlt, List.getElem?_drop] at hj
  have := hc _ v hj
  rwa [Addr.add_mid, Nat.zero_add] at this
end

/-- The sectors behind some writes. -/
def applied (L : List (List Int)) (P : List (Nat × List Int)) : List (List Int) := P.foldl (fun L p => L.set p.1 p.2) L
theorem applied_length (L : List (List Int)) (P : List (Nat × List Int)) : (applied L P).length = L.length := by
  induction P generalizing L with
  | nil => rfl
  | cons a r ih => simp only [applied, List.foldl_cons]; exact (ih _).trans (by simp)
theorem applied_snoc (L : List (List Int)) (P : List (Nat × List Int)) {k : Nat} {p : Nat × List Int} (h : P[k]? = some p) : applied L (P.take (k + 1)) = (applied L (P.take k)).set p.1 p.2 := by
  obtain ⟨hlt, rfl⟩ := List.getElem?_eq_some_iff.1 h
  unfold applied
  rw [List.take_succ_eq_append_getElem hlt, List.foldl_append]
  rfl
def St.some (s : St) (P : List (Nat × List Int)) : St := { s with L := applied s.L P }
theorem some_snoc (s : St) (P : List (Nat × List Int)) {k : Nat} {p : Nat × List Int} (h : P[k]? = some p) : s.some (P.take (k + 1)) = { s.some (P.take k) with L := (s.some (P.take k)).L.set p.1 p.2 } := by
  simp only [St.some, applied_snoc _ _ h]
/-- What Flush answers, and the disk behind it. -/
def St.flush (s : St) : Int × St := if s.up = false then (10, s) else if s.spend.1 = false then (10, s.spend.2) else (0, { s.spend.2.some s.P with P := [] })

section
variable {w : World} {bd : Nat} {D : Nat → Prop} {s : St}
theorem flush_any (h : At w bd D s) : Calls Tryz.prog 77 #[.pointer (some ⟨bd, 0, none⟩)] w fun e w' => e = .returned (.int .i64 s.flush.1) ∧ At w' bd D s.flush.2 ∧ Fr D w w' := by
  obtain ⟨bl, pv, c0, c1, c2, c3⟩ := h.cells
  simp only [id] at c2
  cases hu : s.up with
  | false =>
    have e1 : s.flush = (10, s) := by simp [St.flush, hu]
    rw [e1]
    rw [hu] at c2
    have HH := hid h
    clear h hu e1
    go_enter Tryz.func77, Tryz.ntmps77
    go_wp2
    go_ret
    exact ⟨rfl, HH.out, Fr.refl _ _⟩
  | true =>
    rw [hu] at c2
    have hsp := spend_any h
    cases hs : s.spend.1 with
    | false =>
      rw [hs] at hsp
      have e1 : s.flush = (10, s.spend.2) := by simp [St.flush, hu, hs]
      rw [e1]
      have HS := hid hsp
      clear h hu hs hsp e1
      go_enter Tryz.func77, Tryz.ntmps77
      go_wp2_with (go_at_call 97; refine HS.out.mono ?_; rintro e w1 ⟨rfl, hA, hF⟩; have HA := hid hA; have HF := hid hF; clear hA hF)
      go_ret
      exact ⟨rfl, HA.out, HF.out⟩
    | true =>
      rw [hs] at hsp
      have e1 : s.flush = (0, { s.spend.2.some s.P with P := [] }) := by simp [St.flush, hu, hs]
      rw [e1]
      have HS := hid hsp
      clear h hu hs hsp e1 c0 c1 c3
      go_enter Tryz.func77, Tryz.ntmps77
      go_wp2_with (go_at_call 97; refine HS.out.mono ?_; rintro e w1 ⟨rfl, hA, hF⟩; obtain ⟨bl1, pv1, hX⟩ := hA.x; obtain ⟨a1, cap1, rfl, hn1, ha1⟩ := own_form hX.2.2.2.1; rw [St.spend_P] at hn1 ha1 hX; have c1 : w1.cell? ⟨bd, 1, none⟩ = some (.slice a1 s.P.length cap1) := hX.2.1.cell 1; have HX := hid hX; have HF := hid hF; have HA1 := hid ha1; clear hA hF hX ha1)
      have HC1 := hid c1; clear c1
      go_loopw [4, 20] (fun _ i wr => ∃ k : Nat, k ≤ s.P.length ∧ i = .int .i64 k ∧ Hid (RepX 87 102 104 id wr bd D (s.spend.2.some (s.P.take k)) bl1 (.slice a1 s.P.length cap1)) ∧ Hid (Fr D w wr)) (fun _ i _ => s.P.length - (intOf i).toNat)
      case atStart => exact ⟨0, Nat.zero_le _, rfl, HX, HF⟩
      case round =>
        obtain ⟨k, hk, rfl, HR, HFr⟩ := hrel
        by_cases hlt : k < s.P.length
        · obtain ⟨p, hp⟩ : ∃ p, s.P[k]? = some p := ⟨s.P[k], List.getElem?_eq_getElem hlt⟩
          obtain ⟨g, rfl⟩ := HA1.out (by omega)
          have okp := HR.out.1.pnd p (by simpa [St.some] using List.mem_of_getElem? hp)
          have hr := HR.out.pend (k := k) (p := p) (by simpa [St.some] using hp)
          have HRG := hid hr; have HP := hid hp; have HOK := hid okp
          clear hr hp okp
          have hk0 : (0 : Int) ≤ k := by omega
          have hk1 : (k : Int) < s.P.length := by omega
          go_wp2_with (first
            | ((with_reducible show wpList _ _ _ (⟨_, .load 104 _, _, _, _, _⟩ :: _) _ _); refine wpL_load rfl _ _ rfl g (k * 65) rfl (.int .i64 p.1 :: u8s p.2) _ HRG.out rfl rfl (by simp [HOK.out.2, info77]) ?_)
            | ((with_reducible show wpList _ _ _ (⟨_, .alloc 104, _, _, _, _⟩ :: _) _ _); refine wpL_alloc rfl _ rfl _ zero77 (.int .i64 0 :: zero64) rfl ?_; intro w2 HB2 HF2 HS2)
            | ((with_reducible show wpList _ _ _ (⟨_, .store 104 _ _, _, _, _, _⟩ :: _) _ _); refine wpL_store rfl _ _ _ rfl wr.heap.size 0 (.int .i64 p.1 :: u8s p.2) rfl rfl _ _ HB2.out (by simp [zero64, HOK.out.2]) (by simp [HOK.out.2, info77]) (by simp [u8s, Value.oneCell']) ?_; intro w3 HB3 HF3 HS3))
          have h3 : spl (.int .i64 0 :: zero64) 0 (.int .i64 p.1 :: u8s p.2) = .int .i64 p.1 :: u8s p.2 := by
            have : (u8s p.2).length = 64 := by simp [HOK.out.2]
            simp [spl, zero64, this]
          have HB := HB3.out
          rw [h3] at HB
          have hlt2 : ∀ j, D j → j ≠ wr.heap.size := fun j hj e => by have := HR.out.rep.lt j hj; omega
          have HX3 := (HR.out.fr HF2.out (fun _ _ e => e)).fr HF3.out (fun j hj e => hlt2 j hj e)
          have hL : (s.spend.2.some (s.P.take k)).L.length = s.L.length := by simp [St.some, applied_length]
          have c0 : w3.cell? ⟨bd, 0, none⟩ = some (.slice (some ⟨bl1, 0, none⟩) s.L.length s.L.length) := by rw [← hL]; exact HX3.2.1.cell 0
          have cn : w3.cell? ⟨wr.heap.size, 0, none⟩ = some (.int .i64 p.1) := HB.cell 0
          have rn : w3.rangeAt wr.heap.size 1 (u8s p.2) := HB.range 1 _ (by simp [List.take_of_length_le])
          have hold : Facts.hold [(3, fun w' => w'.cell? ⟨bd, 0, none⟩ = some (.slice (some ⟨bl1, 0, none⟩) s.L.length s.L.length)), (5, fun w' => w'.cell? ⟨wr.heap.size, 0, none⟩ = some (.int .i64 p.1)), (7, fun w' => w'.rangeAt wr.heap.size 1 (u8s p.2))] w3.drew :=
            Facts.cons_hold c0 (Facts.cons_hold cn (Facts.cons_hold rn (Facts.nil_hold _)))
          have hp1 : (p.1 : Int) < s.L.length := by have := HOK.out.1; rw [hL] at this; omega
          have hp0 : (0 : Int) ≤ p.1 := by omega
          have HL := hid hL; have HHX := hid HX3; have HHB := hid HB
          clear hL HX3 HB h3 c0 cn rn hlt2
          refine wpD_region hold (by kernel_rfl) 10 rfl ?_
          (refine wpD_plain 0 (v := ?_) rfl (by kernel_rfl) (by kernel_rfl) (by kernel_rfl) (fun _ _ _ h => h) (by rfl) ?_ (by assumption) ?_; rotate_left; (intro _w; go_simp; try with_reducible rfl); simp only [Act.put, List.setIfInBounds_toArray, List.set_cons_zero, List.set_cons_succ])
          (refine wpD_plain 1 (v := ?_) rfl (by kernel_rfl) (by kernel_rfl) (by kernel_rfl) (fun _ _ _ h => h) (by rfl) ?_ (by assumption) ?_; rotate_left; (intro _w; go_simp; try with_reducible rfl); simp only [Act.put, List.setIfInBounds_toArray, List.set_cons_zero, List.set_cons_succ])
          (refine wpD_plain 2 (v := ?_) rfl (by kernel_rfl) (by kernel_rfl) (by kernel_rfl) (fun _ _ _ h => h) (by rfl) ?_ (by assumption) ?_; rotate_left; (intro _w; go_simp; try with_reducible rfl); simp only [Act.put, List.setIfInBounds_toArray, List.set_cons_zero, List.set_cons_succ])
          (refine wpD_take 3 _ rfl (by kernel_rfl) (by kernel_rfl) (by kernel_rfl) (fun _ _ _ h => h) List.mem_cons_self (by rfl) (v := ?_) ?_ (by assumption) ?_; rotate_left; (intro _w _hw; go_simp; try with_reducible rfl); simp only [Act.put, List.setIfInBounds_toArray, List.set_cons_zero, List.set_cons_succ])
          (refine wpD_plain 4 (v := ?_) rfl (by kernel_rfl) (by kernel_rfl) (by kernel_rfl) (fun _ _ _ h => h) (by rfl) ?_ (by assumption) ?_; rotate_left; (intro _w; go_simp; try with_reducible rfl); simp only [Act.put, List.setIfInBounds_toArray, List.set_cons_zero, List.set_cons_succ])
          (refine wpD_take 5 _ rfl (by kernel_rfl) (by kernel_rfl) (by kernel_rfl) (fun _ _ _ h => h) (List.mem_cons_of_mem _ List.mem_cons_self) (by rfl) (v := ?_) ?_ (by assumption) ?_; rotate_left; (intro _w _hw; go_simp; try with_reducible rfl); simp only [Act.put, List.setIfInBounds_toArray, List.set_cons_zero, List.set_cons_succ])
          (refine wpD_plain 6 (v := ?_) rfl (by kernel_rfl) (by kernel_rfl) (by kernel_rfl) (fun _ _ _ h => h) (by rfl) ?_ (by assumption) ?_; rotate_left; (intro _w; go_simp; try with_reducible rfl); simp only [Act.put, List.setIfInBounds_toArray, List.set_cons_zero, List.set_cons_succ])
          (refine wpD_take 7 _ rfl (by kernel_rfl) (by kernel_rfl) (by kernel_rfl) (fun _ _ _ h => h) (List.mem_cons_of_mem _ (List.mem_cons_of_mem _ List.mem_cons_self)) (by rfl) (exec_load _ _ rfl wr.heap.size 1 rfl _ _ rfl rfl (by simp [HOK.out.2, info74])) (by assumption) ?_; simp only [Act.put, List.setIfInBounds_toArray, List.set_cons_zero, List.set_cons_succ])
          (refine wpD_plain 8 (v := ?_) rfl (by kernel_rfl) (by kernel_rfl) (by kernel_rfl) (fun _ _ _ h => h) (by rfl) ?_ (by assumption) ?_; rotate_left; (intro _w; go_simp; try with_reducible rfl); simp only [Act.put, List.setIfInBounds_toArray, List.set_cons_zero, List.set_cons_succ])
          refine wpD_only 9 [] rfl (by kernel_rfl) (by kernel_rfl) (by rfl) (fun K9 hK9 => ?_)
          refine wp_storeB _ _ _ rfl bl1 (p.1 * 64) (u8s p.2) rfl rfl _ _ HHX.out.2.2.1 ?_ ?_ (u8s_one _) ?_
          · exact HHX.out.sets HOK.out.2 (by rw [HL.out]; omega)
          · simp [HOK.out.2, info74]
          · intro w5 HB5 HF5 HS5
            refine hK9 _ _ (Facts.nil_hold _) ?_
            refine wpD_done (by kernel_rfl) ?_ _
            clear hK9 K9
            go_wp2
            have hF3 : Fr D wr w3 := (HF2.out.no.trans HF3.out (fun j hj => .inr (by rw [hj]; exact Nat.le_refl _)))
            refine ⟨⟨k + 1, by omega, by go_num, hid ?_, hid ?_⟩, by simp [intOf]; omega⟩
            · rw [some_snoc _ _ HP.out]
              exact HHX.out.put (w := w3.drew) p.1 p.2 HOK.out.2 (by rw [HL.out]; omega) HB5.out HF5.out
            · exact (HFr.out.trans' hF3).drew.trans HF5.out (fun j hj => .inl (by rw [hj]; exact HHX.out.2.2.2.2.2.2.2.1))
        · have c1 := HR.out.2.1.cell 1
          have f1 := HR.out.2.1.frozen 1
          simp only [List.getElem?_cons_succ, List.getElem?_cons_zero] at c1
          have hge : ¬ ((k : Int) < s.P.length) := by omega
          have hk' : k = s.P.length := by omega
          have HK := hid hk'; clear hk'
          go_wp2
          go_ret
          have := HR.out.rep
          rw [HK.out, List.take_length] at this
          exact ⟨rfl, this.setNil, HFr.out.setCell _ _ (.inl this.dst.1)⟩

/-- The writes that a crash keeps. -/
def picked : List (Nat × List Int) → List Bool → List (Nat × List Int)
  | p :: r, b :: bs => if b then p :: picked r bs else picked r bs
  | _, _ => []
theorem picked_snoc : ∀ (P : List (Nat × List Int)) (keep : List Bool) (k : Nat) (p : Nat × List Int), P[k]? = some p → picked (P.take (k + 1)) keep = picked (P.take k) keep ++ (if keep[k]? = some true then [p] else [])
  | [], _, k, p, h => by simp at h
  | q :: r, [], k, p, h => by cases k <;> simp [picked]
  | q :: r, b :: bs, 0, p, h => by
    obtain rfl : q = p := by simpa using h
    cases b <;> simp [picked]
  | q :: r, b :: bs, k + 1, p, h => by
    have ih := picked_snoc r bs k p (by simpa using h)
    simp only [List.take_succ_cons, picked, List.getElem?_cons_succ]
    cases b
    · simpa using ih
    · simp [ih]
theorem picked_sub : ∀ (P : List (Nat × List Int)) (keep : List Bool), (picked P keep).length ≤ P.length
  | [], _ => by simp [picked]
  | q :: r, [] => by simp [picked]
  | q :: r, b :: bs => by
    have := picked_sub r bs
    cases b <;> simp [picked] <;> omega
theorem some_app (s : St) (P : List (Nat × List Int)) (p : Nat × List Int) : s.some (P ++ [p]) = { s.some P with L := (s.some P).L.set p.1 p.2 } := by
  simp [St.some, applied]
/-- What Crash answers, and the disk behind it. -/
def St.crash (s : St) (keep : List Bool) : Int × St := ((picked s.P keep).length, { s.some (picked s.P keep) with P := [], up := true, left := -1 })

/-- The value is a slice of these bools; they lie in a block of E. -/
def BoolsIn (w : World) (E : Nat → Prop) (v : Value) (bs : List Bool) : Prop :=
  ∃ a len cap, v = .slice a len cap ∧ bs.length = len ∧ (len = 0 ∨ ∃ g o, a = some ⟨g, o, none⟩ ∧ E g ∧ g < w.heap.size ∧ w.rangeAt g o (bs.map Value.bool))
theorem BoolsIn.fr {w w' : World} {E D : Nat → Prop} {v : Value} {bs : List Bool} (h : BoolsIn w E v bs) (hf : Fr D w w') (hd : ∀ k, E k → k < w.heap.size → ¬ D k) : BoolsIn w' E v bs := by
  obtain ⟨a, len, cap, h1, h2, h3⟩ := h
  exact ⟨a, len, cap, h1, h2, h3.imp id fun ⟨g, o, r1, r2, r3, r4⟩ => ⟨g, o, r1, r2, Nat.lt_of_lt_of_le r3 hf.size, hf.range r4 (hd g r2 r3)⟩⟩

theorem crash_any (v : Value) (keep : List Bool) (E : Nat → Prop) (hv : BoolsIn w E v keep) (hE : ∀ k, E k → ¬ D k) (hlen : keep.length ≤ 9223372036854775807) (h : At w bd D s) :
    Calls Tryz.prog 20 #[.pointer (some ⟨bd, 0, none⟩), v] w fun e w' => e = .returned (.int .i64 (s.crash keep).1) ∧ At w' bd D (s.crash keep).2 ∧ Fr D w w' := by
  obtain ⟨bl1, pv1, hX⟩ := h.x
  obtain ⟨a1, cap1, rfl, hn1, ha1⟩ := own_form hX.2.2.2.1
  have c1 : w.cell? ⟨bd, 1, none⟩ = some (.slice a1 s.P.length cap1) := hX.2.1.cell 1
  obtain ⟨a, len, cap, rfl, hl, hsrc⟩ := hv
  have hlen' : (len : Int) ≤ 9223372036854775807 := by omega
  have HX := hid hX; have HA1 := hid ha1; have HS := hid hsrc; have HE := hid hE; have HL := hid hl
  clear hX ha1 h hsrc hE hlen hl
  go_enter Tryz.func20, Tryz.ntmps20
  go_wp2_with fail
  have HC1 := hid c1; clear c1
  go_loopw [5, 6, 7, 13] (fun kept _ _ i wr => ∃ k : Nat, k ≤ s.P.length ∧ i = .int .i64 k ∧ kept = .int .i64 (picked (s.P.take k) keep).length ∧ Hid (RepX 87 102 104 id wr bd D (s.some (picked (s.P.take k) keep)) bl1 (.slice a1 s.P.length cap1)) ∧ Hid (Fr D w wr)) (fun _ _ _ i _ => s.P.length - (intOf i).toNat)
  case atStart => exact ⟨0, Nat.zero_le _, rfl, rfl, by simpa [St.some, picked, applied] using HX, hid (Fr.refl _ _)⟩
  case round =>
    obtain ⟨k, hk, rfl, rfl, HR, HFr⟩ := hrel
    by_cases hlt : k < s.P.length
    · obtain ⟨p, hp⟩ : ∃ p, s.P[k]? = some p := ⟨s.P[k], List.getElem?_eq_getElem hlt⟩
      obtain ⟨g, rfl⟩ := HA1.out (by omega)
      have okp := HR.out.1.pnd p (by simpa [St.some] using List.mem_of_getElem? hp)
      have hr := HR.out.pend (k := k) (p := p) (by simpa [St.some] using hp)
      have hps := picked_snoc s.P keep k p hp
      have HRG := hid hr; have HP := hid hp; have HOK := hid okp
      have hpk : (picked (s.P.take k) keep).length ≤ k := Nat.le_trans (picked_sub _ _) (by simp; omega)
      have hk0 : (0 : Int) ≤ k := by omega
      have hk1 : (k : Int) < s.P.length := by omega
      have hpk' : ((picked (s.P.take k) keep).length : Int) ≤ k := by omega
      have hpk0 : (0 : Int) ≤ ((picked (s.P.take k) keep).length : Int) := by omega
      clear hr hp okp hpk
      by_cases hkk : keep[k]? = some true
      · rw [if_pos hkk] at hps
        have hkl : k < len := by have := (List.getElem?_eq_some_iff.1 hkk).1; have := HL.out; omega
        obtain ⟨gk, ok, rfl, hgE, hgl, hgr⟩ := HS.out.resolve_left (by omega)
        have ck : wr.cell? ⟨gk, ok + k, none⟩ = some (.bool true) := HFr.out.cell (hgr k _ (by simp [hkk])) (HE.out _ hgE)
        have hkl' : (k : Int) < len := by omega
        have hgb : gk < wr.heap.size := Nat.lt_of_lt_of_le hgl HFr.out.size
        have HPS := hid hps; have HGE := hid hgE
        clear hps hkk hgr hgE hgl
        go_wp2_with (first
          | ((with_reducible show wpList _ _ _ (⟨_, .load 104 _, _, _, _, _⟩ :: _) _ _); refine wpL_load rfl _ _ rfl g (k * 65) rfl (.int .i64 p.1 :: u8s p.2) _ HRG.out rfl rfl (by simp [HOK.out.2, info77]) ?_)
          | ((with_reducible show wpList _ _ _ (⟨_, .alloc 104, _, _, _, _⟩ :: _) _ _); refine wpL_alloc rfl _ rfl _ zero77 (.int .i64 0 :: zero64) rfl ?_; intro w2 HB2 HF2 HS2)
          | ((with_reducible show wpList _ _ _ (⟨_, .store 104 _ _, _, _, _, _⟩ :: _) _ _); refine wpL_store rfl _ _ _ rfl wr.heap.size 0 (.int .i64 p.1 :: u8s p.2) rfl rfl _ _ HB2.out (by simp [zero64, HOK.out.2]) (by simp [HOK.out.2, info77]) (by simp [u8s, Value.oneCell']) ?_; intro w3 HB3 HF3 HS3; have ck3 := HF3.out.cell (HF2.out.cell ck id) (by simp; omega)))
        have h3 : spl (.int .i64 0 :: zero64) 0 (.int .i64 p.1 :: u8s p.2) = .int .i64 p.1 :: u8s p.2 := by
          have : (u8s p.2).length = 64 := by simp [HOK.out.2]
          simp [spl, zero64, this]
        have HB := HB3.out
        rw [h3] at HB
        have hlt2 : ∀ j, D j → j ≠ wr.heap.size := fun j hj e => by have := HR.out.rep.lt j hj; omega
        have HX3 := (HR.out.fr HF2.out (fun _ _ e => e)).fr HF3.out (fun j hj e => hlt2 j hj e)
        have hL : (s.some (picked (s.P.take k) keep)).L.length = s.L.length := by simp [St.some, applied_length]
        have c0 : w3.cell? ⟨bd, 0, none⟩ = some (.slice (some ⟨bl1, 0, none⟩) s.L.length s.L.length) := by rw [← hL]; exact HX3.2.1.cell 0
        have cn : w3.cell? ⟨wr.heap.size, 0, none⟩ = some (.int .i64 p.1) := HB.cell 0
        have rn : w3.rangeAt wr.heap.size 1 (u8s p.2) := HB.range 1 _ (by simp [List.take_of_length_le])
        have hold : Facts.hold [(3, fun w' => w'.cell? ⟨bd, 0, none⟩ = some (.slice (some ⟨bl1, 0, none⟩) s.L.length s.L.length)), (5, fun w' => w'.cell? ⟨wr.heap.size, 0, none⟩ = some (.int .i64 p.1)), (7, fun w' => w'.rangeAt wr.heap.size 1 (u8s p.2))] w3.drew :=
          Facts.cons_hold c0 (Facts.cons_hold cn (Facts.cons_hold rn (Facts.nil_hold _)))
        have hp1 : (p.1 : Int) < s.L.length := by have := HOK.out.1; rw [hL] at this; omega
        have hp0 : (0 : Int) ≤ p.1 := by omega
        have HLL := hid hL; have HHX := hid HX3; have HHB := hid HB
        clear hL HX3 HB h3 c0 cn rn hlt2 ck ck3
        refine wpD_region hold (by kernel_rfl) 10 rfl ?_
        (refine wpD_plain 0 (v := ?_) rfl (by kernel_rfl) (by kernel_rfl) (by kernel_rfl) (fun _ _ _ h => h) (by rfl) ?_ (by assumption) ?_; rotate_left; (intro _w; go_simp; try with_reducible rfl); simp only [Act.put, List.setIfInBounds_toArray, List.set_cons_zero, List.set_cons_succ])
        (refine wpD_plain 1 (v := ?_) rfl (by kernel_rfl) (by kernel_rfl) (by kernel_rfl) (fun _ _ _ h => h) (by rfl) ?_ (by assumption) ?_; rotate_left; (intro _w; go_simp; try with_reducible rfl); simp only [Act.put, List.setIfInBounds_toArray, List.set_cons_zero, List.set_cons_succ])
        (refine wpD_plain 2 (v := ?_) rfl (by kernel_rfl) (by kernel_rfl) (by kernel_rfl) (fun _ _ _ h => h) (by rfl) ?_ (by assumption) ?_; rotate_left; (intro _w; go_simp; try with_reducible rfl); simp only [Act.put, List.setIfInBounds_toArray, List.set_cons_zero, List.set_cons_succ])
        (refine wpD_take 3 _ rfl (by kernel_rfl) (by kernel_rfl) (by kernel_rfl) (fun _ _ _ h => h) List.mem_cons_self (by rfl) (v := ?_) ?_ (by assumption) ?_; rotate_left; (intro _w _hw; go_simp; try with_reducible rfl); simp only [Act.put, List.setIfInBounds_toArray, List.set_cons_zero, List.set_cons_succ])
        (refine wpD_plain 4 (v := ?_) rfl (by kernel_rfl) (by kernel_rfl) (by kernel_rfl) (fun _ _ _ h => h) (by rfl) ?_ (by assumption) ?_; rotate_left; (intro _w; go_simp; try with_reducible rfl); simp only [Act.put, List.setIfInBounds_toArray, List.set_cons_zero, List.set_cons_succ])
        (refine wpD_take 5 _ rfl (by kernel_rfl) (by kernel_rfl) (by kernel_rfl) (fun _ _ _ h => h) (List.mem_cons_of_mem _ List.mem_cons_self) (by rfl) (v := ?_) ?_ (by assumption) ?_; rotate_left; (intro _w _hw; go_simp; try with_reducible rfl); simp only [Act.put, List.setIfInBounds_toArray, List.set_cons_zero, List.set_cons_succ])
        (refine wpD_plain 6 (v := ?_) rfl (by kernel_rfl) (by kernel_rfl) (by kernel_rfl) (fun _ _ _ h => h) (by rfl) ?_ (by assumption) ?_; rotate_left; (intro _w; go_simp; try with_reducible rfl); simp only [Act.put, List.setIfInBounds_toArray, List.set_cons_zero, List.set_cons_succ])
        (refine wpD_take 7 _ rfl (by kernel_rfl) (by kernel_rfl) (by kernel_rfl) (fun _ _ _ h => h) (List.mem_cons_of_mem _ (List.mem_cons_of_mem _ List.mem_cons_self)) (by rfl) (exec_load _ _ rfl wr.heap.size 1 rfl _ _ rfl rfl (by simp [HOK.out.2, info74])) (by assumption) ?_; simp only [Act.put, List.setIfInBounds_toArray, List.set_cons_zero, List.set_cons_succ])
        (refine wpD_plain 8 (v := ?_) rfl (by kernel_rfl) (by kernel_rfl) (by kernel_rfl) (fun _ _ _ h => h) (by rfl) ?_ (by assumption) ?_; rotate_left; (intro _w; go_simp; try with_reducible rfl); simp only [Act.put, List.setIfInBounds_toArray, List.set_cons_zero, List.set_cons_succ])
        refine wpD_only 9 [] rfl (by kernel_rfl) (by kernel_rfl) (by rfl) (fun K9 hK9 => ?_)
        refine wp_storeB _ _ _ rfl bl1 (p.1 * 64) (u8s p.2) rfl rfl _ _ HHX.out.2.2.1 ?_ ?_ (u8s_one _) ?_
        · exact HHX.out.sets HOK.out.2 (by rw [HLL.out]; omega)
        · simp [HOK.out.2, info74]
        · intro w5 HB5 HF5 HS5
          refine hK9 _ _ (Facts.nil_hold _) ?_
          refine wpD_done (by kernel_rfl) ?_ _
          clear hK9 K9 hold
          go_wp2
          have hF3 : Fr D wr w3 := (HF2.out.no.trans HF3.out (fun j hj => .inr (by rw [hj]; exact Nat.le_refl _)))
          have e := HPS.out
          refine ⟨⟨k + 1, by omega, by go_num, ?_, hid ?_, hid ?_⟩, by simp [intOf]; omega⟩
          · rw [e]; simp
          · rw [e, some_app]
            exact HHX.out.put (w := w3.drew) p.1 p.2 HOK.out.2 (by rw [HLL.out]; omega) HB5.out HF5.out
          · exact (HFr.out.trans' hF3).drew.trans HF5.out (fun j hj => .inl (by rw [hj]; exact HHX.out.2.2.2.2.2.2.2.1))
      · rw [if_neg hkk] at hps
        by_cases hkl : k < len
        · obtain ⟨gk, ok, rfl, hgE, hgl, hgr⟩ := HS.out.resolve_left (by omega)
          have hkf : keep[k]? = some false := by
            have : k < keep.length := by have := HL.out; omega
            rw [List.getElem?_eq_getElem this] at hkk ⊢
            cases hb : keep[k] with
            | true => exact absurd (by rw [hb]) hkk
            | false => rfl
          have ck : wr.cell? ⟨gk, ok + k, none⟩ = some (.bool false) := HFr.out.cell (hgr k _ (by simp [hkf])) (HE.out _ hgE)
          have hkl' : (k : Int) < len := by omega
          have hgb : gk < wr.heap.size := Nat.lt_of_lt_of_le hgl HFr.out.size
          have HPS := hid hps; have HGE := hid hgE
          clear hps hkk hgr hgE hgl hkf
          go_wp2_with (first
            | ((with_reducible show wpList _ _ _ (⟨_, .load 104 _, _, _, _, _⟩ :: _) _ _); refine wpL_load rfl _ _ rfl g (k * 65) rfl (.int .i64 p.1 :: u8s p.2) _ HRG.out rfl rfl (by simp [HOK.out.2, info77]) ?_)
            | ((with_reducible show wpList _ _ _ (⟨_, .alloc 104, _, _, _, _⟩ :: _) _ _); refine wpL_alloc rfl _ rfl _ zero77 (.int .i64 0 :: zero64) rfl ?_; intro w2 HB2 HF2 HS2)
            | ((with_reducible show wpList _ _ _ (⟨_, .store 104 _ _, _, _, _, _⟩ :: _) _ _); refine wpL_store rfl _ _ _ rfl wr.heap.size 0 (.int .i64 p.1 :: u8s p.2) rfl rfl _ _ HB2.out (by simp [zero64, HOK.out.2]) (by simp [HOK.out.2, info77]) (by simp [u8s, Value.oneCell']) ?_; intro w3 HB3 HF3 HS3; have ck3 := HF3.out.cell (HF2.out.cell ck id) (by simp; omega)))
          have hlt2 : ∀ j, D j → j ≠ wr.heap.size := fun j hj e => by have := HR.out.rep.lt j hj; omega
          have HX3 := (HR.out.fr HF2.out (fun _ _ e => e)).fr HF3.out (fun j hj e => hlt2 j hj e)
          have hF3 : Fr D wr w3 := (HF2.out.no.trans HF3.out (fun j hj => .inr (by rw [hj]; exact Nat.le_refl _)))
          have e := HPS.out
          rw [List.append_nil] at e
          exact ⟨⟨k + 1, by omega, by go_num, by rw [e], hid (by rw [e]; exact HX3), hid (HFr.out.trans' hF3)⟩, by simp [intOf]; omega⟩
        · have hkl' : ¬ ((k : Int) < len) := by omega
          have HPS := hid hps
          clear hps hkk
          go_wp2_with (first
            | ((with_reducible show wpList _ _ _ (⟨_, .load 104 _, _, _, _, _⟩ :: _) _ _); refine wpL_load rfl _ _ rfl g (k * 65) rfl (.int .i64 p.1 :: u8s p.2) _ HRG.out rfl rfl (by simp [HOK.out.2, info77]) ?_)
            | ((with_reducible show wpList _ _ _ (⟨_, .alloc 104, _, _, _, _⟩ :: _) _ _); refine wpL_alloc rfl _ rfl _ zero77 (.int .i64 0 :: zero64) rfl ?_; intro w2 HB2 HF2 HS2)
            | ((with_reducible show wpList _ _ _ (⟨_, .store 104 _ _, _, _, _, _⟩ :: _) _ _); refine wpL_store rfl _ _ _ rfl wr.heap.size 0 (.int .i64 p.1 :: u8s p.2) rfl rfl _ _ HB2.out (by simp [zero64, HOK.out.2]) (by simp [HOK.out.2, info77]) (by simp [u8s, Value.oneCell']) ?_; intro w3 HB3 HF3 HS3))
          have hlt2 : ∀ j, D j → j ≠ wr.heap.size := fun j hj e => by have := HR.out.rep.lt j hj; omega
          have HX3 := (HR.out.fr HF2.out (fun _ _ e => e)).fr HF3.out (fun j hj e => hlt2 j hj e)
          have hF3 : Fr D wr w3 := (HF2.out.no.trans HF3.out (fun j hj => .inr (by rw [hj]; exact Nat.le_refl _)))
          have e := HPS.out
          rw [List.append_nil] at e
          exact ⟨⟨k + 1, by omega, by go_num, by rw [e], hid (by rw [e]; exact HX3), hid (HFr.out.trans' hF3)⟩, by simp [intOf]; omega⟩
    · have c1 := HR.out.2.1.cell 1
      have f1 := HR.out.2.1.frozen 1
      have c2 := HR.out.2.1.cell 2
      have f2 := HR.out.2.1.frozen 2
      have c3 := HR.out.2.1.cell 3
      have f3 := HR.out.2.1.frozen 3
      simp only [List.getElem?_cons_succ, List.getElem?_cons_zero] at c1 c2 c3
      have hge : ¬ ((k : Int) < s.P.length) := by omega
      have hk' : k = s.P.length := by omega
      have HK := hid hk'; clear hk'
      go_wp2_with (go_at_call 31; refine (store_any _ _ _ _ _ (by rw [World.cell?_setCell_other _ _ _ _ (by simp), World.cell?_setCell_other _ _ _ _ (by simp)]; exact c3) (by simpa using f3)).mono ?_; rintro e w' ⟨rfl, rfl⟩)
      go_ret
      have := HR.out.rep
      rw [HK.out, List.take_length] at this
      have hD := this.dst.1
      refine ⟨?_, ((this.setNil.setUp true).setLeft (-1) (by decide) (by decide)), ((HFr.out.setCell _ _ (.inl hD)).setCell _ _ (.inl hD)).setCell _ _ (.inl hD)⟩
      show Ending.returned (.int .i64 ((picked (List.take k s.P) keep).length : Int)) = _
      rw [HK.out, List.take_length]
      rfl
end
end Go.Proofs.YtflfmkokfbgclaaGreat.D

namespace Go.Proofs.YtflfmkokfbgclaaGreat.S
set_option maxRecDepth 100000

def P : Nat := 3988292384
/-- One bit through the register. -/
def step (x : Nat) : Nat := x / 2 ^^^ (if x % 2 = 1 then P else 0)
def steps : Nat → Nat → Nat
  | 0, x => x
  | n + 1, x => step (steps n x)
/-- One byte through the register. -/
def addB (r : Nat) (c : UInt8) : Nat := steps 8 (r ^^^ c.toNat)
def through (r : Nat) (l : List UInt8) : Nat := l.foldl addB r
def inv (x : Nat) : Nat := 4294967295 ^^^ x
/-- S1. -/
def add (s : Nat) (l : List UInt8) : Nat := inv (through (inv s) l)
/-- The bytes as one number, the first one lowest. -/
def num : List UInt8 → Nat
  | [] => 0
  | c :: r => c.toNat ^^^ (num r <<< 8)

theorem xor_lt {a b : Nat} (ha : a < 4294967296) (hb : b < 4294967296) : a ^^^ b < 4294967296 := Nat.xor_lt_two_pow (n := 32) ha hb
theorem step_lt {x : Nat} (h : x < 4294967296) : step x < 4294967296 := by
  unfold step
  refine xor_lt (by omega) ?_
  split <;> decide
theorem steps_lt {x : Nat} (h : x < 4294967296) : ∀ n, steps n x < 4294967296
  | 0 => h
  | n + 1 => step_lt (steps_lt h n)
theorem u8_lt (c : UInt8) : c.toNat < 4294967296 := by have := c.toNat_lt; omega
theorem addB_lt {r : Nat} (h : r < 4294967296) (c : UInt8) : addB r c < 4294967296 := steps_lt (xor_lt h (u8_lt c)) 8
theorem through_lt {r : Nat} (h : r < 4294967296) : ∀ l : List UInt8, through r l < 4294967296
  | [] => h
  | c :: l => by
    show through (addB r c) l < _
    exact through_lt (addB_lt h c) l
theorem inv_lt {x : Nat} (h : x < 4294967296) : inv x < 4294967296 := xor_lt (by decide) h
theorem add_lt {s : Nat} (h : s < 4294967296) (l : List UInt8) : add s l < 4294967296 := inv_lt (through_lt (inv_lt h) l)
theorem xor_back (a x : Nat) : a ^^^ (a ^^^ x) = x := by rw [← Nat.xor_assoc, Nat.xor_self, Nat.zero_xor]
theorem inv_eq (x : Nat) : inv x = 4294967295 ^^^ x := rfl
theorem inv_inv (x : Nat) : inv (inv x) = x := by
  have h := xor_back 4294967295 x
  rw [← inv_eq] at h
  rw [← inv_eq] at h
  exact h
theorem inv_inj {x y : Nat} : inv x = inv y ↔ x = y := ⟨fun h => by rw [← inv_inv x, h, inv_inv], fun h => by rw [h]⟩

/-! ### Going on -/
theorem through_append (r : Nat) (a b : List UInt8) : through r (a ++ b) = through (through r a) b := List.foldl_append
theorem add_append (s : Nat) (a b : List UInt8) : add s (a ++ b) = add (add s a) b := by
  unfold add
  rw [inv_inv, through_append]
/-! ### Sums go together -/
theorem xor_mod2 (a b : Nat) : (a ^^^ b) % 2 = (a % 2 + b % 2) % 2 := by
  have h := Nat.xor_mod_two_pow (a := a) (b := b) (n := 1)
  simp only [Nat.pow_one] at h
  rw [h]
  rcases Nat.mod_two_eq_zero_or_one a with ha | ha <;> rcases Nat.mod_two_eq_zero_or_one b with hb | hb <;> rw [ha, hb] <;> decide
theorem step_xor (a b : Nat) : step (a ^^^ b) = step a ^^^ step b := by
  unfold step
  have e : (a ^^^ b) / 2 = a / 2 ^^^ b / 2 := by
    have := Nat.xor_div_two_pow (a := a) (b := b) (n := 1)
    simpa using this
  have c : (if (a ^^^ b) % 2 = 1 then P else 0) = (if a % 2 = 1 then P else 0) ^^^ (if b % 2 = 1 then P else 0) := by
    rw [xor_mod2]
    rcases Nat.mod_two_eq_zero_or_one a with ha | ha <;> rcases Nat.mod_two_eq_zero_or_one b with hb | hb <;> simp [ha, hb]
  rw [e, c]
  ac_rfl
theorem steps_xor (a b : Nat) : ∀ n, steps n (a ^^^ b) = steps n a ^^^ steps n b
  | 0 => rfl
  | n + 1 => by simp only [steps]; rw [steps_xor a b n, step_xor]
theorem step_double (x : Nat) : step (2 * x) = x := by
  unfold step
  rw [if_neg (by omega), Nat.xor_zero]
  omega
theorem steps_step (n x : Nat) : steps n (step x) = step (steps n x) := by
  induction n with
  | zero => rfl
  | succ n ih => simp only [steps]; rw [ih]
theorem steps_add (n m x : Nat) : steps (n + m) x = steps n (steps m x) := by
  induction n with
  | zero => simp [steps]
  | succ n ih => rw [Nat.succ_add]; simp only [steps]; rw [ih]
theorem steps_shift (x : Nat) : ∀ n, steps n (x <<< n) = x
  | 0 => by simp [steps]
  | n + 1 => by
    have e : x <<< (n + 1) = 2 * (x <<< n) := by rw [Nat.shiftLeft_succ]
    simp only [steps]
    rw [← steps_step, e, step_double, steps_shift x n]
/-- All bits at once: those that come later lie higher. -/
theorem through_num : ∀ (l : List UInt8) (r : Nat), through r l = steps (8 * l.length) (r ^^^ num l)
  | [], r => by simp [through, num, steps]
  | c :: l, r => by
    show through (addB r c) l = _
    rw [through_num l (addB r c), List.length_cons, show 8 * (l.length + 1) = 8 * l.length + 8 by omega, steps_add]
    congr 1
    rw [num, ← Nat.xor_assoc, steps_xor, steps_shift]
    rfl
theorem steps_zero : ∀ n, steps n 0 = 0
  | 0 => rfl
  | n + 1 => by simp only [steps]; rw [steps_zero n]; rfl
theorem step_inj {x : Nat} (h : x < 4294967296) (h0 : step x = 0) : x = 0 := by
  unfold step at h0
  rcases Nat.mod_two_eq_zero_or_one x with hx | hx
  · rw [if_neg (by omega), Nat.xor_zero] at h0
    omega
  · rw [if_pos hx] at h0
    have : x / 2 = P := by
      have h1 := congrArg (· ^^^ P) h0
      simpa [Nat.xor_assoc] using h1
    unfold P at this
    omega
theorem steps_inj {x : Nat} (h : x < 4294967296) : ∀ n, steps n x = 0 → x = 0
  | 0, h0 => h0
  | n + 1, h0 => steps_inj h n (step_inj (steps_lt h n) h0)

/-! ### One byte turned -/
/-- SumTells: what is turned is the pattern's w, from bit 'k' on. -/
theorem tells (s : Nat) (x y : List UInt8) (k w : Nat) (hl : y.length = x.length) (hk : k ≤ 8 * x.length) (hw : w < 4294967296) (h : num y = num x ^^^ (w <<< k)) : add s x = add s y ↔ w = 0 := by
  unfold add
  rw [inv_inj, through_num, through_num y, hl, h, ← Nat.xor_assoc, steps_xor _ (w <<< k)]
  have e : steps (8 * x.length) (w <<< k) = steps (8 * x.length - k) w := by
    conv => lhs; rw [show 8 * x.length = (8 * x.length - k) + k by omega]
    rw [steps_add, steps_shift]
  rw [e]
  generalize steps (8 * x.length) _ = q
  constructor
  · intro h1
    refine steps_inj hw (8 * x.length - k) ?_
    have h2 := congrArg (q ^^^ ·) h1
    simp only [Nat.xor_self, ← Nat.xor_assoc, Nat.zero_xor] at h2
    exact h2.symm
  · rintro rfl
    rw [steps_zero, Nat.xor_zero]
end Go.Proofs.YtflfmkokfbgclaaGreat.S

namespace Go.Proofs.YtflfmkokfbgclaaGreat.L
set_option maxRecDepth 100000
open Go.RowKit K

structure U where
  L : List (List UInt8)
  P : List (Nat × List UInt8)
  up : Bool
  left : Int
def ints (l : List UInt8) : List Int := l.map fun c => (c.toNat : Int)
@[simp] theorem ints_length (l : List UInt8) : (ints l).length = l.length := by simp [ints]
theorem u8s_ints (l : List UInt8) : D.u8s (ints l) = K.u8s l := by simp [D.u8s, ints, K.u8s]
def both8 (p : Nat × List UInt8) : Nat × List Int := (p.1, ints p.2)
def U.st (u : U) : D.St := ⟨u.L.map ints, u.P.map both8, u.up, u.left⟩
def U.new (n : Nat) : U := ⟨List.replicate n (List.replicate 64 0), [], true, -1⟩
theorem st_new (n : Nat) : (U.new n).st = D.St.new n := by
  simp [U.new, U.st, D.St.new, D.zeros, ints]
def U.spend (u : U) : Bool × U :=
  if u.left = 0 then (false, { u with up := false }) else if u.left = -1 then (true, u) else (true, { u with left := u.left - 1 })
theorem st_spend (u : U) : u.st.spend = (u.spend.1, u.spend.2.st) := by
  unfold D.St.spend U.spend
  show (if u.left = 0 then _ else _) = _
  split
  · rfl
  · show (if u.left = -1 then _ else _) = _
    split <;> rfl
@[simp] theorem spend_L (u : U) : u.spend.2.L = u.L := by unfold U.spend; (repeat' split) <;> rfl
@[simp] theorem spend_P (u : U) : u.spend.2.P = u.P := by unfold U.spend; (repeat' split) <;> rfl
def pad8 (b : List UInt8) : List UInt8 := b ++ List.replicate (64 - b.length) 0
theorem ints_pad (b : List UInt8) : D.pad (ints b) = ints (pad8 b) := by simp [D.pad, pad8, ints]
def U.write (u : U) (n : Int) (b : List UInt8) : Int × U :=
  if u.up = false then (10, u) else if ¬ (0 ≤ n ∧ n < u.L.length) then (11, u) else if 64 < b.length then (2, u)
  else if u.spend.1 = false then (10, u.spend.2) else (0, { u.spend.2 with P := u.P ++ [(n.toNat, pad8 b)] })
theorem st_write (u : U) (n : Int) (b : List UInt8) : u.st.write n (ints b) = ((u.write n b).1, (u.write n b).2.st) := by
  unfold D.St.write U.write
  rw [st_spend]
  show (if u.up = false then _ else if ¬ (0 ≤ n ∧ n < ((u.L.map ints).length : Int)) then _ else if 64 < (ints b).length then _ else _) = _
  rw [List.length_map, ints_length]
  by_cases h1 : u.up = false
  · rw [if_pos h1, if_pos h1]
  rw [if_neg h1, if_neg h1]
  by_cases h2 : ¬ (0 ≤ n ∧ n < (u.L.length : Int))
  · rw [if_pos h2, if_pos h2]
  rw [if_neg h2, if_neg h2]
  by_cases h3 : 64 < b.length
  · rw [if_pos h3, if_pos h3]
  rw [if_neg h3, if_neg h3]
  by_cases h4 : u.spend.1 = false
  · rw [if_pos h4, if_pos h4]
  rw [if_neg h4, if_neg h4]
  simp [U.st, both8, ints_pad]
def over (P : List (Nat × List UInt8)) (n : Nat) (l : List UInt8) : List UInt8 := P.foldl (fun b p => if p.1 = n then p.2 else b) l
theorem now_ints (P : List (Nat × List UInt8)) (n : Nat) (l : List UInt8) : D.now (P.map both8) n (ints l) = ints (over P n l) := by
  induction P generalizing l with
  | nil => rfl
  | cons p r ih =>
    simp only [D.now, over, List.map_cons, List.foldl_cons, both8] at ih ⊢
    split <;> exact ih _
def U.sec (u : U) (n : Nat) : List UInt8 := over u.P n (u.L.getD n [])
def U.read (u : U) (n : Int) : List UInt8 × Int := if u.up = false then ([], 10) else if 0 ≤ n ∧ n < u.L.length then (u.sec n.toNat, 0) else ([], 11)
theorem st_read (u : U) (n : Int) : u.st.read n = (ints (u.read n).1, (u.read n).2) := by
  unfold D.St.read U.read
  rw [show u.st.up = u.up from rfl, show u.st.L = u.L.map ints from rfl, show u.st.P = u.P.map both8 from rfl]
  split
  · rfl
  · by_cases h0 : 0 ≤ n
    · rw [if_pos h0]
      by_cases h1 : n < u.L.length
      · have h2 : n.toNat < u.L.length := by omega
        rw [if_pos ⟨h0, h1⟩, List.getElem?_map, List.getElem?_eq_getElem h2]
        simp [U.sec, now_ints, List.getD_eq_getElem?_getD, List.getElem?_eq_getElem h2]
      · rw [if_neg (by omega), List.getElem?_eq_none (by simp; omega)]
        rfl
    · rw [if_neg h0, if_neg (by omega)]
      rfl
theorem read_in {u : U} {n : Nat} (h : n < u.L.length) : u.read n = if u.up = false then ([], 10) else (u.sec n, 0) := by
  unfold U.read
  rw [if_pos (c := 0 ≤ (n : Int) ∧ _) ⟨by omega, by omega⟩]
  rfl
def applied (L : List (List UInt8)) (P : List (Nat × List UInt8)) : List (List UInt8) := P.foldl (fun L p => L.set p.1 p.2) L
theorem applied_ints (L : List (List UInt8)) (P : List (Nat × List UInt8)) : D.applied (L.map ints) (P.map both8) = (applied L P).map ints := by
  induction P generalizing L with
  | nil => rfl
  | cons p r ih =>
    simp only [D.applied, applied, List.map_cons, List.foldl_cons, both8] at ih ⊢
    rw [← ih, List.map_set]
@[simp] theorem applied_length (L : List (List UInt8)) (P : List (Nat × List UInt8)) : (applied L P).length = L.length := by
  induction P generalizing L with
  | nil => rfl
  | cons p r ih => simp only [applied, List.foldl_cons] at ih ⊢; rw [ih]; simp
def U.flush (u : U) : Int × U := if u.up = false then (10, u) else if u.spend.1 = false then (10, u.spend.2) else (0, { u.spend.2 with L := applied u.L u.P, P := [] })
theorem st_flush (u : U) : u.st.flush = (u.flush.1, u.flush.2.st) := by
  unfold D.St.flush U.flush
  rw [st_spend]
  show (if u.up = false then _ else _) = _
  by_cases h1 : u.up = false
  · rw [if_pos h1, if_pos h1]
  rw [if_neg h1, if_neg h1]
  by_cases h4 : u.spend.1 = false
  · rw [if_pos h4, if_pos h4]
  rw [if_neg h4, if_neg h4]
  simp only [D.St.some, U.st, spend_L, applied_ints, List.map_nil]
def picked : List (Nat × List UInt8) → List Bool → List (Nat × List UInt8)
  | p :: r, b :: bs => if b then p :: picked r bs else picked r bs
  | _, _ => []
theorem picked_ints : ∀ (P : List (Nat × List UInt8)) (k : List Bool), D.picked (P.map both8) k = (picked P k).map both8
  | [], _ => by simp [picked, D.picked]
  | p :: r, [] => by simp [picked, D.picked]
  | p :: r, b :: bs => by
    simp only [List.map_cons, D.picked, picked, picked_ints r bs]
    split <;> rfl
def U.crash (u : U) (k : List Bool) : Int × U := ((picked u.P k).length, ⟨applied u.L (picked u.P k), [], true, -1⟩)
theorem st_crash (u : U) (k : List Bool) : u.st.crash k = ((u.crash k).1, (u.crash k).2.st) := by
  unfold D.St.crash U.crash
  rw [show u.st.P = u.P.map both8 from rfl, picked_ints]
  simp only [D.St.some, U.st, applied_ints, List.length_map, List.map_nil]
/-- Bytes in memory, in stage 1's words. -/
theorem bytes_ints {w : World} {E : Nat → Prop} {v : Value} {l : List UInt8} (h : K.BytesIn w E v l) : D.BytesIn w E v (ints l) := by
  obtain ⟨a, len, cap, h1, h2, h0, h3⟩ := h
  exact ⟨a, len, cap, h1, by simpa using h2, h0, by rw [u8s_ints]; exact h3⟩
theorem ints_bytes {w : World} {E : Nat → Prop} {v : Value} {l : List UInt8} (h : D.BytesIn w E v (ints l)) : K.BytesIn w E v l := by
  obtain ⟨a, len, cap, h1, h2, h0, h3⟩ := h
  exact ⟨a, len, cap, h1, by simpa using h2, h0, by rw [u8s_ints] at h3; exact h3⟩
end Go.Proofs.YtflfmkokfbgclaaGreat.L

namespace Go.Proofs.YtflfmkokfbgclaaGreat.L
set_option maxRecDepth 100000
open Go.RowKit K

/-- A number of some bytes, the low one first. -/
def nm : List UInt8 → Nat
  | [] => 0
  | c :: r => c.toNat + 256 * nm r
/-- k bytes of a number. -/
def le : Nat → Nat → List UInt8
  | 0, _ => []
  | k + 1, n => UInt8.ofNat n :: le k (n / 256)
@[simp] theorem le_length : ∀ k n, (le k n).length = k
  | 0, _ => rfl
  | k + 1, n => by simp [le, le_length k]
theorem ofNat_toNat (n : Nat) : (UInt8.ofNat n).toNat = n % 256 := by simp
theorem nm_lt : ∀ l : List UInt8, nm l < 256 ^ l.length
  | [] => by simp [nm]
  | c :: r => by
    have := nm_lt r
    have hc := c.toNat_lt
    rw [nm, List.length_cons, Nat.pow_succ]
    omega
theorem le_snoc : ∀ k n, le (k + 1) n = le k n ++ [UInt8.ofNat (n / 256 ^ k)]
  | 0, n => by simp [le]
  | k + 1, n => by
    rw [le, le_snoc k, le, List.cons_append, Nat.div_div_eq_div_mul, Nat.pow_succ, Nat.mul_comm 256]
structure Sec where
  right : Bool
  epoch : Nat
  life : Nat
  place : Nat
  kind : Nat
  size : Nat
  bytes : List UInt8
def look (b : List UInt8) : Sec :=
  { right := decide (nm (b.take 4) = S.add 0 (b.drop 4)), epoch := nm ((b.drop 4).take 4), life := nm ((b.drop 8).take 4), place := nm ((b.drop 12).take 2),
    kind := nm ((b.drop 14).take 1), size := nm ((b.drop 15).take 1), bytes := b.drop 16 }
def rest (e l p f s : Nat) (b : List UInt8) : List UInt8 := le 4 e ++ (le 4 l ++ (le 2 p ++ (le 1 f ++ (le 1 s ++ b))))
def made (e l p f s : Nat) (b : List UInt8) : List UInt8 := le 4 (S.add 0 (rest e l p f s b)) ++ rest e l p f s b
theorem rest_length (e l p f s : Nat) (b : List UInt8) : (rest e l p f s b).length = 12 + b.length := by simp [rest]; omega
theorem made_length {e l p f s : Nat} {b : List UInt8} (h : b.length = 48) : (made e l p f s b).length = 64 := by simp [made, rest_length, h]
def zeros64 : List UInt8 := List.replicate 64 0
/-- What a sector has to say at its place: a piece of a record, if it is one of the log's epoch. -/
structure Pc where
  life : Nat
  fst : Bool
  lst : Bool
  bytes : List UInt8
def piece (e p : Nat) (s : Sec) : Option Pc :=
  if s.right = true ∧ s.epoch = e ∧ s.place = p ∧ s.size ≤ 48 ∧ s.kind ≤ 3 ∧ (s.kind / 2 = 1 ∨ s.size = 48) then some ⟨s.life, decide (s.kind % 2 = 1), decide (s.kind / 2 = 1), s.bytes.take s.size⟩ else none
/-- How far the reading has come. -/
structure Sc where
  recs : List (List UInt8)
  part : List UInt8
  last : Nat
  ins : Bool
  next : Nat
def Sc.fits (h : Nat) (c : Sc) (x : Pc) : Bool := decide (x.life ≤ h) && (x.fst == !c.ins) && (if c.ins then x.life == c.last else decide (c.last ≤ x.life))
def Sc.step (c : Sc) (p : Nat) (x : Pc) : Sc :=
  if x.lst then ⟨c.recs ++ [c.part ++ x.bytes], [], x.life, false, p + 1⟩ else { c with part := c.part ++ x.bytes, last := x.life, ins := true }
/-- n sectors from place p on. -/
def scan (h : Nat) (V : Nat → Option Pc) : Nat → Nat → Sc → List (List UInt8) × Nat
  | 0, _, c => (c.recs, c.next)
  | n + 1, p, c => match V p with
    | some x => if c.fits h x then scan h V n (p + 1) (c.step p x) else (c.recs, c.next)
    | none => (c.recs, c.next)
def sc0 : Sc := ⟨[], [], 0, false, 1⟩
/-- The log in one life of its region. -/
structure Lg where
  first : Nat
  count : Nat
  epoch : Nat
  life : Nat
  next : Nat
def U.view (u : U) (first e : Nat) (p : Nat) : Option Pc := piece e p (look (u.sec (first + p)))
def headLife (s : Sec) : Nat := if s.right = true ∧ s.kind = 4 ∧ s.place = 0 then s.life else 0
def pad48 (b : List UInt8) : List UInt8 := b ++ List.replicate (48 - b.length) 0
theorem pad48_length {b : List UInt8} (h : b.length ≤ 48) : (pad48 b).length = 48 := by simp [pad48]; omega
def zeros48 : List UInt8 := List.replicate 48 0
/-- The first steps of Open: the error, the disk behind them, the life of the head that was read. -/
def U.begin (u : U) (first : Nat) : Int × U × Nat :=
  if u.up = false then (10, u, 0) else
  let h := headLife (look (u.sec first))
  if h = 4294967295 then (3, u, h) else
  let a := u.write first (made 0 (h + 1) 0 4 0 zeros48)
  if a.1 ≠ 0 then (a.1, a.2, h) else
  let f := a.2.flush
  (f.1, f.2, h)
def U.load (u : U) (first count e h : Nat) : List (List UInt8) × Nat := scan h (u.view first e) (count - 1) 1 sc0
/-- One sector of a record of n sectors. -/
def recSec (g : Lg) (r : List UInt8) (n i : Nat) : List UInt8 :=
  let b := (r.drop (48 * i)).take 48
  made g.epoch g.life (g.next + i) ((if i = 0 then 1 else 0) + (if i + 1 = n then 2 else 0)) b.length (pad48 b)
/-- The sectors of a record from the i-th on, m of them. -/
def U.puts (u : U) (g : Lg) (r : List UInt8) (n : Nat) : Nat → Nat → Int × U
  | 0, _ => (0, u)
  | m + 1, i =>
    let a := u.write (g.first + (g.next + i) : Nat) (recSec g r n i)
    if a.1 ≠ 0 then a else a.2.puts g r n m (i + 1)
def secsN (r : List UInt8) : Nat := if r.length ≤ 48 then 1 else (r.length - 1) / 48 + 1
def U.append (u : U) (g : Lg) (r : List UInt8) : Int × U × Lg :=
  if 2000 < r.length then (2, u, g) else
  let n := secsN r
  if g.count < g.next + n then (3, u, g) else
  let a := u.puts g r n n 0
  if a.1 ≠ 0 then (a.1, a.2, g) else (0, a.2, { g with next := g.next + n })
/-- Open, of a region that lies on the disk. -/
def U.opens (u : U) (first count e : Nat) : Int × U × Option (Lg × List (List UInt8)) :=
  let b := u.begin first
  if b.1 ≠ 0 then (b.1, b.2.1, none) else
  let r := b.2.1.load first count e b.2.2
  (0, b.2.1, some (⟨first, count, e, b.2.2 + 1, r.2⟩, r.1))
end Go.Proofs.YtflfmkokfbgclaaGreat.L

namespace Go.Proofs.YtflfmkokfbgclaaGreat.S
set_option maxRecDepth 100000
open Go.RowKit K

theorem xor32 {a b : Nat} (ha : a < 4294967296) (hb : b < 4294967296) : bits .xor .u32 (a : Int) (b : Int) = ((a ^^^ b : Nat) : Int) := u32_xor_nat a b ha hb
theorem mask_step {x : Nat} (h : x < 4294967296) : bits .xor .u32 ((x : Int) / 2) (bits .and .u32 3988292384 (-bits .and .u32 (x : Int) 1 % 4294967296)) = ((step x : Nat) : Int) := by
  have e1 : bits .and .u32 (x : Int) 1 = ((x % 2 : Nat) : Int) := by
    have := u32_and_nat x 1 h (by decide)
    rw [nat_mask1] at this
    exact this
  have e2 : ((x : Int) / 2) = ((x / 2 : Nat) : Int) := by omega
  rw [e1, e2]
  unfold step
  rcases Nat.mod_two_eq_zero_or_one x with hx | hx
  · rw [hx, if_neg (by decide)]
    have e3 : bits .and .u32 3988292384 (-((0 : Nat) : Int) % 4294967296) = ((0 : Nat) : Int) := by decide
    rw [e3, xor32 (by omega) (by decide)]
  · rw [hx, if_pos rfl]
    have e3 : bits .and .u32 3988292384 (-((1 : Nat) : Int) % 4294967296) = ((P : Nat) : Int) := by decide
    rw [e3, xor32 (by omega) (by decide)]

set_option maxRecDepth 100000 in
theorem divide_any (r : Nat) (w : World) (hr : r < 4294967296) : Calls Tryz.prog 84 #[.int .u32 (r : Int)] w fun e w' =>
    e = .returned (.int .u32 (steps 8 r : Nat)) ∧ w = w' := by
  have HR := hid hr; clear hr
  go_enter Tryz.func84, Tryz.ntmps84
  go_wp2
  go_loop [0, 3] (fun x k => ∃ n : Nat, n ≤ 8 ∧ k = .int .i64 n ∧ x = .int .u32 (steps n r : Nat)) (fun _ k => 8 - (intOf k).toNat)
  case atStart => exact ⟨0, by omega, rfl, rfl⟩
  case round =>
    obtain ⟨n, hn, rfl, rfl⟩ := hrel
    by_cases hlt : n < 8
    · go_wp2
      go_round
      case rel => exact ⟨n + 1, by omega, by go_num, by rw [mask_step (steps_lt HR.out n)]; rfl⟩
      case measure => simp [intOf]; omega
    · obtain rfl : n = 8 := by omega
      go_wp2
      go_ret
      exact ⟨rfl, rfl⟩
end Go.Proofs.YtflfmkokfbgclaaGreat.S

namespace Go.Proofs.YtflfmkokfbgclaaGreat.S
set_option maxRecDepth 100000
open Go.RowKit K

theorem through_take (r : Nat) (l : List UInt8) (k : Nat) (h : k < l.length) : through r (l.take (k + 1)) = steps 8 (through r (l.take k) ^^^ l[k].toNat) := by
  rw [List.take_succ_eq_append_getElem h, through_append]
  rfl
theorem inv_walk {x : Nat} (h : x < 4294967296) : bits .xor .u32 IntKind.u32.max (x : Int) = ((inv x : Nat) : Int) := by
  rw [show IntKind.u32.max = ((4294967295 : Nat) : Int) by decide, inv_eq]
  exact xor32 (a := 4294967295) (by decide) h

theorem u8_mod (c : UInt8) : (c.toNat : Int) % 4294967296 = (c.toNat : Int) := by have := c.toNat_lt; omega
/-- The bytes of a slice, as the walk asks for them. -/
def At (w : World) (a : Option Addr) (l : List UInt8) : Prop := ∀ k (h : k < l.length), ∃ g o, a = some ⟨g, o, none⟩ ∧ w.cell? ⟨g, o + k, none⟩ = some (.int .u8 (l[k].toNat : Int))
theorem at_of {w : World} {E : Nat → Prop} {v : Value} {l : List UInt8} (h : BytesIn w E v l) : ∃ a cap, v = .slice a l.length cap ∧ l.length ≤ cap ∧ At w a l := by
  obtain ⟨a, len, cap, rfl, rfl, h0, h3⟩ := h
  refine ⟨a, cap, rfl, h0, fun k hk => ?_⟩
  obtain ⟨g, o, h4, _, _, h5⟩ := h3.resolve_left (by omega)
  exact ⟨g, o, h4, h5 k _ (u8s_get l k hk)⟩
theorem At.no {w w' : World} {a : Option Addr} {l : List UInt8} (h : At w a l) (hf : Fr No w w') : At w' a l := fun k hk => by
  obtain ⟨g, o, h1, h2⟩ := h k hk
  exact ⟨g, o, h1, hf.cell h2 (fun e => e)⟩
theorem At.lt {w : World} {a : Option Addr} {l : List UInt8} (h : At w a l) (hl : 0 < l.length) {g o : Nat} (e : a = some ⟨g, o, none⟩) : g < w.heap.size := by
  obtain ⟨g', o', h1, h2⟩ := h 0 hl
  rw [h1] at e
  cases e
  exact World.block_lt_of_cell? w _ h2
theorem At.take {w : World} {a : Option Addr} {l : List UInt8} (h : At w a l) (n : Nat) : At w a (l.take n) := fun k hk => by
  obtain ⟨g, o, h1, h2⟩ := h k (by simp at hk; omega)
  exact ⟨g, o, h1, by rw [List.getElem_take]; exact h2⟩

set_option maxRecDepth 100000 in
theorem add_at (s : Nat) (l : List UInt8) (a : Option Addr) (cap : Nat) (w : World) (hs : s < 4294967296) (hr : At w a l) (hl : l.length ≤ 9223372036854775807) : Calls Tryz.prog 63 #[.int .u32 (s : Int), .slice a l.length cap] w fun e w' =>
    e = .returned (.int .u32 (add s l : Nat)) ∧ w = w' := by
  have HS := hid hs
  have HI := hid (inv_walk hs)
  have HR := hid hr
  clear hs hr
  go_enter Tryz.func63, Tryz.ntmps63
  go_wp2_with fail
  rw [HI.out]
  go_loop [5, 12] (fun x k => ∃ n : Nat, n ≤ l.length ∧ k = .int .i64 n ∧ x = .int .u32 (through (inv s) (l.take n) : Nat)) (fun _ k => l.length - (intOf k).toNat)
  case atStart => exact ⟨0, by omega, rfl, rfl⟩
  case round =>
    obtain ⟨n, hn, rfl, rfl⟩ := hrel
    by_cases hlt : n < l.length
    · obtain ⟨g, o, rfl, hc⟩ := HR.out n hlt
      have HT : Hid (through (inv s) (l.take n) < 4294967296) := hid (through_lt (inv_lt HS.out) _)
      have HX := hid (xor32 HT.out (u8_lt l[n]))
      have HXl := hid (xor_lt HT.out (u8_lt l[n]))
      have HE := hid (through_take (inv s) l n hlt)
      have HM := hid (u8_mod l[n])
      go_wp2_with fail
      rw [HM.out, HX.out]
      refine (divide_any _ w HXl.out).mono ?_
      rintro e w' ⟨rfl, rfl⟩
      go_wp2
      go_round
      case rel => exact ⟨n + 1, by omega, by go_num, by rw [HE.out]⟩
      case measure => simp [intOf]; omega
    · obtain rfl : n = l.length := by omega
      have HT : Hid (inv (through (inv s) l) = add s l) := hid rfl
      have HI2 := hid (inv_walk (through_lt (inv_lt HS.out) l))
      rw [List.take_length]
      go_wp2
      go_ret
      exact ⟨by rw [HI2.out]; rfl, rfl⟩

theorem add_any (s : Nat) (l : List UInt8) (v : Value) (w : World) {E : Nat → Prop} (hs : s < 4294967296) (hb : BytesIn w E v l) (hl : l.length ≤ 9223372036854775807) : Calls Tryz.prog 63 #[.int .u32 (s : Int), v] w fun e w' =>
    e = .returned (.int .u32 (add s l : Nat)) ∧ w = w' := by
  obtain ⟨a, cap, rfl, _, h⟩ := at_of hb
  exact add_at s l a cap w hs h hl
theorem sum_at (l : List UInt8) (a : Option Addr) (cap : Nat) (w : World) (hr : At w a l) (hl : l.length ≤ 9223372036854775807) : Calls Tryz.prog 62 #[.slice a l.length cap] w fun e w' =>
    e = .returned (.int .u32 (add 0 l : Nat)) ∧ w = w' := by
  have HA := hid (add_at 0 l a cap w (by decide) hr hl)
  clear hr
  go_enter Tryz.func62, Tryz.ntmps62
  go_wp2_with (go_at_call 63; refine HA.out.mono ?_; rintro e w' ⟨rfl, rfl⟩)
  go_ret
  exact ⟨rfl, rfl⟩
theorem sum_any (l : List UInt8) (v : Value) (w : World) {E : Nat → Prop} (hb : BytesIn w E v l) (hl : l.length ≤ 9223372036854775807) : Calls Tryz.prog 62 #[v] w fun e w' =>
    e = .returned (.int .u32 (add 0 l : Nat)) ∧ w = w' := by
  obtain ⟨a, cap, rfl, _, h⟩ := at_of hb
  exact sum_at l a cap w h hl
end Go.Proofs.YtflfmkokfbgclaaGreat.S
