/-
  Package disk: flushing, and a crash.
-/
import Derived.Test.YtlnolnaapnijbaaDiskW
namespace Go.Proofs.Ytlnolnaapnijbaa.D
set_option maxRecDepth 100000
open Go.RowKit K

/-- Rep, where its blocks are. -/
def RepX (td tl tp : TypeId) (f : Bool → Bool) (w : World) (bd : Nat) (D : Nat → Prop) (s : St) (bl : Nat) (pv : Value) : Prop :=
  s.Ok ∧ Blk w bd td [.slice (some ⟨bl, 0, none⟩) s.L.length s.L.length, pv, .bool (f s.up), .int .i64 s.left] ∧ Blk w bl tl (rowsL s.L) ∧
    w.ownsRow 0 tp 65 pv s.P.length (rowsP s.P) ∧ bd ≠ bl ∧ (∀ k, pv.ownBlock = some k → k ≠ bd ∧ k ≠ bl ∧ D k) ∧ D bd ∧ D bl ∧ (∀ k, D k → k < w.heap.size)
section
variable {td tl tp : TypeId} {f : Bool → Bool} {w w' : World} {bd : Nat} {D E : Nat → Prop} {s : St} {bl : Nat} {pv : Value}
theorem RepX.rep (h : RepX td tl tp f w bd D s bl pv) : Rep td tl tp f w bd D s := ⟨h.1, bl, pv, h.2⟩
theorem Rep.x (h : Rep td tl tp f w bd D s) : ∃ bl pv, RepX td tl tp f w bd D s bl pv := by
  obtain ⟨ok, bl, pv, r⟩ := h
  exact ⟨bl, pv, ok, r⟩
theorem RepX.fr (h : RepX td tl tp f w bd D s bl pv) (hf : Fr E w w') (hd : ∀ k, D k → ¬ E k) : RepX td tl tp f w' bd D s bl pv := by
  obtain ⟨ok, h1, h2, h3, h4, h5, h6, h7, h8⟩ := h
  exact ⟨ok, h1.fr hf (hd _ h6), h2.fr hf (hd _ h7), own_fr h3 hf (fun k hk => hd k (h5 k hk).2.2), h4, h5, h6, h7, fun k hk => Nat.lt_of_lt_of_le (h8 k hk) hf.size⟩
/-- A sector is stored. -/
theorem RepX.put (h : RepX td tl tp f w bd D s bl pv) (i : Nat) (l : List Int) (hl : l.length = 64) (hi : i < s.L.length) (hB : Blk w' bl tl (spl (rowsL s.L) (i * 64) (u8s l))) (hf : Fr (fun k => k = bl) w w') :
    RepX td tl tp f w' bd D { s with L := s.L.set i l } bl pv := by
  obtain ⟨ok, h1, h2, h3, h4, h5, h6, h7, h8⟩ := h
  refine ⟨⟨by simpa using ok.1, by simpa using ok.2, ?_, by simpa using ok.4, ok.5, ok.6⟩, ?_, ?_, own_fr h3 hf (fun k hk => (h5 k hk).2.1), h4, h5, h6, h7, fun k hk => Nat.lt_of_lt_of_le (h8 k hk) hf.size⟩
  · intro x hx
    rcases List.mem_or_eq_of_mem_set hx with hx | hx
    · exact ok.3 x hx
    · rw [hx]; exact hl
  · simpa using h1.fr hf h4
  · have e := flat_set (m := 64) (s.L.map u8s) i (u8s l) (by simpa using ok.sec) (by simpa using hl) (by simpa using hi)
    have e' : spl (rowsL s.L) (i * 64) (u8s l) = rowsL (s.L.set i l) := by unfold rowsL; rw [e, List.map_set]
    rw [← e']; exact hB
theorem RepX.sets (h : RepX td tl tp f w bd D s bl pv) {i : Nat} {l : List Int} (hl : l.length = 64) (hi : i < s.L.length) : i * 64 + (u8s l).length ≤ (rowsL s.L).length := by
  rw [rowsL_length h.1.sec, u8s_length, hl]; omega
theorem RepX.pend {g cap : Nat} {n : Nat} (h : RepX td tl tp f w bd D s bl (.slice (some ⟨g, 0, none⟩) n cap)) {k : Nat} {p : Nat × List Int} (hk : s.P[k]? = some p) : w.rangeAt g (k * 65) (.int .i64 p.1 :: u8s p.2) := by
  obtain ⟨ok, h1, h2, h3, h4, h5, h6, h7, h8⟩ := h
  have hc := h3.cells (g := g) rfl
  have hg := flat_get (m := 65) (s.P.map fun p => Value.int .i64 (p.1 : Int) :: u8s p.2) k (.int .i64 p.1 :: u8s p.2) (by intro l hl; obtain ⟨p, hp', rfl⟩ := List.mem_map.1 hl; simp [(ok.pnd p hp').2]) (by simp [hk])
  have hp64 := (ok.pnd p (List.mem_of_getElem? hk)).2
  intro j v hj
  have hlt : j < 65 := by have := (List.getElem?_eq_some_iff.1 hj).1; simpa [hp64] using this
  rw [← hg, List.getElem?_take, if_pos hlt, List.getElem?_drop] at hj
  have := hc _ v hj
  rwa [Addr.add_mid, Nat.zero_add] at this
end

/-- The sectors behind some writes. -/
def applied (L : List (List Int)) (P : List (Nat × List Int)) : List (List Int) := P.foldl (fun L p => L.set p.1 p.2) L
theorem applied_length (L : List (List Int)) (P : List (Nat × List Int)) : (applied L P).length = L.length := by
  induction P generalizing L with
  | nil => rfl
  | cons a r ih => simp only [applied, List.foldl_cons]; exact (ih _).trans (by simp)
theorem applied_snoc (L : List (List Int)) (P : List (Nat × List Int)) {k : Nat} {p : Nat × List Int} (h : P[k]? = some p) : applied L (P.take (k + 1)) = (applied L (P.take k)).set p.1 p.2 := by
  obtain ⟨hlt, rfl⟩ := List.getElem?_eq_some_iff.1 h
  unfold applied
  rw [List.take_succ_eq_append_getElem hlt, List.foldl_append]
  rfl
def St.some (s : St) (P : List (Nat × List Int)) : St := { s with L := applied s.L P }
theorem some_snoc (s : St) (P : List (Nat × List Int)) {k : Nat} {p : Nat × List Int} (h : P[k]? = some p) : s.some (P.take (k + 1)) = { s.some (P.take k) with L := (s.some (P.take k)).L.set p.1 p.2 } := by
  simp only [St.some, applied_snoc _ _ h]
/-- What Flush answers, and the disk behind it. -/
def St.flush (s : St) : Int × St := if s.up = false then (10, s) else if s.spend.1 = false then (10, s.spend.2) else (0, { s.spend.2.some s.P with P := [] })

section
variable {w : World} {bd : Nat} {D : Nat → Prop} {s : St}
theorem flush_any (h : At w bd D s) : Calls Try.prog 60 #[.pointer (some ⟨bd, 0, none⟩)] w fun e w' => e = .returned (.int .i64 s.flush.1) ∧ At w' bd D s.flush.2 ∧ Fr D w w' := by
  obtain ⟨bl, pv, c0, c1, c2, c3⟩ := h.cells
  simp only [id] at c2
  cases hu : s.up with
  | false =>
    have e1 : s.flush = (10, s) := by simp [St.flush, hu]
    rw [e1]
    rw [hu] at c2
    have HH := hid h
    clear h hu e1
    go_enter Try.func60, Try.ntmps60
    go_wp2
    go_ret
    exact ⟨rfl, HH.out, Fr.refl _ _⟩
  | true =>
    rw [hu] at c2
    have hsp := spend_any h
    cases hs : s.spend.1 with
    | false =>
      rw [hs] at hsp
      have e1 : s.flush = (10, s.spend.2) := by simp [St.flush, hu, hs]
      rw [e1]
      have HS := hid hsp
      clear h hu hs hsp e1
      go_enter Try.func60, Try.ntmps60
      go_wp2_with (go_at_call 68; refine HS.out.mono ?_; rintro e w1 ⟨rfl, hA, hF⟩; have HA := hid hA; have HF := hid hF; clear hA hF)
      go_ret
      exact ⟨rfl, HA.out, HF.out⟩
    | true =>
      rw [hs] at hsp
      have e1 : s.flush = (0, { s.spend.2.some s.P with P := [] }) := by simp [St.flush, hu, hs]
      rw [e1]
      have HS := hid hsp
      clear h hu hs hsp e1 c0 c1 c3
      go_enter Try.func60, Try.ntmps60
      go_wp2_with (go_at_call 68; refine HS.out.mono ?_; rintro e w1 ⟨rfl, hA, hF⟩; obtain ⟨bl1, pv1, hX⟩ := hA.x; obtain ⟨a1, cap1, rfl, hn1, ha1⟩ := own_form hX.2.2.2.1; rw [St.spend_P] at hn1 ha1 hX; have c1 : w1.cell? ⟨bd, 1, none⟩ = some (.slice a1 s.P.length cap1) := hX.2.1.cell 1; have HX := hid hX; have HF := hid hF; have HA1 := hid ha1; clear hA hF hX ha1)
      have HC1 := hid c1; clear c1
      go_loopw [4, 20] (fun _ i wr => ∃ k : Nat, k ≤ s.P.length ∧ i = .int .i64 k ∧ Hid (RepX 78 117 119 id wr bd D (s.spend.2.some (s.P.take k)) bl1 (.slice a1 s.P.length cap1)) ∧ Hid (Fr D w wr)) (fun _ i _ => s.P.length - (intOf i).toNat)
      case atStart => exact ⟨0, Nat.zero_le _, rfl, HX, HF⟩
      case round =>
        obtain ⟨k, hk, rfl, HR, HFr⟩ := hrel
        by_cases hlt : k < s.P.length
        · obtain ⟨p, hp⟩ : ∃ p, s.P[k]? = some p := ⟨s.P[k], List.getElem?_eq_getElem hlt⟩
          obtain ⟨g, rfl⟩ := HA1.out (by omega)
          have okp := HR.out.1.pnd p (by simpa [St.some] using List.mem_of_getElem? hp)
          have hr := HR.out.pend (k := k) (p := p) (by simpa [St.some] using hp)
          have HRG := hid hr; have HP := hid hp; have HOK := hid okp
          clear hr hp okp
          have hk0 : (0 : Int) ≤ k := by omega
          have hk1 : (k : Int) < s.P.length := by omega
          go_wp2_with (first
            | ((with_reducible show wpList _ _ _ ({ dst := _, op := .load 119 _, type := _, pos := _, after := _, guard := _ } :: _) _ _); refine wpL_load rfl _ _ rfl g (k * 65) rfl (.int .i64 p.1 :: u8s p.2) _ HRG.out rfl rfl (by simp [HOK.out.2, info77]) ?_)
            | ((with_reducible show wpList _ _ _ ({ dst := _, op := .alloc 119, type := _, pos := _, after := _, guard := _ } :: _) _ _); refine wpL_alloc rfl _ rfl _ zero77 (.int .i64 0 :: zero64) rfl ?_; intro w2 HB2 HF2 HS2)
            | ((with_reducible show wpList _ _ _ ({ dst := _, op := .store 119 _ _, type := _, pos := _, after := _, guard := _ } :: _) _ _); refine wpL_store rfl _ _ _ rfl wr.heap.size 0 (.int .i64 p.1 :: u8s p.2) rfl rfl _ _ HB2.out (by simp [zero64, HOK.out.2]) (by simp [HOK.out.2, info77]) (by simp [u8s, Value.oneCell']) ?_; intro w3 HB3 HF3 HS3))
          have h3 : spl (.int .i64 0 :: zero64) 0 (.int .i64 p.1 :: u8s p.2) = .int .i64 p.1 :: u8s p.2 := by
            have : (u8s p.2).length = 64 := by simp [HOK.out.2]
            simp [spl, zero64, this]
          have HB := HB3.out
          rw [h3] at HB
          have hlt2 : ∀ j, D j → j ≠ wr.heap.size := fun j hj e => by have := HR.out.rep.lt j hj; omega
          have HX3 := (HR.out.fr HF2.out (fun _ _ e => e)).fr HF3.out (fun j hj e => hlt2 j hj e)
          have hL : (s.spend.2.some (s.P.take k)).L.length = s.L.length := by simp [St.some, applied_length]
          have c0 : w3.cell? ⟨bd, 0, none⟩ = some (.slice (some ⟨bl1, 0, none⟩) s.L.length s.L.length) := by rw [← hL]; exact HX3.2.1.cell 0
          have cn : w3.cell? ⟨wr.heap.size, 0, none⟩ = some (.int .i64 p.1) := HB.cell 0
          have rn : w3.rangeAt wr.heap.size 1 (u8s p.2) := HB.range 1 _ (by simp [List.take_of_length_le])
          have hold : Facts.hold [(3, fun w' => w'.cell? ⟨bd, 0, none⟩ = some (.slice (some ⟨bl1, 0, none⟩) s.L.length s.L.length)), (5, fun w' => w'.cell? ⟨wr.heap.size, 0, none⟩ = some (.int .i64 p.1)), (7, fun w' => w'.rangeAt wr.heap.size 1 (u8s p.2))] w3.drew :=
            Facts.cons_hold c0 (Facts.cons_hold cn (Facts.cons_hold rn (Facts.nil_hold _)))
          have hp1 : (p.1 : Int) < s.L.length := by have := HOK.out.1; rw [hL] at this; omega
          have hp0 : (0 : Int) ≤ p.1 := by omega
          have HL := hid hL; have HHX := hid HX3; have HHB := hid HB
          clear hL HX3 HB h3 c0 cn rn hlt2
          refine wpD_region hold (by kernel_rfl) 10 rfl ?_
          (refine wpD_plain 0 (v := ?_) rfl (by kernel_rfl) (by kernel_rfl) (by kernel_rfl) (fun _ _ _ h => h) (by rfl) ?_ (by assumption) ?_; rotate_left; (intro _w; go_simp; try with_reducible rfl); simp only [Act.put, List.setIfInBounds_toArray, List.set_cons_zero, List.set_cons_succ])
          (refine wpD_plain 1 (v := ?_) rfl (by kernel_rfl) (by kernel_rfl) (by kernel_rfl) (fun _ _ _ h => h) (by rfl) ?_ (by assumption) ?_; rotate_left; (intro _w; go_simp; try with_reducible rfl); simp only [Act.put, List.setIfInBounds_toArray, List.set_cons_zero, List.set_cons_succ])
          (refine wpD_plain 2 (v := ?_) rfl (by kernel_rfl) (by kernel_rfl) (by kernel_rfl) (fun _ _ _ h => h) (by rfl) ?_ (by assumption) ?_; rotate_left; (intro _w; go_simp; try with_reducible rfl); simp only [Act.put, List.setIfInBounds_toArray, List.set_cons_zero, List.set_cons_succ])
          (refine wpD_take 3 _ rfl (by kernel_rfl) (by kernel_rfl) (by kernel_rfl) (fun _ _ _ h => h) List.mem_cons_self (by rfl) (v := ?_) ?_ (by assumption) ?_; rotate_left; (intro _w _hw; go_simp; try with_reducible rfl); simp only [Act.put, List.setIfInBounds_toArray, List.set_cons_zero, List.set_cons_succ])
          (refine wpD_plain 4 (v := ?_) rfl (by kernel_rfl) (by kernel_rfl) (by kernel_rfl) (fun _ _ _ h => h) (by rfl) ?_ (by assumption) ?_; rotate_left; (intro _w; go_simp; try with_reducible rfl); simp only [Act.put, List.setIfInBounds_toArray, List.set_cons_zero, List.set_cons_succ])
          (refine wpD_take 5 _ rfl (by kernel_rfl) (by kernel_rfl) (by kernel_rfl) (fun _ _ _ h => h) (List.mem_cons_of_mem _ List.mem_cons_self) (by rfl) (v := ?_) ?_ (by assumption) ?_; rotate_left; (intro _w _hw; go_simp; try with_reducible rfl); simp only [Act.put, List.setIfInBounds_toArray, List.set_cons_zero, List.set_cons_succ])
          (refine wpD_plain 6 (v := ?_) rfl (by kernel_rfl) (by kernel_rfl) (by kernel_rfl) (fun _ _ _ h => h) (by rfl) ?_ (by assumption) ?_; rotate_left; (intro _w; go_simp; try with_reducible rfl); simp only [Act.put, List.setIfInBounds_toArray, List.set_cons_zero, List.set_cons_succ])
          (refine wpD_take 7 _ rfl (by kernel_rfl) (by kernel_rfl) (by kernel_rfl) (fun _ _ _ h => h) (List.mem_cons_of_mem _ (List.mem_cons_of_mem _ List.mem_cons_self)) (by rfl) (exec_load _ _ rfl wr.heap.size 1 rfl _ _ rfl rfl (by simp [HOK.out.2, info74])) (by assumption) ?_; simp only [Act.put, List.setIfInBounds_toArray, List.set_cons_zero, List.set_cons_succ])
          (refine wpD_plain 8 (v := ?_) rfl (by kernel_rfl) (by kernel_rfl) (by kernel_rfl) (fun _ _ _ h => h) (by rfl) ?_ (by assumption) ?_; rotate_left; (intro _w; go_simp; try with_reducible rfl); simp only [Act.put, List.setIfInBounds_toArray, List.set_cons_zero, List.set_cons_succ])
          refine wpD_only 9 [] rfl (by kernel_rfl) (by kernel_rfl) (by rfl) (fun K9 hK9 => ?_)
          refine wp_storeB _ _ _ rfl bl1 (p.1 * 64) (u8s p.2) rfl rfl _ _ HHX.out.2.2.1 ?_ ?_ (u8s_one _) ?_
          · exact HHX.out.sets HOK.out.2 (by rw [HL.out]; omega)
          · simp [HOK.out.2, info74]
          · intro w5 HB5 HF5 HS5
            refine hK9 _ _ (Facts.nil_hold _) ?_
            refine wpD_done (by kernel_rfl) ?_ _
            clear hK9 K9
            go_wp2
            have hF3 : Fr D wr w3 := (HF2.out.no.trans HF3.out (fun j hj => .inr (by rw [hj]; exact Nat.le_refl _)))
            refine ⟨⟨k + 1, by omega, by go_num, hid ?_, hid ?_⟩, by simp [intOf]; omega⟩
            · rw [some_snoc _ _ HP.out]
              exact HHX.out.put (w := w3.drew) p.1 p.2 HOK.out.2 (by rw [HL.out]; omega) HB5.out HF5.out
            · exact (HFr.out.trans' hF3).drew.trans HF5.out (fun j hj => .inl (by rw [hj]; exact HHX.out.2.2.2.2.2.2.2.1))
        · have c1 := HR.out.2.1.cell 1
          have f1 := HR.out.2.1.frozen 1
          simp only [List.getElem?_cons_succ, List.getElem?_cons_zero] at c1
          have hge : ¬ ((k : Int) < s.P.length) := by omega
          have hk' : k = s.P.length := by omega
          have HK := hid hk'; clear hk'
          go_wp2
          go_ret
          have := HR.out.rep
          rw [HK.out, List.take_length] at this
          exact ⟨rfl, this.setNil, HFr.out.setCell _ _ (.inl this.dst.1)⟩

/-- The writes that a crash keeps. -/
def picked : List (Nat × List Int) → List Bool → List (Nat × List Int)
  | p :: r, b :: bs => if b then p :: picked r bs else picked r bs
  | _, _ => []
theorem picked_snoc : ∀ (P : List (Nat × List Int)) (keep : List Bool) (k : Nat) (p : Nat × List Int), P[k]? = some p → picked (P.take (k + 1)) keep = picked (P.take k) keep ++ (if keep[k]? = some true then [p] else [])
  | [], _, k, p, h => by simp at h
  | q :: r, [], k, p, h => by cases k <;> simp [picked]
  | q :: r, b :: bs, 0, p, h => by
    obtain rfl : q = p := by simpa using h
    cases b <;> simp [picked]
  | q :: r, b :: bs, k + 1, p, h => by
    have ih := picked_snoc r bs k p (by simpa using h)
    simp only [List.take_succ_cons, picked, List.getElem?_cons_succ]
    cases b
    · simpa using ih
    · simp [ih]
theorem picked_sub : ∀ (P : List (Nat × List Int)) (keep : List Bool), (picked P keep).length ≤ P.length
  | [], _ => by simp [picked]
  | q :: r, [] => by simp [picked]
  | q :: r, b :: bs => by
    have := picked_sub r bs
    cases b <;> simp [picked] <;> omega
theorem some_app (s : St) (P : List (Nat × List Int)) (p : Nat × List Int) : s.some (P ++ [p]) = { s.some P with L := (s.some P).L.set p.1 p.2 } := by
  simp [St.some, applied]
/-- What Crash answers, and the disk behind it. -/
def St.crash (s : St) (keep : List Bool) : Int × St := ((picked s.P keep).length, { s.some (picked s.P keep) with P := [], up := true, left := -1 })

/-- The value is a slice of these bools; they lie in a block of E. -/
def BoolsIn (w : World) (E : Nat → Prop) (v : Value) (bs : List Bool) : Prop :=
  ∃ a len cap, v = .slice a len cap ∧ bs.length = len ∧ (len = 0 ∨ ∃ g o, a = some ⟨g, o, none⟩ ∧ E g ∧ g < w.heap.size ∧ w.rangeAt g o (bs.map Value.bool))
theorem BoolsIn.fr {w w' : World} {E D : Nat → Prop} {v : Value} {bs : List Bool} (h : BoolsIn w E v bs) (hf : Fr D w w') (hd : ∀ k, E k → k < w.heap.size → ¬ D k) : BoolsIn w' E v bs := by
  obtain ⟨a, len, cap, h1, h2, h3⟩ := h
  exact ⟨a, len, cap, h1, h2, h3.imp id fun ⟨g, o, r1, r2, r3, r4⟩ => ⟨g, o, r1, r2, Nat.lt_of_lt_of_le r3 hf.size, hf.range r4 (hd g r2 r3)⟩⟩

theorem crash_any (v : Value) (keep : List Bool) (E : Nat → Prop) (hv : BoolsIn w E v keep) (hE : ∀ k, E k → ¬ D k) (hlen : keep.length ≤ 9223372036854775807) (h : At w bd D s) :
    Calls Try.prog 26 #[.pointer (some ⟨bd, 0, none⟩), v] w fun e w' => e = .returned (.int .i64 (s.crash keep).1) ∧ At w' bd D (s.crash keep).2 ∧ Fr D w w' := by
  obtain ⟨bl1, pv1, hX⟩ := h.x
  obtain ⟨a1, cap1, rfl, hn1, ha1⟩ := own_form hX.2.2.2.1
  have c1 : w.cell? ⟨bd, 1, none⟩ = some (.slice a1 s.P.length cap1) := hX.2.1.cell 1
  obtain ⟨a, len, cap, rfl, hl, hsrc⟩ := hv
  have hlen' : (len : Int) ≤ 9223372036854775807 := by omega
  have HX := hid hX; have HA1 := hid ha1; have HS := hid hsrc; have HE := hid hE; have HL := hid hl
  clear hX ha1 h hsrc hE hlen hl
  go_enter Try.func26, Try.ntmps26
  go_wp2_with fail
  have HC1 := hid c1; clear c1
  go_loopw [5, 6, 7, 13] (fun kept _ _ i wr => ∃ k : Nat, k ≤ s.P.length ∧ i = .int .i64 k ∧ kept = .int .i64 (picked (s.P.take k) keep).length ∧ Hid (RepX 78 117 119 id wr bd D (s.some (picked (s.P.take k) keep)) bl1 (.slice a1 s.P.length cap1)) ∧ Hid (Fr D w wr)) (fun _ _ _ i _ => s.P.length - (intOf i).toNat)
  case atStart => exact ⟨0, Nat.zero_le _, rfl, rfl, by simpa [St.some, picked, applied] using HX, hid (Fr.refl _ _)⟩
  case round =>
    obtain ⟨k, hk, rfl, rfl, HR, HFr⟩ := hrel
    by_cases hlt : k < s.P.length
    · obtain ⟨p, hp⟩ : ∃ p, s.P[k]? = some p := ⟨s.P[k], List.getElem?_eq_getElem hlt⟩
      obtain ⟨g, rfl⟩ := HA1.out (by omega)
      have okp := HR.out.1.pnd p (by simpa [St.some] using List.mem_of_getElem? hp)
      have hr := HR.out.pend (k := k) (p := p) (by simpa [St.some] using hp)
      have hps := picked_snoc s.P keep k p hp
      have HRG := hid hr; have HP := hid hp; have HOK := hid okp
      have hpk : (picked (s.P.take k) keep).length ≤ k := Nat.le_trans (picked_sub _ _) (by simp; omega)
      have hk0 : (0 : Int) ≤ k := by omega
      have hk1 : (k : Int) < s.P.length := by omega
      have hpk' : ((picked (s.P.take k) keep).length : Int) ≤ k := by omega
      have hpk0 : (0 : Int) ≤ ((picked (s.P.take k) keep).length : Int) := by omega
      clear hr hp okp hpk
      by_cases hkk : keep[k]? = some true
      · rw [if_pos hkk] at hps
        have hkl : k < len := by have := (List.getElem?_eq_some_iff.1 hkk).1; have := HL.out; omega
        obtain ⟨gk, ok, rfl, hgE, hgl, hgr⟩ := HS.out.resolve_left (by omega)
        have ck : wr.cell? ⟨gk, ok + k, none⟩ = some (.bool true) := HFr.out.cell (hgr k _ (by simp [hkk])) (HE.out _ hgE)
        have hkl' : (k : Int) < len := by omega
        have hgb : gk < wr.heap.size := Nat.lt_of_lt_of_le hgl HFr.out.size
        have HPS := hid hps; have HGE := hid hgE
        clear hps hkk hgr hgE hgl
        go_wp2_with (first
          | ((with_reducible show wpList _ _ _ ({ dst := _, op := .load 119 _, type := _, pos := _, after := _, guard := _ } :: _) _ _); refine wpL_load rfl _ _ rfl g (k * 65) rfl (.int .i64 p.1 :: u8s p.2) _ HRG.out rfl rfl (by simp [HOK.out.2, info77]) ?_)
          | ((with_reducible show wpList _ _ _ ({ dst := _, op := .alloc 119, type := _, pos := _, after := _, guard := _ } :: _) _ _); refine wpL_alloc rfl _ rfl _ zero77 (.int .i64 0 :: zero64) rfl ?_; intro w2 HB2 HF2 HS2)
          | ((with_reducible show wpList _ _ _ ({ dst := _, op := .store 119 _ _, type := _, pos := _, after := _, guard := _ } :: _) _ _); refine wpL_store rfl _ _ _ rfl wr.heap.size 0 (.int .i64 p.1 :: u8s p.2) rfl rfl _ _ HB2.out (by simp [zero64, HOK.out.2]) (by simp [HOK.out.2, info77]) (by simp [u8s, Value.oneCell']) ?_; intro w3 HB3 HF3 HS3; have ck3 := HF3.out.cell (HF2.out.cell ck id) (by simp; omega)))
        have h3 : spl (.int .i64 0 :: zero64) 0 (.int .i64 p.1 :: u8s p.2) = .int .i64 p.1 :: u8s p.2 := by
          have : (u8s p.2).length = 64 := by simp [HOK.out.2]
          simp [spl, zero64, this]
        have HB := HB3.out
        rw [h3] at HB
        have hlt2 : ∀ j, D j → j ≠ wr.heap.size := fun j hj e => by have := HR.out.rep.lt j hj; omega
        have HX3 := (HR.out.fr HF2.out (fun _ _ e => e)).fr HF3.out (fun j hj e => hlt2 j hj e)
        have hL : (s.some (picked (s.P.take k) keep)).L.length = s.L.length := by simp [St.some, applied_length]
        have c0 : w3.cell? ⟨bd, 0, none⟩ = some (.slice (some ⟨bl1, 0, none⟩) s.L.length s.L.length) := by rw [← hL]; exact HX3.2.1.cell 0
        have cn : w3.cell? ⟨wr.heap.size, 0, none⟩ = some (.int .i64 p.1) := HB.cell 0
        have rn : w3.rangeAt wr.heap.size 1 (u8s p.2) := HB.range 1 _ (by simp [List.take_of_length_le])
        have hold : Facts.hold [(3, fun w' => w'.cell? ⟨bd, 0, none⟩ = some (.slice (some ⟨bl1, 0, none⟩) s.L.length s.L.length)), (5, fun w' => w'.cell? ⟨wr.heap.size, 0, none⟩ = some (.int .i64 p.1)), (7, fun w' => w'.rangeAt wr.heap.size 1 (u8s p.2))] w3.drew :=
          Facts.cons_hold c0 (Facts.cons_hold cn (Facts.cons_hold rn (Facts.nil_hold _)))
        have hp1 : (p.1 : Int) < s.L.length := by have := HOK.out.1; rw [hL] at this; omega
        have hp0 : (0 : Int) ≤ p.1 := by omega
        have HLL := hid hL; have HHX := hid HX3; have HHB := hid HB
        clear hL HX3 HB h3 c0 cn rn hlt2 ck ck3
        refine wpD_region hold (by kernel_rfl) 10 rfl ?_
        (refine wpD_plain 0 (v := ?_) rfl (by kernel_rfl) (by kernel_rfl) (by kernel_rfl) (fun _ _ _ h => h) (by rfl) ?_ (by assumption) ?_; rotate_left; (intro _w; go_simp; try with_reducible rfl); simp only [Act.put, List.setIfInBounds_toArray, List.set_cons_zero, List.set_cons_succ])
        (refine wpD_plain 1 (v := ?_) rfl (by kernel_rfl) (by kernel_rfl) (by kernel_rfl) (fun _ _ _ h => h) (by rfl) ?_ (by assumption) ?_; rotate_left; (intro _w; go_simp; try with_reducible rfl); simp only [Act.put, List.setIfInBounds_toArray, List.set_cons_zero, List.set_cons_succ])
        (refine wpD_plain 2 (v := ?_) rfl (by kernel_rfl) (by kernel_rfl) (by kernel_rfl) (fun _ _ _ h => h) (by rfl) ?_ (by assumption) ?_; rotate_left; (intro _w; go_simp; try with_reducible rfl); simp only [Act.put, List.setIfInBounds_toArray, List.set_cons_zero, List.set_cons_succ])
        (refine wpD_take 3 _ rfl (by kernel_rfl) (by kernel_rfl) (by kernel_rfl) (fun _ _ _ h => h) List.mem_cons_self (by rfl) (v := ?_) ?_ (by assumption) ?_; rotate_left; (intro _w _hw; go_simp; try with_reducible rfl); simp only [Act.put, List.setIfInBounds_toArray, List.set_cons_zero, List.set_cons_succ])
        (refine wpD_plain 4 (v := ?_) rfl (by kernel_rfl) (by kernel_rfl) (by kernel_rfl) (fun _ _ _ h => h) (by rfl) ?_ (by assumption) ?_; rotate_left; (intro _w; go_simp; try with_reducible rfl); simp only [Act.put, List.setIfInBounds_toArray, List.set_cons_zero, List.set_cons_succ])
        (refine wpD_take 5 _ rfl (by kernel_rfl) (by kernel_rfl) (by kernel_rfl) (fun _ _ _ h => h) (List.mem_cons_of_mem _ List.mem_cons_self) (by rfl) (v := ?_) ?_ (by assumption) ?_; rotate_left; (intro _w _hw; go_simp; try with_reducible rfl); simp only [Act.put, List.setIfInBounds_toArray, List.set_cons_zero, List.set_cons_succ])
        (refine wpD_plain 6 (v := ?_) rfl (by kernel_rfl) (by kernel_rfl) (by kernel_rfl) (fun _ _ _ h => h) (by rfl) ?_ (by assumption) ?_; rotate_left; (intro _w; go_simp; try with_reducible rfl); simp only [Act.put, List.setIfInBounds_toArray, List.set_cons_zero, List.set_cons_succ])
        (refine wpD_take 7 _ rfl (by kernel_rfl) (by kernel_rfl) (by kernel_rfl) (fun _ _ _ h => h) (List.mem_cons_of_mem _ (List.mem_cons_of_mem _ List.mem_cons_self)) (by rfl) (exec_load _ _ rfl wr.heap.size 1 rfl _ _ rfl rfl (by simp [HOK.out.2, info74])) (by assumption) ?_; simp only [Act.put, List.setIfInBounds_toArray, List.set_cons_zero, List.set_cons_succ])
        (refine wpD_plain 8 (v := ?_) rfl (by kernel_rfl) (by kernel_rfl) (by kernel_rfl) (fun _ _ _ h => h) (by rfl) ?_ (by assumption) ?_; rotate_left; (intro _w; go_simp; try with_reducible rfl); simp only [Act.put, List.setIfInBounds_toArray, List.set_cons_zero, List.set_cons_succ])
        refine wpD_only 9 [] rfl (by kernel_rfl) (by kernel_rfl) (by rfl) (fun K9 hK9 => ?_)
        refine wp_storeB _ _ _ rfl bl1 (p.1 * 64) (u8s p.2) rfl rfl _ _ HHX.out.2.2.1 ?_ ?_ (u8s_one _) ?_
        · exact HHX.out.sets HOK.out.2 (by rw [HLL.out]; omega)
        · simp [HOK.out.2, info74]
        · intro w5 HB5 HF5 HS5
          refine hK9 _ _ (Facts.nil_hold _) ?_
          refine wpD_done (by kernel_rfl) ?_ _
          clear hK9 K9 hold
          go_wp2
          have hF3 : Fr D wr w3 := (HF2.out.no.trans HF3.out (fun j hj => .inr (by rw [hj]; exact Nat.le_refl _)))
          have e := HPS.out
          refine ⟨⟨k + 1, by omega, by go_num, ?_, hid ?_, hid ?_⟩, by simp [intOf]; omega⟩
          · rw [e]; simp
          · rw [e, some_app]
            exact HHX.out.put (w := w3.drew) p.1 p.2 HOK.out.2 (by rw [HLL.out]; omega) HB5.out HF5.out
          · exact (HFr.out.trans' hF3).drew.trans HF5.out (fun j hj => .inl (by rw [hj]; exact HHX.out.2.2.2.2.2.2.2.1))
      · rw [if_neg hkk] at hps
        by_cases hkl : k < len
        · obtain ⟨gk, ok, rfl, hgE, hgl, hgr⟩ := HS.out.resolve_left (by omega)
          have hkf : keep[k]? = some false := by
            have : k < keep.length := by have := HL.out; omega
            rw [List.getElem?_eq_getElem this] at hkk ⊢
            cases hb : keep[k] with
            | true => exact absurd (by rw [hb]) hkk
            | false => rfl
          have ck : wr.cell? ⟨gk, ok + k, none⟩ = some (.bool false) := HFr.out.cell (hgr k _ (by simp [hkf])) (HE.out _ hgE)
          have hkl' : (k : Int) < len := by omega
          have hgb : gk < wr.heap.size := Nat.lt_of_lt_of_le hgl HFr.out.size
          have HPS := hid hps; have HGE := hid hgE
          clear hps hkk hgr hgE hgl hkf
          go_wp2_with (first
            | ((with_reducible show wpList _ _ _ ({ dst := _, op := .load 119 _, type := _, pos := _, after := _, guard := _ } :: _) _ _); refine wpL_load rfl _ _ rfl g (k * 65) rfl (.int .i64 p.1 :: u8s p.2) _ HRG.out rfl rfl (by simp [HOK.out.2, info77]) ?_)
            | ((with_reducible show wpList _ _ _ ({ dst := _, op := .alloc 119, type := _, pos := _, after := _, guard := _ } :: _) _ _); refine wpL_alloc rfl _ rfl _ zero77 (.int .i64 0 :: zero64) rfl ?_; intro w2 HB2 HF2 HS2)
            | ((with_reducible show wpList _ _ _ ({ dst := _, op := .store 119 _ _, type := _, pos := _, after := _, guard := _ } :: _) _ _); refine wpL_store rfl _ _ _ rfl wr.heap.size 0 (.int .i64 p.1 :: u8s p.2) rfl rfl _ _ HB2.out (by simp [zero64, HOK.out.2]) (by simp [HOK.out.2, info77]) (by simp [u8s, Value.oneCell']) ?_; intro w3 HB3 HF3 HS3; have ck3 := HF3.out.cell (HF2.out.cell ck id) (by simp; omega)))
          have hlt2 : ∀ j, D j → j ≠ wr.heap.size := fun j hj e => by have := HR.out.rep.lt j hj; omega
          have HX3 := (HR.out.fr HF2.out (fun _ _ e => e)).fr HF3.out (fun j hj e => hlt2 j hj e)
          have hF3 : Fr D wr w3 := (HF2.out.no.trans HF3.out (fun j hj => .inr (by rw [hj]; exact Nat.le_refl _)))
          have e := HPS.out
          rw [List.append_nil] at e
          exact ⟨⟨k + 1, by omega, by go_num, by rw [e], hid (by rw [e]; exact HX3), hid (HFr.out.trans' hF3)⟩, by simp [intOf]; omega⟩
        · have hkl' : ¬ ((k : Int) < len) := by omega
          have HPS := hid hps
          clear hps hkk
          go_wp2_with (first
            | ((with_reducible show wpList _ _ _ ({ dst := _, op := .load 119 _, type := _, pos := _, after := _, guard := _ } :: _) _ _); refine wpL_load rfl _ _ rfl g (k * 65) rfl (.int .i64 p.1 :: u8s p.2) _ HRG.out rfl rfl (by simp [HOK.out.2, info77]) ?_)
            | ((with_reducible show wpList _ _ _ ({ dst := _, op := .alloc 119, type := _, pos := _, after := _, guard := _ } :: _) _ _); refine wpL_alloc rfl _ rfl _ zero77 (.int .i64 0 :: zero64) rfl ?_; intro w2 HB2 HF2 HS2)
            | ((with_reducible show wpList _ _ _ ({ dst := _, op := .store 119 _ _, type := _, pos := _, after := _, guard := _ } :: _) _ _); refine wpL_store rfl _ _ _ rfl wr.heap.size 0 (.int .i64 p.1 :: u8s p.2) rfl rfl _ _ HB2.out (by simp [zero64, HOK.out.2]) (by simp [HOK.out.2, info77]) (by simp [u8s, Value.oneCell']) ?_; intro w3 HB3 HF3 HS3))
          have hlt2 : ∀ j, D j → j ≠ wr.heap.size := fun j hj e => by have := HR.out.rep.lt j hj; omega
          have HX3 := (HR.out.fr HF2.out (fun _ _ e => e)).fr HF3.out (fun j hj e => hlt2 j hj e)
          have hF3 : Fr D wr w3 := (HF2.out.no.trans HF3.out (fun j hj => .inr (by rw [hj]; exact Nat.le_refl _)))
          have e := HPS.out
          rw [List.append_nil] at e
          exact ⟨⟨k + 1, by omega, by go_num, by rw [e], hid (by rw [e]; exact HX3), hid (HFr.out.trans' hF3)⟩, by simp [intOf]; omega⟩
    · have c1 := HR.out.2.1.cell 1
      have f1 := HR.out.2.1.frozen 1
      have c2 := HR.out.2.1.cell 2
      have f2 := HR.out.2.1.frozen 2
      have c3 := HR.out.2.1.cell 3
      have f3 := HR.out.2.1.frozen 3
      simp only [List.getElem?_cons_succ, List.getElem?_cons_zero] at c1 c2 c3
      have hge : ¬ ((k : Int) < s.P.length) := by omega
      have hk' : k = s.P.length := by omega
      have HK := hid hk'; clear hk'
      go_wp2_with (go_at_call 28; refine (store_any _ _ _ _ _ (by rw [World.cell?_setCell_other _ _ _ _ (by simp), World.cell?_setCell_other _ _ _ _ (by simp)]; exact c3) (by simpa using f3)).mono ?_; rintro e w' ⟨rfl, rfl⟩)
      go_ret
      have := HR.out.rep
      rw [HK.out, List.take_length] at this
      have hD := this.dst.1
      refine ⟨?_, ((this.setNil.setUp true).setLeft (-1) (by decide) (by decide)), ((HFr.out.setCell _ _ (.inl hD)).setCell _ _ (.inl hD)).setCell _ _ (.inl hD)⟩
      show Ending.returned (.int .i64 ((picked (List.take k s.P) keep).length : Int)) = _
      rw [HK.out, List.take_length]
      rfl
end
end Go.Proofs.Ytlnolnaapnijbaa.D
