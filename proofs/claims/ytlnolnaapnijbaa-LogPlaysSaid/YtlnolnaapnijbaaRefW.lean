/-
  The document's answer for layer 1: writing.
-/
import Derived.Test.YtlnolnaapnijbaaRef
namespace Go.Proofs.Ytlnolnaapnijbaa.D
set_option maxRecDepth 100000
open Go.RowKit K

theorem zero84 (w : World) : (zeroValue 130).run Try.prog w = .ok (.agg (.int .i64 0 :: zero64).toArray) w := by kernel_rfl
theorem build84 (n : Int) (w : World) : (Instr.build 130 #[(0, .int .i64 n)]).run Try.prog w = .ok (.agg (.int .i64 n :: zero64).toArray) w := by kernel_rfl
theorem info84 : (Try.prog.info? 130).map (·.size) = some 65 := by kernel_rfl
theorem info84z : (Try.prog.info? 130).map (fun i => (i.zero, i.size, i.bytes)) = some (some (.agg (.int .i64 0 :: zero64).toArray), 65, 72) := by kernel_rfl

/-- 64 bytes: the first k of these, and noughts behind them. -/
def part (bs : List Int) (k : Nat) : List Int := bs.take k ++ List.replicate (64 - k) 0
theorem part_at {bs : List Int} {k : Nat} (hl : bs.length ≤ 64) (hk : k < bs.length) : (u8s (part bs k))[k]? = some (.int .u8 0) := by
  have : (bs.take k).length = k := by simp; omega
  simp only [u8s, part, List.map_append, List.map_replicate]
  have h2 : ((bs.take k).map (Value.int .u8)).length = k := by rw [List.length_map, this]
  rw [List.getElem?_append_right (by omega), h2, Nat.sub_self, List.getElem?_replicate, if_pos (by omega)]
theorem part_set {bs : List Int} {k : Nat} {n : Int} (hl : bs.length ≤ 64) (hk : bs[k]? = some n) : (u8s (part bs k)).set k (.int .u8 n) = u8s (part bs (k + 1)) := by
  obtain ⟨hlt, rfl⟩ := List.getElem?_eq_some_iff.1 hk
  have h1 : (bs.take k).length = k := by simp; omega
  have h2 : ((bs.take k).map (Value.int .u8)).length = k := by simp; omega
  have h3 : 64 - k = (64 - (k + 1)) + 1 := by omega
  simp only [u8s, part, List.map_append, List.map_replicate]
  rw [List.set_append_right _ _ (by omega), h2, Nat.sub_self, h3, List.replicate_succ, List.set_cons_zero, List.take_succ_eq_append_getElem hlt, List.map_append, List.append_assoc]
  rfl
theorem part_all {bs : List Int} (k : Nat) (h : bs.length ≤ k) (hk : k ≤ bs.length) : part bs k = pad bs := by
  have : k = bs.length := by omega
  subst this
  simp [part, pad]
section
variable {w : World} {bd : Nat} {D : Nat → Prop} {s : St}
theorem rwrite_no (n : Int) (v : Value) (bs : List Int) (E : Nat → Prop) (hv : BytesIn w E v bs) (h : Rf w bd D s) (hno : s.up = false ∨ ¬ (0 ≤ n ∧ n < s.L.length) ∨ 64 < bs.length) :
    Calls Try.prog 37 #[.pointer (some ⟨bd, 0, none⟩), .int .i64 n, v] w fun e w' => e = .returned (.int .i64 (s.write n bs).1) ∧ (s.write n bs).2 = s ∧ w = w' := by
  obtain ⟨bl, pv, c0, c1, c2, c3⟩ := h.cells
  obtain ⟨a, len, cap, rfl, hl, _⟩ := hv
  cases hu : s.up with
  | false =>
    have e1 : s.write n bs = (10, s) := by simp [St.write, hu]
    rw [e1]
    rw [hu] at c2
    simp only [Bool.not_false] at c2
    clear h hu e1 hno hl
    go_enter Try.func37, Try.ntmps37
    go_wp2
    go_ret
    first | exact ⟨rfl, trivial, rfl⟩ | exact ⟨rfl, rfl⟩ | rfl
  | true =>
    rw [hu] at c2
    simp only [Bool.not_true] at c2
    by_cases hn : 0 ≤ n ∧ n < s.L.length
    · have h64 : 64 < bs.length := by rcases hno with h | h | h; · simp [hu] at h
                                      · exact absurd hn h
                                      · exact h
      have e1 : s.write n bs = (2, s) := by simp [St.write, hu, hn, h64]
      rw [e1]
      have hlen : (64 : Int) < len := by omega
      have hn0 := hn.1
      have hn1 := hn.2
      clear h hu hn e1 hno hl h64
      go_enter Try.func37, Try.ntmps37
      go_wp2
      go_ret
      first | exact ⟨rfl, trivial, rfl⟩ | exact ⟨rfl, rfl⟩ | rfl
    · have e1 : s.write n bs = (11, s) := by simp [St.write, hu, hn]
      rw [e1]
      by_cases h0 : n < 0
      · clear h hu hn e1 hno hl
        go_enter Try.func37, Try.ntmps37
        go_wp2
        go_ret
        first | exact ⟨rfl, trivial, rfl⟩ | exact ⟨rfl, rfl⟩ | rfl
      · have hn1 : ¬ n < s.L.length := by omega
        clear h hu hn e1 hno hl
        go_enter Try.func37, Try.ntmps37
        go_wp2
        go_ret
        first | exact ⟨rfl, trivial, rfl⟩ | exact ⟨rfl, rfl⟩ | rfl

theorem rwrite_out (n : Int) (v : Value) (bs : List Int) (E : Nat → Prop) (hv : BytesIn w E v bs) (h : Rf w bd D s) (hu : s.up = true) (hn : 0 ≤ n ∧ n < s.L.length) (h64 : bs.length ≤ 64) (hs : s.spend.1 = false) :
    Calls Try.prog 37 #[.pointer (some ⟨bd, 0, none⟩), .int .i64 n, v] w fun e w' => e = .returned (.int .i64 (s.write n bs).1) ∧ Rf w' bd D (s.write n bs).2 ∧ Fr D w w' := by
  obtain ⟨bl, pv, c0, c1, c2, c3⟩ := h.cells
  obtain ⟨a, len, cap, rfl, hl, _⟩ := hv
  rw [hu] at c2
  simp only [Bool.not_true] at c2
  have e1 : s.write n bs = (10, s.spend.2) := by simp [St.write, hu, hn, Nat.not_lt.2 h64, hs]
  rw [e1]
  have hsp := goes_any h
  rw [hs] at hsp
  have hlen : ¬ (64 : Int) < len := by omega
  have hn0 := hn.1
  have hn1 := hn.2
  have HS := hid hsp
  clear h hu hn e1 hsp hl h64 hs
  go_enter Try.func37, Try.ntmps37
  go_wp2_with (go_at_call 66; refine HS.out.mono ?_; rintro e w1 ⟨rfl, hA, hF⟩; have HA := hid hA; have HF := hid hF; clear hA hF)
  go_ret
  exact ⟨rfl, HA.out, HF.out⟩

theorem rwrite_yes (i : Nat) (v : Value) (bs : List Int) (E : Nat → Prop) (hv : BytesIn w E v bs) (hE : ∀ k, E k → ¬ D k) (h : Rf w bd D s) (hu : s.up = true) (hn : i < s.L.length) (h64 : bs.length ≤ 64) (hs : s.spend.1 = true) (hp : s.P.length < 1000000) :
    Calls Try.prog 37 #[.pointer (some ⟨bd, 0, none⟩), .int .i64 i, v] w fun e w' => e = .returned (.int .i64 (s.write i bs).1) ∧ ∃ D', Rf w' bd D' (s.write i bs).2 ∧ Fr D w w' ∧ Grows w D D' := by
  obtain ⟨bl, pv, c0, c1, c2, c3⟩ := h.cells
  rw [hu] at c2
  simp only [Bool.not_true] at c2
  have e1 : s.write i bs = (0, { s.spend.2 with P := s.P ++ [(i, pad bs)] }) := by simp [St.write, hu, hn, Nat.not_lt.2 h64, hs]
  rw [e1]
  have hsp := goes_any h
  rw [hs] at hsp
  obtain ⟨a, len, cap, rfl, hl, -, hsrc⟩ := id hv
  have hlen : ¬ (64 : Int) < len := by omega
  have HS := hid hsp; have HV := hid hv; have HL := hid hl; have H64 := hid h64; have HE := hid hE; have HN := hid hn
  have hi0 : (0 : Int) ≤ i := by omega
  have hi1 : (i : Int) < s.L.length := by omega
  clear hv h hu hn e1 hsp hl h64 hs c1 c3 hsrc hE
  go_enter Try.func37, Try.ntmps37
  go_wp2_with (first
    | (go_at_call 66; refine HS.out.mono ?_; rintro e w1 ⟨rfl, hA, hF⟩; have HA := hid hA; have HF := hid hF; clear hA hF c0)
    | ((with_reducible show wpList _ _ _ ({ dst := _, op := .build 130 _, type := _, pos := _, after := _, guard := _ } :: _) _ _); refine wpL_build rfl _ _ rfl _ (build84 _ _) ?_)
    | ((with_reducible show wpList _ _ _ ({ dst := _, op := .alloc 130, type := _, pos := _, after := _, guard := _ } :: _) _ _); refine wpL_alloc rfl _ rfl _ zero84 (.int .i64 0 :: zero64) rfl ?_; intro w2 HB2 HF2 HS2)
    | ((with_reducible show wpList _ _ _ ({ dst := _, op := .store 130 _ _, type := _, pos := _, after := _, guard := _ } :: _) _ _); refine wpL_store rfl _ _ _ rfl w1.heap.size 0 (.int .i64 i :: zero64) rfl rfl _ _ HB2.out (by simp [zero64]) (by rw [info84]; rfl) (by simp [zero64, Value.oneCell']) ?_; intro w3 HB3 HF3 HS3))
  have hB3 : Blk w3 w1.heap.size 130 (.int .i64 i :: u8s (part bs 0)) := by
    have e1 : spl (.int .i64 0 :: zero64) 0 (.int .i64 i :: zero64) = .int .i64 i :: zero64 := rfl
    have := HB3.out
    rw [e1, zero64_u8] at this
    simpa [part] using this
  have HHB := hid hB3
  clear hB3
  have hsz1 : w.heap.size ≤ w1.heap.size := HF.out.size
  go_loopw [9] (fun j wr => ∃ k : Nat, k ≤ len ∧ j = .int .i64 k ∧ Hid (Blk wr w1.heap.size 130 (.int .i64 i :: u8s (part bs k))) ∧ Hid (Fr (fun k => k = w1.heap.size) w3 wr)) (fun j _ => len - (intOf j).toNat)
  case atStart => exact ⟨0, Nat.zero_le _, rfl, HHB, hid (Fr.refl _ _)⟩
  case round =>
    obtain ⟨k, hk, rfl, HBr, HFr⟩ := hrel
    by_cases hlt : k < len
    · have h64 : len ≤ 64 := by omega
      have hcw : wr.cell? ⟨w1.heap.size, 1 + k, none⟩ = some (.int .u8 0) := by
        rw [HBr.out.cell, Nat.add_comm, List.getElem?_cons_succ]
        exact part_at (by rw [HL.out]; exact h64) (by rw [HL.out]; exact hlt)
      have hfw : wr.frozen? ⟨w1.heap.size, 1 + k, none⟩ = false := HBr.out.frozen _
      obtain ⟨n, hn⟩ : ∃ n, bs[k]? = some n := ⟨bs[k]'(by rw [HL.out]; exact hlt), List.getElem?_eq_getElem _⟩
      obtain ⟨a', len', cap', e1, e2, -, e3⟩ := HV.out
      simp only [Value.slice.injEq] at e1
      obtain ⟨rfl, rfl, rfl⟩ := e1
      obtain ⟨g, o, rfl, hg, hgl, hr⟩ := e3.resolve_left (by omega)
      have cs : wr.cell? ⟨g, o + k, none⟩ = some (.int .u8 n) := by
        refine HFr.out.cell (HF3.out.cell (HF2.out.cell (HF.out.cell (hr k _ (by simp [u8s, hn])) (HE.out g hg)) id) ?_) ?_ <;> (simp; omega)
      have HNN := hid hn; have HG := hid hg; have HGL := hid hgl; have HR := hid hr; have HE2 := hid e2
      have hk0 : (0 : Int) ≤ k := by omega
      have hk1 : (k : Int) < len := by omega
      have hk2 : (k : Int) < 64 := by omega
      clear hn hg hgl hr e3 e2
      go_wp2
      refine ⟨⟨k + 1, by omega, by go_num, hid ?_, hid (HFr.out.setCell _ _ (.inl rfl))⟩, by simp [intOf]; omega⟩
      have := HBr.out.set (1 + k) (.int .u8 n)
      have e0 : (Value.int .i64 i :: u8s (part bs k)).set (1 + k) (.int .u8 n) = .int .i64 i :: u8s (part bs (k + 1)) := by
        rw [Nat.add_comm 1 k, List.set_cons_succ, part_set (by rw [HE2.out]; exact h64) HNN.out]
      rwa [e0] at this
    · have hge : ¬ ((k : Int) < len) := by omega
      have hpart : part bs k = pad bs := part_all k (by rw [HL.out]; omega) (by rw [HL.out]; omega)
      have hBr' := HBr.out
      rw [hpart] at hBr'
      have HB' := hid hBr'
      clear hpart hBr'
      go_wp2_with fail
      have hBr' := HB'.out
      have hAr : Rf wr bd D s.spend.2 := ((HA.out.no HF2.out).fr HF3.out (fun k hk e => by have := HA.out.lt k hk; omega)).fr HFr.out (fun k hk e => by have := HA.out.lt k hk; omega)
      have hbw : w1.heap.size < wr.heap.size := hBr'.lt
      obtain ⟨ok, bl4, pv4, h1, h2, h3, h4, h5, h6, h7, h8⟩ := hAr
      have c1 : wr.cell? ⟨bd, 1, none⟩ = some pv4 := h1.cell 1
      have r1 : wr.rangeAt w1.heap.size 0 (.int .i64 i :: u8s (pad bs)) := hBr'.range 0 _ (by rw [List.drop_zero, List.take_length])
      have hold : Facts.hold [(4, fun w' => w'.cell? ⟨bd, 1, none⟩ = some pv4), (5, fun w' => w'.rangeAt w1.heap.size 0 (.int .i64 i :: u8s (pad bs)))] wr.drew := Facts.cons_hold c1 (Facts.cons_hold r1 (Facts.nil_hold _))
      refine wpD_region hold (by kernel_rfl) 11 rfl ?_
      (refine wpD_plain 0 (v := ?_) rfl (by kernel_rfl) (by kernel_rfl) (by kernel_rfl) (fun _ _ _ h => h) (by rfl) ?_ (by assumption) ?_; rotate_left; (intro _w; go_simp; try with_reducible rfl); simp only [Act.put, List.setIfInBounds_toArray, List.set_cons_zero, List.set_cons_succ])
      (refine wpD_plain 1 (v := ?_) rfl (by kernel_rfl) (by kernel_rfl) (by kernel_rfl) (fun _ _ _ h => h) (by rfl) ?_ (by assumption) ?_; rotate_left; (intro _w; go_simp; try with_reducible rfl); simp only [Act.put, List.setIfInBounds_toArray, List.set_cons_zero, List.set_cons_succ])
      (refine wpD_plain 2 (v := ?_) rfl (by kernel_rfl) (by kernel_rfl) (by kernel_rfl) (fun _ _ _ h => h) (by rfl) ?_ (by assumption) ?_; rotate_left; (intro _w; go_simp; try with_reducible rfl); simp only [Act.put, List.setIfInBounds_toArray, List.set_cons_zero, List.set_cons_succ])
      (refine wpD_plain 3 (v := ?_) rfl (by kernel_rfl) (by kernel_rfl) (by kernel_rfl) (fun _ _ _ h => h) (by rfl) ?_ (by assumption) ?_; rotate_left; (intro _w; go_simp; try with_reducible rfl); simp only [Act.put, List.setIfInBounds_toArray, List.set_cons_zero, List.set_cons_succ])
      refine wpD_take 4 _ rfl (by kernel_rfl) (by kernel_rfl) (by kernel_rfl) (fun _ _ _ h => h) List.mem_cons_self (by rfl) (v := ?_) ?_ hold ?_
      rotate_left
      · intro w hw
        go_simp
        with_reducible rfl
      simp only [Act.put, List.setIfInBounds_toArray, List.set_cons_zero, List.set_cons_succ]
      refine wpD_take 5 _ rfl (by kernel_rfl) (by kernel_rfl) (by kernel_rfl) (fun _ _ _ h => h) (List.mem_cons_of_mem _ List.mem_cons_self) (by rfl) (exec_load _ _ rfl w1.heap.size 0 rfl _ _ rfl rfl (by simp [pad_length H64.out, info84])) hold ?_
      simp only [Act.put, List.setIfInBounds_toArray, List.set_cons_zero, List.set_cons_succ]
      obtain ⟨i84, hi84, hz77, hs77, hb77⟩ := info_parts info84z
      refine wpD_only 6 [(4, fun w' => w'.cell? ⟨bd, 1, none⟩ = some pv4)] rfl (by kernel_rfl) (by kernel_rfl) (by rfl) (fun K6 hK6 => ?_)
      refine wp_buildOne _ 130 _ rfl i84 _ rfl hi84 hz77 (by rw [hs77]; decide) (by rw [hs77]; decide) _ (.int .i64 i :: u8s (pad bs)) rfl rfl (by rw [hs77]; simp [pad_length H64.out]) ?_
      intro w5 HB5 HF5 HS5
      have c5 : w5.cell? ⟨bd, 1, none⟩ = some pv4 := HF5.out.cell (w := wr.drew) c1 id
      refine hK6 _ _ (Facts.cons_hold c5 (Facts.nil_hold _)) ?_
      clear hK6 K6
      simp only [Act.put, List.setIfInBounds_toArray, List.set_cons_zero, List.set_cons_succ]
      have hlt5 : ∀ k, D k → k < wr.heap.size := h8
      have own5 : w5.ownsRow 0 130 65 pv4 s.spend.2.P.length (rowsP s.spend.2.P) := own_fr (w := wr.drew) h3 HF5.out (fun k _ e => e)
      have hsz5 := HS5.out
      have B5 : Blk w5 bd _ _ := h1.fr (w := wr.drew) HF5.out id
      have Bl5 : Blk w5 bl4 _ _ := h2.fr (w := wr.drew) HF5.out id
      have hpl : s.spend.2.P.length = s.P.length := by rw [St.spend_P]
      refine wpD_only 7 [] rfl (by kernel_rfl) (by kernel_rfl) (by rfl) (fun K7 hK7 => ?_)
      refine wp_append_lies w5 _ _ _ rfl 0 130 i84 _ 65 72 rfl hi84 hz77 hs77 hb77 rfl (by decide) pv4 s.spend.2.P.length (rowsP s.spend.2.P) rfl own5 ⟨wr.drew.heap.size, 0, none⟩ 1 1 (.int .i64 i :: u8s (pad bs)) rfl (by simp [pad_length H64.out]) HB5.out.news
        (by intro u hu; rcases List.mem_cons.1 hu with rfl | hu; · rfl
            · exact u8s_one _ u hu) (by decide) (by unfold maxLen; omega) (by omega) (Nat.zero_le _) _ rfl ?_
      intro g cap6 w6 own6 gr6 hat6 hlt6
      have hbd6 : some bd ≠ pv4.ownBlock := fun e => (h5 bd e.symm).1 rfl
      have hbl6 : some bl4 ≠ pv4.ownBlock := fun e => (h5 bl4 e.symm).2.1 rfl
      have B6 := B5.grown gr6 hbd6
      have Bl6 := Bl5.grown gr6 hbl6
      have hold6 : Facts.hold [] w6 := Facts.nil_hold w6
      refine hK7 _ _ hold6 ?_
      clear hK7 K7
      simp only [Act.put, List.setIfInBounds_toArray, List.set_cons_zero, List.set_cons_succ]
      (refine wpD_plain 8 (v := ?_) rfl (by kernel_rfl) (by kernel_rfl) (by kernel_rfl) (fun _ _ _ h => h) (by rfl) ?_ (by assumption) ?_; rotate_left; (intro _w; go_simp; try with_reducible rfl); simp only [Act.put, List.setIfInBounds_toArray, List.set_cons_zero, List.set_cons_succ])
      (refine wpD_plain 9 (v := ?_) rfl (by kernel_rfl) (by kernel_rfl) (by kernel_rfl) (fun _ _ _ h => h) (by rfl) ?_ (by assumption) ?_; rotate_left; (intro _w; go_simp; try with_reducible rfl); simp only [Act.put, List.setIfInBounds_toArray, List.set_cons_zero, List.set_cons_succ])
      have c6 : w6.cell? ⟨bd, 1, none⟩ = some pv4 := B6.cell 1
      have f6 : w6.frozen? ⟨bd, 1, none⟩ = false := B6.frozen 1
      have HO6 := hid own6; have HA6 := hid hat6; have HX := hid h5; have HB6 := hid B6; have HBl6 := hid Bl6; have HG6 := hid gr6
      clear own6 hat6 h5 B6 Bl6 B5 Bl5 own5 h1 h2 h3 hbd6 hbl6 hsz5 hpl gr6 c1 c5 hBr' r1 hold
      refine wpD_only 10 [] rfl (by kernel_rfl) (by kernel_rfl) (by rfl) (fun K8 hK8 => ?_)
      go_simp
      refine hK8 _ _ (Facts.nil_hold _) ?_
      refine wpD_done (by kernel_rfl) ?_ _
      clear hK8 K8
      go_wp2
      go_ret
      have hD5 : ∀ k, D k → k < w5.heap.size := fun k hk => Nat.lt_of_lt_of_le (hlt5 k hk) HF5.out.size
      have hg : (g ≠ bd ∧ g ≠ bl4) ∧ (D g ∨ w.heap.size ≤ g) := by
        rcases HA6.out with h | h
        · obtain ⟨x, y, z⟩ := HX.out g h
          exact ⟨⟨x, y⟩, .inl z⟩
        · have := hD5 bd h6
          have := hD5 bl4 h7
          have s1 := HF.out.size
          have s2 := HF2.out.size
          have s3 := HF3.out.size
          have s4 := HFr.out.size
          have s5 : wr.heap.size ≤ w5.heap.size := HF5.out.size
          exact ⟨⟨by omega, by omega⟩, .inr (by omega)⟩
      have hn1 : ∀ k, k = w1.heap.size → D k ∨ w.heap.size ≤ k := fun k hk => .inr (by have := HF.out.size; omega)
      have own7 := HO6.out
      rw [St.spend_P, ← rowsP_snoc] at own7
      refine ⟨rfl, fun k => D k ∨ k = g, ⟨⟨ok.1, ok.2, ok.3, ?_, ok.5, ok.6⟩, bl4, _, HB6.out.set 1 _, HBl6.out.set_other _ _ (Ne.symm h4), own_set (by simpa using own7) ?_, h4, ?_, .inl h6, .inl h7, ?_⟩, ?_, ?_⟩
      · intro p hp
        rcases List.mem_append.1 hp with hp | hp
        · exact ok.4 p (by rw [St.spend_P]; exact hp)
        · obtain rfl := List.mem_singleton.1 hp
          exact ⟨by simpa using HN.out, pad_length H64.out⟩
      · intro k hk; simp [Value.ownBlock] at hk; subst hk; exact hg.1.1
      · intro k hk; simp [Value.ownBlock] at hk; subst hk; exact ⟨hg.1.1, hg.1.2, .inr rfl⟩
      · intro k hk
        simp only [World.size_setCell]
        rcases hk with hk | hk
        · have := hD5 k hk; have := HG6.out.size; omega
        · omega
      · exact ((((((HF.out.trans' HF2.out.no).trans HF3.out hn1).trans HFr.out hn1).drew.trans' HF5.out.no).grown HG6.out (fun k hk => .inl (HX.out k hk.symm.symm).2.2)).setCell _ _ (.inl h6))
      · intro k hk
        rcases hk with hk | hk
        · exact .inl hk
        · subst hk; exact hg.2
end
end Go.Proofs.Ytlnolnaapnijbaa.D
