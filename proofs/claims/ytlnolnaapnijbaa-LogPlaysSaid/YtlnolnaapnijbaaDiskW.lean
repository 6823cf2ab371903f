/-
  Package disk: writing.
-/
import Derived.Test.YtlnolnaapnijbaaDiskN
import Derived.Test.YtlnolnaapnijbaaDraw
namespace Go.Proofs.Ytlnolnaapnijbaa.D
set_option maxRecDepth 100000
open Go.RowKit K

/-- 64 bytes: these, and noughts behind them. -/
def pad (bs : List Int) : List Int := bs ++ List.replicate (64 - bs.length) 0
theorem pad_length {bs : List Int} (h : bs.length ≤ 64) : (pad bs).length = 64 := by simp [pad]; omega
@[simp] theorem St.spend_P (s : St) : s.spend.2.P = s.P := by unfold St.spend; (repeat' split) <;> rfl
@[simp] theorem St.spend_L (s : St) : s.spend.2.L = s.L := by unfold St.spend; (repeat' split) <;> rfl
theorem rowsP_snoc (P : List (Nat × List Int)) (i : Nat) (l : List Int) : rowsP (P ++ [(i, l)]) = rowsP P ++ (.int .i64 i :: u8s l) := by simp [rowsP]
/-- What Write answers, and the disk behind it. -/
def St.write (s : St) (n : Int) (bs : List Int) : Int × St :=
  if s.up = false then (10, s) else if ¬ (0 ≤ n ∧ n < s.L.length) then (11, s) else if 64 < bs.length then (2, s)
  else if s.spend.1 = false then (10, s.spend.2) else (0, { s.spend.2 with P := s.P ++ [(n.toNat, pad bs)] })

section
variable {w : World} {bd : Nat} {D : Nat → Prop} {s : St}
/-- Write is refused ahead of the power. -/
theorem write_no (n : Int) (v : Value) (bs : List Int) (E : Nat → Prop) (hv : BytesIn w E v bs) (h : At w bd D s) (hno : s.up = false ∨ ¬ (0 ≤ n ∧ n < s.L.length) ∨ 64 < bs.length) :
    Calls Try.prog 36 #[.pointer (some ⟨bd, 0, none⟩), .int .i64 n, v] w fun e w' => e = .returned (.int .i64 (s.write n bs).1) ∧ (s.write n bs).2 = s ∧ w = w' := by
  obtain ⟨bl, pv, c0, c1, c2, c3⟩ := h.cells
  simp only [id] at c2
  obtain ⟨a, len, cap, rfl, hl, _⟩ := hv
  cases hu : s.up with
  | false =>
    have e1 : s.write n bs = (10, s) := by simp [St.write, hu]
    rw [e1]
    rw [hu] at c2
    clear h hu e1 hno hl
    go_enter Try.func36, Try.ntmps36
    go_wp2
    go_ret
    exact ⟨rfl, trivial, rfl⟩
  | true =>
    rw [hu] at c2
    have hh := has_any n h
    by_cases hn : 0 ≤ n ∧ n < s.L.length
    · rw [decide_eq_true hn] at hh
      have h64 : 64 < bs.length := by rcases hno with h | h | h; · simp [hu] at h
                                      · exact absurd hn h
                                      · exact h
      have e1 : s.write n bs = (2, s) := by simp [St.write, hu, hn, h64]
      rw [e1]
      have hlen : (64 : Int) < len := by omega
      have HH := hid hh
      clear h hu hh hn e1 hno hl h64
      go_enter Try.func36, Try.ntmps36
      go_wp2_with (go_at_call 67; refine HH.out.mono ?_; rintro e w' ⟨rfl, rfl⟩)
      go_ret
      exact ⟨rfl, trivial, rfl⟩
    · rw [decide_eq_false hn] at hh
      have e1 : s.write n bs = (11, s) := by simp [St.write, hu, hn]
      rw [e1]
      have HH := hid hh
      clear h hu hh hn e1 hno hl
      go_enter Try.func36, Try.ntmps36
      go_wp2_with (go_at_call 67; refine HH.out.mono ?_; rintro e w' ⟨rfl, rfl⟩)
      go_ret
      exact ⟨rfl, trivial, rfl⟩

/-- Write finds no power left. -/
theorem write_out (n : Int) (v : Value) (bs : List Int) (E : Nat → Prop) (hv : BytesIn w E v bs) (h : At w bd D s) (hu : s.up = true) (hn : 0 ≤ n ∧ n < s.L.length) (h64 : bs.length ≤ 64) (hs : s.spend.1 = false) :
    Calls Try.prog 36 #[.pointer (some ⟨bd, 0, none⟩), .int .i64 n, v] w fun e w' => e = .returned (.int .i64 (s.write n bs).1) ∧ At w' bd D (s.write n bs).2 ∧ Fr D w w' := by
  obtain ⟨bl, pv, c0, c1, c2, c3⟩ := h.cells
  simp only [id] at c2
  obtain ⟨a, len, cap, rfl, hl, _⟩ := hv
  rw [hu] at c2
  have hh := has_any n h
  rw [decide_eq_true hn] at hh
  have e1 : s.write n bs = (10, s.spend.2) := by simp [St.write, hu, hn, Nat.not_lt.2 h64, hs]
  rw [e1]
  have hsp := spend_any h
  rw [hs] at hsp
  have hlen : ¬ (64 : Int) < len := by omega
  have HH := hid hh; have HS := hid hsp
  clear h hu hh hn e1 hsp hl h64 hs
  go_enter Try.func36, Try.ntmps36
  go_wp2_with (first
    | (go_at_call 67; refine HH.out.mono ?_; rintro e w' ⟨rfl, rfl⟩)
    | (go_at_call 68; refine HS.out.mono ?_; rintro e w1 ⟨rfl, hA, hF⟩; have HA := hid hA; have HF := hid hF; clear hA hF))
  go_ret
  exact ⟨rfl, HA.out, HF.out⟩

theorem zero77 (w : World) : (zeroValue 119).run Try.prog w = .ok (.agg (.int .i64 0 :: zero64).toArray) w := by kernel_rfl
theorem build77 (n : Int) (w : World) : (Instr.build 119 #[(0, .int .i64 n)]).run Try.prog w = .ok (.agg (.int .i64 n :: zero64).toArray) w := by kernel_rfl
theorem info77 : (Try.prog.info? 119).map (·.size) = some 65 := by kernel_rfl
theorem info77z : (Try.prog.info? 119).map (fun i => (i.zero, i.size, i.bytes)) = some (some (.agg (.int .i64 0 :: zero64).toArray), 65, 72) := by kernel_rfl

theorem write_yes (i : Nat) (v : Value) (bs : List Int) (E : Nat → Prop) (hv : BytesIn w E v bs) (hE : ∀ k, E k → ¬ D k) (h : At w bd D s) (hu : s.up = true) (hn : i < s.L.length) (h64 : bs.length ≤ 64) (hs : s.spend.1 = true) (hp : s.P.length < 1000000) :
    Calls Try.prog 36 #[.pointer (some ⟨bd, 0, none⟩), .int .i64 i, v] w fun e w' => e = .returned (.int .i64 (s.write i bs).1) ∧ ∃ D', At w' bd D' (s.write i bs).2 ∧ Fr D w w' ∧ Grows w D D' := by
  obtain ⟨bl, pv, c0, c1, c2, c3⟩ := h.cells
  simp only [id] at c2
  rw [hu] at c2
  have hh := has_any i h
  rw [decide_eq_true (show 0 ≤ (i : Int) ∧ (i : Int) < s.L.length by omega)] at hh
  have e1 : s.write i bs = (0, { s.spend.2 with P := s.P ++ [(i, pad bs)] }) := by simp [St.write, hu, hn, Nat.not_lt.2 h64, hs]
  rw [e1]
  have hsp := spend_any h
  rw [hs] at hsp
  obtain ⟨a, len, cap, rfl, hl, -, hsrc⟩ := id hv
  have hlen : ¬ (64 : Int) < len := by omega
  have HH := hid hh; have HS := hid hsp; have HV := hid hv; have HL := hid hl; have H64 := hid h64; have HE := hid hE; have HN := hid hn
  clear hv h hu hh hn e1 hsp hl h64 hs c0 c1 c3 hsrc hE
  go_enter Try.func36, Try.ntmps36
  go_wp2_with (first
    | (go_at_call 67; refine HH.out.mono ?_; rintro e w' ⟨rfl, rfl⟩)
    | (go_at_call 68; refine HS.out.mono ?_; rintro e w1 ⟨rfl, hA, hF⟩; have HA := hid hA; have HF := hid hF; clear hA hF)
    | ((with_reducible show wpList _ _ _ ({ dst := _, op := .build 119 _, type := _, pos := _, after := _, guard := _ } :: _) _ _); refine wpL_build rfl _ _ rfl _ (build77 _ _) ?_)
    | ((with_reducible show wpList _ _ _ ({ dst := _, op := .alloc 119, type := _, pos := _, after := _, guard := _ } :: _) _ _); refine wpL_alloc rfl _ rfl _ zero77 (.int .i64 0 :: zero64) rfl ?_; intro w2 HB2 HF2 HS2)
    | ((with_reducible show wpList _ _ _ ({ dst := _, op := .store 119 _ _, type := _, pos := _, after := _, guard := _ } :: _) _ _); refine wpL_store rfl _ _ _ rfl w1.heap.size 0 (.int .i64 i :: zero64) rfl rfl _ _ HB2.out (by simp [zero64]) (by rw [info77]; rfl) (by simp [zero64, Value.oneCell']) ?_; intro w3 HB3 HF3 HS3)
    | ((with_reducible show wpList _ _ _ ({ dst := _, op := .call { callee := .builtin .copy, args := _, argTypes := _ }, type := _, pos := _, after := _, guard := _ } :: _) _ _); refine wpL_copyB rfl _ _ _ _ rfl 5 rfl info8 _ _ _ _ _ _ _ rfl rfl 119 (spl (.int .i64 0 :: zero64) 0 (.int .i64 i :: zero64)) HB3.out (u8s bs) ?_ ?_ ?_ (u8s_one bs) ?_; rotate_right; intro w4 HB4 HF4 HS4))
  · have hA4 : At w4 bd D s.spend.2 := ((HA.out.no HF2.out).fr HF3.out (fun k hk e => by have := HA.out.lt k hk; omega)).fr HF4.out (fun k hk e => by have := HA.out.lt k hk; omega)
    have hB4 : Blk w4 w1.heap.size 119 (.int .i64 i :: u8s (pad bs)) := by
      have e1 : spl (.int .i64 0 :: zero64) 0 (.int .i64 i :: zero64) = .int .i64 i :: zero64 := rfl
      have e2 : spl (.int .i64 i :: zero64) 1 (u8s bs) = .int .i64 i :: u8s (pad bs) := by
        have := H64.out
        simp only [spl, zero64, pad, u8s, List.map_append, List.map_replicate, List.take_succ_cons, List.take_zero, List.cons_append, List.nil_append, List.length_map, Nat.add_comm 1, List.drop_succ_cons, List.drop_replicate]
      have := HB4.out
      rwa [e1, e2] at this
    have hbw : w1.heap.size < w4.heap.size := hB4.lt
    obtain ⟨ok, bl4, pv4, h1, h2, h3, h4, h5, h6, h7, h8⟩ := hA4
    have c1 : w4.cell? ⟨bd, 1, none⟩ = some pv4 := h1.cell 1
    have r1 : w4.rangeAt w1.heap.size 0 (.int .i64 i :: u8s (pad bs)) := hB4.range 0 _ (by rw [List.drop_zero, List.take_length])
    have hold : Facts.hold [(4, fun w' => w'.cell? ⟨bd, 1, none⟩ = some pv4), (5, fun w' => w'.rangeAt w1.heap.size 0 (.int .i64 i :: u8s (pad bs)))] w4.drew := Facts.cons_hold c1 (Facts.cons_hold r1 (Facts.nil_hold _))
    refine wpD_region hold (by kernel_rfl) 11 rfl ?_
    (refine wpD_plain 0 (v := ?_) rfl (by kernel_rfl) (by kernel_rfl) (by kernel_rfl) (fun _ _ _ h => h) (by rfl) ?_ (by assumption) ?_; rotate_left; (intro _w; go_simp; try with_reducible rfl); simp only [Act.put, List.setIfInBounds_toArray, List.set_cons_zero, List.set_cons_succ])
    (refine wpD_plain 1 (v := ?_) rfl (by kernel_rfl) (by kernel_rfl) (by kernel_rfl) (fun _ _ _ h => h) (by rfl) ?_ (by assumption) ?_; rotate_left; (intro _w; go_simp; try with_reducible rfl); simp only [Act.put, List.setIfInBounds_toArray, List.set_cons_zero, List.set_cons_succ])
    (refine wpD_plain 2 (v := ?_) rfl (by kernel_rfl) (by kernel_rfl) (by kernel_rfl) (fun _ _ _ h => h) (by rfl) ?_ (by assumption) ?_; rotate_left; (intro _w; go_simp; try with_reducible rfl); simp only [Act.put, List.setIfInBounds_toArray, List.set_cons_zero, List.set_cons_succ])
    (refine wpD_plain 3 (v := ?_) rfl (by kernel_rfl) (by kernel_rfl) (by kernel_rfl) (fun _ _ _ h => h) (by rfl) ?_ (by assumption) ?_; rotate_left; (intro _w; go_simp; try with_reducible rfl); simp only [Act.put, List.setIfInBounds_toArray, List.set_cons_zero, List.set_cons_succ])
    refine wpD_take 4 _ rfl (by kernel_rfl) (by kernel_rfl) (by kernel_rfl) (fun _ _ _ h => h) List.mem_cons_self (by rfl) (v := ?_) ?_ hold ?_
    rotate_left
    · intro w hw
      go_simp
      with_reducible rfl
    simp only [Act.put, List.setIfInBounds_toArray, List.set_cons_zero, List.set_cons_succ]
    refine wpD_take 5 _ rfl (by kernel_rfl) (by kernel_rfl) (by kernel_rfl) (fun _ _ _ h => h) (List.mem_cons_of_mem _ List.mem_cons_self) (by rfl) (exec_load _ _ rfl w1.heap.size 0 rfl _ _ rfl rfl (by simp [pad_length H64.out, info77])) hold ?_
    simp only [Act.put, List.setIfInBounds_toArray, List.set_cons_zero, List.set_cons_succ]
    obtain ⟨i77, hi77, hz77, hs77, hb77⟩ := info_parts info77z
    refine wpD_only 6 [(4, fun w' => w'.cell? ⟨bd, 1, none⟩ = some pv4)] rfl (by kernel_rfl) (by kernel_rfl) (by rfl) (fun K6 hK6 => ?_)
    refine wp_buildOne _ 119 _ rfl i77 _ rfl hi77 hz77 (by rw [hs77]; decide) (by rw [hs77]; decide) _ (.int .i64 i :: u8s (pad bs)) rfl rfl (by rw [hs77]; simp [pad_length H64.out]) ?_
    intro w5 HB5 HF5 HS5
    have c5 : w5.cell? ⟨bd, 1, none⟩ = some pv4 := HF5.out.cell (w := w4.drew) c1 id
    refine hK6 _ _ (Facts.cons_hold c5 (Facts.nil_hold _)) ?_
    clear hK6 K6
    simp only [Act.put, List.setIfInBounds_toArray, List.set_cons_zero, List.set_cons_succ]
    have hlt5 : ∀ k, D k → k < w4.heap.size := h8
    have own5 : w5.ownsRow 0 119 65 pv4 s.spend.2.P.length (rowsP s.spend.2.P) := own_fr (w := w4.drew) h3 HF5.out (fun k _ e => e)
    have hsz5 := HS5.out
    have B5 : Blk w5 bd _ _ := h1.fr (w := w4.drew) HF5.out id
    have Bl5 : Blk w5 bl4 _ _ := h2.fr (w := w4.drew) HF5.out id
    have hpl : s.spend.2.P.length = s.P.length := by rw [St.spend_P]
    refine wpD_only 7 [] rfl (by kernel_rfl) (by kernel_rfl) (by rfl) (fun K7 hK7 => ?_)
    refine wp_append_lies w5 _ _ _ rfl 0 119 i77 _ 65 72 rfl hi77 hz77 hs77 hb77 rfl (by decide) pv4 s.spend.2.P.length (rowsP s.spend.2.P) rfl own5 ⟨w4.drew.heap.size, 0, none⟩ 1 1 (.int .i64 i :: u8s (pad bs)) rfl (by simp [pad_length H64.out]) HB5.out.news
      (by intro u hu; rcases List.mem_cons.1 hu with rfl | hu; · rfl
          · exact u8s_one _ u hu) (by decide) (by unfold maxLen; omega) (by omega) (Nat.zero_le _) _ rfl ?_
    intro g cap6 w6 own6 gr6 hat6 hlt6
    have hbd6 : some bd ≠ pv4.ownBlock := fun e => (h5 bd e.symm).1 rfl
    have hbl6 : some bl4 ≠ pv4.ownBlock := fun e => (h5 bl4 e.symm).2.1 rfl
    have B6 := B5.grown gr6 hbd6
    have Bl6 := Bl5.grown gr6 hbl6
    have hold6 : Facts.hold [] w6 := Facts.nil_hold w6
    refine hK7 _ _ hold6 ?_
    clear hK7 K7
    simp only [Act.put, List.setIfInBounds_toArray, List.set_cons_zero, List.set_cons_succ]
    (refine wpD_plain 8 (v := ?_) rfl (by kernel_rfl) (by kernel_rfl) (by kernel_rfl) (fun _ _ _ h => h) (by rfl) ?_ (by assumption) ?_; rotate_left; (intro _w; go_simp; try with_reducible rfl); simp only [Act.put, List.setIfInBounds_toArray, List.set_cons_zero, List.set_cons_succ])
    (refine wpD_plain 9 (v := ?_) rfl (by kernel_rfl) (by kernel_rfl) (by kernel_rfl) (fun _ _ _ h => h) (by rfl) ?_ (by assumption) ?_; rotate_left; (intro _w; go_simp; try with_reducible rfl); simp only [Act.put, List.setIfInBounds_toArray, List.set_cons_zero, List.set_cons_succ])
    have c6 : w6.cell? ⟨bd, 1, none⟩ = some pv4 := B6.cell 1
    have f6 : w6.frozen? ⟨bd, 1, none⟩ = false := B6.frozen 1
    have HO6 := hid own6; have HA6 := hid hat6; have HX := hid h5; have HB6 := hid B6; have HBl6 := hid Bl6; have HG6 := hid gr6
    clear own6 hat6 h5 B6 Bl6 B5 Bl5 own5 h1 h2 h3 hbd6 hbl6 hsz5 hpl gr6 c1 c5 hB4 r1 hold
    refine wpD_only 10 [] rfl (by kernel_rfl) (by kernel_rfl) (by rfl) (fun K8 hK8 => ?_)
    go_simp
    refine hK8 _ _ (Facts.nil_hold _) ?_
    refine wpD_done (by kernel_rfl) ?_ _
    clear hK8 K8
    go_wp2
    go_ret
    have hD5 : ∀ k, D k → k < w5.heap.size := fun k hk => Nat.lt_of_lt_of_le (hlt5 k hk) HF5.out.size
    have hg : (g ≠ bd ∧ g ≠ bl4) ∧ (D g ∨ w.heap.size ≤ g) := by
      rcases HA6.out with h | h
      · obtain ⟨x, y, z⟩ := HX.out g h
        exact ⟨⟨x, y⟩, .inl z⟩
      · have := hD5 bd h6
        have := hD5 bl4 h7
        have s1 := HF.out.size
        have s2 := HF2.out.size
        have s3 := HF3.out.size
        have s4 := HF4.out.size
        have s5 : w4.heap.size ≤ w5.heap.size := HF5.out.size
        exact ⟨⟨by omega, by omega⟩, .inr (by omega)⟩
    have hn1 : ∀ k, k = w1.heap.size → D k ∨ w.heap.size ≤ k := fun k hk => .inr (by have := HF.out.size; omega)
    have own7 := HO6.out
    rw [St.spend_P, ← rowsP_snoc] at own7
    refine ⟨rfl, fun k => D k ∨ k = g, ⟨⟨ok.1, ok.2, ok.3, ?_, ok.5, ok.6⟩, bl4, _, HB6.out.set 1 _, HBl6.out.set_other _ _ (Ne.symm h4), own_set (by simpa using own7) ?_, h4, ?_, .inl h6, .inl h7, ?_⟩, ?_, ?_⟩
    · intro p hp
      rcases List.mem_append.1 hp with hp | hp
      · exact ok.4 p (by rw [St.spend_P]; exact hp)
      · obtain rfl := List.mem_singleton.1 hp
        exact ⟨by simpa using HN.out, pad_length H64.out⟩
    · intro k hk; simp [Value.ownBlock] at hk; subst hk; exact hg.1.1
    · intro k hk; simp [Value.ownBlock] at hk; subst hk; exact ⟨hg.1.1, hg.1.2, .inr rfl⟩
    · intro k hk
      simp only [World.size_setCell]
      rcases hk with hk | hk
      · have := hD5 k hk; have := HG6.out.size; omega
      · omega
    · exact ((((((HF.out.trans' HF2.out.no).trans HF3.out hn1).trans HF4.out hn1).drew.trans' HF5.out.no).grown HG6.out (fun k hk => .inl (HX.out k hk.symm.symm).2.2)).setCell _ _ (.inl h6))
    · intro k hk
      rcases hk with hk | hk
      · exact .inl hk
      · subst hk; exact hg.2
  · rw [u8s_length, HL.out]; exact (Nat.min_eq_left (by have := HL.out; have := H64.out; omega)).symm
  · have hw1 : ∀ k, E k → k < w.heap.size → k < w1.heap.size := fun k _ hk => Nat.lt_of_lt_of_le hk HF.out.size
    obtain ⟨a', len', cap', e1, e2, -, e3⟩ := HV.out
    simp only [Value.slice.injEq] at e1
    obtain ⟨rfl, rfl, rfl⟩ := e1
    rcases e3 with e3 | ⟨g, o, rfl, hg, hgl, hr⟩
    · exact .inl (by rw [u8s_length, e2, e3])
    · refine .inr ⟨_, rfl, range_loads (HF3.out.range (HF2.out.range (HF.out.range hr (HE.out g hg)) id) (fun e => ?_))⟩
      have := hw1 g hg hgl
      have e' : g = w1.heap.size := e
      omega
  · have := H64.out; simp [spl_length, zero64]; omega
end
end Go.Proofs.Ytlnolnaapnijbaa.D
