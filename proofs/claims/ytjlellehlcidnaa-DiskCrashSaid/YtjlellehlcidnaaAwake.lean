/-
  awake: the chapter's examples hold.
-/
import Derived.Test.YtjlellehlcidnaaOw
namespace Go.Proofs.Ytjlellehlcidnaa.D
open Go.RowKit K

theorem ow_eq {w0 w : World} {Kp : Nat → Prop} {bd : Nat} {s s' : St} (h : Ow w0 Kp w bd s) (e : s = s') : Ow w0 Kp w bd s' := e ▸ h
theorem buildB (w : World) : (Instr.buildSlice 33 3 #[(0, .bool true), (1, .bool false), (2, .bool true)]).run Try.prog w = .ok (.slice (some ⟨w.heap.size, 0, none⟩) 3 3) (w.alloc (.cells #[.bool true, .bool false, .bool true] 4)) := by kernel_rfl
theorem bools_new {w w' : World} {Kp : Nat → Prop} {t : TypeId} (hB : Blk w' w.heap.size t [.bool true, .bool false, .bool true]) : BoolsIn w' (Mo Kp w w') (.slice (some ⟨w.heap.size, 0, none⟩) 3 3) [true, false, true] :=
  ⟨_, 3, 3, rfl, rfl, .inr ⟨_, 0, rfl, .inr ⟨Nat.le_refl _, hB.lt⟩, hB.lt, hB.range 0 _ rfl⟩⟩
theorem info4z : (Try.prog.info? 4).map (fun i => (i.zero, i.size, i.bytes)) = some (some (.bool false), 1, 1) := by kernel_rfl

set_option maxRecDepth 100000 in
set_option maxHeartbeats 4000000 in
theorem awake_any (w : World) : Calls Try.prog 9 #[] w fun e w' => e = .returned (.bool true) ∧ Fr No w w' := by
  obtain ⟨i5, hi5, hz5, hs5, hb5⟩ := info_parts info5z
  have Hi := hid hi5; have Hz := hid hz5; have Hs := hid hs5
  clear hi5 hz5 hs5 hb5
  go_enter Try.func9, Try.ntmps9
  go_wp2_with fail
  refine (ow_new (w0 := w) 2 (by decide) (by decide) (Fr.refl _ _)).mono ?_
  rintro e w1 ⟨bd, rfl, ho1, hf1⟩
  have HO1 : Hid (Ow w No w1 bd a1) := hid ho1
  clear ho1 hf1
  go_wp2_with ((with_reducible show wpList _ _ _ ({ dst := _, op := .buildSlice 32 _ _, type := _, pos := _, after := _, guard := _ } :: _) _ _); refine wpL_buildOne rfl _ 5 _ rfl i5 _ rfl Hi.out Hz.out (by rw [Hs.out]; decide) (by rw [Hs.out]; decide) _ [.int .u8 1] rfl rfl (by rw [Hs.out]; rfl) ?_; intro w2 HB2 HF2 HS2)
  refine (ow_write (s := a1) 0 _ [1] _ (HO1.out.more HF2.out) (bytes_new HB2.out) (fun k hk => .inr hk) el.1).mono ?_
  rintro e w3 ⟨rfl, ho, hf⟩
  have HO3 := hid ho; have HF3 := hid hf; have HK2 := hid (HO1.out.more HF2.out)
  clear ho hf
  simp only [ea2]
  go_wp2_with ((with_reducible show wpList _ _ _ ({ dst := _, op := .buildSlice 32 _ _, type := _, pos := _, after := _, guard := _ } :: _) _ _); refine wpL_buildOne rfl _ 5 _ rfl i5 _ rfl Hi.out Hz.out (by rw [Hs.out]; decide) (by rw [Hs.out]; decide) _ [.int .u8 2] rfl rfl (by rw [Hs.out]; rfl) ?_; intro w4 HB4 HF4 HS4)
  refine (ow_write (s := a2) 0 _ [2] _ (HO3.out.more HF4.out) (bytes_new HB4.out) (fun k hk => .inr hk) el.2.1).mono ?_
  rintro e w5 ⟨rfl, ho, hf⟩
  have HO5 := hid ho; have HF5 := hid hf; have HK4 := hid (HO3.out.more HF4.out)
  clear ho hf
  simp only [ea3]
  go_wp2_with ((with_reducible show wpList _ _ _ ({ dst := _, op := .buildSlice 32 _ _, type := _, pos := _, after := _, guard := _ } :: _) _ _); refine wpL_buildOne rfl _ 5 _ rfl i5 _ rfl Hi.out Hz.out (by rw [Hs.out]; decide) (by rw [Hs.out]; decide) _ [.int .u8 3] rfl rfl (by rw [Hs.out]; rfl) ?_; intro w6 HB6 HF6 HS6)
  refine (ow_write (s := a3) 1 _ [3] _ (HO5.out.more HF6.out) (bytes_new HB6.out) (fun k hk => .inr hk) el.2.2.1).mono ?_
  rintro e w7 ⟨rfl, ho, hf⟩
  have HO7 := hid ho; have HF7 := hid hf; have HK6 := hid (HO5.out.more HF6.out)
  clear ho hf
  simp only [ea4]
  go_wp2_with fail
  refine (ow_pending (s := a4) HO7.out).mono ?_
  rintro e w' ⟨rfl, rfl⟩
  rw [ep4]
  go_wp2_with ((with_reducible show wpList _ _ _ ({ dst := _, op := .buildSlice 33 _ _, type := _, pos := _, after := _, guard := _ } :: _) _ _); refine wpL_buildSlice rfl _ 4 3 [(0, .const (.bool true)), (1, .const (.bool false)), (2, .const (.bool true))] rfl [.bool true, .bool false, .bool true] (buildB _) ?_; intro w8 HB8 HF8 HS8)
  refine (ow_crash (s := a4) _ [true, false, true] _ (HO7.out.more HF8.out) (bools_new HB8.out) (fun k hk => .inr hk) (by decide)).mono ?_
  rintro e w9 ⟨rfl, ho, hf⟩
  have HO9 : Hid (Ow w _ w9 bd a5) := hid ho; have HF9 := hid hf
  clear ho hf
  simp only [ea5]
  go_wp2_with fail
  refine (ow_read (s := a5) 0 HO9.out).mono ?_
  rintro e w10 ⟨v10, rfl, hb, ho, hf⟩
  rw [er0] at hb
  have HO10 := hid ho; have HF10 := hid hf
  obtain ⟨x10, l10, c10, rfl, hl, h10⟩ := id hb
  obtain rfl : l10 = 64 := by rw [← hl]; rfl
  obtain ⟨g10, o10, rfl, he10, _⟩ := h10.resolve_left (by decide)
  have HV10 := hid hb
  clear ho hf hb hl h10
  simp only [er0]
  go_wp2_with fail
  refine (ow_read (s := a5) 1 HO10.out).mono ?_
  rintro e w11 ⟨v11, rfl, hb, ho, hf⟩
  rw [er1] at hb
  have HO11 := hid ho; have HF11 := hid hf
  obtain ⟨x11, l11, c11, rfl, hl, h11⟩ := id hb
  obtain rfl : l11 = 64 := by rw [← hl]; rfl
  obtain ⟨g11, o11, rfl, he11, _⟩ := h11.resolve_left (by decide)
  have HV11 := hid hb
  clear ho hf hb hl h11
  simp only [er1]
  go_wp2_with fail
  refine (ow_arm (s := a5) 1 (by decide) HO11.out).mono ?_
  rintro e w12 ⟨rfl, ho, hf⟩
  have HO12 : Hid (Ow w _ w12 bd a6) := hid ho; have HF12 := hid hf
  clear ho hf
  simp only [ea6]
  go_wp2_with ((with_reducible show wpList _ _ _ ({ dst := _, op := .buildSlice 32 _ _, type := _, pos := _, after := _, guard := _ } :: _) _ _); refine wpL_buildOne rfl _ 5 _ rfl i5 _ rfl Hi.out Hz.out (by rw [Hs.out]; decide) (by rw [Hs.out]; decide) _ [.int .u8 5] rfl rfl (by rw [Hs.out]; rfl) ?_; intro w13 HB13 HF13 HS13)
  refine (ow_write (s := a6) 1 _ [5] _ (HO12.out.more HF13.out) (bytes_new HB13.out) (fun k hk => .inr hk) el.2.2.2).mono ?_
  rintro e w14 ⟨rfl, ho, hf⟩
  have HO14 := hid ho; have HF14 := hid hf; have HK13 := hid (HO12.out.more HF13.out)
  clear ho hf
  simp only [ea7]
  go_wp2_with fail
  refine (ow_flush (s := a7) HO14.out).mono ?_
  rintro e w15 ⟨rfl, ho, hf⟩
  have HO15 : Hid (Ow w _ w15 bd a8) := hid ho; have HF15 := hid hf
  clear ho hf
  simp only [ea8]
  go_wp2_with fail
  refine (ow_up (s := a8) HO15.out).mono ?_
  rintro e w' ⟨rfl, rfl⟩
  rw [eu8]
  go_wp2_with fail
  refine (ow_read (s := a8) 1 HO15.out).mono ?_
  rintro e w16 ⟨v16, rfl, _, ho, hf⟩
  have HO16 := hid ho; have HF16 := hid hf
  clear ho hf
  simp only [er8]
  go_wp2_with fail
  refine (new_no 0 _ (.inl (by decide))).mono ?_
  rintro e w' ⟨rfl, rfl⟩
  have b10 : BytesIn w16 _ _ (pad [1]) := ((((((HV10.out.fr HF11.out (fun _ _ _ e => e)).ap HF12.out (fun k hk => .inr (.inl hk))).fr HF13.out (fun _ _ _ e => e)).ap HF14.out (fun k hk => .inr (.inl (.inl hk)))).ap HF15.out (fun k hk => .inr (.inl (.inl hk))))).fr HF16.out (fun _ _ _ e => e)
  have b11 : BytesIn w16 _ _ (pad [3]) := (((((HV11.out.ap HF12.out (fun k hk => .inr hk)).fr HF13.out (fun _ _ _ e => e)).ap HF14.out (fun k hk => .inr (.inl hk))).ap HF15.out (fun k hk => .inr (.inl hk)))).fr HF16.out (fun _ _ _ e => e)
  obtain ⟨_, _, _, q1, _, q2⟩ := b10
  simp only [Value.slice.injEq] at q1
  obtain ⟨rfl, rfl, rfl⟩ := q1
  obtain ⟨_, _, q3, _, _, q4⟩ := q2.resolve_left (by decide)
  simp only [Option.some.injEq, Addr.mk.injEq] at q3
  obtain ⟨rfl, rfl, _⟩ := q3
  have k0 := q4 0 (.int .u8 1) rfl
  have k1 := q4 1 (.int .u8 0) rfl
  clear q4 q2
  obtain ⟨_, _, _, q1, _, q2⟩ := b11
  simp only [Value.slice.injEq] at q1
  obtain ⟨rfl, rfl, rfl⟩ := q1
  obtain ⟨_, _, q3, _, _, q4⟩ := q2.resolve_left (by decide)
  simp only [Option.some.injEq, Addr.mk.injEq] at q3
  obtain ⟨rfl, rfl, _⟩ := q3
  have k2 := q4 0 (.int .u8 3) rfl
  clear q4 q2
  simp only [Nat.add_zero] at k0 k2
  go_wp2
  go_ret
  exact ⟨rfl, HO16.out.fr⟩
end Go.Proofs.Ytjlellehlcidnaa.D
