/-
  awake: the chapter's examples hold.
-/
import Derived.Test.YtlnolnaapnijbaaLogK
import Derived.Test.YtlnolnaapnijbaaLogZ
namespace Go.Proofs.Ytlnolnaapnijbaa.L
set_option maxRecDepth 100000
open Go.RowKit K

section
variable {w0 w : World} {Kp : Nat → Prop} {bd : Nat} {u : U}
/-- Open, where it is known what it answers. -/
theorem lo_open_some {first count ep : Nat} {u' : U} {g : Lg} {recs : List (List UInt8)} (hr : u.opens first count ep = (0, u', some (g, recs))) (h : Lo w0 Kp w bd u) (hc : 2 ≤ count) (hf : first + count ≤ u.L.length) (he : ep < 4294967296) (hp : u.P.length < 1000000) :
    Calls Try.prog 22 #[.pointer (some ⟨bd, 0, none⟩), .int .i64 first, .int .i64 count, .int .u32 ep] w fun e w' =>
      ∃ (bg : Nat) (a : Option Addr) (cap : Nat) (Kp' : Nat → Prop), e = .returned (.tuple #[.pointer (some ⟨bg, 0, none⟩), .slice a recs.length cap, .int .i64 0]) ∧ Ll w0 Kp' w' bg bd g u' ∧ TextsIn w' Kp' (.slice a recs.length cap) recs ∧ (∀ k, Kp k → Kp' k) ∧ Fr (Ap w0 Kp) w w' := by
  refine (lo_open first count ep h hc hf he hp).mono ?_
  rw [hr]
  rintro e w' ⟨r1, bg, a, cap, Kp', rfl, r2, r3, r4⟩
  exact ⟨bg, a, cap, Kp', rfl, r2, r3, r4, r1⟩
theorem ll_append_is {bg : Nat} {g g' : Lg} {u' : U} {n : Int} {x : ByteArray} (hr : u.append g x.data.toList = (n, u', g')) (h : Ll w0 Kp w bg bd g u) (hx : x.size ≤ 9223372036854775807) (hp : u.P.length < 900000) :
    Calls Try.prog 23 #[.pointer (some ⟨bg, 0, none⟩), .string x] w fun e w' => e = .returned (.int .i64 n) ∧ Ll w0 Kp w' bg bd g' u' ∧ Fr (Ap w0 Kp) w w' := by
  have := ll_append x h hx hp
  rwa [hr] at this
theorem ll_sync_is {bg : Nat} {g : Lg} {u' : U} {n : Int} (hr : u.flush = (n, u')) (h : Ll w0 Kp w bg bd g u) :
    Calls Try.prog 25 #[.pointer (some ⟨bg, 0, none⟩)] w fun e w' => e = .returned (.int .i64 n) ∧ Ll w0 Kp w' bg bd g u' ∧ Fr (Ap w0 Kp) w w' := by
  have := ll_sync h
  rwa [hr] at this
end
theorem e1g : lgEq k1.2.2 ⟨0, 8, 1, 1, 2⟩ = true := by decide +kernel
theorem e4g : lgEq k4.2.2 ⟨0, 8, 1, 1, 6⟩ = true := by decide +kernel
theorem e7g : lgEq k7.2.2 ⟨0, 8, 1, 2, 6⟩ = true := by decide +kernel
theorem app_eq {k : Int × U × Lg} {n : Int} {g : Lg} (h1 : k.1 = n) (h2 : lgEq k.2.2 g = true) : k = (n, k.2.1, g) := by
  rw [← h1, ← lg_eq h2]
theorem q1 : k0.2.1.append ⟨0, 8, 1, 1, 1⟩ (⟨#[97, 98]⟩ : ByteArray).data.toList = (0, k1.2.1, ⟨0, 8, 1, 1, 2⟩) := app_eq (k := k1) e1 e1g
theorem q2 : k1.2.1.append ⟨0, 8, 1, 1, 2⟩ (⟨hundred.toArray⟩ : ByteArray).data.toList = (0, k2.2.1, ⟨0, 8, 1, 1, 5⟩) := by
  have h : k2 = (0, k2.2.1, ⟨0, 8, 1, 1, 5⟩) := by
    have := e2
    simp only [Bool.and_eq_true, decide_eq_true_eq] at this
    exact app_eq this.1 this.2
  have h1 : k1.2.2 = ⟨0, 8, 1, 1, 2⟩ := lg_eq (by decide +kernel)
  unfold k2 at h
  rw [h1] at h
  exact h
theorem q3 : k2.2.1.flush = (0, k3.2) := by
  show k3 = (0, k3.2)
  rw [← e3]
theorem q4 : k3.2.append ⟨0, 8, 1, 1, 5⟩ (⟨#[99]⟩ : ByteArray).data.toList = (0, k4.2.1, ⟨0, 8, 1, 1, 6⟩) := by
  have h := app_eq e4 e4g
  have h1 : k2.2.2 = ⟨0, 8, 1, 1, 5⟩ := lg_eq (by decide +kernel)
  unfold k4 at h
  rw [h1] at h
  exact h
theorem q7 : k6.2.1.append ⟨0, 8, 1, 2, 5⟩ (⟨#[100]⟩ : ByteArray).data.toList = (0, k7.2.1, ⟨0, 8, 1, 2, 6⟩) := app_eq (k := k7) e7 e7g
theorem q8 : k7.2.1.append ⟨0, 8, 1, 2, 6⟩ (⟨#[101]⟩ : ByteArray).data.toList = (0, k8.2.1, ⟨0, 8, 1, 2, 7⟩) := by
  have h := app_eq (g := ⟨0, 8, 1, 2, 7⟩) e8 (by decide +kernel)
  have h1 : k7.2.2 = ⟨0, 8, 1, 2, 6⟩ := lg_eq (by decide +kernel)
  unfold k8 at h
  rw [h1] at h
  exact h
theorem texts_get {w : World} {E : Nat → Prop} {a : Option Addr} {cap : Nat} {L : List (List UInt8)} {n : Nat} (h : TextsIn w E (.slice a n cap) L) (h0 : 0 < n) : ∃ b o, a = some ⟨b, o, none⟩ ∧ ∀ i l, L[i]? = some l → w.cell? ⟨b, o + i, none⟩ = some (str l) := by
  obtain ⟨a', len, cap', e1, _, _, h3⟩ := h
  simp only [Value.slice.injEq] at e1
  obtain ⟨rfl, rfl, rfl⟩ := e1
  obtain ⟨b, o, r1, _, _, r4⟩ := h3.resolve_left (by omega)
  exact ⟨b, o, r1, fun i l hi => r4 i _ (by simp [strs, hi])⟩
theorem build2b (w : World) : (Instr.buildSlice 37 2 #[(0, .bool false), (1, .bool true)]).run Try.prog w = .ok (.slice (some ⟨w.heap.size, 0, none⟩) 2 2) (w.alloc (.cells #[.bool false, .bool true] 4)) := by kernel_rfl
theorem u8s_hundred : u8s hundred = List.replicate (100 * 1) (.int .u8 0) := by simp [u8s, hundred]
theorem lens : k0.2.1.L.length = 8 ∧ k0.2.1.P.length < 900000 ∧ k1.2.1.P.length < 900000 ∧ k3.2.P.length < 900000 ∧ k5.L.length = 8 ∧ k5.P.length < 900000 ∧ k6.2.1.P.length < 900000 ∧ k7.2.1.P.length < 900000 ∧ k9.L.length = 8 ∧ k9.P.length < 900000 ∧ k10.2.1.L.length = 8 ∧ k10.2.1.P.length < 900000 := by decide +kernel

set_option maxHeartbeats 4000000 in
theorem awake_any (w : World) : Calls Try.prog 6 #[] w fun e w' => e = .returned (.bool true) ∧ Fr No w w' := by
  obtain ⟨i5, hi5, hz5, hs5, hb5⟩ := info_parts info5z
  have I5 := hid hi5; have Z5 := hid hz5; have S5 := hid hs5; have B5 := hid hb5
  clear hi5 hz5 hs5 hb5
  have HLn := hid lens
  go_enter Try.func6, Try.ntmps6
  go_wp2_with fail
  refine (lo_new (w0 := w) 8 (by decide) (by decide) (Fr.refl _ _)).mono ?_
  rintro e w1 ⟨bd, rfl, h1, _⟩
  have H1 := hid h1; clear h1
  go_wp2_with fail
  refine (lo_open_some (first := 0) (count := 8) (ep := 1) (u := U.new 8) (u' := k0.2.1) (ok_b e0) H1.out (by decide) (by decide) (by decide) (by decide)).mono ?_
  rintro e w2 ⟨bg, a, cap, Kp, rfl, h1, -, -, -⟩
  have H2 := hid h1; clear h1
  go_wp2_with fail
  refine (ll_append_is q1 H2.out (by decide) HLn.out.2.1).mono ?_
  rintro e w3 ⟨rfl, h1, -⟩
  have H3 := hid h1; clear h1
  go_wp2_with (first
    | ((with_reducible show wpList _ _ _ ({ dst := _, op := .makeSlice 66 _ _, type := _, pos := _, after := _, guard := _ } :: _) _ _); refine wpL_make rfl _ _ _ rfl _ i5 _ (.int .u8 0) 1 rfl I5.out Z5.out rfl (by decide) S5.out _ _ 100 rfl rfl (by rw [B5.out]; decide) (by decide) ?_; intro w4 HB4 HF4 HS4)
    | ((with_reducible show wpList _ _ _ ({ dst := _, op := .convert _ 9 _, type := _, pos := _, after := _, guard := _ } :: _) _ _); refine wpL_stringOf rfl 66 9 5 _ rfl _ Any hundred rfl (Blk.bytes (E := Any) (l := hundred) (c := 100) (by rw [u8s_hundred]; exact HB4.out) trivial (by decide)) Try.underlying66 Try.underlying5 Try.underlying9 ?_))
  refine (ll_append_is q2 (H3.out.later HF4.out) (by decide) HLn.out.2.2.1).mono ?_
  rintro e w5 ⟨rfl, h1, -⟩
  have H5 := hid h1; clear h1
  go_wp2_with fail
  refine (ll_next H5.out).mono ?_
  rintro e w' ⟨rfl, rfl⟩
  go_wp2_with fail
  refine (ll_sync_is q3 H5.out).mono ?_
  rintro e w6 ⟨rfl, h1, -⟩
  have H6 := hid h1; clear h1
  go_wp2_with fail
  refine (ll_append_is q4 H6.out (by decide) HLn.out.2.2.2.1).mono ?_
  rintro e w7 ⟨rfl, h1, -⟩
  have H7 := hid h1; clear h1
  go_wp2_with fail
  refine (lo_crash _ [] No H7.out.lo ⟨none, 0, 0, rfl, rfl, .inl rfl⟩ (fun k hk => hk.elim) (by decide)).mono ?_
  rintro e w8 ⟨rfl, h1, -⟩
  have H8 : Hid (Lo w Kp w8 bd k5) := hid h1
  clear h1
  go_wp2_with fail
  refine (lo_open_some (first := 0) (count := 8) (ep := 1) (u := k5) (u' := k6.2.1) (ok_b e6) H8.out (by decide) (by rw [HLn.out.2.2.2.2.1]; decide) (by decide) (by have := HLn.out.2.2.2.2.2.1; omega)).mono ?_
  rintro e w9 ⟨bg9, a9, cap9, Kp9, rfl, h1, h2, -, -⟩
  have H9 := hid h1; have HT9 := hid h2; clear h1 h2
  go_wp2_with fail
  refine (ll_append_is q7 H9.out (by decide) HLn.out.2.2.2.2.2.2.1).mono ?_
  rintro e w10 ⟨rfl, h1, h2⟩
  have H10 := hid h1; have HT10 := hid (HT9.out.ap h2 (fun k hk => .inr hk)); clear h1 h2
  go_wp2_with fail
  refine (ll_append_is q8 H10.out (by decide) HLn.out.2.2.2.2.2.2.2.1).mono ?_
  rintro e w11 ⟨rfl, h1, h2⟩
  have H11 := hid h1; have HT11 := hid (HT10.out.ap h2 (fun k hk => .inr hk)); clear h1 h2
  go_wp2_with ((with_reducible show wpList _ _ _ ({ dst := _, op := .buildSlice 37 _ _, type := _, pos := _, after := _, guard := _ } :: _) _ _); refine wpL_buildSlice rfl _ 4 2 [(0, .const (.bool false)), (1, .const (.bool true))] rfl [.bool false, .bool true] (build2b _) ?_; intro w12 HB12 HF12 HS12)
  refine (lo_crash _ [false, true] (Mo Kp9 w11 w12) (H11.out.more HF12.out.no).lo ⟨_, 2, 2, rfl, rfl, .inr ⟨_, 0, rfl, .inr ⟨Nat.le_refl _, HB12.out.lt⟩, HB12.out.lt, HB12.out.range 0 _ rfl⟩⟩ (fun k hk => .inr hk) (by decide)).mono ?_
  rintro e w13 ⟨rfl, h1, h2⟩
  have H13 : Hid (Lo w (Mo Kp9 w11 w12) w13 bd k9) := hid h1
  have HT13 := hid ((HT11.out.fr HF12.out (fun _ _ _ e => e)).ap h2 (fun k hk => .inr (.inl hk)))
  clear h1 h2
  go_wp2_with fail
  refine (lo_open_some (first := 0) (count := 8) (ep := 1) (u := k9) (u' := k10.2.1) (ok_b e10) H13.out (by decide) (by rw [HLn.out.2.2.2.2.2.2.2.2.1]; decide) (by decide) (by have := HLn.out.2.2.2.2.2.2.2.2.2.1; omega)).mono ?_
  rintro e w14 ⟨bg14, a14, cap14, Kp14, rfl, h1, -, h2, h3⟩
  have H14 := hid h1
  have HT14 := hid (HT13.out.ap h3 (fun k hk => .inr (.inl hk)))
  have HK14 := hid (fun k (hk : Kp9 k) => h2 k (.inl hk))
  clear h1 h2 h3
  go_wp2_with fail
  refine (ll_life H14.out).mono ?_
  rintro e w' ⟨rfl, rfl⟩
  go_wp2_with fail
  refine (lo_open_some (first := 0) (count := 8) (ep := 2) (u := k10.2.1) (u' := k11.2.1) (ok_b e11) H14.out.lo (by decide) (by rw [HLn.out.2.2.2.2.2.2.2.2.2.2.1]; decide) (by decide) (by have := HLn.out.2.2.2.2.2.2.2.2.2.2.2; omega)).mono ?_
  rintro e w15 ⟨bg15, a15, cap15, Kp15, rfl, h1, -, -, h3⟩
  have HF15 := hid h1.fr
  obtain ⟨b, o, rfl, hget⟩ := texts_get (HT14.out.ap h3 (fun k hk => .inr (HK14.out k hk))) (by decide)
  have t0 : w15.cell? ⟨b, o, none⟩ = some (str ab) := hget 0 ab rfl
  have t1 := hget 1 hundred rfl
  have hs : (⟨hundred.toArray⟩ : ByteArray).size = 100 := by decide
  have ht0 : str ab = .string ⟨#[97, 98]⟩ := rfl
  rw [ht0] at t0
  have ht1 : str hundred = .string ⟨hundred.toArray⟩ := rfl
  rw [ht1] at t1
  generalize (⟨hundred.toArray⟩ : ByteArray) = x100 at t1 hs
  clear h1 h3 hget
  go_wp2_with fail
  go_ret
  exact ⟨rfl, HF15.out⟩
end Go.Proofs.Ytlnolnaapnijbaa.L
