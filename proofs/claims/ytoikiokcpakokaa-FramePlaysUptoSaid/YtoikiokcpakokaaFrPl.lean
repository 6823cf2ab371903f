/-
  FramePlays: whatever chunks come, each answer is as the document says.
-/
import Derived.Test.YtoikiokcpakokaaFrW
import Derived.Test.YtoikiokcpakokaaFrG
set_option linter.unusedVariables false
set_option linter.unusedSimpArgs false
namespace Go.Proofs.Ytoikiokcpakokaa.FR
set_option maxRecDepth 100000
open Go.RowKit K Go.Proofs.Ytoikiokcpakokaa.BE

theorem rfeed_at (b : Nat) (f : Fs) (c : B) (w : World) (L : List B) (n : Nat) (f' : Fs) (h : RfAt w b f) (hl : f.wait.length + c.length ≤ 1099511627776) (hL : fdF f c = L) (hE : fdE f c = n) (hS : fdS f c = f') :
    Calls Try.prog 10 #[.pointer (some ⟨b, 0, none⟩), .string (sb c)] w fun e w' =>
      ∃ a cap, e = .returned (.tuple #[.slice a L.length cap, .int .i64 (n : Int)]) ∧ TxIn w' (fun k => w.heap.size ≤ k) (.slice a L.length cap) L ∧ RfAt w' b f' ∧ Fr (fun k => k = b) w w' := by
  refine (rfeed_any b f c w h hl).mono ?_
  rintro e w' ⟨v, rfl, h1, h2, h3⟩
  rw [hL] at h1
  rw [hE]
  rw [hS] at h2
  have h1' := h1
  obtain ⟨a, len, cap, rfl, rfl, -, -⟩ := h1'
  exact ⟨a, cap, rfl, h1, h2, h3⟩
theorem fd_size (f : Fs) (c : B) : (fdF f c).length ≤ f.wait.length + c.length := by
  unfold fdF
  split
  · simp
  · have := (cut_count (f.wait ++ c)).1
    rw [List.length_append] at this
    omega
set_option maxHeartbeats 16000000 in
theorem framePlays_walk (v0 : Value) (X : List B) (w : World) (h0 : TxIn w (fun k => k < w.heap.size) v0 X) (hX : ∀ x ∈ X, x.length ≤ 1073741824) : Calls Try.prog 3 #[v0] w fun e w' => e = .returned (.bool true) ∧ Fr No w w' := by
  obtain ⟨a0, n0, c0, rfl, hn0, -, hA0⟩ := h0
  have HN0 := hid hn0; have HA0 := hid hA0; have HX := hid hX
  clear hn0 hA0 hX
  go_enter Try.func3, Try.ntmps3
  go_wp2_with fail
  refine (awake_any w).mono ?_
  rintro e w1 ⟨rfl, f1⟩
  have F1 := hid f1
  clear f1
  go_wp2_with fail
  refine (new_any w1).mono ?_
  rintro e w2 ⟨rfl, hb2, f2, hs2⟩
  obtain ⟨bf, hbf⟩ : ∃ x, w1.heap.size = x := ⟨_, rfl⟩
  rw [hbf] at hb2 ⊢
  have HB2 := hid hb2; have F2 := hid (F1.out.trans' f2)
  have HN : Hid (w.heap.size ≤ bf ∧ w2.heap.size = bf + 1) := hid (by have := F1.out.size; omega)
  clear hb2 f2 hs2 hbf F1
  go_wp2_with (first
    | ((with_reducible show wpList _ _ _ (⟨_, .box 28 _, _, _, _, _⟩ :: _) _ _); refine wpL_box rfl _ _ rfl _ rfl [.string (sb []), .bool false] rfl ?_; intro w3 HB3 F3 HS3; refine Hid.out ?_)
    | fail)
  obtain ⟨bg, hbg⟩ : ∃ x, w2.heap.size = x := ⟨_, rfl⟩
  rw [hbg]
  have HI0 : Hid (FrAt w3 bf Fs.new ∧ RfAt w3 bg Fs.new ∧ Fr No w w3) := hid ⟨HB2.out.fr F3.out id, by have h := HB3.out; rw [hbg] at h; exact h, F2.out.trans' F3.out⟩
  have HNN : Hid (w.heap.size ≤ bf ∧ bf < bg ∧ bg < w3.heap.size) := hid (by have := HN.out; have := HS3.out; omega)
  clear HB2 F2 HN HB3 F3 HS3 hbg
  refine hid ?_
  go_wp2_with fail
  go_loopw [6] (fun iv wr => ∃ (i : Nat) (f : Fs), iv = .int .i64 i ∧ i ≤ 200 ∧ Hid (f.wait.length ≤ 1073741824 * i ∧ FrAt wr bf f ∧ RfAt wr bg f ∧ Fr No w wr)) (fun iv _ => 200 - (intOf iv).toNat)
  case atStart => exact ⟨0, Fs.new, rfl, by omega, hid ⟨Nat.zero_le _, HI0.out⟩⟩
  case round =>
    clear HI0
    obtain ⟨i, f, rfl, hi, HI⟩ := hrel
    by_cases hlt : i < n0 ∧ i < 200
    · have h1 : (i : Int) < n0 := by omega
      have h2 : (i : Int) < 200 := by omega
      obtain ⟨g, o, rfl, hg0, hg1, hr⟩ := HA0.out.resolve_left (by omega)
      have hiX : i < X.length := by rw [HN0.out]; exact hlt.1
      obtain ⟨x, hx⟩ : ∃ x, X[i] = x := ⟨_, rfl⟩
      have HCX : Hid (∀ w9, Fr No w w9 → w9.cell? ⟨g, o + i, none⟩ = some (.string (sb x))) := hid fun w9 f9 => by rw [← hx]; exact cell_tx (f9.range hr id) hiX
      have k1 := HCX.out wr HI.out.2.2.2
      have hxl : x.length ≤ 1073741824 := by rw [← hx]; exact HX.out _ (List.getElem_mem _)
      have HFL := hid (show f.wait.length + x.length ≤ 1073741824 * (i + 1) by have := HI.out.1; omega)
      have HG := hid (show g < w.heap.size from hg0)
      have HLT := hid hlt
      obtain ⟨L, hL⟩ : ∃ L, fdF f x = L := ⟨_, rfl⟩
      obtain ⟨n, hn⟩ : ∃ n, fdE f x = n := ⟨_, rfl⟩
      obtain ⟨f', hf'⟩ : ∃ f', fdS f x = f' := ⟨_, rfl⟩
      have HL := hid hL; have HE := hid hn; have HS := hid hf'
      have HLL := hid (show L.length ≤ 1073741824 * 200 by have := fd_size f x; rw [hL] at this; have := HFL.out; omega)
      have HW' := hid (show f'.wait.length ≤ 1073741824 * (i + 1) by have := fd_wait f x; rw [hf'] at this; have := HFL.out; omega)
      clear hr hg0 hg1 hlt hx hxl hL hn hf'
      go_wp2_with fail
      refine (feed_at bf f x wr L n f' HI.out.2.1 (by have := HFL.out; omega) HL.out HE.out HS.out).mono ?_
      rintro e w4 ⟨a4, c4, rfl, ht4, hb4, f4⟩
      have hw4 : Fr No w w4 := HI.out.2.2.2.trans f4 fun k e => .inr (by have e : k = bf := e; have := HNN.out; omega)
      have k2 := HCX.out w4 hw4
      have HT4 := hid ht4; have HB4 := hid hb4; have F4 := hid f4; have HW4 := hid hw4
      have HG4 : Hid (RfAt w4 bg f) := hid (HI.out.2.2.1.fr f4 fun e => by have e : bg = bf := e; have := HNN.out; omega)
      clear ht4 hb4 f4 hw4 k1
      go_wp2_with fail
      refine (rfeed_at bg f x w4 L n f' HG4.out (by have := HFL.out; omega) HL.out HE.out HS.out).mono ?_
      rintro e w5 ⟨a5, c5, rfl, ht5, hb5, f5⟩
      have hw5 : Fr No w w5 := HW4.out.trans f5 fun k e => .inr (by have e : k = bg := e; have := HNN.out; omega)
      have HT5 := hid ht5; have HG5 := hid hb5; have F5 := hid f5; have HW5 := hid hw5
      have HB5 : Hid (FrAt w5 bf f') := hid (HB4.out.fr f5 fun e => by have e : bf = bg := e; have := HNN.out; omega)
      clear ht5 hb5 f5 hw5 k2
      go_wp2_with fail
      refine (texts_any _ _ _ _ L L w5 (HT4.out.fr F5.out fun k hk _ e => by have e : k = bg := e; have := HNN.out; have h : wr.heap.size ≤ k := hk; have := HI.out.2.2.1.lt; omega) HT5.out (by have := HLL.out; omega) (by have := HLL.out; omega)).mono ?_
      rintro e w6 ⟨rfl, f6⟩
      rw [decide_eq_true rfl]
      have HB6 : Hid (FrAt w6 bf f') := hid (HB5.out.fr f6 id)
      have HG6 : Hid (RfAt w6 bg f') := hid (HG5.out.fr f6 id)
      have HW6 := hid (HW5.out.trans' f6)
      clear f6
      go_wp2_with fail
      refine (waiting_any bf _ w6 HB6.out).mono ?_
      rintro e w6' ⟨rfl, rfl⟩
      go_wp2_with fail
      refine (dead_any bf _ w6' HB6.out).mono ?_
      rintro e w6'' ⟨rfl, rfl⟩
      have k3 : w6''.cell? ⟨bg, 0, none⟩ = some (.string (sb f'.wait)) := HG6.out.cell 0
      have k4 : w6''.cell? ⟨bg, 1, none⟩ = some (.bool f'.dead) := HG6.out.cell 1
      have hsz : ((sb f'.wait).size : Int) = f'.wait.length := by rw [sb_size]
      obtain ⟨sw, hsw⟩ : ∃ sw, sb f'.wait = sw := ⟨_, rfl⟩
      obtain ⟨lw, hlw⟩ : ∃ lw, f'.wait.length = lw := ⟨_, rfl⟩
      obtain ⟨dd, hdd⟩ : ∃ dd, f'.dead = dd := ⟨_, rfl⟩
      rw [hsw] at k3 hsz
      rw [hlw] at hsz ⊢
      rw [hdd] at k4 ⊢
      clear hsw hlw hdd
      go_wp2_with fail
      go_roundw
      case rel => exact ⟨i + 1, f', by go_num, by have := HLT.out; omega, hid ⟨HW'.out, HB6.out, HG6.out, HW6.out⟩⟩
      case measure => have := HLT.out; simp [intOf]; omega
    · have hstep : ¬ ((i : Int) < n0 ∧ (i : Int) < 200) := by omega
      by_cases h1 : (i : Int) < n0
      · have h2 : ¬ (i : Int) < 200 := fun h => hstep ⟨h1, h⟩
        clear hlt hstep
        go_wp2_with fail
        go_ret
        exact ⟨rfl, HI.out.2.2.2⟩
      · clear hlt hstep
        go_wp2_with fail
        go_ret
        exact ⟨rfl, HI.out.2.2.2⟩
end Go.Proofs.Ytoikiokcpakokaa.FR
