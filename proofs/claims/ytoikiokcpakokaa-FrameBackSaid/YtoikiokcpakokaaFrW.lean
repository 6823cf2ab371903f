/-
  Stage 10's law file: awake, the chapter's examples.
-/
import Derived.Test.YtoikiokcpakokaaFrF
import Derived.Test.YtoikiokcpakokaaFrE
set_option linter.unusedVariables false
set_option linter.unusedSimpArgs false
namespace Go.Proofs.Ytoikiokcpakokaa.FR
set_option maxRecDepth 100000
open Go.RowKit K Go.Proofs.Ytoikiokcpakokaa.BE

theorem feed_at (b : Nat) (f : Fs) (c : B) (w : World) (L : List B) (n : Nat) (f' : Fs) (h : FrAt w b f) (hl : f.wait.length + c.length ≤ 1099511627776) (hL : fdF f c = L) (hE : fdE f c = n) (hS : fdS f c = f') :
    Calls Try.prog 9 #[.pointer (some ⟨b, 0, none⟩), .string (sb c)] w fun e w' =>
      ∃ a cap, e = .returned (.tuple #[.slice a L.length cap, .int .i64 (n : Int)]) ∧ TxIn w' (fun k => w.heap.size ≤ k) (.slice a L.length cap) L ∧ FrAt w' b f' ∧ Fr (fun k => k = b) w w' := by
  refine (feed_any b f c w h hl).mono ?_
  rintro e w' ⟨v, rfl, h1, h2, h3⟩
  rw [hL] at h1
  rw [hE]
  rw [hS] at h2
  have h1' := h1
  obtain ⟨a, len, cap, rfl, rfl, -, -⟩ := h1'
  exact ⟨a, cap, rfl, h1, h2, h3⟩
/-- What was made since is apart from b. -/
theorem TxIn.far {w0 w w' : World} {v : Value} {L : List B} {b : Nat} (h : TxIn w (fun k => w0.heap.size ≤ k) v L) (hf : Fr (fun k => k = b) w w') (hb : b < w0.heap.size) : TxIn w' (fun k => w0.heap.size ≤ k) v L :=
  h.fr hf fun k hk _ e => by have e : k = b := e; omega
theorem TxIn.later {w0 w1 w : World} {v : Value} {L : List B} (h : TxIn w (fun k => w1.heap.size ≤ k) v L) (hs : w0.heap.size ≤ w1.heap.size) : TxIn w (fun k => w0.heap.size ≤ k) v L := h.mono fun k e => Nat.le_trans hs e
set_option maxHeartbeats 4000000 in
theorem awake_any (w : World) : Calls Try.prog 7 #[] w fun e w' => e = .returned (.bool true) ∧ Fr No w w' := by
  obtain ⟨is, his, hzs, hss, hbs⟩ := Go.info_parts infoS3
  have HIS := hid his; have HZS := hid hzs; have HSS := hid hss
  clear his hzs hss hbs
  go_enter Try.func7, Try.ntmps7
  go_wp2_with fail
  refine (new_any w).mono ?_
  rintro e w1 ⟨rfl, hb1, f1, hs1⟩
  have HB1 := hid hb1; have F1 := hid f1; have HS1 := hid hs1
  obtain ⟨bf, hbf⟩ : ∃ x, w.heap.size = x := ⟨_, rfl⟩
  rw [hbf]
  have HBF := hid hbf
  clear hb1 f1 hs1 hbf
  go_wp2_with fail
  refine (new_any w1).mono ?_
  rintro e w2 ⟨rfl, hb2, f2, hs2⟩
  have HB2 : Hid (FrAt w2 bf Fs.new) := hid (by rw [← HBF.out]; exact HB1.out.fr f2 id)
  obtain ⟨bg, hbg⟩ : ∃ x, w1.heap.size = x := ⟨_, rfl⟩
  rw [hbg] at hb2 ⊢
  have HG2 := hid hb2; have F2 : Hid (Fr No w w2) := hid (F1.out.trans' f2)
  have HN : Hid (bf < bg ∧ bg < w2.heap.size ∧ w.heap.size = bf) := hid (by have := HS1.out; have := HBF.out; omega)
  clear hb2 f2 hs2 hbg HB1 F1 HS1 HBF
  go_wp2_with fail
  refine (feed_at bf Fs.new [48] w2 [] 0 ⟨[48], false⟩ HB2.out (by decide) (by decide +kernel) (by decide +kernel) (by rfl)).mono ?_
  rintro e w3 ⟨a3, c3, rfl, -, hb3, f3⟩
  have HB3 := hid hb3; have F3 := hid f3; have HW3 := hid f3.size
  clear hb3 f3
  go_wp2_with fail
  refine (waiting_any bf _ w3 HB3.out).mono ?_
  rintro e w3' ⟨rfl, rfl⟩
  go_wp2_with fail
  refine (feed_at bf _ [2, 5, 0, 48, 0, 48] w3' [[48, 2, 5, 0], [48, 0]] 0 ⟨[48], false⟩ HB3.out (by decide) (by decide +kernel) (by decide +kernel) (by rfl)).mono ?_
  rintro e w4 ⟨a4, c4, rfl, ht4, hb4, f4⟩
  have HB4 := hid hb4; have F4 := hid f4; have HT4 := hid ht4; have HW4 := hid f4.size
  clear hb4 f4 ht4
  go_wp2_with fail
  refine (waiting_any bf _ w4 HB4.out).mono ?_
  rintro e w4' ⟨rfl, rfl⟩
  go_wp2_with fail
  refine (feed_at bf _ [128] w4' [] 100 ⟨[], true⟩ HB4.out (by decide) (by decide +kernel) (by decide +kernel) (by rfl)).mono ?_
  rintro e w5 ⟨a5, c5, rfl, -, hb5, f5⟩
  have HB5 := hid hb5; have F5 := hid f5; have HW5 := hid f5.size
  clear hb5 f5
  go_wp2_with fail
  refine (dead_any bf _ w5 HB5.out).mono ?_
  rintro e w5' ⟨rfl, rfl⟩
  go_wp2_with fail
  refine (feed_at bf _ [48, 0] w5' [] 100 ⟨[], true⟩ HB5.out (by decide) (by decide +kernel) (by decide +kernel) (by rfl)).mono ?_
  rintro e w6 ⟨a6, c6, rfl, -, hb6, f6⟩
  have F6 := hid f6; have HW6 := hid f6.size
  clear hb6 f6
  have HF6 : Hid (Fr (fun k => k = bf) w4' w6) := hid (F5.out.trans' F6.out)
  have HG6 : Hid (FrAt w6 bg Fs.new) := hid ((((HG2.out.fr F3.out (fun e => by have e : bg = bf := e; have := HN.out; omega)).fr F4.out (fun e => by have e : bg = bf := e; have := HN.out; omega)).fr HF6.out (fun e => by have e : bg = bf := e; have := HN.out; omega)))
  go_wp2_with fail
  refine (feed_at bg _ [48, 0, 4, 0] w6 [[48, 0]] 100 ⟨[], true⟩ HG6.out (by decide) (by decide +kernel) (by decide +kernel) (by rfl)).mono ?_
  rintro e w7 ⟨a7, c7, rfl, -, hb7, f7⟩
  have F7 := hid f7; have HW7 := hid f7.size
  clear hb7 f7
  have HFF : Hid (Fr (fun k => k = bf ∨ k = bg) w2 w7) := hid ((((F3.out.trans' F4.out).trans' HF6.out).mono fun k e => .inl e).trans' (F7.out.mono fun k e => .inr e))
  have HT7 : Hid (TxIn w7 (fun k => w2.heap.size ≤ k) (.slice a4 2 c4) [[48, 2, 5, 0], [48, 0]]) := hid (by
    have h := HT4.out.later HW3.out
    refine (h.fr HF6.out fun k hk _ e => ?_).fr F7.out fun k hk _ e => ?_
    · have e : k = bf := e; have := HN.out; omega
    · have e : k = bg := e; have := HN.out; omega)
  go_wp2_with (first
    | ((with_reducible show wpList _ _ _ (⟨_, .buildSlice 22 _ _, _, _, _, _⟩ :: _) _ _); refine wpL_buildSlice rfl 22 9 2 [(0, .const (.string ⟨#[48, 2, 5, 0]⟩)), (1, .const (.string ⟨#[48, 0]⟩))] rfl [.string ⟨#[48, 2, 5, 0]⟩, .string ⟨#[48, 0]⟩] (run_buildAll 22 9 [.string ⟨#[48, 2, 5, 0]⟩, .string ⟨#[48, 0]⟩] is _ Try.underlying22 HIS.out HZS.out (by rw [HSS.out]; decide) (by rw [HSS.out]; decide) (by decide) (by rw [HSS.out]; intro v hv; simp at hv; rcases hv with rfl | rfl <;> rfl) _) ?_; intro w8 HB8 F8 HS8)
    | fail)
  refine (texts_any _ (fun k => w7.heap.size ≤ k) _ _ [[48, 2, 5, 0], [48, 0]] [[48, 2, 5, 0], [48, 0]] w8 (HT7.out.no F8.out) ⟨_, 2, 2, rfl, rfl, Nat.le_refl _, .inr ⟨_, _, rfl, Nat.le_refl _, HB8.out.lt, HB8.out.range 0 _ rfl⟩⟩ (by decide) (by decide)).mono ?_
  rintro e w9 ⟨rfl, f9⟩
  rw [decide_eq_true rfl]
  have F9 := hid (F8.out.trans' f9)
  clear f9
  go_wp2_with fail
  go_ret
  refine ⟨rfl, (F2.out.trans HFF.out fun k e => .inr ?_).trans' F9.out⟩
  have := HN.out
  omega
end Go.Proofs.Ytoikiokcpakokaa.FR
