/-
  Part 22 of the proof: LogO.
-/
import Derived.Test.YtflfmkokfbgclaaGreatRc19
set_option linter.unusedSimpArgs false
set_option linter.unusedVariables false
namespace Go.Proofs.YtflfmkokfbgclaaGreat.L
set_option maxRecDepth 100000
open Go.RowKit K

theorem spend_up (u : U) (h : u.spend.1 = true) : u.spend.2.up = u.up := by
  unfold U.spend at *
  split at h
  · simp at h
  · rename_i h1
    rw [if_neg h1]
    split <;> rfl
theorem flush_ok {u : U} (h : u.flush.1 = 0) : u.up = true ∧ u.spend.1 = true ∧ u.flush.2 = { u.spend.2 with L := applied u.L u.P, P := [] } ∧ u.flush.2.up = true := by
  unfold U.flush at *
  by_cases h1 : u.up = false
  · rw [if_pos h1] at h; simp at h
  rw [if_neg h1] at h ⊢
  by_cases h4 : u.spend.1 = false
  · rw [if_pos h4] at h; simp at h
  rw [if_neg h4] at h ⊢
  have h5 : u.spend.1 = true := by simpa using h4
  have h1' : u.up = true := by simpa using h1
  exact ⟨h1', h5, rfl, by simp only; rw [spend_up u h5]; exact h1'⟩
theorem begin_ok {u : U} {first : Nat} (h : (u.begin first).1 = 0) : u.up = true ∧ headLife (look (u.sec first)) ≠ 4294967295 ∧ (u.begin first).2.2 = headLife (look (u.sec first)) ∧
    (u.write first (made 0 (headLife (look (u.sec first)) + 1) 0 4 0 zeros48)).1 = 0 ∧ (u.write first (made 0 (headLife (look (u.sec first)) + 1) 0 4 0 zeros48)).2.flush.1 = 0 ∧
    (u.begin first).2.1 = (u.write first (made 0 (headLife (look (u.sec first)) + 1) 0 4 0 zeros48)).2.flush.2 ∧ (u.begin first).2.1.up = true := by
  unfold U.begin at *
  by_cases h1 : u.up = false
  · rw [if_pos h1] at h; simp at h
  rw [if_neg h1] at h ⊢
  simp only at h ⊢
  by_cases h2 : headLife (look (u.sec first)) = 4294967295
  · rw [if_pos h2] at h; simp at h
  rw [if_neg h2] at h ⊢
  by_cases h3 : (u.write first (made 0 (headLife (look (u.sec first)) + 1) 0 4 0 zeros48)).1 ≠ 0
  · rw [if_pos h3] at h; exact absurd h h3
  rw [if_neg h3] at h ⊢
  simp only at h ⊢
  exact ⟨by simpa using h1, h2, trivial, Decidable.not_not.1 h3, h, trivial, (flush_ok h).2.2.2⟩

theorem buildLog (p : Value) (a b c : Int) (w : World) (hp : p.oneCell' = true) : (Instr.build 108 #[(0, p), (1, .int .i64 a), (2, .int .i64 b), (3, .int .u32 c), (5, .int .i64 1)]).run Tryz.prog w =
    .ok (.agg #[p, .int .i64 a, .int .i64 b, .int .u32 c, .int .u32 0, .int .i64 1]) w := by
  cases p <;> first | (simp [Value.oneCell'] at hp; done) | kernel_rfl

section
variable {w : World} {bd : Nat} {Z : Nat → Prop} {u : U}
/-- What Open leaves. -/
def Opened (w : World) (bd : Nat) (Z : Nat → Prop) (r : Int × U × Option (Lg × List (List UInt8))) (e : Ending) (w' : World) : Prop :=
  ∃ Z', Fr Z w w' ∧ Grows w Z Z' ∧
    match r.2.2 with
    | none => e = .returned (.tuple #[.pointer none, .slice none 0 0, .int .i64 r.1]) ∧ Dk w' bd Z' r.2.1
    | some (g, recs) => ∃ bg v, e = .returned (.tuple #[.pointer (some ⟨bg, 0, none⟩), v, .int .i64 0]) ∧ w.heap.size ≤ bg ∧ At w' bg bd Z' g r.2.1 ∧ TextsIn w' (fun k => w.heap.size ≤ k ∧ ¬ Z' k ∧ k ≠ bg) v recs

set_option maxHeartbeats 4000000 in
theorem open_any (first count ep : Nat) (h : Dk w bd Z u) (hc : 2 ≤ count) (hf : first + count ≤ u.L.length) (he : ep < 4294967296) (hp : u.P.length < 1000000) :
    Calls Tryz.prog 72 #[.pointer (some ⟨bd, 0, none⟩), .int .i64 first, .int .i64 count, .int .u32 ep] w (Opened w bd Z (u.opens first count ep)) := by
  have hL : (u.L.length : Int) ≤ 4096 := by have := h.ok.n1; simp [U.st] at this; omega
  have HD := hid (dsectors_any h)
  have H := hid h
  have h1' : decide ((first : Int) < 0) = false := decide_eq_false (by omega)
  have h2' : decide ((count : Int) < 2) = false := decide_eq_false (by omega)
  have h2i : (2 : Int) ≤ count := by omega
  have h3 : decide ((u.L.length : Int) - first < count) = false := decide_eq_false (by omega)
  have h4 : (first : Int) + count ≤ u.L.length := by omega
  have HFit := hid hf; have HC := hid hc; have HE := hid he; have HP := hid hp
  have HR : Hid (u.opens first count ep = (let b := u.begin first; if b.1 ≠ 0 then (b.1, b.2.1, none) else
      let r := b.2.1.load first count ep b.2.2; (0, b.2.1, some (⟨first, count, ep, b.2.2 + 1, r.2⟩, r.1)))) := hid rfl
  generalize u.opens first count ep = r at HR ⊢
  clear h hc hf he hp
  go_enter Tryz.func72, Tryz.ntmps72
  go_wp2_with (first
    | (go_at_call 32; refine HD.out.mono ?_; rintro e' w' ⟨rfl, rfl⟩)
    | ((with_reducible show wpList _ _ _ (⟨_, .build 108 _, _, _, _, _⟩ :: _) _ _); refine wpL_build rfl _ [(0, .tmp 25), (1, .tmp 26), (2, .tmp 27), (3, .tmp 28), (5, .const (.int .i64 1))] rfl _ (buildLog _ _ _ _ _ rfl) ?_)
    | ((with_reducible show wpList _ _ _ (⟨_, .box 108 _, _, _, _, _⟩ :: _) _ _); refine wpL_box rfl _ _ rfl _ rfl (lgCells bd ⟨first, count, ep, 0, 1⟩) rfl ?_; intro w1 HB1 HF1 HS1))
  have hlt : ¬ Z w.heap.size := fun e => Nat.lt_irrefl _ (H.out.lt _ e)
  have HA1 : Hid (At w1 w.heap.size bd Z ⟨first, count, ep, 0, 1⟩ u) := hid ⟨D.Rep.no H.out HF1.out, HB1.out, hlt, ⟨HC.out, HFit.out, Nat.le_refl _, by have := HC.out; simp only; omega, HE.out, (by decide : (0 : Nat) < 4294967296)⟩⟩
  refine (begin_any w1 w.heap.size bd Z ⟨first, count, ep, 0, 1⟩ u HA1.out rfl HP.out).mono ?_
  rintro e' w2 ⟨rfl, Z2, li, hA, hF, hG, hli⟩
  have HBO := hid (fun hb : (u.begin first).1 = 0 => begin_ok hb)
  simp only at hA hF hG hli HBO HR ⊢
  generalize u.begin first = b at hA hli HBO HR ⊢
  obtain ⟨b1, b2, b3⟩ := b
  simp only at hA hli HBO HR ⊢
  have HA2 := hid hA
  have hG2 : Grows w Z Z2 := fun k hk => (hG k hk).imp id (fun hge => Nat.le_trans HF1.out.size hge)
  have hF2 : Fr Z w w2 := HF1.out.no.trans hF (fun k hk => hk.imp id (fun e => Nat.le_of_eq e.symm))
  have HG2 := hid hG2; have HF2 := hid hF2; have HLi := hid hli
  clear hA hF hG hli hG2 hF2
  by_cases hb : b1 = 0
  · subst hb
    have e1 : r = (0, b2, some (⟨first, count, ep, b3 + 1, (b2.load first count ep b3).2⟩, (b2.load first count ep b3).1)) := HR.out.trans (if_neg (by simp))
    have HR1 := hid e1
    have HUp : Hid (b2.up = true) := hid ((HBO.out rfl).2.2.2.2.2.2)
    have HLi' := hid (HLi.out rfl)
    clear e1
    go_wp2_with fail
    refine (load_any w2 w.heap.size bd Z2 _ b2 HA2.out HUp.out b3 HLi'.out rfl).mono ?_
    rintro e' w3 ⟨v, rfl, hT, hA, hF⟩
    have HT := hid hT; have HA3 := hid hA; have HF3 := hid hF
    clear hT hA hF
    obtain ⟨va, vl, vc, rfl⟩ : ∃ a l c, v = .slice a l c := by obtain ⟨a, l, c, e, _⟩ := HT.out; exact ⟨a, l, c, e⟩
    go_wp2_with fail
    refine ret_three rfl rfl ?_
    rw [HR1.out]
    refine ⟨Z2, HF2.out.trans HF3.out (fun k hk => .inr (Nat.le_of_eq hk.symm)), HG2.out, w.heap.size, _, rfl, Nat.le_refl _, ?_, HT.out.mono ?_⟩
    · have := HA3.out
      rw [HLi'.out] at this
      exact this
    · intro k hk
      have h2 := HA2.out.1.lt
      have h3 := HA2.out.2.1.lt
      exact ⟨by have := HF2.out.size; omega, fun hz => by have := h2 k hz; omega, by omega⟩
  · have e1 : r = (b1, b2, none) := HR.out.trans (if_pos hb)
    have HR1 := hid e1
    have b0 : (b1 != 0) = true := by simp [hb]
    clear e1 hb
    go_wp2_with fail
    refine ret_three rfl rfl ?_
    rw [HR1.out]
    exact ⟨Z2, HF2.out, HG2.out, rfl, HA2.out.1⟩
end
section
variable {w : World} {bg bd : Nat} {Z : Nat → Prop} {g : Lg} {u : U}
theorem room_any (h : At w bg bd Z g u) : Calls Tryz.prog 23 #[.pointer (some ⟨bg, 0, none⟩)] w fun e w' => e = .returned (.int .i64 ((g.count : Int) - g.next)) ∧ Fr No w w' := by
  have c2 : w.cell? ⟨bg, 2, none⟩ = some (.int .i64 g.count) := h.2.1.cell 2
  have c5 : w.cell? ⟨bg, 5, none⟩ = some (.int .i64 g.next) := h.2.1.cell 5
  have h1 : (g.next : Int) ≤ g.count := by have := h.2.2.2.nc; omega
  have h2 : (g.count : Int) ≤ 4096 := by have := h.2.2.2.fit; have := h.lens; omega
  clear h
  go_enter Tryz.func23, Tryz.ntmps23
  go_wp2_with fail
  go_quiet (fail)
  go_wp2
  go_ret
  exact ⟨rfl, (Fr.refl _ _).drewN _⟩
theorem sync_any (h : At w bg bd Z g u) : Calls Tryz.prog 58 #[.pointer (some ⟨bg, 0, none⟩)] w fun e w' => e = .returned (.int .i64 u.flush.1) ∧ At w' bg bd Z g u.flush.2 ∧ Fr Z w w' := by
  have c0 : w.cell? ⟨bg, 0, none⟩ = some (.pointer (some ⟨bd, 0, none⟩)) := h.2.1.cell 0
  have HA := hid h
  clear h
  go_enter Tryz.func58, Tryz.ntmps58
  go_wp2_with fail
  refine (dflush_any HA.out.1).mono ?_
  rintro e w1 ⟨rfl, hd, hf⟩
  have HA1 := hid (flush_at HA.out hd hf); have HF1 := hid hf
  clear hd hf
  go_wp2_with fail
  go_ret
  exact ⟨rfl, HA1.out, HF1.out⟩
end
end Go.Proofs.YtflfmkokfbgclaaGreat.L
