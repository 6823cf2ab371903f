/-
  A builder whose own row lies above other things: what its calls leave alone.
-/
import Derived.Test.YthjmkfpdbbfcpaaGreatDoorDnBw
set_option linter.unusedVariables false
set_option linter.unusedSimpArgs false
namespace Go.Proofs.YthjmkfpdbbfcpaaGreatDoor.DN
set_option maxRecDepth 100000
open Go.RowKit K Go.Proofs.YthjmkfpdbbfcpaaGreatDoor.BE

/-- A builder in block b, below base, that holds these bytes; its row is new since base. -/
def BW (base b : Nat) (l : B) (w : World) : Prop := b < base ∧ ∃ p v, Blk w b 51 [p, v] ∧ (p = .pointer none ∨ p = .pointer (some ⟨b, 0, none⟩)) ∧ w.ownsRow base 5 1 v l.length (u8s l)
def BDm (base b : Nat) (k : Nat) : Prop := k = b ∨ base ≤ k
theorem BW.fr {base b : Nat} {l : B} {D : Nat → Prop} {w w' : World} (h : BW base b l w) (hf : Fr D w w') (hD : ∀ k, D k → k ≠ b ∧ (k < base ∨ w.heap.size ≤ k)) : BW base b l w' := by
  obtain ⟨h1, p, v, h3, h4, h5⟩ := h
  exact ⟨h1, p, v, h3.fr hf (fun e => (hD _ e).1 rfl), h4, own_fr h5 hf fun k hk e => by have := own_ge h5 k hk; have := (hD k e).2; omega⟩
theorem BW.build {base b : Nat} {l : B} {w : World} (h : BW base b l w) (b0 : Nat) (h0 : b0 ≤ b) : Bld b0 b l w := by
  obtain ⟨h1, p, v, h3, h4, h5⟩ := h
  have hl : (Lib.byteCells l).length = l.length := by simp [Lib.byteCells]
  have hB : Lib.BuilderAt 51 5 b0 b p (Lib.byteCells l) w := by
    refine ⟨h0, v, h3, ?_, fun e => by have := own_ge h5 _ e; omega⟩
    rw [hl]
    show w.ownsRow b0 5 1 v l.length (u8s l)
    refine ⟨h5.1, ?_⟩
    rcases h5.2 with e | ⟨g, cap, cur, e1, e2, e3⟩
    · exact .inl e
    · exact .inr ⟨g, cap, cur, e1, by omega, e3⟩
  rcases h4 with rfl | rfl
  · exact .inl hB
  · exact .inr hB
theorem infoB8 : (Tryz.prog.info? 49).map (·.size) = some 1 := by kernel_rfl
theorem lays240 : Go.Proofs.Lays.n240 Tryz.prog lays156_ren := { lays156 with }
theorem copyCheck_any (base b : Nat) (l : B) (w : World) (h : BW base b l w) (hbw : base ≤ w.heap.size) : Calls Tryz.prog 45 #[.pointer (some ⟨b, 0, none⟩)] w fun e w' =>
    (∃ v, e = .returned v) ∧ (∃ v, Blk w' b 51 [.pointer (some ⟨b, 0, none⟩), v] ∧ w'.ownsRow base 5 1 v l.length (u8s l)) ∧ Fr (fun k => k = b) w w' := by
  obtain ⟨h1, p, v, h3, h4, h5⟩ := h
  rcases h4 with rfl | rfl
  · refine (Any.Builder_copyCheck_fresh lays240 extra156.toX72 b w (h3.cell 0) ?_ (h3.frozen 0)).mono ?_
    · have : w.heap[b]? = _ := h3
      simp [World.shape?, this]
      rfl
    · rintro e w' ⟨rfl, rfl⟩
      have hf : Fr (fun k => k = b) w (w.setCell ⟨b, 0, none⟩ (.pointer (some ⟨b, 0, none⟩))) := (Fr.refl _ w).setCell _ _ (.inl rfl)
      refine ⟨⟨_, rfl⟩, ⟨v, h3.set 0 _, own_fr h5 hf fun k hk e => by have := own_ge h5 k hk; omega⟩, hf⟩
  · refine (Any.Builder_copyCheck_used lays240 extra156.toX72 b w (h3.cell 0)).mono ?_
    rintro e w' ⟨rfl, rfl⟩
    exact ⟨⟨_, rfl⟩, ⟨v, h3, h5⟩, Fr.refl _ _⟩
theorem BW.fin {base b n m : Nat} {w w1 w3 w4 : World} {va a3 : Option Addr} {vc cp3 : Nat} {l L : B} (hb : b < base) (hbw : base ≤ w.heap.size) (f1 : Fr (fun k => k = b) w w1) (hO1 : w1.ownsRow base 5 1 (.slice va n vc) n (u8s l))
    (f3 : Fr (fun k => (Value.slice va n vc).ownBlock = some k) w1 w3) (hO3 : w3.ownsRow base 5 1 (.slice a3 m cp3) m (u8s L)) (hm : L.length = m)
    (hB4 : Blk w4 b 51 ([.pointer (some ⟨b, 0, none⟩), .slice va n vc].set 1 (.slice a3 m cp3))) (f4 : Fr (fun k => k = b) w3 w4) : BW base b L w4 ∧ Fr (BDm base b) w w4 := by
  subst hm
  have hf : Fr (BDm base b) w w4 := ((f1.mono fun k e => .inl e).trans' (f3.mono fun k e => .inr (own_ge hO1 k e).1)).trans' (f4.mono fun k e => .inl e)
  exact ⟨⟨hb, _, _, hB4, .inr rfl, own_fr hO3 f4 fun k hk e => by have := own_ge hO3 k hk; omega⟩, hf⟩
set_option maxHeartbeats 4000000 in
theorem writeByteW_any (base b : Nat) (l : B) (c : UInt8) (w : World) (h : BW base b l w) (hbw : base ≤ w.heap.size) (hl : l.length + 1 ≤ 140737488355328) :
    Calls Tryz.prog 31 #[.pointer (some ⟨b, 0, none⟩), .int .u8 (c.toNat : Int)] w fun e w' => (∃ v, e = .returned v) ∧ BW base b (l ++ [c]) w' ∧ Fr (BDm base b) w w' := by
  obtain ⟨i0, hi0, hz0, hs0, hb0⟩ := Go.info_parts infoU
  have HH := hid h
  have HL := hid hl
  have HBW := hid hbw
  have HIS := hid hi0; have HZS := hid hz0; have HSS := hid hs0; have HBS := hid hb0
  obtain ⟨C, hC⟩ : ∃ C : Int, (c.toNat : Int) = C := ⟨_, rfl⟩
  have HC := hid hC
  rw [hC]
  clear h hl hbw hi0 hz0 hs0 hb0 hC
  go_enter Tryz.func31, Tryz.ntmps31
  go_wp2_with fail
  refine (copyCheck_any base b l w HH.out HBW.out).mono ?_
  rintro e w1 ⟨⟨v0, rfl⟩, ⟨v, hB1, hO1⟩, f1⟩
  have HB1 := hid hB1; have HO1 := hid hO1; have HF1 := hid f1
  have HN := hid (show b < base ∧ base ≤ w1.heap.size from ⟨HH.out.1, Nat.le_trans HBW.out f1.size⟩)
  obtain ⟨va, vc, rfl, -, -⟩ := own_form hO1
  have c1 : w1.cell? ⟨b, 1, none⟩ = some (.slice va l.length vc) := hB1.cell 1
  clear hB1 hO1 f1
  go_wp2_with (first
    | ((with_reducible refine K.atO (.buildSlice 49 _ _) ?_); refine wpL_buildOne rfl _ 5 _ rfl i0 _ rfl HIS.out HZS.out (by rw [HSS.out]; decide) (by rw [HSS.out]; decide) _ [.int .u8 C] rfl rfl (by rw [HSS.out]; rfl) ?_; intro w2 HA2 FA2 SA2)
    | ((with_reducible refine K.atO (.call { callee := .builtin .append, args := _, argTypes := _ }) ?_); refine wpL_append rfl _ _ 49 rfl base 5 i0 _ 1 1 Tryz.underlying49 HIS.out HZS.out HSS.out HBS.out rfl (by decide) (.slice va l.length vc) l.length (u8s l) rfl (own_fr HO1.out FA2.out (fun _ _ e => e)) (some ⟨w1.heap.size, 0, none⟩) 1 1 [.int .u8 C] rfl rfl (.inr ⟨_, rfl, HA2.out.news⟩) (by intro u hu; simp at hu; subst hu; rfl) (by unfold maxLen; have := HL.out; omega) (by have := HL.out; omega) (Nat.le_trans HN.out.2 FA2.out.size) ?_; intro a3 cp3 w3 HO3 HG3 HA3;
        (have HF3 : Hid (Fr (fun k => (Value.slice va l.length vc).ownBlock = some k) w1 w3) := hid (FA2.out.no.trans' (frown HG3.out)));
        (have HB3 : Hid (Blk w3 b 51 [.pointer (some ⟨b, 0, none⟩), .slice va l.length vc]) := hid (HB1.out.fr HF3.out (fun e => by have := own_ge HO1.out _ e; have := HN.out; omega))))
    | ((with_reducible refine K.atO (.store 49 _ _) ?_); refine wpL_setV rfl _ _ _ rfl b 1 (.slice a3 (l.length + 1) cp3) rfl rfl rfl rfl _ _ HB3.out (by simp) infoB8 ?_; intro w4 HB4 F4 HS4)
    | fail)
  go_ret
  refine ⟨⟨_, rfl⟩, ?_⟩
  refine BW.fin (L := l ++ [c]) HN.out.1 HBW.out HF1.out HO1.out HF3.out (by rw [show u8s (l ++ [c]) = u8s l ++ [.int .u8 C] by rw [← HC.out]; simp [u8s]]; exact HO3.out) (by simp) HB4.out F4.out
set_option maxHeartbeats 4000000 in
theorem writeStringW_any (base b : Nat) (l s : B) (w : World) (h : BW base b l w) (hbw : base ≤ w.heap.size) (hl : l.length + s.length ≤ 140737488355328) :
    Calls Tryz.prog 30 #[.pointer (some ⟨b, 0, none⟩), .string (sb s)] w fun e w' => (∃ v, e = .returned v) ∧ BW base b (l ++ s) w' ∧ Fr (BDm base b) w w' := by
  obtain ⟨i0, hi0, hz0, hs0, hb0⟩ := Go.info_parts infoU
  have HH := hid h
  have HL := hid hl
  have HBW := hid hbw
  have HIS := hid hi0; have HZS := hid hz0; have HSS := hid hs0; have HBS := hid hb0
  obtain ⟨SS, hSS⟩ : ∃ SS, sb s = SS := ⟨_, rfl⟩
  have HSE := hid hSS
  have HSZ : Hid (SS.size = s.length) := hid (by rw [← hSS, sb_size])
  rw [hSS]
  clear h hl hbw hi0 hz0 hs0 hb0 hSS
  go_enter Tryz.func30, Tryz.ntmps30
  go_wp2_with fail
  refine (copyCheck_any base b l w HH.out HBW.out).mono ?_
  rintro e w1 ⟨⟨v0, rfl⟩, ⟨v, hB1, hO1⟩, f1⟩
  have HB1 := hid hB1; have HO1 := hid hO1; have HF1 := hid f1
  have HN := hid (show b < base ∧ base ≤ w1.heap.size from ⟨HH.out.1, Nat.le_trans HBW.out f1.size⟩)
  obtain ⟨va, vc, rfl, -, -⟩ := own_form hO1
  have c1 : w1.cell? ⟨b, 1, none⟩ = some (.slice va l.length vc) := hB1.cell 1
  clear hB1 hO1 f1
  go_wp2_with (first
    | ((with_reducible refine K.atO (.call { callee := .builtin .append, args := _, argTypes := _ }) ?_); refine wpList_plain rfl fun K hK => ?_; refine wp_appendStr _ _ 49 9 rfl base 5 i0 Tryz.underlying49 Tryz.underlying9 HIS.out HZS.out HSS.out HBS.out (.slice va l.length vc) l.length (u8s l) rfl HO1.out SS rfl (by unfold maxLen; have := HL.out; have := HSZ.out; omega) (by have := HL.out; have := HSZ.out; omega) HN.out.2 ?_; intro a3 cp3 w3 HO3 HG3 HA3; refine hK _ _ ?_; clear hK K;
        (have HF3 : Hid (Fr (fun k => (Value.slice va l.length vc).ownBlock = some k) w1 w3) := hid (frown HG3.out));
        (have HB3 : Hid (Blk w3 b 51 [.pointer (some ⟨b, 0, none⟩), .slice va l.length vc]) := hid (HB1.out.fr HF3.out (fun e => by have := own_ge HO1.out _ e; have := HN.out; omega))))
    | ((with_reducible refine K.atO (.store 49 _ _) ?_); refine wpL_setV rfl _ _ _ rfl b 1 (.slice a3 (l.length + SS.size) cp3) rfl rfl rfl rfl _ _ HB3.out (by simp) infoB8 ?_; intro w4 HB4 F4 HS4)
    | fail)
  first | go_ret2 | go_ret
  refine ⟨⟨_, rfl⟩, ?_⟩
  refine BW.fin (L := l ++ s) HN.out.1 HBW.out HF1.out HO1.out HF3.out (by rw [show u8s (l ++ s) = u8s l ++ u8s SS.data.toList by rw [← HSE.out, sb_list]; simp [u8s]]; exact HO3.out) (by simp [HSZ.out]) HB4.out F4.out
end Go.Proofs.YthjmkfpdbbfcpaaGreatDoor.DN
