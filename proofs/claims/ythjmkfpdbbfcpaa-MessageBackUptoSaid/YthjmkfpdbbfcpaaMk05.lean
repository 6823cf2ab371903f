/-
  Part 5 of the proof: BeR, BeU, MpB, MeFs, MpO, BeL.
-/
import Derived.Test.YthjmkfpdbbfcpaaMk04
import Derived.Test.YthjmkfpdbbfcpaaMk02
set_option linter.unusedSimpArgs false
set_option linter.unusedVariables false
namespace Go.Proofs.Ythjmkfpdbbfcpaa.BE
set_option maxRecDepth 100000
open Go.RowKit K

theorem infoNs : (Try.prog.info? 42).map (·.size) = some 1 := by kernel_rfl
/-- What lies at N or behind. -/
def Since (N : Nat) : Nat → Prop := fun k => N ≤ k
set_option maxHeartbeats 4000000 in
/-- The visitor of read: a child more. -/
theorem visit_any (base bn : Nat) (t : Int) (v : Value) (q : Nat) (xs cs : List Value) (w : World) (hB : Blk w bn 44 [.int .i64 t, .string ⟨#[]⟩, v]) (hr : w.ownsRow base 44 3 v q xs) (hbn : bn < base) (hbs : base ≤ w.heap.size) (hq : q ≤ 1000000) (hcs : cs.length = 3) (h1 : ∀ u ∈ cs, u.oneCell' = true) :
    Calls Try.prog 53 #[.agg cs.toArray, .pointer (some ⟨bn, 0, none⟩)] w fun e w' => e = .returned (.tuple #[]) ∧ ∃ v', Blk w' bn 44 [.int .i64 t, .string ⟨#[]⟩, v'] ∧ w'.ownsRow base 44 3 v' (q + 1) (xs ++ cs) ∧
      Fr (fun k => k = bn ∨ v.ownBlock = some k ∨ v'.ownBlock = some k) w w' ∧ ∀ g, v'.ownBlock = some g → v.ownBlock = some g ∨ w.heap.size ≤ g := by
  obtain ⟨x', y', z', hc⟩ := box_kid cs hcs
  subst hc
  obtain ⟨va, vc, rfl, -, -⟩ := own_form hr
  obtain ⟨ic, hic, hzc, hsc, hbc⟩ := Go.info_parts infozN
  have IC := hid hic; have ZC := hid hzc; have SC := hid hsc; have BC := hid hbc
  have HB := hid hB; have HR := hid hr; have HBN := hid hbn; have HBS := hid hbs; have H1 := hid h1
  have hqi : (q : Int) ≤ 1000000 := by omega
  clear hB hr hbn hbs h1 hcs hic hzc hsc hbc
  go_enter Try.func53, Try.ntmps53
  go_wp2_with (first
    | ((with_reducible refine K.atO (.box 44 _) ?_); refine wpL_box rfl _ _ rfl _ rfl [x', y', z'] rfl ?_; intro w1 HB1 F1 HS1))
  have hb1 := HB.out.fr F1.out id
  have k1 : w1.cell? ⟨bn, 2, none⟩ = some (.slice va q vc) := hb1.cell 2
  have k2 : w1.rangeAt w.heap.size 0 [x', y', z'] := HB1.out.range 0 _ rfl
  have hold : Facts.hold [(1, fun w' => w'.cell? ⟨bn, 2, none⟩ = some (.slice va q vc)), (2, fun w' => w'.rangeAt w.heap.size 0 [x', y', z'])] w1.drew := Facts.cons_hold k1 (Facts.cons_hold k2 (Facts.nil_hold _))
  have hZ1 : ∀ u ∈ [Value.int .i64 0, .string ⟨#[]⟩, .slice none 0 0], u.oneCell' = true := by intro u hu; simp at hu; rcases hu with rfl | rfl | rfl <;> rfl
  have HK1 := hid hb1
  clear hb1
  refine wpD_region hold (by kernel_rfl) 10 rfl ?_
  (refine wpD_plain 0 (v := ?_) rfl (by kernel_rfl) (by kernel_rfl) (by kernel_rfl) (fun _ _ _ h => h) (by rfl) ?_ (by assumption) ?_; rotate_left; (intro _w; go_simp; try with_reducible rfl); simp only [Act.put, K.put3])
  (refine wpD_take 1 _ rfl (by kernel_rfl) (by kernel_rfl) (by kernel_rfl) (fun _ _ _ h => h) List.mem_cons_self (by rfl) (v := ?_) ?_ (by assumption) ?_; rotate_left; (intro _w _hw; go_simp; try with_reducible rfl); simp only [Act.put, K.put3])
  (refine wpD_take 2 _ rfl (by kernel_rfl) (by kernel_rfl) (by kernel_rfl) (fun _ _ _ h => h) (List.mem_cons_of_mem _ List.mem_cons_self) (by rfl) (exec_load _ _ rfl w.heap.size 0 rfl _ _ rfl rfl infoN) (by assumption) ?_; simp only [Act.put, K.put3])
  (refine wpD_plain 3 (v := ?_) rfl (by kernel_rfl) (by kernel_rfl) (by kernel_rfl) (fun _ _ _ h => h) (by rfl) ?_ (by assumption) ?_; rotate_left; (intro _w; go_simp; try with_reducible rfl); simp only [Act.put, K.put3])
  clear hold
  refine wpD_only 4 [(1, fun w' => w'.cell? ⟨bn, 2, none⟩ = some (.slice va q vc)), (2, fun w' => w'.rangeAt w.heap.size 0 [x', y', z'])] rfl (by kernel_rfl) (by kernel_rfl) (by rfl) (fun K4 hK4 => ?_)
  refine wp_buildOne _ 44 _ rfl ic _ rfl IC.out ZC.out (by rw [SC.out]; decide) (by rw [SC.out]; decide) (.agg #[.int .i64 0, .string ⟨#[]⟩, .slice none 0 0]) [.int .i64 0, .string ⟨#[]⟩, .slice none 0 0] rfl rfl (by rw [SC.out]; rfl) ?_
  intro w2 HB2 F2 HS2
  have hold : Facts.hold [(1, fun w' => w'.cell? ⟨bn, 2, none⟩ = some (.slice va q vc)), (2, fun w' => w'.rangeAt w.heap.size 0 [x', y', z'])] w2 := Facts.cons_hold (F2.out.cell k1 id) (Facts.cons_hold (F2.out.range k2 id) (Facts.nil_hold _))
  refine hK4 _ _ hold ?_
  clear hK4 K4 hold k1 k2
  simp only [Act.put, K.put3]
  have hf12 : Fr No w w2 := F1.out.trans' ((Fr.refl No w1).drew.trans' F2.out)
  have hr2 : w2.ownsRow base 44 3 (.slice va q vc) q xs := own_fr HR.out hf12 (fun _ _ e => e)
  refine wpD_only 5 [] rfl (by kernel_rfl) (by kernel_rfl) (by rfl) (fun K5 hK5 => ?_)
  refine wp_append _ _ 42 rfl base 44 ic _ 3 48 Try.underlying42 IC.out ZC.out SC.out BC.out rfl (by decide) (.slice va q vc) q xs rfl hr2 (some ⟨w1.drew.heap.size, 0, none⟩) 1 _ [.int .i64 0, .string ⟨#[]⟩, .slice none 0 0] rfl rfl (.inr ⟨_, rfl, HB2.out.news⟩) hZ1 (by unfold maxLen; omega) (by omega) (Nat.le_trans HBS.out hf12.size) ?_
  intro a7 c7 w3 HO3 HG3 HA3
  refine hK5 _ _ (Facts.nil_hold _) ?_
  clear hK5 K5
  simp only [Act.put, K.put3]
  obtain ⟨g, cap, cs, hv, hcap, hBg, hgl, hset⟩ := own_last (kid := [x', y', z']) HO3.out HR.out.1 rfl
  simp only [Value.slice.injEq, true_and] at hv
  obtain ⟨rfl, rfl⟩ := hv
  have hga : (Value.slice (some ⟨g, 0, none⟩) (q + 1) c7).ownBlock = some g := rfl
  have hgb : base ≤ g := own_low HO3.out g rfl
  have hgn : g ≠ bn := by have := HBN.out; omega
  have hBb : Blk w3 bn 44 [.int .i64 t, .string ⟨#[]⟩, .slice va q vc] := (HB.out.fr hf12 id).fr (frown HG3.out) (fun e => by have := own_low HR.out bn e; have := HBN.out; omega)
  have hf3 : Fr (fun k => k = bn ∨ (Value.slice va q vc).ownBlock = some k ∨ (Value.slice (some ⟨g, 0, none⟩) (q + 1) c7).ownBlock = some k) w w3 := (Fr.no hf12).trans' ((frown HG3.out).mono fun k hk => .inr (.inl hk))
  have hown : ∀ j, (Value.slice (some ⟨g, 0, none⟩) (q + 1) c7).ownBlock = some j → (Value.slice va q vc).ownBlock = some j ∨ w.heap.size ≤ j := fun j hj => by
    rcases or_own HA3.out j hj with h | h
    · exact .inl h
    · exact .inr (Nat.le_trans hf12.size h)
  have FIN : ∀ w5, Blk w5 bn 44 [.int .i64 t, .string ⟨#[]⟩, .slice (some ⟨g, 0, none⟩) (q + 1) c7] → w5.ownsRow base 44 3 (.slice (some ⟨g, 0, none⟩) (q + 1) c7) (q + 1) (xs ++ [x', y', z']) → Fr (fun k => k = bn ∨ k = g) w3 w5 →
      ∃ v', Blk w5 bn 44 [.int .i64 t, .string ⟨#[]⟩, v'] ∧ w5.ownsRow base 44 3 v' (q + 1) (xs ++ [x', y', z']) ∧ Fr (fun k => k = bn ∨ (Value.slice va q vc).ownBlock = some k ∨ v'.ownBlock = some k) w w5 ∧ ∀ j, v'.ownBlock = some j → (Value.slice va q vc).ownBlock = some j ∨ w.heap.size ≤ j :=
    fun w5 h1 h2 h3 => ⟨_, h1, h2, hf3.trans' (h3.mono fun k hk => hk.elim .inl fun e => .inr (.inr (by rw [e]; rfl))), hown⟩
  have HFIN := hid FIN
  have hqq : (0 : Int) ≤ (q : Int) ∧ (q : Int) < (q : Int) + 1 := by omega
  have hold : Facts.hold [] w3 := Facts.nil_hold _
  (refine wpD_plain 8 (v := ?_) rfl (by kernel_rfl) (by kernel_rfl) (by kernel_rfl) (fun _ _ _ h => h) (by rfl) ?_ (by assumption) ?_; rotate_left; (intro _w; go_simp; try with_reducible rfl); simp only [Act.put, K.put3])
  (refine wpD_plain 6 (v := (.pointer (some ⟨g, q * 3, none⟩))) rfl (by kernel_rfl) (by kernel_rfl) (by kernel_rfl) (fun _ _ _ h => h) (by rfl) ?_ (by assumption) ?_; (intro _w; go_simp; skip); simp only [Act.put, K.put3])
  clear hold FIN
  refine wpD_two 7 9 [] [] rfl rfl (by kernel_rfl) (by kernel_rfl) (by kernel_rfl) (by rfl) (by rfl) ?_ ?_
  · intro K7 hK7
    refine wp_storeV _ _ _ rfl g (q * 3) (.agg #[x', y', z']) [x', y', z'] rfl rfl rfl _ _ hBg (by simp; omega) infoN (by intro u hu; exact H1.out u hu) ?_
    intro w4 HB4 F4 HS4
    refine hK7 _ _ (Facts.nil_hold _) ?_
    simp only [Act.put, K.put3]
    refine wpD_only 9 [] rfl (by kernel_rfl) (by kernel_rfl) (by rfl) (fun K9 hK9 => ?_)
    have hB4 : Blk w4 bn 44 [.int .i64 t, .string ⟨#[]⟩, .slice va q vc] := hBb.fr F4.out (fun e => hgn e.symm)
    refine wp_storeV _ _ _ rfl bn 2 (.slice (some ⟨g, 0, none⟩) (q + 1) c7) [.slice (some ⟨g, 0, none⟩) (q + 1) c7] rfl rfl rfl _ _ hB4 (by simp) infoNs (by intro u hu; simp at hu; rcases hu with rfl; rfl) ?_
    intro w5 HB5 F5 HS5
    refine hK9 _ _ (Facts.nil_hold _) ?_
    refine wpD_done (by kernel_rfl) ?_ _
    go_end0
    refine ⟨rfl, HFIN.out w5 (by simpa [spl] using HB5.out) (own_fr (hset w4 HB4.out) F5.out (fun k hk e => by cases hk; exact hgn e)) ?_⟩
    exact (F4.out.mono fun k hk => .inr hk).trans' (F5.out.mono fun k hk => .inl hk)
  · intro K9 hK9
    refine wp_storeV _ _ _ rfl bn 2 (.slice (some ⟨g, 0, none⟩) (q + 1) c7) [.slice (some ⟨g, 0, none⟩) (q + 1) c7] rfl rfl rfl _ _ hBb (by simp) infoNs (by intro u hu; simp at hu; rcases hu with rfl; rfl) ?_
    intro w4 HB4 F4 HS4
    refine hK9 _ _ (Facts.nil_hold _) ?_
    simp only [Act.put, K.put3]
    refine wpD_only 7 [] rfl (by kernel_rfl) (by kernel_rfl) (by rfl) (fun K7 hK7 => ?_)
    have hB4 : Blk w4 g 44 cs := hBg.fr F4.out (fun e => hgn e)
    refine wp_storeV _ _ _ rfl g (q * 3) (.agg #[x', y', z']) [x', y', z'] rfl rfl rfl _ _ hB4 (by simp; omega) infoN (by intro u hu; exact H1.out u hu) ?_
    intro w5 HB5 F5 HS5
    refine hK7 _ _ (Facts.nil_hold _) ?_
    refine wpD_done (by kernel_rfl) ?_ _
    go_end0
    refine ⟨rfl, HFIN.out w5 (Blk.fr (by simpa [spl] using HB4.out) F5.out (fun e => hgn e.symm)) (hset w5 HB5.out) ?_⟩
    exact (F4.out.mono fun k hk => .inl hk).trans' (F5.out.mono fun k hk => .inr hk)
end Go.Proofs.Ythjmkfpdbbfcpaa.BE

namespace Go.Proofs.Ythjmkfpdbbfcpaa.BE
set_option maxRecDepth 100000
open Go.RowKit K

/-- An element whose children are being read. -/
structure KS (m base bn : Nat) (t : Int) (acc : List Nd) (v : Value) (L : List (List Value)) (w : World) : Prop where
  b : Blk w bn 44 [.int .i64 t, .string ⟨#[]⟩, v]
  r : w.ownsRow base 44 3 v acc.length L.flatten
  l : L.length = acc.length
  k : ∀ (j : Nat) (x : Nd) (c : List Value), acc[j]? = some x → L[j]? = some c → NdAt m (fun k => base ≤ k ∧ v.ownBlock ≠ some k) w x c
theorem KS.fr {m base bn : Nat} {t : Int} {acc : List Nd} {v : Value} {L : List (List Value)} {w w' : World} {D : Nat → Prop} (h : KS m base bn t acc v L w) (hf : Fr D w w') (hd : ∀ k, D k → k < base ∧ k ≠ bn) : KS m base bn t acc v L w' :=
  ⟨h.b.fr hf (fun e => (hd _ e).2 rfl), own_fr h.r hf (fun k hk e => by have := own_low h.r k hk; have := (hd k e).1; omega), h.l, fun j x c hx hc => NdAt.fr hf (fun k hk _ e => by have := (hd k e).1; have := hk.1; omega) (h.k j x c hx hc)⟩
theorem KS.no {m base bn : Nat} {t : Int} {acc : List Nd} {v : Value} {L : List (List Value)} {w w' : World} (h : KS m base bn t acc v L w) (hf : Fr No w w') : KS m base bn t acc v L w' := h.fr hf fun _ e => e.elim
theorem KS.step {m base bn : Nat} {t : Int} {acc : List Nd} {v : Value} {L : List (List Value)} {w w' : World} (h : KS m base bn t acc v L w) (hbn : bn < base) {N : Nat} {n : Nd} {cs : List Value} (hn : NdAt m (Since N) w n cs) (hN : base ≤ N) (hv : ∀ g, v.ownBlock = some g → g < N)
    {v' : Value} (hB : Blk w' bn 44 [.int .i64 t, .string ⟨#[]⟩, v']) (hr : w'.ownsRow base 44 3 v' (acc.length + 1) (L.flatten ++ cs)) (hf : Fr (fun k => k = bn ∨ v.ownBlock = some k ∨ v'.ownBlock = some k) w w')
    (ho : ∀ g, v'.ownBlock = some g → v.ownBlock = some g ∨ w.heap.size ≤ g) : KS m base bn t (acc ++ [n]) v' (L ++ [cs]) w' := by
  have key : ∀ (x : Nd) (c : List Value), NdAt m (fun k => base ≤ k ∧ v.ownBlock ≠ some k) w x c → NdAt m (fun k => base ≤ k ∧ v'.ownBlock ≠ some k) w' x c := fun x c hx => by
    have h1 : NdAt m (fun k => base ≤ k ∧ v.ownBlock ≠ some k ∧ v'.ownBlock ≠ some k) w x c := NdAt.mono (fun k hk hs => ⟨hs.1, hs.2, fun e => by
      rcases ho k e with h | h
      · exact hs.2 h
      · omega⟩) hx
    refine NdAt.mono (fun k _ hs => ⟨hs.1, hs.2.2⟩) (NdAt.fr hf (fun k hs _ e => ?_) h1)
    rcases e with e | e | e
    · have := hs.1; omega
    · exact hs.2.1 e
    · exact hs.2.2 e
  have kn : NdAt m (fun k => base ≤ k ∧ v.ownBlock ≠ some k) w n cs := NdAt.mono (fun k hk hs => ⟨Nat.le_trans hN hs, fun e => by have := hv k e; have hs : N ≤ k := hs; omega⟩) hn
  refine ⟨hB, ?_, by simp [h.l], fun j x c hx hc => ?_⟩
  · rw [List.length_append, List.flatten_append]
    simpa using hr
  · rcases Nat.lt_or_ge j acc.length with hj | hj
    · rw [List.getElem?_append_left hj] at hx
      rw [List.getElem?_append_left (by rw [h.l]; exact hj)] at hc
      exact key x c (h.k j x c hx hc)
    · have h0 : j - acc.length = 0 := by
        have := (List.getElem?_eq_some_iff.1 hx).1
        simp at this; omega
      rw [List.getElem?_append_right hj, h0] at hx
      rw [List.getElem?_append_right (by rw [h.l]; exact hj), h.l, h0] at hc
      obtain rfl : n = x := by simpa using hx
      obtain rfl : cs = c := by simpa using hc
      exact key n cs kn
/-- What read leaves. -/
def Reads (m : Nat) (s : B) (w : World) (e : Ending) (w' : World) : Prop := Fr No w w' ∧ match rd m s with
  | .error k => e = .panicked [fl k]
  | .ok (n, u) => ∃ cs, e = .returned (.tuple #[.agg cs.toArray, .int .i64 (u : Int)]) ∧ NdAt m (Since w.heap.size) w' n cs
/-- A contract of read, at a depth. -/
def ReadOk (m : Nat) : Prop := ∀ (s : B) (w : World), s.length ≤ 281474976710656 → Calls Try.prog 28 #[.string (sb s), .int .i64 ((9 - m : Nat) : Int)] w (Reads m s w)
def strAt (b : Nat) (w : World) : Nat := match w.cell? ⟨b, 0, none⟩ with
  | some (.string s) => s.size
  | _ => 0
theorem infoStr : (Try.prog.info? 9).map (·.size) = some 1 := by kernel_rfl
abbrev vis (bn : Nat) : Value := .func (.func 53) #[] #[.pointer (some ⟨bn, 0, none⟩)]
/-- What the reading of the children leaves, in the closure. -/
def KidsP (m bn b1 : Nat) (t : Int) (c : B) (o : Option Nat) (w1 w2 : World) : Prop := Fr (fun k => k = b1 ∨ k = bn) w1 w2 ∧ match o with
  | none => ∃ ks v L, kidsG (rd m) c.length c = .ok ks ∧ KS m w1.heap.size bn t ks v L w2
  | some k => kidsG (rd m) c.length c = .error k
set_option maxHeartbeats 8000000 in
theorem rc1_any (m bn b1 b2 b3 : Nat) (t : Int) (c : B) (w : World) (ih : ReadOk m) (h1 : Blk w b1 9 [.string (sb c)]) (h2 : Blk w b2 3 [.int .i64 ((9 - m : Nat) : Int)]) (h3 : Blk w b3 74 [vis bn]) (hn : Blk w bn 44 [.int .i64 t, .string ⟨#[]⟩, .slice none 0 0])
    (d12 : b1 ≠ b2) (d13 : b1 ≠ b3) (dn1 : bn ≠ b1) (dn2 : bn ≠ b2) (dn3 : bn ≠ b3) (hc : c.length ≤ 4000) :
    Calls Try.prog 83 #[.pointer (some ⟨b1, 0, none⟩), .pointer (some ⟨b2, 0, none⟩), .pointer (some ⟨b3, 0, none⟩)] w fun e w' => (e = .returned (.tuple #[]) ∧ KidsP m bn b1 t c none w w') ∨ ∃ k, e = .panicked [fl k] ∧ KidsP m bn b1 t c (some k) w w' := by
  have l1 := h1.lt; have l2 := h2.lt; have l3 := h3.lt; have ln := hn.lt
  have HIH := hid ih; have HH1 := hid h1; have HH2 := hid h2; have HH3 := hid h3; have HHN := hid hn
  have HD := hid (show b1 ≠ b2 ∧ b1 ≠ b3 ∧ bn ≠ b1 ∧ bn ≠ b2 ∧ bn ≠ b3 from ⟨d12, d13, dn1, dn2, dn3⟩)
  have HLT := hid (show b1 < w.heap.size ∧ b2 < w.heap.size ∧ b3 < w.heap.size ∧ bn < w.heap.size from ⟨l1, l2, l3, ln⟩)
  have HC := hid hc
  obtain ⟨dd, hdd⟩ : ∃ dd : Int, ((9 - m : Nat) : Int) = dd := ⟨_, rfl⟩
  have HDD := hid hdd
  rw [hdd] at HH2
  clear ih h1 h2 h3 hn d12 d13 dn1 dn2 dn3 hc l1 l2 l3 ln hdd
  go_enter Try.func83, Try.ntmps83
  go_wp2_with fail
  go_loopw [4] (fun _ wr => ∃ (r : B) (acc : List Nd) (v : Value) (L : List (List Value)) (k : Nat), Hid (Blk wr b1 9 [.string (sb r)]) ∧ Hid (KS m w.heap.size bn t acc v L wr) ∧ Hid (kidsG (rd m) c.length c = mapK acc (kidsG (rd m) k r)) ∧ Hid (r.length ≤ k ∧ acc.length * 2 + r.length ≤ 4000) ∧ Hid (Fr (fun k => k = b1 ∨ k = bn) w wr)) (fun _ wr => strAt b1 wr)
  case atStart => exact ⟨c, [], .slice none 0 0, [], c.length, HH1, hid ⟨HHN.out, World.ownsRow_nil _ _ _ _, rfl, fun j x c h => by simp at h⟩, hid (mapK_nil _).symm, hid ⟨Nat.le_refl _, by have := HC.out; simpa using this⟩, hid (Fr.refl _ _)⟩
  case round =>
    obtain ⟨r, acc, v, L, k, HB1, HKS, HK0, HL, HF⟩ := hrel
    have c1 : wr.cell? ⟨b1, 0, none⟩ = some (.string (sb r)) := HB1.out.cell 0
    have hsr := sb_empty r
    by_cases hr : r = []
    · subst hr
      have hse : (sb []).toList.isEmpty = true := by rw [hsr]; rfl
      clear hsr
      generalize hq : sb ([] : B) = q at *
      go_wp2_with fail
      go_end0
      refine .inl ⟨rfl, HF.out, acc, v, L, ?_, HKS.out⟩
      rw [HK0.out, mapK_done]
    · have hse : (sb r).toList.isEmpty = false := by rw [hsr]; cases r with
        | nil => exact absurd rfl hr
        | cons _ _ => rfl
      have HR := hid hr
      have c2 : wr.cell? ⟨b2, 0, none⟩ = some (.int .i64 dd) := (HH2.out.fr HF.out (fun e => e.elim (fun e => HD.out.1 e.symm) (fun e => HD.out.2.2.2.1 e.symm))).cell 0
      have hb3 : Blk wr b3 74 [vis bn] := HH3.out.fr HF.out (fun e => e.elim (fun e => HD.out.2.1 e.symm) (fun e => HD.out.2.2.2.2 e.symm))
      have HB3 := hid hb3
      have hrl : r.length ≤ 4000 := by have := HL.out; omega
      clear hsr hr hb3
      go_wp2_with fail
      have hih := HIH.out r wr (by omega)
      rw [HDD.out] at hih
      refine hih.mono ?_
      clear hih
      rintro e w2 ⟨f2, hm⟩
      cases hrd : rd m r with
      | error q =>
        rw [hrd] at hm
        simp only at hm
        subst hm
        refine ⟨rfl, .inr ⟨q, rfl, HF.out.trans' f2.no, ?_⟩⟩
        show kidsG (rd m) c.length c = .error q
        rw [HK0.out, mapK_err acc (rd m) HR.out HL.out.1 hrd]
      | ok p =>
        obtain ⟨n, u⟩ := p
        rw [hrd] at hm
        simp only at hm
        obtain ⟨cs, rfl, hn⟩ := hm
        obtain ⟨x', y', z', hcs⟩ := box_kid cs hn.len
        subst hcs
        have hui := rd_inv m r n u hrd
        have HU := hid (show 2 ≤ u ∧ u ≤ r.length from ⟨hui.2.2.2.2.1, hui.2.2.2.2.2⟩)
        obtain ⟨j, hkj, hstep⟩ := mapK_step acc (rd m) HR.out HL.out.1 hrd
        have HJ := hid hkj; have HST := hid hstep; have HN := hid hn; have HF2 := hid f2
        clear hui hkj hstep hn f2 hrd c1 c2 hse hrl
        go_wp2_with (first
          | ((with_reducible refine K.atO (.alloc 44) ?_); refine wpL_alloc rfl _ rfl _ zeroN [.int .i64 0, .string ⟨#[]⟩, .slice none 0 0] rfl ?_; intro w3 HB4 F3 HS3)
          | ((with_reducible refine K.atO (.store 44 _ _) ?_); refine wpL_storeV rfl _ _ _ rfl w2.heap.size 0 (.agg #[x', y', z']) [x', y', z'] rfl rfl rfl _ _ HB4.out (by simp) infoN (by intro u hu; exact HN.out.one u hu) ?_; intro w4 HB5 F4 HS4;
              have HB5c : Hid (Blk w4 w2.heap.size 44 [x', y', z']) := hid (by have h := HB5.out; rwa [spl_all (by simp)] at h);
              have HF24 : Hid (Fr No w2 w4) := hid (F3.out.trans F4.out (fun i e => .inr (by have e : i = w2.heap.size := e; omega)));
              have HFW : Hid (Fr No wr w4) := hid (HF2.out.trans' HF24.out);
              have c3 : w4.cell? ⟨b3, 0, none⟩ = some (vis bn) := (HB3.out.fr HFW.out id).cell 0)
          | ((with_reducible refine K.atO (.load 44 _) ?_); refine wpL_load rfl _ _ rfl w2.heap.size 0 rfl [x', y', z'] _ (HB5c.out.range 0 _ rfl) rfl rfl infoN ?_))
        have hks4 := HKS.out.no HFW.out
        refine (visit_any w.heap.size bn t v acc.length L.flatten [x', y', z'] w4 hks4.b hks4.r HLT.out.2.2.2 (Nat.le_trans HF.out.size HFW.out.size) (by have := HL.out; omega) rfl HN.out.one).mono ?_
        rintro e w5 ⟨rfl, v', hB5, hr5, f5, ho5⟩
        have hks5 : KS m w.heap.size bn t (acc ++ [n]) v' (L ++ [[x', y', z']]) w5 := hks4.step HLT.out.2.2.2 (HN.out.no HF24.out) HF.out.size (fun g hg => (own_ge HKS.out.r g hg).2) hB5 hr5 f5 ho5
        have HKS5 := hid hks5
        have hd5 : ∀ k, (k = bn ∨ v.ownBlock = some k ∨ v'.ownBlock = some k) → k = bn ∨ w.heap.size ≤ k := fun k hk => by
          rcases hk with h | h | h
          · exact .inl h
          · exact .inr (own_low HKS.out.r k h)
          · exact .inr (own_low hr5 k h)
        have hb15 : Blk w5 b1 9 [.string (sb r)] := (HB1.out.fr HFW.out id).fr f5 (fun e => by
          rcases hd5 b1 e with h | h
          · exact HD.out.2.2.1 h.symm
          · have := HLT.out.1; omega)
        have HB15 := hid hb15
        have c15 : w5.cell? ⟨b1, 0, none⟩ = some (.string (sb r)) := hb15.cell 0
        have hf5 : Fr (fun k => k = b1 ∨ k = bn) w w5 := (HF.out.trans' HFW.out.no).trans f5 (fun k hk => (hd5 k hk).elim (fun e => .inl (.inr e)) .inr)
        have HF5 := hid hf5
        clear hks4 hks5 hB5 hr5 f5 ho5 hd5 hb15 hf5 c3
        go_wp2_with (first
          | ((with_reducible refine K.atO (.slice 9 _ _ _ _) ?_); refine wpL_valZ rfl (.string (sb (r.drop u))) (exec_from _ _ rfl r u rfl rfl HU.out.2 _ rfl _) ?_)
          | ((with_reducible refine K.atO (.store 9 _ _) ?_); refine wpL_setV rfl _ _ _ rfl b1 0 (.string (sb (r.drop u))) rfl rfl rfl rfl _ _ HB15.out (by simp) infoStr ?_; intro w6 HB6 F6 HS6))
        have hks6 : KS m w.heap.size bn t (acc ++ [n]) v' (L ++ [[x', y', z']]) w6 := HKS5.out.fr F6.out (fun k hk => by have e : k = b1 := hk; have := HLT.out.1; exact ⟨by omega, fun h => HD.out.2.2.1 (h.symm.trans e)⟩)
        have hst : strAt b1 wr = r.length := by
          unfold strAt
          rw [HB1.out.cell 0]
          exact sb_size r
        have hst6 : strAt b1 w6 = r.length - u := by
          unfold strAt
          rw [HB6.out.cell 0]
          show (sb (r.drop u)).size = _
          rw [sb_size, List.length_drop]
        go_roundw
        case rel =>
          have hl := HL.out; have hu := HU.out; have hj := HJ.out
          refine ⟨_, _, _, _, _, _, _, _, _, _, _, _, _, _, _, _, ⟨r.drop u, acc ++ [n], v', L ++ [[x', y', z']], j, hid HB6.out, hid hks6, hid (HK0.out.trans HST.out), hid ⟨by rw [List.length_drop]; omega, by rw [List.length_append, List.length_drop]; simp only [List.length_cons, List.length_nil]; omega⟩, hid (HF5.out.trans' (F6.out.mono fun k hk => .inl hk))⟩, rfl⟩
        case measure =>
          have hu := HU.out
          rw [hst, hst6]; omega
end Go.Proofs.Ythjmkfpdbbfcpaa.BE

namespace Go.Proofs.Ythjmkfpdbbfcpaa.ME
set_option maxRecDepth 100000
open Go.RowKit K Go.Proofs.Ythjmkfpdbbfcpaa.BE Go.Proofs.Ythjmkfpdbbfcpaa.FR

theorem leaf_any (M : Nat) (S : Nat → Prop) (w : World) (t : Int) (b : B) (ht : I64 t) (hb : Sz b) : NdAt (M + 1) S w (.mk t b []) [.int .i64 t, .string (sb b), .slice none 0 0] :=
  ⟨none, 0, rfl, ht, hb, Nat.zero_le _, .inl rfl⟩
theorem own_cap {w : World} {base : Nat} {e : TypeId} {size : Nat} {a : Option Addr} {m cap n : Nat} {xs : List Value} (h : w.ownsRow base e size (.slice a m cap) n xs) : n ≤ cap := by
  rcases h.2 with ⟨h1, h0⟩ | ⟨g, cap', cur, h1, _, _, h2, _⟩
  · have h0 : n = 0 := h0
    omega
  · simp only [Value.slice.injEq] at h1
    omega
/-- A piece is told, made since. -/
def Makes (M : Nat) (n : Nd) (w : World) (e : Ending) (w' : World) : Prop := ∃ cs, e = .returned (.agg cs.toArray) ∧ NdAt M (Since w.heap.size) w' n cs ∧ Fr No w w'
theorem ks_nd {m base bn : Nat} {t : Int} {acc : List Nd} {v : Value} {L : List (List Value)} {w : World} (h : KS m base bn t acc v L w) (ht : I64 t) (hl : acc.length ≤ 140737488351232) : NdAt (m + 1) (Since base) w (.mk t [] acc) [.int .i64 t, .string (sb []), v] := by
  obtain ⟨a, cap, hv, -, hg⟩ := own_form h.r
  have hr0 := h.r
  rw [hv] at hr0
  refine ⟨a, cap, by rw [hv]; rfl, ht, by show (0 : Nat) ≤ _; omega, Nat.le_min.2 ⟨own_cap hr0, hl⟩, ?_⟩
  by_cases h0 : acc = []
  · exact .inl h0
  · right
    have hpos : 0 < acc.length := by
      rcases Nat.eq_zero_or_pos acc.length with h1 | h1
      · exact absurd (List.eq_nil_of_length_eq_zero h1) h0
      · exact h1
    obtain ⟨g, rfl⟩ := hg hpos
    have hgw := own_ge h.r g (by rw [hv]; rfl)
    refine ⟨g, 0, L, rfl, hgw.1, hgw.2, ?_, h.l, fun j x c hx hc => NdAt.mono (fun k _ hk => hk.1) (h.k j x c hx hc)⟩
    intro j u hj
    have := h.r.cells (g := g) (by rw [hv]; rfl) j u hj
    rwa [Addr.add_mid] at this
/-- A slice literal, as one operation of a region, out of a closed fact. -/
theorem wp_buildRun {P : Program} {op : Oper} {a : Act} {w : World} {K : Act → World → Prop} {Q : Exit → Act → World → Prop} (t e : TypeId) (n : Nat) (parts : List (Nat × Operand)) (ho : op.op = .buildSlice t n parts.toArray) (cs : List Value)
    (hrun : (Instr.buildSlice t n (parts.map fun x => (x.1, a.eval x.2)).toArray).run P w = .ok (.slice (some ⟨w.heap.size, 0, none⟩) n n) (w.alloc (.cells cs.toArray e)))
    (h : ∀ w', Hid (Blk w' w.heap.size e cs) → Hid (Fr No w w') → Hid (w'.heap.size = w.heap.size + 1) → K (a.put op.dst (.slice (some ⟨w.heap.size, 0, none⟩) n n)) w') : op.wp P a w K Q := by
  unfold Oper.wp
  have h1 := h (w.alloc (.cells cs.toArray e)) (hid (Blk.new w e cs)) (hid ((Fr.refl _ _).alloc _)) (hid (by simp))
  simp [execOp, ho, hrun, Result.andThen]
  exact h1
/-- A piece of several kids that lie in one block. -/
theorem nd_kids {M : Nat} {S : Nat → Prop} {w : World} {t : Int} {kids : List Nd} {g : Nat} {ty : TypeId} {L : List (List Value)} (ht : I64 t) (hB : Blk w g ty L.flatten) (hg : S g) (hl : L.length = kids.length) (hk : kids.length ≤ 140737488351232) (h : ∀ (j : Nat) (x : Nd) (c : List Value), kids[j]? = some x → L[j]? = some c → NdAt M S w x c) :
    NdAt (M + 1) S w (.mk t [] kids) [.int .i64 t, .string (sb []), .slice (some ⟨g, 0, none⟩) kids.length kids.length] :=
  ⟨_, _, rfl, ht, by show (0 : Nat) ≤ _; omega, Nat.le_min.2 ⟨Nat.le_refl _, hk⟩, .inr ⟨g, 0, L, rfl, hg, hB.lt, hB.range 0 _ (by rw [List.drop_zero, List.take_length]), hl, h⟩⟩
theorem since_le {M N N' : Nat} {w : World} {n : Nd} {cs : List Value} (h : NdAt M (Since N) w n cs) (hN : N' ≤ N) : NdAt M (Since N') w n cs := NdAt.mono (fun k _ hk => Nat.le_trans hN hk) h
theorem sbE (l : B) : (sb l).toList.isEmpty = l.isEmpty := by rw [ByteArray.toList_eq, sb_list]
theorem FlC.succ {M : Nat} {S : Nat → Prop} {w : World} {f : Fl} {cs : List Value} (h : FlC M S w f cs) : ∃ k, M = k + 1 := by
  cases M with
  | zero => exact h.elim
  | succ k => exact ⟨k, rfl⟩
end Go.Proofs.Ythjmkfpdbbfcpaa.ME

namespace Go.Proofs.Ythjmkfpdbbfcpaa.ME
set_option maxRecDepth 100000
open Go.RowKit K Go.Proofs.Ythjmkfpdbbfcpaa.BE Go.Proofs.Ythjmkfpdbbfcpaa.FR

theorem txin_monoS {w : World} {E E' : Nat → Prop} {v : Value} {L : List B} (h : TxIn w E v L) (he : ∀ k, k < w.heap.size → E k → E' k) : TxIn w E' v L := by
  obtain ⟨a, len, cap, h1, h2, h0, h3⟩ := h
  exact ⟨a, len, cap, h1, h2, h0, h3.imp id fun ⟨g, o, r1, r2, r3, r4⟩ => ⟨g, o, r1, he g r3 r2, r3, r4⟩⟩
theorem Tx.monoS {w : World} {E E' : Nat → Prop} {v : Value} {L : List B} (h : Tx E w v L) (he : ∀ k, k < w.heap.size → E k → E' k) : Tx E' w v L := ⟨txin_monoS h.1 he, h.2⟩
theorem FlC.monoS {w : World} {S S' : Nat → Prop} (hs : ∀ k, k < w.heap.size → S k → S' k) : ∀ {M : Nat} {f : Fl} {cs : List Value}, FlC M S w f cs → FlC M S' w f cs
  | 0, _, _, h => h.elim
  | M + 1, f, cs, h => by
    obtain ⟨vk, va, h1, h2, h3, h4, h5, h6, h7, a, cap, e1, e2, e3, e4⟩ := h
    refine ⟨vk, va, h1, h2, h3, h4, h5, h6, h7.monoS hs, a, cap, e1, e2, e3, e4.imp id ?_⟩
    rintro ⟨g, o, L, r1, r2, r3, r4, r5, r6, r7⟩
    exact ⟨g, o, L, r1, hs g r3 r2, r3, r4, r5, r6, fun j x c hx hc => FlC.monoS hs (r7 j x c hx hc)⟩
theorem FlC.len {M : Nat} {S : Nat → Prop} {w : World} {f : Fl} {cs : List Value} (h : FlC M S w f cs) : cs.length = 7 := by
  cases M with
  | zero => exact h.elim
  | succ M => obtain ⟨_, _, rfl, _⟩ := h; rfl
theorem FlC.one {M : Nat} {S : Nat → Prop} {w : World} {f : Fl} {cs : List Value} (h : FlC M S w f cs) : ∀ u ∈ cs, u.oneCell' = true := by
  cases M with
  | zero => exact h.elim
  | succ M =>
    obtain ⟨vk, va, rfl, -, -, -, -, -, ht, hs⟩ := h
    obtain ⟨_, _, rfl, -, -⟩ := ht.form
    obtain ⟨_, _, rfl, -, -⟩ := hs.form
    intro u hu
    simp at hu
    rcases hu with rfl | rfl | rfl | rfl | rfl | rfl | rfl <;> rfl
structure FS (M base bn : Nat) (k : Int) (acc : List Fl) (v : Value) (L : List (List Value)) (w : World) : Prop where
  b : Blk w bn 25 [.int .i64 k, v, .string ⟨#[]⟩, .string ⟨#[]⟩, .string ⟨#[]⟩, .slice none 0 0, .string ⟨#[]⟩]
  r : w.ownsRow base 25 7 v acc.length L.flatten
  l : L.length = acc.length
  s : ∀ c ∈ L, c.length = 7
  k : ∀ (j : Nat) (x : Fl) (c : List Value), acc[j]? = some x → L[j]? = some c → FlC M (fun k => base ≤ k ∧ v.ownBlock ≠ some k) w x c
theorem FS.fr {M base bn : Nat} {t : Int} {acc : List Fl} {v : Value} {L : List (List Value)} {w w' : World} {D : Nat → Prop} (h : FS M base bn t acc v L w) (hf : Fr D w w') (hd : ∀ k, D k → k < base ∧ k ≠ bn) : FS M base bn t acc v L w' :=
  ⟨h.b.fr hf (fun e => (hd _ e).2 rfl), own_fr h.r hf (fun k hk e => by have := own_low h.r k hk; have := (hd k e).1; omega), h.l, h.s, fun j x c hx hc => FlC.fr hf (fun k hk _ e => by have := (hd k e).1; have := hk.1; omega) (h.k j x c hx hc)⟩
theorem FS.no {M base bn : Nat} {t : Int} {acc : List Fl} {v : Value} {L : List (List Value)} {w w' : World} (h : FS M base bn t acc v L w) (hf : Fr No w w') : FS M base bn t acc v L w' := h.fr hf fun _ e => e.elim
theorem FS.step {M base bn : Nat} {t : Int} {acc : List Fl} {v : Value} {L : List (List Value)} {w w' : World} (h : FS M base bn t acc v L w) (hbn : bn < base) {N : Nat} {n : Fl} {cs : List Value} (hn : FlC M (Since N) w n cs) (hN : base ≤ N) (hv : ∀ g, v.ownBlock = some g → g < N)
    {v' : Value} (hB : Blk w' bn 25 [.int .i64 t, v', .string ⟨#[]⟩, .string ⟨#[]⟩, .string ⟨#[]⟩, .slice none 0 0, .string ⟨#[]⟩]) (hr : w'.ownsRow base 25 7 v' (acc.length + 1) (L.flatten ++ cs)) (hf : Fr (fun k => k = bn ∨ v.ownBlock = some k ∨ v'.ownBlock = some k) w w')
    (ho : ∀ g, v'.ownBlock = some g → v.ownBlock = some g ∨ w.heap.size ≤ g) : FS M base bn t (acc ++ [n]) v' (L ++ [cs]) w' := by
  have key : ∀ (x : Fl) (c : List Value), FlC M (fun k => base ≤ k ∧ v.ownBlock ≠ some k) w x c → FlC M (fun k => base ≤ k ∧ v'.ownBlock ≠ some k) w' x c := fun x c hx => by
    have h1 : FlC M (fun k => base ≤ k ∧ v.ownBlock ≠ some k ∧ v'.ownBlock ≠ some k) w x c := FlC.monoS (fun k hk hs => ⟨hs.1, hs.2, fun e => by
      rcases ho k e with h | h
      · exact hs.2 h
      · omega⟩) hx
    refine FlC.monoS (fun k _ hs => ⟨hs.1, hs.2.2⟩) (FlC.fr hf (fun k hs _ e => ?_) h1)
    rcases e with e | e | e
    · have := hs.1; omega
    · exact hs.2.1 e
    · exact hs.2.2 e
  have kn : FlC M (fun k => base ≤ k ∧ v.ownBlock ≠ some k) w n cs := FlC.monoS (fun k hk hs => ⟨Nat.le_trans hN hs, fun e => by have := hv k e; have hs : N ≤ k := hs; omega⟩) hn
  refine ⟨hB, ?_, by simp [h.l], fun c hc => ?_, fun j x c hx hc => ?_⟩
  · rw [List.length_append, List.flatten_append]
    simpa using hr
  · rcases List.mem_append.1 hc with hc | hc
    · exact h.s c hc
    · obtain rfl : c = cs := by simpa using hc
      exact hn.len
  · rcases Nat.lt_or_ge j acc.length with hj | hj
    · rw [List.getElem?_append_left hj] at hx
      rw [List.getElem?_append_left (by rw [h.l]; exact hj)] at hc
      exact key x c (h.k j x c hx hc)
    · have h0 : j - acc.length = 0 := by
        have := (List.getElem?_eq_some_iff.1 hx).1
        simp at this; omega
      rw [List.getElem?_append_right hj, h0] at hx
      rw [List.getElem?_append_right (by rw [h.l]; exact hj), h.l, h0] at hc
      obtain rfl : n = x := by simpa using hx
      obtain rfl : cs = c := by simpa using hc
      exact key n cs kn
end Go.Proofs.Ythjmkfpdbbfcpaa.ME

namespace Go.Proofs.Ythjmkfpdbbfcpaa.ME
set_option maxRecDepth 100000
open Go.RowKit K Go.Proofs.Ythjmkfpdbbfcpaa.BE Go.Proofs.Ythjmkfpdbbfcpaa.FR

theorem infozF : (Try.prog.info? 25).map (fun i => (i.zero, i.size, i.bytes)) = some (some (.agg #[.int .i64 0, .slice none 0 0, .string ⟨#[]⟩, .string ⟨#[]⟩, .string ⟨#[]⟩, .slice none 0 0, .string ⟨#[]⟩]), 7, 120) := by kernel_rfl
theorem infoFs : (Try.prog.info? 22).map (·.size) = some 1 := by kernel_rfl
theorem zeroF : ∀ w, (zeroValue 25).run Try.prog w = .ok (.agg #[.int .i64 0, .slice none 0 0, .string ⟨#[]⟩, .string ⟨#[]⟩, .string ⟨#[]⟩, .slice none 0 0, .string ⟨#[]⟩]) w := fun _ => by kernel_rfl
/-- A piece none of whose tags and lists is too long. -/
def okF : Nat → Nd → Prop
  | 0, _ => False
  | d + 1, n => 0 ≤ n.tag ∧ n.tag ≤ 255 ∧ n.kids.length ≤ 4000 ∧ ∀ x ∈ n.kids, okF d x
theorem okF_nd0 (d : Nat) : okF (d + 1) nd0 := ⟨by decide, by decide, by show (0 : Nat) ≤ _; omega, fun x hx => by cases hx⟩
theorem okF.kid {d : Nat} {n : Nd} (h : okF (d + 1) n) (i : Nat) : (kidN n i).kids.length ≤ 4000 := by
  by_cases hi : i < n.kids.length
  · have e : kidN n i = n.kids[i] := by unfold kidN; rw [List.getD_eq_getElem?_getD, List.getElem?_eq_getElem hi]; rfl
    have h1 := h.2.2.2 _ (List.getElem_mem hi)
    rw [e]
    cases d with
    | zero => exact h1.elim
    | succ d => exact h1.2.2.1
  · have e : kidN n i = nd0 := by unfold kidN; rw [List.getD_eq_getElem?_getD, List.getElem?_eq_none (by omega)]; rfl
    rw [e]; show (0 : Nat) ≤ _; omega
theorem kid_sz {M : Nat} {S : Nat → Prop} {w : World} {n : Nd} {cs : List Value} (h : NdAt M S w n cs) : Sz n.body := by
  obtain ⟨-, -, -, -, h1, -⟩ := h.head
  exact h1
theorem kid_szN {M : Nat} {S : Nat → Prop} {w : World} {n : Nd} {cs : List Value} (h : NdAt M S w n cs) (i : Nat) : Sz (kidN n i).body := by
  by_cases hi : i < n.kids.length
  · obtain ⟨M, rfl⟩ := h.succ
    obtain ⟨_, _, _, _, _, _, _, hxa⟩ := h.kid (List.getElem?_eq_getElem hi)
    have e : kidN n i = n.kids[i] := by unfold kidN; rw [List.getD_eq_getElem?_getD, List.getElem?_eq_getElem hi]; rfl
    rw [e]; exact kid_sz hxa
  · have e : kidN n i = nd0 := by unfold kidN; rw [List.getD_eq_getElem?_getD, List.getElem?_eq_none (by omega)]; rfl
    rw [e]; show (0 : Nat) ≤ _; omega
theorem tx_none (S : Nat → Prop) (w : World) : Tx S w (.slice none 0 0) [] := ⟨tx_nil _ _ _ _, by show (0 : Nat) ≤ _; omega, fun x hx => by cases hx⟩
theorem fl_leaf {d : Nat} {S : Nat → Prop} {w : World} (k : Int) {ty va fi la : B} {any : List B} {T V Fi La : ByteArray} {v : Value} (hk : I64 k) (e1 : T = sb ty) (h1 : Sz ty) (e2 : V = sb va) (h2 : Sz va) (e3 : Fi = sb fi) (h3 : Sz fi) (e4 : La = sb la) (h4 : Sz la) (hv : Tx S w v any) :
    FlC (d + 1) S w (.mk k [] ty va fi any la) [.int .i64 k, .slice none 0 0, .string T, .string V, .string Fi, v, .string La] := by
  subst e1; subst e2; subst e3; subst e4
  exact ⟨_, _, rfl, hk, h1, h2, h3, h4, hv, none, 0, rfl, Nat.le_refl _, by show (0 : Nat) ≤ _; omega, .inl rfl⟩
theorem flat_le {α : Type} (f : α → B) : ∀ (l : List α), (∀ x ∈ l, 1 ≤ (f x).length) → l.length ≤ (l.map f).flatten.length
  | [], _ => Nat.zero_le _
  | x :: r, h => by
    have h1 := h x (by simp)
    have h2 := flat_le f r fun y hy => h y (by simp [hy])
    rw [List.map_cons, List.flatten_cons, List.length_append, List.length_cons]
    omega
theorem okF_of : ∀ {d : Nat} {n : Nd}, deep d n = true → shaped d n = true → fits d n = true → okF d n
  | 0, _, h, _, _ => by cases h
  | d + 1, n, h1, h2, h3 => by
    simp only [deep, List.all_eq_true] at h1
    simp only [shaped, Bool.and_eq_true, List.all_eq_true] at h2
    simp only [fits, Bool.and_eq_true, List.all_eq_true, decide_eq_true_eq] at h3
    have ht := h2.1.1
    unfold tagB at ht
    simp only [Bool.and_eq_true, decide_eq_true_eq] at ht
    refine ⟨ht.1.1, ht.1.2, ?_, fun x hx => okF_of (h1 x hx) (h2.2 x hx) (h3.1 x hx)⟩
    have hc := h3.2
    unfold cont at hc
    rw [List.length_append] at hc
    have := flat_le (enc d) n.kids (fun x hx => by
      cases d with
      | zero => have := h1 x hx; cases this
      | succ d => rw [enc_len]; omega)
    omega
theorem okF.kidK {d : Nat} {n : Nd} (h : okF (d + 2) n) (i : Nat) : okF (d + 1) (kidN n i) := by
  by_cases hi : i < n.kids.length
  · have e : kidN n i = n.kids[i] := by unfold kidN; rw [List.getD_eq_getElem?_getD, List.getElem?_eq_getElem hi]; rfl
    rw [e]
    exact h.2.2.2 _ (List.getElem_mem hi)
  · have e : kidN n i = nd0 := by unfold kidN; rw [List.getD_eq_getElem?_getD, List.getElem?_eq_none (by omega)]; rfl
    rw [e]
    exact okF_nd0 d
end Go.Proofs.Ythjmkfpdbbfcpaa.ME

namespace Go.Proofs.Ythjmkfpdbbfcpaa.BE
set_option maxRecDepth 100000
open Go.RowKit K

set_option maxHeartbeats 8000000 in
theorem number_any (s : B) (w : World) (hs : s.length ≤ 281474976710656) : Calls Try.prog 55 #[.string (sb s)] w fun e w' => e = .returned (.tuple #[.int .i64 (numS s).1, .bool (numS s).2]) ∧ Fr No w w' := by
  match s, hs with
  | [], _ =>
    have hsz : ((sb []).size : Int) = 0 := by rw [sb_size]; rfl
    obtain ⟨q, hq⟩ : ∃ q, sb [] = q := ⟨_, rfl⟩
    rw [hq] at hsz ⊢
    clear hq
    go_enter Try.func55, Try.ntmps55
    go_wp2_with fail
    go_ret2
    exact ⟨rfl, Fr.refl _ _⟩
  | b :: r, hs =>
    have hsz : ((sb (b :: r)).size : Int) = ((b :: r).length : Int) := by rw [sb_size]
    obtain ⟨n, hn⟩ : ∃ n, (b :: r).length = n := ⟨_, rfl⟩
    have hn0 : n = r.length + 1 := by rw [← hn]; rfl
    obtain ⟨S, hS⟩ : ∃ S, b :: r = S := ⟨_, rfl⟩
    have hnum : numS (b :: r) = if 4 < n then (0, false) else if intS (joinI (sgn b) r) = S then (joinI (sgn b) r, true) else (0, false) := by
      rw [← hn, ← hS]; rfl
    have HS := hid hS
    have h0 : S[0]? = some b := by rw [← hS]; rfl
    have hd1 : S.drop 1 = r := by rw [← hS]; rfl
    rw [hn] at hsz hs
    rw [hS] at hsz hn hnum ⊢
    obtain ⟨R, hR⟩ : ∃ R, numS S = R := ⟨_, rfl⟩
    rw [hR] at hnum ⊢
    have HR := hid hnum; have H0 := hid h0; have HD1 := hid hd1; have HN := hid hn; have HN0 := hid hn0
    have hni : (1 : Int) ≤ n := by omega
    have hni2 : (n : Int) ≤ 281474976710656 := by omega
    clear hS hnum h0 hd1 hn hR hn0
    by_cases h4 : 4 < n
    · have h4i : (4 : Int) < n := by omega
      have hr : R = (0, false) := by rw [HR.out, if_pos h4]
      subst hr
      go_enter Try.func55, Try.ntmps55
      go_wp2_with fail
      go_ret2
      exact ⟨rfl, Fr.refl _ _⟩
    · have h4i : ¬ (4 : Int) < n := by omega
      have hr : R = if intS (joinI (sgn b) r) = S then (joinI (sgn b) r, true) else (0, false) := by rw [HR.out, if_neg h4]
      have hrl : r.length ≤ 3 := by have := HN0.out; omega
      have HRL := hid hrl
      have HRR := hid hr
      have hlim := join_lim r (sgn b) 128 (by have := sgn_lim b; omega) (by have := sgn_lim b; omega)
      have hp : (256 : Int) ^ r.length ≤ 16777216 := by
        match r, hrl with
        | [], _ => decide
        | [_], _ => simp
        | [_, _], _ => simp
        | [_, _, _], _ => simp
      have HJB := hid (show -2147483648 ≤ joinI (sgn b) r ∧ joinI (sgn b) r < 2147483648 by omega)
      clear hr hrl hlim hp HR
      obtain ⟨J, hJ⟩ : ∃ J, joinI (sgn b) r = J := ⟨_, rfl⟩
      rw [hJ] at HRR HJB
      have HJ := hid hJ
      obtain ⟨bn, hbn⟩ : ∃ bn, b.toNat = bn := ⟨_, rfl⟩
      have hbl := lt256 b
      rw [hbn] at hbl
      have HBN := hid hbn
      clear hJ hbn
      go_enter Try.func55, Try.ntmps55
      go_wp2_with fail
      have hold : Facts.hold [] w.drew := Facts.nil_hold _
      refine wp_region_noPanic ?_
      refine wpD_region hold (by kernel_rfl) 7 rfl ?_
      (refine wpD_plain 0 (v := ?_) rfl (by kernel_rfl) (by kernel_rfl) (by kernel_rfl) (fun _ _ _ h => h) (by rfl) ?_ (by assumption) ?_; rotate_left; (intro _w; go_simp; try with_reducible rfl); simp only [Act.put, K.put3])
      (refine wpD_plain 1 (v := (.int .u8 (bn : Int))) rfl (by kernel_rfl) (by kernel_rfl) (by kernel_rfl) (fun _ _ _ h => h) (by rfl) ?_ (by assumption) ?_; (intro _w; rw [← HBN.out]; exact exec_idx _ _ rfl S 0 b H0.out _ rfl rfl rfl _w); simp only [Act.put, K.put3])
      (refine wpD_plain 3 (v := ?_) rfl (by kernel_rfl) (by kernel_rfl) (by kernel_rfl) (fun _ _ _ h => h) (by rfl) ?_ (by assumption) ?_; rotate_left; (intro _w; go_simp; try with_reducible rfl); simp only [Act.put, K.put3])
      (refine wpD_plain 4 (v := (.string (sb r))) rfl (by kernel_rfl) (by kernel_rfl) (by kernel_rfl) (fun _ _ _ h => h) (by rfl) ?_ (by assumption) ?_; (intro _w; exact exec_from _ _ rfl S 1 rfl rfl (by rw [HN.out]; omega) _ HD1.out _w); simp only [Act.put, K.put3])
      clear hold
      refine wpD_only 2 [] rfl (by kernel_rfl) (by kernel_rfl) (by rfl) (fun K2 hK2 => ?_)
      refine wp_call (.func 70) _ _ rfl 70 [] rfl (fun vs w => by kernel_rfl) [.int .u8 (bn : Int)] (by rfl) ?_
      have hsg := signed_any b w.drew
      rw [HBN.out] at hsg
      refine hsg.mono ?_
      clear hsg
      rintro e w1 ⟨rfl, rfl⟩
      refine ⟨_, rfl, hK2 _ _ (Facts.nil_hold _) ?_⟩
      clear hK2 K2
      simp only [Act.put, K.put3]
      refine wpD_only 5 [] rfl (by kernel_rfl) (by kernel_rfl) (by rfl) (fun K5 hK5 => ?_)
      refine wp_call (.func 82) _ _ rfl 82 [] rfl (fun vs w => by kernel_rfl) [.int .i64 (sgn b), .string (sb r)] (by rfl) ?_
      refine (joined_any (sgn b) r (sgn_lim b) HRL.out w.drew).mono ?_
      rintro e w1 ⟨rfl, rfl⟩
      rw [HJ.out]
      refine ⟨_, rfl, hK5 _ _ (Facts.nil_hold _) ?_⟩
      clear hK5 K5
      simp only [Act.put, K.put3]
      have hold : Facts.hold [] w.drew := Facts.nil_hold _
      (refine wpD_plain 6 (v := ?_) rfl (by kernel_rfl) (by kernel_rfl) (by kernel_rfl) (fun _ _ _ h => h) (by rfl) ?_ (by assumption) ?_; rotate_left; (intro _w; go_simp; try with_reducible rfl); simp only [Act.put, K.put3])
      clear hold
      refine wpD_done (by kernel_rfl) (NoPanic.normal ?_) _
      have hjb : -9223372036854775808 ≤ J ∧ J ≤ 9223372036854775807 := by have := HJB.out; omega
      go_wp2_with fail
      refine (int_any 7 J _ (Nat.le_refl _) (by have : (128 : Int) * 256 ^ 7 = 9223372036854775808 := by decide
                                                omega) (by have : (128 : Int) * 256 ^ 7 = 9223372036854775808 := by decide
                                                           omega) hjb).mono ?_
      rintro e w2 ⟨rfl, f2⟩
      have HF2 := hid ((Fr.refl No w).drew.trans' f2)
      obtain ⟨I, hI⟩ : ∃ I, intG 7 J = I := ⟨_, rfl⟩
      rw [hI]
      have HI : Hid (intS J = I) := hid hI
      clear f2 hI
      by_cases he : I = S
      · have HE := hid he
        have hr : R = (J, true) := by rw [HRR.out, if_pos (HI.out.trans he)]
        subst hr
        have hne : (!decide (I = S)) = false := by rw [decide_eq_true he]; rfl
        have HNE := hid hne
        clear he hne
        go_wp2_with ((with_reducible refine K.atO (.binOp .neq 9 _ _ _) ?_); refine wpL_valZ rfl (.bool false) (by rw [← HNE.out]; exact exec_neS _ _ _ rfl I S rfl rfl _) ?_)
        go_ret2
        exact ⟨rfl, HF2.out⟩
      · have HE := hid he
        have hr : R = (0, false) := by rw [HRR.out, if_neg (fun h => he (HI.out.symm.trans h))]
        subst hr
        have hne : (!decide (I = S)) = true := by rw [decide_eq_false he]; rfl
        have HNE := hid hne
        clear he hne
        go_wp2_with ((with_reducible refine K.atO (.binOp .neq 9 _ _ _) ?_); refine wpL_valZ rfl (.bool true) (by rw [← HNE.out]; exact exec_neS _ _ _ rfl I S rfl rfl _) ?_)
        go_ret2
        exact ⟨rfl, HF2.out⟩
end Go.Proofs.Ythjmkfpdbbfcpaa.BE
