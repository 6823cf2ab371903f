/-
  Package ber: the children of an element are read, one by one.
-/
import Derived.Test.YthnahoodgkeaiaaBeR
set_option linter.unusedVariables false
set_option linter.unusedSimpArgs false
namespace Go.Proofs.Ythnahoodgkeaiaa.BE
set_option maxRecDepth 100000
open Go.RowKit K

/-- An element whose children are being read. -/
structure KS (m base bn : Nat) (t : Int) (acc : List Nd) (v : Value) (L : List (List Value)) (w : World) : Prop where
  b : Blk w bn 24 [.int .i64 t, .string ⟨#[]⟩, v]
  r : w.ownsRow base 24 3 v acc.length L.flatten
  l : L.length = acc.length
  k : ∀ (j : Nat) (x : Nd) (c : List Value), acc[j]? = some x → L[j]? = some c → NdAt m (fun k => base ≤ k ∧ v.ownBlock ≠ some k) w x c
theorem KS.fr {m base bn : Nat} {t : Int} {acc : List Nd} {v : Value} {L : List (List Value)} {w w' : World} {D : Nat → Prop} (h : KS m base bn t acc v L w) (hf : Fr D w w') (hd : ∀ k, D k → k < base ∧ k ≠ bn) : KS m base bn t acc v L w' :=
  ⟨h.b.fr hf (fun e => (hd _ e).2 rfl), own_fr h.r hf (fun k hk e => by have := own_low h.r k hk; have := (hd k e).1; omega), h.l, fun j x c hx hc => NdAt.fr hf (fun k hk _ e => by have := (hd k e).1; have := hk.1; omega) (h.k j x c hx hc)⟩
theorem KS.no {m base bn : Nat} {t : Int} {acc : List Nd} {v : Value} {L : List (List Value)} {w w' : World} (h : KS m base bn t acc v L w) (hf : Fr No w w') : KS m base bn t acc v L w' := h.fr hf fun _ e => e.elim
theorem KS.step {m base bn : Nat} {t : Int} {acc : List Nd} {v : Value} {L : List (List Value)} {w w' : World} (h : KS m base bn t acc v L w) (hbn : bn < base) {N : Nat} {n : Nd} {cs : List Value} (hn : NdAt m (Since N) w n cs) (hN : base ≤ N) (hv : ∀ g, v.ownBlock = some g → g < N)
    {v' : Value} (hB : Blk w' bn 24 [.int .i64 t, .string ⟨#[]⟩, v']) (hr : w'.ownsRow base 24 3 v' (acc.length + 1) (L.flatten ++ cs)) (hf : Fr (fun k => k = bn ∨ v.ownBlock = some k ∨ v'.ownBlock = some k) w w')
    (ho : ∀ g, v'.ownBlock = some g → v.ownBlock = some g ∨ w.heap.size ≤ g) : KS m base bn t (acc ++ [n]) v' (L ++ [cs]) w' := by
  have key : ∀ (x : Nd) (c : List Value), NdAt m (fun k => base ≤ k ∧ v.ownBlock ≠ some k) w x c → NdAt m (fun k => base ≤ k ∧ v'.ownBlock ≠ some k) w' x c := fun x c hx => by
    have h1 : NdAt m (fun k => base ≤ k ∧ v.ownBlock ≠ some k ∧ v'.ownBlock ≠ some k) w x c := NdAt.mono (fun k hk hs => ⟨hs.1, hs.2, fun e => by
      rcases ho k e with h | h
      · exact hs.2 h
      · omega⟩) hx
    refine NdAt.mono (fun k _ hs => ⟨hs.1, hs.2.2⟩) (NdAt.fr hf (fun k hs _ e => ?_) h1)
    rcases e with e | e | e
    · have := hs.1; omega
    · exact hs.2.1 e
    · exact hs.2.2 e
  have kn : NdAt m (fun k => base ≤ k ∧ v.ownBlock ≠ some k) w n cs := NdAt.mono (fun k hk hs => ⟨Nat.le_trans hN hs, fun e => by have := hv k e; have hs : N ≤ k := hs; omega⟩) hn
  refine ⟨hB, ?_, by simp [h.l], fun j x c hx hc => ?_⟩
  · rw [List.length_append, List.flatten_append]
    simpa using hr
  · rcases Nat.lt_or_ge j acc.length with hj | hj
    · rw [List.getElem?_append_left hj] at hx
      rw [List.getElem?_append_left (by rw [h.l]; exact hj)] at hc
      exact key x c (h.k j x c hx hc)
    · have h0 : j - acc.length = 0 := by
        have := (List.getElem?_eq_some_iff.1 hx).1
        simp at this; omega
      rw [List.getElem?_append_right hj, h0] at hx
      rw [List.getElem?_append_right (by rw [h.l]; exact hj), h.l, h0] at hc
      obtain rfl : n = x := by simpa using hx
      obtain rfl : cs = c := by simpa using hc
      exact key n cs kn
/-- What read leaves. -/
def Reads (m : Nat) (s : B) (w : World) (e : Ending) (w' : World) : Prop := Fr No w w' ∧ match rd m s with
  | .error k => e = .panicked [fl k]
  | .ok (n, u) => ∃ cs, e = .returned (.tuple #[.agg cs.toArray, .int .i64 (u : Int)]) ∧ NdAt m (Since w.heap.size) w' n cs
/-- A contract of read, at a depth. -/
def ReadOk (m : Nat) : Prop := ∀ (s : B) (w : World), s.length ≤ 281474976710656 → Calls Try.prog 31 #[.string (sb s), .int .i64 ((9 - m : Nat) : Int)] w (Reads m s w)
def strAt (b : Nat) (w : World) : Nat := match w.cell? ⟨b, 0, none⟩ with
  | some (.string s) => s.size
  | _ => 0
theorem infoStr : (Try.prog.info? 9).map (·.size) = some 1 := by kernel_rfl
abbrev vis (bn : Nat) : Value := .func (.func 48) #[] #[.pointer (some ⟨bn, 0, none⟩)]
/-- What the reading of the children leaves, in the closure. -/
def KidsP (m bn b1 : Nat) (t : Int) (c : B) (o : Option Nat) (w1 w2 : World) : Prop := Fr (fun k => k = b1 ∨ k = bn) w1 w2 ∧ match o with
  | none => ∃ ks v L, kidsG (rd m) c.length c = .ok ks ∧ KS m w1.heap.size bn t ks v L w2
  | some k => kidsG (rd m) c.length c = .error k
set_option maxHeartbeats 8000000 in
theorem rc1_any (m bn b1 b2 b3 : Nat) (t : Int) (c : B) (w : World) (ih : ReadOk m) (h1 : Blk w b1 9 [.string (sb c)]) (h2 : Blk w b2 3 [.int .i64 ((9 - m : Nat) : Int)]) (h3 : Blk w b3 49 [vis bn]) (hn : Blk w bn 24 [.int .i64 t, .string ⟨#[]⟩, .slice none 0 0])
    (d12 : b1 ≠ b2) (d13 : b1 ≠ b3) (dn1 : bn ≠ b1) (dn2 : bn ≠ b2) (dn3 : bn ≠ b3) (hc : c.length ≤ 4000) :
    Calls Try.prog 52 #[.pointer (some ⟨b1, 0, none⟩), .pointer (some ⟨b2, 0, none⟩), .pointer (some ⟨b3, 0, none⟩)] w fun e w' => (e = .returned (.tuple #[]) ∧ KidsP m bn b1 t c none w w') ∨ ∃ k, e = .panicked [fl k] ∧ KidsP m bn b1 t c (some k) w w' := by
  have l1 := h1.lt; have l2 := h2.lt; have l3 := h3.lt; have ln := hn.lt
  have HIH := hid ih; have HH1 := hid h1; have HH2 := hid h2; have HH3 := hid h3; have HHN := hid hn
  have HD := hid (show b1 ≠ b2 ∧ b1 ≠ b3 ∧ bn ≠ b1 ∧ bn ≠ b2 ∧ bn ≠ b3 from ⟨d12, d13, dn1, dn2, dn3⟩)
  have HLT := hid (show b1 < w.heap.size ∧ b2 < w.heap.size ∧ b3 < w.heap.size ∧ bn < w.heap.size from ⟨l1, l2, l3, ln⟩)
  have HC := hid hc
  obtain ⟨dd, hdd⟩ : ∃ dd : Int, ((9 - m : Nat) : Int) = dd := ⟨_, rfl⟩
  have HDD := hid hdd
  rw [hdd] at HH2
  clear ih h1 h2 h3 hn d12 d13 dn1 dn2 dn3 hc l1 l2 l3 ln hdd
  go_enter Try.func52, Try.ntmps52
  go_wp2_with fail
  go_loopw [4] (fun _ wr => ∃ (r : B) (acc : List Nd) (v : Value) (L : List (List Value)) (k : Nat), Hid (Blk wr b1 9 [.string (sb r)]) ∧ Hid (KS m w.heap.size bn t acc v L wr) ∧ Hid (kidsG (rd m) c.length c = mapK acc (kidsG (rd m) k r)) ∧ Hid (r.length ≤ k ∧ acc.length * 2 + r.length ≤ 4000) ∧ Hid (Fr (fun k => k = b1 ∨ k = bn) w wr)) (fun _ wr => strAt b1 wr)
  case atStart => exact ⟨c, [], .slice none 0 0, [], c.length, HH1, hid ⟨HHN.out, World.ownsRow_nil _ _ _ _, rfl, fun j x c h => by simp at h⟩, hid (mapK_nil _).symm, hid ⟨Nat.le_refl _, by have := HC.out; simpa using this⟩, hid (Fr.refl _ _)⟩
  case round =>
    obtain ⟨r, acc, v, L, k, HB1, HKS, HK0, HL, HF⟩ := hrel
    have c1 : wr.cell? ⟨b1, 0, none⟩ = some (.string (sb r)) := HB1.out.cell 0
    have hsr := sb_empty r
    by_cases hr : r = []
    · subst hr
      have hse : (sb []).toList.isEmpty = true := by rw [hsr]; rfl
      clear hsr
      generalize hq : sb ([] : B) = q at *
      go_wp2_with fail
      go_end0
      refine .inl ⟨rfl, HF.out, acc, v, L, ?_, HKS.out⟩
      rw [HK0.out, mapK_done]
    · have hse : (sb r).toList.isEmpty = false := by rw [hsr]; cases r with
        | nil => exact absurd rfl hr
        | cons _ _ => rfl
      have HR := hid hr
      have c2 : wr.cell? ⟨b2, 0, none⟩ = some (.int .i64 dd) := (HH2.out.fr HF.out (fun e => e.elim (fun e => HD.out.1 e.symm) (fun e => HD.out.2.2.2.1 e.symm))).cell 0
      have hb3 : Blk wr b3 49 [vis bn] := HH3.out.fr HF.out (fun e => e.elim (fun e => HD.out.2.1 e.symm) (fun e => HD.out.2.2.2.2 e.symm))
      have HB3 := hid hb3
      have hrl : r.length ≤ 4000 := by have := HL.out; omega
      clear hsr hr hb3
      go_wp2_with fail
      have hih := HIH.out r wr (by omega)
      rw [HDD.out] at hih
      refine hih.mono ?_
      clear hih
      rintro e w2 ⟨f2, hm⟩
      cases hrd : rd m r with
      | error q =>
        rw [hrd] at hm
        simp only at hm
        subst hm
        refine ⟨rfl, .inr ⟨q, rfl, HF.out.trans' f2.no, ?_⟩⟩
        show kidsG (rd m) c.length c = .error q
        rw [HK0.out, mapK_err acc (rd m) HR.out HL.out.1 hrd]
      | ok p =>
        obtain ⟨n, u⟩ := p
        rw [hrd] at hm
        simp only at hm
        obtain ⟨cs, rfl, hn⟩ := hm
        obtain ⟨x', y', z', hcs⟩ := box_kid cs hn.len
        subst hcs
        have hui := rd_inv m r n u hrd
        have HU := hid (show 2 ≤ u ∧ u ≤ r.length from ⟨hui.2.2.2.2.1, hui.2.2.2.2.2⟩)
        obtain ⟨j, hkj, hstep⟩ := mapK_step acc (rd m) HR.out HL.out.1 hrd
        have HJ := hid hkj; have HST := hid hstep; have HN := hid hn; have HF2 := hid f2
        clear hui hkj hstep hn f2 hrd c1 c2 hse hrl
        go_wp2_with (first
          | ((with_reducible show wpList _ _ _ (⟨_, .alloc 24, _, _, _, _⟩ :: _) _ _); refine wpL_alloc rfl _ rfl _ zeroN [.int .i64 0, .string ⟨#[]⟩, .slice none 0 0] rfl ?_; intro w3 HB4 F3 HS3)
          | ((with_reducible show wpList _ _ _ (⟨_, .store 24 _ _, _, _, _, _⟩ :: _) _ _); refine wpL_storeV rfl _ _ _ rfl w2.heap.size 0 (.agg #[x', y', z']) [x', y', z'] rfl rfl rfl _ _ HB4.out (by simp) infoN (by intro u hu; exact HN.out.one u hu) ?_; intro w4 HB5 F4 HS4;
              have HB5c : Hid (Blk w4 w2.heap.size 24 [x', y', z']) := hid (by have h := HB5.out; rwa [spl_all (by simp)] at h);
              have HF24 : Hid (Fr No w2 w4) := hid (F3.out.trans F4.out (fun i e => .inr (by have e : i = w2.heap.size := e; omega)));
              have HFW : Hid (Fr No wr w4) := hid (HF2.out.trans' HF24.out);
              have c3 : w4.cell? ⟨b3, 0, none⟩ = some (vis bn) := (HB3.out.fr HFW.out id).cell 0)
          | ((with_reducible show wpList _ _ _ (⟨_, .load 24 _, _, _, _, _⟩ :: _) _ _); refine wpL_load rfl _ _ rfl w2.heap.size 0 rfl [x', y', z'] _ (HB5c.out.range 0 _ rfl) rfl rfl infoN ?_))
        have hks4 := HKS.out.no HFW.out
        refine (visit_any w.heap.size bn t v acc.length L.flatten [x', y', z'] w4 hks4.b hks4.r HLT.out.2.2.2 (Nat.le_trans HF.out.size HFW.out.size) (by have := HL.out; omega) rfl HN.out.one).mono ?_
        rintro e w5 ⟨rfl, v', hB5, hr5, f5, ho5⟩
        have hks5 : KS m w.heap.size bn t (acc ++ [n]) v' (L ++ [[x', y', z']]) w5 := hks4.step HLT.out.2.2.2 (HN.out.no HF24.out) HF.out.size (fun g hg => (own_ge HKS.out.r g hg).2) hB5 hr5 f5 ho5
        have HKS5 := hid hks5
        have hd5 : ∀ k, (k = bn ∨ v.ownBlock = some k ∨ v'.ownBlock = some k) → k = bn ∨ w.heap.size ≤ k := fun k hk => by
          rcases hk with h | h | h
          · exact .inl h
          · exact .inr (own_low HKS.out.r k h)
          · exact .inr (own_low hr5 k h)
        have hb15 : Blk w5 b1 9 [.string (sb r)] := (HB1.out.fr HFW.out id).fr f5 (fun e => by
          rcases hd5 b1 e with h | h
          · exact HD.out.2.2.1 h.symm
          · have := HLT.out.1; omega)
        have HB15 := hid hb15
        have c15 : w5.cell? ⟨b1, 0, none⟩ = some (.string (sb r)) := hb15.cell 0
        have hf5 : Fr (fun k => k = b1 ∨ k = bn) w w5 := (HF.out.trans' HFW.out.no).trans f5 (fun k hk => (hd5 k hk).elim (fun e => .inl (.inr e)) .inr)
        have HF5 := hid hf5
        clear hks4 hks5 hB5 hr5 f5 ho5 hd5 hb15 hf5 c3
        go_wp2_with (first
          | ((with_reducible show wpList _ _ _ (⟨_, .slice 9 _ _ _ _, _, _, _, _⟩ :: _) _ _); refine wpL_valZ rfl (.string (sb (r.drop u))) (exec_from _ _ rfl r u rfl rfl HU.out.2 _ rfl _) ?_)
          | ((with_reducible show wpList _ _ _ (⟨_, .store 9 _ _, _, _, _, _⟩ :: _) _ _); refine wpL_setV rfl _ _ _ rfl b1 0 (.string (sb (r.drop u))) rfl rfl rfl rfl _ _ HB15.out (by simp) infoStr ?_; intro w6 HB6 F6 HS6))
        have hks6 : KS m w.heap.size bn t (acc ++ [n]) v' (L ++ [[x', y', z']]) w6 := HKS5.out.fr F6.out (fun k hk => by have e : k = b1 := hk; have := HLT.out.1; exact ⟨by omega, fun h => HD.out.2.2.1 (h.symm.trans e)⟩)
        have hst : strAt b1 wr = r.length := by
          unfold strAt
          rw [HB1.out.cell 0]
          exact sb_size r
        have hst6 : strAt b1 w6 = r.length - u := by
          unfold strAt
          rw [HB6.out.cell 0]
          show (sb (r.drop u)).size = _
          rw [sb_size, List.length_drop]
        go_roundw
        case rel =>
          have hl := HL.out; have hu := HU.out; have hj := HJ.out
          refine ⟨_, _, _, _, _, _, _, _, _, _, _, _, _, _, _, _, ⟨r.drop u, acc ++ [n], v', L ++ [[x', y', z']], j, hid HB6.out, hid hks6, hid (HK0.out.trans HST.out), hid ⟨by rw [List.length_drop]; omega, by rw [List.length_append, List.length_drop]; simp only [List.length_cons, List.length_nil]; omega⟩, hid (HF5.out.trans' (F6.out.mono fun k hk => .inl hk))⟩, rfl⟩
        case measure =>
          have hu := HU.out
          rw [hst, hst6]; omega
end Go.Proofs.Ythnahoodgkeaiaa.BE
