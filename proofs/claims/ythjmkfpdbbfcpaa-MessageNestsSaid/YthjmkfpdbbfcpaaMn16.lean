/-
  Part 16 of the proof: MpP, Bulk, MeRow.
-/
import Derived.Test.YthjmkfpdbbfcpaaMn15
import Derived.Test.YthjmkfpdbbfcpaaRows
import Derived.Test.YthjmkfpdbbfcpaaMn00
import Derived.Test.YthjmkfpdbbfcpaaMn01
import Derived.Test.YthjmkfpdbbfcpaaMn02
set_option linter.unusedSimpArgs false
set_option linter.unusedVariables false
namespace Go.Proofs.Ythjmkfpdbbfcpaa.ME
set_option maxRecDepth 100000
open Go.RowKit K Go.Proofs.Ythjmkfpdbbfcpaa.BE Go.Proofs.Ythjmkfpdbbfcpaa.FR

/-- A row of pieces that a call makes. -/
structure KR (m base : Nat) (acc : List Nd) (v : Value) (L : List (List Value)) (w : World) : Prop where
  r : w.ownsRow base 44 3 v acc.length L.flatten
  l : L.length = acc.length
  k : ∀ (j : Nat) (x : Nd) (c : List Value), acc[j]? = some x → L[j]? = some c → NdAt m (fun k => base ≤ k ∧ v.ownBlock ≠ some k) w x c
theorem KR.fr {m base : Nat} {acc : List Nd} {v : Value} {L : List (List Value)} {w w' : World} {D : Nat → Prop} (h : KR m base acc v L w) (hf : Fr D w w') (hd : ∀ k, D k → k < base) : KR m base acc v L w' :=
  ⟨own_fr h.r hf (fun k hk e => by have := own_low h.r k hk; have := hd k e; omega), h.l, fun j x c hx hc => NdAt.fr hf (fun k hk _ e => by have := hd k e; have := hk.1; omega) (h.k j x c hx hc)⟩
theorem KR.no {m base : Nat} {acc : List Nd} {v : Value} {L : List (List Value)} {w w' : World} (h : KR m base acc v L w) (hf : Fr No w w') : KR m base acc v L w' := h.fr hf fun _ e => e.elim
theorem KR.nil (m base : Nat) (w : World) : KR m base [] (.slice none 0 0) [] w := ⟨World.ownsRow_nil _ _ _ _, rfl, fun j x c hx => by simp at hx⟩
theorem KR.step {m base : Nat} {acc : List Nd} {v : Value} {L : List (List Value)} {w w' : World} (h : KR m base acc v L w) {N : Nat} {n : Nd} {cs : List Value} (hn : NdAt m (Since N) w n cs) (hN : base ≤ N) (hv : ∀ g, v.ownBlock = some g → g < N)
    {v' : Value} (hr : w'.ownsRow base 44 3 v' (acc.length + 1) (L.flatten ++ cs)) (hf : Fr (fun k => v.ownBlock = some k ∨ v'.ownBlock = some k) w w')
    (ho : ∀ g, v'.ownBlock = some g → v.ownBlock = some g ∨ w.heap.size ≤ g) : KR m base (acc ++ [n]) v' (L ++ [cs]) w' := by
  have key : ∀ (x : Nd) (c : List Value), NdAt m (fun k => base ≤ k ∧ v.ownBlock ≠ some k) w x c → NdAt m (fun k => base ≤ k ∧ v'.ownBlock ≠ some k) w' x c := fun x c hx => by
    have h1 : NdAt m (fun k => base ≤ k ∧ v.ownBlock ≠ some k ∧ v'.ownBlock ≠ some k) w x c := NdAt.mono (fun k hk hs => ⟨hs.1, hs.2, fun e => by
      rcases ho k e with h | h
      · exact hs.2 h
      · omega⟩) hx
    refine NdAt.mono (fun k _ hs => ⟨hs.1, hs.2.2⟩) (NdAt.fr hf (fun k hs _ e => ?_) h1)
    rcases e with e | e
    · exact hs.2.1 e
    · exact hs.2.2 e
  have kn : NdAt m (fun k => base ≤ k ∧ v.ownBlock ≠ some k) w n cs := NdAt.mono (fun k hk hs => ⟨Nat.le_trans hN hs, fun e => by have := hv k e; have hs : N ≤ k := hs; omega⟩) hn
  refine ⟨?_, by simp [h.l], fun j x c hx hc => ?_⟩
  · rw [List.length_append, List.flatten_append]
    simpa using hr
  · rcases Nat.lt_or_ge j acc.length with hj | hj
    · rw [List.getElem?_append_left hj] at hx
      rw [List.getElem?_append_left (by rw [h.l]; exact hj)] at hc
      exact key x c (h.k j x c hx hc)
    · have h0 : j - acc.length = 0 := by
        have := (List.getElem?_eq_some_iff.1 hx).1
        simp at this; omega
      rw [List.getElem?_append_right hj, h0] at hx
      rw [List.getElem?_append_right (by rw [h.l]; exact hj), h.l, h0] at hc
      obtain rfl : n = x := by simpa using hx
      obtain rfl : cs = c := by simpa using hc
      exact key n cs kn
/-- The row is the row of an element's children. -/
theorem kr_nd {m base : Nat} {t : Int} {acc : List Nd} {v : Value} {L : List (List Value)} {w : World} (h : KR m base acc v L w) (ht : I64 t) (hl : acc.length ≤ 140737488351232) : NdAt (m + 1) (Since base) w (.mk t [] acc) [.int .i64 t, .string (sb []), v] := by
  obtain ⟨a, cap, hv, -, hg⟩ := own_form h.r
  have hr0 := h.r
  rw [hv] at hr0
  refine ⟨a, cap, by rw [hv]; rfl, ht, by show (0 : Nat) ≤ _; omega, Nat.le_min.2 ⟨own_cap hr0, hl⟩, ?_⟩
  by_cases h0 : acc = []
  · exact .inl h0
  · right
    have hpos : 0 < acc.length := by
      rcases Nat.eq_zero_or_pos acc.length with h1 | h1
      · exact absurd (List.eq_nil_of_length_eq_zero h1) h0
      · exact h1
    obtain ⟨g, rfl⟩ := hg hpos
    have hgw := own_ge h.r g (by rw [hv]; rfl)
    refine ⟨g, 0, L, rfl, hgw.1, hgw.2, ?_, h.l, fun j x c hx hc => NdAt.mono (fun k _ hk => hk.1) (h.k j x c hx hc)⟩
    intro j u hj
    have := h.r.cells (g := g) (by rw [hv]; rfl) j u hj
    rwa [Addr.add_mid] at this
/-- A row that lies in a block of its own, whole. -/
theorem KR.new {m : Nat} {base g : Nat} {acc : List Nd} {L : List (List Value)} {w : World} {N : Nat} (hB : Blk w g 44 L.flatten) (hg : base ≤ g) (hl : L.length = acc.length) (h3 : ∀ c ∈ L, c.length = 3) (hk : acc.length ≤ maxLen)
    (h : ∀ (j : Nat) (x : Nd) (c : List Value), acc[j]? = some x → L[j]? = some c → NdAt m (fun k => base ≤ k ∧ k ≠ g) w x c) : KR m base acc (.slice (some ⟨g, 0, none⟩) acc.length acc.length) L w := by
  have hf : L.flatten.length = acc.length * 3 := by rw [flat_length L h3, hl]
  refine ⟨hB.own hg hf (Nat.le_refl _) hk hf (by rw [← hf, List.take_length]), hl, fun j x c hx hc => NdAt.mono (fun k _ hs => ⟨hs.1, fun e => hs.2 (by simpa [Value.ownBlock] using e.symm)⟩) (h j x c hx hc)⟩

/-- A row of pieces is told. -/
def RowR (m : Nat) (acc : List Nd) (w : World) (e : Ending) (w' : World) : Prop := ∃ v L base, e = .returned v ∧ w.heap.size ≤ base ∧ KR m base acc v L w' ∧ Fr No w w'
set_option maxHeartbeats 8000000 in
theorem wparts_any (M : Nat) (E : Nat → Prop) (f : Fl) (cs : List Value) (w : World) (h : FlC M E w f cs) (hB : f.any.length ≤ 1048576) :
    Calls Try.prog 90 #[.agg cs.toArray] w (RowR 1 (partsN f) w) := by
  obtain ⟨M, rfl⟩ := h.succ
  obtain ⟨vk, va, rfl, -, -, -, hs1, hs2, ht, hs⟩ := h
  obtain ⟨k1, ck, rfl, -, -⟩ := hs.form
  have HTX := hid ht
  obtain ⟨a1, ca, rfl, -, -⟩ := ht.form
  obtain ⟨n, hn⟩ : ∃ n, f.any.length = n := ⟨_, rfl⟩
  rw [hn] at HTX hB ⊢
  have HNN := hid hn
  obtain ⟨FI, hFI⟩ : ∃ S, sb f.first = S := ⟨_, rfl⟩
  obtain ⟨LA, hLA⟩ : ∃ S, sb f.last = S := ⟨_, rfl⟩
  have HFI := hid hFI; have HLA := hid hLA; have HS1 := hid hs1; have HS2 := hid hs2; have HAL := hid hB
  have e1 : FI.toList.isEmpty = f.first.isEmpty := by rw [← hFI, sbE]
  have e2 : LA.toList.isEmpty = f.last.isEmpty := by rw [← hLA, sbE]
  have E1 := hid e1; have E2 := hid e2
  rw [hFI, hLA]
  have hni : (n : Int) ≤ 1048576 := by omega
  obtain ⟨ic, hic, hzc, hsc, hbc⟩ := Go.info_parts infozN
  have IC := hid hic; have ZC := hid hzc; have SC := hid hsc; have BC := hid hbc
  clear hic hzc hsc hbc ht hs hn hFI hLA hs1 hs2 e1 e2 hB
  by_cases hf : f.first.isEmpty = true
  · have g1 : FI.toList.isEmpty = true := by rw [E1.out]; exact hf
    have HEF := hid hf
    clear hf
    go_enter Try.func90, Try.ntmps90
    go_wp2_with (first
      | ((with_reducible refine K.atO (.box 25 _) ?_); refine wpL_box rfl _ _ rfl _ rfl [.int .i64 f.kind, .slice k1 f.kids.length ck, .string (sb f.type), .string (sb f.value), .string FI, .slice a1 n ca, .string LA] rfl ?_; intro w1 HB1 F1 HS1'; have c4 : w1.cell? ⟨w.heap.size, 4, none⟩ = some (.string FI) := HB1.out.cell 4; have c5 : w1.cell? ⟨w.heap.size, 5, none⟩ = some (.slice a1 n ca) := HB1.out.cell 5; have HC5 := hid c5; have HC6 : Hid (w1.cell? ⟨w.heap.size, 6, none⟩ = some (.string LA)) := hid (HB1.out.cell 6))
      | fail)
    clear c4 c5
    go_loopw [3, 18] (fun kv iv wr => ∃ (i : Nat) (v : Value) (L : List (List Value)), kv = v ∧ iv = .int .i64 i ∧ i ≤ n ∧ Hid (KR 1 w1.heap.size ((f.any.take i).map (fun a => Nd.mk 129 a [])) v L wr ∧ Fr No w1 wr)) (fun _ iv _ => n - (intOf iv).toNat)
    case atStart => exact ⟨0, _, _, rfl, rfl, Nat.zero_le _, hid ⟨KR.nil _ _ _, Fr.refl _ _⟩⟩
    case round =>
      obtain ⟨i, v, L, rfl, rfl, hi, HI⟩ := hrel
      have hal : ((f.any.take i).map (fun a => Nd.mk 129 a [])).length = i := by simp only [List.length_append, List.length_map, List.length_take, List.length_cons, List.length_nil]; have := HNN.out; omega
      have HAL' := hid hal
      have hri := HI.out.1.r
      have hkr := HI.out.1
      rw [hal] at hri
      obtain ⟨va, vc, rfl, -, -⟩ := own_form hri
      have HKI := hid hkr; have HFI' := hid HI.out.2
      have c6 : wr.cell? ⟨w.heap.size, 6, none⟩ = some (.string LA) := HI.out.2.cell HC6.out id
      clear hri hal hkr HI
      by_cases hlt : i < n
      · have hiX : i < f.any.length := by rw [HNN.out]; exact hlt
        obtain ⟨x, hx⟩ : ∃ x, f.any[i] = x := ⟨_, rfl⟩
        have k2 : ∃ g o, a1 = some ⟨g, o, none⟩ ∧ wr.cell? ⟨g, o + i, none⟩ = some (.string (sb x)) := by
          obtain ⟨⟨a', n', c', e1, -, -, hA⟩, -, -⟩ := HTX.out.no (F1.out.trans' HFI'.out)
          simp only [Value.slice.injEq] at e1
          obtain ⟨rfl, rfl, rfl⟩ := e1
          obtain ⟨g, o, rfl, -, -, hr⟩ := hA.resolve_left (by omega)
          exact ⟨g, o, rfl, by have := hr i _ (show (strs f.any)[i]? = some (.string (sb f.any[i])) by simp [strs, hiX]); rwa [hx] at this⟩
        obtain ⟨g, o, rfl, k2⟩ := k2
        have HSX := hid (show Sz x by rw [← hx]; exact HTX.out.2.2 _ (List.getElem_mem _))
        have HNX : Hid ((f.any.take (i + 1)).map (fun a => Nd.mk 129 a []) = ((f.any.take i).map (fun a => Nd.mk 129 a [])) ++ [Nd.mk 129 x []]) := hid (by rw [List.take_succ_eq_append_getElem hiX, List.map_append, hx]; simp)
        obtain ⟨SX, hSX⟩ : ∃ S, sb x = S := ⟨_, rfl⟩
        rw [hSX] at k2
        have HSB := hid hSX
        have hlti : (i : Int) < n := by omega
        have hii : (i : Int) ≤ 1048576 := by omega
        have hi0 : (0 : Int) ≤ i := by omega
        have HLT := hid hlt
        clear hx hSX hlt hiX
        go_wp2_with fail
        refine (wleaf_any 129 SX wr).mono ?_
        rintro e q1 ⟨rfl, qf⟩
        have HRq := hid (HKI.out.no qf)
        have HFq := hid (HFI'.out.trans' qf)
        clear qf
        go_wp2_with (first
          | ((with_reducible refine K.atO (.buildSlice 42 _ _) ?_); refine wpL_buildOne rfl _ 44 _ rfl ic _ Try.underlying42 IC.out ZC.out (by rw [SC.out]; decide) (by rw [SC.out]; decide) (.agg #[.int .i64 129, .string SX, .slice none 0 0]) [.int .i64 129, .string SX, .slice none 0 0] rfl rfl (by rw [SC.out]; rfl) ?_; intro q2 HBq FBq HSBq)
          | ((with_reducible refine K.atO (.call { callee := .builtin .append, args := _, argTypes := _ }) ?_); refine wpL_append rfl _ _ 42 rfl w1.heap.size 44 ic _ 3 48 Try.underlying42 IC.out ZC.out SC.out BC.out rfl (by decide) (.slice va i vc) i L.flatten rfl (by have h := (HRq.out.no FBq.out).r; rwa [HAL'.out] at h) (some ⟨q1.heap.size, 0, none⟩) 1 _ [.int .i64 129, .string SX, .slice none 0 0] rfl rfl (.inr ⟨_, rfl, HBq.out.news⟩) (by intro u hu; simp at hu; rcases hu with rfl | rfl | rfl <;> rfl) (by unfold maxLen; omega) (by omega) (Nat.le_trans HFq.out.size FBq.out.size) ?_; intro qa qc q3 HOq HGq HAq; refine Hid.out ?_)
          | fail)
        have HFRq : Hid (Fr (fun k => (Value.slice va i vc).ownBlock = some k ∨ (Value.slice qa (i + 1) qc).ownBlock = some k) q2 q3) := hid ((frown HGq.out).mono fun k hk => .inl hk)
        have HLWq : Hid (∀ k, ((Value.slice va i vc).ownBlock = some k ∨ (Value.slice qa (i + 1) qc).ownBlock = some k) → w1.heap.size ≤ k) := hid (fun k hk => by
          rcases hk with h | h
          · exact own_low HRq.out.r k h
          · exact own_low HOq.out k h)
        have HKq := hid ((HRq.out.no FBq.out).step (N := q2.heap.size) (n := Nd.mk 129 x []) (cs := [.int .i64 129, .string SX, .slice none 0 0]) (by rw [← HSB.out]; exact leaf_any 0 _ _ 129 _ ⟨by omega, by omega⟩ HSX.out) (Nat.le_trans HFq.out.size FBq.out.size) (fun g hg => (own_ge (HRq.out.no FBq.out).r g hg).2) (by rw [HAL'.out]; exact HOq.out) HFRq.out (or_own HAq.out))
        have HFKq : Hid (Fr No w1 q3) := hid ((HFq.out.trans' FBq.out).trans HFRq.out fun k hk => .inr (HLWq.out k hk))
        clear HBq FBq HSBq HOq HGq HAq HRq HFq HFRq HLWq
        refine hid ?_
        go_wp2_with fail
        go_roundw
        case rel => exact ⟨i + 1, _, _, rfl, by go_num, HLT.out, hid ⟨by rw [HNX.out]; exact HKq.out, HFKq.out⟩⟩
        case measure => have := HLT.out; simp [intOf]; omega
      · obtain rfl : i = n := by omega
        have htk : f.any.take i = f.any := List.take_of_length_le (by rw [HNN.out]; exact Nat.le_refl _)
        have hki := HKI.out
        have hal2 := HAL'.out
        rw [htk] at hki hal2
        have HKJ := hid hki; have HAL2 := hid hal2
        have hlti : ¬ ((i : Int) < i) := by omega
        clear hki hal2 htk hlt HKI HAL'
        by_cases hl : f.last.isEmpty = true
        · have g2 : LA.toList.isEmpty = true := by rw [E2.out]; exact hl
          have HPN : Hid (partsN f = f.any.map (fun a => Nd.mk 129 a [])) := hid (by unfold partsN; rw [if_pos hl, if_pos HEF.out]; (try simp))
          clear hl
          go_wp2_with fail
          go_ret
          exact ⟨_, _, w1.heap.size, rfl, F1.out.size, by rw [HPN.out]; exact HKJ.out, F1.out.trans' HFI'.out⟩
        · have g2 : LA.toList.isEmpty = false := by rw [E2.out]; simpa using hl
          have HPN : Hid (partsN f = (f.any.map (fun a => Nd.mk 129 a [])) ++ [Nd.mk 130 f.last []]) := hid (by unfold partsN; rw [if_neg hl, if_pos HEF.out]; (try simp))
          clear hl
          go_wp2_with fail
          refine (wleaf_any 130 LA wr).mono ?_
          rintro e r1 ⟨rfl, rf⟩
          have HRr := hid (HKJ.out.no rf)
          have HFr := hid (HFI'.out.trans' rf)
          clear rf
          go_wp2_with (first
            | ((with_reducible refine K.atO (.buildSlice 42 _ _) ?_); refine wpL_buildOne rfl _ 44 _ rfl ic _ Try.underlying42 IC.out ZC.out (by rw [SC.out]; decide) (by rw [SC.out]; decide) (.agg #[.int .i64 130, .string LA, .slice none 0 0]) [.int .i64 130, .string LA, .slice none 0 0] rfl rfl (by rw [SC.out]; rfl) ?_; intro r2 HBr FBr HSBr)
            | ((with_reducible refine K.atO (.call { callee := .builtin .append, args := _, argTypes := _ }) ?_); refine wpL_append rfl _ _ 42 rfl w1.heap.size 44 ic _ 3 48 Try.underlying42 IC.out ZC.out SC.out BC.out rfl (by decide) (.slice va i vc) i L.flatten rfl (by have h := (HRr.out.no FBr.out).r; rwa [HAL2.out] at h) (some ⟨r1.heap.size, 0, none⟩) 1 _ [.int .i64 130, .string LA, .slice none 0 0] rfl rfl (.inr ⟨_, rfl, HBr.out.news⟩) (by intro u hu; simp at hu; rcases hu with rfl | rfl | rfl <;> rfl) (by unfold maxLen; omega) (by omega) (Nat.le_trans HFr.out.size FBr.out.size) ?_; intro ra rc r3 HOr HGr HAr; refine Hid.out ?_)
            | fail)
          have HFRr : Hid (Fr (fun k => (Value.slice va i vc).ownBlock = some k ∨ (Value.slice ra (i + 1) rc).ownBlock = some k) r2 r3) := hid ((frown HGr.out).mono fun k hk => .inl hk)
          have HLWr : Hid (∀ k, ((Value.slice va i vc).ownBlock = some k ∨ (Value.slice ra (i + 1) rc).ownBlock = some k) → w1.heap.size ≤ k) := hid (fun k hk => by
            rcases hk with h | h
            · exact own_low HRr.out.r k h
            · exact own_low HOr.out k h)
          have HKr := hid ((HRr.out.no FBr.out).step (N := r2.heap.size) (n := Nd.mk 130 f.last []) (cs := [.int .i64 130, .string LA, .slice none 0 0]) (by rw [← HLA.out]; exact leaf_any 0 _ _ 130 _ ⟨by omega, by omega⟩ HS2.out) (Nat.le_trans HFr.out.size FBr.out.size) (fun g hg => (own_ge (HRr.out.no FBr.out).r g hg).2) (by rw [HAL2.out]; exact HOr.out) HFRr.out (or_own HAr.out))
          have HFKr : Hid (Fr No w1 r3) := hid ((HFr.out.trans' FBr.out).trans HFRr.out fun k hk => .inr (HLWr.out k hk))
          clear HBr FBr HSBr HOr HGr HAr HRr HFr HFRr HLWr
          refine hid ?_
          go_wp2_with fail
          go_ret
          exact ⟨_, _, w1.heap.size, rfl, F1.out.size, by rw [HPN.out]; exact HKr.out, F1.out.trans' HFKr.out⟩
  · have g1 : FI.toList.isEmpty = false := by rw [E1.out]; simpa using hf
    have HEF := hid hf
    clear hf
    go_enter Try.func90, Try.ntmps90
    go_wp2_with (first
      | ((with_reducible refine K.atO (.box 25 _) ?_); refine wpL_box rfl _ _ rfl _ rfl [.int .i64 f.kind, .slice k1 f.kids.length ck, .string (sb f.type), .string (sb f.value), .string FI, .slice a1 n ca, .string LA] rfl ?_; intro w1 HB1 F1 HS1'; have c4 : w1.cell? ⟨w.heap.size, 4, none⟩ = some (.string FI) := HB1.out.cell 4; have c5 : w1.cell? ⟨w.heap.size, 5, none⟩ = some (.slice a1 n ca) := HB1.out.cell 5; have HC5 := hid c5; have HC6 : Hid (w1.cell? ⟨w.heap.size, 6, none⟩ = some (.string LA)) := hid (HB1.out.cell 6))
      | fail)
    have HKR0 : Hid (KR 1 w1.heap.size [] (.slice none 0 0) [] w1) := hid (KR.nil _ _ _)
    have HL0 : Hid (([] : List Nd).length = 0) := hid rfl
    clear c4 c5
    refine (wleaf_any 128 FI w1).mono ?_
    rintro e p1 ⟨rfl, pf⟩
    have HRp := hid (HKR0.out.no pf)
    have HFp := hid pf
    clear pf
    go_wp2_with (first
      | ((with_reducible refine K.atO (.buildSlice 42 _ _) ?_); refine wpL_buildOne rfl _ 44 _ rfl ic _ Try.underlying42 IC.out ZC.out (by rw [SC.out]; decide) (by rw [SC.out]; decide) (.agg #[.int .i64 128, .string FI, .slice none 0 0]) [.int .i64 128, .string FI, .slice none 0 0] rfl rfl (by rw [SC.out]; rfl) ?_; intro p2 HBp FBp HSBp)
      | ((with_reducible refine K.atO (.call { callee := .builtin .append, args := _, argTypes := _ }) ?_); refine wpL_append rfl _ _ 42 rfl w1.heap.size 44 ic _ 3 48 Try.underlying42 IC.out ZC.out SC.out BC.out rfl (by decide) (.slice none 0 0) 0 ([] : List (List Value)).flatten rfl (by have h := (HRp.out.no FBp.out).r; rwa [HL0.out] at h) (some ⟨p1.heap.size, 0, none⟩) 1 _ [.int .i64 128, .string FI, .slice none 0 0] rfl rfl (.inr ⟨_, rfl, HBp.out.news⟩) (by intro u hu; simp at hu; rcases hu with rfl | rfl | rfl <;> rfl) (by unfold maxLen; omega) (by omega) (Nat.le_trans HFp.out.size FBp.out.size) ?_; intro pa pc p3 HOp HGp HAp; refine Hid.out ?_)
      | fail)
    have HFRp : Hid (Fr (fun k => (Value.slice none 0 0).ownBlock = some k ∨ (Value.slice pa (0 + 1) pc).ownBlock = some k) p2 p3) := hid ((frown HGp.out).mono fun k hk => .inl hk)
    have HLWp : Hid (∀ k, ((Value.slice none 0 0).ownBlock = some k ∨ (Value.slice pa (0 + 1) pc).ownBlock = some k) → w1.heap.size ≤ k) := hid (fun k hk => by
      rcases hk with h | h
      · exact own_low HRp.out.r k h
      · exact own_low HOp.out k h)
    have HKp := hid ((HRp.out.no FBp.out).step (N := p2.heap.size) (n := Nd.mk 128 f.first []) (cs := [.int .i64 128, .string FI, .slice none 0 0]) (by rw [← HFI.out]; exact leaf_any 0 _ _ 128 _ ⟨by omega, by omega⟩ HS1.out) (Nat.le_trans HFp.out.size FBp.out.size) (fun g hg => (own_ge (HRp.out.no FBp.out).r g hg).2) (by rw [HL0.out]; exact HOp.out) HFRp.out (or_own HAp.out))
    have HFKp : Hid (Fr No w1 p3) := hid ((HFp.out.trans' FBp.out).trans HFRp.out fun k hk => .inr (HLWp.out k hk))
    clear HBp FBp HSBp HOp HGp HAp HRp HFp HFRp HLWp
    have c5 : p3.cell? ⟨w.heap.size, 5, none⟩ = some (.slice a1 n ca) := HFKp.out.cell HC5.out id
    refine hid ?_
    go_wp2_with fail
    clear c5
    go_loopw [3, 18] (fun kv iv wr => ∃ (i : Nat) (v : Value) (L : List (List Value)), kv = v ∧ iv = .int .i64 i ∧ i ≤ n ∧ Hid (KR 1 w1.heap.size ([Nd.mk 128 f.first []] ++ (f.any.take i).map (fun a => Nd.mk 129 a [])) v L wr ∧ Fr No w1 wr)) (fun _ iv _ => n - (intOf iv).toNat)
    case atStart => exact ⟨0, _, _, rfl, rfl, Nat.zero_le _, hid ⟨HKp.out, HFKp.out⟩⟩
    case round =>
      obtain ⟨i, v, L, rfl, rfl, hi, HI⟩ := hrel
      have hal : ([Nd.mk 128 f.first []] ++ (f.any.take i).map (fun a => Nd.mk 129 a [])).length = i + 1 := by simp only [List.length_append, List.length_map, List.length_take, List.length_cons, List.length_nil]; have := HNN.out; omega
      have HAL' := hid hal
      have hri := HI.out.1.r
      have hkr := HI.out.1
      rw [hal] at hri
      obtain ⟨va, vc, rfl, -, -⟩ := own_form hri
      have HKI := hid hkr; have HFI' := hid HI.out.2
      have c6 : wr.cell? ⟨w.heap.size, 6, none⟩ = some (.string LA) := HI.out.2.cell HC6.out id
      clear hri hal hkr HI
      by_cases hlt : i < n
      · have hiX : i < f.any.length := by rw [HNN.out]; exact hlt
        obtain ⟨x, hx⟩ : ∃ x, f.any[i] = x := ⟨_, rfl⟩
        have k2 : ∃ g o, a1 = some ⟨g, o, none⟩ ∧ wr.cell? ⟨g, o + i, none⟩ = some (.string (sb x)) := by
          obtain ⟨⟨a', n', c', e1, -, -, hA⟩, -, -⟩ := HTX.out.no (F1.out.trans' HFI'.out)
          simp only [Value.slice.injEq] at e1
          obtain ⟨rfl, rfl, rfl⟩ := e1
          obtain ⟨g, o, rfl, -, -, hr⟩ := hA.resolve_left (by omega)
          exact ⟨g, o, rfl, by have := hr i _ (show (strs f.any)[i]? = some (.string (sb f.any[i])) by simp [strs, hiX]); rwa [hx] at this⟩
        obtain ⟨g, o, rfl, k2⟩ := k2
        have HSX := hid (show Sz x by rw [← hx]; exact HTX.out.2.2 _ (List.getElem_mem _))
        have HNX : Hid ([Nd.mk 128 f.first []] ++ (f.any.take (i + 1)).map (fun a => Nd.mk 129 a []) = ([Nd.mk 128 f.first []] ++ (f.any.take i).map (fun a => Nd.mk 129 a [])) ++ [Nd.mk 129 x []]) := hid (by rw [List.take_succ_eq_append_getElem hiX, List.map_append, hx]; simp)
        obtain ⟨SX, hSX⟩ : ∃ S, sb x = S := ⟨_, rfl⟩
        rw [hSX] at k2
        have HSB := hid hSX
        have hlti : (i : Int) < n := by omega
        have hii : (i : Int) ≤ 1048576 := by omega
        have hi0 : (0 : Int) ≤ i := by omega
        have HLT := hid hlt
        clear hx hSX hlt hiX
        go_wp2_with fail
        refine (wleaf_any 129 SX wr).mono ?_
        rintro e q1 ⟨rfl, qf⟩
        have HRq := hid (HKI.out.no qf)
        have HFq := hid (HFI'.out.trans' qf)
        clear qf
        go_wp2_with (first
          | ((with_reducible refine K.atO (.buildSlice 42 _ _) ?_); refine wpL_buildOne rfl _ 44 _ rfl ic _ Try.underlying42 IC.out ZC.out (by rw [SC.out]; decide) (by rw [SC.out]; decide) (.agg #[.int .i64 129, .string SX, .slice none 0 0]) [.int .i64 129, .string SX, .slice none 0 0] rfl rfl (by rw [SC.out]; rfl) ?_; intro q2 HBq FBq HSBq)
          | ((with_reducible refine K.atO (.call { callee := .builtin .append, args := _, argTypes := _ }) ?_); refine wpL_append rfl _ _ 42 rfl w1.heap.size 44 ic _ 3 48 Try.underlying42 IC.out ZC.out SC.out BC.out rfl (by decide) (.slice va (i + 1) vc) (i + 1) L.flatten rfl (by have h := (HRq.out.no FBq.out).r; rwa [HAL'.out] at h) (some ⟨q1.heap.size, 0, none⟩) 1 _ [.int .i64 129, .string SX, .slice none 0 0] rfl rfl (.inr ⟨_, rfl, HBq.out.news⟩) (by intro u hu; simp at hu; rcases hu with rfl | rfl | rfl <;> rfl) (by unfold maxLen; omega) (by omega) (Nat.le_trans HFq.out.size FBq.out.size) ?_; intro qa qc q3 HOq HGq HAq; refine Hid.out ?_)
          | fail)
        have HFRq : Hid (Fr (fun k => (Value.slice va (i + 1) vc).ownBlock = some k ∨ (Value.slice qa ((i + 1) + 1) qc).ownBlock = some k) q2 q3) := hid ((frown HGq.out).mono fun k hk => .inl hk)
        have HLWq : Hid (∀ k, ((Value.slice va (i + 1) vc).ownBlock = some k ∨ (Value.slice qa ((i + 1) + 1) qc).ownBlock = some k) → w1.heap.size ≤ k) := hid (fun k hk => by
          rcases hk with h | h
          · exact own_low HRq.out.r k h
          · exact own_low HOq.out k h)
        have HKq := hid ((HRq.out.no FBq.out).step (N := q2.heap.size) (n := Nd.mk 129 x []) (cs := [.int .i64 129, .string SX, .slice none 0 0]) (by rw [← HSB.out]; exact leaf_any 0 _ _ 129 _ ⟨by omega, by omega⟩ HSX.out) (Nat.le_trans HFq.out.size FBq.out.size) (fun g hg => (own_ge (HRq.out.no FBq.out).r g hg).2) (by rw [HAL'.out]; exact HOq.out) HFRq.out (or_own HAq.out))
        have HFKq : Hid (Fr No w1 q3) := hid ((HFq.out.trans' FBq.out).trans HFRq.out fun k hk => .inr (HLWq.out k hk))
        clear HBq FBq HSBq HOq HGq HAq HRq HFq HFRq HLWq
        refine hid ?_
        go_wp2_with fail
        go_roundw
        case rel => exact ⟨i + 1, _, _, rfl, by go_num, HLT.out, hid ⟨by rw [HNX.out]; exact HKq.out, HFKq.out⟩⟩
        case measure => have := HLT.out; simp [intOf]; omega
      · obtain rfl : i = n := by omega
        have htk : f.any.take i = f.any := List.take_of_length_le (by rw [HNN.out]; exact Nat.le_refl _)
        have hki := HKI.out
        have hal2 := HAL'.out
        rw [htk] at hki hal2
        have HKJ := hid hki; have HAL2 := hid hal2
        have hlti : ¬ ((i : Int) < i) := by omega
        clear hki hal2 htk hlt HKI HAL'
        by_cases hl : f.last.isEmpty = true
        · have g2 : LA.toList.isEmpty = true := by rw [E2.out]; exact hl
          have HPN : Hid (partsN f = [Nd.mk 128 f.first []] ++ f.any.map (fun a => Nd.mk 129 a [])) := hid (by unfold partsN; rw [if_pos hl, if_neg HEF.out]; (try simp))
          clear hl
          go_wp2_with fail
          go_ret
          exact ⟨_, _, w1.heap.size, rfl, F1.out.size, by rw [HPN.out]; exact HKJ.out, F1.out.trans' HFI'.out⟩
        · have g2 : LA.toList.isEmpty = false := by rw [E2.out]; simpa using hl
          have HPN : Hid (partsN f = ([Nd.mk 128 f.first []] ++ f.any.map (fun a => Nd.mk 129 a [])) ++ [Nd.mk 130 f.last []]) := hid (by unfold partsN; rw [if_neg hl, if_neg HEF.out]; (try simp))
          clear hl
          go_wp2_with fail
          refine (wleaf_any 130 LA wr).mono ?_
          rintro e r1 ⟨rfl, rf⟩
          have HRr := hid (HKJ.out.no rf)
          have HFr := hid (HFI'.out.trans' rf)
          clear rf
          go_wp2_with (first
            | ((with_reducible refine K.atO (.buildSlice 42 _ _) ?_); refine wpL_buildOne rfl _ 44 _ rfl ic _ Try.underlying42 IC.out ZC.out (by rw [SC.out]; decide) (by rw [SC.out]; decide) (.agg #[.int .i64 130, .string LA, .slice none 0 0]) [.int .i64 130, .string LA, .slice none 0 0] rfl rfl (by rw [SC.out]; rfl) ?_; intro r2 HBr FBr HSBr)
            | ((with_reducible refine K.atO (.call { callee := .builtin .append, args := _, argTypes := _ }) ?_); refine wpL_append rfl _ _ 42 rfl w1.heap.size 44 ic _ 3 48 Try.underlying42 IC.out ZC.out SC.out BC.out rfl (by decide) (.slice va (i + 1) vc) (i + 1) L.flatten rfl (by have h := (HRr.out.no FBr.out).r; rwa [HAL2.out] at h) (some ⟨r1.heap.size, 0, none⟩) 1 _ [.int .i64 130, .string LA, .slice none 0 0] rfl rfl (.inr ⟨_, rfl, HBr.out.news⟩) (by intro u hu; simp at hu; rcases hu with rfl | rfl | rfl <;> rfl) (by unfold maxLen; omega) (by omega) (Nat.le_trans HFr.out.size FBr.out.size) ?_; intro ra rc r3 HOr HGr HAr; refine Hid.out ?_)
            | fail)
          have HFRr : Hid (Fr (fun k => (Value.slice va (i + 1) vc).ownBlock = some k ∨ (Value.slice ra ((i + 1) + 1) rc).ownBlock = some k) r2 r3) := hid ((frown HGr.out).mono fun k hk => .inl hk)
          have HLWr : Hid (∀ k, ((Value.slice va (i + 1) vc).ownBlock = some k ∨ (Value.slice ra ((i + 1) + 1) rc).ownBlock = some k) → w1.heap.size ≤ k) := hid (fun k hk => by
            rcases hk with h | h
            · exact own_low HRr.out.r k h
            · exact own_low HOr.out k h)
          have HKr := hid ((HRr.out.no FBr.out).step (N := r2.heap.size) (n := Nd.mk 130 f.last []) (cs := [.int .i64 130, .string LA, .slice none 0 0]) (by rw [← HLA.out]; exact leaf_any 0 _ _ 130 _ ⟨by omega, by omega⟩ HS2.out) (Nat.le_trans HFr.out.size FBr.out.size) (fun g hg => (own_ge (HRr.out.no FBr.out).r g hg).2) (by rw [HAL2.out]; exact HOr.out) HFRr.out (or_own HAr.out))
          have HFKr : Hid (Fr No w1 r3) := hid ((HFr.out.trans' FBr.out).trans HFRr.out fun k hk => .inr (HLWr.out k hk))
          clear HBr FBr HSBr HOr HGr HAr HRr HFr HFRr HLWr
          refine hid ?_
          go_wp2_with fail
          go_ret
          exact ⟨_, _, w1.heap.size, rfl, F1.out.size, by rw [HPN.out]; exact HKr.out, F1.out.trans' HFKr.out⟩
end Go.Proofs.Ythjmkfpdbbfcpaa.ME

namespace Go.Proofs.Ythjmkfpdbbfcpaa.bulks
set_option maxRecDepth 100000
open Go.RowKit K

theorem length_le {H : Type} : ∀ l : List (DataW H), l.length ≤ Rows.uptoBulkAll l
  | [] => Nat.zero_le _
  | x :: r => by
    have h0 : 1 ≤ Rows.uptoBulk x := by
      cases x with
      | lit l => cases l <;> simp [Rows.uptoBulk]
      | nil => simp [Rows.uptoBulk]
      | ptr d => simp [Rows.uptoBulk]
      | slice elems spare => simp [Rows.uptoBulk]
      | agg parts => simp [Rows.uptoBulk]
      | iface t d => simp [Rows.uptoBulk]
      | map entries => simp [Rows.uptoBulk]
      | held h => simp [Rows.uptoBulk]
    have := length_le r
    simp only [Rows.uptoBulkAll, List.length_cons]; omega
theorem bound {H : Type} {l : List (DataW H)} (hk : Rows.uptoSmall H l = true) : Rows.uptoBulkAll l ≤ 1048576 := of_decide_eq_true hk
end Go.Proofs.Ythjmkfpdbbfcpaa.bulks

namespace Go.Proofs.Ythjmkfpdbbfcpaa.ME
set_option maxRecDepth 100000
open Go.ChangeShapes Go.WideShapes Go.ChangeAt Go.RowKit K Go.Proofs.Ythjmkfpdbbfcpaa.BE Go.Proofs.Ythjmkfpdbbfcpaa.FR

def FlB (k : Nat) : Nat → Fl → Prop
  | 0, _ => True
  | d + 1, f => f.type.length ≤ k ∧ f.value.length ≤ k ∧ f.first.length ≤ k ∧ f.last.length ≤ k ∧ f.any.length ≤ k ∧ (∀ a ∈ f.any, a.length ≤ k) ∧ f.kids.length ≤ k ∧ ∀ x ∈ f.kids, FlB k d x
def AtB (k : Nat) (x : At) : Prop := x.type.length ≤ k ∧ x.values.length ≤ k ∧ ∀ v ∈ x.values, v.length ≤ k
structure MsgB (k : Nat) (m : Msg) : Prop where
  texts : m.name.length ≤ k ∧ m.pw.length ≤ k ∧ m.rdn.length ≤ k ∧ m.sup.length ≤ k ∧ m.type.length ≤ k ∧ m.value.length ≤ k ∧ m.matched.length ≤ k ∧ m.text.length ≤ k
  filter : ∀ d, FlB k d m.filter
  wants : m.wants.length ≤ k ∧ ∀ v ∈ m.wants, v.length ≤ k
  list : m.list.length ≤ k ∧ ∀ x ∈ m.list, AtB k x
  mods : m.mods.length ≤ k ∧ ∀ x ∈ m.mods, AtB k x.attr
theorem mem_bulk {H : Type} : ∀ {l : List (DataW H)} {d : DataW H}, d ∈ l → Rows.uptoBulk d ≤ Rows.uptoBulkAll l
  | a :: r, d, h => by
    simp only [Rows.uptoBulkAll]
    rcases List.mem_cons.1 h with rfl | h
    · omega
    · have := mem_bulk h; omega
/-- These cells read, within so many levels; what they read is of no greater bulk. -/
def ReadsB (k : Nat) (fuel : Nat) (w : World) (t : TypeId) (cs : List Value) : Prop :=
  ∃ (H : Type) (enc : TypeId × Value → H) (x : DataW H × List MemPlace), DataW.trod enc Try.prog w 0 (fun _ => true) true fuel t cs = some x ∧ (∀ n ∈ x.1.weights Try.prog t, n ≤ reachBytes) ∧ Rows.uptoBulk x.1 ≤ k
theorem ReadsB.reads {k fuel : Nat} {w : World} {t : TypeId} {cs : List Value} (h : ReadsB k fuel w t cs) : Reads Try.prog w t cs := by
  obtain ⟨H, enc, x, h1, h2, -⟩ := h
  exact ⟨H, enc, fuel, x, h1, h2⟩
theorem ReadsB.string {k fuel : Nat} {w : World} {t : TypeId} {cs : List Value} (hu : Try.prog.underlying t = some .string) (h : ReadsB k fuel w t cs) : ∃ l : B, cs = [.string (sb l)] ∧ Sz l ∧ l.length ≤ k := by
  obtain ⟨H, enc, x, h1, h2, h3⟩ := h
  obtain ⟨s, r1, r2, -⟩ := DataW.trod_string hu h1
  have hx : x.1 = .lit (.string s.data.toList) := congrArg Prod.fst r2
  rw [hx] at h2 h3
  refine ⟨s.data.toList, by rw [sb_of]; exact r1, ?_, ?_⟩
  · have := h2 s.data.toList.length (by simp [DataW.weights])
    exact this
  · simp only [Rows.uptoBulk] at h3
    omega
theorem ReadsB.struct {k fuel : Nat} {w : World} {t : TypeId} {fs : Array Field} {cs : List Value} (hu : Try.prog.underlying t = some (.struct fs)) (h : ReadsB k fuel w t cs) :
    ∃ f1, fuel = f1 + 1 ∧ cs.length = Try.prog.cellsOf t ∧ ∀ (i : Nat) (f : Field), fs[i]? = some f → ReadsB k f1 w f.type ((cs.drop f.offset).take (Try.prog.cellsOf f.type)) := by
  obtain ⟨H, enc, x, h1, h2, h3⟩ := h
  obtain ⟨xs, n, hn, r2, r3, r4, r5⟩ := DataW.trod_struct hu h1
  refine ⟨n, hn, r3, fun i f hf => ?_⟩
  have hi : i < xs.length := by rw [r4]; exact (Array.getElem?_eq_some_iff.1 hf).1
  have := r5 i f hf
  rw [List.getElem?_eq_getElem hi] at this
  have hx : x.1 = .agg (xs.map (·.1)) := by rw [r2]
  refine ⟨H, enc, _, this, fun m hm => h2 m ?_, ?_⟩
  · rw [hx]
    simp only [DataW.weights, hu]
    exact DataW.weights_mem_each (j := i) (t := f.type) (d := xs[i].1) (by rw [List.getElem?_map]; simp [hf]) (by simp [hi]) m hm
  · rw [hx] at h3
    simp only [Rows.uptoBulk] at h3
    have := mem_bulk (List.mem_map_of_mem (f := (·.1)) (List.getElem_mem hi))
    omega
theorem ReadsB.slice {k fuel : Nat} {w : World} {t e : TypeId} {cs : List Value} (hu : Try.prog.underlying t = some (.slice e)) (h : ReadsB k fuel w t cs) :
    cs = [.slice none 0 0] ∨ ∃ a len cap f1, fuel = f1 + 1 ∧ cs = [.slice (some a) len cap] ∧ len ≤ cap ∧ len * Try.prog.bytesOf e ≤ reachBytes ∧ len ≤ k ∧
      ∀ i, i < len → ∃ cs', cs'.length = Try.prog.cellsOf e ∧ (∀ j v, cs'[j]? = some v → w.cell? (a.add (i * Try.prog.cellsOf e + j)) = some v) ∧ ReadsB k f1 w e cs' := by
  obtain ⟨H, enc, x, h1, h2, h3⟩ := h
  rcases DataW.trod_slice hu h1 with ⟨r, _⟩ | ⟨a, len, cap, elems, rest, n, hn, r1, r2, _, hl, hm, hlen, hel, hsp, _⟩
  · exact .inl r
  · right
    obtain ⟨hrl, hsp⟩ := hsp rfl
    have hx : x.1 = .slice (elems.map (·.1)) (rest.map (·.1)) := by rw [r2]
    have hw : ∀ m ∈ (elems.length + rest.length) * Try.prog.bytesOf e :: (DataW.weightsAll Try.prog e (elems.map (·.1)) ++ DataW.weightsAll Try.prog e (rest.map (·.1))), m ≤ reachBytes := by
      intro m hm'
      refine h2 m ?_
      rw [hx]
      simpa [DataW.weights, hu] using hm'
    rw [hx] at h3
    simp only [Rows.uptoBulk] at h3
    refine ⟨a, len, cap, n, hn, r1, hl, ?_, ?_, fun i hi => ?_⟩
    · have := hw _ List.mem_cons_self
      refine Nat.le_trans (Nat.mul_le_mul_right _ ?_) this
      omega
    · have := bulks.length_le (elems.map (·.1))
      rw [List.length_map] at this
      omega
    · have h5 := hel i hi
      rw [List.getElem?_eq_getElem (by omega)] at h5
      obtain ⟨cs', hc, ht⟩ := Option.bind_eq_some_iff.1 h5
      obtain ⟨hcl, hcc⟩ := cells_of hc
      have hmem : elems[i].1 ∈ elems.map (·.1) := List.mem_map_of_mem (List.getElem_mem (by omega))
      refine ⟨cs', hcl, fun j v hj => ?_, H, enc, _, ht, fun m hm' => hw m ?_, ?_⟩
      · have := hcc j v hj
        rwa [addr_add] at this
      · exact List.mem_cons_of_mem _ (List.mem_append.2 (.inl (mem_weightsAll hmem hm')))
      · have := mem_bulk hmem
        omega
/-- A slice whose elements are opened. -/
theorem ReadsB.rows {α : Type} {k fuel c : Nat} {w : World} {t e : TypeId} {cs : List Value} {p : α → List Value → Prop} {q : α → Prop} (hu : Try.prog.underlying t = some (.slice e)) (hc : Try.prog.cellsOf e = c) (hc0 : 0 < c) (hb : 1 ≤ Try.prog.bytesOf e) (h : ReadsB k fuel w t cs)
    (hp : ∀ f1 cs', f1 < fuel → ReadsB k f1 w e cs' → ∃ x, p x cs' ∧ q x) : ∃ v xs, cs = [v] ∧ Sl c p (fun i => i < w.heap.size) w v xs ∧ xs.length ≤ k ∧ ∀ x ∈ xs, q x := by
  rcases h.slice hu with rfl | ⟨a, len, cap, f1, hf, rfl, hlc, hby, hlk, hel⟩
  · exact ⟨_, [], rfl, ⟨none, 0, rfl, Nat.zero_le _, Nat.zero_le _, .inl rfl⟩, Nat.zero_le _, fun x hx => by cases hx⟩
  · have hr : reachBytes = 140737488351232 := rfl
    rw [hc] at hel
    obtain ⟨xs, hxl, hxs⟩ := list_of (p := fun i (x : α) => ∃ cs', cs'.length = c ∧ (∀ j v, cs'[j]? = some v → w.cell? (a.add (i * c + j)) = some v) ∧ p x cs' ∧ q x) len (fun i hi => by
      obtain ⟨cs', g1, g2, g3⟩ := hel i hi
      obtain ⟨x, hx, hq⟩ := hp f1 cs' (by omega) g3
      exact ⟨x, cs', g1, g2, hx, hq⟩)
    obtain ⟨L, hLl, hL⟩ := list_of (p := fun i (cs' : List Value) => cs'.length = c ∧ (∀ j v, cs'[j]? = some v → w.cell? (a.add (i * c + j)) = some v) ∧ ∀ x, xs[i]? = some x → p x cs' ∧ q x) len (fun i hi => by
      obtain ⟨x, hx⟩ : ∃ x, xs[i]? = some x := ⟨_, List.getElem?_eq_getElem (by omega)⟩
      obtain ⟨cs', g1, g2, g3, g4⟩ := hxs i x hx
      exact ⟨cs', g1, g2, fun y hy => by rw [hx] at hy; cases hy; exact ⟨g3, g4⟩⟩)
    refine ⟨_, xs, rfl, ⟨some a, cap, by rw [hxl], by omega, ?_, ?_⟩, by omega, fun x hx => ?_⟩
    · rw [hr] at hby
      rw [hxl]
      exact Nat.le_trans (Nat.le_mul_of_pos_right _ hb) hby
    · by_cases h0 : len = 0
      · exact .inl (List.eq_nil_of_length_eq_zero (by omega))
      · right
        have hall : ∀ c' ∈ L, c'.length = c := fun c' hc' => by
          obtain ⟨i, hi, rfl⟩ := List.mem_iff_getElem.1 hc'
          exact (hL i _ (List.getElem?_eq_getElem hi)).1
        obtain ⟨k0, hL0⟩ : ∃ c', L[0]? = some c' := ⟨L[0]'(by omega), List.getElem?_eq_getElem _⟩
        obtain ⟨g1, g2, -⟩ := hL 0 _ hL0
        obtain ⟨z0, hz0⟩ : ∃ z0, k0[0]? = some z0 := ⟨k0[0]'(by omega), List.getElem?_eq_getElem _⟩
        have hc0' := g2 0 z0 hz0
        rw [Nat.zero_mul, Nat.add_zero] at hc0'
        obtain ⟨g, o, rfl, hg⟩ := addr_of hc0'
        refine ⟨g, o, L, rfl, hg, hg, ?_, by omega, hall, fun j x c' hx hc' => ((hL j c' hc').2.2 x hx).1⟩
        intro j v hj
        have hjl : j < L.flatten.length := (List.getElem?_eq_some_iff.1 hj).1
        rw [flat_length L hall] at hjl
        have hjc : j / c < L.length := Nat.div_lt_of_lt_mul (by rw [Nat.mul_comm]; exact hjl)
        have hLj : L[j / c]? = some (L[j / c]'hjc) := List.getElem?_eq_getElem _
        have hfg := flat_get L (j / c) _ hall hLj
        have hdm : j / c * c + j % c = j := by rw [Nat.mul_comm]; exact Nat.div_add_mod j c
        have hv : (L[j / c]'hjc)[j % c]? = some v := by
          rw [← hfg, List.getElem?_take, if_pos (Nat.mod_lt _ hc0), List.getElem?_drop, hdm]
          exact hj
        have := (hL (j / c) _ hLj).2.1 (j % c) v hv
        rw [hdm] at this
        rwa [Addr.add_mid] at this
    · obtain ⟨i, hi, rfl⟩ := List.mem_iff_getElem.1 hx
      obtain ⟨cs', -, -, -, hq⟩ := hxs i _ (List.getElem?_eq_getElem hi)
      exact hq
theorem FlC.up {S : Nat → Prop} {w : World} : ∀ {M : Nat} {f : Fl} {cs : List Value}, FlC M S w f cs → FlC (M + 1) S w f cs
  | 0, _, _, h => h.elim
  | M + 1, f, cs, h => by
    obtain ⟨vk, va, h1, h2, h3, h4, h5, h6, h7, h8⟩ := h
    exact ⟨vk, va, h1, h2, h3, h4, h5, h6, h7, h8.fr (Fr.refl No w) (fun _ _ _ e => e) fun x c _ hx => hx.up⟩
theorem FlC.le {S : Nat → Prop} {w : World} {M N : Nat} {f : Fl} {cs : List Value} (h : FlC M S w f cs) (hMN : M ≤ N) : FlC N S w f cs := by
  induction hMN with
  | refl => exact h
  | step _ ih => exact ih.up
end Go.Proofs.Ythjmkfpdbbfcpaa.ME
