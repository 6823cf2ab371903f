/-
  The document's answer for layer 1: the contracts of its functions.
-/
import Derived.Test.YtlnolnaapnijbaaDiskF
namespace Go.Proofs.Ytlnolnaapnijbaa.D
set_option maxRecDepth 100000
open Go.RowKit K

abbrev Rf := Rep 83 116 130 not
theorem info73 : (Try.prog.info? 116).map (·.size) = some 64 := by kernel_rfl
theorem info73z : (Try.prog.info? 116).map (fun i => (i.zero, i.size, i.bytes)) = some (some (.agg zero64.toArray), 64, 64) := by kernel_rfl
theorem info5z : (Try.prog.info? 5).map (fun i => (i.zero, i.size, i.bytes)) = some (some (.int .u8 0), 1, 1) := by kernel_rfl
theorem zero73 (w : World) : (zeroValue 116).run Try.prog w = .ok (.agg zero64.toArray) w := by kernel_rfl

section
variable {w : World} {bd : Nat} {D : Nat → Prop} {s : St}
theorem goes_any (h : Rf w bd D s) : Calls Try.prog 66 #[.pointer (some ⟨bd, 0, none⟩)] w fun e w' =>
    e = .returned (.bool s.spend.1) ∧ Rf w' bd D s.spend.2 ∧ Fr D w w' := by
  obtain ⟨bl, pv, c0, c1, c2, c3⟩ := h.cells
  obtain ⟨hD, fz⟩ := h.dst
  have l0 := h.ok.left0
  have l1 := h.ok.left1
  by_cases e0 : s.left = 0
  · have hs : s.spend = (false, { s with up := false }) := by simp [St.spend, e0]
    rw [hs]
    rw [e0] at c3
    have f2 := fz 2
    have HS := hid h; clear h
    clear e0 hs
    go_enter Try.func66, Try.ntmps66
    go_wp2
    go_ret
    exact ⟨rfl, HS.out.setUp false, (Fr.refl _ _).setCell _ _ (.inl hD)⟩
  · by_cases e1 : s.left = -1
    · have hs : s.spend = (true, s) := by simp [St.spend, e1]
      rw [hs]
      rw [e1] at c3
      have HS := hid h; clear h
      clear e0 hs e1
      go_enter Try.func66, Try.ntmps66
      go_wp2
      go_ret
      exact ⟨rfl, HS.out, Fr.refl _ _⟩
    · have hs : s.spend = (true, { s with left := s.left - 1 }) := by simp [St.spend, e0, e1]
      rw [hs]
      have f3 := fz 3
      have t0 : (s.left == 0) = false := by simp [e0]
      have p0 : 0 < s.left := by omega
      have HS := hid h; clear h
      clear e0 hs e1
      go_enter Try.func66, Try.ntmps66
      go_wp2
      go_ret
      exact ⟨rfl, HS.out.setLeft _ (by omega) (by omega), (Fr.refl _ _).setCell _ _ (.inl hD)⟩

theorem rarm_any (n : Int) (hn : n ≤ 9223372036854775807) (h : Rf w bd D s) : Calls Try.prog 35 #[.pointer (some ⟨bd, 0, none⟩), .int .i64 n] w fun e w' =>
    e = .returned (.int .i64 (s.arm n).1) ∧ Rf w' bd D (s.arm n).2 ∧ Fr D w w' := by
  obtain ⟨bl, pv, c0, c1, c2, c3⟩ := h.cells
  obtain ⟨hD, fz⟩ := h.dst
  have f3 := fz 3
  by_cases e0 : n < 0
  · have hs : s.arm n = (1, s) := by simp [St.arm, e0]
    rw [hs]
    have HS := hid h; clear h hs
    go_enter Try.func35, Try.ntmps35
    go_wp2
    go_ret
    exact ⟨rfl, HS.out, Fr.refl _ _⟩
  · cases e1 : s.up with
    | false =>
      have hs : s.arm n = (10, s) := by simp [St.arm, e0, e1]
      rw [hs]
      rw [e1] at c2
      simp only [Bool.not_false] at c2
      have HS := hid h; clear h hs e1
      go_enter Try.func35, Try.ntmps35
      go_wp2
      go_ret
      exact ⟨rfl, HS.out, Fr.refl _ _⟩
    | true =>
      have hs : s.arm n = (0, { s with left := n }) := by simp [St.arm, e0, e1]
      rw [hs]
      rw [e1] at c2
      simp only [Bool.not_true] at c2
      have HS := hid h; clear h hs e1
      go_enter Try.func35, Try.ntmps35
      go_wp2
      go_ret
      exact ⟨rfl, HS.out.setLeft _ (by omega) (by omega), (Fr.refl _ _).setCell _ _ (.inl hD)⟩

theorem rnew_no (n : Int) (w : World) (h : n < 1 ∨ 4096 < n) : Calls Try.prog 8 #[.int .i64 n] w fun e w' => e = .returned (.tuple #[.pointer none, .int .i64 1]) ∧ w = w' := by
  by_cases h1 : n < 1
  · go_enter Try.func8, Try.ntmps8
    go_wp2
    go_ret2
    exact ⟨rfl, rfl⟩
  · have h2 : 4096 < n := by omega
    clear h
    go_enter Try.func8, Try.ntmps8
    go_wp2
    go_ret2
    exact ⟨rfl, rfl⟩

theorem rnew_yes (n : Nat) (w : World) (h1 : 1 ≤ n) (h2 : n ≤ 4096) : Calls Try.prog 8 #[.int .i64 n] w fun e w' =>
    ∃ bd D, e = .returned (.tuple #[.pointer (some ⟨bd, 0, none⟩), .int .i64 0]) ∧ Rf w' bd D (St.new n) ∧ (∀ k, D k → w.heap.size ≤ k) ∧ Fr No w w' := by
  obtain ⟨i, hi, hz0, hz1, hz2⟩ := info_parts info73z
  have HI := hid hi; have HZ0 := hid hz0; have HZ1 := hid hz1; have HZ2 := hid hz2
  clear hi hz0 hz1 hz2
  go_enter Try.func8, Try.ntmps8
  go_wp2_with ((with_reducible show wpList _ _ _ ({ dst := _, op := .makeSlice 80 _ _, type := _, pos := _, after := _, guard := _ } :: _) _ _); refine wpL_make rfl _ _ _ rfl _ i _ (.int .u8 0) 64 rfl HI.out HZ0.out rfl (by decide) HZ1.out _ _ n rfl rfl (by rw [HZ2.out]; omega) (by unfold maxLen; omega) ?_; intro w1 HB HF HS)
  go_ret2
  have B1 := Blk.new w1 83 [.slice (some ⟨w.heap.size, 0, none⟩) n n, .slice none 0 0, .bool false, .int .i64 (-1)]
  have B2 := HB.out.alloc (.cells #[.slice (some ⟨w.heap.size, 0, none⟩) n n, .slice none 0 0, .bool false, .int .i64 (-1)] 83)
  have hS := HS.out
  refine ⟨w1.heap.size, fun k => k = w1.heap.size ∨ k = w.heap.size, rfl, ⟨new_ok h1 h2, w.heap.size, .slice none 0 0, ?_, ?_, World.ownsRow_nil _ _ _ _, by omega, by simp [Value.ownBlock], .inl rfl, .inr rfl, ?_⟩, ?_, HF.out.alloc _⟩
  · simpa [St.new] using B1
  · rw [rows_new]; exact B2
  · intro k hk; simp; omega
  · intro k hk; omega
end

theorem own_bytes {w : World} {base n : Nat} {v : Value} {bs : List Int} {t : TypeId} (h : w.ownsRow base t 1 v n (u8s bs)) : BytesIn w (fun k => base ≤ k) v bs := by
  have hlen : bs.length = n := by have := h.1; simpa using this
  rcases h.2 with ⟨rfl, rfl⟩ | ⟨g, cap, cur, rfl, hb, hg, hnc, _⟩
  · exact ⟨none, 0, 0, rfl, hlen, Nat.le_refl _, .inl rfl⟩
  · refine ⟨_, n, cap, rfl, hlen, hnc, .inr ⟨g, 0, rfl, hb, (Array.getElem?_eq_some_iff.1 hg).1, fun j v hj => ?_⟩⟩
    have := h.cells (g := g) rfl j v hj
    rwa [Addr.add_mid] at this
/-- The bytes of an array, as a list. -/
theorem bytes_any (bs : List Int) (w : World) (hl : bs.length = 64) : Calls Try.prog 90 #[.agg (u8s bs).toArray] w fun e w' =>
    ∃ v, e = .returned v ∧ BytesIn w' (New w) v bs ∧ Fr No w w' := by
  obtain ⟨i5, hi5, hz5, hs5, hb5⟩ := info_parts info5z
  have Hi := hid hi5; have Hz := hid hz5; have Hs := hid hs5; have Hb := hid hb5
  clear hi5 hz5 hs5 hb5
  have HL := hid hl; clear hl
  go_enter Try.func90, Try.ntmps90
  go_wp2_with ((with_reducible show wpList _ _ _ ({ dst := _, op := .box 116 _, type := _, pos := _, after := _, guard := _ } :: _) _ _); refine wpL_box rfl _ _ rfl _ rfl (u8s bs) rfl ?_; intro w1 HB HF HS)
  go_loopw [3, 4] (fun v i wr => ∃ k : Nat, k ≤ 64 ∧ i = .int .i64 k ∧ Hid (wr.ownsRow w1.heap.size 5 1 v k (u8s (bs.take k))) ∧ Hid (Blk wr w.heap.size 116 (u8s bs)) ∧ Hid (Fr No w wr) ∧ Hid (w1.heap.size ≤ wr.heap.size)) (fun _ i _ => 64 - (intOf i).toNat)
  case atStart => exact ⟨0, by omega, rfl, hid (World.ownsRow_nil _ _ _ _), HB, HF, hid (Nat.le_refl _)⟩
  case round =>
    obtain ⟨k, hk, rfl, HO, HBr, HFr, HSr⟩ := hrel
    by_cases hlt : k < 64
    · obtain ⟨n, hn⟩ : ∃ n, bs[k]? = some n := ⟨bs[k]'(by rw [HL.out]; exact hlt), List.getElem?_eq_getElem _⟩
      have ck : wr.cell? ⟨w.heap.size, k, none⟩ = some (.int .u8 n) := by rw [HBr.out.cell]; simp [u8s, hn]
      have HN := hid hn; clear hn
      have hk0 : (0 : Int) ≤ k := by omega
      have hk1 : (k : Int) < 64 := by omega
      obtain ⟨a1, c1, rfl, hn1, ha1⟩ := own_form HO.out
      have HA1 := hid ha1; clear ha1
      go_wp2_with (first
        | ((with_reducible show wpList _ _ _ ({ dst := _, op := .buildSlice 66 _ _, type := _, pos := _, after := _, guard := _ } :: _) _ _); refine wpL_buildOne rfl _ 5 _ rfl i5 _ rfl Hi.out Hz.out (by rw [Hs.out]; decide) (by rw [Hs.out]; decide) _ [.int .u8 n] rfl rfl (by rw [Hs.out]; rfl) ?_; intro w2 HB2 HF2 HS2)
        | ((with_reducible show wpList _ _ _ ({ dst := _, op := .call { callee := .builtin .append, args := _, argTypes := _ }, type := _, pos := _, after := _, guard := _ } :: _) _ _); refine wpList_append_own _ rfl _ _ 66 rfl w1.heap.size 5 i5 _ 1 1 rfl Hi.out Hz.out Hs.out Hb.out rfl (by decide) _ k (u8s (bs.take k)) rfl (own_fr HO.out HF2.out (fun _ _ e => e)) ⟨wr.heap.size, 0, none⟩ 1 1 [.int .u8 n] rfl rfl HB2.out.news (by simp [Value.oneCell']) (by unfold maxLen; omega) (by omega) ?_ ?_; rotate_right; intro v3 w3 ho3 hg3 _; have HO3 := hid ho3; have HG3 := hid hg3; clear ho3 hg3))
      · have hrow : ∀ j, (Value.slice a1 k c1).ownBlock = some j → w1.heap.size ≤ j := fun j hj => (HO.out.lt j hj).1
        have hs1 := HS.out
        refine ⟨⟨k + 1, by omega, by go_num, hid ?_, hid ?_, hid ?_, hid ?_⟩, by simp [intOf]; omega⟩
        · have e : u8s (bs.take (k + 1)) = u8s (bs.take k) ++ [.int .u8 n] := by
            obtain ⟨hl, rfl⟩ := List.getElem?_eq_some_iff.1 HN.out
            rw [List.take_succ_eq_append_getElem hl]; simp only [u8s, List.map_append, List.map_cons, List.map_nil]
          rw [e]; exact HO3.out
        · exact (HBr.out.fr HF2.out id).grown HG3.out (fun e => by have := hrow _ e.symm; omega)
        · exact (HFr.out.trans' HF2.out).grown HG3.out (fun j hj => .inr (by have := hrow j hj; omega))
        · exact Nat.le_trans (Nat.le_trans HSr.out HF2.out.size) HG3.out.size
      · exact Nat.le_trans HSr.out HF2.out.size
    · have hk' : k = 64 := by omega
      subst hk'
      go_wp2
      go_ret
      have hO := HO.out
      rw [List.take_of_length_le (by rw [HL.out]; omega)] at hO
      exact ⟨_, rfl, (own_bytes hO).mono (fun j hj => by have := HS.out; simp only [New]; omega), HFr.out⟩

section
variable {w : World} {bd : Nat} {D : Nat → Prop} {s : St}
theorem now_snoc (P : List (Nat × List Int)) (n : Nat) (l : List Int) {k : Nat} {p : Nat × List Int} (h : P[k]? = some p) : now (P.take (k + 1)) n l = if p.1 = n then p.2 else now (P.take k) n l := by
  obtain ⟨hlt, rfl⟩ := List.getElem?_eq_some_iff.1 h
  unfold now
  rw [List.take_succ_eq_append_getElem hlt, List.foldl_append]
  rfl
theorem spl64 {xs ys : List Int} (hx : xs.length = 64) (hy : ys.length = 64) : spl (u8s xs) 0 (u8s ys) = u8s ys := by
  have h1 : (u8s xs).length = 64 := by simp [hx]
  have h2 : (u8s ys).length = 64 := by simp [hy]
  have : (u8s xs).drop 64 = [] := List.drop_of_length_le (by omega)
  simp [spl, h2, this]
theorem zero64_u8 : zero64 = u8s (List.replicate 64 0) := by simp only [zero64, u8s, List.map_replicate]

theorem rnow_any (i : Nat) (l : List Int) (h : Rf w bd D s) (hi : s.L[i]? = some l) : Calls Try.prog 91 #[.pointer (some ⟨bd, 0, none⟩), .int .i64 i] w fun e w' =>
    e = .returned (.agg (u8s (now s.P i l)).toArray) ∧ Fr No w w' := by
  have hm := h.ok.n1
  have hlt : i < s.L.length := (List.getElem?_eq_some_iff.1 hi).1
  obtain ⟨bl1, pv1, hX⟩ := h.x
  obtain ⟨a1, cap1, rfl, hn1, ha1⟩ := own_form hX.2.2.2.1
  have c0 : w.cell? ⟨bd, 0, none⟩ = some (.slice (some ⟨bl1, 0, none⟩) s.L.length s.L.length) := hX.2.1.cell 0
  have c1 : w.cell? ⟨bd, 1, none⟩ = some (.slice a1 s.P.length cap1) := hX.2.1.cell 1
  have h64 := h.ok.sec l (List.mem_of_getElem? hi)
  have hr : w.rangeAt bl1 (i * 64) (u8s l) := hX.2.2.1.range _ _ (getU8 h.ok.sec hi)
  have hbd := hX.2.1.lt
  have HX := hid hX; have HA1 := hid ha1; have H64 := hid h64; have HR := hid hr
  have hi0 : (0 : Int) ≤ i := by omega
  have hi1 : (i : Int) < s.L.length := by omega
  clear h hi hX ha1 h64 hr
  have tok1 : True := trivial
  go_enter Try.func91, Try.ntmps91
  go_wp2_with (first
    | ((with_reducible show wpList _ _ _ ({ dst := _, op := .load 116 _, type := _, pos := _, after := _, guard := _ } :: _) _ _); refine wpL_load rfl _ _ rfl bl1 (i * 64) rfl (u8s l) _ HR.out rfl rfl (by rw [u8s_length, H64.out]; exact info73) ?_)
    | ((with_reducible show wpList _ _ _ ({ dst := _, op := .alloc 116, type := _, pos := _, after := _, guard := _ } :: _) _ _); have _t := tok1; refine wpL_alloc rfl _ rfl _ zero73 zero64 rfl ?_; intro w1 HB HF HS; clear _t tok1; replace c0 := HF.out.cell c0 id; replace c1 := HF.out.cell c1 id; replace HR := hid (HF.out.range HR.out id))
    | ((with_reducible show wpList _ _ _ ({ dst := _, op := .alloc 116, type := _, pos := _, after := _, guard := _ } :: _) _ _); refine wpL_alloc rfl _ rfl _ zero73 zero64 rfl ?_; intro w2 HB2 HF2 HS2; replace c0 := HF2.out.cell c0 id; replace c1 := HF2.out.cell c1 id)
    | ((with_reducible show wpList _ _ _ ({ dst := _, op := .store 116 _ _, type := _, pos := _, after := _, guard := _ } :: _) _ _); refine wpL_store rfl _ _ _ rfl _ 0 (u8s l) rfl rfl _ _ HB2.out (by simp [H64.out, zero64]) (by rw [u8s_length, H64.out]; exact info73) (u8s_one l) ?_; intro w3 HB3 HF3 HS3))
  have s1 := HS.out
  have s2 := HS2.out
  have hlt1 : ∀ j, D j → j < w.heap.size := HX.out.rep.lt
  have HX3 := ((HX.out.fr HF.out (fun _ _ e => e)).fr HF2.out (fun _ _ e => e)).fr HF3.out (fun j hj e => by have := hlt1 j hj; omega)
  have HB3' := HB3.out
  rw [zero64_u8, spl64 (by simp) H64.out] at HB3'
  have HBw := ((HB.out.fr HF2.out id).fr HF3.out (fun e => by omega))
  have hF3 : Fr No w w3 := (HF.out.trans' HF2.out).trans HF3.out (fun j hj => .inr (by omega))
  have HHX := hid HX3; have HHB := hid HB3'; have HHW := hid HBw; have HHF := hid hF3
  have HLT := hid hlt1
  clear HX3 HB3' HBw hF3 hlt1 c0 c1
  have Hs1 := hid s1; have Hs2 := hid s2
  clear s1 s2
  go_loopw [6] (fun j wr => ∃ k : Nat, k ≤ s.P.length ∧ j = .int .i64 k ∧ Hid (RepX 83 116 130 not wr bd D s bl1 (.slice a1 s.P.length cap1)) ∧ Hid (Blk wr w1.heap.size 116 (u8s (now (s.P.take k) i l))) ∧ Hid (Blk wr w.heap.size 116 zero64) ∧ Hid (Fr No w wr)) (fun j _ => s.P.length - (intOf j).toNat)
  case atStart => exact ⟨0, Nat.zero_le _, rfl, HHX, HHB, HHW, HHF⟩
  case round =>
    obtain ⟨k, hk, rfl, HXr, HBr, HWr, HFr⟩ := hrel
    have p64 := fun p hp => (HXr.out.1.pnd p hp).2
    have n64 := now_64 (s.P.take k) i l H64.out (fun p hp => p64 p (List.mem_of_mem_take hp))
    have N64 := hid n64; have P64 := hid p64
    clear n64 p64
    have c1 := HXr.out.2.1.cell 1
    simp only [List.getElem?_cons_succ, List.getElem?_cons_zero] at c1
    by_cases hlt : k < s.P.length
    · obtain ⟨p, hp⟩ : ∃ p, s.P[k]? = some p := ⟨s.P[k], List.getElem?_eq_getElem hlt⟩
      obtain ⟨g, rfl⟩ := HA1.out (by omega)
      have hp64 := P64.out p (List.mem_of_getElem? hp)
      have hr := HXr.out.pend hp
      have cp : wr.cell? ⟨g, k * 65, none⟩ = some (.int .i64 p.1) := hr 0 _ rfl
      have rp : wr.rangeAt g (k * 65 + 1) (u8s p.2) := fun j v hj => by have := hr (j + 1) v (by simpa using hj); rwa [show k * 65 + (j + 1) = k * 65 + 1 + j by omega] at this
      have RP := hid rp; have HP := hid hp; have HP64 := hid hp64
      have hns := now_snoc s.P i l hp
      clear hr rp hp hp64
      have hk0 : (0 : Int) ≤ k := by omega
      have hk1 : (k : Int) < s.P.length := by omega
      by_cases hpi : p.1 = i
      · rw [if_pos hpi] at hns
        have t1 : ((p.1 : Int) == (i : Int)) = true := by simp [hpi]
        have HNS := hid hns
        clear hpi hns
        go_wp2_with (first
          | ((with_reducible show wpList _ _ _ ({ dst := _, op := .load 116 _, type := _, pos := _, after := _, guard := _ } :: _) _ _); refine wpL_load rfl _ _ rfl g (k * 65 + 1) rfl (u8s p.2) _ RP.out rfl rfl (by rw [u8s_length, HP64.out]; exact info73) ?_)
          | ((with_reducible show wpList _ _ _ ({ dst := _, op := .store 116 _ _, type := _, pos := _, after := _, guard := _ } :: _) _ _); refine wpL_store rfl _ _ _ rfl w1.heap.size 0 (u8s p.2) rfl rfl _ _ HBr.out (by simp [N64.out, HP64.out]) (by rw [u8s_length, HP64.out]; exact info73) (u8s_one p.2) ?_; intro w4 HB4 HF4 HS4))
        have s1 := Hs1.out
        have e := HB4.out
        rw [spl64 N64.out HP64.out] at e
        refine ⟨⟨k + 1, by omega, by go_num, hid ?_, hid ?_, hid ?_, hid ?_⟩, by simp [intOf]; omega⟩
        · exact HXr.out.fr HF4.out (fun j hj e => by have := HLT.out j hj; omega)
        · rw [HNS.out]; exact e
        · exact HWr.out.fr HF4.out (fun e => by omega)
        · exact HFr.out.trans HF4.out (fun j hj => .inr (by omega))
      · rw [if_neg hpi] at hns
        have t1 : ((p.1 : Int) == (i : Int)) = false := by simp; omega
        have HNS := hid hns
        clear hpi hns
        go_wp2
        exact ⟨⟨k + 1, by omega, by go_num, HXr, hid (by rw [HNS.out]; exact HBr.out), HWr, HFr⟩, by simp [intOf]; omega⟩
    · have hge : ¬ ((k : Int) < s.P.length) := by omega
      have hk' : s.P.take k = s.P := List.take_of_length_le (by omega)
      have HK := hid hk'; clear hk'
      go_wp2_with (first
        | ((with_reducible show wpList _ _ _ ({ dst := _, op := .load 116 _, type := _, pos := _, after := _, guard := _ } :: _) _ _); refine wpL_load rfl _ _ rfl w1.heap.size 0 rfl (u8s (now (s.P.take k) i l)) _ (HBr.out.range 0 _ (by rw [List.drop_zero, List.take_length])) rfl rfl (by rw [u8s_length, N64.out]; exact info73) ?_)
        | ((with_reducible show wpList _ _ _ ({ dst := _, op := .store 116 _ _, type := _, pos := _, after := _, guard := _ } :: _) _ _); refine wpL_store rfl _ _ _ rfl w.heap.size 0 (u8s (now (s.P.take k) i l)) rfl rfl _ _ HWr.out (by simp [N64.out, zero64]) (by rw [u8s_length, N64.out]; exact info73) (u8s_one _) ?_; intro w4 HB4 HF4 HS4))
      have e := HB4.out
      rw [zero64_u8, spl64 (by simp) N64.out] at e
      refine ret_cell rfl _ rfl e rfl rfl (by rw [u8s_length, N64.out]; exact info73) rfl ?_
      rw [HK.out]
      exact ⟨rfl, HFr.out.trans HF4.out (fun j hj => .inr (by omega))⟩

/-- The test of a place, as the document's answer writes it. -/
theorem out_of (n : Int) (m : Nat) (h : ¬ (0 ≤ n ∧ n < m)) : (decide (n < 0) || decide ((m : Int) ≤ n)) = true := by simp; omega
theorem rread_any (n : Int) (h : Rf w bd D s) : Calls Try.prog 62 #[.pointer (some ⟨bd, 0, none⟩), .int .i64 n] w (Ans w (s.read n)) := by
  obtain ⟨bl, pv, c0, c1, c2, c3⟩ := h.cells
  cases hu : s.up with
  | false =>
    have e1 : s.read n = ([], 10) := by simp [St.read, hu]
    rw [e1]
    rw [hu] at c2
    simp only [Bool.not_false] at c2
    clear h hu e1
    go_enter Try.func62, Try.ntmps62
    go_wp2
    go_ret2
    exact ⟨_, rfl, bytes_nil _ _, Fr.refl _ _⟩
  | true =>
    rw [hu] at c2
    simp only [Bool.not_true] at c2
    by_cases hn : 0 ≤ n ∧ n < s.L.length
    · obtain ⟨i, rfl⟩ := Int.eq_ofNat_of_zero_le hn.1
      obtain ⟨l, hl⟩ : ∃ l, s.L[i]? = some l := ⟨s.L[i]'(by omega), List.getElem?_eq_getElem (by omega)⟩
      have e1 : s.read i = (now s.P i l, 0) := by simp [St.read, hl, hu]
      rw [e1]
      have hw := rnow_any i l h hl
      have h64 : (now s.P i l).length = 64 := now_64 _ _ _ (h.ok.sec l (List.mem_of_getElem? hl)) (fun p hp => (h.ok.pnd p hp).2)
      have HW := hid hw
      have H64 := hid h64
      have hn0 := hn.1
      have hn1 := hn.2
      clear h hu hn hl e1 hw h64
      go_enter Try.func62, Try.ntmps62
      go_wp2_with (first
        | (go_at_call 91; refine HW.out.mono ?_; rintro e w1 ⟨rfl, hf1⟩; have HF1 := hid hf1; clear hf1)
        | (go_at_call 90; refine (bytes_any _ _ H64.out).mono ?_; rintro e w2 ⟨v, rfl, hv, hf⟩; have HF2 := hid hf; have HV := hid hv; clear hf hv))
      go_ret2
      refine ⟨v, rfl, ?_, HF1.out.trans' HF2.out⟩
      exact HV.out.mono fun k hk => Nat.le_trans HF1.out.size hk
    · rw [St.read_no hu hn]
      by_cases h0 : n < 0
      · clear h hn hu
        go_enter Try.func62, Try.ntmps62
        go_wp2
        go_ret2
        exact ⟨_, rfl, bytes_nil _ _, Fr.refl _ _⟩
      · have hn1 : ¬ n < s.L.length := by omega
        clear h hn hu
        go_enter Try.func62, Try.ntmps62
        go_wp2
        go_ret2
        exact ⟨_, rfl, bytes_nil _ _, Fr.refl _ _⟩
end
end Go.Proofs.Ytlnolnaapnijbaa.D
