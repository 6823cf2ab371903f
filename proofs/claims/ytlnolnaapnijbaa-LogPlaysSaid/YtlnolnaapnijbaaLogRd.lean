/-
  The document's log: the records are read.
-/
import Derived.Test.YtlnolnaapnijbaaLogI
namespace Go.Proofs.Ytlnolnaapnijbaa.L
set_option maxRecDepth 100000
open Go.RowKit K

def goesB (e h p : Nat) (c : Sc) (s : Sec) : Bool :=
  s.right && decide (s.epoch = e) && decide (s.place = p) && decide (s.life ≤ h) && decide (s.size ≤ 48) && decide (s.kind ≤ 3) && (decide (s.kind % 2 = 1) == !c.ins) && (if c.ins then decide (s.life = c.last) else decide (c.last ≤ s.life)) && (decide (s.kind / 2 = 1) || decide (s.size = 48))
theorem scan_goes {e h n p : Nat} {V : Nat → Option Pc} {c : Sc} {s : Sec} (hV : V p = piece e p s) : scan h V (n + 1) p c = if goesB e h p c s then scan h V n (p + 1) (c.step p (pc s)) else (c.recs, c.next) := by
  rw [scan, hV]
  by_cases hx : s.right = true ∧ s.epoch = e ∧ s.place = p ∧ s.size ≤ 48 ∧ s.kind ≤ 3 ∧ (s.kind / 2 = 1 ∨ s.size = 48)
  · have e1 : piece e p s = some (pc s) := if_pos hx
    rw [e1]
    have e2 : c.fits h (pc s) = goesB e h p c s := by
      obtain ⟨h1, h2, h3, h4, h5, h6⟩ := hx
      have h7 : (decide (s.kind / 2 = 1) || decide (s.size = 48)) = true := by simpa using h6
      unfold goesB Sc.fits pc
      rw [h1, decide_eq_true h2, decide_eq_true h3, decide_eq_true h4, decide_eq_true h5, h7]
      simp only [Bool.true_and, Bool.and_true]
      have h8 : (s.life == c.last) = decide (s.life = c.last) := by by_cases h : s.life = c.last <;> simp [h]
      cases c.ins <;> simp [h8]
    show (if c.fits h (pc s) then _ else _) = _
    rw [e2]
  · have e1 : piece e p s = none := if_neg hx
    rw [e1]
    have e2 : goesB e h p c s = false := by
      rw [Bool.eq_false_iff]
      intro hg
      apply hx
      unfold goesB at hg
      simp only [Bool.and_eq_true, decide_eq_true_eq, Bool.or_eq_true] at hg
      exact ⟨hg.1.1.1.1.1.1.1.1, hg.1.1.1.1.1.1.1.2, hg.1.1.1.1.1.1.2, hg.1.1.1.1.2, hg.1.1.1.2, hg.2⟩
    rw [e2]; rfl
theorem rlook_ok {w : World} {bd : Nat} {Z : Nat → Prop} {u : U} (h : Rk w bd Z u) {n : Nat} (hn : n < u.L.length) : (look (u.sec n)).Ok := look_ok (rsec64 h hn)
theorem hentRRead (vs : Array Value) (w : World) : (callFunc 62 vs).run Try.prog w = .ok (.enter 62 vs) w := by kernel_rfl
set_option maxHeartbeats 32000000 in
theorem rreads_any (w : World) (bg bd : Nat) (Z : Nat → Prop) (g : Lg) (u : U) (h : AtR w bg bd Z g u) (hu : u.up = true) (h0 : Nat) (hg : g.life = h0 + 1) (hn : g.next = 1) :
    Calls Try.prog 64 #[.pointer (some ⟨bg, 0, none⟩), .int .u32 (h0 : Int)] w fun e w' =>
      ∃ v, e = .returned (.tuple #[v, .int .i64 0]) ∧ TextsIn w' (fun k => w.heap.size ≤ k) v (u.load g.first g.count g.epoch h0).1 ∧
        AtR w' bg bd Z { g with next := (u.load g.first g.count g.epoch h0).2 } u ∧ Fr (fun k => k = bg) w w' := by
  generalize hR : u.load g.first g.count g.epoch h0 = R
  have hL := h.lens
  have hfit := h.2.2.2.fit
  have hc2 := h.2.2.2.c2
  have hcn : g.count ≤ 4096 := by omega
  have hci : (g.count : Int) ≤ 4096 := by omega
  have HA0 := hid h
  have HRR : Hid (scan h0 (u.view g.first g.epoch) (g.count - 1) 1 sc0 = R) := hid hR
  have HG := hid hg
  have HFit := hid hfit
  have HLi := hid h.2.2.2.li
  have HU := hid hu
  obtain ⟨i9, hi9, hz9, hs9, hb9⟩ := info_parts info9z
  have I9 := hid hi9; have Z9 := hid hz9; have S9 := hid hs9; have B9 := hid hb9
  obtain ⟨i5, hi5, hz5, hs5, hb5⟩ := info_parts info5z
  have I5 := hid hi5; have Z5 := hid hz5; have S5 := hid hs5; have B5 := hid hb5
  clear h hg hR hfit hL hu hi9 hz9 hs9 hb9 hi5 hz5 hs5 hb5
  go_enter Try.func64, Try.ntmps64
  go_wp2_with fail
  go_loopw [6, 7, 8, 9, 10] (fun rv pv lf iv pl wr => ∃ (c : Sc) (a : Option Addr) (cap : Nat) (pa : Option Addr) (pcap p : Nat), rv = .slice a c.recs.length cap ∧ pv = .slice pa c.part.length pcap ∧ lf = .int .u32 (c.last : Int) ∧ iv = .bool c.ins ∧ pl = .int .i64 (p : Int) ∧
      1 ≤ p ∧ p ≤ g.count ∧ Hid (c.Ok p) ∧ Hid (scan h0 (u.view g.first g.epoch) (g.count - p) p c = R) ∧ Hid (wr.ownsRow w.heap.size 9 1 rv c.recs.length (strs c.recs)) ∧ Hid (wr.ownsRow w.heap.size 5 1 pv c.part.length (u8s c.part)) ∧
      Hid (∀ k, (Value.slice a c.recs.length cap).ownBlock = some k → (Value.slice pa c.part.length pcap).ownBlock ≠ some k) ∧
      Hid (AtR wr bg bd Z { g with next := c.next } u) ∧ Hid (Fr (fun k => k = bg) w wr)) (fun _ _ _ _ pl _ => g.count - (intOf pl).toNat)
  case atStart =>
    exact ⟨sc0, none, 0, none, 0, 1, rfl, rfl, rfl, rfl, rfl, Nat.le_refl _, by omega, hid ⟨by simp [sc0], fun _ => rfl, by simp [sc0], by simp [sc0], by simp [sc0], by simp [sc0], by simp [sc0]⟩, HRR, hid (World.ownsRow_nil _ _ _ _), hid (World.ownsRow_nil _ _ _ _), hid (fun k e => by cases e), hid (by
      have := HA0.out
      rwa [show ({ g with next := sc0.next } : Lg) = g by cases g; simp [sc0] at hn ⊢; exact hn.symm]), hid (Fr.refl _ _)⟩
  case round =>
    obtain ⟨c, a, cap, pa, pcap, p, rfl, rfl, rfl, rfl, rfl, hp1, hp2, HOk, HS, HOwn, HPart, HDis, HAt, HFr⟩ := hrel
    have cnt : wr.cell? ⟨bg, 2, none⟩ = some (.int .i64 g.count) := HAt.out.2.1.cell 2
    have HFIN : Hid (∀ w', Fr No wr w' → R = (c.recs, c.next) → TextsIn w' (fun k => w.heap.size ≤ k) (.slice a c.recs.length cap) R.1 ∧ AtR w' bg bd Z { g with next := R.2 } u ∧ Fr (fun k => k = bg) w w') := hid (fun w' hf he => by
      rw [he]
      exact ⟨own_texts (own_fr HOwn.out hf (fun _ _ e => e)), HAt.out.no hf, HFr.out.trans' hf.no⟩)
    obtain ⟨ib, hib⟩ : ∃ b, c.ins = b := ⟨_, rfl⟩
    have HIB := hid hib
    rw [hib]
    clear hib
    by_cases hlt : p < g.count
    · have hlti : (p : Int) < g.count := by omega
      have hsec : g.first + p < u.L.length := by have := HFit.out; omega
      have hgf : (g.first : Int) + (p : Int) ≤ 4096 := by have := HAt.out.lens; omega
      obtain ⟨q9, hq9⟩ : ∃ q : Nat, q = g.first + p := ⟨_, rfl⟩
      have W9 : Hid (IntKind.i64.wrap ((g.first : Int) + (p : Int)) = (q9 : Int)) := hid ((wrap_small (by omega) (by omega)).trans (by omega))
      have HSL : Hid ((u.sec q9).length = 64) := hid (by rw [hq9]; exact rsec64 HAt.out.1 hsec)
      have HSok : Hid ((look (u.sec q9)).Ok) := hid (by rw [hq9]; exact rlook_ok HAt.out.1 hsec)
      have HQ : Hid (q9 < u.L.length) := hid (by rw [hq9]; exact hsec)
      have HSs : Hid (g.count - p = (g.count - (p + 1)) + 1) := hid (by omega)
      have HST := hid (scan_goes (e := g.epoch) (h := h0) (n := g.count - (p + 1)) (p := p) (V := u.view g.first g.epoch) (c := c) (s := look (u.sec q9)) (by rw [hq9]; rfl))
      rw [← HSs.out] at HST
      rw [HS.out] at HST
      have b0 : wr.cell? ⟨bg, 0, none⟩ = some (.pointer (some ⟨bd, 0, none⟩)) := HAt.out.2.1.cell 0
      have b1 : wr.cell? ⟨bg, 1, none⟩ = some (.int .i64 (g.first : Int)) := HAt.out.2.1.cell 1
      clear hsec hq9
      go_wp2_with fail
      have hold : Facts.hold [(3, fun w' => w'.cell? ⟨bg, 0, none⟩ = some (.pointer (some ⟨bd, 0, none⟩))), (7, fun w' => w'.cell? ⟨bg, 1, none⟩ = some (.int .i64 (g.first : Int)))] wr.drew := Facts.cons_hold b0 (Facts.cons_hold b1 (Facts.nil_hold _))
      refine wpD_region hold (by kernel_rfl) 16 rfl ?_
      (refine wpD_plain 0 (v := ?_) rfl (by kernel_rfl) (by kernel_rfl) (by kernel_rfl) (fun _ _ _ h => h) (by rfl) ?_ (by assumption) ?_; rotate_left; (intro _w; go_simp; try with_reducible rfl); simp only [Act.put, List.setIfInBounds_toArray, List.set_cons_zero, List.set_cons_succ])
      (refine wpD_plain 1 (v := ?_) rfl (by kernel_rfl) (by kernel_rfl) (by kernel_rfl) (fun _ _ _ h => h) (by rfl) ?_ (by assumption) ?_; rotate_left; (intro _w; go_simp; try with_reducible rfl); simp only [Act.put, List.setIfInBounds_toArray, List.set_cons_zero, List.set_cons_succ])
      (refine wpD_plain 2 (v := ?_) rfl (by kernel_rfl) (by kernel_rfl) (by kernel_rfl) (fun _ _ _ h => h) (by rfl) ?_ (by assumption) ?_; rotate_left; (intro _w; go_simp; try with_reducible rfl); simp only [Act.put, List.setIfInBounds_toArray, List.set_cons_zero, List.set_cons_succ])
      (refine wpD_take 3 _ rfl (by kernel_rfl) (by kernel_rfl) (by kernel_rfl) (fun _ _ _ h => h) List.mem_cons_self (by rfl) (v := ?_) ?_ (by assumption) ?_; rotate_left; (intro _w _hw; go_simp; try with_reducible rfl); simp only [Act.put, List.setIfInBounds_toArray, List.set_cons_zero, List.set_cons_succ])
      (refine wpD_plain 4 (v := ?_) rfl (by kernel_rfl) (by kernel_rfl) (by kernel_rfl) (fun _ _ _ h => h) (by rfl) ?_ (by assumption) ?_; rotate_left; (intro _w; go_simp; try with_reducible rfl); simp only [Act.put, List.setIfInBounds_toArray, List.set_cons_zero, List.set_cons_succ])
      (refine wpD_plain 5 (v := ?_) rfl (by kernel_rfl) (by kernel_rfl) (by kernel_rfl) (fun _ _ _ h => h) (by rfl) ?_ (by assumption) ?_; rotate_left; (intro _w; go_simp; try with_reducible rfl); simp only [Act.put, List.setIfInBounds_toArray, List.set_cons_zero, List.set_cons_succ])
      (refine wpD_plain 6 (v := ?_) rfl (by kernel_rfl) (by kernel_rfl) (by kernel_rfl) (fun _ _ _ h => h) (by rfl) ?_ (by assumption) ?_; rotate_left; (intro _w; go_simp; try with_reducible rfl); simp only [Act.put, List.setIfInBounds_toArray, List.set_cons_zero, List.set_cons_succ])
      (refine wpD_take 7 _ rfl (by kernel_rfl) (by kernel_rfl) (by kernel_rfl) (fun _ _ _ h => h) (List.mem_cons_of_mem _ List.mem_cons_self) (by rfl) (v := ?_) ?_ (by assumption) ?_; rotate_left; (intro _w _hw; go_simp; try with_reducible rfl); simp only [Act.put, List.setIfInBounds_toArray, List.set_cons_zero, List.set_cons_succ])
      (refine wpD_plain 8 (v := ?_) rfl (by kernel_rfl) (by kernel_rfl) (by kernel_rfl) (fun _ _ _ h => h) (by rfl) ?_ (by assumption) ?_; rotate_left; (intro _w; go_simp; try with_reducible rfl); simp only [Act.put, List.setIfInBounds_toArray, List.set_cons_zero, List.set_cons_succ])
      (refine wpD_plain 9 (v := (.int .i64 (q9 : Int))) rfl (by kernel_rfl) (by kernel_rfl) (by kernel_rfl) (fun _ _ _ h => h) (by rfl) ?_ (by assumption) ?_; (intro _w; go_simp; exact W9.out); simp only [Act.put, List.setIfInBounds_toArray, List.set_cons_zero, List.set_cons_succ])
      refine wpD_only 10 [(7, fun w' => w'.cell? ⟨bg, 1, none⟩ = some (.int .i64 (g.first : Int)))] rfl (by kernel_rfl) (by kernel_rfl) (by rfl) (fun K10 hK10 => ?_)
      refine wp_call (.func 62) _ _ rfl 62 [] rfl hentRRead [.pointer (some ⟨bd, 0, none⟩), .int .i64 (q9 : Int)] (by rfl) ?_
      refine (rread_up (w := wr.drew) q9 (D.Rep.no HAt.out.1 (Fr.refl No wr).drew) HQ.out HU.out).mono ?_
      rintro e' w1 ⟨ra, rcap, rfl, hrc, hsa, ⟨rk, ro, rfl, -, -⟩, hf⟩
      have HRC := hid hrc; have HSA := hid hsa
      have HF1 : Hid (Fr No wr w1) := hid (Fr.trans' (b := wr.drew) (Fr.refl No wr).drew hf)
      refine ⟨_, rfl, ?_⟩
      have hold : Facts.hold [(7, fun w' => w'.cell? ⟨bg, 1, none⟩ = some (.int .i64 (g.first : Int)))] w1 := Facts.cons_hold (HF1.out.cell b1 id) (Facts.nil_hold _)
      refine hK10 _ _ hold ?_
      clear hK10 K10 hrc hsa hf cnt
      simp only [Act.put, List.setIfInBounds_toArray, List.set_cons_zero, List.set_cons_succ]
      (refine wpD_plain 11 (v := ?_) rfl (by kernel_rfl) (by kernel_rfl) (by kernel_rfl) (fun _ _ _ h => h) (by rfl) ?_ (by assumption) ?_; rotate_left; (intro _w; go_simp; try with_reducible rfl); simp only [Act.put, List.setIfInBounds_toArray, List.set_cons_zero, List.set_cons_succ])
      (refine wpD_plain 12 (v := ?_) rfl (by kernel_rfl) (by kernel_rfl) (by kernel_rfl) (fun _ _ _ h => h) (by rfl) ?_ (by assumption) ?_; rotate_left; (intro _w; go_simp; try with_reducible rfl); simp only [Act.put, List.setIfInBounds_toArray, List.set_cons_zero, List.set_cons_succ])
      (refine wpD_plain 13 (v := ?_) rfl (by kernel_rfl) (by kernel_rfl) (by kernel_rfl) (fun _ _ _ h => h) (by rfl) ?_ (by assumption) ?_; rotate_left; (intro _w; go_simp; try with_reducible rfl); simp only [Act.put, List.setIfInBounds_toArray, List.set_cons_zero, List.set_cons_succ])
      (refine wpD_plain 14 (v := ?_) rfl (by kernel_rfl) (by kernel_rfl) (by kernel_rfl) (fun _ _ _ h => h) (by rfl) ?_ (by assumption) ?_; rotate_left; (intro _w; go_simp; try with_reducible rfl); simp only [Act.put, List.setIfInBounds_toArray, List.set_cons_zero, List.set_cons_succ])
      (refine wpD_plain 15 (v := ?_) rfl (by kernel_rfl) (by kernel_rfl) (by kernel_rfl) (fun _ _ _ h => h) (by rfl) ?_ (by assumption) ?_; rotate_left; (intro _w; go_simp; try with_reducible rfl); simp only [Act.put, List.setIfInBounds_toArray, List.set_cons_zero, List.set_cons_succ])
      refine wpD_done (by kernel_rfl) ?_ _
      try simp only [Act.put, List.setIfInBounds_toArray, List.set_cons_zero, List.set_cons_succ]
      clear hold b0 b1
      go_wp2_with fail
      refine (rlook_any (u.sec q9) rk ro rcap w1 HSL.out HSA.out HRC.out).mono ?_
      generalize look (u.sec q9) = s at HSok HST ⊢
      rintro e' w2 ⟨sa, scp, rfl, o2, f2⟩
      obtain ⟨mz, hmz⟩ : ∃ m, min s.size 48 = m := ⟨_, rfl⟩
      rw [hmz] at o2 ⊢
      have HMZ := hid hmz
      clear hmz
      have HO2 := hid o2; have HF2 := hid f2
      clear o2 f2
      have hkd : (s.kind : Int) ≤ 255 := by have := HSok.out.kd; omega
      have hpd : (s.place : Int) ≤ 65535 := by have := HSok.out.pl; omega
      have hzd : (s.size : Int) ≤ 255 := by have := HSok.out.sz; omega
      go_wp2_with (first
        | ((with_reducible show wpList _ _ _ ({ dst := _, op := .alloc 126, type := _, pos := _, after := _, guard := _ } :: _) _ _); refine wpL_alloc rfl _ rfl _ zero99 (rsec false 0 0 0 0 0 (.slice none 0 0)) rfl ?_; intro w3 HB3 HF3 HS3)
        | ((with_reducible show wpList _ _ _ ({ dst := _, op := .store 126 _ _, type := _, pos := _, after := _, guard := _ } :: _) _ _); refine wpL_store rfl _ _ _ rfl w2.heap.size 0 (rsec s.right s.epoch s.life s.place s.kind s.size (.slice sa mz scp)) rfl rfl _ _ HB3.out (by simp [rsec]) (by rw [info99]; rfl) (by intro v hv; simp [rsec] at hv; rcases hv with rfl | rfl | rfl | rfl | rfl | rfl | rfl <;> rfl) ?_; intro w4 HB4 HF4 HS4;
            have HBs : Hid (Blk w4 w2.heap.size 126 (rsec s.right s.epoch s.life s.place s.kind s.size (.slice sa mz scp))) := hid (by have := HB4.out; rwa [spl_all (by simp [rsec])] at this);
            have z4 : w4.cell? ⟨w2.heap.size, 4, none⟩ = some (.int .i64 s.kind) := HBs.out.cell 4))
      have hkbv : ((s.kind : Int) % 2 == 1) = decide (s.kind % 2 = 1) := by by_cases h : s.kind % 2 = 1 <;> simp [h] <;> omega
      have hkev : ((s.kind : Int) / 2 == 1) = decide (s.kind / 2 = 1) := by by_cases h : s.kind / 2 = 1 <;> simp [h] <;> omega
      obtain ⟨kb, hkb⟩ : ∃ b, ((s.kind : Int) % 2 == 1) = b := ⟨_, rfl⟩
      obtain ⟨ke, hke⟩ : ∃ b, ((s.kind : Int) / 2 == 1) = b := ⟨_, rfl⟩
      rw [hkb, hke]
      have HKB : Hid (decide (s.kind % 2 = 1) = kb) := hid (by rw [← hkbv, hkb])
      have HKE : Hid (decide (s.kind / 2 = 1) = ke) := hid (by rw [← hkev, hke])
      have HF24 : Hid (Fr No w2 w4) := hid (HF3.out.trans HF4.out (fun k hk => .inr (Nat.le_of_eq hk.symm)))
      have HKw : Hid (wr.heap.size ≤ w2.heap.size) := hid (Nat.le_trans HF1.out.size HF2.out.size)
      have HF4' : Hid (Fr No wr w4) := hid ((HF1.out.trans' HF2.out).trans' HF24.out)
      clear HF4
      have HF4 := HF4'
      obtain ⟨k, hk⟩ : ∃ n, w2.heap.size = n := ⟨_, rfl⟩
      rw [hk] at HKw HBs z4 ⊢
      clear HB3 HF3 HS3 HB4 HS4 hk hkbv hkev hkb hke HF4'
      have e0 : w4.cell? ⟨k, 0, none⟩ = some (.bool s.right) := HBs.out.cell 0
      have e1 : w4.cell? ⟨k, 1, none⟩ = some (.int .u32 (s.epoch : Int)) := HBs.out.cell 1
      have eg : w4.cell? ⟨bg, 3, none⟩ = some (.int .u32 (g.epoch : Int)) := HF4.out.cell (HAt.out.2.1.cell 3) id
      have e3 : w4.cell? ⟨k, 3, none⟩ = some (.int .i64 (s.place : Int)) := HBs.out.cell 3
      have e2 : w4.cell? ⟨k, 2, none⟩ = some (.int .u32 (s.life : Int)) := HBs.out.cell 2
      have e5 : w4.cell? ⟨k, 5, none⟩ = some (.int .i64 (s.size : Int)) := HBs.out.cell 5
      have e4 : w4.cell? ⟨k, 4, none⟩ = some (.int .i64 (s.kind : Int)) := HBs.out.cell 4
      by_cases hr : s.right = true
      · have H1 := hid hr
        rw [hr] at e0 HBs
        clear hr
        by_cases h2 : s.epoch = g.epoch
        · have H2 := hid h2
          clear h2
          by_cases h3 : s.place = p
          · have H3 := hid h3
            clear h3
            by_cases h4 : s.life ≤ h0
            · have H4 := hid h4
              clear h4
              by_cases h5 : s.size ≤ 48
              · have H5 := hid h5
                clear h5
                by_cases h6 : s.kind ≤ 3
                · have H6 := hid h6
                  clear h6
                  by_cases h7 : kb = !ib
                  · have H7 := hid h7
                    clear h7
                    have hold : Facts.hold [(1, fun w' => w'.cell? ⟨k, 0, none⟩ = some (.bool true)), (4, fun w' => w'.cell? ⟨k, 1, none⟩ = some (.int .u32 (s.epoch : Int))), (8, fun w' => w'.cell? ⟨bg, 3, none⟩ = some (.int .u32 (g.epoch : Int))), (13, fun w' => w'.cell? ⟨k, 3, none⟩ = some (.int .i64 (s.place : Int))), (19, fun w' => w'.cell? ⟨k, 2, none⟩ = some (.int .u32 (s.life : Int))), (25, fun w' => w'.cell? ⟨k, 5, none⟩ = some (.int .i64 (s.size : Int))), (30, fun w' => w'.cell? ⟨k, 4, none⟩ = some (.int .i64 (s.kind : Int)))] w4.drew := Facts.cons_hold e0 (Facts.cons_hold e1 (Facts.cons_hold eg (Facts.cons_hold e3 (Facts.cons_hold e2 (Facts.cons_hold e5 (Facts.cons_hold e4 (Facts.nil_hold _)))))))
                    refine wpD_region hold (by kernel_rfl) 40 rfl ?_
                    (refine wpD_plain 0 (v := ?_) rfl (by kernel_rfl) (by kernel_rfl) (by kernel_rfl) (fun _ _ _ h => h) (by rfl) ?_ (by assumption) ?_; rotate_left; (intro _w; go_simp; try with_reducible rfl); simp only [Act.put, List.setIfInBounds_toArray, List.set_cons_zero, List.set_cons_succ])
                    (refine wpD_take 1 _ rfl (by kernel_rfl) (by kernel_rfl) (by kernel_rfl) (fun _ _ _ h => h) List.mem_cons_self (by rfl) (v := ?_) ?_ (by assumption) ?_; rotate_left; (intro _w _hw; go_simp; try with_reducible rfl); simp only [Act.put, List.setIfInBounds_toArray, List.set_cons_zero, List.set_cons_succ])
                    (refine wpD_plain 2 (v := ?_) rfl (by kernel_rfl) (by kernel_rfl) (by kernel_rfl) (fun _ _ _ h => h) (by rfl) ?_ (by assumption) ?_; rotate_left; (intro _w; go_simp; try with_reducible rfl); simp only [Act.put, List.setIfInBounds_toArray, List.set_cons_zero, List.set_cons_succ])
                    (refine wpD_plain 3 (v := ?_) rfl (by kernel_rfl) (by kernel_rfl) (by kernel_rfl) (fun _ _ _ h => h) (by rfl) ?_ (by assumption) ?_; rotate_left; (intro _w; go_simp; try with_reducible rfl); simp only [Act.put, List.setIfInBounds_toArray, List.set_cons_zero, List.set_cons_succ])
                    (refine wpD_take 4 _ rfl (by kernel_rfl) (by kernel_rfl) (by kernel_rfl) (fun _ _ _ h => h) (List.mem_cons_of_mem _ List.mem_cons_self) (by rfl) (v := ?_) ?_ (by assumption) ?_; rotate_left; (intro _w _hw; go_simp; try with_reducible rfl); simp only [Act.put, List.setIfInBounds_toArray, List.set_cons_zero, List.set_cons_succ])
                    (refine wpD_plain 5 (v := ?_) rfl (by kernel_rfl) (by kernel_rfl) (by kernel_rfl) (fun _ _ _ h => h) (by rfl) ?_ (by assumption) ?_; rotate_left; (intro _w; go_simp; try with_reducible rfl); simp only [Act.put, List.setIfInBounds_toArray, List.set_cons_zero, List.set_cons_succ])
                    (refine wpD_plain 6 (v := ?_) rfl (by kernel_rfl) (by kernel_rfl) (by kernel_rfl) (fun _ _ _ h => h) (by rfl) ?_ (by assumption) ?_; rotate_left; (intro _w; go_simp; try with_reducible rfl); simp only [Act.put, List.setIfInBounds_toArray, List.set_cons_zero, List.set_cons_succ])
                    (refine wpD_plain 7 (v := ?_) rfl (by kernel_rfl) (by kernel_rfl) (by kernel_rfl) (fun _ _ _ h => h) (by rfl) ?_ (by assumption) ?_; rotate_left; (intro _w; go_simp; try with_reducible rfl); simp only [Act.put, List.setIfInBounds_toArray, List.set_cons_zero, List.set_cons_succ])
                    (refine wpD_take 8 _ rfl (by kernel_rfl) (by kernel_rfl) (by kernel_rfl) (fun _ _ _ h => h) (List.mem_cons_of_mem _ (List.mem_cons_of_mem _ List.mem_cons_self)) (by rfl) (v := ?_) ?_ (by assumption) ?_; rotate_left; (intro _w _hw; go_simp; try with_reducible rfl); simp only [Act.put, List.setIfInBounds_toArray, List.set_cons_zero, List.set_cons_succ])
                    (refine wpD_plain 9 (v := (.bool true)) rfl (by kernel_rfl) (by kernel_rfl) (by kernel_rfl) (fun _ _ _ h => h) (by rfl) ?_ (by assumption) ?_; (intro _w; go_simp; (first | exact H2.out | (have := H2.out; omega) | (have := H2.out; simp [this]) | (have := H2.out; simp at this ⊢; omega))); simp only [Act.put, List.setIfInBounds_toArray, List.set_cons_zero, List.set_cons_succ])
                    (refine wpD_plain 10 (v := ?_) rfl (by kernel_rfl) (by kernel_rfl) (by kernel_rfl) (fun _ _ _ h => h) (by rfl) ?_ (by assumption) ?_; rotate_left; (intro _w; go_simp; try with_reducible rfl); simp only [Act.put, List.setIfInBounds_toArray, List.set_cons_zero, List.set_cons_succ])
                    (refine wpD_plain 11 (v := ?_) rfl (by kernel_rfl) (by kernel_rfl) (by kernel_rfl) (fun _ _ _ h => h) (by rfl) ?_ (by assumption) ?_; rotate_left; (intro _w; go_simp; try with_reducible rfl); simp only [Act.put, List.setIfInBounds_toArray, List.set_cons_zero, List.set_cons_succ])
                    (refine wpD_plain 12 (v := ?_) rfl (by kernel_rfl) (by kernel_rfl) (by kernel_rfl) (fun _ _ _ h => h) (by rfl) ?_ (by assumption) ?_; rotate_left; (intro _w; go_simp; try with_reducible rfl); simp only [Act.put, List.setIfInBounds_toArray, List.set_cons_zero, List.set_cons_succ])
                    (refine wpD_take 13 _ rfl (by kernel_rfl) (by kernel_rfl) (by kernel_rfl) (fun _ _ _ h => h) (List.mem_cons_of_mem _ (List.mem_cons_of_mem _ (List.mem_cons_of_mem _ List.mem_cons_self))) (by rfl) (v := ?_) ?_ (by assumption) ?_; rotate_left; (intro _w _hw; go_simp; try with_reducible rfl); simp only [Act.put, List.setIfInBounds_toArray, List.set_cons_zero, List.set_cons_succ])
                    (refine wpD_plain 14 (v := ?_) rfl (by kernel_rfl) (by kernel_rfl) (by kernel_rfl) (fun _ _ _ h => h) (by rfl) ?_ (by assumption) ?_; rotate_left; (intro _w; go_simp; try with_reducible rfl); simp only [Act.put, List.setIfInBounds_toArray, List.set_cons_zero, List.set_cons_succ])
                    (refine wpD_plain 15 (v := (.bool true)) rfl (by kernel_rfl) (by kernel_rfl) (by kernel_rfl) (fun _ _ _ h => h) (by rfl) ?_ (by assumption) ?_; (intro _w; go_simp; (first | exact H3.out | (have := H3.out; omega) | (have := H3.out; simp [this]) | (have := H3.out; simp at this ⊢; omega))); simp only [Act.put, List.setIfInBounds_toArray, List.set_cons_zero, List.set_cons_succ])
                    (refine wpD_plain 16 (v := ?_) rfl (by kernel_rfl) (by kernel_rfl) (by kernel_rfl) (fun _ _ _ h => h) (by rfl) ?_ (by assumption) ?_; rotate_left; (intro _w; go_simp; try with_reducible rfl); simp only [Act.put, List.setIfInBounds_toArray, List.set_cons_zero, List.set_cons_succ])
                    (refine wpD_plain 17 (v := ?_) rfl (by kernel_rfl) (by kernel_rfl) (by kernel_rfl) (fun _ _ _ h => h) (by rfl) ?_ (by assumption) ?_; rotate_left; (intro _w; go_simp; try with_reducible rfl); simp only [Act.put, List.setIfInBounds_toArray, List.set_cons_zero, List.set_cons_succ])
                    (refine wpD_plain 18 (v := ?_) rfl (by kernel_rfl) (by kernel_rfl) (by kernel_rfl) (fun _ _ _ h => h) (by rfl) ?_ (by assumption) ?_; rotate_left; (intro _w; go_simp; try with_reducible rfl); simp only [Act.put, List.setIfInBounds_toArray, List.set_cons_zero, List.set_cons_succ])
                    (refine wpD_take 19 _ rfl (by kernel_rfl) (by kernel_rfl) (by kernel_rfl) (fun _ _ _ h => h) (List.mem_cons_of_mem _ (List.mem_cons_of_mem _ (List.mem_cons_of_mem _ (List.mem_cons_of_mem _ List.mem_cons_self)))) (by rfl) (v := ?_) ?_ (by assumption) ?_; rotate_left; (intro _w _hw; go_simp; try with_reducible rfl); simp only [Act.put, List.setIfInBounds_toArray, List.set_cons_zero, List.set_cons_succ])
                    (refine wpD_plain 20 (v := ?_) rfl (by kernel_rfl) (by kernel_rfl) (by kernel_rfl) (fun _ _ _ h => h) (by rfl) ?_ (by assumption) ?_; rotate_left; (intro _w; go_simp; try with_reducible rfl); simp only [Act.put, List.setIfInBounds_toArray, List.set_cons_zero, List.set_cons_succ])
                    (refine wpD_plain 21 (v := (.bool true)) rfl (by kernel_rfl) (by kernel_rfl) (by kernel_rfl) (fun _ _ _ h => h) (by rfl) ?_ (by assumption) ?_; (intro _w; go_simp; (first | exact H4.out | (have := H4.out; omega) | (have := H4.out; simp [this]) | (have := H4.out; simp at this ⊢; omega))); simp only [Act.put, List.setIfInBounds_toArray, List.set_cons_zero, List.set_cons_succ])
                    (refine wpD_plain 22 (v := ?_) rfl (by kernel_rfl) (by kernel_rfl) (by kernel_rfl) (fun _ _ _ h => h) (by rfl) ?_ (by assumption) ?_; rotate_left; (intro _w; go_simp; try with_reducible rfl); simp only [Act.put, List.setIfInBounds_toArray, List.set_cons_zero, List.set_cons_succ])
                    (refine wpD_plain 23 (v := ?_) rfl (by kernel_rfl) (by kernel_rfl) (by kernel_rfl) (fun _ _ _ h => h) (by rfl) ?_ (by assumption) ?_; rotate_left; (intro _w; go_simp; try with_reducible rfl); simp only [Act.put, List.setIfInBounds_toArray, List.set_cons_zero, List.set_cons_succ])
                    (refine wpD_plain 24 (v := ?_) rfl (by kernel_rfl) (by kernel_rfl) (by kernel_rfl) (fun _ _ _ h => h) (by rfl) ?_ (by assumption) ?_; rotate_left; (intro _w; go_simp; try with_reducible rfl); simp only [Act.put, List.setIfInBounds_toArray, List.set_cons_zero, List.set_cons_succ])
                    (refine wpD_take 25 _ rfl (by kernel_rfl) (by kernel_rfl) (by kernel_rfl) (fun _ _ _ h => h) (List.mem_cons_of_mem _ (List.mem_cons_of_mem _ (List.mem_cons_of_mem _ (List.mem_cons_of_mem _ (List.mem_cons_of_mem _ List.mem_cons_self))))) (by rfl) (v := ?_) ?_ (by assumption) ?_; rotate_left; (intro _w _hw; go_simp; try with_reducible rfl); simp only [Act.put, List.setIfInBounds_toArray, List.set_cons_zero, List.set_cons_succ])
                    (refine wpD_plain 26 (v := (.bool true)) rfl (by kernel_rfl) (by kernel_rfl) (by kernel_rfl) (fun _ _ _ h => h) (by rfl) ?_ (by assumption) ?_; (intro _w; go_simp; (first | exact H5.out | (have := H5.out; omega) | (have := H5.out; simp [this]) | (have := H5.out; simp at this ⊢; omega))); simp only [Act.put, List.setIfInBounds_toArray, List.set_cons_zero, List.set_cons_succ])
                    (refine wpD_plain 27 (v := ?_) rfl (by kernel_rfl) (by kernel_rfl) (by kernel_rfl) (fun _ _ _ h => h) (by rfl) ?_ (by assumption) ?_; rotate_left; (intro _w; go_simp; try with_reducible rfl); simp only [Act.put, List.setIfInBounds_toArray, List.set_cons_zero, List.set_cons_succ])
                    (refine wpD_plain 28 (v := ?_) rfl (by kernel_rfl) (by kernel_rfl) (by kernel_rfl) (fun _ _ _ h => h) (by rfl) ?_ (by assumption) ?_; rotate_left; (intro _w; go_simp; try with_reducible rfl); simp only [Act.put, List.setIfInBounds_toArray, List.set_cons_zero, List.set_cons_succ])
                    (refine wpD_plain 29 (v := ?_) rfl (by kernel_rfl) (by kernel_rfl) (by kernel_rfl) (fun _ _ _ h => h) (by rfl) ?_ (by assumption) ?_; rotate_left; (intro _w; go_simp; try with_reducible rfl); simp only [Act.put, List.setIfInBounds_toArray, List.set_cons_zero, List.set_cons_succ])
                    (refine wpD_take 30 _ rfl (by kernel_rfl) (by kernel_rfl) (by kernel_rfl) (fun _ _ _ h => h) (List.mem_cons_of_mem _ (List.mem_cons_of_mem _ (List.mem_cons_of_mem _ (List.mem_cons_of_mem _ (List.mem_cons_of_mem _ (List.mem_cons_of_mem _ List.mem_cons_self)))))) (by rfl) (v := ?_) ?_ (by assumption) ?_; rotate_left; (intro _w _hw; go_simp; try with_reducible rfl); simp only [Act.put, List.setIfInBounds_toArray, List.set_cons_zero, List.set_cons_succ])
                    (refine wpD_plain 31 (v := (.bool true)) rfl (by kernel_rfl) (by kernel_rfl) (by kernel_rfl) (fun _ _ _ h => h) (by rfl) ?_ (by assumption) ?_; (intro _w; go_simp; (first | exact H6.out | (have := H6.out; omega) | (have := H6.out; simp [this]) | (have := H6.out; simp at this ⊢; omega))); simp only [Act.put, List.setIfInBounds_toArray, List.set_cons_zero, List.set_cons_succ])
                    (refine wpD_plain 32 (v := ?_) rfl (by kernel_rfl) (by kernel_rfl) (by kernel_rfl) (fun _ _ _ h => h) (by rfl) ?_ (by assumption) ?_; rotate_left; (intro _w; go_simp; try with_reducible rfl); simp only [Act.put, List.setIfInBounds_toArray, List.set_cons_zero, List.set_cons_succ])
                    (refine wpD_plain 33 (v := ?_) rfl (by kernel_rfl) (by kernel_rfl) (by kernel_rfl) (fun _ _ _ h => h) (by rfl) ?_ (by assumption) ?_; rotate_left; (intro _w; go_simp; try with_reducible rfl); simp only [Act.put, List.setIfInBounds_toArray, List.set_cons_zero, List.set_cons_succ])
                    (refine wpD_plain 34 (v := ?_) rfl (by kernel_rfl) (by kernel_rfl) (by kernel_rfl) (fun _ _ _ h => h) (by rfl) ?_ (by assumption) ?_; rotate_left; (intro _w; go_simp; try with_reducible rfl); simp only [Act.put, List.setIfInBounds_toArray, List.set_cons_zero, List.set_cons_succ])
                    (refine wpD_plain 35 (v := ?_) rfl (by kernel_rfl) (by kernel_rfl) (by kernel_rfl) (fun _ _ _ h => h) (by rfl) ?_ (by assumption) ?_; rotate_left; (intro _w; go_simp; try with_reducible rfl); simp only [Act.put, List.setIfInBounds_toArray, List.set_cons_zero, List.set_cons_succ])
                    (refine wpD_plain 36 (v := ?_) rfl (by kernel_rfl) (by kernel_rfl) (by kernel_rfl) (fun _ _ _ h => h) (by rfl) ?_ (by assumption) ?_; rotate_left; (intro _w; go_simp; try with_reducible rfl); simp only [Act.put, List.setIfInBounds_toArray, List.set_cons_zero, List.set_cons_succ])
                    (refine wpD_plain 37 (v := (.bool true)) rfl (by kernel_rfl) (by kernel_rfl) (by kernel_rfl) (fun _ _ _ h => h) (by rfl) ?_ (by assumption) ?_; (intro _w; go_simp; (first | exact H7.out | (have := H7.out; omega) | (have := H7.out; simp [this]) | (have := H7.out; simp at this ⊢; omega))); simp only [Act.put, List.setIfInBounds_toArray, List.set_cons_zero, List.set_cons_succ])
                    (refine wpD_plain 38 (v := ?_) rfl (by kernel_rfl) (by kernel_rfl) (by kernel_rfl) (fun _ _ _ h => h) (by rfl) ?_ (by assumption) ?_; rotate_left; (intro _w; go_simp; try with_reducible rfl); simp only [Act.put, List.setIfInBounds_toArray, List.set_cons_zero, List.set_cons_succ])
                    (refine wpD_plain 39 (v := ?_) rfl (by kernel_rfl) (by kernel_rfl) (by kernel_rfl) (fun _ _ _ h => h) (by rfl) ?_ (by assumption) ?_; rotate_left; (intro _w; go_simp; try with_reducible rfl); simp only [Act.put, List.setIfInBounds_toArray, List.set_cons_zero, List.set_cons_succ])
                    clear hold
                    refine wpD_done (by kernel_rfl) ?_ _
                    try simp only [Act.put, List.setIfInBounds_toArray, List.set_cons_zero, List.set_cons_succ]
                    have HF5 : Hid (Fr No wr w4.drew) := hid (Fr.trans' (b := w4) HF4.out (Fr.refl No w4).drew)
                    have HB5 : Hid (Blk w4.drew k 126 (rsec true s.epoch s.life s.place s.kind s.size (.slice sa mz scp))) := hid (HBs.out.fr (Fr.refl No w4).drew id)
                    have HO5 := hid (own_fr HO2.out (Fr.trans' (b := w4) HF24.out (Fr.refl No w4).drew) (fun _ _ e => e))
                    clear e0 e1 eg e3 e2 e5 e4 z4
                    generalize w4.drew = w5 at HF5 HB5 HO5 ⊢
                    have e2 : w5.cell? ⟨k, 2, none⟩ = some (.int .u32 (s.life : Int)) := HB5.out.cell 2
                    have e5 : w5.cell? ⟨k, 5, none⟩ = some (.int .i64 (s.size : Int)) := HB5.out.cell 5
                    have e6 : w5.cell? ⟨k, 6, none⟩ = some (.slice sa mz scp) := HB5.out.cell 6
                    cases ib with
                    | true =>
                      by_cases hl : s.life = c.last
                      · have hli2 : (s.life : Int) = (c.last : Int) := by omega
                        have HLf := hid hl
                        clear hl
                        cases ke with
                        | true =>
                          have hgo : goesB g.epoch h0 p c s = true := by simp [goesB, H1.out, H2.out, H3.out, H4.out, H5.out, H6.out, HKB.out, H7.out, HIB.out, HLf.out, HKE.out] <;> first | exact H4.out | (rw [← HLf.out]; exact H4.out)
                          have hz48 : s.size ≤ 48 := H5.out
                          have hmz : mz = s.size := by have := HMZ.out; omega
                          have HMS := hid hmz
                          have HTk : Hid ((s.bytes.take s.size).length = mz) := hid (by rw [List.length_take, HSok.out.by48]; omega)
                          have HST2 : Hid (scan h0 (u.view g.first g.epoch) (g.count - (p + 1)) (p + 1) (c.step p (pc s)) = R) := hid (by have h := HST.out; rw [hgo] at h; exact h.symm)
                          have HLow := hid (own_low HPart.out)
                          have HLowR := hid (own_low HOwn.out)
                          have HR5 : Hid (w5.ownsRow w.heap.size 9 1 (.slice a c.recs.length cap) c.recs.length (strs c.recs)) := hid (own_fr HOwn.out HF5.out (fun _ _ e => e))
                          have HP5 : Hid (w5.ownsRow w.heap.size 5 1 (.slice pa c.part.length pcap) c.part.length (u8s c.part)) := hid (own_fr HPart.out HF5.out (fun _ _ e => e))
                          have HA5 := hid (HAt.out.no HF5.out)
                          have HPl := hid HOk.out.len
                          have RN : Hid (c.recs.length + 1 ≤ c.next ∧ c.next ≤ p ∧ p ≤ 4096) := hid ⟨HOk.out.recs, HOk.out.le, by omega⟩
                          have HZl := hid HAt.out.1.lt
                          have HBl := hid HAt.out.2.1.lt
                          have HDo := hid (fun k (hk : (Value.slice a c.recs.length cap).ownBlock = some k) => own_lt HR5.out k hk)
                          have HZ0 : Hid (∀ k, Z k → k < w.heap.size) := hid HA0.out.1.lt
                          have HB0 : Hid (bg < w.heap.size) := hid HA0.out.2.1.lt
                          have N1 : Hid (c.recs.length + 1 ≤ maxLen) := hid (by have := RN.out; unfold maxLen; omega)
                          have N2 : Hid ((c.recs.length + 1) * 16 ≤ 140737488355328) := hid (by have := RN.out; omega)
                          have A1 : Hid ((u8s (s.bytes.take s.size)).length = mz * 1) := hid (by rw [u8s_length, HTk.out, Nat.mul_one])
                          have A2 : Hid (mz = 0 ∨ ∃ ad, sa = some ad ∧ ∀ (j : Nat) (u : Value), (u8s (s.bytes.take s.size))[j]? = some u → w5.cell? (ad.add j) = some u) := hid (by
                            have hb := own_bytes HO5.out
                            rw [hmz] at hb
                            obtain ⟨a', len', cap', e', hl', _, h3⟩ := hb
                            simp only [Value.slice.injEq] at e'
                            obtain ⟨rfl, rfl, rfl⟩ := e'
                            rcases h3 with h3 | ⟨g', o', rfl, -, -, hr⟩
                            · exact .inl (by omega)
                            · exact .inr ⟨_, rfl, range_loads hr⟩)
                          have A3 : Hid (c.part.length + mz ≤ maxLen) := hid (by have := HPl.out; unfold maxLen; omega)
                          have A4 : Hid ((c.part.length + mz) * 1 ≤ 140737488355328) := hid (by have := HPl.out; omega)
                          have A5 : Hid (w.heap.size ≤ w5.heap.size) := hid (Nat.le_trans HFr.out.size HF5.out.size)
                          have HKlt : Hid (¬ (Value.slice pa c.part.length pcap).ownBlock = some k) := hid (fun hk => by have := own_lt HPart.out _ hk; have := HKw.out; omega)
                          have hpl2 : (p : Int) ≤ 4096 := by omega
                          clear hgo hmz hz48
                          have HStep : Hid (c.step p (pc s) = ⟨c.recs ++ [c.part ++ s.bytes.take s.size], [], s.life, false, p + 1⟩) := hid (by simp [Sc.step, pc, HKE.out])
                          go_wp2_with (first
                            | ((with_reducible show wpList _ _ _ ({ dst := _, op := .call { callee := .builtin .append, args := _, argTypes := _ }, type := _, pos := _, after := _, guard := _ } :: _) _ _); refine wpL_append rfl _ _ 66 rfl w.heap.size 5 i5 _ 1 1 rfl I5.out Z5.out S5.out B5.out rfl (by decide) _ c.part.length (u8s c.part) rfl HP5.out sa mz _ (u8s (s.bytes.take s.size)) rfl A1.out A2.out (u8s_one _) A3.out A4.out A5.out ?_; intro a6 cap6 w6 HO6 HG6 HA6;
                                have HF6 : Hid (Fr (fun k => (Value.slice pa c.part.length pcap).ownBlock = some k) w5 w6) := hid (frown HG6.out);
                                have HAt6 : Hid (AtR w6 bg bd Z { g with next := c.next } u) := hid (HA5.out.fr HF6.out (fun k hk e => by have := HZ0.out k hk; have := HLow.out k e; omega) (fun e => by have := HB0.out; have := HLow.out bg e; omega));
                                have HR6 : Hid (w6.ownsRow w.heap.size 9 1 (.slice a c.recs.length cap) c.recs.length (strs c.recs)) := hid (own_fr HR5.out HF6.out (fun k hk => HDis.out k hk)))
                            | ((with_reducible show wpList _ _ _ ({ dst := _, op := .convert _ 9 _, type := _, pos := _, after := _, guard := _ } :: _) _ _); refine wpL_stringOf rfl 66 9 5 _ rfl _ (fun k => w.heap.size ≤ k) (c.part ++ s.bytes.take s.size) rfl (by have := HO6.out; rw [← u8s_append] at this; exact own_bytes this) Try.underlying66 Try.underlying5 Try.underlying9 ?_)
                            | ((with_reducible show wpList _ _ _ ({ dst := _, op := .buildSlice 62 _ _, type := _, pos := _, after := _, guard := _ } :: _) _ _); refine wpL_buildOne rfl _ 9 _ rfl i9 _ rfl I9.out Z9.out (by rw [S9.out]; decide) (by rw [S9.out]; decide) _ [str (c.part ++ s.bytes.take s.size)] rfl rfl (by rw [S9.out]; rfl) ?_; intro w7 HB7 HF7 HS7;
                                have HR7 := hid (own_fr HR6.out HF7.out (fun _ _ e => e)))
                            | ((with_reducible show wpList _ _ _ ({ dst := _, op := .call { callee := .builtin .append, args := _, argTypes := _ }, type := _, pos := _, after := _, guard := _ } :: _) _ _); refine wpL_append rfl _ _ 62 rfl w.heap.size 9 i9 _ 1 16 rfl I9.out Z9.out S9.out B9.out rfl (by decide) _ c.recs.length (strs c.recs) rfl HR7.out (some ⟨w6.heap.size, 0, none⟩) 1 1 [str (c.part ++ s.bytes.take s.size)] rfl rfl (.inr ⟨_, rfl, range_loads (HB7.out.range 0 _ rfl)⟩) (by intro v hv; simp at hv; subst hv; rfl) N1.out N2.out (Nat.le_trans A5.out (Nat.le_trans HF6.out.size HF7.out.size)) ?_; intro a8 cap8 w8 HO8 HG8 HA8;
                                have HF8 : Hid (Fr (fun k => (Value.slice a c.recs.length cap).ownBlock = some k) w7 w8) := hid (frown HG8.out);
                                have HAt8 : Hid (AtR w8 bg bd Z { g with next := c.next } u) := hid ((HAt6.out.no HF7.out).fr HF8.out (fun k hk e => by have := HZ0.out k hk; have := HLowR.out k e; omega) (fun e => by have := HB0.out; have := HLowR.out bg e; omega));
                                have c8 : w8.cell? ⟨bg, 5, none⟩ = some (.int .i64 c.next) := HAt8.out.2.1.cell 5;
                                have f8 : w8.frozen? ⟨bg, 5, none⟩ = false := HAt8.out.2.1.frozen 5))
                          rw [show ((p : Int) + 1) = ((p + 1 : Nat) : Int) from rfl]
                          have hlen7 : (c.recs ++ [c.part ++ s.bytes.take s.size]).length = c.recs.length + 1 := by simp
                          have hstr7 : strs (c.recs ++ [c.part ++ s.bytes.take s.size]) = strs c.recs ++ [str (c.part ++ s.bytes.take s.size)] := by simp [strs]
                          have hrn7 := RN.out
                          refine ⟨⟨⟨c.recs ++ [c.part ++ s.bytes.take s.size], [], s.life, false, p + 1⟩, a8, cap8, none, 0, p + 1, by rw [hlen7], rfl, by first | rfl | simp only [HLf.out], rfl, rfl, by omega, by omega, hid ⟨by simp, fun _ => rfl, by simp, by simp only [hlen7]; omega, by simp only; omega, Nat.le_refl _, HSok.out.li⟩, hid ?_, hid ?_, hid (World.ownsRow_nil _ _ _ _), hid (fun k _ e => by cases e), hid ?_, hid ?_⟩, by simp [intOf]; omega⟩
                          · have e1 := HST2.out
                            rw [HStep.out] at e1
                            exact e1
                          · simp only [hlen7, hstr7]
                            exact own_fr HO8.out ((Fr.refl (fun k => k = bg) w8).setCell _ _ (.inl rfl)) (fun k hk e => by have := own_low HO8.out k hk; have := HB0.out; omega)
                          · exact HAt8.out.setNext (p + 1) (by omega) (by simp only; omega)
                          · exact ((((HFr.out.trans' HF5.out.no).trans HF6.out (fun k hk => .inr (HLow.out k hk))).trans' HF7.out.no).trans HF8.out (fun k hk => .inr (HLowR.out k hk))).setCell _ _ (.inl rfl)
                        | false =>
                          by_cases hz : s.size = 48
                          · have hzi : (s.size : Int) = 48 := by omega
                            have hgo : goesB g.epoch h0 p c s = true := by simp [goesB, H1.out, H2.out, H3.out, H4.out, H5.out, H6.out, HKB.out, H7.out, HIB.out, HLf.out, HKE.out, hz] <;> first | exact H4.out | (rw [← HLf.out]; exact H4.out)
                            clear hz
                            have hz48 : s.size ≤ 48 := H5.out
                            have hmz : mz = s.size := by have := HMZ.out; omega
                            have HMS := hid hmz
                            have HTk : Hid ((s.bytes.take s.size).length = mz) := hid (by rw [List.length_take, HSok.out.by48]; omega)
                            have HST2 : Hid (scan h0 (u.view g.first g.epoch) (g.count - (p + 1)) (p + 1) (c.step p (pc s)) = R) := hid (by have h := HST.out; rw [hgo] at h; exact h.symm)
                            have HLow := hid (own_low HPart.out)
                            have HLowR := hid (own_low HOwn.out)
                            have HR5 : Hid (w5.ownsRow w.heap.size 9 1 (.slice a c.recs.length cap) c.recs.length (strs c.recs)) := hid (own_fr HOwn.out HF5.out (fun _ _ e => e))
                            have HP5 : Hid (w5.ownsRow w.heap.size 5 1 (.slice pa c.part.length pcap) c.part.length (u8s c.part)) := hid (own_fr HPart.out HF5.out (fun _ _ e => e))
                            have HA5 := hid (HAt.out.no HF5.out)
                            have HPl := hid HOk.out.len
                            have RN : Hid (c.recs.length + 1 ≤ c.next ∧ c.next ≤ p ∧ p ≤ 4096) := hid ⟨HOk.out.recs, HOk.out.le, by omega⟩
                            have HZl := hid HAt.out.1.lt
                            have HBl := hid HAt.out.2.1.lt
                            have HDo := hid (fun k (hk : (Value.slice a c.recs.length cap).ownBlock = some k) => own_lt HR5.out k hk)
                            have HZ0 : Hid (∀ k, Z k → k < w.heap.size) := hid HA0.out.1.lt
                            have HB0 : Hid (bg < w.heap.size) := hid HA0.out.2.1.lt
                            have N1 : Hid (c.recs.length + 1 ≤ maxLen) := hid (by have := RN.out; unfold maxLen; omega)
                            have N2 : Hid ((c.recs.length + 1) * 16 ≤ 140737488355328) := hid (by have := RN.out; omega)
                            have A1 : Hid ((u8s (s.bytes.take s.size)).length = mz * 1) := hid (by rw [u8s_length, HTk.out, Nat.mul_one])
                            have A2 : Hid (mz = 0 ∨ ∃ ad, sa = some ad ∧ ∀ (j : Nat) (u : Value), (u8s (s.bytes.take s.size))[j]? = some u → w5.cell? (ad.add j) = some u) := hid (by
                              have hb := own_bytes HO5.out
                              rw [hmz] at hb
                              obtain ⟨a', len', cap', e', hl', _, h3⟩ := hb
                              simp only [Value.slice.injEq] at e'
                              obtain ⟨rfl, rfl, rfl⟩ := e'
                              rcases h3 with h3 | ⟨g', o', rfl, -, -, hr⟩
                              · exact .inl (by omega)
                              · exact .inr ⟨_, rfl, range_loads hr⟩)
                            have A3 : Hid (c.part.length + mz ≤ maxLen) := hid (by have := HPl.out; unfold maxLen; omega)
                            have A4 : Hid ((c.part.length + mz) * 1 ≤ 140737488355328) := hid (by have := HPl.out; omega)
                            have A5 : Hid (w.heap.size ≤ w5.heap.size) := hid (Nat.le_trans HFr.out.size HF5.out.size)
                            have HKlt : Hid (¬ (Value.slice pa c.part.length pcap).ownBlock = some k) := hid (fun hk => by have := own_lt HPart.out _ hk; have := HKw.out; omega)
                            have hpl2 : (p : Int) ≤ 4096 := by omega
                            clear hgo hmz hz48
                            have HStep : Hid (c.step p (pc s) = { c with part := c.part ++ s.bytes.take s.size, last := s.life, ins := true }) := hid (by simp [Sc.step, pc, HKE.out])
                            go_wp2_with (first
                              | ((with_reducible show wpList _ _ _ ({ dst := _, op := .call { callee := .builtin .append, args := _, argTypes := _ }, type := _, pos := _, after := _, guard := _ } :: _) _ _); refine wpL_append rfl _ _ 66 rfl w.heap.size 5 i5 _ 1 1 rfl I5.out Z5.out S5.out B5.out rfl (by decide) _ c.part.length (u8s c.part) rfl HP5.out sa mz _ (u8s (s.bytes.take s.size)) rfl A1.out A2.out (u8s_one _) A3.out A4.out A5.out ?_; intro a6 cap6 w6 HO6 HG6 HA6;
                                  have HF6 : Hid (Fr (fun k => (Value.slice pa c.part.length pcap).ownBlock = some k) w5 w6) := hid (frown HG6.out);
                                  have HAt6 : Hid (AtR w6 bg bd Z { g with next := c.next } u) := hid (HA5.out.fr HF6.out (fun k hk e => by have := HZ0.out k hk; have := HLow.out k e; omega) (fun e => by have := HB0.out; have := HLow.out bg e; omega));
                                  have HR6 : Hid (w6.ownsRow w.heap.size 9 1 (.slice a c.recs.length cap) c.recs.length (strs c.recs)) := hid (own_fr HR5.out HF6.out (fun k hk => HDis.out k hk))))
                            have hrn7 := RN.out
                            have hplen := HPl.out
                            have htk := HTk.out
                            have hms := HMS.out
                            refine ⟨⟨{ c with part := c.part ++ s.bytes.take s.size, last := s.life, ins := true }, a, cap, a6, cap6, p + 1, rfl, by simp only [List.length_append, htk], by first | rfl | simp only [HLf.out], rfl, by go_num, by omega, by omega, hid ⟨by simp only [Bool.true_eq_false, false_iff]; omega, fun e => by simp at e, by simp only [List.length_append, htk]; omega, HOk.out.recs, HOk.out.next, by simp only; omega, HSok.out.li⟩, hid ?_, hid ?_, hid ?_, hid ?_, HAt6, hid ?_⟩, by simp [intOf]; omega⟩
                            · have e1 := HST2.out
                              rw [HStep.out] at e1
                              exact e1
                            · exact HR6.out
                            · have e1 := HO6.out
                              rw [← u8s_append] at e1
                              simp only [List.length_append, htk]
                              exact e1
                            · intro k hk e
                              have e0 : (Value.slice a6 (c.part.length + mz) cap6).ownBlock = some k := by
                                simp only [List.length_append, htk] at e
                                exact e
                              rcases HA6.out with e1 | e1
                              · rw [e1] at e0
                                exact HDis.out k hk e0
                              · rw [e1] at e0
                                cases e0
                                exact Nat.lt_irrefl _ (HDo.out _ hk)
                            · exact (HFr.out.trans' HF5.out.no).trans HF6.out (fun k hk => .inr (HLow.out k hk))
                          · have hzi : ¬ ((s.size : Int) = 48) := by omega
                            have hgo : goesB g.epoch h0 p c s = false := by simp [goesB, HKE.out, hz]
                            clear hz
                            have he : R = (c.recs, c.next) := by have h := HST.out; rw [hgo] at h; exact h
                            have HE := hid he
                            clear he hgo
                            go_wp2_with fail
                            go_ret2
                            exact ⟨_, rfl, HFIN.out _ HF5.out HE.out⟩
                      · have hli2 : ¬ ((s.life : Int) = (c.last : Int)) := by omega
                        have hgo : goesB g.epoch h0 p c s = false := by simp [goesB, HIB.out, hl]
                        have he : R = (c.recs, c.next) := by have h := HST.out; rw [hgo] at h; exact h
                        have HE := hid he
                        clear he hgo
                        go_wp2_with fail
                        go_ret2
                        exact ⟨_, rfl, HFIN.out _ HF5.out HE.out⟩
                    | false =>
                      by_cases hl : c.last ≤ s.life
                      · have hli2 : (c.last : Int) ≤ (s.life : Int) := by omega
                        have HLf := hid hl
                        clear hl
                        cases ke with
                        | true =>
                          have hgo : goesB g.epoch h0 p c s = true := by simp [goesB, H1.out, H2.out, H3.out, H4.out, H5.out, H6.out, HKB.out, H7.out, HIB.out, HLf.out, HKE.out] <;> first | exact H4.out | (rw [← HLf.out]; exact H4.out)
                          have hz48 : s.size ≤ 48 := H5.out
                          have hmz : mz = s.size := by have := HMZ.out; omega
                          have HMS := hid hmz
                          have HTk : Hid ((s.bytes.take s.size).length = mz) := hid (by rw [List.length_take, HSok.out.by48]; omega)
                          have HST2 : Hid (scan h0 (u.view g.first g.epoch) (g.count - (p + 1)) (p + 1) (c.step p (pc s)) = R) := hid (by have h := HST.out; rw [hgo] at h; exact h.symm)
                          have HLow := hid (own_low HPart.out)
                          have HLowR := hid (own_low HOwn.out)
                          have HR5 : Hid (w5.ownsRow w.heap.size 9 1 (.slice a c.recs.length cap) c.recs.length (strs c.recs)) := hid (own_fr HOwn.out HF5.out (fun _ _ e => e))
                          have HP5 : Hid (w5.ownsRow w.heap.size 5 1 (.slice pa c.part.length pcap) c.part.length (u8s c.part)) := hid (own_fr HPart.out HF5.out (fun _ _ e => e))
                          have HA5 := hid (HAt.out.no HF5.out)
                          have HPl := hid HOk.out.len
                          have RN : Hid (c.recs.length + 1 ≤ c.next ∧ c.next ≤ p ∧ p ≤ 4096) := hid ⟨HOk.out.recs, HOk.out.le, by omega⟩
                          have HZl := hid HAt.out.1.lt
                          have HBl := hid HAt.out.2.1.lt
                          have HDo := hid (fun k (hk : (Value.slice a c.recs.length cap).ownBlock = some k) => own_lt HR5.out k hk)
                          have HZ0 : Hid (∀ k, Z k → k < w.heap.size) := hid HA0.out.1.lt
                          have HB0 : Hid (bg < w.heap.size) := hid HA0.out.2.1.lt
                          have N1 : Hid (c.recs.length + 1 ≤ maxLen) := hid (by have := RN.out; unfold maxLen; omega)
                          have N2 : Hid ((c.recs.length + 1) * 16 ≤ 140737488355328) := hid (by have := RN.out; omega)
                          have A1 : Hid ((u8s (s.bytes.take s.size)).length = mz * 1) := hid (by rw [u8s_length, HTk.out, Nat.mul_one])
                          have A2 : Hid (mz = 0 ∨ ∃ ad, sa = some ad ∧ ∀ (j : Nat) (u : Value), (u8s (s.bytes.take s.size))[j]? = some u → w5.cell? (ad.add j) = some u) := hid (by
                            have hb := own_bytes HO5.out
                            rw [hmz] at hb
                            obtain ⟨a', len', cap', e', hl', _, h3⟩ := hb
                            simp only [Value.slice.injEq] at e'
                            obtain ⟨rfl, rfl, rfl⟩ := e'
                            rcases h3 with h3 | ⟨g', o', rfl, -, -, hr⟩
                            · exact .inl (by omega)
                            · exact .inr ⟨_, rfl, range_loads hr⟩)
                          have A3 : Hid (c.part.length + mz ≤ maxLen) := hid (by have := HPl.out; unfold maxLen; omega)
                          have A4 : Hid ((c.part.length + mz) * 1 ≤ 140737488355328) := hid (by have := HPl.out; omega)
                          have A5 : Hid (w.heap.size ≤ w5.heap.size) := hid (Nat.le_trans HFr.out.size HF5.out.size)
                          have HKlt : Hid (¬ (Value.slice pa c.part.length pcap).ownBlock = some k) := hid (fun hk => by have := own_lt HPart.out _ hk; have := HKw.out; omega)
                          have hpl2 : (p : Int) ≤ 4096 := by omega
                          clear hgo hmz hz48
                          have HStep : Hid (c.step p (pc s) = ⟨c.recs ++ [c.part ++ s.bytes.take s.size], [], s.life, false, p + 1⟩) := hid (by simp [Sc.step, pc, HKE.out])
                          go_wp2_with (first
                            | ((with_reducible show wpList _ _ _ ({ dst := _, op := .call { callee := .builtin .append, args := _, argTypes := _ }, type := _, pos := _, after := _, guard := _ } :: _) _ _); refine wpL_append rfl _ _ 66 rfl w.heap.size 5 i5 _ 1 1 rfl I5.out Z5.out S5.out B5.out rfl (by decide) _ c.part.length (u8s c.part) rfl HP5.out sa mz _ (u8s (s.bytes.take s.size)) rfl A1.out A2.out (u8s_one _) A3.out A4.out A5.out ?_; intro a6 cap6 w6 HO6 HG6 HA6;
                                have HF6 : Hid (Fr (fun k => (Value.slice pa c.part.length pcap).ownBlock = some k) w5 w6) := hid (frown HG6.out);
                                have HAt6 : Hid (AtR w6 bg bd Z { g with next := c.next } u) := hid (HA5.out.fr HF6.out (fun k hk e => by have := HZ0.out k hk; have := HLow.out k e; omega) (fun e => by have := HB0.out; have := HLow.out bg e; omega));
                                have HR6 : Hid (w6.ownsRow w.heap.size 9 1 (.slice a c.recs.length cap) c.recs.length (strs c.recs)) := hid (own_fr HR5.out HF6.out (fun k hk => HDis.out k hk)))
                            | ((with_reducible show wpList _ _ _ ({ dst := _, op := .convert _ 9 _, type := _, pos := _, after := _, guard := _ } :: _) _ _); refine wpL_stringOf rfl 66 9 5 _ rfl _ (fun k => w.heap.size ≤ k) (c.part ++ s.bytes.take s.size) rfl (by have := HO6.out; rw [← u8s_append] at this; exact own_bytes this) Try.underlying66 Try.underlying5 Try.underlying9 ?_)
                            | ((with_reducible show wpList _ _ _ ({ dst := _, op := .buildSlice 62 _ _, type := _, pos := _, after := _, guard := _ } :: _) _ _); refine wpL_buildOne rfl _ 9 _ rfl i9 _ rfl I9.out Z9.out (by rw [S9.out]; decide) (by rw [S9.out]; decide) _ [str (c.part ++ s.bytes.take s.size)] rfl rfl (by rw [S9.out]; rfl) ?_; intro w7 HB7 HF7 HS7;
                                have HR7 := hid (own_fr HR6.out HF7.out (fun _ _ e => e)))
                            | ((with_reducible show wpList _ _ _ ({ dst := _, op := .call { callee := .builtin .append, args := _, argTypes := _ }, type := _, pos := _, after := _, guard := _ } :: _) _ _); refine wpL_append rfl _ _ 62 rfl w.heap.size 9 i9 _ 1 16 rfl I9.out Z9.out S9.out B9.out rfl (by decide) _ c.recs.length (strs c.recs) rfl HR7.out (some ⟨w6.heap.size, 0, none⟩) 1 1 [str (c.part ++ s.bytes.take s.size)] rfl rfl (.inr ⟨_, rfl, range_loads (HB7.out.range 0 _ rfl)⟩) (by intro v hv; simp at hv; subst hv; rfl) N1.out N2.out (Nat.le_trans A5.out (Nat.le_trans HF6.out.size HF7.out.size)) ?_; intro a8 cap8 w8 HO8 HG8 HA8;
                                have HF8 : Hid (Fr (fun k => (Value.slice a c.recs.length cap).ownBlock = some k) w7 w8) := hid (frown HG8.out);
                                have HAt8 : Hid (AtR w8 bg bd Z { g with next := c.next } u) := hid ((HAt6.out.no HF7.out).fr HF8.out (fun k hk e => by have := HZ0.out k hk; have := HLowR.out k e; omega) (fun e => by have := HB0.out; have := HLowR.out bg e; omega));
                                have c8 : w8.cell? ⟨bg, 5, none⟩ = some (.int .i64 c.next) := HAt8.out.2.1.cell 5;
                                have f8 : w8.frozen? ⟨bg, 5, none⟩ = false := HAt8.out.2.1.frozen 5))
                          rw [show ((p : Int) + 1) = ((p + 1 : Nat) : Int) from rfl]
                          have hlen7 : (c.recs ++ [c.part ++ s.bytes.take s.size]).length = c.recs.length + 1 := by simp
                          have hstr7 : strs (c.recs ++ [c.part ++ s.bytes.take s.size]) = strs c.recs ++ [str (c.part ++ s.bytes.take s.size)] := by simp [strs]
                          have hrn7 := RN.out
                          refine ⟨⟨⟨c.recs ++ [c.part ++ s.bytes.take s.size], [], s.life, false, p + 1⟩, a8, cap8, none, 0, p + 1, by rw [hlen7], rfl, by first | rfl | simp only [HLf.out], rfl, rfl, by omega, by omega, hid ⟨by simp, fun _ => rfl, by simp, by simp only [hlen7]; omega, by simp only; omega, Nat.le_refl _, HSok.out.li⟩, hid ?_, hid ?_, hid (World.ownsRow_nil _ _ _ _), hid (fun k _ e => by cases e), hid ?_, hid ?_⟩, by simp [intOf]; omega⟩
                          · have e1 := HST2.out
                            rw [HStep.out] at e1
                            exact e1
                          · simp only [hlen7, hstr7]
                            exact own_fr HO8.out ((Fr.refl (fun k => k = bg) w8).setCell _ _ (.inl rfl)) (fun k hk e => by have := own_low HO8.out k hk; have := HB0.out; omega)
                          · exact HAt8.out.setNext (p + 1) (by omega) (by simp only; omega)
                          · exact ((((HFr.out.trans' HF5.out.no).trans HF6.out (fun k hk => .inr (HLow.out k hk))).trans' HF7.out.no).trans HF8.out (fun k hk => .inr (HLowR.out k hk))).setCell _ _ (.inl rfl)
                        | false =>
                          by_cases hz : s.size = 48
                          · have hzi : (s.size : Int) = 48 := by omega
                            have hgo : goesB g.epoch h0 p c s = true := by simp [goesB, H1.out, H2.out, H3.out, H4.out, H5.out, H6.out, HKB.out, H7.out, HIB.out, HLf.out, HKE.out, hz] <;> first | exact H4.out | (rw [← HLf.out]; exact H4.out)
                            clear hz
                            have hz48 : s.size ≤ 48 := H5.out
                            have hmz : mz = s.size := by have := HMZ.out; omega
                            have HMS := hid hmz
                            have HTk : Hid ((s.bytes.take s.size).length = mz) := hid (by rw [List.length_take, HSok.out.by48]; omega)
                            have HST2 : Hid (scan h0 (u.view g.first g.epoch) (g.count - (p + 1)) (p + 1) (c.step p (pc s)) = R) := hid (by have h := HST.out; rw [hgo] at h; exact h.symm)
                            have HLow := hid (own_low HPart.out)
                            have HLowR := hid (own_low HOwn.out)
                            have HR5 : Hid (w5.ownsRow w.heap.size 9 1 (.slice a c.recs.length cap) c.recs.length (strs c.recs)) := hid (own_fr HOwn.out HF5.out (fun _ _ e => e))
                            have HP5 : Hid (w5.ownsRow w.heap.size 5 1 (.slice pa c.part.length pcap) c.part.length (u8s c.part)) := hid (own_fr HPart.out HF5.out (fun _ _ e => e))
                            have HA5 := hid (HAt.out.no HF5.out)
                            have HPl := hid HOk.out.len
                            have RN : Hid (c.recs.length + 1 ≤ c.next ∧ c.next ≤ p ∧ p ≤ 4096) := hid ⟨HOk.out.recs, HOk.out.le, by omega⟩
                            have HZl := hid HAt.out.1.lt
                            have HBl := hid HAt.out.2.1.lt
                            have HDo := hid (fun k (hk : (Value.slice a c.recs.length cap).ownBlock = some k) => own_lt HR5.out k hk)
                            have HZ0 : Hid (∀ k, Z k → k < w.heap.size) := hid HA0.out.1.lt
                            have HB0 : Hid (bg < w.heap.size) := hid HA0.out.2.1.lt
                            have N1 : Hid (c.recs.length + 1 ≤ maxLen) := hid (by have := RN.out; unfold maxLen; omega)
                            have N2 : Hid ((c.recs.length + 1) * 16 ≤ 140737488355328) := hid (by have := RN.out; omega)
                            have A1 : Hid ((u8s (s.bytes.take s.size)).length = mz * 1) := hid (by rw [u8s_length, HTk.out, Nat.mul_one])
                            have A2 : Hid (mz = 0 ∨ ∃ ad, sa = some ad ∧ ∀ (j : Nat) (u : Value), (u8s (s.bytes.take s.size))[j]? = some u → w5.cell? (ad.add j) = some u) := hid (by
                              have hb := own_bytes HO5.out
                              rw [hmz] at hb
                              obtain ⟨a', len', cap', e', hl', _, h3⟩ := hb
                              simp only [Value.slice.injEq] at e'
                              obtain ⟨rfl, rfl, rfl⟩ := e'
                              rcases h3 with h3 | ⟨g', o', rfl, -, -, hr⟩
                              · exact .inl (by omega)
                              · exact .inr ⟨_, rfl, range_loads hr⟩)
                            have A3 : Hid (c.part.length + mz ≤ maxLen) := hid (by have := HPl.out; unfold maxLen; omega)
                            have A4 : Hid ((c.part.length + mz) * 1 ≤ 140737488355328) := hid (by have := HPl.out; omega)
                            have A5 : Hid (w.heap.size ≤ w5.heap.size) := hid (Nat.le_trans HFr.out.size HF5.out.size)
                            have HKlt : Hid (¬ (Value.slice pa c.part.length pcap).ownBlock = some k) := hid (fun hk => by have := own_lt HPart.out _ hk; have := HKw.out; omega)
                            have hpl2 : (p : Int) ≤ 4096 := by omega
                            clear hgo hmz hz48
                            have HStep : Hid (c.step p (pc s) = { c with part := c.part ++ s.bytes.take s.size, last := s.life, ins := true }) := hid (by simp [Sc.step, pc, HKE.out])
                            go_wp2_with (first
                              | ((with_reducible show wpList _ _ _ ({ dst := _, op := .call { callee := .builtin .append, args := _, argTypes := _ }, type := _, pos := _, after := _, guard := _ } :: _) _ _); refine wpL_append rfl _ _ 66 rfl w.heap.size 5 i5 _ 1 1 rfl I5.out Z5.out S5.out B5.out rfl (by decide) _ c.part.length (u8s c.part) rfl HP5.out sa mz _ (u8s (s.bytes.take s.size)) rfl A1.out A2.out (u8s_one _) A3.out A4.out A5.out ?_; intro a6 cap6 w6 HO6 HG6 HA6;
                                  have HF6 : Hid (Fr (fun k => (Value.slice pa c.part.length pcap).ownBlock = some k) w5 w6) := hid (frown HG6.out);
                                  have HAt6 : Hid (AtR w6 bg bd Z { g with next := c.next } u) := hid (HA5.out.fr HF6.out (fun k hk e => by have := HZ0.out k hk; have := HLow.out k e; omega) (fun e => by have := HB0.out; have := HLow.out bg e; omega));
                                  have HR6 : Hid (w6.ownsRow w.heap.size 9 1 (.slice a c.recs.length cap) c.recs.length (strs c.recs)) := hid (own_fr HR5.out HF6.out (fun k hk => HDis.out k hk))))
                            have hrn7 := RN.out
                            have hplen := HPl.out
                            have htk := HTk.out
                            have hms := HMS.out
                            refine ⟨⟨{ c with part := c.part ++ s.bytes.take s.size, last := s.life, ins := true }, a, cap, a6, cap6, p + 1, rfl, by simp only [List.length_append, htk], by first | rfl | simp only [HLf.out], rfl, by go_num, by omega, by omega, hid ⟨by simp only [Bool.true_eq_false, false_iff]; omega, fun e => by simp at e, by simp only [List.length_append, htk]; omega, HOk.out.recs, HOk.out.next, by simp only; omega, HSok.out.li⟩, hid ?_, hid ?_, hid ?_, hid ?_, HAt6, hid ?_⟩, by simp [intOf]; omega⟩
                            · have e1 := HST2.out
                              rw [HStep.out] at e1
                              exact e1
                            · exact HR6.out
                            · have e1 := HO6.out
                              rw [← u8s_append] at e1
                              simp only [List.length_append, htk]
                              exact e1
                            · intro k hk e
                              have e0 : (Value.slice a6 (c.part.length + mz) cap6).ownBlock = some k := by
                                simp only [List.length_append, htk] at e
                                exact e
                              rcases HA6.out with e1 | e1
                              · rw [e1] at e0
                                exact HDis.out k hk e0
                              · rw [e1] at e0
                                cases e0
                                exact Nat.lt_irrefl _ (HDo.out _ hk)
                            · exact (HFr.out.trans' HF5.out.no).trans HF6.out (fun k hk => .inr (HLow.out k hk))
                          · have hzi : ¬ ((s.size : Int) = 48) := by omega
                            have hgo : goesB g.epoch h0 p c s = false := by simp [goesB, HKE.out, hz]
                            clear hz
                            have he : R = (c.recs, c.next) := by have h := HST.out; rw [hgo] at h; exact h
                            have HE := hid he
                            clear he hgo
                            go_wp2_with fail
                            go_ret2
                            exact ⟨_, rfl, HFIN.out _ HF5.out HE.out⟩
                      · have hli2 : ¬ ((c.last : Int) ≤ (s.life : Int)) := by omega
                        have hgo : goesB g.epoch h0 p c s = false := by simp [goesB, HIB.out, hl]
                        have he : R = (c.recs, c.next) := by have h := HST.out; rw [hgo] at h; exact h
                        have HE := hid he
                        clear he hgo
                        go_wp2_with fail
                        go_ret2
                        exact ⟨_, rfl, HFIN.out _ HF5.out HE.out⟩
                  · have H7 := hid h7
                    have hgo : goesB g.epoch h0 p c s = false := by simp [goesB, HKB.out, HIB.out, h7]
                    clear h7
                    have hold : Facts.hold [(1, fun w' => w'.cell? ⟨k, 0, none⟩ = some (.bool true)), (4, fun w' => w'.cell? ⟨k, 1, none⟩ = some (.int .u32 (s.epoch : Int))), (8, fun w' => w'.cell? ⟨bg, 3, none⟩ = some (.int .u32 (g.epoch : Int))), (13, fun w' => w'.cell? ⟨k, 3, none⟩ = some (.int .i64 (s.place : Int))), (19, fun w' => w'.cell? ⟨k, 2, none⟩ = some (.int .u32 (s.life : Int))), (25, fun w' => w'.cell? ⟨k, 5, none⟩ = some (.int .i64 (s.size : Int))), (30, fun w' => w'.cell? ⟨k, 4, none⟩ = some (.int .i64 (s.kind : Int)))] w4.drew := Facts.cons_hold e0 (Facts.cons_hold e1 (Facts.cons_hold eg (Facts.cons_hold e3 (Facts.cons_hold e2 (Facts.cons_hold e5 (Facts.cons_hold e4 (Facts.nil_hold _)))))))
                    refine wpD_region hold (by kernel_rfl) 40 rfl ?_
                    (refine wpD_plain 0 (v := ?_) rfl (by kernel_rfl) (by kernel_rfl) (by kernel_rfl) (fun _ _ _ h => h) (by rfl) ?_ (by assumption) ?_; rotate_left; (intro _w; go_simp; try with_reducible rfl); simp only [Act.put, List.setIfInBounds_toArray, List.set_cons_zero, List.set_cons_succ])
                    (refine wpD_take 1 _ rfl (by kernel_rfl) (by kernel_rfl) (by kernel_rfl) (fun _ _ _ h => h) List.mem_cons_self (by rfl) (v := ?_) ?_ (by assumption) ?_; rotate_left; (intro _w _hw; go_simp; try with_reducible rfl); simp only [Act.put, List.setIfInBounds_toArray, List.set_cons_zero, List.set_cons_succ])
                    (refine wpD_plain 2 (v := ?_) rfl (by kernel_rfl) (by kernel_rfl) (by kernel_rfl) (fun _ _ _ h => h) (by rfl) ?_ (by assumption) ?_; rotate_left; (intro _w; go_simp; try with_reducible rfl); simp only [Act.put, List.setIfInBounds_toArray, List.set_cons_zero, List.set_cons_succ])
                    (refine wpD_plain 3 (v := ?_) rfl (by kernel_rfl) (by kernel_rfl) (by kernel_rfl) (fun _ _ _ h => h) (by rfl) ?_ (by assumption) ?_; rotate_left; (intro _w; go_simp; try with_reducible rfl); simp only [Act.put, List.setIfInBounds_toArray, List.set_cons_zero, List.set_cons_succ])
                    (refine wpD_take 4 _ rfl (by kernel_rfl) (by kernel_rfl) (by kernel_rfl) (fun _ _ _ h => h) (List.mem_cons_of_mem _ List.mem_cons_self) (by rfl) (v := ?_) ?_ (by assumption) ?_; rotate_left; (intro _w _hw; go_simp; try with_reducible rfl); simp only [Act.put, List.setIfInBounds_toArray, List.set_cons_zero, List.set_cons_succ])
                    (refine wpD_plain 5 (v := ?_) rfl (by kernel_rfl) (by kernel_rfl) (by kernel_rfl) (fun _ _ _ h => h) (by rfl) ?_ (by assumption) ?_; rotate_left; (intro _w; go_simp; try with_reducible rfl); simp only [Act.put, List.setIfInBounds_toArray, List.set_cons_zero, List.set_cons_succ])
                    (refine wpD_plain 6 (v := ?_) rfl (by kernel_rfl) (by kernel_rfl) (by kernel_rfl) (fun _ _ _ h => h) (by rfl) ?_ (by assumption) ?_; rotate_left; (intro _w; go_simp; try with_reducible rfl); simp only [Act.put, List.setIfInBounds_toArray, List.set_cons_zero, List.set_cons_succ])
                    (refine wpD_plain 7 (v := ?_) rfl (by kernel_rfl) (by kernel_rfl) (by kernel_rfl) (fun _ _ _ h => h) (by rfl) ?_ (by assumption) ?_; rotate_left; (intro _w; go_simp; try with_reducible rfl); simp only [Act.put, List.setIfInBounds_toArray, List.set_cons_zero, List.set_cons_succ])
                    (refine wpD_take 8 _ rfl (by kernel_rfl) (by kernel_rfl) (by kernel_rfl) (fun _ _ _ h => h) (List.mem_cons_of_mem _ (List.mem_cons_of_mem _ List.mem_cons_self)) (by rfl) (v := ?_) ?_ (by assumption) ?_; rotate_left; (intro _w _hw; go_simp; try with_reducible rfl); simp only [Act.put, List.setIfInBounds_toArray, List.set_cons_zero, List.set_cons_succ])
                    (refine wpD_plain 9 (v := (.bool true)) rfl (by kernel_rfl) (by kernel_rfl) (by kernel_rfl) (fun _ _ _ h => h) (by rfl) ?_ (by assumption) ?_; (intro _w; go_simp; (first | exact H2.out | (have := H2.out; omega) | (have := H2.out; simp [this]) | (have := H2.out; simp at this ⊢; omega))); simp only [Act.put, List.setIfInBounds_toArray, List.set_cons_zero, List.set_cons_succ])
                    (refine wpD_plain 10 (v := ?_) rfl (by kernel_rfl) (by kernel_rfl) (by kernel_rfl) (fun _ _ _ h => h) (by rfl) ?_ (by assumption) ?_; rotate_left; (intro _w; go_simp; try with_reducible rfl); simp only [Act.put, List.setIfInBounds_toArray, List.set_cons_zero, List.set_cons_succ])
                    (refine wpD_plain 11 (v := ?_) rfl (by kernel_rfl) (by kernel_rfl) (by kernel_rfl) (fun _ _ _ h => h) (by rfl) ?_ (by assumption) ?_; rotate_left; (intro _w; go_simp; try with_reducible rfl); simp only [Act.put, List.setIfInBounds_toArray, List.set_cons_zero, List.set_cons_succ])
                    (refine wpD_plain 12 (v := ?_) rfl (by kernel_rfl) (by kernel_rfl) (by kernel_rfl) (fun _ _ _ h => h) (by rfl) ?_ (by assumption) ?_; rotate_left; (intro _w; go_simp; try with_reducible rfl); simp only [Act.put, List.setIfInBounds_toArray, List.set_cons_zero, List.set_cons_succ])
                    (refine wpD_take 13 _ rfl (by kernel_rfl) (by kernel_rfl) (by kernel_rfl) (fun _ _ _ h => h) (List.mem_cons_of_mem _ (List.mem_cons_of_mem _ (List.mem_cons_of_mem _ List.mem_cons_self))) (by rfl) (v := ?_) ?_ (by assumption) ?_; rotate_left; (intro _w _hw; go_simp; try with_reducible rfl); simp only [Act.put, List.setIfInBounds_toArray, List.set_cons_zero, List.set_cons_succ])
                    (refine wpD_plain 14 (v := ?_) rfl (by kernel_rfl) (by kernel_rfl) (by kernel_rfl) (fun _ _ _ h => h) (by rfl) ?_ (by assumption) ?_; rotate_left; (intro _w; go_simp; try with_reducible rfl); simp only [Act.put, List.setIfInBounds_toArray, List.set_cons_zero, List.set_cons_succ])
                    (refine wpD_plain 15 (v := (.bool true)) rfl (by kernel_rfl) (by kernel_rfl) (by kernel_rfl) (fun _ _ _ h => h) (by rfl) ?_ (by assumption) ?_; (intro _w; go_simp; (first | exact H3.out | (have := H3.out; omega) | (have := H3.out; simp [this]) | (have := H3.out; simp at this ⊢; omega))); simp only [Act.put, List.setIfInBounds_toArray, List.set_cons_zero, List.set_cons_succ])
                    (refine wpD_plain 16 (v := ?_) rfl (by kernel_rfl) (by kernel_rfl) (by kernel_rfl) (fun _ _ _ h => h) (by rfl) ?_ (by assumption) ?_; rotate_left; (intro _w; go_simp; try with_reducible rfl); simp only [Act.put, List.setIfInBounds_toArray, List.set_cons_zero, List.set_cons_succ])
                    (refine wpD_plain 17 (v := ?_) rfl (by kernel_rfl) (by kernel_rfl) (by kernel_rfl) (fun _ _ _ h => h) (by rfl) ?_ (by assumption) ?_; rotate_left; (intro _w; go_simp; try with_reducible rfl); simp only [Act.put, List.setIfInBounds_toArray, List.set_cons_zero, List.set_cons_succ])
                    (refine wpD_plain 18 (v := ?_) rfl (by kernel_rfl) (by kernel_rfl) (by kernel_rfl) (fun _ _ _ h => h) (by rfl) ?_ (by assumption) ?_; rotate_left; (intro _w; go_simp; try with_reducible rfl); simp only [Act.put, List.setIfInBounds_toArray, List.set_cons_zero, List.set_cons_succ])
                    (refine wpD_take 19 _ rfl (by kernel_rfl) (by kernel_rfl) (by kernel_rfl) (fun _ _ _ h => h) (List.mem_cons_of_mem _ (List.mem_cons_of_mem _ (List.mem_cons_of_mem _ (List.mem_cons_of_mem _ List.mem_cons_self)))) (by rfl) (v := ?_) ?_ (by assumption) ?_; rotate_left; (intro _w _hw; go_simp; try with_reducible rfl); simp only [Act.put, List.setIfInBounds_toArray, List.set_cons_zero, List.set_cons_succ])
                    (refine wpD_plain 20 (v := ?_) rfl (by kernel_rfl) (by kernel_rfl) (by kernel_rfl) (fun _ _ _ h => h) (by rfl) ?_ (by assumption) ?_; rotate_left; (intro _w; go_simp; try with_reducible rfl); simp only [Act.put, List.setIfInBounds_toArray, List.set_cons_zero, List.set_cons_succ])
                    (refine wpD_plain 21 (v := (.bool true)) rfl (by kernel_rfl) (by kernel_rfl) (by kernel_rfl) (fun _ _ _ h => h) (by rfl) ?_ (by assumption) ?_; (intro _w; go_simp; (first | exact H4.out | (have := H4.out; omega) | (have := H4.out; simp [this]) | (have := H4.out; simp at this ⊢; omega))); simp only [Act.put, List.setIfInBounds_toArray, List.set_cons_zero, List.set_cons_succ])
                    (refine wpD_plain 22 (v := ?_) rfl (by kernel_rfl) (by kernel_rfl) (by kernel_rfl) (fun _ _ _ h => h) (by rfl) ?_ (by assumption) ?_; rotate_left; (intro _w; go_simp; try with_reducible rfl); simp only [Act.put, List.setIfInBounds_toArray, List.set_cons_zero, List.set_cons_succ])
                    (refine wpD_plain 23 (v := ?_) rfl (by kernel_rfl) (by kernel_rfl) (by kernel_rfl) (fun _ _ _ h => h) (by rfl) ?_ (by assumption) ?_; rotate_left; (intro _w; go_simp; try with_reducible rfl); simp only [Act.put, List.setIfInBounds_toArray, List.set_cons_zero, List.set_cons_succ])
                    (refine wpD_plain 24 (v := ?_) rfl (by kernel_rfl) (by kernel_rfl) (by kernel_rfl) (fun _ _ _ h => h) (by rfl) ?_ (by assumption) ?_; rotate_left; (intro _w; go_simp; try with_reducible rfl); simp only [Act.put, List.setIfInBounds_toArray, List.set_cons_zero, List.set_cons_succ])
                    (refine wpD_take 25 _ rfl (by kernel_rfl) (by kernel_rfl) (by kernel_rfl) (fun _ _ _ h => h) (List.mem_cons_of_mem _ (List.mem_cons_of_mem _ (List.mem_cons_of_mem _ (List.mem_cons_of_mem _ (List.mem_cons_of_mem _ List.mem_cons_self))))) (by rfl) (v := ?_) ?_ (by assumption) ?_; rotate_left; (intro _w _hw; go_simp; try with_reducible rfl); simp only [Act.put, List.setIfInBounds_toArray, List.set_cons_zero, List.set_cons_succ])
                    (refine wpD_plain 26 (v := (.bool true)) rfl (by kernel_rfl) (by kernel_rfl) (by kernel_rfl) (fun _ _ _ h => h) (by rfl) ?_ (by assumption) ?_; (intro _w; go_simp; (first | exact H5.out | (have := H5.out; omega) | (have := H5.out; simp [this]) | (have := H5.out; simp at this ⊢; omega))); simp only [Act.put, List.setIfInBounds_toArray, List.set_cons_zero, List.set_cons_succ])
                    (refine wpD_plain 27 (v := ?_) rfl (by kernel_rfl) (by kernel_rfl) (by kernel_rfl) (fun _ _ _ h => h) (by rfl) ?_ (by assumption) ?_; rotate_left; (intro _w; go_simp; try with_reducible rfl); simp only [Act.put, List.setIfInBounds_toArray, List.set_cons_zero, List.set_cons_succ])
                    (refine wpD_plain 28 (v := ?_) rfl (by kernel_rfl) (by kernel_rfl) (by kernel_rfl) (fun _ _ _ h => h) (by rfl) ?_ (by assumption) ?_; rotate_left; (intro _w; go_simp; try with_reducible rfl); simp only [Act.put, List.setIfInBounds_toArray, List.set_cons_zero, List.set_cons_succ])
                    (refine wpD_plain 29 (v := ?_) rfl (by kernel_rfl) (by kernel_rfl) (by kernel_rfl) (fun _ _ _ h => h) (by rfl) ?_ (by assumption) ?_; rotate_left; (intro _w; go_simp; try with_reducible rfl); simp only [Act.put, List.setIfInBounds_toArray, List.set_cons_zero, List.set_cons_succ])
                    (refine wpD_take 30 _ rfl (by kernel_rfl) (by kernel_rfl) (by kernel_rfl) (fun _ _ _ h => h) (List.mem_cons_of_mem _ (List.mem_cons_of_mem _ (List.mem_cons_of_mem _ (List.mem_cons_of_mem _ (List.mem_cons_of_mem _ (List.mem_cons_of_mem _ List.mem_cons_self)))))) (by rfl) (v := ?_) ?_ (by assumption) ?_; rotate_left; (intro _w _hw; go_simp; try with_reducible rfl); simp only [Act.put, List.setIfInBounds_toArray, List.set_cons_zero, List.set_cons_succ])
                    (refine wpD_plain 31 (v := (.bool true)) rfl (by kernel_rfl) (by kernel_rfl) (by kernel_rfl) (fun _ _ _ h => h) (by rfl) ?_ (by assumption) ?_; (intro _w; go_simp; (first | exact H6.out | (have := H6.out; omega) | (have := H6.out; simp [this]) | (have := H6.out; simp at this ⊢; omega))); simp only [Act.put, List.setIfInBounds_toArray, List.set_cons_zero, List.set_cons_succ])
                    (refine wpD_plain 32 (v := ?_) rfl (by kernel_rfl) (by kernel_rfl) (by kernel_rfl) (fun _ _ _ h => h) (by rfl) ?_ (by assumption) ?_; rotate_left; (intro _w; go_simp; try with_reducible rfl); simp only [Act.put, List.setIfInBounds_toArray, List.set_cons_zero, List.set_cons_succ])
                    (refine wpD_plain 33 (v := ?_) rfl (by kernel_rfl) (by kernel_rfl) (by kernel_rfl) (fun _ _ _ h => h) (by rfl) ?_ (by assumption) ?_; rotate_left; (intro _w; go_simp; try with_reducible rfl); simp only [Act.put, List.setIfInBounds_toArray, List.set_cons_zero, List.set_cons_succ])
                    (refine wpD_plain 34 (v := ?_) rfl (by kernel_rfl) (by kernel_rfl) (by kernel_rfl) (fun _ _ _ h => h) (by rfl) ?_ (by assumption) ?_; rotate_left; (intro _w; go_simp; try with_reducible rfl); simp only [Act.put, List.setIfInBounds_toArray, List.set_cons_zero, List.set_cons_succ])
                    (refine wpD_plain 35 (v := ?_) rfl (by kernel_rfl) (by kernel_rfl) (by kernel_rfl) (fun _ _ _ h => h) (by rfl) ?_ (by assumption) ?_; rotate_left; (intro _w; go_simp; try with_reducible rfl); simp only [Act.put, List.setIfInBounds_toArray, List.set_cons_zero, List.set_cons_succ])
                    (refine wpD_plain 36 (v := ?_) rfl (by kernel_rfl) (by kernel_rfl) (by kernel_rfl) (fun _ _ _ h => h) (by rfl) ?_ (by assumption) ?_; rotate_left; (intro _w; go_simp; try with_reducible rfl); simp only [Act.put, List.setIfInBounds_toArray, List.set_cons_zero, List.set_cons_succ])
                    (refine wpD_plain 37 (v := (.bool false)) rfl (by kernel_rfl) (by kernel_rfl) (by kernel_rfl) (fun _ _ _ h => h) (by rfl) ?_ (by assumption) ?_; (intro _w; go_simp; (first | exact H7.out | (have := H7.out; omega) | (have := H7.out; simp [this]) | (have := H7.out; simp at this ⊢; omega))); simp only [Act.put, List.setIfInBounds_toArray, List.set_cons_zero, List.set_cons_succ])
                    (refine wpD_plain 38 (v := ?_) rfl (by kernel_rfl) (by kernel_rfl) (by kernel_rfl) (fun _ _ _ h => h) (by rfl) ?_ (by assumption) ?_; rotate_left; (intro _w; go_simp; try with_reducible rfl); simp only [Act.put, List.setIfInBounds_toArray, List.set_cons_zero, List.set_cons_succ])
                    (refine wpD_plain 39 (v := ?_) rfl (by kernel_rfl) (by kernel_rfl) (by kernel_rfl) (fun _ _ _ h => h) (by rfl) ?_ (by assumption) ?_; rotate_left; (intro _w; go_simp; try with_reducible rfl); simp only [Act.put, List.setIfInBounds_toArray, List.set_cons_zero, List.set_cons_succ])
                    clear hold
                    refine wpD_done (by kernel_rfl) ?_ _
                    try simp only [Act.put, List.setIfInBounds_toArray, List.set_cons_zero, List.set_cons_succ]
                    have HF5 : Hid (Fr No wr w4.drew) := hid (Fr.trans' (b := w4) HF4.out (Fr.refl No w4).drew)
                    have HB5 : Hid (Blk w4.drew k 126 (rsec true s.epoch s.life s.place s.kind s.size (.slice sa mz scp))) := hid (HBs.out.fr (Fr.refl No w4).drew id)
                    have HO5 := hid (own_fr HO2.out (Fr.trans' (b := w4) HF24.out (Fr.refl No w4).drew) (fun _ _ e => e))
                    clear e0 e1 eg e3 e2 e5 e4 z4
                    generalize w4.drew = w5 at HF5 HB5 HO5 ⊢
                    have e2 : w5.cell? ⟨k, 2, none⟩ = some (.int .u32 (s.life : Int)) := HB5.out.cell 2
                    have e5 : w5.cell? ⟨k, 5, none⟩ = some (.int .i64 (s.size : Int)) := HB5.out.cell 5
                    have e6 : w5.cell? ⟨k, 6, none⟩ = some (.slice sa mz scp) := HB5.out.cell 6
                    have he : R = (c.recs, c.next) := by have h := HST.out; rw [hgo] at h; exact h
                    have HE := hid he
                    clear he hgo
                    cases ib
                    · go_wp2_with fail
                      go_ret2
                      exact ⟨_, rfl, HFIN.out _ HF5.out HE.out⟩
                    · go_wp2_with fail
                      go_ret2
                      exact ⟨_, rfl, HFIN.out _ HF5.out HE.out⟩
                · have H6 := hid h6
                  have hgo : goesB g.epoch h0 p c s = false := by simp [goesB, h6]
                  clear h6
                  have hold : Facts.hold [(1, fun w' => w'.cell? ⟨k, 0, none⟩ = some (.bool true)), (4, fun w' => w'.cell? ⟨k, 1, none⟩ = some (.int .u32 (s.epoch : Int))), (8, fun w' => w'.cell? ⟨bg, 3, none⟩ = some (.int .u32 (g.epoch : Int))), (13, fun w' => w'.cell? ⟨k, 3, none⟩ = some (.int .i64 (s.place : Int))), (19, fun w' => w'.cell? ⟨k, 2, none⟩ = some (.int .u32 (s.life : Int))), (25, fun w' => w'.cell? ⟨k, 5, none⟩ = some (.int .i64 (s.size : Int))), (30, fun w' => w'.cell? ⟨k, 4, none⟩ = some (.int .i64 (s.kind : Int)))] w4.drew := Facts.cons_hold e0 (Facts.cons_hold e1 (Facts.cons_hold eg (Facts.cons_hold e3 (Facts.cons_hold e2 (Facts.cons_hold e5 (Facts.cons_hold e4 (Facts.nil_hold _)))))))
                  refine wpD_region hold (by kernel_rfl) 40 rfl ?_
                  (refine wpD_plain 0 (v := ?_) rfl (by kernel_rfl) (by kernel_rfl) (by kernel_rfl) (fun _ _ _ h => h) (by rfl) ?_ (by assumption) ?_; rotate_left; (intro _w; go_simp; try with_reducible rfl); simp only [Act.put, List.setIfInBounds_toArray, List.set_cons_zero, List.set_cons_succ])
                  (refine wpD_take 1 _ rfl (by kernel_rfl) (by kernel_rfl) (by kernel_rfl) (fun _ _ _ h => h) List.mem_cons_self (by rfl) (v := ?_) ?_ (by assumption) ?_; rotate_left; (intro _w _hw; go_simp; try with_reducible rfl); simp only [Act.put, List.setIfInBounds_toArray, List.set_cons_zero, List.set_cons_succ])
                  (refine wpD_plain 2 (v := ?_) rfl (by kernel_rfl) (by kernel_rfl) (by kernel_rfl) (fun _ _ _ h => h) (by rfl) ?_ (by assumption) ?_; rotate_left; (intro _w; go_simp; try with_reducible rfl); simp only [Act.put, List.setIfInBounds_toArray, List.set_cons_zero, List.set_cons_succ])
                  (refine wpD_plain 3 (v := ?_) rfl (by kernel_rfl) (by kernel_rfl) (by kernel_rfl) (fun _ _ _ h => h) (by rfl) ?_ (by assumption) ?_; rotate_left; (intro _w; go_simp; try with_reducible rfl); simp only [Act.put, List.setIfInBounds_toArray, List.set_cons_zero, List.set_cons_succ])
                  (refine wpD_take 4 _ rfl (by kernel_rfl) (by kernel_rfl) (by kernel_rfl) (fun _ _ _ h => h) (List.mem_cons_of_mem _ List.mem_cons_self) (by rfl) (v := ?_) ?_ (by assumption) ?_; rotate_left; (intro _w _hw; go_simp; try with_reducible rfl); simp only [Act.put, List.setIfInBounds_toArray, List.set_cons_zero, List.set_cons_succ])
                  (refine wpD_plain 5 (v := ?_) rfl (by kernel_rfl) (by kernel_rfl) (by kernel_rfl) (fun _ _ _ h => h) (by rfl) ?_ (by assumption) ?_; rotate_left; (intro _w; go_simp; try with_reducible rfl); simp only [Act.put, List.setIfInBounds_toArray, List.set_cons_zero, List.set_cons_succ])
                  (refine wpD_plain 6 (v := ?_) rfl (by kernel_rfl) (by kernel_rfl) (by kernel_rfl) (fun _ _ _ h => h) (by rfl) ?_ (by assumption) ?_; rotate_left; (intro _w; go_simp; try with_reducible rfl); simp only [Act.put, List.setIfInBounds_toArray, List.set_cons_zero, List.set_cons_succ])
                  (refine wpD_plain 7 (v := ?_) rfl (by kernel_rfl) (by kernel_rfl) (by kernel_rfl) (fun _ _ _ h => h) (by rfl) ?_ (by assumption) ?_; rotate_left; (intro _w; go_simp; try with_reducible rfl); simp only [Act.put, List.setIfInBounds_toArray, List.set_cons_zero, List.set_cons_succ])
                  (refine wpD_take 8 _ rfl (by kernel_rfl) (by kernel_rfl) (by kernel_rfl) (fun _ _ _ h => h) (List.mem_cons_of_mem _ (List.mem_cons_of_mem _ List.mem_cons_self)) (by rfl) (v := ?_) ?_ (by assumption) ?_; rotate_left; (intro _w _hw; go_simp; try with_reducible rfl); simp only [Act.put, List.setIfInBounds_toArray, List.set_cons_zero, List.set_cons_succ])
                  (refine wpD_plain 9 (v := (.bool true)) rfl (by kernel_rfl) (by kernel_rfl) (by kernel_rfl) (fun _ _ _ h => h) (by rfl) ?_ (by assumption) ?_; (intro _w; go_simp; (first | exact H2.out | (have := H2.out; omega) | (have := H2.out; simp [this]) | (have := H2.out; simp at this ⊢; omega))); simp only [Act.put, List.setIfInBounds_toArray, List.set_cons_zero, List.set_cons_succ])
                  (refine wpD_plain 10 (v := ?_) rfl (by kernel_rfl) (by kernel_rfl) (by kernel_rfl) (fun _ _ _ h => h) (by rfl) ?_ (by assumption) ?_; rotate_left; (intro _w; go_simp; try with_reducible rfl); simp only [Act.put, List.setIfInBounds_toArray, List.set_cons_zero, List.set_cons_succ])
                  (refine wpD_plain 11 (v := ?_) rfl (by kernel_rfl) (by kernel_rfl) (by kernel_rfl) (fun _ _ _ h => h) (by rfl) ?_ (by assumption) ?_; rotate_left; (intro _w; go_simp; try with_reducible rfl); simp only [Act.put, List.setIfInBounds_toArray, List.set_cons_zero, List.set_cons_succ])
                  (refine wpD_plain 12 (v := ?_) rfl (by kernel_rfl) (by kernel_rfl) (by kernel_rfl) (fun _ _ _ h => h) (by rfl) ?_ (by assumption) ?_; rotate_left; (intro _w; go_simp; try with_reducible rfl); simp only [Act.put, List.setIfInBounds_toArray, List.set_cons_zero, List.set_cons_succ])
                  (refine wpD_take 13 _ rfl (by kernel_rfl) (by kernel_rfl) (by kernel_rfl) (fun _ _ _ h => h) (List.mem_cons_of_mem _ (List.mem_cons_of_mem _ (List.mem_cons_of_mem _ List.mem_cons_self))) (by rfl) (v := ?_) ?_ (by assumption) ?_; rotate_left; (intro _w _hw; go_simp; try with_reducible rfl); simp only [Act.put, List.setIfInBounds_toArray, List.set_cons_zero, List.set_cons_succ])
                  (refine wpD_plain 14 (v := ?_) rfl (by kernel_rfl) (by kernel_rfl) (by kernel_rfl) (fun _ _ _ h => h) (by rfl) ?_ (by assumption) ?_; rotate_left; (intro _w; go_simp; try with_reducible rfl); simp only [Act.put, List.setIfInBounds_toArray, List.set_cons_zero, List.set_cons_succ])
                  (refine wpD_plain 15 (v := (.bool true)) rfl (by kernel_rfl) (by kernel_rfl) (by kernel_rfl) (fun _ _ _ h => h) (by rfl) ?_ (by assumption) ?_; (intro _w; go_simp; (first | exact H3.out | (have := H3.out; omega) | (have := H3.out; simp [this]) | (have := H3.out; simp at this ⊢; omega))); simp only [Act.put, List.setIfInBounds_toArray, List.set_cons_zero, List.set_cons_succ])
                  (refine wpD_plain 16 (v := ?_) rfl (by kernel_rfl) (by kernel_rfl) (by kernel_rfl) (fun _ _ _ h => h) (by rfl) ?_ (by assumption) ?_; rotate_left; (intro _w; go_simp; try with_reducible rfl); simp only [Act.put, List.setIfInBounds_toArray, List.set_cons_zero, List.set_cons_succ])
                  (refine wpD_plain 17 (v := ?_) rfl (by kernel_rfl) (by kernel_rfl) (by kernel_rfl) (fun _ _ _ h => h) (by rfl) ?_ (by assumption) ?_; rotate_left; (intro _w; go_simp; try with_reducible rfl); simp only [Act.put, List.setIfInBounds_toArray, List.set_cons_zero, List.set_cons_succ])
                  (refine wpD_plain 18 (v := ?_) rfl (by kernel_rfl) (by kernel_rfl) (by kernel_rfl) (fun _ _ _ h => h) (by rfl) ?_ (by assumption) ?_; rotate_left; (intro _w; go_simp; try with_reducible rfl); simp only [Act.put, List.setIfInBounds_toArray, List.set_cons_zero, List.set_cons_succ])
                  (refine wpD_take 19 _ rfl (by kernel_rfl) (by kernel_rfl) (by kernel_rfl) (fun _ _ _ h => h) (List.mem_cons_of_mem _ (List.mem_cons_of_mem _ (List.mem_cons_of_mem _ (List.mem_cons_of_mem _ List.mem_cons_self)))) (by rfl) (v := ?_) ?_ (by assumption) ?_; rotate_left; (intro _w _hw; go_simp; try with_reducible rfl); simp only [Act.put, List.setIfInBounds_toArray, List.set_cons_zero, List.set_cons_succ])
                  (refine wpD_plain 20 (v := ?_) rfl (by kernel_rfl) (by kernel_rfl) (by kernel_rfl) (fun _ _ _ h => h) (by rfl) ?_ (by assumption) ?_; rotate_left; (intro _w; go_simp; try with_reducible rfl); simp only [Act.put, List.setIfInBounds_toArray, List.set_cons_zero, List.set_cons_succ])
                  (refine wpD_plain 21 (v := (.bool true)) rfl (by kernel_rfl) (by kernel_rfl) (by kernel_rfl) (fun _ _ _ h => h) (by rfl) ?_ (by assumption) ?_; (intro _w; go_simp; (first | exact H4.out | (have := H4.out; omega) | (have := H4.out; simp [this]) | (have := H4.out; simp at this ⊢; omega))); simp only [Act.put, List.setIfInBounds_toArray, List.set_cons_zero, List.set_cons_succ])
                  (refine wpD_plain 22 (v := ?_) rfl (by kernel_rfl) (by kernel_rfl) (by kernel_rfl) (fun _ _ _ h => h) (by rfl) ?_ (by assumption) ?_; rotate_left; (intro _w; go_simp; try with_reducible rfl); simp only [Act.put, List.setIfInBounds_toArray, List.set_cons_zero, List.set_cons_succ])
                  (refine wpD_plain 23 (v := ?_) rfl (by kernel_rfl) (by kernel_rfl) (by kernel_rfl) (fun _ _ _ h => h) (by rfl) ?_ (by assumption) ?_; rotate_left; (intro _w; go_simp; try with_reducible rfl); simp only [Act.put, List.setIfInBounds_toArray, List.set_cons_zero, List.set_cons_succ])
                  (refine wpD_plain 24 (v := ?_) rfl (by kernel_rfl) (by kernel_rfl) (by kernel_rfl) (fun _ _ _ h => h) (by rfl) ?_ (by assumption) ?_; rotate_left; (intro _w; go_simp; try with_reducible rfl); simp only [Act.put, List.setIfInBounds_toArray, List.set_cons_zero, List.set_cons_succ])
                  (refine wpD_take 25 _ rfl (by kernel_rfl) (by kernel_rfl) (by kernel_rfl) (fun _ _ _ h => h) (List.mem_cons_of_mem _ (List.mem_cons_of_mem _ (List.mem_cons_of_mem _ (List.mem_cons_of_mem _ (List.mem_cons_of_mem _ List.mem_cons_self))))) (by rfl) (v := ?_) ?_ (by assumption) ?_; rotate_left; (intro _w _hw; go_simp; try with_reducible rfl); simp only [Act.put, List.setIfInBounds_toArray, List.set_cons_zero, List.set_cons_succ])
                  (refine wpD_plain 26 (v := (.bool true)) rfl (by kernel_rfl) (by kernel_rfl) (by kernel_rfl) (fun _ _ _ h => h) (by rfl) ?_ (by assumption) ?_; (intro _w; go_simp; (first | exact H5.out | (have := H5.out; omega) | (have := H5.out; simp [this]) | (have := H5.out; simp at this ⊢; omega))); simp only [Act.put, List.setIfInBounds_toArray, List.set_cons_zero, List.set_cons_succ])
                  (refine wpD_plain 27 (v := ?_) rfl (by kernel_rfl) (by kernel_rfl) (by kernel_rfl) (fun _ _ _ h => h) (by rfl) ?_ (by assumption) ?_; rotate_left; (intro _w; go_simp; try with_reducible rfl); simp only [Act.put, List.setIfInBounds_toArray, List.set_cons_zero, List.set_cons_succ])
                  (refine wpD_plain 28 (v := ?_) rfl (by kernel_rfl) (by kernel_rfl) (by kernel_rfl) (fun _ _ _ h => h) (by rfl) ?_ (by assumption) ?_; rotate_left; (intro _w; go_simp; try with_reducible rfl); simp only [Act.put, List.setIfInBounds_toArray, List.set_cons_zero, List.set_cons_succ])
                  (refine wpD_plain 29 (v := ?_) rfl (by kernel_rfl) (by kernel_rfl) (by kernel_rfl) (fun _ _ _ h => h) (by rfl) ?_ (by assumption) ?_; rotate_left; (intro _w; go_simp; try with_reducible rfl); simp only [Act.put, List.setIfInBounds_toArray, List.set_cons_zero, List.set_cons_succ])
                  (refine wpD_take 30 _ rfl (by kernel_rfl) (by kernel_rfl) (by kernel_rfl) (fun _ _ _ h => h) (List.mem_cons_of_mem _ (List.mem_cons_of_mem _ (List.mem_cons_of_mem _ (List.mem_cons_of_mem _ (List.mem_cons_of_mem _ (List.mem_cons_of_mem _ List.mem_cons_self)))))) (by rfl) (v := ?_) ?_ (by assumption) ?_; rotate_left; (intro _w _hw; go_simp; try with_reducible rfl); simp only [Act.put, List.setIfInBounds_toArray, List.set_cons_zero, List.set_cons_succ])
                  (refine wpD_plain 31 (v := (.bool false)) rfl (by kernel_rfl) (by kernel_rfl) (by kernel_rfl) (fun _ _ _ h => h) (by rfl) ?_ (by assumption) ?_; (intro _w; go_simp; (first | exact H6.out | (have := H6.out; omega) | (have := H6.out; simp [this]) | (have := H6.out; simp at this ⊢; omega))); simp only [Act.put, List.setIfInBounds_toArray, List.set_cons_zero, List.set_cons_succ])
                  (refine wpD_plain 32 (v := ?_) rfl (by kernel_rfl) (by kernel_rfl) (by kernel_rfl) (fun _ _ _ h => h) (by rfl) ?_ (by assumption) ?_; rotate_left; (intro _w; go_simp; try with_reducible rfl); simp only [Act.put, List.setIfInBounds_toArray, List.set_cons_zero, List.set_cons_succ])
                  (refine wpD_plain 33 (v := ?_) rfl (by kernel_rfl) (by kernel_rfl) (by kernel_rfl) (fun _ _ _ h => h) (by rfl) ?_ (by assumption) ?_; rotate_left; (intro _w; go_simp; try with_reducible rfl); simp only [Act.put, List.setIfInBounds_toArray, List.set_cons_zero, List.set_cons_succ])
                  (refine wpD_skip 34 rfl (by kernel_rfl) (by kernel_rfl) (by kernel_rfl) (fun _ _ _ h => h) (by rfl) (by assumption) ?_; simp only [Act.put, List.setIfInBounds_toArray, List.set_cons_zero, List.set_cons_succ])
                  (refine wpD_skip 35 rfl (by kernel_rfl) (by kernel_rfl) (by kernel_rfl) (fun _ _ _ h => h) (by rfl) (by assumption) ?_; simp only [Act.put, List.setIfInBounds_toArray, List.set_cons_zero, List.set_cons_succ])
                  (refine wpD_skip 36 rfl (by kernel_rfl) (by kernel_rfl) (by kernel_rfl) (fun _ _ _ h => h) (by rfl) (by assumption) ?_; simp only [Act.put, List.setIfInBounds_toArray, List.set_cons_zero, List.set_cons_succ])
                  (refine wpD_skip 37 rfl (by kernel_rfl) (by kernel_rfl) (by kernel_rfl) (fun _ _ _ h => h) (by rfl) (by assumption) ?_; simp only [Act.put, List.setIfInBounds_toArray, List.set_cons_zero, List.set_cons_succ])
                  (refine wpD_plain 38 (v := ?_) rfl (by kernel_rfl) (by kernel_rfl) (by kernel_rfl) (fun _ _ _ h => h) (by rfl) ?_ (by assumption) ?_; rotate_left; (intro _w; go_simp; try with_reducible rfl); simp only [Act.put, List.setIfInBounds_toArray, List.set_cons_zero, List.set_cons_succ])
                  (refine wpD_plain 39 (v := ?_) rfl (by kernel_rfl) (by kernel_rfl) (by kernel_rfl) (fun _ _ _ h => h) (by rfl) ?_ (by assumption) ?_; rotate_left; (intro _w; go_simp; try with_reducible rfl); simp only [Act.put, List.setIfInBounds_toArray, List.set_cons_zero, List.set_cons_succ])
                  clear hold
                  refine wpD_done (by kernel_rfl) ?_ _
                  try simp only [Act.put, List.setIfInBounds_toArray, List.set_cons_zero, List.set_cons_succ]
                  have HF5 : Hid (Fr No wr w4.drew) := hid (Fr.trans' (b := w4) HF4.out (Fr.refl No w4).drew)
                  have HB5 : Hid (Blk w4.drew k 126 (rsec true s.epoch s.life s.place s.kind s.size (.slice sa mz scp))) := hid (HBs.out.fr (Fr.refl No w4).drew id)
                  have HO5 := hid (own_fr HO2.out (Fr.trans' (b := w4) HF24.out (Fr.refl No w4).drew) (fun _ _ e => e))
                  clear e0 e1 eg e3 e2 e5 e4 z4
                  generalize w4.drew = w5 at HF5 HB5 HO5 ⊢
                  have e2 : w5.cell? ⟨k, 2, none⟩ = some (.int .u32 (s.life : Int)) := HB5.out.cell 2
                  have e5 : w5.cell? ⟨k, 5, none⟩ = some (.int .i64 (s.size : Int)) := HB5.out.cell 5
                  have e6 : w5.cell? ⟨k, 6, none⟩ = some (.slice sa mz scp) := HB5.out.cell 6
                  have he : R = (c.recs, c.next) := by have h := HST.out; rw [hgo] at h; exact h
                  have HE := hid he
                  clear he hgo
                  cases ib
                  · go_wp2_with fail
                    go_ret2
                    exact ⟨_, rfl, HFIN.out _ HF5.out HE.out⟩
                  · go_wp2_with fail
                    go_ret2
                    exact ⟨_, rfl, HFIN.out _ HF5.out HE.out⟩
              · have H5 := hid h5
                have hgo : goesB g.epoch h0 p c s = false := by simp [goesB, h5]
                clear h5
                have hold : Facts.hold [(1, fun w' => w'.cell? ⟨k, 0, none⟩ = some (.bool true)), (4, fun w' => w'.cell? ⟨k, 1, none⟩ = some (.int .u32 (s.epoch : Int))), (8, fun w' => w'.cell? ⟨bg, 3, none⟩ = some (.int .u32 (g.epoch : Int))), (13, fun w' => w'.cell? ⟨k, 3, none⟩ = some (.int .i64 (s.place : Int))), (19, fun w' => w'.cell? ⟨k, 2, none⟩ = some (.int .u32 (s.life : Int))), (25, fun w' => w'.cell? ⟨k, 5, none⟩ = some (.int .i64 (s.size : Int)))] w4.drew := Facts.cons_hold e0 (Facts.cons_hold e1 (Facts.cons_hold eg (Facts.cons_hold e3 (Facts.cons_hold e2 (Facts.cons_hold e5 (Facts.nil_hold _))))))
                refine wpD_region hold (by kernel_rfl) 40 rfl ?_
                (refine wpD_plain 0 (v := ?_) rfl (by kernel_rfl) (by kernel_rfl) (by kernel_rfl) (fun _ _ _ h => h) (by rfl) ?_ (by assumption) ?_; rotate_left; (intro _w; go_simp; try with_reducible rfl); simp only [Act.put, List.setIfInBounds_toArray, List.set_cons_zero, List.set_cons_succ])
                (refine wpD_take 1 _ rfl (by kernel_rfl) (by kernel_rfl) (by kernel_rfl) (fun _ _ _ h => h) List.mem_cons_self (by rfl) (v := ?_) ?_ (by assumption) ?_; rotate_left; (intro _w _hw; go_simp; try with_reducible rfl); simp only [Act.put, List.setIfInBounds_toArray, List.set_cons_zero, List.set_cons_succ])
                (refine wpD_plain 2 (v := ?_) rfl (by kernel_rfl) (by kernel_rfl) (by kernel_rfl) (fun _ _ _ h => h) (by rfl) ?_ (by assumption) ?_; rotate_left; (intro _w; go_simp; try with_reducible rfl); simp only [Act.put, List.setIfInBounds_toArray, List.set_cons_zero, List.set_cons_succ])
                (refine wpD_plain 3 (v := ?_) rfl (by kernel_rfl) (by kernel_rfl) (by kernel_rfl) (fun _ _ _ h => h) (by rfl) ?_ (by assumption) ?_; rotate_left; (intro _w; go_simp; try with_reducible rfl); simp only [Act.put, List.setIfInBounds_toArray, List.set_cons_zero, List.set_cons_succ])
                (refine wpD_take 4 _ rfl (by kernel_rfl) (by kernel_rfl) (by kernel_rfl) (fun _ _ _ h => h) (List.mem_cons_of_mem _ List.mem_cons_self) (by rfl) (v := ?_) ?_ (by assumption) ?_; rotate_left; (intro _w _hw; go_simp; try with_reducible rfl); simp only [Act.put, List.setIfInBounds_toArray, List.set_cons_zero, List.set_cons_succ])
                (refine wpD_plain 5 (v := ?_) rfl (by kernel_rfl) (by kernel_rfl) (by kernel_rfl) (fun _ _ _ h => h) (by rfl) ?_ (by assumption) ?_; rotate_left; (intro _w; go_simp; try with_reducible rfl); simp only [Act.put, List.setIfInBounds_toArray, List.set_cons_zero, List.set_cons_succ])
                (refine wpD_plain 6 (v := ?_) rfl (by kernel_rfl) (by kernel_rfl) (by kernel_rfl) (fun _ _ _ h => h) (by rfl) ?_ (by assumption) ?_; rotate_left; (intro _w; go_simp; try with_reducible rfl); simp only [Act.put, List.setIfInBounds_toArray, List.set_cons_zero, List.set_cons_succ])
                (refine wpD_plain 7 (v := ?_) rfl (by kernel_rfl) (by kernel_rfl) (by kernel_rfl) (fun _ _ _ h => h) (by rfl) ?_ (by assumption) ?_; rotate_left; (intro _w; go_simp; try with_reducible rfl); simp only [Act.put, List.setIfInBounds_toArray, List.set_cons_zero, List.set_cons_succ])
                (refine wpD_take 8 _ rfl (by kernel_rfl) (by kernel_rfl) (by kernel_rfl) (fun _ _ _ h => h) (List.mem_cons_of_mem _ (List.mem_cons_of_mem _ List.mem_cons_self)) (by rfl) (v := ?_) ?_ (by assumption) ?_; rotate_left; (intro _w _hw; go_simp; try with_reducible rfl); simp only [Act.put, List.setIfInBounds_toArray, List.set_cons_zero, List.set_cons_succ])
                (refine wpD_plain 9 (v := (.bool true)) rfl (by kernel_rfl) (by kernel_rfl) (by kernel_rfl) (fun _ _ _ h => h) (by rfl) ?_ (by assumption) ?_; (intro _w; go_simp; (first | exact H2.out | (have := H2.out; omega) | (have := H2.out; simp [this]) | (have := H2.out; simp at this ⊢; omega))); simp only [Act.put, List.setIfInBounds_toArray, List.set_cons_zero, List.set_cons_succ])
                (refine wpD_plain 10 (v := ?_) rfl (by kernel_rfl) (by kernel_rfl) (by kernel_rfl) (fun _ _ _ h => h) (by rfl) ?_ (by assumption) ?_; rotate_left; (intro _w; go_simp; try with_reducible rfl); simp only [Act.put, List.setIfInBounds_toArray, List.set_cons_zero, List.set_cons_succ])
                (refine wpD_plain 11 (v := ?_) rfl (by kernel_rfl) (by kernel_rfl) (by kernel_rfl) (fun _ _ _ h => h) (by rfl) ?_ (by assumption) ?_; rotate_left; (intro _w; go_simp; try with_reducible rfl); simp only [Act.put, List.setIfInBounds_toArray, List.set_cons_zero, List.set_cons_succ])
                (refine wpD_plain 12 (v := ?_) rfl (by kernel_rfl) (by kernel_rfl) (by kernel_rfl) (fun _ _ _ h => h) (by rfl) ?_ (by assumption) ?_; rotate_left; (intro _w; go_simp; try with_reducible rfl); simp only [Act.put, List.setIfInBounds_toArray, List.set_cons_zero, List.set_cons_succ])
                (refine wpD_take 13 _ rfl (by kernel_rfl) (by kernel_rfl) (by kernel_rfl) (fun _ _ _ h => h) (List.mem_cons_of_mem _ (List.mem_cons_of_mem _ (List.mem_cons_of_mem _ List.mem_cons_self))) (by rfl) (v := ?_) ?_ (by assumption) ?_; rotate_left; (intro _w _hw; go_simp; try with_reducible rfl); simp only [Act.put, List.setIfInBounds_toArray, List.set_cons_zero, List.set_cons_succ])
                (refine wpD_plain 14 (v := ?_) rfl (by kernel_rfl) (by kernel_rfl) (by kernel_rfl) (fun _ _ _ h => h) (by rfl) ?_ (by assumption) ?_; rotate_left; (intro _w; go_simp; try with_reducible rfl); simp only [Act.put, List.setIfInBounds_toArray, List.set_cons_zero, List.set_cons_succ])
                (refine wpD_plain 15 (v := (.bool true)) rfl (by kernel_rfl) (by kernel_rfl) (by kernel_rfl) (fun _ _ _ h => h) (by rfl) ?_ (by assumption) ?_; (intro _w; go_simp; (first | exact H3.out | (have := H3.out; omega) | (have := H3.out; simp [this]) | (have := H3.out; simp at this ⊢; omega))); simp only [Act.put, List.setIfInBounds_toArray, List.set_cons_zero, List.set_cons_succ])
                (refine wpD_plain 16 (v := ?_) rfl (by kernel_rfl) (by kernel_rfl) (by kernel_rfl) (fun _ _ _ h => h) (by rfl) ?_ (by assumption) ?_; rotate_left; (intro _w; go_simp; try with_reducible rfl); simp only [Act.put, List.setIfInBounds_toArray, List.set_cons_zero, List.set_cons_succ])
                (refine wpD_plain 17 (v := ?_) rfl (by kernel_rfl) (by kernel_rfl) (by kernel_rfl) (fun _ _ _ h => h) (by rfl) ?_ (by assumption) ?_; rotate_left; (intro _w; go_simp; try with_reducible rfl); simp only [Act.put, List.setIfInBounds_toArray, List.set_cons_zero, List.set_cons_succ])
                (refine wpD_plain 18 (v := ?_) rfl (by kernel_rfl) (by kernel_rfl) (by kernel_rfl) (fun _ _ _ h => h) (by rfl) ?_ (by assumption) ?_; rotate_left; (intro _w; go_simp; try with_reducible rfl); simp only [Act.put, List.setIfInBounds_toArray, List.set_cons_zero, List.set_cons_succ])
                (refine wpD_take 19 _ rfl (by kernel_rfl) (by kernel_rfl) (by kernel_rfl) (fun _ _ _ h => h) (List.mem_cons_of_mem _ (List.mem_cons_of_mem _ (List.mem_cons_of_mem _ (List.mem_cons_of_mem _ List.mem_cons_self)))) (by rfl) (v := ?_) ?_ (by assumption) ?_; rotate_left; (intro _w _hw; go_simp; try with_reducible rfl); simp only [Act.put, List.setIfInBounds_toArray, List.set_cons_zero, List.set_cons_succ])
                (refine wpD_plain 20 (v := ?_) rfl (by kernel_rfl) (by kernel_rfl) (by kernel_rfl) (fun _ _ _ h => h) (by rfl) ?_ (by assumption) ?_; rotate_left; (intro _w; go_simp; try with_reducible rfl); simp only [Act.put, List.setIfInBounds_toArray, List.set_cons_zero, List.set_cons_succ])
                (refine wpD_plain 21 (v := (.bool true)) rfl (by kernel_rfl) (by kernel_rfl) (by kernel_rfl) (fun _ _ _ h => h) (by rfl) ?_ (by assumption) ?_; (intro _w; go_simp; (first | exact H4.out | (have := H4.out; omega) | (have := H4.out; simp [this]) | (have := H4.out; simp at this ⊢; omega))); simp only [Act.put, List.setIfInBounds_toArray, List.set_cons_zero, List.set_cons_succ])
                (refine wpD_plain 22 (v := ?_) rfl (by kernel_rfl) (by kernel_rfl) (by kernel_rfl) (fun _ _ _ h => h) (by rfl) ?_ (by assumption) ?_; rotate_left; (intro _w; go_simp; try with_reducible rfl); simp only [Act.put, List.setIfInBounds_toArray, List.set_cons_zero, List.set_cons_succ])
                (refine wpD_plain 23 (v := ?_) rfl (by kernel_rfl) (by kernel_rfl) (by kernel_rfl) (fun _ _ _ h => h) (by rfl) ?_ (by assumption) ?_; rotate_left; (intro _w; go_simp; try with_reducible rfl); simp only [Act.put, List.setIfInBounds_toArray, List.set_cons_zero, List.set_cons_succ])
                (refine wpD_plain 24 (v := ?_) rfl (by kernel_rfl) (by kernel_rfl) (by kernel_rfl) (fun _ _ _ h => h) (by rfl) ?_ (by assumption) ?_; rotate_left; (intro _w; go_simp; try with_reducible rfl); simp only [Act.put, List.setIfInBounds_toArray, List.set_cons_zero, List.set_cons_succ])
                (refine wpD_take 25 _ rfl (by kernel_rfl) (by kernel_rfl) (by kernel_rfl) (fun _ _ _ h => h) (List.mem_cons_of_mem _ (List.mem_cons_of_mem _ (List.mem_cons_of_mem _ (List.mem_cons_of_mem _ (List.mem_cons_of_mem _ List.mem_cons_self))))) (by rfl) (v := ?_) ?_ (by assumption) ?_; rotate_left; (intro _w _hw; go_simp; try with_reducible rfl); simp only [Act.put, List.setIfInBounds_toArray, List.set_cons_zero, List.set_cons_succ])
                (refine wpD_plain 26 (v := (.bool false)) rfl (by kernel_rfl) (by kernel_rfl) (by kernel_rfl) (fun _ _ _ h => h) (by rfl) ?_ (by assumption) ?_; (intro _w; go_simp; (first | exact H5.out | (have := H5.out; omega) | (have := H5.out; simp [this]) | (have := H5.out; simp at this ⊢; omega))); simp only [Act.put, List.setIfInBounds_toArray, List.set_cons_zero, List.set_cons_succ])
                (refine wpD_plain 27 (v := ?_) rfl (by kernel_rfl) (by kernel_rfl) (by kernel_rfl) (fun _ _ _ h => h) (by rfl) ?_ (by assumption) ?_; rotate_left; (intro _w; go_simp; try with_reducible rfl); simp only [Act.put, List.setIfInBounds_toArray, List.set_cons_zero, List.set_cons_succ])
                (refine wpD_plain 28 (v := ?_) rfl (by kernel_rfl) (by kernel_rfl) (by kernel_rfl) (fun _ _ _ h => h) (by rfl) ?_ (by assumption) ?_; rotate_left; (intro _w; go_simp; try with_reducible rfl); simp only [Act.put, List.setIfInBounds_toArray, List.set_cons_zero, List.set_cons_succ])
                (refine wpD_skip 29 rfl (by kernel_rfl) (by kernel_rfl) (by kernel_rfl) (fun _ _ _ h => h) (by rfl) (by assumption) ?_; simp only [Act.put, List.setIfInBounds_toArray, List.set_cons_zero, List.set_cons_succ])
                (refine wpD_skip 30 rfl (by kernel_rfl) (by kernel_rfl) (by kernel_rfl) (fun _ _ _ h => h) (by rfl) (by assumption) ?_; simp only [Act.put, List.setIfInBounds_toArray, List.set_cons_zero, List.set_cons_succ])
                (refine wpD_skip 31 rfl (by kernel_rfl) (by kernel_rfl) (by kernel_rfl) (fun _ _ _ h => h) (by rfl) (by assumption) ?_; simp only [Act.put, List.setIfInBounds_toArray, List.set_cons_zero, List.set_cons_succ])
                (refine wpD_plain 32 (v := ?_) rfl (by kernel_rfl) (by kernel_rfl) (by kernel_rfl) (fun _ _ _ h => h) (by rfl) ?_ (by assumption) ?_; rotate_left; (intro _w; go_simp; try with_reducible rfl); simp only [Act.put, List.setIfInBounds_toArray, List.set_cons_zero, List.set_cons_succ])
                (refine wpD_plain 33 (v := ?_) rfl (by kernel_rfl) (by kernel_rfl) (by kernel_rfl) (fun _ _ _ h => h) (by rfl) ?_ (by assumption) ?_; rotate_left; (intro _w; go_simp; try with_reducible rfl); simp only [Act.put, List.setIfInBounds_toArray, List.set_cons_zero, List.set_cons_succ])
                (refine wpD_skip 34 rfl (by kernel_rfl) (by kernel_rfl) (by kernel_rfl) (fun _ _ _ h => h) (by rfl) (by assumption) ?_; simp only [Act.put, List.setIfInBounds_toArray, List.set_cons_zero, List.set_cons_succ])
                (refine wpD_skip 35 rfl (by kernel_rfl) (by kernel_rfl) (by kernel_rfl) (fun _ _ _ h => h) (by rfl) (by assumption) ?_; simp only [Act.put, List.setIfInBounds_toArray, List.set_cons_zero, List.set_cons_succ])
                (refine wpD_skip 36 rfl (by kernel_rfl) (by kernel_rfl) (by kernel_rfl) (fun _ _ _ h => h) (by rfl) (by assumption) ?_; simp only [Act.put, List.setIfInBounds_toArray, List.set_cons_zero, List.set_cons_succ])
                (refine wpD_skip 37 rfl (by kernel_rfl) (by kernel_rfl) (by kernel_rfl) (fun _ _ _ h => h) (by rfl) (by assumption) ?_; simp only [Act.put, List.setIfInBounds_toArray, List.set_cons_zero, List.set_cons_succ])
                (refine wpD_plain 38 (v := ?_) rfl (by kernel_rfl) (by kernel_rfl) (by kernel_rfl) (fun _ _ _ h => h) (by rfl) ?_ (by assumption) ?_; rotate_left; (intro _w; go_simp; try with_reducible rfl); simp only [Act.put, List.setIfInBounds_toArray, List.set_cons_zero, List.set_cons_succ])
                (refine wpD_plain 39 (v := ?_) rfl (by kernel_rfl) (by kernel_rfl) (by kernel_rfl) (fun _ _ _ h => h) (by rfl) ?_ (by assumption) ?_; rotate_left; (intro _w; go_simp; try with_reducible rfl); simp only [Act.put, List.setIfInBounds_toArray, List.set_cons_zero, List.set_cons_succ])
                clear hold
                refine wpD_done (by kernel_rfl) ?_ _
                try simp only [Act.put, List.setIfInBounds_toArray, List.set_cons_zero, List.set_cons_succ]
                have HF5 : Hid (Fr No wr w4.drew) := hid (Fr.trans' (b := w4) HF4.out (Fr.refl No w4).drew)
                have HB5 : Hid (Blk w4.drew k 126 (rsec true s.epoch s.life s.place s.kind s.size (.slice sa mz scp))) := hid (HBs.out.fr (Fr.refl No w4).drew id)
                have HO5 := hid (own_fr HO2.out (Fr.trans' (b := w4) HF24.out (Fr.refl No w4).drew) (fun _ _ e => e))
                clear e0 e1 eg e3 e2 e5 e4 z4
                generalize w4.drew = w5 at HF5 HB5 HO5 ⊢
                have e2 : w5.cell? ⟨k, 2, none⟩ = some (.int .u32 (s.life : Int)) := HB5.out.cell 2
                have e5 : w5.cell? ⟨k, 5, none⟩ = some (.int .i64 (s.size : Int)) := HB5.out.cell 5
                have e6 : w5.cell? ⟨k, 6, none⟩ = some (.slice sa mz scp) := HB5.out.cell 6
                have he : R = (c.recs, c.next) := by have h := HST.out; rw [hgo] at h; exact h
                have HE := hid he
                clear he hgo
                cases ib
                · go_wp2_with fail
                  go_ret2
                  exact ⟨_, rfl, HFIN.out _ HF5.out HE.out⟩
                · go_wp2_with fail
                  go_ret2
                  exact ⟨_, rfl, HFIN.out _ HF5.out HE.out⟩
            · have H4 := hid h4
              have hgo : goesB g.epoch h0 p c s = false := by simp [goesB, h4]
              clear h4
              have hold : Facts.hold [(1, fun w' => w'.cell? ⟨k, 0, none⟩ = some (.bool true)), (4, fun w' => w'.cell? ⟨k, 1, none⟩ = some (.int .u32 (s.epoch : Int))), (8, fun w' => w'.cell? ⟨bg, 3, none⟩ = some (.int .u32 (g.epoch : Int))), (13, fun w' => w'.cell? ⟨k, 3, none⟩ = some (.int .i64 (s.place : Int))), (19, fun w' => w'.cell? ⟨k, 2, none⟩ = some (.int .u32 (s.life : Int)))] w4.drew := Facts.cons_hold e0 (Facts.cons_hold e1 (Facts.cons_hold eg (Facts.cons_hold e3 (Facts.cons_hold e2 (Facts.nil_hold _)))))
              refine wpD_region hold (by kernel_rfl) 40 rfl ?_
              (refine wpD_plain 0 (v := ?_) rfl (by kernel_rfl) (by kernel_rfl) (by kernel_rfl) (fun _ _ _ h => h) (by rfl) ?_ (by assumption) ?_; rotate_left; (intro _w; go_simp; try with_reducible rfl); simp only [Act.put, List.setIfInBounds_toArray, List.set_cons_zero, List.set_cons_succ])
              (refine wpD_take 1 _ rfl (by kernel_rfl) (by kernel_rfl) (by kernel_rfl) (fun _ _ _ h => h) List.mem_cons_self (by rfl) (v := ?_) ?_ (by assumption) ?_; rotate_left; (intro _w _hw; go_simp; try with_reducible rfl); simp only [Act.put, List.setIfInBounds_toArray, List.set_cons_zero, List.set_cons_succ])
              (refine wpD_plain 2 (v := ?_) rfl (by kernel_rfl) (by kernel_rfl) (by kernel_rfl) (fun _ _ _ h => h) (by rfl) ?_ (by assumption) ?_; rotate_left; (intro _w; go_simp; try with_reducible rfl); simp only [Act.put, List.setIfInBounds_toArray, List.set_cons_zero, List.set_cons_succ])
              (refine wpD_plain 3 (v := ?_) rfl (by kernel_rfl) (by kernel_rfl) (by kernel_rfl) (fun _ _ _ h => h) (by rfl) ?_ (by assumption) ?_; rotate_left; (intro _w; go_simp; try with_reducible rfl); simp only [Act.put, List.setIfInBounds_toArray, List.set_cons_zero, List.set_cons_succ])
              (refine wpD_take 4 _ rfl (by kernel_rfl) (by kernel_rfl) (by kernel_rfl) (fun _ _ _ h => h) (List.mem_cons_of_mem _ List.mem_cons_self) (by rfl) (v := ?_) ?_ (by assumption) ?_; rotate_left; (intro _w _hw; go_simp; try with_reducible rfl); simp only [Act.put, List.setIfInBounds_toArray, List.set_cons_zero, List.set_cons_succ])
              (refine wpD_plain 5 (v := ?_) rfl (by kernel_rfl) (by kernel_rfl) (by kernel_rfl) (fun _ _ _ h => h) (by rfl) ?_ (by assumption) ?_; rotate_left; (intro _w; go_simp; try with_reducible rfl); simp only [Act.put, List.setIfInBounds_toArray, List.set_cons_zero, List.set_cons_succ])
              (refine wpD_plain 6 (v := ?_) rfl (by kernel_rfl) (by kernel_rfl) (by kernel_rfl) (fun _ _ _ h => h) (by rfl) ?_ (by assumption) ?_; rotate_left; (intro _w; go_simp; try with_reducible rfl); simp only [Act.put, List.setIfInBounds_toArray, List.set_cons_zero, List.set_cons_succ])
              (refine wpD_plain 7 (v := ?_) rfl (by kernel_rfl) (by kernel_rfl) (by kernel_rfl) (fun _ _ _ h => h) (by rfl) ?_ (by assumption) ?_; rotate_left; (intro _w; go_simp; try with_reducible rfl); simp only [Act.put, List.setIfInBounds_toArray, List.set_cons_zero, List.set_cons_succ])
              (refine wpD_take 8 _ rfl (by kernel_rfl) (by kernel_rfl) (by kernel_rfl) (fun _ _ _ h => h) (List.mem_cons_of_mem _ (List.mem_cons_of_mem _ List.mem_cons_self)) (by rfl) (v := ?_) ?_ (by assumption) ?_; rotate_left; (intro _w _hw; go_simp; try with_reducible rfl); simp only [Act.put, List.setIfInBounds_toArray, List.set_cons_zero, List.set_cons_succ])
              (refine wpD_plain 9 (v := (.bool true)) rfl (by kernel_rfl) (by kernel_rfl) (by kernel_rfl) (fun _ _ _ h => h) (by rfl) ?_ (by assumption) ?_; (intro _w; go_simp; (first | exact H2.out | (have := H2.out; omega) | (have := H2.out; simp [this]) | (have := H2.out; simp at this ⊢; omega))); simp only [Act.put, List.setIfInBounds_toArray, List.set_cons_zero, List.set_cons_succ])
              (refine wpD_plain 10 (v := ?_) rfl (by kernel_rfl) (by kernel_rfl) (by kernel_rfl) (fun _ _ _ h => h) (by rfl) ?_ (by assumption) ?_; rotate_left; (intro _w; go_simp; try with_reducible rfl); simp only [Act.put, List.setIfInBounds_toArray, List.set_cons_zero, List.set_cons_succ])
              (refine wpD_plain 11 (v := ?_) rfl (by kernel_rfl) (by kernel_rfl) (by kernel_rfl) (fun _ _ _ h => h) (by rfl) ?_ (by assumption) ?_; rotate_left; (intro _w; go_simp; try with_reducible rfl); simp only [Act.put, List.setIfInBounds_toArray, List.set_cons_zero, List.set_cons_succ])
              (refine wpD_plain 12 (v := ?_) rfl (by kernel_rfl) (by kernel_rfl) (by kernel_rfl) (fun _ _ _ h => h) (by rfl) ?_ (by assumption) ?_; rotate_left; (intro _w; go_simp; try with_reducible rfl); simp only [Act.put, List.setIfInBounds_toArray, List.set_cons_zero, List.set_cons_succ])
              (refine wpD_take 13 _ rfl (by kernel_rfl) (by kernel_rfl) (by kernel_rfl) (fun _ _ _ h => h) (List.mem_cons_of_mem _ (List.mem_cons_of_mem _ (List.mem_cons_of_mem _ List.mem_cons_self))) (by rfl) (v := ?_) ?_ (by assumption) ?_; rotate_left; (intro _w _hw; go_simp; try with_reducible rfl); simp only [Act.put, List.setIfInBounds_toArray, List.set_cons_zero, List.set_cons_succ])
              (refine wpD_plain 14 (v := ?_) rfl (by kernel_rfl) (by kernel_rfl) (by kernel_rfl) (fun _ _ _ h => h) (by rfl) ?_ (by assumption) ?_; rotate_left; (intro _w; go_simp; try with_reducible rfl); simp only [Act.put, List.setIfInBounds_toArray, List.set_cons_zero, List.set_cons_succ])
              (refine wpD_plain 15 (v := (.bool true)) rfl (by kernel_rfl) (by kernel_rfl) (by kernel_rfl) (fun _ _ _ h => h) (by rfl) ?_ (by assumption) ?_; (intro _w; go_simp; (first | exact H3.out | (have := H3.out; omega) | (have := H3.out; simp [this]) | (have := H3.out; simp at this ⊢; omega))); simp only [Act.put, List.setIfInBounds_toArray, List.set_cons_zero, List.set_cons_succ])
              (refine wpD_plain 16 (v := ?_) rfl (by kernel_rfl) (by kernel_rfl) (by kernel_rfl) (fun _ _ _ h => h) (by rfl) ?_ (by assumption) ?_; rotate_left; (intro _w; go_simp; try with_reducible rfl); simp only [Act.put, List.setIfInBounds_toArray, List.set_cons_zero, List.set_cons_succ])
              (refine wpD_plain 17 (v := ?_) rfl (by kernel_rfl) (by kernel_rfl) (by kernel_rfl) (fun _ _ _ h => h) (by rfl) ?_ (by assumption) ?_; rotate_left; (intro _w; go_simp; try with_reducible rfl); simp only [Act.put, List.setIfInBounds_toArray, List.set_cons_zero, List.set_cons_succ])
              (refine wpD_plain 18 (v := ?_) rfl (by kernel_rfl) (by kernel_rfl) (by kernel_rfl) (fun _ _ _ h => h) (by rfl) ?_ (by assumption) ?_; rotate_left; (intro _w; go_simp; try with_reducible rfl); simp only [Act.put, List.setIfInBounds_toArray, List.set_cons_zero, List.set_cons_succ])
              (refine wpD_take 19 _ rfl (by kernel_rfl) (by kernel_rfl) (by kernel_rfl) (fun _ _ _ h => h) (List.mem_cons_of_mem _ (List.mem_cons_of_mem _ (List.mem_cons_of_mem _ (List.mem_cons_of_mem _ List.mem_cons_self)))) (by rfl) (v := ?_) ?_ (by assumption) ?_; rotate_left; (intro _w _hw; go_simp; try with_reducible rfl); simp only [Act.put, List.setIfInBounds_toArray, List.set_cons_zero, List.set_cons_succ])
              (refine wpD_plain 20 (v := ?_) rfl (by kernel_rfl) (by kernel_rfl) (by kernel_rfl) (fun _ _ _ h => h) (by rfl) ?_ (by assumption) ?_; rotate_left; (intro _w; go_simp; try with_reducible rfl); simp only [Act.put, List.setIfInBounds_toArray, List.set_cons_zero, List.set_cons_succ])
              (refine wpD_plain 21 (v := (.bool false)) rfl (by kernel_rfl) (by kernel_rfl) (by kernel_rfl) (fun _ _ _ h => h) (by rfl) ?_ (by assumption) ?_; (intro _w; go_simp; (first | exact H4.out | (have := H4.out; omega) | (have := H4.out; simp [this]) | (have := H4.out; simp at this ⊢; omega))); simp only [Act.put, List.setIfInBounds_toArray, List.set_cons_zero, List.set_cons_succ])
              (refine wpD_plain 22 (v := ?_) rfl (by kernel_rfl) (by kernel_rfl) (by kernel_rfl) (fun _ _ _ h => h) (by rfl) ?_ (by assumption) ?_; rotate_left; (intro _w; go_simp; try with_reducible rfl); simp only [Act.put, List.setIfInBounds_toArray, List.set_cons_zero, List.set_cons_succ])
              (refine wpD_plain 23 (v := ?_) rfl (by kernel_rfl) (by kernel_rfl) (by kernel_rfl) (fun _ _ _ h => h) (by rfl) ?_ (by assumption) ?_; rotate_left; (intro _w; go_simp; try with_reducible rfl); simp only [Act.put, List.setIfInBounds_toArray, List.set_cons_zero, List.set_cons_succ])
              (refine wpD_skip 24 rfl (by kernel_rfl) (by kernel_rfl) (by kernel_rfl) (fun _ _ _ h => h) (by rfl) (by assumption) ?_; simp only [Act.put, List.setIfInBounds_toArray, List.set_cons_zero, List.set_cons_succ])
              (refine wpD_skip 25 rfl (by kernel_rfl) (by kernel_rfl) (by kernel_rfl) (fun _ _ _ h => h) (by rfl) (by assumption) ?_; simp only [Act.put, List.setIfInBounds_toArray, List.set_cons_zero, List.set_cons_succ])
              (refine wpD_skip 26 rfl (by kernel_rfl) (by kernel_rfl) (by kernel_rfl) (fun _ _ _ h => h) (by rfl) (by assumption) ?_; simp only [Act.put, List.setIfInBounds_toArray, List.set_cons_zero, List.set_cons_succ])
              (refine wpD_plain 27 (v := ?_) rfl (by kernel_rfl) (by kernel_rfl) (by kernel_rfl) (fun _ _ _ h => h) (by rfl) ?_ (by assumption) ?_; rotate_left; (intro _w; go_simp; try with_reducible rfl); simp only [Act.put, List.setIfInBounds_toArray, List.set_cons_zero, List.set_cons_succ])
              (refine wpD_plain 28 (v := ?_) rfl (by kernel_rfl) (by kernel_rfl) (by kernel_rfl) (fun _ _ _ h => h) (by rfl) ?_ (by assumption) ?_; rotate_left; (intro _w; go_simp; try with_reducible rfl); simp only [Act.put, List.setIfInBounds_toArray, List.set_cons_zero, List.set_cons_succ])
              (refine wpD_skip 29 rfl (by kernel_rfl) (by kernel_rfl) (by kernel_rfl) (fun _ _ _ h => h) (by rfl) (by assumption) ?_; simp only [Act.put, List.setIfInBounds_toArray, List.set_cons_zero, List.set_cons_succ])
              (refine wpD_skip 30 rfl (by kernel_rfl) (by kernel_rfl) (by kernel_rfl) (fun _ _ _ h => h) (by rfl) (by assumption) ?_; simp only [Act.put, List.setIfInBounds_toArray, List.set_cons_zero, List.set_cons_succ])
              (refine wpD_skip 31 rfl (by kernel_rfl) (by kernel_rfl) (by kernel_rfl) (fun _ _ _ h => h) (by rfl) (by assumption) ?_; simp only [Act.put, List.setIfInBounds_toArray, List.set_cons_zero, List.set_cons_succ])
              (refine wpD_plain 32 (v := ?_) rfl (by kernel_rfl) (by kernel_rfl) (by kernel_rfl) (fun _ _ _ h => h) (by rfl) ?_ (by assumption) ?_; rotate_left; (intro _w; go_simp; try with_reducible rfl); simp only [Act.put, List.setIfInBounds_toArray, List.set_cons_zero, List.set_cons_succ])
              (refine wpD_plain 33 (v := ?_) rfl (by kernel_rfl) (by kernel_rfl) (by kernel_rfl) (fun _ _ _ h => h) (by rfl) ?_ (by assumption) ?_; rotate_left; (intro _w; go_simp; try with_reducible rfl); simp only [Act.put, List.setIfInBounds_toArray, List.set_cons_zero, List.set_cons_succ])
              (refine wpD_skip 34 rfl (by kernel_rfl) (by kernel_rfl) (by kernel_rfl) (fun _ _ _ h => h) (by rfl) (by assumption) ?_; simp only [Act.put, List.setIfInBounds_toArray, List.set_cons_zero, List.set_cons_succ])
              (refine wpD_skip 35 rfl (by kernel_rfl) (by kernel_rfl) (by kernel_rfl) (fun _ _ _ h => h) (by rfl) (by assumption) ?_; simp only [Act.put, List.setIfInBounds_toArray, List.set_cons_zero, List.set_cons_succ])
              (refine wpD_skip 36 rfl (by kernel_rfl) (by kernel_rfl) (by kernel_rfl) (fun _ _ _ h => h) (by rfl) (by assumption) ?_; simp only [Act.put, List.setIfInBounds_toArray, List.set_cons_zero, List.set_cons_succ])
              (refine wpD_skip 37 rfl (by kernel_rfl) (by kernel_rfl) (by kernel_rfl) (fun _ _ _ h => h) (by rfl) (by assumption) ?_; simp only [Act.put, List.setIfInBounds_toArray, List.set_cons_zero, List.set_cons_succ])
              (refine wpD_plain 38 (v := ?_) rfl (by kernel_rfl) (by kernel_rfl) (by kernel_rfl) (fun _ _ _ h => h) (by rfl) ?_ (by assumption) ?_; rotate_left; (intro _w; go_simp; try with_reducible rfl); simp only [Act.put, List.setIfInBounds_toArray, List.set_cons_zero, List.set_cons_succ])
              (refine wpD_plain 39 (v := ?_) rfl (by kernel_rfl) (by kernel_rfl) (by kernel_rfl) (fun _ _ _ h => h) (by rfl) ?_ (by assumption) ?_; rotate_left; (intro _w; go_simp; try with_reducible rfl); simp only [Act.put, List.setIfInBounds_toArray, List.set_cons_zero, List.set_cons_succ])
              clear hold
              refine wpD_done (by kernel_rfl) ?_ _
              try simp only [Act.put, List.setIfInBounds_toArray, List.set_cons_zero, List.set_cons_succ]
              have HF5 : Hid (Fr No wr w4.drew) := hid (Fr.trans' (b := w4) HF4.out (Fr.refl No w4).drew)
              have HB5 : Hid (Blk w4.drew k 126 (rsec true s.epoch s.life s.place s.kind s.size (.slice sa mz scp))) := hid (HBs.out.fr (Fr.refl No w4).drew id)
              have HO5 := hid (own_fr HO2.out (Fr.trans' (b := w4) HF24.out (Fr.refl No w4).drew) (fun _ _ e => e))
              clear e0 e1 eg e3 e2 e5 e4 z4
              generalize w4.drew = w5 at HF5 HB5 HO5 ⊢
              have e2 : w5.cell? ⟨k, 2, none⟩ = some (.int .u32 (s.life : Int)) := HB5.out.cell 2
              have e5 : w5.cell? ⟨k, 5, none⟩ = some (.int .i64 (s.size : Int)) := HB5.out.cell 5
              have e6 : w5.cell? ⟨k, 6, none⟩ = some (.slice sa mz scp) := HB5.out.cell 6
              have he : R = (c.recs, c.next) := by have h := HST.out; rw [hgo] at h; exact h
              have HE := hid he
              clear he hgo
              cases ib
              · go_wp2_with fail
                go_ret2
                exact ⟨_, rfl, HFIN.out _ HF5.out HE.out⟩
              · go_wp2_with fail
                go_ret2
                exact ⟨_, rfl, HFIN.out _ HF5.out HE.out⟩
          · have H3 := hid h3
            have hgo : goesB g.epoch h0 p c s = false := by simp [goesB, h3]
            clear h3
            have hold : Facts.hold [(1, fun w' => w'.cell? ⟨k, 0, none⟩ = some (.bool true)), (4, fun w' => w'.cell? ⟨k, 1, none⟩ = some (.int .u32 (s.epoch : Int))), (8, fun w' => w'.cell? ⟨bg, 3, none⟩ = some (.int .u32 (g.epoch : Int))), (13, fun w' => w'.cell? ⟨k, 3, none⟩ = some (.int .i64 (s.place : Int)))] w4.drew := Facts.cons_hold e0 (Facts.cons_hold e1 (Facts.cons_hold eg (Facts.cons_hold e3 (Facts.nil_hold _))))
            refine wpD_region hold (by kernel_rfl) 40 rfl ?_
            (refine wpD_plain 0 (v := ?_) rfl (by kernel_rfl) (by kernel_rfl) (by kernel_rfl) (fun _ _ _ h => h) (by rfl) ?_ (by assumption) ?_; rotate_left; (intro _w; go_simp; try with_reducible rfl); simp only [Act.put, List.setIfInBounds_toArray, List.set_cons_zero, List.set_cons_succ])
            (refine wpD_take 1 _ rfl (by kernel_rfl) (by kernel_rfl) (by kernel_rfl) (fun _ _ _ h => h) List.mem_cons_self (by rfl) (v := ?_) ?_ (by assumption) ?_; rotate_left; (intro _w _hw; go_simp; try with_reducible rfl); simp only [Act.put, List.setIfInBounds_toArray, List.set_cons_zero, List.set_cons_succ])
            (refine wpD_plain 2 (v := ?_) rfl (by kernel_rfl) (by kernel_rfl) (by kernel_rfl) (fun _ _ _ h => h) (by rfl) ?_ (by assumption) ?_; rotate_left; (intro _w; go_simp; try with_reducible rfl); simp only [Act.put, List.setIfInBounds_toArray, List.set_cons_zero, List.set_cons_succ])
            (refine wpD_plain 3 (v := ?_) rfl (by kernel_rfl) (by kernel_rfl) (by kernel_rfl) (fun _ _ _ h => h) (by rfl) ?_ (by assumption) ?_; rotate_left; (intro _w; go_simp; try with_reducible rfl); simp only [Act.put, List.setIfInBounds_toArray, List.set_cons_zero, List.set_cons_succ])
            (refine wpD_take 4 _ rfl (by kernel_rfl) (by kernel_rfl) (by kernel_rfl) (fun _ _ _ h => h) (List.mem_cons_of_mem _ List.mem_cons_self) (by rfl) (v := ?_) ?_ (by assumption) ?_; rotate_left; (intro _w _hw; go_simp; try with_reducible rfl); simp only [Act.put, List.setIfInBounds_toArray, List.set_cons_zero, List.set_cons_succ])
            (refine wpD_plain 5 (v := ?_) rfl (by kernel_rfl) (by kernel_rfl) (by kernel_rfl) (fun _ _ _ h => h) (by rfl) ?_ (by assumption) ?_; rotate_left; (intro _w; go_simp; try with_reducible rfl); simp only [Act.put, List.setIfInBounds_toArray, List.set_cons_zero, List.set_cons_succ])
            (refine wpD_plain 6 (v := ?_) rfl (by kernel_rfl) (by kernel_rfl) (by kernel_rfl) (fun _ _ _ h => h) (by rfl) ?_ (by assumption) ?_; rotate_left; (intro _w; go_simp; try with_reducible rfl); simp only [Act.put, List.setIfInBounds_toArray, List.set_cons_zero, List.set_cons_succ])
            (refine wpD_plain 7 (v := ?_) rfl (by kernel_rfl) (by kernel_rfl) (by kernel_rfl) (fun _ _ _ h => h) (by rfl) ?_ (by assumption) ?_; rotate_left; (intro _w; go_simp; try with_reducible rfl); simp only [Act.put, List.setIfInBounds_toArray, List.set_cons_zero, List.set_cons_succ])
            (refine wpD_take 8 _ rfl (by kernel_rfl) (by kernel_rfl) (by kernel_rfl) (fun _ _ _ h => h) (List.mem_cons_of_mem _ (List.mem_cons_of_mem _ List.mem_cons_self)) (by rfl) (v := ?_) ?_ (by assumption) ?_; rotate_left; (intro _w _hw; go_simp; try with_reducible rfl); simp only [Act.put, List.setIfInBounds_toArray, List.set_cons_zero, List.set_cons_succ])
            (refine wpD_plain 9 (v := (.bool true)) rfl (by kernel_rfl) (by kernel_rfl) (by kernel_rfl) (fun _ _ _ h => h) (by rfl) ?_ (by assumption) ?_; (intro _w; go_simp; (first | exact H2.out | (have := H2.out; omega) | (have := H2.out; simp [this]) | (have := H2.out; simp at this ⊢; omega))); simp only [Act.put, List.setIfInBounds_toArray, List.set_cons_zero, List.set_cons_succ])
            (refine wpD_plain 10 (v := ?_) rfl (by kernel_rfl) (by kernel_rfl) (by kernel_rfl) (fun _ _ _ h => h) (by rfl) ?_ (by assumption) ?_; rotate_left; (intro _w; go_simp; try with_reducible rfl); simp only [Act.put, List.setIfInBounds_toArray, List.set_cons_zero, List.set_cons_succ])
            (refine wpD_plain 11 (v := ?_) rfl (by kernel_rfl) (by kernel_rfl) (by kernel_rfl) (fun _ _ _ h => h) (by rfl) ?_ (by assumption) ?_; rotate_left; (intro _w; go_simp; try with_reducible rfl); simp only [Act.put, List.setIfInBounds_toArray, List.set_cons_zero, List.set_cons_succ])
            (refine wpD_plain 12 (v := ?_) rfl (by kernel_rfl) (by kernel_rfl) (by kernel_rfl) (fun _ _ _ h => h) (by rfl) ?_ (by assumption) ?_; rotate_left; (intro _w; go_simp; try with_reducible rfl); simp only [Act.put, List.setIfInBounds_toArray, List.set_cons_zero, List.set_cons_succ])
            (refine wpD_take 13 _ rfl (by kernel_rfl) (by kernel_rfl) (by kernel_rfl) (fun _ _ _ h => h) (List.mem_cons_of_mem _ (List.mem_cons_of_mem _ (List.mem_cons_of_mem _ List.mem_cons_self))) (by rfl) (v := ?_) ?_ (by assumption) ?_; rotate_left; (intro _w _hw; go_simp; try with_reducible rfl); simp only [Act.put, List.setIfInBounds_toArray, List.set_cons_zero, List.set_cons_succ])
            (refine wpD_plain 14 (v := ?_) rfl (by kernel_rfl) (by kernel_rfl) (by kernel_rfl) (fun _ _ _ h => h) (by rfl) ?_ (by assumption) ?_; rotate_left; (intro _w; go_simp; try with_reducible rfl); simp only [Act.put, List.setIfInBounds_toArray, List.set_cons_zero, List.set_cons_succ])
            (refine wpD_plain 15 (v := (.bool false)) rfl (by kernel_rfl) (by kernel_rfl) (by kernel_rfl) (fun _ _ _ h => h) (by rfl) ?_ (by assumption) ?_; (intro _w; go_simp; (first | exact H3.out | (have := H3.out; omega) | (have := H3.out; simp [this]) | (have := H3.out; simp at this ⊢; omega))); simp only [Act.put, List.setIfInBounds_toArray, List.set_cons_zero, List.set_cons_succ])
            (refine wpD_plain 16 (v := ?_) rfl (by kernel_rfl) (by kernel_rfl) (by kernel_rfl) (fun _ _ _ h => h) (by rfl) ?_ (by assumption) ?_; rotate_left; (intro _w; go_simp; try with_reducible rfl); simp only [Act.put, List.setIfInBounds_toArray, List.set_cons_zero, List.set_cons_succ])
            (refine wpD_plain 17 (v := ?_) rfl (by kernel_rfl) (by kernel_rfl) (by kernel_rfl) (fun _ _ _ h => h) (by rfl) ?_ (by assumption) ?_; rotate_left; (intro _w; go_simp; try with_reducible rfl); simp only [Act.put, List.setIfInBounds_toArray, List.set_cons_zero, List.set_cons_succ])
            (refine wpD_skip 18 rfl (by kernel_rfl) (by kernel_rfl) (by kernel_rfl) (fun _ _ _ h => h) (by rfl) (by assumption) ?_; simp only [Act.put, List.setIfInBounds_toArray, List.set_cons_zero, List.set_cons_succ])
            (refine wpD_skip 19 rfl (by kernel_rfl) (by kernel_rfl) (by kernel_rfl) (fun _ _ _ h => h) (by rfl) (by assumption) ?_; simp only [Act.put, List.setIfInBounds_toArray, List.set_cons_zero, List.set_cons_succ])
            (refine wpD_skip 20 rfl (by kernel_rfl) (by kernel_rfl) (by kernel_rfl) (fun _ _ _ h => h) (by rfl) (by assumption) ?_; simp only [Act.put, List.setIfInBounds_toArray, List.set_cons_zero, List.set_cons_succ])
            (refine wpD_skip 21 rfl (by kernel_rfl) (by kernel_rfl) (by kernel_rfl) (fun _ _ _ h => h) (by rfl) (by assumption) ?_; simp only [Act.put, List.setIfInBounds_toArray, List.set_cons_zero, List.set_cons_succ])
            (refine wpD_plain 22 (v := ?_) rfl (by kernel_rfl) (by kernel_rfl) (by kernel_rfl) (fun _ _ _ h => h) (by rfl) ?_ (by assumption) ?_; rotate_left; (intro _w; go_simp; try with_reducible rfl); simp only [Act.put, List.setIfInBounds_toArray, List.set_cons_zero, List.set_cons_succ])
            (refine wpD_plain 23 (v := ?_) rfl (by kernel_rfl) (by kernel_rfl) (by kernel_rfl) (fun _ _ _ h => h) (by rfl) ?_ (by assumption) ?_; rotate_left; (intro _w; go_simp; try with_reducible rfl); simp only [Act.put, List.setIfInBounds_toArray, List.set_cons_zero, List.set_cons_succ])
            (refine wpD_skip 24 rfl (by kernel_rfl) (by kernel_rfl) (by kernel_rfl) (fun _ _ _ h => h) (by rfl) (by assumption) ?_; simp only [Act.put, List.setIfInBounds_toArray, List.set_cons_zero, List.set_cons_succ])
            (refine wpD_skip 25 rfl (by kernel_rfl) (by kernel_rfl) (by kernel_rfl) (fun _ _ _ h => h) (by rfl) (by assumption) ?_; simp only [Act.put, List.setIfInBounds_toArray, List.set_cons_zero, List.set_cons_succ])
            (refine wpD_skip 26 rfl (by kernel_rfl) (by kernel_rfl) (by kernel_rfl) (fun _ _ _ h => h) (by rfl) (by assumption) ?_; simp only [Act.put, List.setIfInBounds_toArray, List.set_cons_zero, List.set_cons_succ])
            (refine wpD_plain 27 (v := ?_) rfl (by kernel_rfl) (by kernel_rfl) (by kernel_rfl) (fun _ _ _ h => h) (by rfl) ?_ (by assumption) ?_; rotate_left; (intro _w; go_simp; try with_reducible rfl); simp only [Act.put, List.setIfInBounds_toArray, List.set_cons_zero, List.set_cons_succ])
            (refine wpD_plain 28 (v := ?_) rfl (by kernel_rfl) (by kernel_rfl) (by kernel_rfl) (fun _ _ _ h => h) (by rfl) ?_ (by assumption) ?_; rotate_left; (intro _w; go_simp; try with_reducible rfl); simp only [Act.put, List.setIfInBounds_toArray, List.set_cons_zero, List.set_cons_succ])
            (refine wpD_skip 29 rfl (by kernel_rfl) (by kernel_rfl) (by kernel_rfl) (fun _ _ _ h => h) (by rfl) (by assumption) ?_; simp only [Act.put, List.setIfInBounds_toArray, List.set_cons_zero, List.set_cons_succ])
            (refine wpD_skip 30 rfl (by kernel_rfl) (by kernel_rfl) (by kernel_rfl) (fun _ _ _ h => h) (by rfl) (by assumption) ?_; simp only [Act.put, List.setIfInBounds_toArray, List.set_cons_zero, List.set_cons_succ])
            (refine wpD_skip 31 rfl (by kernel_rfl) (by kernel_rfl) (by kernel_rfl) (fun _ _ _ h => h) (by rfl) (by assumption) ?_; simp only [Act.put, List.setIfInBounds_toArray, List.set_cons_zero, List.set_cons_succ])
            (refine wpD_plain 32 (v := ?_) rfl (by kernel_rfl) (by kernel_rfl) (by kernel_rfl) (fun _ _ _ h => h) (by rfl) ?_ (by assumption) ?_; rotate_left; (intro _w; go_simp; try with_reducible rfl); simp only [Act.put, List.setIfInBounds_toArray, List.set_cons_zero, List.set_cons_succ])
            (refine wpD_plain 33 (v := ?_) rfl (by kernel_rfl) (by kernel_rfl) (by kernel_rfl) (fun _ _ _ h => h) (by rfl) ?_ (by assumption) ?_; rotate_left; (intro _w; go_simp; try with_reducible rfl); simp only [Act.put, List.setIfInBounds_toArray, List.set_cons_zero, List.set_cons_succ])
            (refine wpD_skip 34 rfl (by kernel_rfl) (by kernel_rfl) (by kernel_rfl) (fun _ _ _ h => h) (by rfl) (by assumption) ?_; simp only [Act.put, List.setIfInBounds_toArray, List.set_cons_zero, List.set_cons_succ])
            (refine wpD_skip 35 rfl (by kernel_rfl) (by kernel_rfl) (by kernel_rfl) (fun _ _ _ h => h) (by rfl) (by assumption) ?_; simp only [Act.put, List.setIfInBounds_toArray, List.set_cons_zero, List.set_cons_succ])
            (refine wpD_skip 36 rfl (by kernel_rfl) (by kernel_rfl) (by kernel_rfl) (fun _ _ _ h => h) (by rfl) (by assumption) ?_; simp only [Act.put, List.setIfInBounds_toArray, List.set_cons_zero, List.set_cons_succ])
            (refine wpD_skip 37 rfl (by kernel_rfl) (by kernel_rfl) (by kernel_rfl) (fun _ _ _ h => h) (by rfl) (by assumption) ?_; simp only [Act.put, List.setIfInBounds_toArray, List.set_cons_zero, List.set_cons_succ])
            (refine wpD_plain 38 (v := ?_) rfl (by kernel_rfl) (by kernel_rfl) (by kernel_rfl) (fun _ _ _ h => h) (by rfl) ?_ (by assumption) ?_; rotate_left; (intro _w; go_simp; try with_reducible rfl); simp only [Act.put, List.setIfInBounds_toArray, List.set_cons_zero, List.set_cons_succ])
            (refine wpD_plain 39 (v := ?_) rfl (by kernel_rfl) (by kernel_rfl) (by kernel_rfl) (fun _ _ _ h => h) (by rfl) ?_ (by assumption) ?_; rotate_left; (intro _w; go_simp; try with_reducible rfl); simp only [Act.put, List.setIfInBounds_toArray, List.set_cons_zero, List.set_cons_succ])
            clear hold
            refine wpD_done (by kernel_rfl) ?_ _
            try simp only [Act.put, List.setIfInBounds_toArray, List.set_cons_zero, List.set_cons_succ]
            have HF5 : Hid (Fr No wr w4.drew) := hid (Fr.trans' (b := w4) HF4.out (Fr.refl No w4).drew)
            have HB5 : Hid (Blk w4.drew k 126 (rsec true s.epoch s.life s.place s.kind s.size (.slice sa mz scp))) := hid (HBs.out.fr (Fr.refl No w4).drew id)
            have HO5 := hid (own_fr HO2.out (Fr.trans' (b := w4) HF24.out (Fr.refl No w4).drew) (fun _ _ e => e))
            clear e0 e1 eg e3 e2 e5 e4 z4
            generalize w4.drew = w5 at HF5 HB5 HO5 ⊢
            have e2 : w5.cell? ⟨k, 2, none⟩ = some (.int .u32 (s.life : Int)) := HB5.out.cell 2
            have e5 : w5.cell? ⟨k, 5, none⟩ = some (.int .i64 (s.size : Int)) := HB5.out.cell 5
            have e6 : w5.cell? ⟨k, 6, none⟩ = some (.slice sa mz scp) := HB5.out.cell 6
            have he : R = (c.recs, c.next) := by have h := HST.out; rw [hgo] at h; exact h
            have HE := hid he
            clear he hgo
            cases ib
            · go_wp2_with fail
              go_ret2
              exact ⟨_, rfl, HFIN.out _ HF5.out HE.out⟩
            · go_wp2_with fail
              go_ret2
              exact ⟨_, rfl, HFIN.out _ HF5.out HE.out⟩
        · have H2 := hid h2
          have hgo : goesB g.epoch h0 p c s = false := by simp [goesB, h2]
          clear h2
          have hold : Facts.hold [(1, fun w' => w'.cell? ⟨k, 0, none⟩ = some (.bool true)), (4, fun w' => w'.cell? ⟨k, 1, none⟩ = some (.int .u32 (s.epoch : Int))), (8, fun w' => w'.cell? ⟨bg, 3, none⟩ = some (.int .u32 (g.epoch : Int)))] w4.drew := Facts.cons_hold e0 (Facts.cons_hold e1 (Facts.cons_hold eg (Facts.nil_hold _)))
          refine wpD_region hold (by kernel_rfl) 40 rfl ?_
          (refine wpD_plain 0 (v := ?_) rfl (by kernel_rfl) (by kernel_rfl) (by kernel_rfl) (fun _ _ _ h => h) (by rfl) ?_ (by assumption) ?_; rotate_left; (intro _w; go_simp; try with_reducible rfl); simp only [Act.put, List.setIfInBounds_toArray, List.set_cons_zero, List.set_cons_succ])
          (refine wpD_take 1 _ rfl (by kernel_rfl) (by kernel_rfl) (by kernel_rfl) (fun _ _ _ h => h) List.mem_cons_self (by rfl) (v := ?_) ?_ (by assumption) ?_; rotate_left; (intro _w _hw; go_simp; try with_reducible rfl); simp only [Act.put, List.setIfInBounds_toArray, List.set_cons_zero, List.set_cons_succ])
          (refine wpD_plain 2 (v := ?_) rfl (by kernel_rfl) (by kernel_rfl) (by kernel_rfl) (fun _ _ _ h => h) (by rfl) ?_ (by assumption) ?_; rotate_left; (intro _w; go_simp; try with_reducible rfl); simp only [Act.put, List.setIfInBounds_toArray, List.set_cons_zero, List.set_cons_succ])
          (refine wpD_plain 3 (v := ?_) rfl (by kernel_rfl) (by kernel_rfl) (by kernel_rfl) (fun _ _ _ h => h) (by rfl) ?_ (by assumption) ?_; rotate_left; (intro _w; go_simp; try with_reducible rfl); simp only [Act.put, List.setIfInBounds_toArray, List.set_cons_zero, List.set_cons_succ])
          (refine wpD_take 4 _ rfl (by kernel_rfl) (by kernel_rfl) (by kernel_rfl) (fun _ _ _ h => h) (List.mem_cons_of_mem _ List.mem_cons_self) (by rfl) (v := ?_) ?_ (by assumption) ?_; rotate_left; (intro _w _hw; go_simp; try with_reducible rfl); simp only [Act.put, List.setIfInBounds_toArray, List.set_cons_zero, List.set_cons_succ])
          (refine wpD_plain 5 (v := ?_) rfl (by kernel_rfl) (by kernel_rfl) (by kernel_rfl) (fun _ _ _ h => h) (by rfl) ?_ (by assumption) ?_; rotate_left; (intro _w; go_simp; try with_reducible rfl); simp only [Act.put, List.setIfInBounds_toArray, List.set_cons_zero, List.set_cons_succ])
          (refine wpD_plain 6 (v := ?_) rfl (by kernel_rfl) (by kernel_rfl) (by kernel_rfl) (fun _ _ _ h => h) (by rfl) ?_ (by assumption) ?_; rotate_left; (intro _w; go_simp; try with_reducible rfl); simp only [Act.put, List.setIfInBounds_toArray, List.set_cons_zero, List.set_cons_succ])
          (refine wpD_plain 7 (v := ?_) rfl (by kernel_rfl) (by kernel_rfl) (by kernel_rfl) (fun _ _ _ h => h) (by rfl) ?_ (by assumption) ?_; rotate_left; (intro _w; go_simp; try with_reducible rfl); simp only [Act.put, List.setIfInBounds_toArray, List.set_cons_zero, List.set_cons_succ])
          (refine wpD_take 8 _ rfl (by kernel_rfl) (by kernel_rfl) (by kernel_rfl) (fun _ _ _ h => h) (List.mem_cons_of_mem _ (List.mem_cons_of_mem _ List.mem_cons_self)) (by rfl) (v := ?_) ?_ (by assumption) ?_; rotate_left; (intro _w _hw; go_simp; try with_reducible rfl); simp only [Act.put, List.setIfInBounds_toArray, List.set_cons_zero, List.set_cons_succ])
          (refine wpD_plain 9 (v := (.bool false)) rfl (by kernel_rfl) (by kernel_rfl) (by kernel_rfl) (fun _ _ _ h => h) (by rfl) ?_ (by assumption) ?_; (intro _w; go_simp; (first | exact H2.out | (have := H2.out; omega) | (have := H2.out; simp [this]) | (have := H2.out; simp at this ⊢; omega))); simp only [Act.put, List.setIfInBounds_toArray, List.set_cons_zero, List.set_cons_succ])
          (refine wpD_plain 10 (v := ?_) rfl (by kernel_rfl) (by kernel_rfl) (by kernel_rfl) (fun _ _ _ h => h) (by rfl) ?_ (by assumption) ?_; rotate_left; (intro _w; go_simp; try with_reducible rfl); simp only [Act.put, List.setIfInBounds_toArray, List.set_cons_zero, List.set_cons_succ])
          (refine wpD_plain 11 (v := ?_) rfl (by kernel_rfl) (by kernel_rfl) (by kernel_rfl) (fun _ _ _ h => h) (by rfl) ?_ (by assumption) ?_; rotate_left; (intro _w; go_simp; try with_reducible rfl); simp only [Act.put, List.setIfInBounds_toArray, List.set_cons_zero, List.set_cons_succ])
          (refine wpD_skip 12 rfl (by kernel_rfl) (by kernel_rfl) (by kernel_rfl) (fun _ _ _ h => h) (by rfl) (by assumption) ?_; simp only [Act.put, List.setIfInBounds_toArray, List.set_cons_zero, List.set_cons_succ])
          (refine wpD_skip 13 rfl (by kernel_rfl) (by kernel_rfl) (by kernel_rfl) (fun _ _ _ h => h) (by rfl) (by assumption) ?_; simp only [Act.put, List.setIfInBounds_toArray, List.set_cons_zero, List.set_cons_succ])
          (refine wpD_skip 14 rfl (by kernel_rfl) (by kernel_rfl) (by kernel_rfl) (fun _ _ _ h => h) (by rfl) (by assumption) ?_; simp only [Act.put, List.setIfInBounds_toArray, List.set_cons_zero, List.set_cons_succ])
          (refine wpD_skip 15 rfl (by kernel_rfl) (by kernel_rfl) (by kernel_rfl) (fun _ _ _ h => h) (by rfl) (by assumption) ?_; simp only [Act.put, List.setIfInBounds_toArray, List.set_cons_zero, List.set_cons_succ])
          (refine wpD_plain 16 (v := ?_) rfl (by kernel_rfl) (by kernel_rfl) (by kernel_rfl) (fun _ _ _ h => h) (by rfl) ?_ (by assumption) ?_; rotate_left; (intro _w; go_simp; try with_reducible rfl); simp only [Act.put, List.setIfInBounds_toArray, List.set_cons_zero, List.set_cons_succ])
          (refine wpD_plain 17 (v := ?_) rfl (by kernel_rfl) (by kernel_rfl) (by kernel_rfl) (fun _ _ _ h => h) (by rfl) ?_ (by assumption) ?_; rotate_left; (intro _w; go_simp; try with_reducible rfl); simp only [Act.put, List.setIfInBounds_toArray, List.set_cons_zero, List.set_cons_succ])
          (refine wpD_skip 18 rfl (by kernel_rfl) (by kernel_rfl) (by kernel_rfl) (fun _ _ _ h => h) (by rfl) (by assumption) ?_; simp only [Act.put, List.setIfInBounds_toArray, List.set_cons_zero, List.set_cons_succ])
          (refine wpD_skip 19 rfl (by kernel_rfl) (by kernel_rfl) (by kernel_rfl) (fun _ _ _ h => h) (by rfl) (by assumption) ?_; simp only [Act.put, List.setIfInBounds_toArray, List.set_cons_zero, List.set_cons_succ])
          (refine wpD_skip 20 rfl (by kernel_rfl) (by kernel_rfl) (by kernel_rfl) (fun _ _ _ h => h) (by rfl) (by assumption) ?_; simp only [Act.put, List.setIfInBounds_toArray, List.set_cons_zero, List.set_cons_succ])
          (refine wpD_skip 21 rfl (by kernel_rfl) (by kernel_rfl) (by kernel_rfl) (fun _ _ _ h => h) (by rfl) (by assumption) ?_; simp only [Act.put, List.setIfInBounds_toArray, List.set_cons_zero, List.set_cons_succ])
          (refine wpD_plain 22 (v := ?_) rfl (by kernel_rfl) (by kernel_rfl) (by kernel_rfl) (fun _ _ _ h => h) (by rfl) ?_ (by assumption) ?_; rotate_left; (intro _w; go_simp; try with_reducible rfl); simp only [Act.put, List.setIfInBounds_toArray, List.set_cons_zero, List.set_cons_succ])
          (refine wpD_plain 23 (v := ?_) rfl (by kernel_rfl) (by kernel_rfl) (by kernel_rfl) (fun _ _ _ h => h) (by rfl) ?_ (by assumption) ?_; rotate_left; (intro _w; go_simp; try with_reducible rfl); simp only [Act.put, List.setIfInBounds_toArray, List.set_cons_zero, List.set_cons_succ])
          (refine wpD_skip 24 rfl (by kernel_rfl) (by kernel_rfl) (by kernel_rfl) (fun _ _ _ h => h) (by rfl) (by assumption) ?_; simp only [Act.put, List.setIfInBounds_toArray, List.set_cons_zero, List.set_cons_succ])
          (refine wpD_skip 25 rfl (by kernel_rfl) (by kernel_rfl) (by kernel_rfl) (fun _ _ _ h => h) (by rfl) (by assumption) ?_; simp only [Act.put, List.setIfInBounds_toArray, List.set_cons_zero, List.set_cons_succ])
          (refine wpD_skip 26 rfl (by kernel_rfl) (by kernel_rfl) (by kernel_rfl) (fun _ _ _ h => h) (by rfl) (by assumption) ?_; simp only [Act.put, List.setIfInBounds_toArray, List.set_cons_zero, List.set_cons_succ])
          (refine wpD_plain 27 (v := ?_) rfl (by kernel_rfl) (by kernel_rfl) (by kernel_rfl) (fun _ _ _ h => h) (by rfl) ?_ (by assumption) ?_; rotate_left; (intro _w; go_simp; try with_reducible rfl); simp only [Act.put, List.setIfInBounds_toArray, List.set_cons_zero, List.set_cons_succ])
          (refine wpD_plain 28 (v := ?_) rfl (by kernel_rfl) (by kernel_rfl) (by kernel_rfl) (fun _ _ _ h => h) (by rfl) ?_ (by assumption) ?_; rotate_left; (intro _w; go_simp; try with_reducible rfl); simp only [Act.put, List.setIfInBounds_toArray, List.set_cons_zero, List.set_cons_succ])
          (refine wpD_skip 29 rfl (by kernel_rfl) (by kernel_rfl) (by kernel_rfl) (fun _ _ _ h => h) (by rfl) (by assumption) ?_; simp only [Act.put, List.setIfInBounds_toArray, List.set_cons_zero, List.set_cons_succ])
          (refine wpD_skip 30 rfl (by kernel_rfl) (by kernel_rfl) (by kernel_rfl) (fun _ _ _ h => h) (by rfl) (by assumption) ?_; simp only [Act.put, List.setIfInBounds_toArray, List.set_cons_zero, List.set_cons_succ])
          (refine wpD_skip 31 rfl (by kernel_rfl) (by kernel_rfl) (by kernel_rfl) (fun _ _ _ h => h) (by rfl) (by assumption) ?_; simp only [Act.put, List.setIfInBounds_toArray, List.set_cons_zero, List.set_cons_succ])
          (refine wpD_plain 32 (v := ?_) rfl (by kernel_rfl) (by kernel_rfl) (by kernel_rfl) (fun _ _ _ h => h) (by rfl) ?_ (by assumption) ?_; rotate_left; (intro _w; go_simp; try with_reducible rfl); simp only [Act.put, List.setIfInBounds_toArray, List.set_cons_zero, List.set_cons_succ])
          (refine wpD_plain 33 (v := ?_) rfl (by kernel_rfl) (by kernel_rfl) (by kernel_rfl) (fun _ _ _ h => h) (by rfl) ?_ (by assumption) ?_; rotate_left; (intro _w; go_simp; try with_reducible rfl); simp only [Act.put, List.setIfInBounds_toArray, List.set_cons_zero, List.set_cons_succ])
          (refine wpD_skip 34 rfl (by kernel_rfl) (by kernel_rfl) (by kernel_rfl) (fun _ _ _ h => h) (by rfl) (by assumption) ?_; simp only [Act.put, List.setIfInBounds_toArray, List.set_cons_zero, List.set_cons_succ])
          (refine wpD_skip 35 rfl (by kernel_rfl) (by kernel_rfl) (by kernel_rfl) (fun _ _ _ h => h) (by rfl) (by assumption) ?_; simp only [Act.put, List.setIfInBounds_toArray, List.set_cons_zero, List.set_cons_succ])
          (refine wpD_skip 36 rfl (by kernel_rfl) (by kernel_rfl) (by kernel_rfl) (fun _ _ _ h => h) (by rfl) (by assumption) ?_; simp only [Act.put, List.setIfInBounds_toArray, List.set_cons_zero, List.set_cons_succ])
          (refine wpD_skip 37 rfl (by kernel_rfl) (by kernel_rfl) (by kernel_rfl) (fun _ _ _ h => h) (by rfl) (by assumption) ?_; simp only [Act.put, List.setIfInBounds_toArray, List.set_cons_zero, List.set_cons_succ])
          (refine wpD_plain 38 (v := ?_) rfl (by kernel_rfl) (by kernel_rfl) (by kernel_rfl) (fun _ _ _ h => h) (by rfl) ?_ (by assumption) ?_; rotate_left; (intro _w; go_simp; try with_reducible rfl); simp only [Act.put, List.setIfInBounds_toArray, List.set_cons_zero, List.set_cons_succ])
          (refine wpD_plain 39 (v := ?_) rfl (by kernel_rfl) (by kernel_rfl) (by kernel_rfl) (fun _ _ _ h => h) (by rfl) ?_ (by assumption) ?_; rotate_left; (intro _w; go_simp; try with_reducible rfl); simp only [Act.put, List.setIfInBounds_toArray, List.set_cons_zero, List.set_cons_succ])
          clear hold
          refine wpD_done (by kernel_rfl) ?_ _
          try simp only [Act.put, List.setIfInBounds_toArray, List.set_cons_zero, List.set_cons_succ]
          have HF5 : Hid (Fr No wr w4.drew) := hid (Fr.trans' (b := w4) HF4.out (Fr.refl No w4).drew)
          have HB5 : Hid (Blk w4.drew k 126 (rsec true s.epoch s.life s.place s.kind s.size (.slice sa mz scp))) := hid (HBs.out.fr (Fr.refl No w4).drew id)
          have HO5 := hid (own_fr HO2.out (Fr.trans' (b := w4) HF24.out (Fr.refl No w4).drew) (fun _ _ e => e))
          clear e0 e1 eg e3 e2 e5 e4 z4
          generalize w4.drew = w5 at HF5 HB5 HO5 ⊢
          have e2 : w5.cell? ⟨k, 2, none⟩ = some (.int .u32 (s.life : Int)) := HB5.out.cell 2
          have e5 : w5.cell? ⟨k, 5, none⟩ = some (.int .i64 (s.size : Int)) := HB5.out.cell 5
          have e6 : w5.cell? ⟨k, 6, none⟩ = some (.slice sa mz scp) := HB5.out.cell 6
          have he : R = (c.recs, c.next) := by have h := HST.out; rw [hgo] at h; exact h
          have HE := hid he
          clear he hgo
          cases ib
          · go_wp2_with fail
            go_ret2
            exact ⟨_, rfl, HFIN.out _ HF5.out HE.out⟩
          · go_wp2_with fail
            go_ret2
            exact ⟨_, rfl, HFIN.out _ HF5.out HE.out⟩
      · have hrf : s.right = false := by cases hq : s.right <;> simp_all
        rw [hrf] at e0 HBs
        have hgo : goesB g.epoch h0 p c s = false := by simp [goesB, hrf]
        clear hr hrf
        have hold : Facts.hold [(1, fun w' => w'.cell? ⟨k, 0, none⟩ = some (.bool false))] w4.drew := Facts.cons_hold e0 (Facts.nil_hold _)
        refine wpD_region hold (by kernel_rfl) 40 rfl ?_
        (refine wpD_plain 0 (v := ?_) rfl (by kernel_rfl) (by kernel_rfl) (by kernel_rfl) (fun _ _ _ h => h) (by rfl) ?_ (by assumption) ?_; rotate_left; (intro _w; go_simp; try with_reducible rfl); simp only [Act.put, List.setIfInBounds_toArray, List.set_cons_zero, List.set_cons_succ])
        (refine wpD_take 1 _ rfl (by kernel_rfl) (by kernel_rfl) (by kernel_rfl) (fun _ _ _ h => h) List.mem_cons_self (by rfl) (v := ?_) ?_ (by assumption) ?_; rotate_left; (intro _w _hw; go_simp; try with_reducible rfl); simp only [Act.put, List.setIfInBounds_toArray, List.set_cons_zero, List.set_cons_succ])
        (refine wpD_plain 2 (v := ?_) rfl (by kernel_rfl) (by kernel_rfl) (by kernel_rfl) (fun _ _ _ h => h) (by rfl) ?_ (by assumption) ?_; rotate_left; (intro _w; go_simp; try with_reducible rfl); simp only [Act.put, List.setIfInBounds_toArray, List.set_cons_zero, List.set_cons_succ])
        (refine wpD_skip 3 rfl (by kernel_rfl) (by kernel_rfl) (by kernel_rfl) (fun _ _ _ h => h) (by rfl) (by assumption) ?_; simp only [Act.put, List.setIfInBounds_toArray, List.set_cons_zero, List.set_cons_succ])
        (refine wpD_skip 4 rfl (by kernel_rfl) (by kernel_rfl) (by kernel_rfl) (fun _ _ _ h => h) (by rfl) (by assumption) ?_; simp only [Act.put, List.setIfInBounds_toArray, List.set_cons_zero, List.set_cons_succ])
        (refine wpD_skip 5 rfl (by kernel_rfl) (by kernel_rfl) (by kernel_rfl) (fun _ _ _ h => h) (by rfl) (by assumption) ?_; simp only [Act.put, List.setIfInBounds_toArray, List.set_cons_zero, List.set_cons_succ])
        (refine wpD_skip 6 rfl (by kernel_rfl) (by kernel_rfl) (by kernel_rfl) (fun _ _ _ h => h) (by rfl) (by assumption) ?_; simp only [Act.put, List.setIfInBounds_toArray, List.set_cons_zero, List.set_cons_succ])
        (refine wpD_skip 7 rfl (by kernel_rfl) (by kernel_rfl) (by kernel_rfl) (fun _ _ _ h => h) (by rfl) (by assumption) ?_; simp only [Act.put, List.setIfInBounds_toArray, List.set_cons_zero, List.set_cons_succ])
        (refine wpD_skip 8 rfl (by kernel_rfl) (by kernel_rfl) (by kernel_rfl) (fun _ _ _ h => h) (by rfl) (by assumption) ?_; simp only [Act.put, List.setIfInBounds_toArray, List.set_cons_zero, List.set_cons_succ])
        (refine wpD_skip 9 rfl (by kernel_rfl) (by kernel_rfl) (by kernel_rfl) (fun _ _ _ h => h) (by rfl) (by assumption) ?_; simp only [Act.put, List.setIfInBounds_toArray, List.set_cons_zero, List.set_cons_succ])
        (refine wpD_plain 10 (v := ?_) rfl (by kernel_rfl) (by kernel_rfl) (by kernel_rfl) (fun _ _ _ h => h) (by rfl) ?_ (by assumption) ?_; rotate_left; (intro _w; go_simp; try with_reducible rfl); simp only [Act.put, List.setIfInBounds_toArray, List.set_cons_zero, List.set_cons_succ])
        (refine wpD_plain 11 (v := ?_) rfl (by kernel_rfl) (by kernel_rfl) (by kernel_rfl) (fun _ _ _ h => h) (by rfl) ?_ (by assumption) ?_; rotate_left; (intro _w; go_simp; try with_reducible rfl); simp only [Act.put, List.setIfInBounds_toArray, List.set_cons_zero, List.set_cons_succ])
        (refine wpD_skip 12 rfl (by kernel_rfl) (by kernel_rfl) (by kernel_rfl) (fun _ _ _ h => h) (by rfl) (by assumption) ?_; simp only [Act.put, List.setIfInBounds_toArray, List.set_cons_zero, List.set_cons_succ])
        (refine wpD_skip 13 rfl (by kernel_rfl) (by kernel_rfl) (by kernel_rfl) (fun _ _ _ h => h) (by rfl) (by assumption) ?_; simp only [Act.put, List.setIfInBounds_toArray, List.set_cons_zero, List.set_cons_succ])
        (refine wpD_skip 14 rfl (by kernel_rfl) (by kernel_rfl) (by kernel_rfl) (fun _ _ _ h => h) (by rfl) (by assumption) ?_; simp only [Act.put, List.setIfInBounds_toArray, List.set_cons_zero, List.set_cons_succ])
        (refine wpD_skip 15 rfl (by kernel_rfl) (by kernel_rfl) (by kernel_rfl) (fun _ _ _ h => h) (by rfl) (by assumption) ?_; simp only [Act.put, List.setIfInBounds_toArray, List.set_cons_zero, List.set_cons_succ])
        (refine wpD_plain 16 (v := ?_) rfl (by kernel_rfl) (by kernel_rfl) (by kernel_rfl) (fun _ _ _ h => h) (by rfl) ?_ (by assumption) ?_; rotate_left; (intro _w; go_simp; try with_reducible rfl); simp only [Act.put, List.setIfInBounds_toArray, List.set_cons_zero, List.set_cons_succ])
        (refine wpD_plain 17 (v := ?_) rfl (by kernel_rfl) (by kernel_rfl) (by kernel_rfl) (fun _ _ _ h => h) (by rfl) ?_ (by assumption) ?_; rotate_left; (intro _w; go_simp; try with_reducible rfl); simp only [Act.put, List.setIfInBounds_toArray, List.set_cons_zero, List.set_cons_succ])
        (refine wpD_skip 18 rfl (by kernel_rfl) (by kernel_rfl) (by kernel_rfl) (fun _ _ _ h => h) (by rfl) (by assumption) ?_; simp only [Act.put, List.setIfInBounds_toArray, List.set_cons_zero, List.set_cons_succ])
        (refine wpD_skip 19 rfl (by kernel_rfl) (by kernel_rfl) (by kernel_rfl) (fun _ _ _ h => h) (by rfl) (by assumption) ?_; simp only [Act.put, List.setIfInBounds_toArray, List.set_cons_zero, List.set_cons_succ])
        (refine wpD_skip 20 rfl (by kernel_rfl) (by kernel_rfl) (by kernel_rfl) (fun _ _ _ h => h) (by rfl) (by assumption) ?_; simp only [Act.put, List.setIfInBounds_toArray, List.set_cons_zero, List.set_cons_succ])
        (refine wpD_skip 21 rfl (by kernel_rfl) (by kernel_rfl) (by kernel_rfl) (fun _ _ _ h => h) (by rfl) (by assumption) ?_; simp only [Act.put, List.setIfInBounds_toArray, List.set_cons_zero, List.set_cons_succ])
        (refine wpD_plain 22 (v := ?_) rfl (by kernel_rfl) (by kernel_rfl) (by kernel_rfl) (fun _ _ _ h => h) (by rfl) ?_ (by assumption) ?_; rotate_left; (intro _w; go_simp; try with_reducible rfl); simp only [Act.put, List.setIfInBounds_toArray, List.set_cons_zero, List.set_cons_succ])
        (refine wpD_plain 23 (v := ?_) rfl (by kernel_rfl) (by kernel_rfl) (by kernel_rfl) (fun _ _ _ h => h) (by rfl) ?_ (by assumption) ?_; rotate_left; (intro _w; go_simp; try with_reducible rfl); simp only [Act.put, List.setIfInBounds_toArray, List.set_cons_zero, List.set_cons_succ])
        (refine wpD_skip 24 rfl (by kernel_rfl) (by kernel_rfl) (by kernel_rfl) (fun _ _ _ h => h) (by rfl) (by assumption) ?_; simp only [Act.put, List.setIfInBounds_toArray, List.set_cons_zero, List.set_cons_succ])
        (refine wpD_skip 25 rfl (by kernel_rfl) (by kernel_rfl) (by kernel_rfl) (fun _ _ _ h => h) (by rfl) (by assumption) ?_; simp only [Act.put, List.setIfInBounds_toArray, List.set_cons_zero, List.set_cons_succ])
        (refine wpD_skip 26 rfl (by kernel_rfl) (by kernel_rfl) (by kernel_rfl) (fun _ _ _ h => h) (by rfl) (by assumption) ?_; simp only [Act.put, List.setIfInBounds_toArray, List.set_cons_zero, List.set_cons_succ])
        (refine wpD_plain 27 (v := ?_) rfl (by kernel_rfl) (by kernel_rfl) (by kernel_rfl) (fun _ _ _ h => h) (by rfl) ?_ (by assumption) ?_; rotate_left; (intro _w; go_simp; try with_reducible rfl); simp only [Act.put, List.setIfInBounds_toArray, List.set_cons_zero, List.set_cons_succ])
        (refine wpD_plain 28 (v := ?_) rfl (by kernel_rfl) (by kernel_rfl) (by kernel_rfl) (fun _ _ _ h => h) (by rfl) ?_ (by assumption) ?_; rotate_left; (intro _w; go_simp; try with_reducible rfl); simp only [Act.put, List.setIfInBounds_toArray, List.set_cons_zero, List.set_cons_succ])
        (refine wpD_skip 29 rfl (by kernel_rfl) (by kernel_rfl) (by kernel_rfl) (fun _ _ _ h => h) (by rfl) (by assumption) ?_; simp only [Act.put, List.setIfInBounds_toArray, List.set_cons_zero, List.set_cons_succ])
        (refine wpD_skip 30 rfl (by kernel_rfl) (by kernel_rfl) (by kernel_rfl) (fun _ _ _ h => h) (by rfl) (by assumption) ?_; simp only [Act.put, List.setIfInBounds_toArray, List.set_cons_zero, List.set_cons_succ])
        (refine wpD_skip 31 rfl (by kernel_rfl) (by kernel_rfl) (by kernel_rfl) (fun _ _ _ h => h) (by rfl) (by assumption) ?_; simp only [Act.put, List.setIfInBounds_toArray, List.set_cons_zero, List.set_cons_succ])
        (refine wpD_plain 32 (v := ?_) rfl (by kernel_rfl) (by kernel_rfl) (by kernel_rfl) (fun _ _ _ h => h) (by rfl) ?_ (by assumption) ?_; rotate_left; (intro _w; go_simp; try with_reducible rfl); simp only [Act.put, List.setIfInBounds_toArray, List.set_cons_zero, List.set_cons_succ])
        (refine wpD_plain 33 (v := ?_) rfl (by kernel_rfl) (by kernel_rfl) (by kernel_rfl) (fun _ _ _ h => h) (by rfl) ?_ (by assumption) ?_; rotate_left; (intro _w; go_simp; try with_reducible rfl); simp only [Act.put, List.setIfInBounds_toArray, List.set_cons_zero, List.set_cons_succ])
        (refine wpD_skip 34 rfl (by kernel_rfl) (by kernel_rfl) (by kernel_rfl) (fun _ _ _ h => h) (by rfl) (by assumption) ?_; simp only [Act.put, List.setIfInBounds_toArray, List.set_cons_zero, List.set_cons_succ])
        (refine wpD_skip 35 rfl (by kernel_rfl) (by kernel_rfl) (by kernel_rfl) (fun _ _ _ h => h) (by rfl) (by assumption) ?_; simp only [Act.put, List.setIfInBounds_toArray, List.set_cons_zero, List.set_cons_succ])
        (refine wpD_skip 36 rfl (by kernel_rfl) (by kernel_rfl) (by kernel_rfl) (fun _ _ _ h => h) (by rfl) (by assumption) ?_; simp only [Act.put, List.setIfInBounds_toArray, List.set_cons_zero, List.set_cons_succ])
        (refine wpD_skip 37 rfl (by kernel_rfl) (by kernel_rfl) (by kernel_rfl) (fun _ _ _ h => h) (by rfl) (by assumption) ?_; simp only [Act.put, List.setIfInBounds_toArray, List.set_cons_zero, List.set_cons_succ])
        (refine wpD_plain 38 (v := ?_) rfl (by kernel_rfl) (by kernel_rfl) (by kernel_rfl) (fun _ _ _ h => h) (by rfl) ?_ (by assumption) ?_; rotate_left; (intro _w; go_simp; try with_reducible rfl); simp only [Act.put, List.setIfInBounds_toArray, List.set_cons_zero, List.set_cons_succ])
        (refine wpD_plain 39 (v := ?_) rfl (by kernel_rfl) (by kernel_rfl) (by kernel_rfl) (fun _ _ _ h => h) (by rfl) ?_ (by assumption) ?_; rotate_left; (intro _w; go_simp; try with_reducible rfl); simp only [Act.put, List.setIfInBounds_toArray, List.set_cons_zero, List.set_cons_succ])
        clear hold
        refine wpD_done (by kernel_rfl) ?_ _
        try simp only [Act.put, List.setIfInBounds_toArray, List.set_cons_zero, List.set_cons_succ]
        have HF5 : Hid (Fr No wr w4.drew) := hid (Fr.trans' (b := w4) HF4.out (Fr.refl No w4).drew)
        have HB5 : Hid (Blk w4.drew k 126 (rsec false s.epoch s.life s.place s.kind s.size (.slice sa mz scp))) := hid (HBs.out.fr (Fr.refl No w4).drew id)
        have HO5 := hid (own_fr HO2.out (Fr.trans' (b := w4) HF24.out (Fr.refl No w4).drew) (fun _ _ e => e))
        clear e0 e1 eg e3 e2 e5 e4 z4
        generalize w4.drew = w5 at HF5 HB5 HO5 ⊢
        have e2 : w5.cell? ⟨k, 2, none⟩ = some (.int .u32 (s.life : Int)) := HB5.out.cell 2
        have e5 : w5.cell? ⟨k, 5, none⟩ = some (.int .i64 (s.size : Int)) := HB5.out.cell 5
        have e6 : w5.cell? ⟨k, 6, none⟩ = some (.slice sa mz scp) := HB5.out.cell 6
        have he : R = (c.recs, c.next) := by have h := HST.out; rw [hgo] at h; exact h
        have HE := hid he
        clear he hgo
        cases ib
        · go_wp2_with fail
          go_ret2
          exact ⟨_, rfl, HFIN.out _ HF5.out HE.out⟩
        · go_wp2_with fail
          go_ret2
          exact ⟨_, rfl, HFIN.out _ HF5.out HE.out⟩
    · have hpe : p = g.count := by omega
      have hge : ¬ ((p : Int) < (g.count : Int)) := by omega
      have HE : Hid (R = (c.recs, c.next)) := hid (by have h := HS.out; rw [hpe, Nat.sub_self] at h; exact h.symm)
      clear hpe hlt
      go_wp2_with fail
      go_ret2
      exact ⟨_, rfl, HFIN.out _ (Fr.refl _ _) HE.out⟩
end Go.Proofs.Ytlnolnaapnijbaa.L
