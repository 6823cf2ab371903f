/-
  Package log: a life begins.
-/
import Derived.Test.YtlnolnaapnijbaaLogW
namespace Go.Proofs.Ytlnolnaapnijbaa.L
set_option maxRecDepth 100000
open Go.RowKit K

theorem headOk {n : Nat} (hn : n < 4294967296) : (⟨false, 0, n, 0, 4, 0, zeros48⟩ : Sec).Ok :=
  ⟨(by decide : (0 : Nat) < 4294967296), hn, (by decide : (0 : Nat) < 65536), (by decide : (4 : Nat) < 256), (by decide : (0 : Nat) < 256), rfl⟩
theorem look_sec_ok {w : World} {bd : Nat} {Z : Nat → Prop} {u : U} (h : Dk w bd Z u) {n : Nat} (hn : n < u.L.length) : (look (u.sec n)).Ok := look_ok (sec64 h hn)
theorem At.setLife {w : World} {bg bd : Nat} {Z : Nat → Prop} {g : Lg} {u : U} (h : At w bg bd Z g u) (n : Nat) (hn : n < 4294967296) : At (w.setCell ⟨bg, 4, none⟩ (.int .u32 n)) bg bd Z { g with life := n } u :=
  ⟨D.Rep.fr h.1 ((Fr.refl (fun k => k = bg) w).setCell _ _ (.inl rfl)) (fun k hk e => h.2.2.1 (by rw [← e]; exact hk)), h.2.1.set 4 _, h.2.2.1, ⟨h.2.2.2.c2, h.2.2.2.fit, h.2.2.2.n1, h.2.2.2.nc, h.2.2.2.ep, hn⟩⟩
theorem At.setNext {w : World} {bg bd : Nat} {Z : Nat → Prop} {g : Lg} {u : U} (h : At w bg bd Z g u) (n : Nat) (h1 : 1 ≤ n) (h2 : n ≤ g.count) : At (w.setCell ⟨bg, 5, none⟩ (.int .i64 n)) bg bd Z { g with next := n } u :=
  ⟨D.Rep.fr h.1 ((Fr.refl (fun k => k = bg) w).setCell _ _ (.inl rfl)) (fun k hk e => h.2.2.1 (by rw [← e]; exact hk)), h.2.1.set 5 _, h.2.2.1, ⟨h.2.2.2.c2, h.2.2.2.fit, h1, h2, h.2.2.2.ep, h.2.2.2.li⟩⟩
theorem buildHead (n : Int) (w : World) : (Instr.build 114 #[(1, .int .u32 n), (3, .int .i64 4)]).run Try.prog w =
    .ok (.agg (Value.int .u32 0 :: .int .u32 n :: .int .i64 0 :: .int .i64 4 :: .int .i64 0 :: u8s zeros48).toArray) w := by kernel_rfl
@[simp] theorem flush_L (u : U) : u.flush.2.L.length = u.L.length := by
  unfold U.flush
  (repeat' split) <;> simp
theorem flush_at {w w' : World} {bg bd : Nat} {Z : Nat → Prop} {g : Lg} {u : U} (h : At w bg bd Z g u) (hd : Dk w' bd Z u.flush.2) (hf : Fr Z w w') : At w' bg bd Z g u.flush.2 :=
  ⟨hd, h.2.1.fr hf h.2.2.1, h.2.2.1, by rw [flush_L]; exact h.2.2.2⟩

set_option maxHeartbeats 4000000 in
theorem begin_any (w : World) (bg bd : Nat) (Z : Nat → Prop) (g : Lg) (u : U) (h : At w bg bd Z g u) (hg : g.life = 0) (hp : u.P.length < 1000000) :
    Calls Try.prog 56 #[.pointer (some ⟨bg, 0, none⟩)] w fun e w' =>
      e = .returned (.int .i64 (u.begin g.first).1) ∧
        ∃ Z' li, At w' bg bd Z' { g with life := li } (u.begin g.first).2.1 ∧ Fr (fun k => Z k ∨ k = bg) w w' ∧ Grows w Z Z' ∧ ((u.begin g.first).1 = 0 → li = (u.begin g.first).2.2 + 1) := by
  have hn : g.first + 0 < u.L.length := by have := h.2.2.2.fit; have := h.2.2.2.c2; omega
  cases hu : u.up with
  | false =>
    have e1 : u.begin g.first = (10, u, 0) := by simp [U.begin, hu]
    rw [e1]
    have HR := hid (read_down w bg bd Z g u 0 h hn hu)
    have HA := hid h
    clear h hu e1
    go_enter Try.func56, Try.ntmps56
    go_wp2_with fail
    refine HR.out.mono ?_
    rintro e w1 ⟨rfl, hf⟩
    have HF1 := hid hf; clear hf
    go_wp2_with (first
      | ((with_reducible show wpList _ _ _ ({ dst := _, op := .alloc 114, type := _, pos := _, after := _, guard := _ } :: _) _ _); refine wpL_alloc rfl _ rfl _ zero87 (secCells noSec) rfl ?_; intro w2 HB2 HF2 HS2)
      | ((with_reducible show wpList _ _ _ ({ dst := _, op := .store 114 _ _, type := _, pos := _, after := _, guard := _ } :: _) _ _); refine wpL_store rfl _ _ _ rfl w1.heap.size 0 (secCells noSec) rfl rfl _ _ HB2.out (by simp only [sec_len]; decide) (by rw [info87, sec_len]; rfl) (sec_one _) ?_; intro w3 HB3 HF3 HS3))
    go_ret
    have hF : Fr No w w3 := (HF1.out.trans' HF2.out).trans HF3.out (fun k hk => .inr (by rw [hk]; exact HF1.out.size))
    refine ⟨rfl, Z, g.life, HA.out.no hF, hF.no, Grows.refl _ _, fun e => by simp at e⟩
  | true =>
    have hok := look_sec_ok h.1 hn
    have HR := hid (read_up w bg bd Z g u 0 h hn hu)
    rw [Nat.add_zero] at HR hok
    have hb : u.begin g.first = (let h := headLife (look (u.sec g.first)); if h = 4294967295 then (3, u, h) else
      let a := u.write (g.first : Nat) (made 0 (h + 1) 0 4 0 zeros48); if a.1 ≠ 0 then (a.1, a.2, h) else (a.2.flush.1, a.2.flush.2, h)) := by
      simp only [U.begin, hu]; rfl
    generalize u.begin g.first = r at hb ⊢
    generalize look (u.sec g.first) = s at HR hok hb ⊢
    have HBE := hid hb
    have h0 := hok.li
    have HSl : Hid ((secCells s).length = 53) := hid (by rw [sec_len, hok.by48])
    have HA := hid h; have HP := hid hp
    have hbgl : Hid (bg < w.heap.size) := hid h.2.1.lt
    clear hb h hp hn hu
    have hkd : (s.kind : Int) ≤ 255 := by have := hok.kd; omega
    have hpd : (s.place : Int) ≤ 65535 := by have := hok.pl; omega
    go_enter Try.func56, Try.ntmps56
    go_wp2_with fail
    refine HR.out.mono ?_
    rintro e w1 ⟨rfl, hf⟩
    have HF1 := hid hf; clear hf
    by_cases hh : s.right = true ∧ s.kind = 4 ∧ s.place = 0
    · have HL : Hid (headLife s = s.life) := hid (if_pos hh)
      obtain ⟨hr, hk, hpz⟩ := hh
      have k4 : ((s.kind : Int) == 4) = true := by simp; omega
      have p0 : ((s.place : Int) == 0) = true := by simp; omega
      rw [hr]
      by_cases hm : s.life = 4294967295
      · have m1 : ((s.life : Int) == 4294967295) = true := by simp; omega
        go_wp2_with (first
          | ((with_reducible show wpList _ _ _ ({ dst := _, op := .alloc 114, type := _, pos := _, after := _, guard := _ } :: _) _ _); refine wpL_alloc rfl _ rfl _ zero87 (secCells noSec) rfl ?_; intro w2 HB2 HF2 HS2)
          | ((with_reducible show wpList _ _ _ ({ dst := _, op := .store 114 _ _, type := _, pos := _, after := _, guard := _ } :: _) _ _); refine wpL_store rfl _ _ _ rfl w1.heap.size 0 (secCells s) rfl rfl _ _ HB2.out (by rw [HSl.out]; decide) (by rw [info87, HSl.out]) (sec_one _) ?_; intro w3 HB3 HF3 HS3;
              have HB3' : Hid (Blk w3 w1.heap.size 114 (secCells s)) := hid (by have := HB3.out; rwa [spl_all (by rw [HSl.out]; rfl)] at this);
              have b3 : w3.cell? ⟨w1.heap.size, 3, none⟩ = some (.int .i64 s.kind) := HB3'.out.cell 3;
              have b2 : w3.cell? ⟨w1.heap.size, 2, none⟩ = some (.int .i64 s.place) := HB3'.out.cell 2;
              have b1 : w3.cell? ⟨w1.heap.size, 1, none⟩ = some (.int .u32 s.life) := HB3'.out.cell 1;
              have hF3 : Hid (Fr No w w3) := hid ((HF1.out.trans' HF2.out).trans HF3.out (fun k hk => .inr (by rw [hk]; exact HF1.out.size)));
              have c4 : w3.cell? ⟨bg, 4, none⟩ = some (.int .u32 0) := (by have := hF3.out.cell (HA.out.2.1.cell 4) id; rw [this]; simp [lgCells, hg]);
              have f4 : w3.frozen? ⟨bg, 4, none⟩ = false := (HA.out.2.1.fr hF3.out id).frozen 4)
          | ((with_reducible show wpList _ _ _ ({ dst := _, op := .build 114 _, type := _, pos := _, after := _, guard := _ } :: _) _ _); refine wpL_build rfl _ [(1, .tmp 48), (3, .const (.int .i64 4))] rfl _ (buildHead _ _) ?_))
        go_ret
        have e1 : r = (3, u, headLife s) := by
          have := HBE.out
          simp only [HL.out, hm, if_true] at this
          rw [this, HL.out, hm]
        rw [e1]
        have hx := (HA.out.no hF3.out).setLife 4294967295 (by decide)
        exact ⟨rfl, Z, 4294967295, hx, hF3.out.no.setCell _ _ (.inl (.inr rfl)), Grows.refl _ _, fun e => by simp at e⟩
      · have m1 : ((s.life : Int) == 4294967295) = false := by simp; omega
        have m2 : (s.life : Int) < 4294967295 := by omega
        go_wp2_with (first
          | ((with_reducible show wpList _ _ _ ({ dst := _, op := .alloc 114, type := _, pos := _, after := _, guard := _ } :: _) _ _); refine wpL_alloc rfl _ rfl _ zero87 (secCells noSec) rfl ?_; intro w2 HB2 HF2 HS2)
          | ((with_reducible show wpList _ _ _ ({ dst := _, op := .store 114 _ _, type := _, pos := _, after := _, guard := _ } :: _) _ _); refine wpL_store rfl _ _ _ rfl w1.heap.size 0 (secCells s) rfl rfl _ _ HB2.out (by rw [HSl.out]; decide) (by rw [info87, HSl.out]) (sec_one _) ?_; intro w3 HB3 HF3 HS3;
              have HB3' : Hid (Blk w3 w1.heap.size 114 (secCells s)) := hid (by have := HB3.out; rwa [spl_all (by rw [HSl.out]; rfl)] at this);
              have b3 : w3.cell? ⟨w1.heap.size, 3, none⟩ = some (.int .i64 s.kind) := HB3'.out.cell 3;
              have b2 : w3.cell? ⟨w1.heap.size, 2, none⟩ = some (.int .i64 s.place) := HB3'.out.cell 2;
              have b1 : w3.cell? ⟨w1.heap.size, 1, none⟩ = some (.int .u32 s.life) := HB3'.out.cell 1;
              have hF3 : Hid (Fr No w w3) := hid ((HF1.out.trans' HF2.out).trans HF3.out (fun k hk => .inr (by rw [hk]; exact HF1.out.size)));
              have c4 : w3.cell? ⟨bg, 4, none⟩ = some (.int .u32 0) := (by have := hF3.out.cell (HA.out.2.1.cell 4) id; rw [this]; simp [lgCells, hg]);
              have f4 : w3.frozen? ⟨bg, 4, none⟩ = false := (HA.out.2.1.fr hF3.out id).frozen 4)
          | ((with_reducible show wpList _ _ _ ({ dst := _, op := .build 114 _, type := _, pos := _, after := _, guard := _ } :: _) _ _); refine wpL_build rfl _ [(1, .tmp 48), (3, .const (.int .i64 4))] rfl _ (buildHead _ _) ?_))
        rw [show ((s.life : Int) + 1) = ((s.life + 1 : Nat) : Int) from rfl]
        have HFX : Hid (Fr (fun k => Z k ∨ k = bg) w ((w3.setCell ⟨bg, 4, none⟩ (.int .u32 s.life)).setCell ⟨bg, 4, none⟩ (.int .u32 ((s.life + 1 : Nat) : Int)))) := hid ((hF3.out.no.setCell _ _ (.inl (.inr rfl))).setCell _ _ (.inl (.inr rfl)))
        have HX := hid (((HA.out.no hF3.out).setLife s.life h0).setLife (s.life + 1) (by omega))
        refine (write_any _ bg bd Z _ u ⟨false, 0, s.life + 1, 0, 4, 0, zeros48⟩ HX.out (headOk (by omega)) HP.out).mono ?_
        rintro e' w5 ⟨rfl, Z1, hA, hF, hG⟩
        have hr' : r = (let a := u.write (g.first : Nat) (made 0 (s.life + 1) 0 4 0 zeros48); if a.1 ≠ 0 then (a.1, a.2, s.life) else (a.2.flush.1, a.2.flush.2, s.life)) := by
          have := HBE.out
          rw [HL.out] at this
          rw [this]
          exact if_neg (by omega)
        simp only [Nat.add_zero] at hA hF hG ⊢
        generalize u.write (g.first : Nat) (made 0 (s.life + 1) 0 4 0 zeros48) = a at hA hr' ⊢
        obtain ⟨a1, a2⟩ := a
        simp only at hA hr' ⊢
        have HA5 := hid hA
        have hZ1 : ∀ k, Z1 k → Z k ∨ w.heap.size ≤ k := fun k hk => (hG k hk).imp id (fun h => Nat.le_trans HFX.out.size h)
        have HZ1 := hid hZ1
        have HF5 : Hid (Fr (fun k => Z k ∨ k = bg) w w5) := hid (HFX.out.trans hF (fun k hk => .inl (.inl hk)))
        have HR' := hid hr'
        clear hA hF hG hr' hZ1
        by_cases ha : a1 = 0
        · subst ha
          have c0 : w5.cell? ⟨bg, 0, none⟩ = some (.pointer (some ⟨bd, 0, none⟩)) := HA5.out.2.1.cell 0
          go_wp2_with fail
          refine (dflush_any HA5.out.1).mono ?_
          rintro e' w6 ⟨rfl, hd, hf⟩
          have HA6 := hid (flush_at HA5.out hd hf)
          have HF6 : Hid (Fr (fun k => Z k ∨ k = bg) w w6) := hid (HF5.out.trans hf (fun k hk => (HZ1.out k hk).imp .inl id))
          have HR2 : Hid (r = (a2.flush.1, a2.flush.2, s.life)) := hid (HR'.out.trans (if_neg (by simp)))
          clear hd hf
          go_wp2_with fail
          go_ret
          rw [HR2.out]
          exact ⟨rfl, Z1, _, HA6.out, HF6.out, HZ1.out, fun _ => rfl⟩
        · have a0 : (a1 != 0) = true := by simp [ha]
          have HR2 : Hid (r = (a1, a2, s.life)) := hid (HR'.out.trans (if_pos ha))
          have HNA := hid ha; clear ha
          go_wp2_with fail
          go_ret
          rw [HR2.out]
          exact ⟨rfl, Z1, _, HA5.out, HF5.out, HZ1.out, fun e => absurd e HNA.out⟩

    · have HL : Hid (headLife s = 0) := hid (if_neg hh)
      have n3 : ¬ (s.right = true ∧ (s.kind : Int) = 4 ∧ (s.place : Int) = 0) := fun e => hh ⟨e.1, by omega, by omega⟩
      have hno : ((s.right && ((s.kind : Int) == 4)) && ((s.place : Int) == 0)) = false := by
        rw [Bool.eq_false_iff]; intro e; simp only [Bool.and_eq_true, beq_iff_eq] at e; exact n3 ⟨e.1.1, e.1.2, e.2⟩
      have N3 := hid n3
      clear n3 hh
      go_wp2_with (first
        | ((with_reducible show wpList _ _ _ ({ dst := _, op := .alloc 114, type := _, pos := _, after := _, guard := _ } :: _) _ _); refine wpL_alloc rfl _ rfl _ zero87 (secCells noSec) rfl ?_; intro w2 HB2 HF2 HS2)
        | ((with_reducible show wpList _ _ _ ({ dst := _, op := .store 114 _ _, type := _, pos := _, after := _, guard := _ } :: _) _ _); refine wpL_store rfl _ _ _ rfl w1.heap.size 0 (secCells s) rfl rfl _ _ HB2.out (by rw [HSl.out]; decide) (by rw [info87, HSl.out]) (sec_one _) ?_; intro w3 HB3 HF3 HS3;
            have HB3' : Hid (Blk w3 w1.heap.size 114 (secCells s)) := hid (by have := HB3.out; rwa [spl_all (by rw [HSl.out]; rfl)] at this);
            have b3 : w3.cell? ⟨w1.heap.size, 3, none⟩ = some (.int .i64 s.kind) := HB3'.out.cell 3;
            have b2 : w3.cell? ⟨w1.heap.size, 2, none⟩ = some (.int .i64 s.place) := HB3'.out.cell 2;
            have b1 : w3.cell? ⟨w1.heap.size, 1, none⟩ = some (.int .u32 s.life) := HB3'.out.cell 1;
            have hF3 : Hid (Fr No w w3) := hid ((HF1.out.trans' HF2.out).trans HF3.out (fun k hk => .inr (by rw [hk]; exact HF1.out.size)));
            have c4 : w3.cell? ⟨bg, 4, none⟩ = some (.int .u32 0) := (by have := hF3.out.cell (HA.out.2.1.cell 4) id; rw [this]; simp [lgCells, hg]);
            have f4 : w3.frozen? ⟨bg, 4, none⟩ = false := (HA.out.2.1.fr hF3.out id).frozen 4)
        | ((with_reducible show wpList _ _ _ ({ dst := _, op := .build 114 _, type := _, pos := _, after := _, guard := _ } :: _) _ _); refine wpL_build rfl _ [(1, .tmp 48), (3, .const (.int .i64 4))] rfl _ (buildHead _ _) ?_))
      all_goals
        first
        | (exfalso
           exact N3.out ⟨‹s.right = true›, ‹(s.kind : Int) = 4›, by simpa using ‹((s.place : Int) == 0) = true›⟩)
        | skip
      all_goals
          have HFX : Hid (Fr (fun k => Z k ∨ k = bg) w (w3.setCell ⟨bg, 4, none⟩ (.int .u32 1))) := hid (hF3.out.no.setCell _ _ (.inl (.inr rfl)))
          have HX := hid ((HA.out.no hF3.out).setLife (0 + 1) (by decide))
          refine (write_any _ bg bd Z _ u ⟨false, 0, 0 + 1, 0, 4, 0, zeros48⟩ HX.out (headOk (by omega)) HP.out).mono ?_
          rintro e' w5 ⟨rfl, Z1, hA, hF, hG⟩
          have hr' : r = (let a := u.write (g.first : Nat) (made 0 (0 + 1) 0 4 0 zeros48); if a.1 ≠ 0 then (a.1, a.2, 0) else (a.2.flush.1, a.2.flush.2, 0)) := by
            have := HBE.out
            rw [HL.out] at this
            rw [this]
            exact if_neg (by omega)
          simp only [Nat.add_zero] at hA hF hG ⊢
          generalize u.write (g.first : Nat) (made 0 (0 + 1) 0 4 0 zeros48) = a at hA hr' ⊢
          obtain ⟨a1, a2⟩ := a
          simp only at hA hr' ⊢
          have HA5 := hid hA
          have hZ1 : ∀ k, Z1 k → Z k ∨ w.heap.size ≤ k := fun k hk => (hG k hk).imp id (fun h => Nat.le_trans HFX.out.size h)
          have HZ1 := hid hZ1
          have HF5 : Hid (Fr (fun k => Z k ∨ k = bg) w w5) := hid (HFX.out.trans hF (fun k hk => .inl (.inl hk)))
          have HR' := hid hr'
          clear hA hF hG hr' hZ1
          by_cases ha : a1 = 0
          · subst ha
            have c0 : w5.cell? ⟨bg, 0, none⟩ = some (.pointer (some ⟨bd, 0, none⟩)) := HA5.out.2.1.cell 0
            go_wp2_with fail
            refine (dflush_any HA5.out.1).mono ?_
            rintro e' w6 ⟨rfl, hd, hf⟩
            have HA6 := hid (flush_at HA5.out hd hf)
            have HF6 : Hid (Fr (fun k => Z k ∨ k = bg) w w6) := hid (HF5.out.trans hf (fun k hk => (HZ1.out k hk).imp .inl id))
            have HR2 : Hid (r = (a2.flush.1, a2.flush.2, 0)) := hid (HR'.out.trans (if_neg (by simp)))
            clear hd hf
            go_wp2_with fail
            go_ret
            rw [HR2.out]
            exact ⟨rfl, Z1, _, HA6.out, HF6.out, HZ1.out, fun _ => rfl⟩
          · have a0 : (a1 != 0) = true := by simp [ha]
            have HR2 : Hid (r = (a1, a2, 0)) := hid (HR'.out.trans (if_pos ha))
            have HNA := hid ha; clear ha
            go_wp2_with fail
            go_ret
            rw [HR2.out]
            exact ⟨rfl, Z1, _, HA5.out, HF5.out, HZ1.out, fun e => absurd e HNA.out⟩
end Go.Proofs.Ytlnolnaapnijbaa.L
