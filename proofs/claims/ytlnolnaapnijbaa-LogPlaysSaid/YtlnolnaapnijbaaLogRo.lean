/-
  The document's log: Open.
-/
import Derived.Test.YtlnolnaapnijbaaLogRd
import Derived.Test.YtlnolnaapnijbaaLogO
namespace Go.Proofs.Ytlnolnaapnijbaa.L
set_option maxRecDepth 100000
open Go.RowKit K

theorem buildRLog (p : Value) (a b c e : Int) (w : World) (hp : p.oneCell' = true) : (Instr.build 93 #[(0, p), (1, .int .i64 a), (2, .int .i64 b), (3, .int .u32 c), (4, .int .u32 e), (5, .int .i64 1)]).run Try.prog w =
    .ok (.agg #[p, .int .i64 a, .int .i64 b, .int .u32 c, .int .u32 e, .int .i64 1]) w := by
  cases p <;> first | (simp [Value.oneCell'] at hp; done) | kernel_rfl
theorem flush_up (q : U) : q.flush.1 = 0 → q.flush.2.up = true := by
  unfold U.flush
  intro h
  by_cases h1 : q.up = false
  · rw [if_pos h1] at h; simp at h
  · rw [if_neg h1] at h ⊢
    by_cases h2 : q.spend.1 = false
    · rw [if_pos h2] at h; simp at h
    · rw [if_neg h2]
      have h3 : q.up = true := by cases hq : q.up <;> simp_all
      show q.spend.2.up = true
      rw [spend_up q (by cases hq : q.spend.1 <;> simp_all)]
      exact h3
/-- What the document's Open leaves. -/
def OpenedR (w : World) (bd : Nat) (Z : Nat → Prop) (r : Int × U × Option (Lg × List (List UInt8))) (e : Ending) (w' : World) : Prop :=
  ∃ Z', Fr Z w w' ∧ Grows w Z Z' ∧
    match r.2.2 with
    | none => e = .returned (.tuple #[.pointer none, .slice none 0 0, .int .i64 r.1]) ∧ Rk w' bd Z' r.2.1
    | some (g, recs) => ∃ bg v, e = .returned (.tuple #[.pointer (some ⟨bg, 0, none⟩), v, .int .i64 0]) ∧ w.heap.size ≤ bg ∧ AtR w' bg bd Z' g r.2.1 ∧ TextsIn w' (fun k => w.heap.size ≤ k ∧ ¬ Z' k ∧ k ≠ bg) v recs
theorem rlen {w : World} {bd : Nat} {Z : Nat → Prop} {u : U} (h : Rk w bd Z u) : ∃ bl, w.cell? ⟨bd, 0, none⟩ = some (.slice (some ⟨bl, 0, none⟩) u.L.length u.L.length) := by
  obtain ⟨bl, pv, c0, c1, c2, c3⟩ := D.Rep.cells h
  have e : (u.st).L.length = u.L.length := by simp [U.st]
  rw [e] at c0
  exact ⟨bl, c0⟩
section
variable {w : World} {bd : Nat} {Z : Nat → Prop} {u : U}
set_option maxHeartbeats 8000000 in
theorem ropen_bad (first count : Int) (e : Int) (h : Rk w bd Z u) (h9 : first ≤ 9223372036854775807) (hno : first < 0 ∨ count < 2 ∨ (u.L.length : Int) < first + count) :
    Calls Try.prog 29 #[.pointer (some ⟨bd, 0, none⟩), .int .i64 first, .int .i64 count, .int .u32 e] w fun e' w' => e' = .returned (.tuple #[.pointer none, .slice none 0 0, .int .i64 1]) ∧ w = w' := by
  have hL : (u.L.length : Int) ≤ 4096 := by have := h.ok.n1; simp [U.st] at this; omega
  obtain ⟨bl, c0⟩ := rlen h
  clear h
  by_cases h1 : first < 0
  · go_enter Try.func29, Try.ntmps29
    go_wp2_with fail
    refine ret_three rfl rfl ?_
    exact ⟨rfl, rfl⟩
  by_cases h2 : count < 2
  · have h1' : 0 ≤ first := by omega
    go_enter Try.func29, Try.ntmps29
    go_wp2_with fail
    refine ret_three rfl rfl ?_
    exact ⟨rfl, rfl⟩
  by_cases h3 : 4096 < count
  · have h1' : 0 ≤ first := by omega
    have h2' : 2 ≤ count := by omega
    go_enter Try.func29, Try.ntmps29
    go_wp2_with fail
    refine ret_three rfl rfl ?_
    exact ⟨rfl, rfl⟩
  by_cases h4 : 4096 < first
  · have h1' : 0 ≤ first := by omega
    have h2' : 2 ≤ count := by omega
    have h3' : count ≤ 4096 := by omega
    go_enter Try.func29, Try.ntmps29
    go_wp2_with fail
    refine ret_three rfl rfl ?_
    exact ⟨rfl, rfl⟩
  · have h1' : 0 ≤ first := by omega
    have h2' : 2 ≤ count := by omega
    have h3' : count ≤ 4096 := by omega
    have h4' : first ≤ 4096 := by omega
    have h5 : (u.L.length : Int) < first + count := by omega
    go_enter Try.func29, Try.ntmps29
    go_wp2_with fail
    refine ret_three rfl rfl ?_
    exact ⟨rfl, rfl⟩
set_option maxHeartbeats 16000000 in
theorem ropen_any (first count ep : Nat) (h : Rk w bd Z u) (hc : 2 ≤ count) (hf : first + count ≤ u.L.length) (he : ep < 4294967296) (hp : u.P.length < 1000000) :
    Calls Try.prog 29 #[.pointer (some ⟨bd, 0, none⟩), .int .i64 first, .int .i64 count, .int .u32 ep] w (OpenedR w bd Z (u.opens first count ep)) := by
  have hL : (u.L.length : Int) ≤ 4096 := by have := h.ok.n1; simp [U.st] at this; omega
  obtain ⟨bl, c0⟩ := rlen h
  have H := hid h
  have hfl : first < u.L.length := by omega
  have h1i : (0 : Int) ≤ first := by omega
  have h2i : (2 : Int) ≤ count := by omega
  have h3i : (count : Int) ≤ 4096 := by omega
  have h4i : (first : Int) ≤ 4096 := by omega
  have h5i : (first : Int) + count ≤ u.L.length := by omega
  have HFit := hid hf; have HC := hid hc; have HE := hid he; have HP := hid hp; have HFL := hid hfl
  have HR : Hid (u.opens first count ep = (let b := u.begin first; if b.1 ≠ 0 then (b.1, b.2.1, none) else
      let r := b.2.1.load first count ep b.2.2; (0, b.2.1, some (⟨first, count, ep, b.2.2 + 1, r.2⟩, r.1)))) := hid rfl
  generalize u.opens first count ep = r at HR ⊢
  obtain ⟨b, hb⟩ : ∃ b, u.begin first = b := ⟨_, rfl⟩
  rw [hb] at HR
  have HB : Hid (b = (if u.up = false then (10, u, 0) else
    let h := headLife (look (u.sec first))
    if h = 4294967295 then (3, u, h) else
    let a := u.write first (made 0 (h + 1) 0 4 0 zeros48)
    if a.1 ≠ 0 then (a.1, a.2, h) else
    let f := a.2.flush
    (f.1, f.2, h))) := hid (by rw [← hb]; rfl)
  clear h hc hf he hp hfl hb
  by_cases hu : u.up = false
  · have hb : b = (10, u, 0) := HB.out.trans (if_pos hu)
    have hr : r = (10, u, none) := by have h := HR.out; rw [hb] at h; exact h
    have HR1 := hid hr
    have HU := hid hu
    clear hb hr hu
    go_enter Try.func29, Try.ntmps29
    go_wp2_with fail
    refine (rread_down first H.out HFL.out HU.out).mono ?_
    rintro e' w1 ⟨ra, rcap, rfl, hf⟩
    have HF1 := hid hf
    clear hf c0
    go_wp2_with fail
    refine ret_three rfl rfl ?_
    rw [HR1.out]
    exact ⟨Z, HF1.out.no, Grows.refl _ _, rfl, D.Rep.no H.out HF1.out⟩
  have hu1 : u.up = true := by cases hq : u.up <;> simp_all
  have HU := hid hu1
  have HB2 := hid (HB.out.trans (if_neg hu))
  clear HB hu hu1
  have HSL : Hid ((u.sec first).length = 64) := hid (rsec64 H.out HFL.out)
  have HSok : Hid ((look (u.sec first)).Ok) := hid (rlook_ok H.out HFL.out)
  go_enter Try.func29, Try.ntmps29
  go_wp2_with fail
  refine (rread_up first H.out HFL.out HU.out).mono ?_
  rintro e' w1 ⟨ra, rcap, rfl, hrc, hsa, ⟨rk, ro, rfl, -, -⟩, hf⟩
  have HRC := hid hrc; have HSA := hid hsa; have HF1 := hid hf
  clear hrc hsa hf c0
  go_wp2_with fail
  refine (rlook_any (u.sec first) rk ro rcap w1 HSL.out HSA.out HRC.out).mono ?_
  generalize look (u.sec first) = s at HSok HB2 ⊢
  rintro e' w2 ⟨sa, scp, rfl, o2, f2⟩
  have HF2 := hid f2
  obtain ⟨mz, hmz⟩ : ∃ m, min s.size 48 = m := ⟨_, rfl⟩
  rw [hmz]
  clear o2 f2 hmz
  have hkd : (s.kind : Int) ≤ 255 := by have := HSok.out.kd; omega
  have hpd : (s.place : Int) ≤ 65535 := by have := HSok.out.pl; omega
  have HLF := hid HSok.out.li
  by_cases hr : s.right = true
  · rw [hr]
    by_cases hk : s.kind = 4
    · have hki : (s.kind : Int) = 4 := by omega
      by_cases hpl : s.place = 0
      · have hpi : (s.place : Int) = 0 := by omega
        have HH : Hid (headLife s = s.life) := hid (by unfold headLife; rw [if_pos ⟨hr, hk, hpl⟩])
        clear hk hpl hr
        by_cases hlf : s.life = 4294967295
        · have hli : (s.life : Int) = 4294967295 := by omega
          have hb : b = (3, u, s.life) := by have h := HB2.out; simp only [HH.out] at h; rw [if_pos hlf] at h; exact h
          have hr : r = (3, u, none) := by have h := HR.out; rw [hb] at h; exact h
          have HR1 := hid hr
          clear hb hr hlf
          go_wp2_with (first
            | ((with_reducible show wpList _ _ _ ({ dst := _, op := .alloc 126, type := _, pos := _, after := _, guard := _ } :: _) _ _); refine wpL_alloc rfl _ rfl _ zero99 (rsec false 0 0 0 0 0 (.slice none 0 0)) rfl ?_; intro w3 HBx HF3 HS3)
            | ((with_reducible show wpList _ _ _ ({ dst := _, op := .store 126 _ _, type := _, pos := _, after := _, guard := _ } :: _) _ _); refine wpL_store rfl _ _ _ rfl w2.heap.size 0 (rsec true s.epoch s.life s.place s.kind s.size (.slice sa mz scp)) rfl rfl _ _ HBx.out (by simp [rsec]) (by rw [info99]; rfl) (by intro v hv; simp [rsec] at hv; rcases hv with rfl | rfl | rfl | rfl | rfl | rfl | rfl <;> rfl) ?_; intro w4 HB4 HF4 HS4;
                have HBs : Hid (Blk w4 w2.heap.size 126 (rsec true s.epoch s.life s.place s.kind s.size (.slice sa mz scp))) := hid (by have := HB4.out; rwa [spl_all (by simp [rsec])] at this);
                have c0 : w4.cell? ⟨w2.heap.size, 0, none⟩ = some (.bool true) := HBs.out.cell 0; have c2 : w4.cell? ⟨w2.heap.size, 2, none⟩ = some (.int .u32 (s.life : Int)) := HBs.out.cell 2; have c3 : w4.cell? ⟨w2.heap.size, 3, none⟩ = some (.int .i64 s.place) := HBs.out.cell 3; have c4 : w4.cell? ⟨w2.heap.size, 4, none⟩ = some (.int .i64 s.kind) := HBs.out.cell 4))
          have HF4' : Hid (Fr No w w4) := hid ((HF1.out.trans' HF2.out).trans' (HF3.out.trans HF4.out (fun k hk => .inr (Nat.le_of_eq hk.symm))))
          clear HF4
          have HF4 := HF4'
          refine ret_three rfl rfl ?_
          rw [HR1.out]
          exact ⟨Z, HF4.out.no, Grows.refl _ _, rfl, D.Rep.no H.out HF4.out⟩
        · have hli : ¬ ((s.life : Int) = 4294967295) := by omega
          have hlw : (s.life : Int) < 4294967295 := by have := HLF.out; omega
          have HLW : Hid (s.life < 4294967295) := hid (by omega)
          have HB3 := HB2.out
          simp only [HH.out] at HB3
          rw [if_neg hlf] at HB3
          obtain ⟨lf1, hlf1⟩ : ∃ l, s.life + 1 = l := ⟨_, rfl⟩
          rw [hlf1] at HB3
          have HLf1 := hid hlf1
          have HB3 := hid HB3
          have hmod : ((s.life : Int) + 1) % 4294967296 = (lf1 : Int) := by omega
          have hbf : ((s.life : Int) == 4294967295) = false := by simp only [beq_eq_false_iff_ne, ne_eq]; exact hli
          clear hlf hlf1 hli hlw
          go_wp2_with (first
            | ((with_reducible show wpList _ _ _ ({ dst := _, op := .alloc 126, type := _, pos := _, after := _, guard := _ } :: _) _ _); refine wpL_alloc rfl _ rfl _ zero99 (rsec false 0 0 0 0 0 (.slice none 0 0)) rfl ?_; intro w3 HBx HF3 HS3)
            | ((with_reducible show wpList _ _ _ ({ dst := _, op := .store 126 _ _, type := _, pos := _, after := _, guard := _ } :: _) _ _); refine wpL_store rfl _ _ _ rfl w2.heap.size 0 (rsec true s.epoch s.life s.place s.kind s.size (.slice sa mz scp)) rfl rfl _ _ HBx.out (by simp [rsec]) (by rw [info99]; rfl) (by intro v hv; simp [rsec] at hv; rcases hv with rfl | rfl | rfl | rfl | rfl | rfl | rfl <;> rfl) ?_; intro w4 HB4 HF4 HS4;
                have HBs : Hid (Blk w4 w2.heap.size 126 (rsec true s.epoch s.life s.place s.kind s.size (.slice sa mz scp))) := hid (by have := HB4.out; rwa [spl_all (by simp [rsec])] at this);
                have c0 : w4.cell? ⟨w2.heap.size, 0, none⟩ = some (.bool true) := HBs.out.cell 0; have c2 : w4.cell? ⟨w2.heap.size, 2, none⟩ = some (.int .u32 (s.life : Int)) := HBs.out.cell 2; have c3 : w4.cell? ⟨w2.heap.size, 3, none⟩ = some (.int .i64 s.place) := HBs.out.cell 3; have c4 : w4.cell? ⟨w2.heap.size, 4, none⟩ = some (.int .i64 s.kind) := HBs.out.cell 4)
            | ((with_reducible show wpList _ _ _ ({ dst := _, op := .build 93 _, type := _, pos := _, after := _, guard := _ } :: _) _ _); refine wpL_build rfl _ [(0, .tmp 70), (1, .tmp 71), (2, .tmp 72), (3, .tmp 73), (4, .tmp 75), (5, .const (.int .i64 1))] rfl _ (buildRLog _ _ _ _ _ _ rfl) ?_)
            | ((with_reducible show wpList _ _ _ ({ dst := _, op := .box 93 _, type := _, pos := _, after := _, guard := _ } :: _) _ _); refine wpL_box rfl _ _ rfl _ rfl _ rfl ?_; intro w5 HB5 HF5 HS5))
          have HF4' : Hid (Fr No w w4) := hid ((HF1.out.trans' HF2.out).trans' (HF3.out.trans HF4.out (fun k hk => .inr (Nat.le_of_eq hk.symm))))
          clear HF4
          have HF4 := HF4'
          have HB5a : Hid (Blk w5 w4.heap.size 93 [.pointer (some ⟨bd, 0, none⟩), .int .i64 first, .int .i64 count, .int .u32 ep, .int .u32 (((s.life : Int) + 1) % 4294967296), .int .i64 1]) := hid HB5.out
          rw [hmod] at HB5a
          clear HB5
          have HB5 : Hid (Blk w5 w4.heap.size 93 (lgCells bd ⟨first, count, ep, lf1, 1⟩)) := hid HB5a.out
          clear HB5a
          obtain ⟨bg, hbg⟩ : ∃ n, w4.heap.size = n := ⟨_, rfl⟩
          rw [hbg] at HB5 ⊢
          have HBG : Hid (w.heap.size ≤ bg ∧ ¬ Z bg) := hid ⟨by rw [← hbg]; exact HF4.out.size, fun e => by have := H.out.lt _ e; have := HF4.out.size; omega⟩
          have HF45 : Hid (Fr No w w5) := hid (HF4.out.trans' HF5.out)
          clear hbg c0 c2 c3 c4 HF3 HS3 HB4 HS4
          refine (rmade_any 0 lf1 0 4 (.slice none 0 0) [] (fun _ => False) w5 (by decide) (by have := HLW.out; have := HLf1.out; omega) (by decide) ⟨none, 0, 0, rfl, rfl, Nat.le_refl _, .inl rfl⟩ (by decide)).mono ?_
          rintro e' w6 ⟨a6, c6, rfl, o6, f6⟩
          have HO6 := hid (own_bytes o6)
          have HF6 := hid f6
          clear o6 f6
          have hmade : made 0 lf1 0 ((4 % 256 : Int).toNat) ([] : List UInt8).length (pad48 []) = made 0 lf1 0 4 0 zeros48 := rfl
          rw [hmade] at HO6
          clear hmade
          go_wp2_with fail
          refine (rwrite_any (first : Int) _ _ _ HO6.out (fun j hj e => by have h1 := H.out.lt j e; have h2 := HF45.out.size; omega) (D.Rep.no (D.Rep.no H.out HF45.out) HF6.out) HP.out).mono ?_
          rintro e' w7 ⟨rfl, Z7, hA, hF, hG⟩
          have HWP := hid (write_P u (first : Int) (made 0 lf1 0 4 0 zeros48))
          have HWL := hid (write_L u (first : Int) (made 0 lf1 0 4 0 zeros48))
          generalize u.write (first : Int) (made 0 lf1 0 4 0 zeros48) = q at hA HWP HWL HB3 ⊢
          obtain ⟨q1, q2⟩ := q
          simp only at hA HB3 ⊢
          have HA7 := hid hA
          have HG7 : Hid (Grows w Z Z7) := hid (fun j hj => (hG j hj).imp id (fun hge => Nat.le_trans (Nat.le_trans HF45.out.size HF6.out.size) hge))
          have HF7 : Hid (Fr Z w w7) := hid ((HF45.out.trans' HF6.out).no.trans' hF)
          have HBL7 : Hid (Blk w7 bg 93 (lgCells bd ⟨first, count, ep, lf1, 1⟩)) := hid ((HB5.out.fr HF6.out id).fr hF HBG.out.2)
          have HZ7 : Hid (¬ Z7 bg) := hid (fun e => (hG bg e).elim HBG.out.2 (fun e2 => by have := (HB5.out.fr HF6.out id).lt; omega))
          clear hA hF hG HO6 HB5
          by_cases hq : q1 = 0
          · subst hq
            have HB4 := HB3.out
            rw [if_neg (by simp)] at HB4
            have HB4 := hid HB4
            go_wp2_with fail
            refine (rflush_any HA7.out).mono ?_
            rintro e' w8 ⟨rfl, hA, hF⟩
            have HFL8 : Hid (q2.flush.2.L.length = q2.L.length) := hid (flush_L q2)
            have HFU : Hid (q2.flush.1 = 0 → q2.flush.2.up = true) := hid (flush_up q2)
            generalize q2.flush = f at hA HB4 HFL8 HFU ⊢
            obtain ⟨f1, f2⟩ := f
            simp only at hA HB4 ⊢
            have HA8 := hid hA
            have HF8 : Hid (Fr Z w w8) := hid (HF7.out.trans hF (fun j hj => HG7.out j hj))
            have HG8 := HG7
            have HBL8 : Hid (Blk w8 bg 93 (lgCells bd ⟨first, count, ep, lf1, 1⟩)) := hid (HBL7.out.fr hF HZ7.out)
            clear hA hF
            by_cases hf1 : f1 = 0
            · subst hf1
              have HR1 : Hid (r = (0, f2, some (⟨first, count, ep, lf1, (f2.load first count ep s.life).2⟩, (f2.load first count ep s.life).1))) := hid (by
                have h : r = (0, f2, some (⟨first, count, ep, s.life + 1, (f2.load first count ep s.life).2⟩, (f2.load first count ep s.life).1)) := by have h := HR.out; rw [HB4.out] at h; exact h
                rw [HLf1.out] at h; exact h)
              have HA9 : Hid (AtR w8 bg bd Z7 ⟨first, count, ep, lf1, 1⟩ f2) := hid ⟨HA8.out, HBL8.out, HZ7.out, ⟨HC.out, by have := HFit.out; have h1 := HFL8.out; have h2 := HWL.out; simp only at h1 h2 ⊢; rw [h1, h2]; exact this, Nat.le_refl _, by have := HC.out; simp only; omega, HE.out, by have := HLW.out; have := HLf1.out; simp only; omega⟩⟩
              have HUp : Hid (f2.up = true) := hid (HFU.out rfl)
              clear HB4
              go_wp2_with fail
              refine (rreads_any w8 bg bd Z7 _ f2 HA9.out HUp.out s.life HLf1.out.symm rfl).mono ?_
              rintro e' w9 ⟨v, rfl, hT, hA, hF⟩
              have HT := hid hT; have HA10 := hid hA; have HF9 := hid hF
              clear hT hA hF
              obtain ⟨va, vl, vc, rfl⟩ : ∃ a l c, v = .slice a l c := by obtain ⟨a, l, c, e, _⟩ := HT.out; exact ⟨a, l, c, e⟩
              go_wp2_with fail
              refine ret_three rfl rfl ?_
              rw [HR1.out]
              refine ⟨Z7, HF8.out.trans HF9.out (fun k hk => .inr (by rw [hk]; exact HBG.out.1)), HG8.out, bg, _, rfl, HBG.out.1, HA10.out, HT.out.mono ?_⟩
              intro k hk
              have h2 := HA9.out.1.lt
              have h3 := HA9.out.2.1.lt
              exact ⟨by have := HF8.out.size; omega, fun hz => by have := h2 k hz; omega, by omega⟩
            · have HR1 : Hid (r = (f1, f2, none)) := hid (by have h := HR.out; rw [HB4.out] at h; simp only at h; rw [if_pos hf1] at h; exact h)
              have b0 : (f1 != 0) = true := by simp [hf1]
              clear HB4 hf1
              go_wp2_with fail
              refine ret_three rfl rfl ?_
              rw [HR1.out]
              exact ⟨Z7, HF8.out, HG8.out, rfl, HA8.out⟩
          · have HB4 := HB3.out
            rw [if_pos hq] at HB4
            have HR1 : Hid (r = (q1, q2, none)) := hid (by have h := HR.out; rw [HB4] at h; simp only at h; rw [if_pos hq] at h; exact h)
            have b0 : (q1 != 0) = true := by simp [hq]
            clear HB4 hq
            go_wp2_with fail
            refine ret_three rfl rfl ?_
            rw [HR1.out]
            exact ⟨Z7, HF7.out, HG7.out, rfl, HA7.out⟩
      · have hpi : ¬ ((s.place : Int) = 0) := by omega
        have HH : Hid (headLife s = 0) := hid (by unfold headLife; rw [if_neg (fun e => hpl e.2.2)])
        clear hk hpl hr
        go_wp2_with (first
          | ((with_reducible show wpList _ _ _ ({ dst := _, op := .alloc 126, type := _, pos := _, after := _, guard := _ } :: _) _ _); refine wpL_alloc rfl _ rfl _ zero99 (rsec false 0 0 0 0 0 (.slice none 0 0)) rfl ?_; intro w3 HBx HF3 HS3)
          | ((with_reducible show wpList _ _ _ ({ dst := _, op := .store 126 _ _, type := _, pos := _, after := _, guard := _ } :: _) _ _); refine wpL_store rfl _ _ _ rfl w2.heap.size 0 (rsec true s.epoch s.life s.place s.kind s.size (.slice sa mz scp)) rfl rfl _ _ HBx.out (by simp [rsec]) (by rw [info99]; rfl) (by intro v hv; simp [rsec] at hv; rcases hv with rfl | rfl | rfl | rfl | rfl | rfl | rfl <;> rfl) ?_; intro w4 HB4 HF4 HS4;
              have HBs : Hid (Blk w4 w2.heap.size 126 (rsec true s.epoch s.life s.place s.kind s.size (.slice sa mz scp))) := hid (by have := HB4.out; rwa [spl_all (by simp [rsec])] at this);
              have c0 : w4.cell? ⟨w2.heap.size, 0, none⟩ = some (.bool true) := HBs.out.cell 0; have c2 : w4.cell? ⟨w2.heap.size, 2, none⟩ = some (.int .u32 (s.life : Int)) := HBs.out.cell 2; have c3 : w4.cell? ⟨w2.heap.size, 3, none⟩ = some (.int .i64 s.place) := HBs.out.cell 3; have c4 : w4.cell? ⟨w2.heap.size, 4, none⟩ = some (.int .i64 s.kind) := HBs.out.cell 4)
          | ((with_reducible show wpList _ _ _ ({ dst := _, op := .build 93 _, type := _, pos := _, after := _, guard := _ } :: _) _ _); refine wpL_build rfl _ [(0, .tmp 70), (1, .tmp 71), (2, .tmp 72), (3, .tmp 73), (4, .tmp 75), (5, .const (.int .i64 1))] rfl _ (buildRLog _ _ _ _ _ _ rfl) ?_)
          | ((with_reducible show wpList _ _ _ ({ dst := _, op := .box 93 _, type := _, pos := _, after := _, guard := _ } :: _) _ _); refine wpL_box rfl _ _ rfl _ rfl (lgCells bd ⟨first, count, ep, 0 + 1, 1⟩) rfl ?_; intro w5 HB5 HF5 HS5))
        have HF4' : Hid (Fr No w w4) := hid ((HF1.out.trans' HF2.out).trans' (HF3.out.trans HF4.out (fun k hk => .inr (Nat.le_of_eq hk.symm))))
        clear HF4
        have HF4 := HF4'
        have hlw : (0 : Int) < 4294967295 := by omega
        have HB3 := HB2.out
        simp only [HH.out] at HB3
        rw [if_neg (by decide)] at HB3
        have HB3 := hid HB3
        have HLW : Hid (0 < 4294967295) := hid (by decide)
        have HLf1 : Hid (0 + 1 = 0 + 1) := hid rfl
        obtain ⟨bg, hbg⟩ : ∃ n, w4.heap.size = n := ⟨_, rfl⟩
        rw [hbg] at HB5 ⊢
        have HBG : Hid (w.heap.size ≤ bg ∧ ¬ Z bg) := hid ⟨by rw [← hbg]; exact HF4.out.size, fun e => by have := H.out.lt _ e; have := HF4.out.size; omega⟩
        have HF45 : Hid (Fr No w w5) := hid (HF4.out.trans' HF5.out)
        clear hbg c0 c2 c3 c4 HF3 HS3 HB4 HS4
        refine (rmade_any 0 (0 + 1) 0 4 (.slice none 0 0) [] (fun _ => False) w5 (by decide) (by have := HLW.out; omega) (by decide) ⟨none, 0, 0, rfl, rfl, Nat.le_refl _, .inl rfl⟩ (by decide)).mono ?_
        rintro e' w6 ⟨a6, c6, rfl, o6, f6⟩
        have HO6 := hid (own_bytes o6)
        have HF6 := hid f6
        clear o6 f6
        have hmade : made 0 (0 + 1) 0 ((4 % 256 : Int).toNat) ([] : List UInt8).length (pad48 []) = made 0 (0 + 1) 0 4 0 zeros48 := rfl
        rw [hmade] at HO6
        clear hmade
        go_wp2_with fail
        refine (rwrite_any (first : Int) _ _ _ HO6.out (fun j hj e => by have h1 := H.out.lt j e; have h2 := HF45.out.size; omega) (D.Rep.no (D.Rep.no H.out HF45.out) HF6.out) HP.out).mono ?_
        rintro e' w7 ⟨rfl, Z7, hA, hF, hG⟩
        have HWP := hid (write_P u (first : Int) (made 0 (0 + 1) 0 4 0 zeros48))
        have HWL := hid (write_L u (first : Int) (made 0 (0 + 1) 0 4 0 zeros48))
        generalize u.write (first : Int) (made 0 (0 + 1) 0 4 0 zeros48) = q at hA HWP HWL HB3 ⊢
        obtain ⟨q1, q2⟩ := q
        simp only at hA HB3 ⊢
        have HA7 := hid hA
        have HG7 : Hid (Grows w Z Z7) := hid (fun j hj => (hG j hj).imp id (fun hge => Nat.le_trans (Nat.le_trans HF45.out.size HF6.out.size) hge))
        have HF7 : Hid (Fr Z w w7) := hid ((HF45.out.trans' HF6.out).no.trans' hF)
        have HBL7 : Hid (Blk w7 bg 93 (lgCells bd ⟨first, count, ep, 0 + 1, 1⟩)) := hid ((HB5.out.fr HF6.out id).fr hF HBG.out.2)
        have HZ7 : Hid (¬ Z7 bg) := hid (fun e => (hG bg e).elim HBG.out.2 (fun e2 => by have := (HB5.out.fr HF6.out id).lt; omega))
        clear hA hF hG HO6 HB5
        by_cases hq : q1 = 0
        · subst hq
          have HB4 := HB3.out
          rw [if_neg (by simp)] at HB4
          have HB4 := hid HB4
          go_wp2_with fail
          refine (rflush_any HA7.out).mono ?_
          rintro e' w8 ⟨rfl, hA, hF⟩
          have HFL8 : Hid (q2.flush.2.L.length = q2.L.length) := hid (flush_L q2)
          have HFU : Hid (q2.flush.1 = 0 → q2.flush.2.up = true) := hid (flush_up q2)
          generalize q2.flush = f at hA HB4 HFL8 HFU ⊢
          obtain ⟨f1, f2⟩ := f
          simp only at hA HB4 ⊢
          have HA8 := hid hA
          have HF8 : Hid (Fr Z w w8) := hid (HF7.out.trans hF (fun j hj => HG7.out j hj))
          have HG8 := HG7
          have HBL8 : Hid (Blk w8 bg 93 (lgCells bd ⟨first, count, ep, 0 + 1, 1⟩)) := hid (HBL7.out.fr hF HZ7.out)
          clear hA hF
          by_cases hf1 : f1 = 0
          · subst hf1
            have HR1 : Hid (r = (0, f2, some (⟨first, count, ep, 0 + 1, (f2.load first count ep 0).2⟩, (f2.load first count ep 0).1))) := hid (by
              have h : r = (0, f2, some (⟨first, count, ep, 0 + 1, (f2.load first count ep 0).2⟩, (f2.load first count ep 0).1)) := by have h := HR.out; rw [HB4.out] at h; exact h
              exact h)
            have HA9 : Hid (AtR w8 bg bd Z7 ⟨first, count, ep, 0 + 1, 1⟩ f2) := hid ⟨HA8.out, HBL8.out, HZ7.out, ⟨HC.out, by have := HFit.out; have h1 := HFL8.out; have h2 := HWL.out; simp only at h1 h2 ⊢; rw [h1, h2]; exact this, Nat.le_refl _, by have := HC.out; simp only; omega, HE.out, by have := HLW.out; simp only; omega⟩⟩
            have HUp : Hid (f2.up = true) := hid (HFU.out rfl)
            clear HB4
            go_wp2_with fail
            refine (rreads_any w8 bg bd Z7 _ f2 HA9.out HUp.out 0 rfl rfl).mono ?_
            rintro e' w9 ⟨v, rfl, hT, hA, hF⟩
            have HT := hid hT; have HA10 := hid hA; have HF9 := hid hF
            clear hT hA hF
            obtain ⟨va, vl, vc, rfl⟩ : ∃ a l c, v = .slice a l c := by obtain ⟨a, l, c, e, _⟩ := HT.out; exact ⟨a, l, c, e⟩
            go_wp2_with fail
            refine ret_three rfl rfl ?_
            rw [HR1.out]
            refine ⟨Z7, HF8.out.trans HF9.out (fun k hk => .inr (by rw [hk]; exact HBG.out.1)), HG8.out, bg, _, rfl, HBG.out.1, HA10.out, HT.out.mono ?_⟩
            intro k hk
            have h2 := HA9.out.1.lt
            have h3 := HA9.out.2.1.lt
            exact ⟨by have := HF8.out.size; omega, fun hz => by have := h2 k hz; omega, by omega⟩
          · have HR1 : Hid (r = (f1, f2, none)) := hid (by have h := HR.out; rw [HB4.out] at h; simp only at h; rw [if_pos hf1] at h; exact h)
            have b0 : (f1 != 0) = true := by simp [hf1]
            clear HB4 hf1
            go_wp2_with fail
            refine ret_three rfl rfl ?_
            rw [HR1.out]
            exact ⟨Z7, HF8.out, HG8.out, rfl, HA8.out⟩
        · have HB4 := HB3.out
          rw [if_pos hq] at HB4
          have HR1 : Hid (r = (q1, q2, none)) := hid (by have h := HR.out; rw [HB4] at h; simp only at h; rw [if_pos hq] at h; exact h)
          have b0 : (q1 != 0) = true := by simp [hq]
          clear HB4 hq
          go_wp2_with fail
          refine ret_three rfl rfl ?_
          rw [HR1.out]
          exact ⟨Z7, HF7.out, HG7.out, rfl, HA7.out⟩
    · have hki : ¬ ((s.kind : Int) = 4) := by omega
      have HH : Hid (headLife s = 0) := hid (by unfold headLife; rw [if_neg (fun e => hk e.2.1)])
      clear hk hr
      go_wp2_with (first
        | ((with_reducible show wpList _ _ _ ({ dst := _, op := .alloc 126, type := _, pos := _, after := _, guard := _ } :: _) _ _); refine wpL_alloc rfl _ rfl _ zero99 (rsec false 0 0 0 0 0 (.slice none 0 0)) rfl ?_; intro w3 HBx HF3 HS3)
        | ((with_reducible show wpList _ _ _ ({ dst := _, op := .store 126 _ _, type := _, pos := _, after := _, guard := _ } :: _) _ _); refine wpL_store rfl _ _ _ rfl w2.heap.size 0 (rsec true s.epoch s.life s.place s.kind s.size (.slice sa mz scp)) rfl rfl _ _ HBx.out (by simp [rsec]) (by rw [info99]; rfl) (by intro v hv; simp [rsec] at hv; rcases hv with rfl | rfl | rfl | rfl | rfl | rfl | rfl <;> rfl) ?_; intro w4 HB4 HF4 HS4;
            have HBs : Hid (Blk w4 w2.heap.size 126 (rsec true s.epoch s.life s.place s.kind s.size (.slice sa mz scp))) := hid (by have := HB4.out; rwa [spl_all (by simp [rsec])] at this);
            have c0 : w4.cell? ⟨w2.heap.size, 0, none⟩ = some (.bool true) := HBs.out.cell 0; have c2 : w4.cell? ⟨w2.heap.size, 2, none⟩ = some (.int .u32 (s.life : Int)) := HBs.out.cell 2; have c3 : w4.cell? ⟨w2.heap.size, 3, none⟩ = some (.int .i64 s.place) := HBs.out.cell 3; have c4 : w4.cell? ⟨w2.heap.size, 4, none⟩ = some (.int .i64 s.kind) := HBs.out.cell 4)
        | ((with_reducible show wpList _ _ _ ({ dst := _, op := .build 93 _, type := _, pos := _, after := _, guard := _ } :: _) _ _); refine wpL_build rfl _ [(0, .tmp 70), (1, .tmp 71), (2, .tmp 72), (3, .tmp 73), (4, .tmp 75), (5, .const (.int .i64 1))] rfl _ (buildRLog _ _ _ _ _ _ rfl) ?_)
        | ((with_reducible show wpList _ _ _ ({ dst := _, op := .box 93 _, type := _, pos := _, after := _, guard := _ } :: _) _ _); refine wpL_box rfl _ _ rfl _ rfl (lgCells bd ⟨first, count, ep, 0 + 1, 1⟩) rfl ?_; intro w5 HB5 HF5 HS5))
      have HF4' : Hid (Fr No w w4) := hid ((HF1.out.trans' HF2.out).trans' (HF3.out.trans HF4.out (fun k hk => .inr (Nat.le_of_eq hk.symm))))
      clear HF4
      have HF4 := HF4'
      have hlw : (0 : Int) < 4294967295 := by omega
      have HB3 := HB2.out
      simp only [HH.out] at HB3
      rw [if_neg (by decide)] at HB3
      have HB3 := hid HB3
      have HLW : Hid (0 < 4294967295) := hid (by decide)
      have HLf1 : Hid (0 + 1 = 0 + 1) := hid rfl
      obtain ⟨bg, hbg⟩ : ∃ n, w4.heap.size = n := ⟨_, rfl⟩
      rw [hbg] at HB5 ⊢
      have HBG : Hid (w.heap.size ≤ bg ∧ ¬ Z bg) := hid ⟨by rw [← hbg]; exact HF4.out.size, fun e => by have := H.out.lt _ e; have := HF4.out.size; omega⟩
      have HF45 : Hid (Fr No w w5) := hid (HF4.out.trans' HF5.out)
      clear hbg c0 c2 c3 c4 HF3 HS3 HB4 HS4
      refine (rmade_any 0 (0 + 1) 0 4 (.slice none 0 0) [] (fun _ => False) w5 (by decide) (by have := HLW.out; omega) (by decide) ⟨none, 0, 0, rfl, rfl, Nat.le_refl _, .inl rfl⟩ (by decide)).mono ?_
      rintro e' w6 ⟨a6, c6, rfl, o6, f6⟩
      have HO6 := hid (own_bytes o6)
      have HF6 := hid f6
      clear o6 f6
      have hmade : made 0 (0 + 1) 0 ((4 % 256 : Int).toNat) ([] : List UInt8).length (pad48 []) = made 0 (0 + 1) 0 4 0 zeros48 := rfl
      rw [hmade] at HO6
      clear hmade
      go_wp2_with fail
      refine (rwrite_any (first : Int) _ _ _ HO6.out (fun j hj e => by have h1 := H.out.lt j e; have h2 := HF45.out.size; omega) (D.Rep.no (D.Rep.no H.out HF45.out) HF6.out) HP.out).mono ?_
      rintro e' w7 ⟨rfl, Z7, hA, hF, hG⟩
      have HWP := hid (write_P u (first : Int) (made 0 (0 + 1) 0 4 0 zeros48))
      have HWL := hid (write_L u (first : Int) (made 0 (0 + 1) 0 4 0 zeros48))
      generalize u.write (first : Int) (made 0 (0 + 1) 0 4 0 zeros48) = q at hA HWP HWL HB3 ⊢
      obtain ⟨q1, q2⟩ := q
      simp only at hA HB3 ⊢
      have HA7 := hid hA
      have HG7 : Hid (Grows w Z Z7) := hid (fun j hj => (hG j hj).imp id (fun hge => Nat.le_trans (Nat.le_trans HF45.out.size HF6.out.size) hge))
      have HF7 : Hid (Fr Z w w7) := hid ((HF45.out.trans' HF6.out).no.trans' hF)
      have HBL7 : Hid (Blk w7 bg 93 (lgCells bd ⟨first, count, ep, 0 + 1, 1⟩)) := hid ((HB5.out.fr HF6.out id).fr hF HBG.out.2)
      have HZ7 : Hid (¬ Z7 bg) := hid (fun e => (hG bg e).elim HBG.out.2 (fun e2 => by have := (HB5.out.fr HF6.out id).lt; omega))
      clear hA hF hG HO6 HB5
      by_cases hq : q1 = 0
      · subst hq
        have HB4 := HB3.out
        rw [if_neg (by simp)] at HB4
        have HB4 := hid HB4
        go_wp2_with fail
        refine (rflush_any HA7.out).mono ?_
        rintro e' w8 ⟨rfl, hA, hF⟩
        have HFL8 : Hid (q2.flush.2.L.length = q2.L.length) := hid (flush_L q2)
        have HFU : Hid (q2.flush.1 = 0 → q2.flush.2.up = true) := hid (flush_up q2)
        generalize q2.flush = f at hA HB4 HFL8 HFU ⊢
        obtain ⟨f1, f2⟩ := f
        simp only at hA HB4 ⊢
        have HA8 := hid hA
        have HF8 : Hid (Fr Z w w8) := hid (HF7.out.trans hF (fun j hj => HG7.out j hj))
        have HG8 := HG7
        have HBL8 : Hid (Blk w8 bg 93 (lgCells bd ⟨first, count, ep, 0 + 1, 1⟩)) := hid (HBL7.out.fr hF HZ7.out)
        clear hA hF
        by_cases hf1 : f1 = 0
        · subst hf1
          have HR1 : Hid (r = (0, f2, some (⟨first, count, ep, 0 + 1, (f2.load first count ep 0).2⟩, (f2.load first count ep 0).1))) := hid (by
            have h : r = (0, f2, some (⟨first, count, ep, 0 + 1, (f2.load first count ep 0).2⟩, (f2.load first count ep 0).1)) := by have h := HR.out; rw [HB4.out] at h; exact h
            exact h)
          have HA9 : Hid (AtR w8 bg bd Z7 ⟨first, count, ep, 0 + 1, 1⟩ f2) := hid ⟨HA8.out, HBL8.out, HZ7.out, ⟨HC.out, by have := HFit.out; have h1 := HFL8.out; have h2 := HWL.out; simp only at h1 h2 ⊢; rw [h1, h2]; exact this, Nat.le_refl _, by have := HC.out; simp only; omega, HE.out, by have := HLW.out; simp only; omega⟩⟩
          have HUp : Hid (f2.up = true) := hid (HFU.out rfl)
          clear HB4
          go_wp2_with fail
          refine (rreads_any w8 bg bd Z7 _ f2 HA9.out HUp.out 0 rfl rfl).mono ?_
          rintro e' w9 ⟨v, rfl, hT, hA, hF⟩
          have HT := hid hT; have HA10 := hid hA; have HF9 := hid hF
          clear hT hA hF
          obtain ⟨va, vl, vc, rfl⟩ : ∃ a l c, v = .slice a l c := by obtain ⟨a, l, c, e, _⟩ := HT.out; exact ⟨a, l, c, e⟩
          go_wp2_with fail
          refine ret_three rfl rfl ?_
          rw [HR1.out]
          refine ⟨Z7, HF8.out.trans HF9.out (fun k hk => .inr (by rw [hk]; exact HBG.out.1)), HG8.out, bg, _, rfl, HBG.out.1, HA10.out, HT.out.mono ?_⟩
          intro k hk
          have h2 := HA9.out.1.lt
          have h3 := HA9.out.2.1.lt
          exact ⟨by have := HF8.out.size; omega, fun hz => by have := h2 k hz; omega, by omega⟩
        · have HR1 : Hid (r = (f1, f2, none)) := hid (by have h := HR.out; rw [HB4.out] at h; simp only at h; rw [if_pos hf1] at h; exact h)
          have b0 : (f1 != 0) = true := by simp [hf1]
          clear HB4 hf1
          go_wp2_with fail
          refine ret_three rfl rfl ?_
          rw [HR1.out]
          exact ⟨Z7, HF8.out, HG8.out, rfl, HA8.out⟩
      · have HB4 := HB3.out
        rw [if_pos hq] at HB4
        have HR1 : Hid (r = (q1, q2, none)) := hid (by have h := HR.out; rw [HB4] at h; simp only at h; rw [if_pos hq] at h; exact h)
        have b0 : (q1 != 0) = true := by simp [hq]
        clear HB4 hq
        go_wp2_with fail
        refine ret_three rfl rfl ?_
        rw [HR1.out]
        exact ⟨Z7, HF7.out, HG7.out, rfl, HA7.out⟩
  · have hrf : s.right = false := by cases hq : s.right <;> simp_all
    have HH : Hid (headLife s = 0) := hid (by unfold headLife; rw [if_neg (fun e => hr e.1)])
    rw [hrf]
    clear hr hrf
    go_wp2_with (first
      | ((with_reducible show wpList _ _ _ ({ dst := _, op := .alloc 126, type := _, pos := _, after := _, guard := _ } :: _) _ _); refine wpL_alloc rfl _ rfl _ zero99 (rsec false 0 0 0 0 0 (.slice none 0 0)) rfl ?_; intro w3 HBx HF3 HS3)
      | ((with_reducible show wpList _ _ _ ({ dst := _, op := .store 126 _ _, type := _, pos := _, after := _, guard := _ } :: _) _ _); refine wpL_store rfl _ _ _ rfl w2.heap.size 0 (rsec false s.epoch s.life s.place s.kind s.size (.slice sa mz scp)) rfl rfl _ _ HBx.out (by simp [rsec]) (by rw [info99]; rfl) (by intro v hv; simp [rsec] at hv; rcases hv with rfl | rfl | rfl | rfl | rfl | rfl | rfl <;> rfl) ?_; intro w4 HB4 HF4 HS4;
          have HBs : Hid (Blk w4 w2.heap.size 126 (rsec false s.epoch s.life s.place s.kind s.size (.slice sa mz scp))) := hid (by have := HB4.out; rwa [spl_all (by simp [rsec])] at this);
          have c0 : w4.cell? ⟨w2.heap.size, 0, none⟩ = some (.bool false) := HBs.out.cell 0; have c2 : w4.cell? ⟨w2.heap.size, 2, none⟩ = some (.int .u32 (s.life : Int)) := HBs.out.cell 2; have c3 : w4.cell? ⟨w2.heap.size, 3, none⟩ = some (.int .i64 s.place) := HBs.out.cell 3; have c4 : w4.cell? ⟨w2.heap.size, 4, none⟩ = some (.int .i64 s.kind) := HBs.out.cell 4)
      | ((with_reducible show wpList _ _ _ ({ dst := _, op := .build 93 _, type := _, pos := _, after := _, guard := _ } :: _) _ _); refine wpL_build rfl _ [(0, .tmp 70), (1, .tmp 71), (2, .tmp 72), (3, .tmp 73), (4, .tmp 75), (5, .const (.int .i64 1))] rfl _ (buildRLog _ _ _ _ _ _ rfl) ?_)
      | ((with_reducible show wpList _ _ _ ({ dst := _, op := .box 93 _, type := _, pos := _, after := _, guard := _ } :: _) _ _); refine wpL_box rfl _ _ rfl _ rfl (lgCells bd ⟨first, count, ep, 0 + 1, 1⟩) rfl ?_; intro w5 HB5 HF5 HS5))
    have HF4' : Hid (Fr No w w4) := hid ((HF1.out.trans' HF2.out).trans' (HF3.out.trans HF4.out (fun k hk => .inr (Nat.le_of_eq hk.symm))))
    clear HF4
    have HF4 := HF4'
    have hlw : (0 : Int) < 4294967295 := by omega
    have HB3 := HB2.out
    simp only [HH.out] at HB3
    rw [if_neg (by decide)] at HB3
    have HB3 := hid HB3
    have HLW : Hid (0 < 4294967295) := hid (by decide)
    have HLf1 : Hid (0 + 1 = 0 + 1) := hid rfl
    obtain ⟨bg, hbg⟩ : ∃ n, w4.heap.size = n := ⟨_, rfl⟩
    rw [hbg] at HB5 ⊢
    have HBG : Hid (w.heap.size ≤ bg ∧ ¬ Z bg) := hid ⟨by rw [← hbg]; exact HF4.out.size, fun e => by have := H.out.lt _ e; have := HF4.out.size; omega⟩
    have HF45 : Hid (Fr No w w5) := hid (HF4.out.trans' HF5.out)
    clear hbg c0 c2 c3 c4 HF3 HS3 HB4 HS4
    refine (rmade_any 0 (0 + 1) 0 4 (.slice none 0 0) [] (fun _ => False) w5 (by decide) (by have := HLW.out; omega) (by decide) ⟨none, 0, 0, rfl, rfl, Nat.le_refl _, .inl rfl⟩ (by decide)).mono ?_
    rintro e' w6 ⟨a6, c6, rfl, o6, f6⟩
    have HO6 := hid (own_bytes o6)
    have HF6 := hid f6
    clear o6 f6
    have hmade : made 0 (0 + 1) 0 ((4 % 256 : Int).toNat) ([] : List UInt8).length (pad48 []) = made 0 (0 + 1) 0 4 0 zeros48 := rfl
    rw [hmade] at HO6
    clear hmade
    go_wp2_with fail
    refine (rwrite_any (first : Int) _ _ _ HO6.out (fun j hj e => by have h1 := H.out.lt j e; have h2 := HF45.out.size; omega) (D.Rep.no (D.Rep.no H.out HF45.out) HF6.out) HP.out).mono ?_
    rintro e' w7 ⟨rfl, Z7, hA, hF, hG⟩
    have HWP := hid (write_P u (first : Int) (made 0 (0 + 1) 0 4 0 zeros48))
    have HWL := hid (write_L u (first : Int) (made 0 (0 + 1) 0 4 0 zeros48))
    generalize u.write (first : Int) (made 0 (0 + 1) 0 4 0 zeros48) = q at hA HWP HWL HB3 ⊢
    obtain ⟨q1, q2⟩ := q
    simp only at hA HB3 ⊢
    have HA7 := hid hA
    have HG7 : Hid (Grows w Z Z7) := hid (fun j hj => (hG j hj).imp id (fun hge => Nat.le_trans (Nat.le_trans HF45.out.size HF6.out.size) hge))
    have HF7 : Hid (Fr Z w w7) := hid ((HF45.out.trans' HF6.out).no.trans' hF)
    have HBL7 : Hid (Blk w7 bg 93 (lgCells bd ⟨first, count, ep, 0 + 1, 1⟩)) := hid ((HB5.out.fr HF6.out id).fr hF HBG.out.2)
    have HZ7 : Hid (¬ Z7 bg) := hid (fun e => (hG bg e).elim HBG.out.2 (fun e2 => by have := (HB5.out.fr HF6.out id).lt; omega))
    clear hA hF hG HO6 HB5
    by_cases hq : q1 = 0
    · subst hq
      have HB4 := HB3.out
      rw [if_neg (by simp)] at HB4
      have HB4 := hid HB4
      go_wp2_with fail
      refine (rflush_any HA7.out).mono ?_
      rintro e' w8 ⟨rfl, hA, hF⟩
      have HFL8 : Hid (q2.flush.2.L.length = q2.L.length) := hid (flush_L q2)
      have HFU : Hid (q2.flush.1 = 0 → q2.flush.2.up = true) := hid (flush_up q2)
      generalize q2.flush = f at hA HB4 HFL8 HFU ⊢
      obtain ⟨f1, f2⟩ := f
      simp only at hA HB4 ⊢
      have HA8 := hid hA
      have HF8 : Hid (Fr Z w w8) := hid (HF7.out.trans hF (fun j hj => HG7.out j hj))
      have HG8 := HG7
      have HBL8 : Hid (Blk w8 bg 93 (lgCells bd ⟨first, count, ep, 0 + 1, 1⟩)) := hid (HBL7.out.fr hF HZ7.out)
      clear hA hF
      by_cases hf1 : f1 = 0
      · subst hf1
        have HR1 : Hid (r = (0, f2, some (⟨first, count, ep, 0 + 1, (f2.load first count ep 0).2⟩, (f2.load first count ep 0).1))) := hid (by
          have h : r = (0, f2, some (⟨first, count, ep, 0 + 1, (f2.load first count ep 0).2⟩, (f2.load first count ep 0).1)) := by have h := HR.out; rw [HB4.out] at h; exact h
          exact h)
        have HA9 : Hid (AtR w8 bg bd Z7 ⟨first, count, ep, 0 + 1, 1⟩ f2) := hid ⟨HA8.out, HBL8.out, HZ7.out, ⟨HC.out, by have := HFit.out; have h1 := HFL8.out; have h2 := HWL.out; simp only at h1 h2 ⊢; rw [h1, h2]; exact this, Nat.le_refl _, by have := HC.out; simp only; omega, HE.out, by have := HLW.out; simp only; omega⟩⟩
        have HUp : Hid (f2.up = true) := hid (HFU.out rfl)
        clear HB4
        go_wp2_with fail
        refine (rreads_any w8 bg bd Z7 _ f2 HA9.out HUp.out 0 rfl rfl).mono ?_
        rintro e' w9 ⟨v, rfl, hT, hA, hF⟩
        have HT := hid hT; have HA10 := hid hA; have HF9 := hid hF
        clear hT hA hF
        obtain ⟨va, vl, vc, rfl⟩ : ∃ a l c, v = .slice a l c := by obtain ⟨a, l, c, e, _⟩ := HT.out; exact ⟨a, l, c, e⟩
        go_wp2_with fail
        refine ret_three rfl rfl ?_
        rw [HR1.out]
        refine ⟨Z7, HF8.out.trans HF9.out (fun k hk => .inr (by rw [hk]; exact HBG.out.1)), HG8.out, bg, _, rfl, HBG.out.1, HA10.out, HT.out.mono ?_⟩
        intro k hk
        have h2 := HA9.out.1.lt
        have h3 := HA9.out.2.1.lt
        exact ⟨by have := HF8.out.size; omega, fun hz => by have := h2 k hz; omega, by omega⟩
      · have HR1 : Hid (r = (f1, f2, none)) := hid (by have h := HR.out; rw [HB4.out] at h; simp only at h; rw [if_pos hf1] at h; exact h)
        have b0 : (f1 != 0) = true := by simp [hf1]
        clear HB4 hf1
        go_wp2_with fail
        refine ret_three rfl rfl ?_
        rw [HR1.out]
        exact ⟨Z7, HF8.out, HG8.out, rfl, HA8.out⟩
    · have HB4 := HB3.out
      rw [if_pos hq] at HB4
      have HR1 : Hid (r = (q1, q2, none)) := hid (by have h := HR.out; rw [HB4] at h; simp only at h; rw [if_pos hq] at h; exact h)
      have b0 : (q1 != 0) = true := by simp [hq]
      clear HB4 hq
      go_wp2_with fail
      refine ret_three rfl rfl ?_
      rw [HR1.out]
      exact ⟨Z7, HF7.out, HG7.out, rfl, HA7.out⟩
end
end Go.Proofs.Ytlnolnaapnijbaa.L
