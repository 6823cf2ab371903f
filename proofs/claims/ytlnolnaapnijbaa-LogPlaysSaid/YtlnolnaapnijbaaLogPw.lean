/-
  The walk of LogPlays.
-/
import Derived.Test.YtlnolnaapnijbaaLogPd
import Derived.Test.YtlnolnaapnijbaaLogPs
import Derived.Test.YtlnolnaapnijbaaLogE
namespace Go.Proofs.Ytlnolnaapnijbaa.L
set_option maxRecDepth 100000
open Go.RowKit K

theorem buildBoth (p q : Value) (a b c : Int) (w : World) (hp : p.oneCell' = true) (hq : q.oneCell' = true) : (Instr.build 36 #[(0, p), (2, q), (4, .int .i64 a), (5, .int .i64 b), (6, .int .u32 c)]).run Try.prog w =
    .ok (.agg #[p, .pointer none, q, .pointer none, .int .i64 a, .int .i64 b, .int .u32 c]) w := by
  cases p <;> first | (simp [Value.oneCell'] at hp; done) | (cases q <;> first | (simp [Value.oneCell'] at hq; done) | kernel_rfl)
theorem Alike.no {W w w' : World} {bx bd be : Nat} {fs cn : Int} {ep N M : Nat} (h : Alike W w bx bd be fs cn ep N M) (f : Fr No w w') : Alike W w' bx bd be fs cn ep N M := by
  obtain ⟨Z, Y, a, lv, mv, h1, h2, h3, h4⟩ := h
  exact ⟨Z, Y, a, lv, mv, h1.no f, h2.imp id (fun ⟨bg, bm, g, e1, e2, l⟩ => ⟨bg, bm, g, e1, e2, l.no f⟩), h3, h4⟩
theorem Alike.fr {W w : World} {bx bd be : Nat} {fs cn : Int} {ep N M : Nat} (h : Alike W w bx bd be fs cn ep N M) : Fr No W w := by
  obtain ⟨Z, Y, a, lv, mv, h1, h2, h3, h4⟩ := h
  exact h1.fr
theorem Alike.le {W w : World} {bx bd be : Nat} {fs cn : Int} {ep N M M' : Nat} (h : Alike W w bx bd be fs cn ep N M) (hm : M ≤ M') : Alike W w bx bd be fs cn ep N M' := by
  obtain ⟨Z, Y, a, lv, mv, h1, h2, h3, h4⟩ := h
  exact ⟨Z, Y, a, lv, mv, h1, h2, h3, Nat.le_trans h4 hm⟩
theorem alike_same {W w : World} {bx bd be : Nat} {fs cn : Int} {ep N M : Nat} (h : Alike W w bx bd be fs cn ep N M) : Calls Try.prog 11 #[pt bx] w fun e w' => e = .returned (.bool true) ∧ Fr No w w' := by
  obtain ⟨Z, Y, a, lv, mv, h1, h2, h3, h4⟩ := h
  exact same_any W w bx bd be Z Y a lv mv fs cn ep h1 h2
def La.fix (x : La) : La := if x.at_ < 0 then { x with at_ := 0 } else x
theorem La.fix_in {w : World} {B : Nat} {kv : Value} {x : La} (h : LaIn w B kv x) : LaIn w B kv x.fix := by
  unfold La.fix
  split
  · exact ⟨h.k, (by decide : (-9223372036854775808 : Int) ≤ 0), (by decide : (0 : Int) ≤ 9223372036854775807), h.n0, h.n1, h.rl, h.ep, h.li, h.kl⟩
  · exact h
theorem La.fix_at (x : La) : 0 ≤ x.fix.at_ := by
  unfold La.fix
  split
  · exact Int.le_refl _
  · omega
set_option maxHeartbeats 16000000 in
theorem logPlays_walk (W : World) (n0 fs cn : Int) (ep : Nat) (v : Value) (xs : List La) (hn : -9223372036854775808 ≤ n0 ∧ n0 ≤ 9223372036854775807) (hf : -9223372036854775808 ≤ fs ∧ fs ≤ 9223372036854775807) (hc : -9223372036854775808 ≤ cn ∧ cn ≤ 9223372036854775807) (he : ep < 4294967296) (hL : LasIn W W.heap.size v xs) :
    Calls Try.prog 3 #[.int .i64 n0, .int .i64 fs, .int .i64 cn, .int .u32 (ep : Int), v] W fun e w' => e = .returned (.bool true) ∧ Fr No W w' := by
  obtain ⟨a, len, cap, rfl, hlen, hcap, -⟩ := id hL
  have HX := hid hL; have HLen := hid hlen; have HE := hid he; have HF := hid hf
  have hlc : (len : Int) ≤ 140737488351232 := by omega
  clear hL hlen hcap he hn hc hf
  go_enter Try.func3, Try.ntmps3
  go_wp2_with fail
  refine (awake_any W).mono ?_
  rintro e w1 ⟨rfl, hf⟩
  have HF1 := hid hf; clear hf
  by_cases hno : n0 < 1 ∨ 4096 < n0
  · have HNO := hid hno
    clear hno
    go_wp2_with fail
    refine (D.new_no n0 w1 HNO.out).mono ?_
    rintro e w' ⟨rfl, rfl⟩
    go_wp2_with fail
    refine (D.rnew_no n0 _ HNO.out).mono ?_
    rintro e w' ⟨rfl, rfl⟩
    go_wp2_with fail
    go_ret
    exact ⟨rfl, HF1.out⟩
  obtain ⟨N, rfl⟩ := Int.eq_ofNat_of_zero_le (show 0 ≤ n0 by omega)
  have hN1 : 1 ≤ N := by omega
  have hN2 : N ≤ 4096 := by omega
  have HN := hid (And.intro hN1 hN2)
  clear hno hN1 hN2
  go_wp2_with fail
  refine (dnew_any N w1 HN.out.1 HN.out.2).mono ?_
  rintro e w2 ⟨bd, Z, rfl, hd, hz, f2⟩
  have HD := hid hd; have HZ := hid hz; have HF2 := hid f2
  clear hd hz f2
  go_wp2_with fail
  refine (rnew_any N w2 HN.out.1 HN.out.2).mono ?_
  rintro e w3 ⟨be, Y, rfl, hd, hz, f3⟩
  have HR := hid hd; have HY := hid hz; have HF3 := hid f3
  clear hd hz f3
  go_wp2_with (first
    | ((with_reducible show wpList _ _ _ ({ dst := _, op := .build 36 _, type := _, pos := _, after := _, guard := _ } :: _) _ _); refine wpL_build rfl _ [(0, .tmp 50), (2, .tmp 51), (4, .tmp 52), (5, .tmp 53), (6, .tmp 54)] rfl _ (buildBoth _ _ _ _ _ _ rfl rfl) ?_)
    | ((with_reducible show wpList _ _ _ ({ dst := _, op := .box 36 _, type := _, pos := _, after := _, guard := _ } :: _) _ _); refine wpL_box rfl _ _ rfl _ rfl [pt bd, .pointer none, pt be, .pointer none, .int .i64 fs, .int .i64 cn, .int .u32 (ep : Int)] rfl ?_; intro w4 HB4 HF4 HS4))
  have HDU : Hid (Du W w4 w3.heap.size bd be Z Y (U.new N) (U.new N) (.pointer none) (.pointer none) fs cn ep) := hid (by
    have s1 := HF1.out.size; have s2 := HF2.out.size; have s3 := HF3.out.size; have s4 := HF4.out.size
    have hD4 : Dk w4 bd Z (U.new N) := D.Rep.no (D.Rep.no HD.out HF3.out) HF4.out
    have hR4 : Rk w4 be Y (U.new N) := D.Rep.no HR.out HF4.out
    refine ⟨HB4.out, hD4, hR4, fun k hk hy => ?_, fun e => ?_, fun e => ?_, ((HF1.out.trans' HF2.out).trans' HF3.out).trans' HF4.out, fun k hk => ?_, fun k hk => ?_, by omega⟩
    · have h1 := HD.out.lt k hk; have h2 := HY.out k hy; omega
    · have h1 := HD.out.lt _ e; omega
    · have h1 := HR.out.lt _ e; omega
    · have h1 := HZ.out k hk; omega
    · have h1 := HY.out k hk; omega)
  obtain ⟨bx, hbx⟩ : ∃ n, w3.heap.size = n := ⟨_, rfl⟩
  rw [hbx] at HDU ⊢
  clear hbx HB4 HS4 HF4
  refine (opened_any W w4 bx bd be Z Y (U.new N) _ _ fs cn ep HDU.out HF.out.2 HE.out (by simp [U.new])).mono ?_
  rintro e w5 ⟨rfl, ha, hbad⟩
  have HBAD := hid hbad
  have HA : Hid (Alike W w5 bx bd be fs cn ep N 1) := hid (by
    have e1 : (U.new N).L.length = N := by simp [U.new]
    have e2 : (U.new N).P.length + 1 = 1 := rfl
    rw [e1, e2] at ha
    exact ha)
  clear ha hbad
  obtain ⟨lv, x1, hlv⟩ : ∃ lv, w5.cell? ⟨bx, 1, none⟩ = some lv ∧ (lv = .pointer none ∨ ∃ bg, lv = pt bg) := by
    obtain ⟨Z', Y', a', lv, mv, h1, h2, h3, h4⟩ := HA.out
    refine ⟨lv, h1.blk.cell 1, ?_⟩
    rcases h2 with ⟨e, _⟩ | ⟨bg, _, _, e, _⟩
    · exact .inl e
    · exact .inr ⟨bg, e⟩
  rcases hlv with rfl | ⟨bg, rfl⟩
  · go_wp2_with fail
    go_ret
    exact ⟨rfl, HA.out.fr⟩
  have HFS : Hid (0 ≤ fs ∧ fs ≤ 4096) := hid (by
    by_cases hb : fs < 0 ∨ 4096 < fs
    · have := HBAD.out hb
      rw [x1] at this
      cases this
    · omega)
  go_wp2_with fail
  clear x1
  go_loopw [18] (fun iv wr => ∃ i : Nat, iv = .int .i64 (i : Int) ∧ i ≤ len ∧ i ≤ 100 ∧ Hid (Alike W wr bx bd be fs cn ep N (1 + 43 * i))) (fun iv _ => 100 - (intOf iv).toNat)
  case atStart => exact ⟨0, rfl, by omega, by omega, HA⟩
  case round =>
    obtain ⟨i, rfl, hi, hi2, HA⟩ := hrel
    by_cases hlt : i < len ∧ i < 100
    · obtain ⟨hlt1, hlt2⟩ := hlt
      have hlt1' : (i : Int) < (len : Int) := by omega
      have hlt2' : (i : Int) < 100 := by omega
      obtain ⟨x, hx⟩ : ∃ x, xs[i]? = some x := ⟨xs[i]'(by rw [HLen.out]; exact hlt1), List.getElem?_eq_getElem _⟩
      obtain ⟨a', len', cap', e1, _, _, hel⟩ := HX.out.fr HA.out.fr (fun _ _ e => e)
      simp only [Value.slice.injEq] at e1
      obtain ⟨rfl, rfl, rfl⟩ := e1
      obtain ⟨b, o, kv, rfl, -, hr, -⟩ := hel i x hx
      obtain ⟨a2, len2, cap2, e2, _, _, hel2⟩ := HX.out
      simp only [Value.slice.injEq] at e2
      obtain ⟨rfl, rfl, rfl⟩ := e2
      obtain ⟨b2, o2, kv2, e3, -, hr2, hin2⟩ := hel2 i x hx
      have hkv : kv2 = kv := by
        simp only [Option.some.injEq, Addr.mk.injEq] at e3
        obtain ⟨rfl, rfl, -⟩ := e3
        have h1 := hr2 6 kv2 rfl
        have h2 := HA.out.fr.cell h1 id
        have h3 := hr 6 kv rfl
        rw [h2] at h3
        exact Option.some.inj h3
      subst hkv
      have HR2 := hid hr; have HI := hid hin2
      obtain ⟨ka, kl, kc, rfl, -⟩ := hin2.k
      clear hx hel hel2 e3 hr hr2 hin2
      have HOne : Hid (∀ u ∈ La.cells (.slice ka kl kc) x, u.oneCell' = true) := hid (by intro u hu; simp [La.cells] at hu; rcases hu with rfl | rfl | rfl | rfl | rfl | rfl | rfl <;> rfl)
      by_cases hneg : x.at_ < 0
      · have hfx : x.fix = { x with at_ := 0 } := if_pos hneg
        have HFX := hid hfx
        clear hfx
        go_wp2_with (first
          | ((with_reducible show wpList _ _ _ ({ dst := _, op := .load 39 _, type := _, pos := _, after := _, guard := _ } :: _) _ _); have := HBx; refine wpL_load rfl _ _ rfl wr.heap.size 0 rfl (La.cells (.slice ka kl kc) x.fix) _ (by rw [HFX.out]; exact (HBx.out.set 1 (.int .i64 0)).range 0 _ rfl) rfl rfl (by rw [infoAct]; rfl) ?_)
          | ((with_reducible show wpList _ _ _ ({ dst := _, op := .load 39 _, type := _, pos := _, after := _, guard := _ } :: _) _ _); refine wpL_load rfl _ _ rfl b (o + i * 7) rfl (La.cells (.slice ka kl kc) x) _ HR2.out rfl rfl (by rw [infoAct]; rfl) ?_)
          | ((with_reducible show wpList _ _ _ ({ dst := _, op := .alloc 39, type := _, pos := _, after := _, guard := _ } :: _) _ _); refine wpL_alloc rfl _ rfl _ zeroAct [.int .i64 0, .int .i64 0, .int .i64 0, .string ⟨#[]⟩, .int .u32 0, .int .u32 0, .slice none 0 0] rfl ?_; intro w6 HB6 HF6 HS6)
          | ((with_reducible show wpList _ _ _ ({ dst := _, op := .store 39 _ _, type := _, pos := _, after := _, guard := _ } :: _) _ _); refine wpL_store rfl _ _ _ rfl wr.heap.size 0 (La.cells (.slice ka kl kc) x) rfl rfl _ _ HB6.out (by simp [La.cells]) (by rw [infoAct]; rfl) HOne.out ?_; intro w7 HB7 HF7 HS7;
              have HBx : Hid (Blk w7 wr.heap.size 39 (La.cells (.slice ka kl kc) x)) := hid (by have := HB7.out; rwa [spl_all (by simp [La.cells])] at this);
              have HN7 : Hid (Fr No wr w7) := hid (HF6.out.trans HF7.out (fun k hk => .inr (Nat.le_of_eq hk.symm)));
              have d1 : w7.cell? ⟨wr.heap.size, 1, none⟩ = some (.int .i64 x.at_) := HBx.out.cell 1;
              have q1 : w7.frozen? ⟨wr.heap.size, 1, none⟩ = false := HBx.out.frozen 1))
        have HBk : Hid (Blk (w7.setCell ⟨wr.heap.size, 1, none⟩ (.int .i64 0)) wr.heap.size 39 (La.cells (.slice ka kl kc) x.fix)) := hid (by rw [HFX.out]; exact HBx.out.set 1 _)
        have HN8 : Hid (Fr No wr (w7.setCell ⟨wr.heap.size, 1, none⟩ (.int .i64 0))) := hid (HN7.out.setCell _ _ (.inr (Nat.le_refl _)))
        clear d1 q1
        generalize w7.setCell ⟨wr.heap.size, 1, none⟩ (.int .i64 0) = w8 at HBk HN8 ⊢
        refine (does_any W w8 bx bd be fs cn ep N (1 + 43 * i) (.slice ka kl kc) x.fix (HA.out.no HN8.out) (La.fix_in HI.out) (La.fix_at x) HFS.out.1 HFS.out.2 HE.out (by omega)).mono ?_
        rintro e w9 ⟨rfl, ha9⟩
        have HA9 := hid ha9
        clear ha9
        go_wp2_with fail
        refine (alike_same HA9.out).mono ?_
        rintro e w10 ⟨rfl, f10⟩
        have HA10 := hid ((HA9.out.no f10).le (M' := 1 + 43 * (i + 1)) (by omega))
        clear f10
        go_wp2_with fail
        exact ⟨⟨i + 1, by go_num, by omega, by omega, HA10⟩, by simp [intOf]; omega⟩
      · have hfx : x.fix = x := if_neg hneg
        have HFX := hid hfx
        clear hfx
        go_wp2_with (first
          | ((with_reducible show wpList _ _ _ ({ dst := _, op := .load 39 _, type := _, pos := _, after := _, guard := _ } :: _) _ _); have := HBx; refine wpL_load rfl _ _ rfl wr.heap.size 0 rfl (La.cells (.slice ka kl kc) x.fix) _ (by rw [HFX.out]; exact HBx.out.range 0 _ rfl) rfl rfl (by rw [infoAct]; rfl) ?_)
          | ((with_reducible show wpList _ _ _ ({ dst := _, op := .load 39 _, type := _, pos := _, after := _, guard := _ } :: _) _ _); refine wpL_load rfl _ _ rfl b (o + i * 7) rfl (La.cells (.slice ka kl kc) x) _ HR2.out rfl rfl (by rw [infoAct]; rfl) ?_)
          | ((with_reducible show wpList _ _ _ ({ dst := _, op := .alloc 39, type := _, pos := _, after := _, guard := _ } :: _) _ _); refine wpL_alloc rfl _ rfl _ zeroAct [.int .i64 0, .int .i64 0, .int .i64 0, .string ⟨#[]⟩, .int .u32 0, .int .u32 0, .slice none 0 0] rfl ?_; intro w6 HB6 HF6 HS6)
          | ((with_reducible show wpList _ _ _ ({ dst := _, op := .store 39 _ _, type := _, pos := _, after := _, guard := _ } :: _) _ _); refine wpL_store rfl _ _ _ rfl wr.heap.size 0 (La.cells (.slice ka kl kc) x) rfl rfl _ _ HB6.out (by simp [La.cells]) (by rw [infoAct]; rfl) HOne.out ?_; intro w7 HB7 HF7 HS7;
              have HBx : Hid (Blk w7 wr.heap.size 39 (La.cells (.slice ka kl kc) x)) := hid (by have := HB7.out; rwa [spl_all (by simp [La.cells])] at this);
              have HN7 : Hid (Fr No wr w7) := hid (HF6.out.trans HF7.out (fun k hk => .inr (Nat.le_of_eq hk.symm)));
              have d1 : w7.cell? ⟨wr.heap.size, 1, none⟩ = some (.int .i64 x.at_) := HBx.out.cell 1;
              have q1 : w7.frozen? ⟨wr.heap.size, 1, none⟩ = false := HBx.out.frozen 1))
        have HBk : Hid (Blk w7 wr.heap.size 39 (La.cells (.slice ka kl kc) x.fix)) := hid (by rw [HFX.out]; exact HBx.out)
        have HN8 := HN7
        clear d1 q1
        generalize w7 = w8 at HBk HN8 ⊢
        refine (does_any W w8 bx bd be fs cn ep N (1 + 43 * i) (.slice ka kl kc) x.fix (HA.out.no HN8.out) (La.fix_in HI.out) (La.fix_at x) HFS.out.1 HFS.out.2 HE.out (by omega)).mono ?_
        rintro e w9 ⟨rfl, ha9⟩
        have HA9 := hid ha9
        clear ha9
        go_wp2_with fail
        refine (alike_same HA9.out).mono ?_
        rintro e w10 ⟨rfl, f10⟩
        have HA10 := hid ((HA9.out.no f10).le (M' := 1 + 43 * (i + 1)) (by omega))
        clear f10
        go_wp2_with fail
        exact ⟨⟨i + 1, by go_num, by omega, by omega, HA10⟩, by simp [intOf]; omega⟩
    · have hcase : len ≤ i ∨ (i < len ∧ i = 100) := by omega
      rcases hcase with hge | ⟨hge, h100⟩
      · have hge' : ¬ ((i : Int) < (len : Int)) := by omega
        go_wp2_with fail
        go_ret
        exact ⟨rfl, HA.out.fr⟩
      · have hge' : (i : Int) < (len : Int) := by omega
        have h100' : ¬ ((i : Int) < 100) := by omega
        go_wp2_with fail
        go_ret
        exact ⟨rfl, HA.out.fr⟩
end Go.Proofs.Ytlnolnaapnijbaa.L
