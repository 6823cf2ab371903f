/-
  LogLasts' walk.
-/
import Derived.Test.YtfaogebnpbcnhaaLogAc
namespace Go.Proofs.Ytfaogebnpbcnhaa.L
set_option maxRecDepth 100000
open Go.RowKit K

theorem noneS (w : World) : (Instr.buildSlice 44 0 #[]).run Try.prog w = .ok (.slice (some ⟨w.heap.size, 0, none⟩) 0 0) (w.alloc (.cells #[] 9)) := by kernel_rfl
/-- The row of a list, as a slice that is copied. -/
theorem own_src {w : World} {base : Nat} {e : TypeId} {a : Option Addr} {cap n : Nat} {L : List (List UInt8)} (h : w.ownsRow base e 1 (.slice a n cap) n (strs L)) : n = 0 ∨ ∃ ad, a = some ad ∧ ∀ (j : Nat) (u : Value), (strs L)[j]? = some u → w.cell? (ad.add j) = some u := by
  rcases h.2 with ⟨e1, h0⟩ | ⟨g, cap', cur, e1, hb, hg, h1, h2, h3, h4⟩
  · exact .inl h0
  · simp only [Value.slice.injEq] at e1
    obtain ⟨rfl, _, rfl⟩ := e1
    refine .inr ⟨_, rfl, range_loads ?_⟩
    exact Blk.range (t := e) (cs := cur.toList) (by simpa [Blk] using hg) 0 _ (by rw [List.drop_zero]; have := h.1; rw [this]; exact h4)
theorem strs_one (L : List (List UInt8)) : ∀ v ∈ strs L, v.oneCell' = true := by
  intro v hv
  obtain ⟨l, _, rfl⟩ := List.mem_map.1 hv
  rfl
theorem texts_src {w : World} {E : Nat → Prop} {a : Option Addr} {cap n : Nat} {L : List (List UInt8)} (h : TextsIn w E (.slice a n cap) L) : n = 0 ∨ ∃ ad, a = some ad ∧ ∀ (j : Nat) (u : Value), (strs L)[j]? = some u → w.cell? (ad.add j) = some u := by
  obtain ⟨a', len, cap', e1, _, _, h3⟩ := h
  simp only [Value.slice.injEq] at e1
  obtain ⟨rfl, rfl, rfl⟩ := e1
  exact h3.imp id fun ⟨b, o, r1, _, _, r4⟩ => ⟨_, r1, range_loads r4⟩

/-- One more record is kept. -/
theorem Kept.push {w0 w w' : World} {Kp : Nat → Prop} {sv av av' : Value} {safe all : List (List UInt8)} {x : List UInt8} (h : Kept w0 w Kp sv av safe all) (own' : w'.ownsRow w0.heap.size 9 1 av' (all.length + 1) (strs all ++ [str x])) (hg : w.grownBy w' av.ownBlock) (hb : av'.ownBlock = av.ownBlock ∨ av'.ownBlock = some w.heap.size) :
    Kept w0 w' (Mo Kp w w') sv av' safe (all ++ [x]) := by
  refine ⟨own_fr h.so (frown hg) (fun k e e' => h.dis k e e'), ?_, fun k e => .inl (h.sk k e), fun k e => ?_, fun k e e' => ?_⟩
  · have e1 : (all ++ [x]).length = all.length + 1 := by simp
    have e2 : strs (all ++ [x]) = strs all ++ [str x] := by simp [strs]
    rw [e1, e2]
    exact own'
  · rcases hb with e1 | e1
    · rw [e1] at e; exact .inl (h.ak k e)
    · have := own_lt own' k e
      rw [e1] at e
      cases e
      exact .inr ⟨Nat.le_refl _, this⟩
  · rcases hb with e1 | e1
    · rw [e1] at e'; exact h.dis k e e'
    · rw [e1] at e'
      cases e'
      exact Nat.lt_irrefl _ (own_lt h.so _ e)
/-- What is kept is laid anew. -/
theorem Kept.freshS {w0 w w' : World} {Kp : Nat → Prop} {sv sv' av : Value} {safe safe' all : List (List UInt8)} (h : Kept w0 w Kp sv av safe all) (hf : Fr No w w') (own' : w'.ownsRow w0.heap.size 9 1 sv' safe'.length (strs safe')) (hb : ∀ k, sv'.ownBlock = some k → w.heap.size ≤ k) :
    Kept w0 w' (Mo Kp w w') sv' av safe' all :=
  ⟨own', own_fr h.ao hf (fun _ _ e => e), fun k e => .inr ⟨hb k e, own_lt own' k e⟩, fun k e => .inl (h.ak k e), fun k e e' => by have := hb k e; have := own_lt h.ao k e'; omega⟩
theorem Kept.freshA {w0 w w' : World} {Kp : Nat → Prop} {sv av av' : Value} {safe all all' : List (List UInt8)} (h : Kept w0 w Kp sv av safe all) (hf : Fr No w w') (own' : w'.ownsRow w0.heap.size 9 1 av' all'.length (strs all')) (hb : ∀ k, av'.ownBlock = some k → w.heap.size ≤ k) :
    Kept w0 w' (Mo Kp w w') sv av' safe all' :=
  ⟨own_fr h.so hf (fun _ _ e => e), own', fun k e => .inl (h.sk k e), fun k e => .inr ⟨hb k e, own_lt own' k e⟩, fun k e e' => by have := hb k e'; have := own_lt h.so k e; omega⟩
/-- A copy lies in new memory alone. -/
theorem copy_fr {w w1 w2 : World} {v' : Value} (h1 : Fr No w w1) (hg : w1.grownBy w2 (some w.heap.size)) (hb : v'.ownBlock = some w.heap.size ∨ v'.ownBlock = some w1.heap.size) : Fr No w w2 ∧ ∀ k, v'.ownBlock = some k → w.heap.size ≤ k := by
  refine ⟨h1.trans (frown hg) (fun k e => by cases e; exact .inr (Nat.le_refl _)), fun k e => ?_⟩
  rcases hb with e1 | e1
  · rw [e1] at e; cases e; exact Nat.le_refl _
  · rw [e1] at e; cases e; exact h1.size
theorem lo_open_none {w0 w : World} {Kp : Nat → Prop} {bd : Nat} {u u' : U} {first count ep : Nat} {r : Int} (hr : u.opens first count ep = (r, u', none)) (h : Lo w0 Kp w bd u) (hc : 2 ≤ count) (hf : first + count ≤ u.L.length) (he : ep < 4294967296) (hp : u.P.length < 1000000) :
    Calls Try.prog 17 #[.pointer (some ⟨bd, 0, none⟩), .int .i64 first, .int .i64 count, .int .u32 ep] w fun e w' => e = .returned (.tuple #[.pointer none, .slice none 0 0, .int .i64 r]) ∧ Lo w0 Kp w' bd u' ∧ Fr (Ap w0 Kp) w w' := by
  refine (lo_open first count ep h hc hf he hp).mono ?_
  rw [hr]
  rintro e w' ⟨r1, rfl, r2⟩
  exact ⟨rfl, r2, r1⟩

theorem opens_len (u : U) (first count e : Nat) : (u.opens first count e).2.1.L.length = u.L.length := by
  unfold U.opens U.begin
  simp only
  (repeat' split) <;> simp
theorem flush_len (u : U) : u.flush.2.L.length = u.L.length ∧ u.flush.2.P.length ≤ u.P.length := by
  unfold U.flush
  (repeat' split) <;> simp [spend_P, spend_L]

set_option maxHeartbeats 16000000 in
theorem logLasts_walk (w : World) (n : Int) (v : Value) (xs : List La) (hn : -9223372036854775808 ≤ n ∧ n ≤ 9223372036854775807) (hL : LasIn w w.heap.size v xs) :
    Calls Try.prog 5 #[.int .i64 n, v] w fun e w' => e = .returned (.bool true) ∧ Fr No w w' := by
  obtain ⟨a, len, cap, rfl, hlen, hcap, hmem⟩ := id hL
  have HX := hid hL; have HLen := hid hlen
  obtain ⟨i9, hi9, hz9, hs9, hb9⟩ := info_parts info9z
  have I9 := hid hi9; have Z9 := hid hz9; have S9 := hid hs9; have B9 := hid hb9
  clear hL hlen hmem hi9 hz9 hs9 hb9
  go_enter Try.func5, Try.ntmps5
  go_wp2_with fail
  refine (awake_any w).mono ?_
  rintro e w1 ⟨rfl, hf⟩
  have HF1 := hid hf; clear hf
  by_cases hno : n < 1 ∨ 4096 < n
  · go_wp2_with fail
    refine (D.new_no n w1 hno).mono ?_
    rintro e w' ⟨rfl, rfl⟩
    clear hno
    go_wp2_with fail
    go_ret
    exact ⟨rfl, HF1.out⟩
  · obtain ⟨N, rfl⟩ := Int.eq_ofNat_of_zero_le (show 0 ≤ n by omega)
    have hN1 : 1 ≤ N := by omega
    have hN2 : N ≤ 4096 := by omega
    clear hno hn
    go_wp2_with fail
    refine (lo_new (w0 := w) N hN1 hN2 HF1.out).mono ?_
    rintro e w2 ⟨bd, rfl, h1, hf⟩
    have H2 := hid h1; clear h1 hf
    by_cases h2 : N = 1
    · subst h2
      go_wp2_with fail
      go_ret
      exact ⟨rfl, H2.out.fr⟩
    · have hN3 : (2 : Int) ≤ N := by omega
      have hN4 : ¬ ((N : Int) < 2) := by omega
      have hNi : (N : Int) ≤ 4096 := by omega
      have HN := hid (show 2 ≤ N by omega)
      have HN2 := hid hN2
      clear h2 hN1 hN2
      go_wp2_with fail
      refine (lo_open_some (first := 0) (count := N) (ep := 7) (new_opens HN.out (by omega)) H2.out HN.out (by simp [U.new]) (by decide) (by simp [U.new])).mono ?_
      rintro e w3 ⟨bg, a3, cap3, Kp, rfl, h1, -, -, -⟩
      have H3 := hid h1; clear h1
      have HLv := hid (live_new (N := N) (first := 0) (count := N) (e := 7) HN.out (by omega) HN2.out (by decide))
      go_wp2_with fail
      go_loopw [8, 11, 12, 13] (fun gv sv av iv wr => ∃ (i : Nat) (u : U) (safe all : List (List UInt8)) (sa : Option Addr) (sc : Nat) (aa : Option Addr) (ac : Nat) (Kq : Nat → Prop), iv = .int .i64 (i : Int) ∧ sv = .slice sa safe.length sc ∧ av = .slice aa all.length ac ∧ i ≤ 120 ∧ i ≤ len ∧
        Hid (u.L.length = N) ∧ Hid (Stand w wr N bd i gv sv av u safe all Kq)) (fun _ _ _ iv _ => 120 - (intOf iv).toNat)
      case atStart =>
        exact ⟨0, opened1 N 0, [], [], none, 0, none, 0, Kp, rfl, rfl, rfl, by omega, Nat.zero_le _, hid (opened1_L N 0), hid ⟨⟨World.ownsRow_nil _ _ _ _, World.ownsRow_nil _ _ _ _, fun k e => (by cases e), fun k e => (by cases e), fun k e => (by cases e)⟩, by simp [opened1], by simp, by simp, .inl ⟨bg, _, 0, [], rfl, H3.out, HLv.out, rfl, Nat.le_refl _⟩⟩⟩
      case round =>
        obtain ⟨i, u, safe, all, sa, sc, aa, ac, Kq, rfl, rfl, rfl, hi, hil, HUL, HSt⟩ := hrel
        by_cases hlt : i < len ∧ i < 120
        · obtain ⟨hlt1, hlt2⟩ := hlt
          have hfr := HSt.out.lo.fr
          obtain ⟨x, hx⟩ : ∃ x, xs[i]? = some x := ⟨xs[i]'(by rw [HLen.out]; exact hlt1), List.getElem?_eq_getElem _⟩
          obtain ⟨a', len', cap', e1, _, _, hel⟩ := HX.out.fr hfr (fun _ _ e => e)
          simp only [Value.slice.injEq] at e1
          obtain ⟨rfl, rfl, rfl⟩ := e1
          obtain ⟨b, o, kv, rfl, hbl, hr, hin⟩ := hel i x hx
          have HR := hid hr; have HI := hid hin
          have h1i : (i : Int) < len := by omega
          have h2i : (i : Int) < 120 := by omega
          have hk0 : (0 : Int) ≤ i := by omega
          clear hel hr hin hx hfr
          have hOne : ∀ v ∈ La.cells kv x, v.oneCell' = true := by
            intro v hv
            obtain ⟨a, len, cap, e, _⟩ := HI.out.k
            subst e
            simp [La.cells] at hv
            rcases hv with rfl | rfl | rfl | rfl | rfl | rfl | rfl <;> rfl
          have HOne := hid hOne
          clear hOne
          by_cases hw1 : x.how = 1
          · have t1 : (x.how == 1) = true := by simp; omega
            have t2 : (x.how == 2) = false := by simp; omega
            have t3 : (x.how == 3) = false := by simp; omega
            have t5 : (x.how == 5) = false := by simp; omega
            clear hw1
            obtain ⟨hkp, hp43, hall, hsafe, hst⟩ := HSt.out
            have HKp := hid hkp; have HP := hid hp43; have HAl := hid hall; have HSa := hid hsafe
            clear hkp hp43
            rcases hst with ⟨bg', g, h, rest, rfl, hl, hlv, hae, hh⟩ | ⟨h, R, rfl, hl, hlo, hs1, hs2, hh⟩
            · have HLl := hid hl; have HLv' := hid hlv; have HAe := hid hae; have HH := hid hh
              clear hl hlv hae hh
              go_wp2_with (first
                | ((with_reducible show wpList _ _ _ ({ dst := _, op := .load 39 _, type := _, pos := _, after := _, guard := _ } :: _) _ _); refine wpL_load rfl _ _ rfl b (o + i * 7) rfl (La.cells kv x) _ HR.out rfl rfl (by rw [infoAct]; rfl) ?_)
                | ((with_reducible show wpList _ _ _ ({ dst := _, op := .alloc 39, type := _, pos := _, after := _, guard := _ } :: _) _ _); refine wpL_alloc rfl _ rfl _ zeroAct [.int .i64 0, .int .i64 0, .int .i64 0, .string ⟨#[]⟩, .int .u32 0, .int .u32 0, .slice none 0 0] rfl ?_; intro w4 HB4 HF4 HS4)
                | ((with_reducible show wpList _ _ _ ({ dst := _, op := .store 39 _ _, type := _, pos := _, after := _, guard := _ } :: _) _ _); refine wpL_store rfl _ _ _ rfl wr.heap.size 0 (La.cells kv x) rfl rfl _ _ HB4.out (by simp [La.cells]) (by rw [infoAct]; rfl) HOne.out ?_; intro w5 HB5 HF5 HS5;
                    have HBx : Hid (Blk w5 wr.heap.size 39 (La.cells kv x)) := hid (by have := HB5.out; rwa [spl_all (by simp [La.cells])] at this);
                    have HN5 : Hid (Fr No wr w5) := hid (HF4.out.trans HF5.out (fun k hk => .inr (Nat.le_of_eq hk.symm)));
                    have d0 : w5.cell? ⟨wr.heap.size, 0, none⟩ = some (.int .i64 x.how) := HBx.out.cell 0;
                    have d2 : w5.cell? ⟨wr.heap.size, 2, none⟩ = some (.int .i64 x.n) := HBx.out.cell 2;
                    have d3 : w5.cell? ⟨wr.heap.size, 3, none⟩ = some (.string x.txt) := HBx.out.cell 3;
                    have d6 : w5.cell? ⟨wr.heap.size, 6, none⟩ = some kv := HBx.out.cell 6))
              have HK5 : Hid (Mo Kq wr w5 wr.heap.size) := hid (.inr ⟨Nat.le_refl _, HBx.out.lt⟩)
              have HL5 := hid (HLl.out.more HN5.out.no)
              have HKp5 := hid ((HKp.out.no HN5.out).more (Kq := Mo Kq wr w5) (fun k hk => .inl hk))
              refine (ll_append x.txt HL5.out (by have := HI.out.rl; omega) (by have := HP.out; omega)).mono ?_
              rintro e w6 ⟨rfl, h1, h2⟩
              have c3 : w6.cell? ⟨wr.heap.size, 3, none⟩ = some (.string x.txt) := h2.cell d3 (fun hd => hd.2 HK5.out)
              have HKp6 := hid (HKp5.out.ap h2)
              obtain ⟨q, c, l, hraw⟩ := HLv'.out
              have hap := hraw.append x.txt.data.toList
              have hPl := append_P u g x.txt.data.toList
              have hLe := append_L u g x.txt.data.toList
              have H6 := hid h1; have HAp := hid hap; have HPl := hid hPl; have HLe := hid hLe
              clear h1 h2 hraw hap hPl hLe d0 d2 d3 d6
              generalize u.append g x.txt.data.toList = ap at H6 HAp HPl HLe ⊢
              obtain ⟨a1, a2, a3'⟩ := ap
              simp only at H6 HAp HPl HLe ⊢
              have hwz : Hid (w.heap.size ≤ w6.heap.size) := hid H6.out.fr.size
              by_cases h0 : a1 = 0
              · have hlv1 := HAp.out.1 h0
                subst h0
                have HLv1 := hid hlv1
                clear hlv1
                go_wp2_with (first
                  | ((with_reducible show wpList _ _ _ ({ dst := _, op := .buildSlice 44 _ _, type := _, pos := _, after := _, guard := _ } :: _) _ _); refine wpL_buildOne rfl _ 9 _ rfl i9 _ rfl I9.out Z9.out (by rw [S9.out]; decide) (by rw [S9.out]; decide) _ [.string x.txt] rfl rfl (by rw [S9.out]; rfl) ?_; intro w7 HB7 HF7 HS7;
                      have HKp7 := hid (HKp6.out.no HF7.out))
                  | ((with_reducible show wpList _ _ _ ({ dst := _, op := .call { callee := .builtin .append, args := _, argTypes := _ }, type := _, pos := _, after := _, guard := _ } :: _) _ _); refine wpL_append rfl _ _ 44 rfl w.heap.size 9 i9 _ 1 16 rfl I9.out Z9.out S9.out B9.out rfl (by decide) _ all.length (strs all) rfl HKp7.out.ao (some ⟨w6.heap.size, 0, none⟩) 1 1 [.string x.txt] rfl rfl (.inr ⟨_, rfl, range_loads (HB7.out.range 0 _ rfl)⟩) (by intro v hv; simp at hv; subst hv; rfl) (by unfold maxLen; omega) (by omega) (Nat.le_trans hwz.out HF7.out.size) ?_; intro a8 cap8 w8 HO8 HG8 HA8))
                have hK8 := HKp7.out.push (x := x.txt.data.toList) HO8.out HG8.out HA8.out
                have hL8 := (H6.out.later HF7.out).more ((frown HG8.out).mono (fun j hj => HKp7.out.ak j hj))
                have hl8 : (all ++ [x.txt.data.toList]).length = all.length + 1 := by simp
                exact ⟨⟨i + 1, a2, safe, all ++ [x.txt.data.toList], sa, sc, a8, cap8, _, by go_num, rfl, by rw [hl8], by omega, by omega, hid (HLe.out.symm ▸ HUL.out), hid ⟨hK8, by have h1 : a2.P.length ≤ u.P.length + 42 := HPl.out; have := HP.out; omega, by rw [hl8]; omega, by omega, .inl ⟨bg', a3', h, rest ++ [x.txt.data.toList], rfl, hL8, HLv1.out, by rw [HAe.out, List.append_assoc], by have := HH.out; omega⟩⟩⟩, by simp [intOf]; omega⟩
              · have a0 : (a1 == 0) = false := by simp [h0]
                have HLv1 := hid (HAp.out.2 h0)
                clear h0
                go_wp2_with fail
                have hg' : Live a2 a3' 0 N 7 h safe rest := HLv1.out
                exact ⟨⟨i + 1, a2, safe, all, sa, sc, aa, ac, _, by go_num, rfl, rfl, by omega, by omega, hid (HLe.out.symm ▸ HUL.out), hid ⟨HKp6.out, by have h1 : a2.P.length ≤ u.P.length + 42 := HPl.out; have := HP.out; omega, by omega, by omega, .inl ⟨bg', a3', h, rest, rfl, H6.out, hg', HAe.out, by have := HH.out; omega⟩⟩⟩, by simp [intOf]; omega⟩
            · have HL := hid hl; have HLo := hid hlo; have HS1 := hid hs1; have HS2 := hid hs2; have HH := hid hh
              clear hl hlo hs1 hs2 hh
              go_wp2_with (first
                | ((with_reducible show wpList _ _ _ ({ dst := _, op := .load 39 _, type := _, pos := _, after := _, guard := _ } :: _) _ _); refine wpL_load rfl _ _ rfl b (o + i * 7) rfl (La.cells kv x) _ HR.out rfl rfl (by rw [infoAct]; rfl) ?_)
                | ((with_reducible show wpList _ _ _ ({ dst := _, op := .alloc 39, type := _, pos := _, after := _, guard := _ } :: _) _ _); refine wpL_alloc rfl _ rfl _ zeroAct [.int .i64 0, .int .i64 0, .int .i64 0, .string ⟨#[]⟩, .int .u32 0, .int .u32 0, .slice none 0 0] rfl ?_; intro w4 HB4 HF4 HS4)
                | ((with_reducible show wpList _ _ _ ({ dst := _, op := .store 39 _ _, type := _, pos := _, after := _, guard := _ } :: _) _ _); refine wpL_store rfl _ _ _ rfl wr.heap.size 0 (La.cells kv x) rfl rfl _ _ HB4.out (by simp [La.cells]) (by rw [infoAct]; rfl) HOne.out ?_; intro w5 HB5 HF5 HS5;
                    have HBx : Hid (Blk w5 wr.heap.size 39 (La.cells kv x)) := hid (by have := HB5.out; rwa [spl_all (by simp [La.cells])] at this);
                    have HN5 : Hid (Fr No wr w5) := hid (HF4.out.trans HF5.out (fun k hk => .inr (Nat.le_of_eq hk.symm)));
                    have d0 : w5.cell? ⟨wr.heap.size, 0, none⟩ = some (.int .i64 x.how) := HBx.out.cell 0;
                    have d2 : w5.cell? ⟨wr.heap.size, 2, none⟩ = some (.int .i64 x.n) := HBx.out.cell 2;
                    have d3 : w5.cell? ⟨wr.heap.size, 3, none⟩ = some (.string x.txt) := HBx.out.cell 3;
                    have d6 : w5.cell? ⟨wr.heap.size, 6, none⟩ = some kv := HBx.out.cell 6))
              exact ⟨⟨i + 1, u, safe, all, sa, sc, aa, ac, Kq, by go_num, rfl, rfl, by omega, by omega, HUL, hid (Stand.next ⟨HKp.out, HP.out, HAl.out, HSa.out, .inr ⟨h, R, rfl, HL.out, HLo.out, HS1.out, HS2.out, HH.out⟩⟩ HN5.out)⟩, by simp [intOf]; omega⟩
          · by_cases hw2 : x.how = 2
            · have t1 : (x.how == 1) = false := by simp; omega
              have t2 : (x.how == 2) = true := by simp; omega
              have t3 : (x.how == 3) = false := by simp; omega
              have t5 : (x.how == 5) = false := by simp; omega
              clear hw1 hw2
              obtain ⟨hkp, hp43, hall, hsafe, hst⟩ := HSt.out
              have HKp := hid hkp; have HP := hid hp43; have HAl := hid hall; have HSa := hid hsafe
              clear hkp hp43
              rcases hst with ⟨bg', g, h, rest, rfl, hl, hlv, hae, hh⟩ | ⟨h, R, rfl, hl, hlo, hs1, hs2, hh⟩
              · have HLl := hid hl; have HLv' := hid hlv; have HAe := hid hae; have HH := hid hh
                clear hl hlv hae hh
                go_wp2_with (first
                  | ((with_reducible show wpList _ _ _ ({ dst := _, op := .load 39 _, type := _, pos := _, after := _, guard := _ } :: _) _ _); refine wpL_load rfl _ _ rfl b (o + i * 7) rfl (La.cells kv x) _ HR.out rfl rfl (by rw [infoAct]; rfl) ?_)
                  | ((with_reducible show wpList _ _ _ ({ dst := _, op := .alloc 39, type := _, pos := _, after := _, guard := _ } :: _) _ _); refine wpL_alloc rfl _ rfl _ zeroAct [.int .i64 0, .int .i64 0, .int .i64 0, .string ⟨#[]⟩, .int .u32 0, .int .u32 0, .slice none 0 0] rfl ?_; intro w4 HB4 HF4 HS4)
                  | ((with_reducible show wpList _ _ _ ({ dst := _, op := .store 39 _ _, type := _, pos := _, after := _, guard := _ } :: _) _ _); refine wpL_store rfl _ _ _ rfl wr.heap.size 0 (La.cells kv x) rfl rfl _ _ HB4.out (by simp [La.cells]) (by rw [infoAct]; rfl) HOne.out ?_; intro w5 HB5 HF5 HS5;
                      have HBx : Hid (Blk w5 wr.heap.size 39 (La.cells kv x)) := hid (by have := HB5.out; rwa [spl_all (by simp [La.cells])] at this);
                      have HN5 : Hid (Fr No wr w5) := hid (HF4.out.trans HF5.out (fun k hk => .inr (Nat.le_of_eq hk.symm)));
                      have d0 : w5.cell? ⟨wr.heap.size, 0, none⟩ = some (.int .i64 x.how) := HBx.out.cell 0;
                      have d2 : w5.cell? ⟨wr.heap.size, 2, none⟩ = some (.int .i64 x.n) := HBx.out.cell 2;
                      have d3 : w5.cell? ⟨wr.heap.size, 3, none⟩ = some (.string x.txt) := HBx.out.cell 3;
                      have d6 : w5.cell? ⟨wr.heap.size, 6, none⟩ = some kv := HBx.out.cell 6))
                have HK5 : Hid (Mo Kq wr w5 wr.heap.size) := hid (.inr ⟨Nat.le_refl _, HBx.out.lt⟩)
                have HKp5 := hid ((HKp.out.no HN5.out).more (Kq := Mo Kq wr w5) (fun k hk => .inl hk))
                have HL5 := hid (HLl.out.more HN5.out.no)
                refine (ll_sync HL5.out).mono ?_
                rintro e w6 ⟨rfl, h1, h2⟩
                have HKp6 := hid (HKp5.out.ap h2)
                obtain ⟨q, c, l, hraw⟩ := HLv'.out
                have hf1 := hid hraw.flush
                have hf2 := hid hraw.flushed
                have hfl := hid (flush_len u)
                have H6 := hid h1
                clear h1 h2 hraw d0 d2 d3 d6
                generalize u.flush = fl at H6 hf1 hf2 hfl ⊢
                obtain ⟨a1, a2⟩ := fl
                simp only at H6 hf1 hf2 hfl ⊢
                have hwz : Hid (w.heap.size ≤ w6.heap.size) := hid H6.out.fr.size
                by_cases h0 : a1 = 0
                · have hlv1 := hf1.out h0
                  subst h0
                  have HLv1 := hid hlv1
                  clear hlv1
                  go_wp2_with (first
                    | ((with_reducible show wpList _ _ _ ({ dst := _, op := .buildSlice 44 _ _, type := _, pos := _, after := _, guard := _ } :: _) _ _); refine wpL_buildNone rfl _ 9 rfl noneS ?_; intro w7 HB7 HF7 HS7; have HKp7 := hid (HKp6.out.no HF7.out))
                    | ((with_reducible show wpList _ _ _ ({ dst := _, op := .call { callee := .builtin .append, args := _, argTypes := _ }, type := _, pos := _, after := _, guard := _ } :: _) _ _); refine wpL_appendNew rfl _ _ 44 rfl w.heap.size 9 i9 _ 1 16 rfl I9.out Z9.out S9.out B9.out rfl (by decide) _ rfl (blk_own (n := 0) HB7.out rfl hwz.out (by decide)) aa all.length ac (strs all) rfl (by simp [strs]) (own_src HKp7.out.ao) (strs_one all) (by unfold maxLen; omega) (by omega) (Nat.le_trans hwz.out HF7.out.size) ?_; intro a8 cap8 w8 HO8 HG8 HA8))
                  obtain ⟨hf8, hb8⟩ := copy_fr HF7.out HG8.out HA8.out
                  have hK8 := HKp6.out.freshS (safe' := all) hf8 HO8.out hb8
                  have hL8 := H6.out.more hf8.no
                  exact ⟨⟨i + 1, a2, all, all, a8, cap8, aa, ac, _, by go_num, rfl, rfl, by omega, by omega, hid (hfl.out.1.trans HUL.out), hid ⟨hK8, by have := hfl.out.2; have := HP.out; omega, by omega, by omega, .inl ⟨bg', g, h, [], rfl, hL8, by rw [HAe.out]; exact HLv1.out, by simp, by have := HH.out; omega⟩⟩⟩, by simp [intOf]; omega⟩
                · have a0 : (a1 == 0) = false := by simp [h0]
                  have HLv1 := hid (hf2.out h0)
                  clear h0
                  go_wp2_with fail
                  exact ⟨⟨i + 1, a2, safe, all, sa, sc, aa, ac, _, by go_num, rfl, rfl, by omega, by omega, hid (hfl.out.1.trans HUL.out), hid ⟨HKp6.out, by have := hfl.out.2; have := HP.out; omega, by omega, by omega, .inl ⟨bg', g, h, rest, rfl, H6.out, HLv1.out, HAe.out, by have := HH.out; omega⟩⟩⟩, by simp [intOf]; omega⟩
              · have HL := hid hl; have HLo := hid hlo; have HS1 := hid hs1; have HS2 := hid hs2; have HH := hid hh
                clear hl hlo hs1 hs2 hh
                go_wp2_with (first
                  | ((with_reducible show wpList _ _ _ ({ dst := _, op := .load 39 _, type := _, pos := _, after := _, guard := _ } :: _) _ _); refine wpL_load rfl _ _ rfl b (o + i * 7) rfl (La.cells kv x) _ HR.out rfl rfl (by rw [infoAct]; rfl) ?_)
                  | ((with_reducible show wpList _ _ _ ({ dst := _, op := .alloc 39, type := _, pos := _, after := _, guard := _ } :: _) _ _); refine wpL_alloc rfl _ rfl _ zeroAct [.int .i64 0, .int .i64 0, .int .i64 0, .string ⟨#[]⟩, .int .u32 0, .int .u32 0, .slice none 0 0] rfl ?_; intro w4 HB4 HF4 HS4)
                  | ((with_reducible show wpList _ _ _ ({ dst := _, op := .store 39 _ _, type := _, pos := _, after := _, guard := _ } :: _) _ _); refine wpL_store rfl _ _ _ rfl wr.heap.size 0 (La.cells kv x) rfl rfl _ _ HB4.out (by simp [La.cells]) (by rw [infoAct]; rfl) HOne.out ?_; intro w5 HB5 HF5 HS5;
                      have HBx : Hid (Blk w5 wr.heap.size 39 (La.cells kv x)) := hid (by have := HB5.out; rwa [spl_all (by simp [La.cells])] at this);
                      have HN5 : Hid (Fr No wr w5) := hid (HF4.out.trans HF5.out (fun k hk => .inr (Nat.le_of_eq hk.symm)));
                      have d0 : w5.cell? ⟨wr.heap.size, 0, none⟩ = some (.int .i64 x.how) := HBx.out.cell 0;
                      have d2 : w5.cell? ⟨wr.heap.size, 2, none⟩ = some (.int .i64 x.n) := HBx.out.cell 2;
                      have d3 : w5.cell? ⟨wr.heap.size, 3, none⟩ = some (.string x.txt) := HBx.out.cell 3;
                      have d6 : w5.cell? ⟨wr.heap.size, 6, none⟩ = some kv := HBx.out.cell 6))
                exact ⟨⟨i + 1, u, safe, all, sa, sc, aa, ac, Kq, by go_num, rfl, rfl, by omega, by omega, HUL, hid (Stand.next ⟨HKp.out, HP.out, HAl.out, HSa.out, .inr ⟨h, R, rfl, HL.out, HLo.out, HS1.out, HS2.out, HH.out⟩⟩ HN5.out)⟩, by simp [intOf]; omega⟩
            · by_cases hw3 : x.how = 3
              · have t1 : (x.how == 1) = false := by simp; omega
                have t2 : (x.how == 2) = false := by simp; omega
                have t3 : (x.how == 3) = true := by simp; omega
                have t5 : (x.how == 5) = false := by simp; omega
                clear hw1 hw2 hw3
                have HLo := hid HSt.out.lo
                have hcr := HSt.out.crash (by omega) x.keep
                obtain ⟨hkp, hp43, hall, hsafe, -⟩ := HSt.out
                have HKp := hid hkp; have HP := hid hp43
                clear hkp hp43
                obtain ⟨h', T, hh', hba, hto, hp1, hp2⟩ := hcr
                have HBa := hid hba; have HTo := hid hto; have HPr1 := hid hp1; have HPr2 := hid hp2
                have HTl : Hid (T.length ≤ i) := hid (Nat.le_trans hp2.length_le hall)
                clear hba hto hp1 hp2
                go_wp2_with (first
                  | ((with_reducible show wpList _ _ _ ({ dst := _, op := .load 39 _, type := _, pos := _, after := _, guard := _ } :: _) _ _); refine wpL_load rfl _ _ rfl b (o + i * 7) rfl (La.cells kv x) _ HR.out rfl rfl (by rw [infoAct]; rfl) ?_)
                  | ((with_reducible show wpList _ _ _ ({ dst := _, op := .alloc 39, type := _, pos := _, after := _, guard := _ } :: _) _ _); refine wpL_alloc rfl _ rfl _ zeroAct [.int .i64 0, .int .i64 0, .int .i64 0, .string ⟨#[]⟩, .int .u32 0, .int .u32 0, .slice none 0 0] rfl ?_; intro w4 HB4 HF4 HS4)
                  | ((with_reducible show wpList _ _ _ ({ dst := _, op := .store 39 _ _, type := _, pos := _, after := _, guard := _ } :: _) _ _); refine wpL_store rfl _ _ _ rfl wr.heap.size 0 (La.cells kv x) rfl rfl _ _ HB4.out (by simp [La.cells]) (by rw [infoAct]; rfl) HOne.out ?_; intro w5 HB5 HF5 HS5;
                      have HBx : Hid (Blk w5 wr.heap.size 39 (La.cells kv x)) := hid (by have := HB5.out; rwa [spl_all (by simp [La.cells])] at this);
                      have HN5 : Hid (Fr No wr w5) := hid (HF4.out.trans HF5.out (fun k hk => .inr (Nat.le_of_eq hk.symm)));
                      have d0 : w5.cell? ⟨wr.heap.size, 0, none⟩ = some (.int .i64 x.how) := HBx.out.cell 0;
                      have d2 : w5.cell? ⟨wr.heap.size, 2, none⟩ = some (.int .i64 x.n) := HBx.out.cell 2;
                      have d3 : w5.cell? ⟨wr.heap.size, 3, none⟩ = some (.string x.txt) := HBx.out.cell 3;
                      have d6 : w5.cell? ⟨wr.heap.size, 6, none⟩ = some kv := HBx.out.cell 6))
                have HK5 : Hid (Mo Kq wr w5 wr.heap.size) := hid (.inr ⟨Nat.le_refl _, HBx.out.lt⟩)
                have HKp5 := hid ((HKp.out.no HN5.out).more (Kq := Mo Kq wr w5) (fun k hk => .inl hk))
                have HL5 := hid (HLo.out.more HN5.out.no)
                refine (lo_crash kv x.keep (fun k => k < w.heap.size) HL5.out (HI.out.fr HN5.out (fun _ _ e => e)).k (fun k hk => .inl hk) (by have := HI.out.kl; omega)).mono ?_
                rintro e w6 ⟨rfl, h1, h2⟩
                have c2 : w6.cell? ⟨wr.heap.size, 2, none⟩ = some (.int .i64 x.n) := h2.cell d2 (fun hd => hd.2 HK5.out)
                have HKp6 := hid (HKp5.out.ap h2)
                have H6 := hid h1
                have hci := crash_idle u x.keep
                have HUL2 : Hid ((u.crash x.keep).2.L.length = N) := hid (by rw [hci.2.2]; simp; exact HUL.out)
                have HUP2 : Hid ((u.crash x.keep).2.P = [] ∧ (u.crash x.keep).2.up = true) := hid ⟨hci.2.1, hci.1.up⟩
                clear h1 h2 hci d0 d2 d3 d6
                generalize u.crash x.keep = cr at H6 HUL2 HUP2 HBa HTo ⊢
                obtain ⟨cc, u2⟩ := cr
                simp only at H6 HUL2 HUP2 HBa HTo ⊢
                by_cases hn0 : 0 < x.n
                · go_wp2_with fail
                  refine (lo_arm (x.n % 4) (by omega) H6.out).mono ?_
                  rintro e w7 ⟨rfl, h1, h2⟩
                  have HKp7 := hid (HKp6.out.ap h2)
                  have H7 := hid h1
                  have Has := arm_same u2 (x.n % 4)
                  have HUL3 : Hid ((u2.arm (x.n % 4)).2.L.length = N) := hid (by rw [Has.1]; exact HUL2.out)
                  have HU3 : Hid ((u2.arm (x.n % 4)).2.P = [] ∧ (u2.arm (x.n % 4)).2.up = true) := hid ⟨Has.2.1.trans HUP2.out.1, Has.2.2.trans HUP2.out.2⟩
                  have HBa : Hid (Base (u2.arm (x.n % 4)).2.L 0 N 7 h') := hid (by rw [Has.1]; exact HBa.out)
                  have HTo : Hid (told (u2.arm (x.n % 4)).2.L 0 N 7 h' = T) := hid (by rw [Has.1]; exact HTo.out)
                  clear h1 h2 Has c2
                  generalize u2.arm (x.n % 4) = am at H7 HUL3 HU3 HBa HTo ⊢
                  obtain ⟨ac1, u3⟩ := am
                  simp only at H7 HUL3 HU3 HBa HTo ⊢
                  go_wp2_with fail
                  rcases Base.opens (u := u3) HBa.out HU3.out.1 HU3.out.2 (by omega) HN2.out (by decide) with ⟨o1, g', o2, o3, o4, o5, o6⟩ | ⟨o1, o2, o3⟩
                  · rw [HTo.out] at o2 o3
                    have hop : u3.opens 0 N 7 = (0, (u3.opens 0 N 7).2.1, some (g', T)) := Prod.ext o1 (Prod.ext rfl o2)
                    have ho4 := hid o4; have ho6 := hid o6; have HLv3 := hid o3
                    clear o1 o2 o3 o4 o5 o6
                    generalize (u3.opens 0 N 7).2.1 = u4 at hop HLv3 ho4 ho6
                    refine (lo_open_some (first := 0) (count := N) (ep := 7) hop H7.out HN.out (by rw [HUL3.out]; omega) (by decide) (by rw [HU3.out.1]; simp)).mono ?_
                    clear hop
                    rintro e w8 ⟨bg8, a8, cap8, Kp8, rfl, h1, h2, h3, h4⟩
                    have H8 := hid h1; have HTx := hid h2; have HKp8 := hid ((HKp7.out.ap h4).more h3)
                    clear h1 h2 h3 h4
                    go_wp2_with fail
                    have hb1 := begins_any (.slice sa safe.length sc) (.slice a8 T.length cap8) safe T _ _ w8 (own_texts HKp8.out.so) HTx.out (by omega)
                    rw [decide_eq_true HPr1.out] at hb1
                    refine hb1.mono ?_
                    clear hb1
                    rintro e w9 ⟨rfl, hf9⟩
                    have HF9 := hid hf9; clear hf9
                    go_wp2_with fail
                    have hb2 := begins_any (.slice a8 T.length cap8) (.slice aa all.length ac) T all _ _ w9 (HTx.out.fr HF9.out (fun _ _ _ e => e)) (own_texts (HKp8.out.no HF9.out).ao) (by have := HTl.out; omega)
                    rw [decide_eq_true HPr2.out] at hb2
                    refine hb2.mono ?_
                    clear hb2
                    rintro e w10 ⟨rfl, hf10⟩
                    have HF10 := hid (HF9.out.trans' hf10); clear hf10
                    have HTx := hid (HTx.out.fr HF10.out (fun _ _ _ e => e))
                    have hwz : Hid (w.heap.size ≤ w10.heap.size) := hid (H8.out.later HF10.out).fr.size
                    have HTl' := HTl.out
                    go_wp2_with (first
                      | ((with_reducible show wpList _ _ _ ({ dst := _, op := .buildSlice 44 _ _, type := _, pos := _, after := _, guard := _ } :: _) _ _); have := HO12; refine wpL_buildNone rfl _ 9 rfl noneS ?_; intro w13 HB13 HF13 HS13; have HTz := hid (HTy.out.fr HF13.out (fun _ _ _ e => e)); have hwz3 : Hid (w.heap.size ≤ w12.heap.size) := hid (Nat.le_trans hwz.out hf12.size))
                      | ((with_reducible show wpList _ _ _ ({ dst := _, op := .call { callee := .builtin .append, args := _, argTypes := _ }, type := _, pos := _, after := _, guard := _ } :: _) _ _); have := HO12; refine wpL_appendNew rfl _ _ 44 rfl w.heap.size 9 i9 _ 1 16 rfl I9.out Z9.out S9.out B9.out rfl (by decide) _ rfl (blk_own (n := 0) HB13.out rfl hwz3.out (by decide)) a8 T.length cap8 (strs T) rfl (by simp [strs]) (texts_src HTz.out) (strs_one T) (by unfold maxLen; omega) (by omega) (Nat.le_trans hwz3.out HF13.out.size) ?_; intro a14 cap14 w14 HO14 HG14 HA14)
                      | ((with_reducible show wpList _ _ _ ({ dst := _, op := .buildSlice 44 _ _, type := _, pos := _, after := _, guard := _ } :: _) _ _); refine wpL_buildNone rfl _ 9 rfl noneS ?_; intro w11 HB11 HF11 HS11; have HTw := hid (HTx.out.fr HF11.out (fun _ _ _ e => e)))
                      | ((with_reducible show wpList _ _ _ ({ dst := _, op := .call { callee := .builtin .append, args := _, argTypes := _ }, type := _, pos := _, after := _, guard := _ } :: _) _ _); refine wpL_appendNew rfl _ _ 44 rfl w.heap.size 9 i9 _ 1 16 rfl I9.out Z9.out S9.out B9.out rfl (by decide) _ rfl (blk_own (n := 0) HB11.out rfl hwz.out (by decide)) a8 T.length cap8 (strs T) rfl (by simp [strs]) (texts_src HTw.out) (strs_one T) (by unfold maxLen; omega) (by omega) (Nat.le_trans hwz.out HF11.out.size) ?_; intro a12 cap12 w12 HO12 HG12 HA12; obtain ⟨hf12, hb12⟩ := copy_fr HF11.out HG12.out HA12.out; have HTy := hid (HTx.out.fr hf12 (fun _ _ _ e => e))))
                    obtain ⟨hf14, hb14⟩ := copy_fr HF13.out HG14.out HA14.out
                    have hK := ((HKp8.out.no HF10.out).freshS (safe' := T) hf12 HO12.out hb12).freshA (all' := T) hf14 HO14.out hb14
                    have hL := ((H8.out.later HF10.out).more hf12.no).more hf14.no
                    exact ⟨⟨i + 1, u4, T, T, a12, cap12, a14, cap14, _, by go_num, rfl, rfl, by omega, by omega, hid (by rw [ho4.out, List.length_set]; exact HUL3.out), hid ⟨hK, by rw [ho6.out]; simp, by omega, by omega, .inl ⟨bg8, g', h', [], rfl, hL, HLv3.out, by simp, by omega⟩⟩⟩, by simp [intOf]; omega⟩
                  · rw [HTo.out] at o3
                    have hop : u3.opens 0 N 7 = (10, (u3.opens 0 N 7).2.1, none) := Prod.ext o1 (Prod.ext rfl o2)
                    have HLo3 := hid o3
                    have HOl := hid (opens_len u3 0 N 7)
                    clear o1 o2 o3
                    generalize (u3.opens 0 N 7).2.1 = u4 at hop HLo3 HOl
                    refine (lo_open_none (first := 0) (count := N) (ep := 7) hop H7.out HN.out (by rw [HUL3.out]; omega) (by decide) (by rw [HU3.out.1]; simp)).mono ?_
                    clear hop
                    rintro e w8 ⟨rfl, h1, h2⟩
                    have H8 := hid h1; have HKp8 := hid (HKp7.out.ap h2)
                    clear h1 h2
                    go_wp2_with fail
                    exact ⟨⟨i + 1, u4, safe, all, sa, sc, aa, ac, _, by go_num, rfl, rfl, by omega, by omega, hid (HOl.out.trans HUL3.out), hid ⟨HKp8.out, by rcases HLo3.out.pend with e | e <;> (rw [e]; simp; try omega), by omega, by omega, .inr ⟨h', T, rfl, H8.out, HLo3.out, HPr1.out, HPr2.out, by omega⟩⟩⟩, by simp [intOf]; omega⟩
                · have H7 := H6
                  have HKp7 := HKp6
                  obtain ⟨u3, hu3⟩ : ∃ u3, u3 = u2 := ⟨_, rfl⟩
                  subst hu3
                  have HU3 := HUP2
                  have HUL3 := HUL2
                  go_wp2_with fail
                  rcases Base.opens (u := u3) HBa.out HU3.out.1 HU3.out.2 (by omega) HN2.out (by decide) with ⟨o1, g', o2, o3, o4, o5, o6⟩ | ⟨o1, o2, o3⟩
                  · rw [HTo.out] at o2 o3
                    have hop : u3.opens 0 N 7 = (0, (u3.opens 0 N 7).2.1, some (g', T)) := Prod.ext o1 (Prod.ext rfl o2)
                    have ho4 := hid o4; have ho6 := hid o6; have HLv3 := hid o3
                    clear o1 o2 o3 o4 o5 o6
                    generalize (u3.opens 0 N 7).2.1 = u4 at hop HLv3 ho4 ho6
                    refine (lo_open_some (first := 0) (count := N) (ep := 7) hop H7.out HN.out (by rw [HUL3.out]; omega) (by decide) (by rw [HU3.out.1]; simp)).mono ?_
                    clear hop
                    rintro e w8 ⟨bg8, a8, cap8, Kp8, rfl, h1, h2, h3, h4⟩
                    have H8 := hid h1; have HTx := hid h2; have HKp8 := hid ((HKp7.out.ap h4).more h3)
                    clear h1 h2 h3 h4
                    go_wp2_with fail
                    have hb1 := begins_any (.slice sa safe.length sc) (.slice a8 T.length cap8) safe T _ _ w8 (own_texts HKp8.out.so) HTx.out (by omega)
                    rw [decide_eq_true HPr1.out] at hb1
                    refine hb1.mono ?_
                    clear hb1
                    rintro e w9 ⟨rfl, hf9⟩
                    have HF9 := hid hf9; clear hf9
                    go_wp2_with fail
                    have hb2 := begins_any (.slice a8 T.length cap8) (.slice aa all.length ac) T all _ _ w9 (HTx.out.fr HF9.out (fun _ _ _ e => e)) (own_texts (HKp8.out.no HF9.out).ao) (by have := HTl.out; omega)
                    rw [decide_eq_true HPr2.out] at hb2
                    refine hb2.mono ?_
                    clear hb2
                    rintro e w10 ⟨rfl, hf10⟩
                    have HF10 := hid (HF9.out.trans' hf10); clear hf10
                    have HTx := hid (HTx.out.fr HF10.out (fun _ _ _ e => e))
                    have hwz : Hid (w.heap.size ≤ w10.heap.size) := hid (H8.out.later HF10.out).fr.size
                    have HTl' := HTl.out
                    go_wp2_with (first
                      | ((with_reducible show wpList _ _ _ ({ dst := _, op := .buildSlice 44 _ _, type := _, pos := _, after := _, guard := _ } :: _) _ _); have := HO12; refine wpL_buildNone rfl _ 9 rfl noneS ?_; intro w13 HB13 HF13 HS13; have HTz := hid (HTy.out.fr HF13.out (fun _ _ _ e => e)); have hwz3 : Hid (w.heap.size ≤ w12.heap.size) := hid (Nat.le_trans hwz.out hf12.size))
                      | ((with_reducible show wpList _ _ _ ({ dst := _, op := .call { callee := .builtin .append, args := _, argTypes := _ }, type := _, pos := _, after := _, guard := _ } :: _) _ _); have := HO12; refine wpL_appendNew rfl _ _ 44 rfl w.heap.size 9 i9 _ 1 16 rfl I9.out Z9.out S9.out B9.out rfl (by decide) _ rfl (blk_own (n := 0) HB13.out rfl hwz3.out (by decide)) a8 T.length cap8 (strs T) rfl (by simp [strs]) (texts_src HTz.out) (strs_one T) (by unfold maxLen; omega) (by omega) (Nat.le_trans hwz3.out HF13.out.size) ?_; intro a14 cap14 w14 HO14 HG14 HA14)
                      | ((with_reducible show wpList _ _ _ ({ dst := _, op := .buildSlice 44 _ _, type := _, pos := _, after := _, guard := _ } :: _) _ _); refine wpL_buildNone rfl _ 9 rfl noneS ?_; intro w11 HB11 HF11 HS11; have HTw := hid (HTx.out.fr HF11.out (fun _ _ _ e => e)))
                      | ((with_reducible show wpList _ _ _ ({ dst := _, op := .call { callee := .builtin .append, args := _, argTypes := _ }, type := _, pos := _, after := _, guard := _ } :: _) _ _); refine wpL_appendNew rfl _ _ 44 rfl w.heap.size 9 i9 _ 1 16 rfl I9.out Z9.out S9.out B9.out rfl (by decide) _ rfl (blk_own (n := 0) HB11.out rfl hwz.out (by decide)) a8 T.length cap8 (strs T) rfl (by simp [strs]) (texts_src HTw.out) (strs_one T) (by unfold maxLen; omega) (by omega) (Nat.le_trans hwz.out HF11.out.size) ?_; intro a12 cap12 w12 HO12 HG12 HA12; obtain ⟨hf12, hb12⟩ := copy_fr HF11.out HG12.out HA12.out; have HTy := hid (HTx.out.fr hf12 (fun _ _ _ e => e))))
                    obtain ⟨hf14, hb14⟩ := copy_fr HF13.out HG14.out HA14.out
                    have hK := ((HKp8.out.no HF10.out).freshS (safe' := T) hf12 HO12.out hb12).freshA (all' := T) hf14 HO14.out hb14
                    have hL := ((H8.out.later HF10.out).more hf12.no).more hf14.no
                    exact ⟨⟨i + 1, u4, T, T, a12, cap12, a14, cap14, _, by go_num, rfl, rfl, by omega, by omega, hid (by rw [ho4.out, List.length_set]; exact HUL3.out), hid ⟨hK, by rw [ho6.out]; simp, by omega, by omega, .inl ⟨bg8, g', h', [], rfl, hL, HLv3.out, by simp, by omega⟩⟩⟩, by simp [intOf]; omega⟩
                  · rw [HTo.out] at o3
                    have hop : u3.opens 0 N 7 = (10, (u3.opens 0 N 7).2.1, none) := Prod.ext o1 (Prod.ext rfl o2)
                    have HLo3 := hid o3
                    have HOl := hid (opens_len u3 0 N 7)
                    clear o1 o2 o3
                    generalize (u3.opens 0 N 7).2.1 = u4 at hop HLo3 HOl
                    refine (lo_open_none (first := 0) (count := N) (ep := 7) hop H7.out HN.out (by rw [HUL3.out]; omega) (by decide) (by rw [HU3.out.1]; simp)).mono ?_
                    clear hop
                    rintro e w8 ⟨rfl, h1, h2⟩
                    have H8 := hid h1; have HKp8 := hid (HKp7.out.ap h2)
                    clear h1 h2
                    go_wp2_with fail
                    exact ⟨⟨i + 1, u4, safe, all, sa, sc, aa, ac, _, by go_num, rfl, rfl, by omega, by omega, hid (HOl.out.trans HUL3.out), hid ⟨HKp8.out, by rcases HLo3.out.pend with e | e <;> (rw [e]; simp; try omega), by omega, by omega, .inr ⟨h', T, rfl, H8.out, HLo3.out, HPr1.out, HPr2.out, by omega⟩⟩⟩, by simp [intOf]; omega⟩
              · by_cases hw5 : x.how = 5
                · have t1 : (x.how == 1) = false := by simp; omega
                  have t2 : (x.how == 2) = false := by simp; omega
                  have t3 : (x.how == 3) = false := by simp; omega
                  have t5 : (x.how == 5) = true := by simp; omega
                  clear hw1 hw2 hw3 hw5
                  obtain ⟨hkp, hp43, hall, hsafe, hst⟩ := HSt.out
                  have HKp := hid hkp; have HP := hid hp43; have HAl := hid hall; have HSa := hid hsafe
                  clear hkp hp43
                  rcases hst with ⟨bg', g, h, rest, rfl, hl, hlv, hae, hh⟩ | ⟨h, R, rfl, hl, hlo, hs1, hs2, hh⟩
                  · have HLl := hid hl; have HLv' := hid hlv; have HAe := hid hae; have HH := hid hh
                    clear hl hlv hae hh
                    go_wp2_with (first
                      | ((with_reducible show wpList _ _ _ ({ dst := _, op := .load 39 _, type := _, pos := _, after := _, guard := _ } :: _) _ _); refine wpL_load rfl _ _ rfl b (o + i * 7) rfl (La.cells kv x) _ HR.out rfl rfl (by rw [infoAct]; rfl) ?_)
                      | ((with_reducible show wpList _ _ _ ({ dst := _, op := .alloc 39, type := _, pos := _, after := _, guard := _ } :: _) _ _); refine wpL_alloc rfl _ rfl _ zeroAct [.int .i64 0, .int .i64 0, .int .i64 0, .string ⟨#[]⟩, .int .u32 0, .int .u32 0, .slice none 0 0] rfl ?_; intro w4 HB4 HF4 HS4)
                      | ((with_reducible show wpList _ _ _ ({ dst := _, op := .store 39 _ _, type := _, pos := _, after := _, guard := _ } :: _) _ _); refine wpL_store rfl _ _ _ rfl wr.heap.size 0 (La.cells kv x) rfl rfl _ _ HB4.out (by simp [La.cells]) (by rw [infoAct]; rfl) HOne.out ?_; intro w5 HB5 HF5 HS5;
                          have HBx : Hid (Blk w5 wr.heap.size 39 (La.cells kv x)) := hid (by have := HB5.out; rwa [spl_all (by simp [La.cells])] at this);
                          have HN5 : Hid (Fr No wr w5) := hid (HF4.out.trans HF5.out (fun k hk => .inr (Nat.le_of_eq hk.symm)));
                          have d0 : w5.cell? ⟨wr.heap.size, 0, none⟩ = some (.int .i64 x.how) := HBx.out.cell 0;
                          have d2 : w5.cell? ⟨wr.heap.size, 2, none⟩ = some (.int .i64 x.n) := HBx.out.cell 2;
                          have d3 : w5.cell? ⟨wr.heap.size, 3, none⟩ = some (.string x.txt) := HBx.out.cell 3;
                          have d6 : w5.cell? ⟨wr.heap.size, 6, none⟩ = some kv := HBx.out.cell 6))
                    have HK5 : Hid (Mo Kq wr w5 wr.heap.size) := hid (.inr ⟨Nat.le_refl _, HBx.out.lt⟩)
                    have HKp5 := hid ((HKp.out.no HN5.out).more (Kq := Mo Kq wr w5) (fun k hk => .inl hk))
                    have HL5 := hid (HLl.out.more HN5.out.no)
                    refine (ll_arm x.n (by have := HI.out.n1; omega) HL5.out).mono ?_
                    rintro e w6 ⟨rfl, h1, h2⟩
                    have HKp6 := hid (HKp5.out.ap h2)
                    have H6 := hid h1
                    have Has := hid (arm_same u x.n)
                    clear h1 h2 d0 d2 d3 d6
                    generalize u.arm x.n = am at H6 Has ⊢
                    obtain ⟨a1, a2⟩ := am
                    simp only at H6 Has ⊢
                    go_wp2_with fail
                    have hlv5 : Live a2 g 0 N 7 h safe rest := by
                      obtain ⟨q, c, l, hraw⟩ := HLv'.out
                      exact ⟨q, c, l, hraw.same Has.out.1 Has.out.2.1 Has.out.2.2⟩
                    exact ⟨⟨i + 1, a2, safe, all, sa, sc, aa, ac, _, by go_num, rfl, rfl, by omega, by omega, hid (by rw [Has.out.1]; exact HUL.out), hid ⟨HKp6.out, by rw [Has.out.2.1]; have := HP.out; omega, by omega, by omega, .inl ⟨bg', g, h, rest, rfl, H6.out, hlv5, HAe.out, by have := HH.out; omega⟩⟩⟩, by simp [intOf]; omega⟩
                  · have HL := hid hl; have HLo := hid hlo; have HS1 := hid hs1; have HS2 := hid hs2; have HH := hid hh
                    clear hl hlo hs1 hs2 hh
                    go_wp2_with (first
                      | ((with_reducible show wpList _ _ _ ({ dst := _, op := .load 39 _, type := _, pos := _, after := _, guard := _ } :: _) _ _); refine wpL_load rfl _ _ rfl b (o + i * 7) rfl (La.cells kv x) _ HR.out rfl rfl (by rw [infoAct]; rfl) ?_)
                      | ((with_reducible show wpList _ _ _ ({ dst := _, op := .alloc 39, type := _, pos := _, after := _, guard := _ } :: _) _ _); refine wpL_alloc rfl _ rfl _ zeroAct [.int .i64 0, .int .i64 0, .int .i64 0, .string ⟨#[]⟩, .int .u32 0, .int .u32 0, .slice none 0 0] rfl ?_; intro w4 HB4 HF4 HS4)
                      | ((with_reducible show wpList _ _ _ ({ dst := _, op := .store 39 _ _, type := _, pos := _, after := _, guard := _ } :: _) _ _); refine wpL_store rfl _ _ _ rfl wr.heap.size 0 (La.cells kv x) rfl rfl _ _ HB4.out (by simp [La.cells]) (by rw [infoAct]; rfl) HOne.out ?_; intro w5 HB5 HF5 HS5;
                          have HBx : Hid (Blk w5 wr.heap.size 39 (La.cells kv x)) := hid (by have := HB5.out; rwa [spl_all (by simp [La.cells])] at this);
                          have HN5 : Hid (Fr No wr w5) := hid (HF4.out.trans HF5.out (fun k hk => .inr (Nat.le_of_eq hk.symm)));
                          have d0 : w5.cell? ⟨wr.heap.size, 0, none⟩ = some (.int .i64 x.how) := HBx.out.cell 0;
                          have d2 : w5.cell? ⟨wr.heap.size, 2, none⟩ = some (.int .i64 x.n) := HBx.out.cell 2;
                          have d3 : w5.cell? ⟨wr.heap.size, 3, none⟩ = some (.string x.txt) := HBx.out.cell 3;
                          have d6 : w5.cell? ⟨wr.heap.size, 6, none⟩ = some kv := HBx.out.cell 6))
                    have HK5 : Hid (Mo Kq wr w5 wr.heap.size) := hid (.inr ⟨Nat.le_refl _, HBx.out.lt⟩)
                    have HKp5 := hid ((HKp.out.no HN5.out).more (Kq := Mo Kq wr w5) (fun k hk => .inl hk))
                    have HL5 := hid (HL.out.more HN5.out.no)
                    refine (lo_arm x.n (by have := HI.out.n1; omega) HL5.out).mono ?_
                    rintro e w6 ⟨rfl, h1, h2⟩
                    have HKp6 := hid (HKp5.out.ap h2)
                    have H6 := hid h1
                    have Has := hid (arm_same u x.n)
                    clear h1 h2 d0 d2 d3 d6
                    generalize u.arm x.n = am at H6 Has ⊢
                    obtain ⟨a1, a2⟩ := am
                    simp only at H6 Has ⊢
                    go_wp2_with fail
                    have hlo5 : Lost a2 0 N 7 h R := ⟨by rw [Has.out.1]; exact HLo.out.base, by rw [Has.out.1]; exact HLo.out.tld, by rw [Has.out.2.1]; exact HLo.out.pend⟩
                    exact ⟨⟨i + 1, a2, safe, all, sa, sc, aa, ac, _, by go_num, rfl, rfl, by omega, by omega, hid (by rw [Has.out.1]; exact HUL.out), hid ⟨HKp6.out, by rw [Has.out.2.1]; have := HP.out; omega, by omega, by omega, .inr ⟨h, R, rfl, H6.out, hlo5, HS1.out, HS2.out, by have := HH.out; omega⟩⟩⟩, by simp [intOf]; omega⟩
                · have t1 : (x.how == 1) = false := by simp; omega
                  have t2 : (x.how == 2) = false := by simp; omega
                  have t3 : (x.how == 3) = false := by simp; omega
                  have t5 : (x.how == 5) = false := by simp; omega
                  clear hw1 hw2 hw3 hw5
                  go_wp2_with (first
                    | ((with_reducible show wpList _ _ _ ({ dst := _, op := .load 39 _, type := _, pos := _, after := _, guard := _ } :: _) _ _); refine wpL_load rfl _ _ rfl b (o + i * 7) rfl (La.cells kv x) _ HR.out rfl rfl (by rw [infoAct]; rfl) ?_)
                    | ((with_reducible show wpList _ _ _ ({ dst := _, op := .alloc 39, type := _, pos := _, after := _, guard := _ } :: _) _ _); refine wpL_alloc rfl _ rfl _ zeroAct [.int .i64 0, .int .i64 0, .int .i64 0, .string ⟨#[]⟩, .int .u32 0, .int .u32 0, .slice none 0 0] rfl ?_; intro w4 HB4 HF4 HS4)
                    | ((with_reducible show wpList _ _ _ ({ dst := _, op := .store 39 _ _, type := _, pos := _, after := _, guard := _ } :: _) _ _); refine wpL_store rfl _ _ _ rfl wr.heap.size 0 (La.cells kv x) rfl rfl _ _ HB4.out (by simp [La.cells]) (by rw [infoAct]; rfl) HOne.out ?_; intro w5 HB5 HF5 HS5;
                        have HBx : Hid (Blk w5 wr.heap.size 39 (La.cells kv x)) := hid (by have := HB5.out; rwa [spl_all (by simp [La.cells])] at this);
                        have HN5 : Hid (Fr No wr w5) := hid (HF4.out.trans HF5.out (fun k hk => .inr (Nat.le_of_eq hk.symm)));
                        have d0 : w5.cell? ⟨wr.heap.size, 0, none⟩ = some (.int .i64 x.how) := HBx.out.cell 0;
                        have d2 : w5.cell? ⟨wr.heap.size, 2, none⟩ = some (.int .i64 x.n) := HBx.out.cell 2;
                        have d3 : w5.cell? ⟨wr.heap.size, 3, none⟩ = some (.string x.txt) := HBx.out.cell 3;
                        have d6 : w5.cell? ⟨wr.heap.size, 6, none⟩ = some kv := HBx.out.cell 6))
                  exact ⟨⟨i + 1, u, safe, all, sa, sc, aa, ac, Kq, by go_num, rfl, rfl, by omega, by omega, HUL, hid (HSt.out.next HN5.out)⟩, by simp [intOf]; omega⟩
        · have HFr := hid HSt.out.lo.fr
          by_cases hA : i < len
          · have h1i : (i : Int) < len := by omega
            have h2d : decide ((i : Int) < 120) = false := decide_eq_false (by omega)
            go_wp2_with fail
            go_ret
            exact ⟨rfl, HFr.out⟩
          · have h1d : decide ((i : Int) < len) = false := decide_eq_false (by omega)
            have h1e : decide (i < len) = false := decide_eq_false hA
            go_wp2_with fail
            go_ret
            exact ⟨rfl, HFr.out⟩
end Go.Proofs.Ytfaogebnpbcnhaa.L
