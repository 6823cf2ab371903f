/-
  LogElder's walk.
-/
import Derived.Test.YtfaogebnpbcnhaaLogQ
import Derived.Test.YtfaogebnpbcnhaaLogT
import Derived.Test.YtfaogebnpbcnhaaLogE
namespace Go.Proofs.Ytfaogebnpbcnhaa.L
set_option maxRecDepth 100000
open Go.RowKit K

theorem info4z : (Try.prog.info? 4).map (fun i => (i.zero, i.size, i.bytes)) = some (some (.bool false), 1, 1) := by kernel_rfl
theorem blk_own {w : World} {b base n : Nat} {e : TypeId} {size : Nat} {cs : List Value} (h : Blk w b e cs) (hl : cs.length = n * size) (hb : base ≤ b) (hn : n ≤ maxLen) : w.ownsRow base e size (.slice (some ⟨b, 0, none⟩) n n) n cs :=
  ⟨hl, .inr ⟨b, n, cs.toArray, rfl, hb, h, Nat.le_refl _, hn, by simpa using hl, by simp [← hl]⟩⟩
theorem own_bools {w : World} {base n : Nat} {v : Value} {e : TypeId} {bs : List Bool} (h : w.ownsRow base e 1 v n (bs.map Value.bool)) : D.BoolsIn w (fun k => v.ownBlock = some k) v bs := by
  have hn : bs.length = n := by have := h.1; simpa using this
  rcases h.2 with ⟨rfl, h0⟩ | ⟨g, cap, cur, rfl, hb, hg, h1, h2, h3, h4⟩
  · exact ⟨none, 0, 0, rfl, by omega, .inl rfl⟩
  · refine ⟨_, _, _, rfl, hn, .inr ⟨g, 0, rfl, rfl, (Array.getElem?_eq_some_iff.1 hg).1, ?_⟩⟩
    exact Blk.range (t := e) (cs := cur.toList) (by simpa [Blk] using hg) 0 _ (by rw [List.drop_zero, List.length_map, hn]; rw [Nat.mul_one] at h4; exact h4)
/-- What the first life leaves: the first record is lost, the others last. -/
def Elder (u : U) : Prop := u.L = (opened1 300 0).L ∧ ∃ p r, u.P = p :: r ∧ ∀ x ∈ r, 2 ≤ x.1
theorem elder_append {u : U} {g : Lg} (h : Elder u) (hf : g.first = 0) (hn : 2 ≤ g.next) (x : List UInt8) : Elder (u.append g x).2.1 := by
  obtain ⟨h1, p, r, h2, h3⟩ := h
  obtain ⟨⟨M, h4, h5⟩, _⟩ := append_more u g x
  refine ⟨by rw [append_L, h1], p, r ++ M, by rw [h4, h2]; rfl, fun y hy => ?_⟩
  rcases List.mem_append.1 hy with hy | hy
  · exact h3 y hy
  · have := h5 y hy; omega
theorem elder_crash {u : U} (h : Elder u) (k : List Bool) : viewL (applied u.L (picked u.P (false :: k))) 0 300 1 1 = none := by
  obtain ⟨h1, p, r, h2, h3⟩ := h
  rw [viewL_in (by decide) (by decide), h2, h1]
  have hp : picked (p :: r) (false :: k) = picked r k := by simp [picked]
  rw [hp, applied_out _ _ _ (fun y hy => by have := h3 y (picked_mem _ _ _ hy); omega)]
  show piece 1 1 (look (((List.replicate 300 zeros64).set 0 (headSec 1)).getD 1 [])) = none
  rw [getD_set_ne' (by decide), zero_get (by decide), piece_zeros]

set_option maxHeartbeats 8000000 in
theorem logElder_walk (w : World) (t0 : ByteArray) (v : Value) (L : List (List UInt8)) (t2 : ByteArray) (ht0 : t0.size ≤ 140737488351232) (hL : TextsIn w (fun k => k < w.heap.size) v L) (hS : Short L) (ht2 : t2.size ≤ 140737488351232) :
    Calls Try.prog 7 #[.string t0, v, .string t2] w fun e w' => e = .returned (.bool true) ∧ Fr No w w' := by
  obtain ⟨a, len, cap, rfl, hlen, hcap, hmem⟩ := id hL
  have HSh := hid hS; have HLen := hid hlen; have HMem := hid hmem
  obtain ⟨i4, hi4, hz4, hs4, hb4⟩ := info_parts info4z
  have I4 := hid hi4; have Z4 := hid hz4; have S4 := hid hs4; have B4 := hid hb4
  clear hL hS hlen hmem hi4 hz4 hs4 hb4
  go_enter Try.func7, Try.ntmps7
  go_wp2_with fail
  refine (awake_any w).mono ?_
  rintro e w1 ⟨rfl, hf⟩
  have HF1 := hid hf; clear hf
  go_wp2_with fail
  refine (lo_new (w0 := w) 300 (by decide) (by decide) HF1.out).mono ?_
  rintro e w2 ⟨bd, rfl, h1, _⟩
  have H2 := hid h1; clear h1
  go_wp2_with fail
  refine (lo_open_some (first := 0) (count := 300) (ep := 1) (new_opens (by decide) (by decide)) H2.out (by decide) (by simp [U.new]) (by decide) (by simp [U.new])).mono ?_
  rintro e w3 ⟨bg, a3, cap3, Kp, rfl, h1, -, -, -⟩
  have H3 := hid h1; clear h1
  by_cases hb0 : 48 < t0.size
  · have hb0i : (48 : Int) < t0.size := by omega
    go_wp2_with fail
    go_ret
    exact ⟨rfl, H3.out.fr⟩
  · have hb0i : ¬ (48 : Int) < t0.size := by omega
    have hb0d : decide ((48 : Int) < t0.size) = false := decide_eq_false hb0i
    have hb0e : decide (48 < t0.size) = false := decide_eq_false hb0
    by_cases hb2 : 48 < t2.size
    · have hb2i : (48 : Int) < t2.size := by omega
      go_wp2_with fail
      go_ret
      exact ⟨rfl, H3.out.fr⟩
    · have hb2i : ¬ (48 : Int) < t2.size := by omega
      have hb2d : decide ((48 : Int) < t2.size) = false := decide_eq_false hb2i
      have hb2e : decide (48 < t2.size) = false := decide_eq_false hb2
      have hx0 : t0.data.toList.length ≤ 48 := by simp; omega
      have hx2 : t2.data.toList.length ≤ 48 := by simp; omega
      have hs0 : secsN t0.data.toList = 1 := if_pos hx0
      have hs2 : secsN t2.data.toList = 1 := if_pos hx2
      have HLive1 := hid (live_new (N := 300) (first := 0) (count := 300) (e := 1) (by decide) (by decide) (by decide) (by decide))
      have HX0 := hid hx0; have HX2 := hid hx2; have HS0 := hid hs0; have HS2 := hid hs2
      clear hb0 hb2 hx0 hx2 hs0 hs2
      go_wp2_with fail
      refine (ll_append t0 H3.out (by omega) (by simp [opened1])).mono ?_
      rintro e w4 ⟨rfl, h1, h2⟩
      have ha := (append_idle (g := ⟨0, 300, 1, 1, 1⟩) (x := t0.data.toList) (opened1_idle 300 0) (by simp [opened1])).2.1 (by have := HX0.out; omega) (by rw [HS0.out]; decide)
      have hok := append_ok ha
      have HEl : Hid (Elder ((opened1 300 0).append ⟨0, 300, 1, 1, 1⟩ t0.data.toList).2.1) := hid (by
        rw [hok.2.2.2]
        simp only
        rw [HS0.out]
        refine ⟨puts_L _ _ _ _ _ _, ?_⟩
        have hw := write_idle (opened1_idle 300 0).up (opened1_idle 300 0).left (n := 1) (by rw [opened1_L]; decide) (b := recSec ⟨0, 300, 1, 1, 1⟩ t0.data.toList 1 0) (by rw [recSec_len]; decide)
        refine ⟨(1, pad8 (recSec ⟨0, 300, 1, 1, 1⟩ t0.data.toList 1 0)), [], ?_, by simp⟩
        rw [puts_step]
        simp only
        have hw' : (opened1 300 0).write ((0 + (1 + 0) : Nat) : Int) (recSec ⟨0, 300, 1, 1, 1⟩ t0.data.toList 1 0) = (0, { opened1 300 0 with P := (opened1 300 0).P ++ [(1, pad8 (recSec ⟨0, 300, 1, 1, 1⟩ t0.data.toList 1 0))] }) := hw
        rw [hw']
        rfl)
      obtain ⟨q, c, l, hraw⟩ := HLive1.out
      have HLv := hid ((hraw.append t0.data.toList).1 ha)
      rw [ha]
      have hg : ((opened1 300 0).append ⟨0, 300, 1, 1, 1⟩ t0.data.toList).2.2 = ⟨0, 300, 1, 1, 2⟩ := by rw [hok.2.2.2]; simp only; rw [HS0.out]
      rw [hg] at h1 HLv
      have H4 := hid h1
      have HPl : Hid (((opened1 300 0).append ⟨0, 300, 1, 1, 1⟩ t0.data.toList).2.1.P.length ≤ 42) := hid (by have := append_P (opened1 300 0) ⟨0, 300, 1, 1, 1⟩ t0.data.toList; simpa [opened1] using this)
      generalize ((opened1 300 0).append ⟨0, 300, 1, 1, 1⟩ t0.data.toList).2.1 = u4 at H4 HEl HLv HPl
      clear h1 h2 ha hok hg hraw HLive1
      go_wp2_with ((with_reducible show wpList _ _ _ ({ dst := _, op := .buildSlice 37 _ _, type := _, pos := _, after := _, guard := _ } :: _) _ _); refine wpL_buildOne rfl _ 4 _ rfl i4 _ rfl I4.out Z4.out (by rw [S4.out]; decide) (by rw [S4.out]; decide) _ [.bool false] rfl rfl (by rw [S4.out]; rfl) ?_; intro w5 HB5 HF5 HS5)
      have H5 : Hid (Ll w (Mo Kp w4 w5) w5 bg bd ⟨0, 300, 1, 1, 2⟩ u4) := hid (H4.out.more HF5.out.no)
      have HB5' := HB5
      have HK5 : Hid (Mo Kp w4 w5 w4.heap.size) := hid (.inr ⟨Nat.le_refl _, HB5.out.lt⟩)
      have HW5 : Hid (w.heap.size ≤ w4.heap.size) := hid H4.out.fr.size
      clear HB5
      go_loopw [15] (fun iv wr => ∃ (i : Nat) (g : Lg) (u : U) (rs : List (List UInt8)), iv = .int .i64 (i : Int) ∧ i ≤ 40 ∧ i ≤ len ∧ Hid (g.first = 0 ∧ 2 ≤ g.next) ∧ Hid (u.P.length ≤ 42 * (i + 1)) ∧ Hid (Elder u) ∧ Hid (Live u g 0 300 1 0 [] rs) ∧
        Hid (Ll w (Mo Kp w4 w5) wr bg bd g u) ∧ Hid (Blk wr w4.heap.size 4 [.bool false])) (fun iv _ => 40 - (intOf iv).toNat)
      case atStart => exact ⟨0, _, u4, _, rfl, by omega, Nat.zero_le _, hid ⟨rfl, Nat.le_refl _⟩, HPl, HEl, HLv, H5, HB5'⟩
      case round =>
        obtain ⟨i, g, u, rs, rfl, hi, hil, HG, HP, HE, HLi, HLl, HBk⟩ := hrel
        by_cases hlt : i < len ∧ i < 40
        · obtain ⟨hlt1, hlt2⟩ := hlt
          obtain ⟨b, o, rfl, _, _, hr⟩ := HMem.out.resolve_left (by omega)
          obtain ⟨l, hl⟩ : ∃ l, L[i]? = some l := ⟨L[i]'(by rw [HLen.out]; exact hlt1), List.getElem?_eq_getElem _⟩
          have cl : wr.cell? ⟨b, o + i, none⟩ = some (.string ⟨l.toArray⟩) := HLl.out.fr.cell (hr i _ (by simp [strs, hl, str])) id
          have hls := HSh.out l (List.mem_of_getElem? hl)
          have hxs : (⟨l.toArray⟩ : ByteArray).size = l.length := rfl
          generalize (⟨l.toArray⟩ : ByteArray) = x at cl hxs
          have hx63 : x.size ≤ 140737488351232 := by omega
          have h1i : (i : Int) < len := by omega
          have h2i : (i : Int) < 40 := by omega
          clear hr hl hls hxs
          go_wp2_with fail
          refine (ll_append x HLl.out (by omega) (by have := HP.out; omega)).mono ?_
          rintro e w6 ⟨rfl, h1, h2⟩
          have hE := elder_append HE.out HG.out.1 HG.out.2 x.data.toList
          have hF := (append_first u g x.data.toList).1
          have hN := (append_more u g x.data.toList).2
          have hPl := append_P u g x.data.toList
          have hLive : ∃ rs', Live (u.append g x.data.toList).2.1 (u.append g x.data.toList).2.2 0 300 1 0 [] rs' := by
            obtain ⟨q, c, l, hraw⟩ := HLi.out
            by_cases h0 : (u.append g x.data.toList).1 = 0
            · exact ⟨_, (hraw.append x.data.toList).1 h0⟩
            · exact ⟨_, (hraw.append x.data.toList).2 h0⟩
          have HB6 : Hid (Blk w6 w4.heap.size 4 [.bool false]) := hid (HBk.out.fr h2 (fun hd => hd.2 HK5.out))
          obtain ⟨rs', hLive⟩ := hLive
          have R1 := hid h1; have R2 := hid hE; have R3 := hid hF; have R4 := hid hN; have R5 := hid hPl; have R6 := hid hLive
          generalize u.append g x.data.toList = a at R1 R2 R3 R4 R5 R6 ⊢
          obtain ⟨a1, a2, a3⟩ := a
          clear h1 h2 hE hF hN hPl hLive
          go_wp2_with fail
          exact ⟨⟨i + 1, a3, a2, rs', by go_num, by omega, by omega, hid ⟨R3.out.trans HG.out.1, Nat.le_trans HG.out.2 R4.out⟩, hid (by have h1 : a2.P.length ≤ u.P.length + 42 := R5.out; have := HP.out; omega), R2, R6, R1, HB6⟩, by simp [intOf]; omega⟩
        · by_cases hA : i < len
          · have h1i : (i : Int) < len := by omega
            have h2d : decide ((i : Int) < 40) = false := decide_eq_false (by omega)
            go_wp2_with fail
            have HE' := HE
            clear HG HP HE hA
            have HOw := hid (blk_own (size := 1) (n := 1) HBk.out rfl HW5.out (by decide))
            go_loopw [14, 16] (fun kv jv wk => ∃ (k : Nat) (ka : Option Addr) (kc : Nat) (Kq : Nat → Prop), jv = .int .i64 (k : Int) ∧ k ≤ 300 ∧ kv = .slice ka (k + 1) kc ∧ Hid (wk.ownsRow w.heap.size 4 1 kv (k + 1) ((false :: List.replicate k true).map Value.bool)) ∧
              Hid (Ll w Kq wk bg bd g u) ∧ Hid (∀ j, kv.ownBlock = some j → Kq j)) (fun _ jv _ => 300 - (intOf jv).toNat)
            case atStart => exact ⟨0, _, _, Mo Kp w4 w5, rfl, by omega, rfl, HOw, HLl, hid (fun j hj => by cases hj; exact HK5.out)⟩
            case round =>
              obtain ⟨k, ka, kc, Kq, rfl, hk, rfl, HO, HLk, HKq⟩ := hrel
              by_cases hk3 : k < 300
              · have hk3i : (k : Int) < 300 := by omega
                have hwz : Hid (w.heap.size ≤ wr.heap.size) := hid HLk.out.fr.size
                go_wp2_with (first
                  | ((with_reducible show wpList _ _ _ ({ dst := _, op := .buildSlice 37 _ _, type := _, pos := _, after := _, guard := _ } :: _) _ _); refine wpL_buildOne rfl _ 4 _ rfl i4 _ rfl I4.out Z4.out (by rw [S4.out]; decide) (by rw [S4.out]; decide) _ [.bool true] rfl rfl (by rw [S4.out]; rfl) ?_; intro w7 HB7 HF7 HS7;
                      have HO7 := hid (own_fr HO.out HF7.out (fun _ _ e => e)))
                  | ((with_reducible show wpList _ _ _ ({ dst := _, op := .call { callee := .builtin .append, args := _, argTypes := _ }, type := _, pos := _, after := _, guard := _ } :: _) _ _); refine wpL_append rfl _ _ 37 rfl w.heap.size 4 i4 _ 1 1 rfl I4.out Z4.out S4.out B4.out rfl (by decide) _ (k + 1) _ rfl HO7.out (some ⟨wr.heap.size, 0, none⟩) 1 1 [.bool true] rfl rfl (.inr ⟨_, rfl, range_loads (HB7.out.range 0 _ rfl)⟩) (by intro v hv; simp at hv; subst hv; rfl) (by unfold maxLen; omega) (by omega) (Nat.le_trans hwz.out HF7.out.size) ?_; intro a8 cap8 w8 HO8 HG8 HA8))
                have hL7 := HLk.out.later HF7.out
                have hL8 := hL7.more ((frown HG8.out).mono (fun j hj => HKq.out j hj))
                refine ⟨⟨k + 1, a8, cap8, _, by go_num, by omega, rfl, hid ?_, hid hL8, hid (fun j hj => ?_)⟩, by simp [intOf]; omega⟩
                · have := HO8.out
                  have e : (false :: List.replicate (k + 1) true).map Value.bool = (false :: List.replicate k true).map Value.bool ++ [.bool true] := by
                    rw [List.replicate_succ', ← List.cons_append, List.map_append]
                    rfl
                  rw [e]
                  exact this
                · rcases HA8.out with e | e
                  · rw [e] at hj
                    exact .inl (HKq.out j hj)
                  · rw [e] at hj
                    cases hj
                    exact .inr ⟨Nat.le_refl _, own_lt HO8.out _ e⟩
              · have hk3i : k = 300 := by omega
                subst hk3i
                go_wp2_with fail
                refine (lo_crash _ (false :: List.replicate 300 true) _ HLk.out.lo (own_bools HO.out) (fun j hj => .inr (HKq.out j hj)) (by decide)).mono ?_
                rintro e w9 ⟨rfl, h1, -⟩
                obtain ⟨q, c, l, hraw⟩ := HLi.out
                obtain ⟨hbase, -⟩ := hraw.crash (false :: List.replicate 300 true)
                have hview := elder_crash HE'.out (List.replicate 300 true)
                have hLl : u.L.length = 300 := by have := HE'.out.1; rw [this, opened1_L]
                have hcr := crash_idle u (false :: List.replicate 300 true)
                have H9 := hid h1
                have HBs := hid hbase; have HVw := hid hview; have HCr := hid hcr; have HLn := hid hLl
                clear h1 hraw hbase hview hcr hLl
                generalize hu9 : (u.crash (false :: List.replicate 300 true)).2 = u9 at H9 HCr
                generalize applied u.L (picked u.P (false :: List.replicate 300 true)) = L9 at HBs HVw HCr
                have hop : u9.opens 0 300 1 = (0, ⟨L9.set 0 (headSec 2), [], true, -1⟩, some (⟨0, 300, 1, 2, 1⟩, [])) := by
                  have hop := opens_idle (e := 1) (h := 1) (first := 0) (count := 300) HCr.out.1 HCr.out.2.1 (by rw [HCr.out.2.2]; exact HBs.out.len) (by decide) (by rw [HCr.out.2.2]; exact HBs.out.head) (by decide)
                  rw [HCr.out.2.2, scan_no HVw.out] at hop
                  exact hop
                have hlive : Live ⟨L9.set 0 (headSec 2), [], true, -1⟩ ⟨0, 300, 1, 2, 1⟩ 0 300 1 1 [] [] := by
                  rcases Base.opens (u := u9) (first := 0) (count := 300) (e := 1) (h := 1) (by rw [HCr.out.2.2]; exact HBs.out) HCr.out.2.1 HCr.out.1.up (by decide) (by decide) (by decide) with ⟨_, g', h2, h3, _⟩ | ⟨h1, _⟩
                  · rw [hop] at h2 h3
                    simp only [Option.some.injEq, Prod.mk.injEq] at h2
                    rw [← h2.2, ← h2.1] at h3
                    exact h3
                  · rw [hop] at h1
                    simp at h1
                have HOp := hid hop; have HLv9 := hid hlive
                clear hop hlive
                have H9L : Hid (u9.L.length = 300) := hid (by have h1 := HBs.out.len; have h2 := HLn.out; rw [HCr.out.2.2]; have h3 : L9.length = 300 := by rw [← HCr.out.2.2, ← hu9]; simp [U.crash, HLn.out]
                                                              exact h3)
                clear hu9
                go_wp2_with fail
                refine (lo_open_some HOp.out H9.out (by decide) (by rw [H9L.out]; decide) (by decide) (by rw [HCr.out.2.1]; decide)).mono ?_
                rintro e w10 ⟨bg10, a10, cap10, Kp10, rfl, h1, -, -, -⟩
                have H10 := hid h1; clear h1
                have HId10 : Hid (U.Idle ⟨L9.set 0 (headSec 2), [], true, -1⟩) := hid ⟨rfl, rfl⟩
                have H10L : Hid (L9.length = 300) := hid (by rw [← HCr.out.2.2]; exact H9L.out)
                go_wp2_with fail
                refine (ll_append t2 H10.out (by omega) (by simp)).mono ?_
                rintro e w11 ⟨rfl, h1, -⟩
                have hai := append_idle (g := ⟨0, 300, 1, 2, 1⟩) (x := t2.data.toList) HId10.out (by simp [H10L.out])
                have ha := hai.2.1 (by have := HX2.out; omega) (by simp only; rw [HS2.out]; decide)
                obtain ⟨q', c', l', hraw'⟩ := HLv9.out
                have hlv := (hraw'.append t2.data.toList).1 ha
                rw [ha]
                have H11 := hid h1; have HId11 := hid hai.1; have HLv11 := hid hlv
                have HL11 : Hid ((U.append ⟨L9.set 0 (headSec 2), [], true, -1⟩ ⟨0, 300, 1, 2, 1⟩ t2.data.toList).2.1.L.length = 300) := hid (by rw [append_L]; simp [H10L.out])
                generalize (U.append ⟨L9.set 0 (headSec 2), [], true, -1⟩ ⟨0, 300, 1, 2, 1⟩ t2.data.toList).2.1 = u11 at H11 HId11 HLv11 HL11
                generalize (U.append ⟨L9.set 0 (headSec 2), [], true, -1⟩ ⟨0, 300, 1, 2, 1⟩ t2.data.toList).2.2 = g11 at H11 HLv11
                clear h1 hai ha hraw' hlv
                go_wp2_with fail
                refine (ll_sync H11.out).mono ?_
                rintro e w12 ⟨rfl, h1, -⟩
                have hfl := flush_is HId11.out
                have hf0 : u11.flush.1 = 0 := by rw [hfl]
                obtain ⟨q2, c2, l2, hraw2⟩ := HLv11.out
                have hlv2 := hraw2.flush hf0
                rw [hf0]
                have hP2 : u11.flush.2.P = [] := by rw [hfl]
                have hL2 : u11.flush.2.L.length = 300 := by rw [flush_L]; exact HL11.out
                have H12 := hid h1; have HLv12 := hid hlv2; have HP12 := hid hP2; have HL12 := hid hL2
                generalize u11.flush.2 = u12 at H12 HLv12 HP12 HL12
                clear h1 hfl hf0 hraw2 hlv2 hP2 hL2
                go_wp2_with fail
                refine (lo_crash _ [] No H12.out.lo ⟨none, 0, 0, rfl, rfl, .inl rfl⟩ (fun k hk => hk.elim) (by decide)).mono ?_
                rintro e w13 ⟨rfl, h1, -⟩
                obtain ⟨q3, c3, l3, hraw3⟩ := HLv12.out
                obtain ⟨hb3, j3, hj3, ht3⟩ := hraw3.crash []
                have hj0 : j3 = 0 := by simpa using hj3
                subst hj0
                have hc3 := crash_idle u12 []
                have hop3 := opens_idle (e := 1) (h := 2) (first := 0) (count := 300) hc3.1 hc3.2.1 (by rw [hc3.2.2]; exact hb3.len) (by decide) (by rw [hc3.2.2]; exact hb3.head) (by decide)
                rw [hc3.2.2] at hop3
                have ht4 : (scan 2 (viewL (applied u12.L (picked u12.P [])) 0 300 1) (300 - 1) 1 sc0).1 = [t2.data.toList] := ht3
                rw [ht4] at hop3
                have H13 := hid h1; have HOp3 := hid hop3
                have HP13 : Hid ((u12.crash []).2.P = []) := hid hc3.2.1
                have HL13 : Hid ((u12.crash []).2.L.length = 300) := hid (by rw [hc3.2.2]; simp [HL12.out])
                generalize (u12.crash []).2 = u13 at H13 HOp3 HP13 HL13
                clear h1 hraw3 hb3 hj3 ht3 hc3 hop3 ht4
                go_wp2_with fail
                refine (lo_open_some HOp3.out H13.out (by decide) (by rw [HL13.out]; decide) (by decide) (by rw [HP13.out]; decide)).mono ?_
                rintro e w14 ⟨bg14, a14, cap14, Kp14, rfl, h1, h2, -, -⟩
                have HF14 := hid h1.fr
                obtain ⟨b14, o14, rfl, hget⟩ := texts_get h2 (by simp)
                have tt : w14.cell? ⟨b14, o14, none⟩ = some (.string t2) := hget 0 t2.data.toList rfl
                clear h1 h2 hget
                go_wp2_with fail
                go_ret
                exact ⟨rfl, HF14.out⟩
          · have h1d : decide ((i : Int) < len) = false := decide_eq_false (by omega)
            have h1e : decide (i < len) = false := decide_eq_false hA
            go_wp2_with fail
            have HE' := HE
            clear HG HP HE hA
            have HOw := hid (blk_own (size := 1) (n := 1) HBk.out rfl HW5.out (by decide))
            go_loopw [14, 16] (fun kv jv wk => ∃ (k : Nat) (ka : Option Addr) (kc : Nat) (Kq : Nat → Prop), jv = .int .i64 (k : Int) ∧ k ≤ 300 ∧ kv = .slice ka (k + 1) kc ∧ Hid (wk.ownsRow w.heap.size 4 1 kv (k + 1) ((false :: List.replicate k true).map Value.bool)) ∧
              Hid (Ll w Kq wk bg bd g u) ∧ Hid (∀ j, kv.ownBlock = some j → Kq j)) (fun _ jv _ => 300 - (intOf jv).toNat)
            case atStart => exact ⟨0, _, _, Mo Kp w4 w5, rfl, by omega, rfl, HOw, HLl, hid (fun j hj => by cases hj; exact HK5.out)⟩
            case round =>
              obtain ⟨k, ka, kc, Kq, rfl, hk, rfl, HO, HLk, HKq⟩ := hrel
              by_cases hk3 : k < 300
              · have hk3i : (k : Int) < 300 := by omega
                have hwz : Hid (w.heap.size ≤ wr.heap.size) := hid HLk.out.fr.size
                go_wp2_with (first
                  | ((with_reducible show wpList _ _ _ ({ dst := _, op := .buildSlice 37 _ _, type := _, pos := _, after := _, guard := _ } :: _) _ _); refine wpL_buildOne rfl _ 4 _ rfl i4 _ rfl I4.out Z4.out (by rw [S4.out]; decide) (by rw [S4.out]; decide) _ [.bool true] rfl rfl (by rw [S4.out]; rfl) ?_; intro w7 HB7 HF7 HS7;
                      have HO7 := hid (own_fr HO.out HF7.out (fun _ _ e => e)))
                  | ((with_reducible show wpList _ _ _ ({ dst := _, op := .call { callee := .builtin .append, args := _, argTypes := _ }, type := _, pos := _, after := _, guard := _ } :: _) _ _); refine wpL_append rfl _ _ 37 rfl w.heap.size 4 i4 _ 1 1 rfl I4.out Z4.out S4.out B4.out rfl (by decide) _ (k + 1) _ rfl HO7.out (some ⟨wr.heap.size, 0, none⟩) 1 1 [.bool true] rfl rfl (.inr ⟨_, rfl, range_loads (HB7.out.range 0 _ rfl)⟩) (by intro v hv; simp at hv; subst hv; rfl) (by unfold maxLen; omega) (by omega) (Nat.le_trans hwz.out HF7.out.size) ?_; intro a8 cap8 w8 HO8 HG8 HA8))
                have hL7 := HLk.out.later HF7.out
                have hL8 := hL7.more ((frown HG8.out).mono (fun j hj => HKq.out j hj))
                refine ⟨⟨k + 1, a8, cap8, _, by go_num, by omega, rfl, hid ?_, hid hL8, hid (fun j hj => ?_)⟩, by simp [intOf]; omega⟩
                · have := HO8.out
                  have e : (false :: List.replicate (k + 1) true).map Value.bool = (false :: List.replicate k true).map Value.bool ++ [.bool true] := by
                    rw [List.replicate_succ', ← List.cons_append, List.map_append]
                    rfl
                  rw [e]
                  exact this
                · rcases HA8.out with e | e
                  · rw [e] at hj
                    exact .inl (HKq.out j hj)
                  · rw [e] at hj
                    cases hj
                    exact .inr ⟨Nat.le_refl _, own_lt HO8.out _ e⟩
              · have hk3i : k = 300 := by omega
                subst hk3i
                go_wp2_with fail
                refine (lo_crash _ (false :: List.replicate 300 true) _ HLk.out.lo (own_bools HO.out) (fun j hj => .inr (HKq.out j hj)) (by decide)).mono ?_
                rintro e w9 ⟨rfl, h1, -⟩
                obtain ⟨q, c, l, hraw⟩ := HLi.out
                obtain ⟨hbase, -⟩ := hraw.crash (false :: List.replicate 300 true)
                have hview := elder_crash HE'.out (List.replicate 300 true)
                have hLl : u.L.length = 300 := by have := HE'.out.1; rw [this, opened1_L]
                have hcr := crash_idle u (false :: List.replicate 300 true)
                have H9 := hid h1
                have HBs := hid hbase; have HVw := hid hview; have HCr := hid hcr; have HLn := hid hLl
                clear h1 hraw hbase hview hcr hLl
                generalize hu9 : (u.crash (false :: List.replicate 300 true)).2 = u9 at H9 HCr
                generalize applied u.L (picked u.P (false :: List.replicate 300 true)) = L9 at HBs HVw HCr
                have hop : u9.opens 0 300 1 = (0, ⟨L9.set 0 (headSec 2), [], true, -1⟩, some (⟨0, 300, 1, 2, 1⟩, [])) := by
                  have hop := opens_idle (e := 1) (h := 1) (first := 0) (count := 300) HCr.out.1 HCr.out.2.1 (by rw [HCr.out.2.2]; exact HBs.out.len) (by decide) (by rw [HCr.out.2.2]; exact HBs.out.head) (by decide)
                  rw [HCr.out.2.2, scan_no HVw.out] at hop
                  exact hop
                have hlive : Live ⟨L9.set 0 (headSec 2), [], true, -1⟩ ⟨0, 300, 1, 2, 1⟩ 0 300 1 1 [] [] := by
                  rcases Base.opens (u := u9) (first := 0) (count := 300) (e := 1) (h := 1) (by rw [HCr.out.2.2]; exact HBs.out) HCr.out.2.1 HCr.out.1.up (by decide) (by decide) (by decide) with ⟨_, g', h2, h3, _⟩ | ⟨h1, _⟩
                  · rw [hop] at h2 h3
                    simp only [Option.some.injEq, Prod.mk.injEq] at h2
                    rw [← h2.2, ← h2.1] at h3
                    exact h3
                  · rw [hop] at h1
                    simp at h1
                have HOp := hid hop; have HLv9 := hid hlive
                clear hop hlive
                have H9L : Hid (u9.L.length = 300) := hid (by have h1 := HBs.out.len; have h2 := HLn.out; rw [HCr.out.2.2]; have h3 : L9.length = 300 := by rw [← HCr.out.2.2, ← hu9]; simp [U.crash, HLn.out]
                                                              exact h3)
                clear hu9
                go_wp2_with fail
                refine (lo_open_some HOp.out H9.out (by decide) (by rw [H9L.out]; decide) (by decide) (by rw [HCr.out.2.1]; decide)).mono ?_
                rintro e w10 ⟨bg10, a10, cap10, Kp10, rfl, h1, -, -, -⟩
                have H10 := hid h1; clear h1
                have HId10 : Hid (U.Idle ⟨L9.set 0 (headSec 2), [], true, -1⟩) := hid ⟨rfl, rfl⟩
                have H10L : Hid (L9.length = 300) := hid (by rw [← HCr.out.2.2]; exact H9L.out)
                go_wp2_with fail
                refine (ll_append t2 H10.out (by omega) (by simp)).mono ?_
                rintro e w11 ⟨rfl, h1, -⟩
                have hai := append_idle (g := ⟨0, 300, 1, 2, 1⟩) (x := t2.data.toList) HId10.out (by simp [H10L.out])
                have ha := hai.2.1 (by have := HX2.out; omega) (by simp only; rw [HS2.out]; decide)
                obtain ⟨q', c', l', hraw'⟩ := HLv9.out
                have hlv := (hraw'.append t2.data.toList).1 ha
                rw [ha]
                have H11 := hid h1; have HId11 := hid hai.1; have HLv11 := hid hlv
                have HL11 : Hid ((U.append ⟨L9.set 0 (headSec 2), [], true, -1⟩ ⟨0, 300, 1, 2, 1⟩ t2.data.toList).2.1.L.length = 300) := hid (by rw [append_L]; simp [H10L.out])
                generalize (U.append ⟨L9.set 0 (headSec 2), [], true, -1⟩ ⟨0, 300, 1, 2, 1⟩ t2.data.toList).2.1 = u11 at H11 HId11 HLv11 HL11
                generalize (U.append ⟨L9.set 0 (headSec 2), [], true, -1⟩ ⟨0, 300, 1, 2, 1⟩ t2.data.toList).2.2 = g11 at H11 HLv11
                clear h1 hai ha hraw' hlv
                go_wp2_with fail
                refine (ll_sync H11.out).mono ?_
                rintro e w12 ⟨rfl, h1, -⟩
                have hfl := flush_is HId11.out
                have hf0 : u11.flush.1 = 0 := by rw [hfl]
                obtain ⟨q2, c2, l2, hraw2⟩ := HLv11.out
                have hlv2 := hraw2.flush hf0
                rw [hf0]
                have hP2 : u11.flush.2.P = [] := by rw [hfl]
                have hL2 : u11.flush.2.L.length = 300 := by rw [flush_L]; exact HL11.out
                have H12 := hid h1; have HLv12 := hid hlv2; have HP12 := hid hP2; have HL12 := hid hL2
                generalize u11.flush.2 = u12 at H12 HLv12 HP12 HL12
                clear h1 hfl hf0 hraw2 hlv2 hP2 hL2
                go_wp2_with fail
                refine (lo_crash _ [] No H12.out.lo ⟨none, 0, 0, rfl, rfl, .inl rfl⟩ (fun k hk => hk.elim) (by decide)).mono ?_
                rintro e w13 ⟨rfl, h1, -⟩
                obtain ⟨q3, c3, l3, hraw3⟩ := HLv12.out
                obtain ⟨hb3, j3, hj3, ht3⟩ := hraw3.crash []
                have hj0 : j3 = 0 := by simpa using hj3
                subst hj0
                have hc3 := crash_idle u12 []
                have hop3 := opens_idle (e := 1) (h := 2) (first := 0) (count := 300) hc3.1 hc3.2.1 (by rw [hc3.2.2]; exact hb3.len) (by decide) (by rw [hc3.2.2]; exact hb3.head) (by decide)
                rw [hc3.2.2] at hop3
                have ht4 : (scan 2 (viewL (applied u12.L (picked u12.P [])) 0 300 1) (300 - 1) 1 sc0).1 = [t2.data.toList] := ht3
                rw [ht4] at hop3
                have H13 := hid h1; have HOp3 := hid hop3
                have HP13 : Hid ((u12.crash []).2.P = []) := hid hc3.2.1
                have HL13 : Hid ((u12.crash []).2.L.length = 300) := hid (by rw [hc3.2.2]; simp [HL12.out])
                generalize (u12.crash []).2 = u13 at H13 HOp3 HP13 HL13
                clear h1 hraw3 hb3 hj3 ht3 hc3 hop3 ht4
                go_wp2_with fail
                refine (lo_open_some HOp3.out H13.out (by decide) (by rw [HL13.out]; decide) (by decide) (by rw [HP13.out]; decide)).mono ?_
                rintro e w14 ⟨bg14, a14, cap14, Kp14, rfl, h1, h2, -, -⟩
                have HF14 := hid h1.fr
                obtain ⟨b14, o14, rfl, hget⟩ := texts_get h2 (by simp)
                have tt : w14.cell? ⟨b14, o14, none⟩ = some (.string t2) := hget 0 t2.data.toList rfl
                clear h1 h2 hget
                go_wp2_with fail
                go_ret
                exact ⟨rfl, HF14.out⟩
end Go.Proofs.Ytfaogebnpbcnhaa.L
