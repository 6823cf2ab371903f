/-
  LogBack's walk.
-/
import Derived.Test.YtfaogebnpbcnhaaLogEl
import Derived.Test.YtfaogebnpbcnhaaLogG
namespace Go.Proofs.Ytfaogebnpbcnhaa.L
set_option maxRecDepth 100000
open Go.RowKit K

theorem build3b (w : World) : (Instr.buildSlice 37 3 #[(0, .bool true), (1, .bool true), (2, .bool true)]).run Try.prog w = .ok (.slice (some ⟨w.heap.size, 0, none⟩) 3 3) (w.alloc (.cells #[.bool true, .bool true, .bool true] 4)) := by kernel_rfl
/-- A log in another epoch tells none. -/
theorem other_none {L : List (List UInt8)} {W : List (List UInt8)} {e f h : Nat} (hW : W = [] → viewL L 50 200 f 1 = none) (ht : told L 50 200 e h = W) (hef : e ≠ f) : viewL L 50 200 f 1 = none := by
  cases W with
  | nil => exact hW rfl
  | cons a r =>
    rw [viewL_in (by decide) (by decide)]
    unfold piece
    rw [if_neg]
    intro hp
    have h1 : viewL L 50 200 e 1 = none := by
      rw [viewL_in (by decide) (by decide)]
      unfold piece
      rw [if_neg]
      intro hq
      exact hef (hq.2.1.symm.trans hp.2.1)
    unfold told at ht
    rw [scan_no h1] at ht
    simp [sc0] at ht

set_option maxHeartbeats 8000000 in
theorem logBack_walk (w : World) (v : Value) (L : List (List UInt8)) (s1 s2 : Nat) (hL : TextsIn w (fun k => k < w.heap.size) v L) (hS : Short L) (hs1 : s1 < 4294967296) (hs2 : s2 < 4294967296) :
    Calls Try.prog 6 #[v, .int .u32 s1, .int .u32 s2] w fun e w' => e = .returned (.bool true) ∧ Fr No w w' := by
  obtain ⟨a, len, cap, rfl, hlen, hcap, hmem⟩ := id hL
  have HSh := hid hS; have HLen := hid hlen; have HMem := hid hmem; have HS1 := hid hs1; have HS2 := hid hs2
  obtain ⟨i9, hi9, hz9, hs9, hb9⟩ := info_parts info9z
  have I9 := hid hi9; have Z9 := hid hz9; have S9 := hid hs9; have B9 := hid hb9
  clear hL hS hlen hmem hi9 hz9 hs9 hb9 hs1 hs2
  go_enter Try.func6, Try.ntmps6
  go_wp2_with fail
  refine (awake_any w).mono ?_
  rintro e w1 ⟨rfl, hf⟩
  have HF1 := hid hf; clear hf
  go_wp2_with fail
  refine (lo_new (w0 := w) 300 (by decide) (by decide) HF1.out).mono ?_
  rintro e w2 ⟨bd, rfl, h1, _⟩
  have H2 := hid h1; clear h1
  go_wp2_with fail
  refine (lo_open_some (first := 50) (count := 200) (ep := s1) (new_opens (by decide) (by decide)) H2.out (by decide) (by simp [U.new]) HS1.out (by simp [U.new])).mono ?_
  rintro e w3 ⟨bg, a3, cap3, Kp, rfl, h1, -, -, -⟩
  have H3 := hid h1; clear h1
  have HLive1 := hid (live_new (N := 300) (first := 50) (count := 200) (e := s1) (by decide) (by decide) (by decide) HS1.out)
  go_wp2_with fail
  go_loopw [13, 14] (fun wv iv wr => ∃ (i : Nat) (g : Lg) (u : U) (W : List (List UInt8)) (ka : Option Addr) (kc : Nat) (Kq : Nat → Prop), iv = .int .i64 (i : Int) ∧ wv = .slice ka W.length kc ∧ i ≤ 100 ∧ i ≤ len ∧ W.length ≤ i ∧ g.first = 50 ∧ g.count = 200 ∧ Hid (g.next ≤ 200 ∧ 1 ≤ g.next) ∧ Hid (u.Idle ∧ u.L.length = 300) ∧
    Hid (u.P.length ≤ 42 * i) ∧ Hid (Live u g 50 200 s1 0 [] W) ∧ Hid (W = [] → u = opened1 300 50) ∧ Hid (Ll w Kq wr bg bd g u) ∧ Hid (wr.ownsRow w.heap.size 9 1 wv W.length (strs W)) ∧ Hid (∀ j, wv.ownBlock = some j → Kq j)) (fun _ iv _ => 100 - (intOf iv).toNat)
  case atStart => exact ⟨0, _, opened1 300 50, [], none, 0, Kp, rfl, rfl, by omega, Nat.zero_le _, Nat.le_refl _, rfl, rfl, hid ⟨(by decide : (1 : Nat) ≤ 200), (by decide : (1 : Nat) ≤ 1)⟩, hid ⟨opened1_idle _ _, opened1_L _ _⟩, hid (by simp [opened1]), HLive1, hid (fun _ => rfl), H3, hid (World.ownsRow_nil _ _ _ _), hid (fun j hj => by cases hj)⟩
  case round =>
    obtain ⟨i, g, u, W, ka, kc, Kq, rfl, rfl, hi, hil, hWl, hgf, hgc, HGn, HId, HP, HLi, HW0, HLl, HOw, HKq⟩ := hrel
    by_cases hlt : i < len ∧ i < 100
    · obtain ⟨hlt1, hlt2⟩ := hlt
      obtain ⟨b, o, rfl, _, hbl, hr⟩ := HMem.out.resolve_left (by omega)
      obtain ⟨l, hl⟩ : ∃ l, L[i]? = some l := ⟨L[i]'(by rw [HLen.out]; exact hlt1), List.getElem?_eq_getElem _⟩
      have cl : wr.cell? ⟨b, o + i, none⟩ = some (.string ⟨l.toArray⟩) := HLl.out.fr.cell (hr i _ (by simp [strs, hl, str])) id
      have hls := HSh.out l (List.mem_of_getElem? hl)
      have hxs : (⟨l.toArray⟩ : ByteArray).size = l.length := rfl
      generalize (⟨l.toArray⟩ : ByteArray) = x at cl hxs
      have hx63 : x.size ≤ 140737488351232 := by omega
      have h1i : (i : Int) < len := by omega
      have h2i : (i : Int) < 100 := by omega
      have HBl := hid hbl
      have hgn1 : (g.next : Int) ≤ 200 := by have := HGn.out.1; omega
      have hgc' : (g.count : Int) = 200 := by omega
      clear hr hl hls hxs hbl
      have hxl : x.data.toList.length = x.size := by simp
      have hai := append_idle (g := g) (x := x.data.toList) HId.out.1 (by rw [hgf, hgc, HId.out.2]; decide)
      rw [hxl] at hai
      have HAi := hid hai
      have hSe := secsN_secs x.data.toList
      rw [hxl] at hSe
      have HSx := fun w => hid (rsectors_any (x.size : Int) w (by omega) (by omega))
      have hsp := secsN_pos x.data.toList
      have hS2 : secs (x.size : Int) ≤ 140737488351232 := by unfold secs; split <;> omega
      rw [← hSe] at HSx hS2
      have HSe := hid hSe
      have HGf := hid hgf; have HGc := hid hgc
      clear hai hSe hxl
      go_wp2_with fail
      refine (ll_room HLl.out).mono ?_
      rintro e w4 ⟨rfl, hf⟩
      have H4 := hid (HLl.out.later hf)
      have HO4 := hid (own_fr HOw.out hf (fun _ _ e => e))
      replace cl := hf.cell cl id
      clear hf
      rw [hgc']
      go_wp2_with fail
      refine (ll_append x H4.out (by omega) (by have := HP.out; omega)).mono ?_
      rintro e w5 ⟨rfl, h1, h2⟩
      have c5 : w5.cell? ⟨b, o + i, none⟩ = some (.string x) := h2.cell cl (fun hd => Nat.lt_irrefl _ (Nat.lt_of_lt_of_le HBl.out hd.1))
      have HO5 := hid (own_ap HO4.out h2 HKq.out)
      have R1 := hid h1
      have hPl := append_P u g x.data.toList
      have R5 := hid hPl
      have hFi := append_first u g x.data.toList
      have hLn : (u.append g x.data.toList).2.1.L.length = 300 := by rw [append_L]; exact HId.out.2
      have R6 := hid hLn
      obtain ⟨q, c, lx, hraw⟩ := HLi.out
      have hRA := hraw.append x.data.toList
      have R7 := hid hRA
      have R8 := hid (fun h0 => append_ok (u := u) (g := g) (l := x.data.toList) h0)
      clear h1 h2 hPl hFi hLn hraw hRA cl
      generalize u.append g x.data.toList = ap at HAi R1 R5 R6 R7 R8 ⊢
      obtain ⟨a1, a2, a3⟩ := ap
      simp only at HAi R1 R5 R6 R7 R8 ⊢
      have HWz : Hid (w.heap.size ≤ w5.heap.size) := hid R1.out.fr.size
      by_cases hbig : 2000 < x.size
      · obtain ⟨k1, k2, k3⟩ := HAi.out.2.2.1 hbig
        subst k1; subst k2; subst k3
        have hbi : (2000 : Int) < x.size := by omega
        go_wp2_with fail
        exact ⟨⟨i + 1, a3, a2, W, ka, kc, Kq, by go_num, rfl, by omega, by omega, by omega, HGf.out, HGc.out, HGn, HId, hid (by have := HP.out; omega), HLi, HW0, R1, HO5, HKq⟩, by simp [intOf]; omega⟩
      · have hbi : ¬ (2000 : Int) < x.size := by omega
        by_cases hfit : g.next + secsN x.data.toList ≤ g.count
        · have k1 := HAi.out.2.1 (by omega) hfit
          subst k1
          obtain ⟨_, _, _, o4⟩ := R8.out rfl
          have ho4 : a3 = { g with next := g.next + secsN x.data.toList } := by have := congrArg (fun p => p.2.2) o4; exact this
          have hlive := R7.out.1 rfl
          have hle : ((secsN x.data.toList : Nat) : Int) ≤ 200 - g.next := by omega
          have hled : decide (((secsN x.data.toList : Nat) : Int) ≤ 200 - g.next) = true := decide_eq_true hle
          have HFit := hid hfit
          have HLive := hid hlive
          clear o4 hlive hfit
          go_wp2_with (first
            | (go_at_call 16; refine (HSx _).out.mono ?_; rintro e w' ⟨rfl, rfl⟩)
            | ((with_reducible show wpList _ _ _ ({ dst := _, op := .buildSlice 44 _ _, type := _, pos := _, after := _, guard := _ } :: _) _ _); refine wpL_buildOne rfl _ 9 _ rfl i9 _ rfl I9.out Z9.out (by rw [S9.out]; decide) (by rw [S9.out]; decide) _ [.string x] rfl rfl (by rw [S9.out]; rfl) ?_; intro w6 HB6 HF6 HS6;
                have HO6 := hid (own_fr HO5.out HF6.out (fun _ _ e => e)))
            | ((with_reducible show wpList _ _ _ ({ dst := _, op := .call { callee := .builtin .append, args := _, argTypes := _ }, type := _, pos := _, after := _, guard := _ } :: _) _ _); refine wpL_append rfl _ _ 44 rfl w.heap.size 9 i9 _ 1 16 rfl I9.out Z9.out S9.out B9.out rfl (by decide) _ W.length (strs W) rfl HO6.out (some ⟨w5.heap.size, 0, none⟩) 1 1 [.string x] rfl rfl (.inr ⟨_, rfl, range_loads (HB6.out.range 0 _ rfl)⟩) (by intro v hv; simp at hv; subst hv; rfl) (by unfold maxLen; omega) (by omega) (Nat.le_trans HWz.out HF6.out.size) ?_; intro a7 cap7 w7 HO7 HG7 HA7))
          have hL6 := R1.out.later HF6.out
          have hL7 := hL6.more ((frown HG7.out).mono (fun j hj => HKq.out j hj))
          have hlen7 : (W ++ [x.data.toList]).length = W.length + 1 := by simp
          have hst7 : strs (W ++ [x.data.toList]) = strs W ++ [.string x] := by
            unfold strs str
            rw [List.map_append]
            rfl
          refine ⟨⟨i + 1, a3, a2, W ++ [x.data.toList], a7, cap7, _, by go_num, by rw [hlen7], by omega, by omega, by omega, by rw [ho4]; exact HGf.out, by rw [ho4]; exact HGc.out, hid ?_, hid ⟨HAi.out.1, R6.out⟩, hid (by have h1 : a2.P.length ≤ u.P.length + 42 := R5.out; have := HP.out; omega), HLive, hid (by simp), hid hL7, hid ?_, hid (fun j hj => ?_)⟩, by simp [intOf]; omega⟩
          · rw [ho4]
            have := HFit.out; have := HGc.out; have := HGn.out
            simp only
            omega
          · rw [hlen7, hst7]; exact HO7.out
          · rcases HA7.out with e | e
            · rw [e] at hj
              exact .inl (HKq.out j hj)
            · rw [e] at hj
              cases hj
              exact .inr ⟨Nat.le_refl _, own_lt HO7.out _ e⟩
        · obtain ⟨k1, k2, k3⟩ := HAi.out.2.2.2 (by omega) hfit
          subst k1; subst k2; subst k3
          have hle : ¬ ((secsN x.data.toList : Nat) : Int) ≤ 200 - a3.next := by omega
          have hled : decide (((secsN x.data.toList : Nat) : Int) ≤ 200 - a3.next) = false := decide_eq_false hle
          clear hfit
          go_wp2_with (go_at_call 16; refine (HSx _).out.mono ?_; rintro e w' ⟨rfl, rfl⟩)
          exact ⟨⟨i + 1, a3, a2, W, ka, kc, Kq, by go_num, rfl, by omega, by omega, by omega, HGf.out, HGc.out, HGn, HId, hid (by have := HP.out; omega), HLi, HW0, R1, HO5, HKq⟩, by simp [intOf]; omega⟩
    · by_cases hA : i < len
      · have h1i : (i : Int) < len := by omega
        have h2d : decide ((i : Int) < 100) = false := decide_eq_false (by omega)
        go_wp2_with fail
        refine (ll_sync HLl.out).mono ?_
        rintro e w5 ⟨rfl, h1, h2⟩
        have HO5 := hid (own_ap HOw.out h2 HKq.out)
        have hfl := flush_is HId.out.1
        have hf0 : u.flush.1 = 0 := by rw [hfl]
        obtain ⟨q, c, lx, hraw⟩ := HLi.out
        have hlv := hraw.flush hf0
        have hP5 : u.flush.2.P = [] := by rw [hfl]
        have hL5 : u.flush.2.L.length = 300 := by rw [flush_L]; exact HId.out.2
        have hz5 : W = [] → u.flush.2.L.getD 51 [] = zeros64 := fun e => by
          rw [hfl, HW0.out e]
          show ((List.replicate 300 zeros64).set 50 (headSec 1)).getD 51 [] = zeros64
          rw [getD_set_ne' (by decide), zero_get (by decide)]
        rw [hf0]
        have H5 := hid h1; have HLv := hid hlv; have HP5 := hid hP5; have HL5 := hid hL5; have HZ5 := hid hz5
        generalize u.flush.2 = u5 at H5 HLv HP5 HL5 HZ5
        clear h1 h2 hfl hf0 hraw hlv hP5 hL5 hz5
        go_wp2_with ((with_reducible show wpList _ _ _ ({ dst := _, op := .buildSlice 37 _ _, type := _, pos := _, after := _, guard := _ } :: _) _ _); refine wpL_buildSlice rfl _ 4 3 [(0, .const (.bool true)), (1, .const (.bool true)), (2, .const (.bool true))] rfl [.bool true, .bool true, .bool true] (build3b _) ?_; intro w6 HB6 HF6 HS6)
        refine (lo_crash _ [true, true, true] (Mo Kq w5 w6) (H5.out.more HF6.out.no).lo ⟨_, 3, 3, rfl, rfl, .inr ⟨_, 0, rfl, .inr ⟨Nat.le_refl _, HB6.out.lt⟩, HB6.out.lt, HB6.out.range 0 _ rfl⟩⟩ (fun k hk => .inr hk) (by decide)).mono ?_
        rintro e w7 ⟨rfl, h1, h2⟩
        have HO7 := hid (own_ap (own_fr HO5.out HF6.out (fun _ _ e => e)) h2 (fun j hj => .inl (HKq.out j hj)))
        obtain ⟨q', c', l', hraw⟩ := HLv.out
        obtain ⟨hb, j, hj, ht⟩ := hraw.crash [true, true, true]
        have hj0 : j = 0 := by simpa using hj
        subst hj0
        have hc := crash_idle u5 [true, true, true]
        have hop := opens_idle (e := s1) (h := 1) (first := 50) (count := 200) hc.1 hc.2.1 (by rw [hc.2.2]; exact hb.len) (by decide) (by rw [hc.2.2]; exact hb.head) (by decide)
        have hpk : picked u5.P [true, true, true] = [] := by rw [HP5.out]; rfl
        rw [hc.2.2, hpk] at hop
        rw [hpk] at ht hb
        have hap : applied u5.L [] = u5.L := rfl
        rw [hap] at hop ht hb
        have ht' : told u5.L 50 200 s1 1 = W := by simpa using ht
        have ht4 : (scan 1 (viewL u5.L 50 200 s1) (200 - 1) 1 sc0).1 = W := ht'
        rw [ht4] at hop
        have hP7 : (u5.crash [true, true, true]).2.P = [] := hc.2.1
        have hL7 : (u5.crash [true, true, true]).2.L.length = 300 := by rw [hc.2.2, hpk, hap]; exact HL5.out
        have H7 := hid h1; have HOp := hid hop; have HP7 := hid hP7; have HL7 := hid hL7; have HT := hid ht'
        generalize (u5.crash [true, true, true]).2 = u7 at H7 HOp HP7 HL7
        clear h1 h2 hraw hb hj ht hc hop hpk hap ht' ht4 hP7 hL7
        go_wp2_with fail
        refine (lo_open_some HOp.out H7.out (by decide) (by rw [HL7.out]; decide) HS1.out (by rw [HP7.out]; decide)).mono ?_
        rintro e w8 ⟨bg8, a8, cap8, Kp8, rfl, h1, h2, h3, h4⟩
        have H8 := hid h1; have HT8 := hid h2
        have HO8 := hid (own_ap HO7.out h4 (fun j hj => .inl (HKq.out j hj)))
        have HWl : Hid (W.length ≤ 9223372036854775807) := hid (by omega)
        clear h1 h2 h3 h4
        go_wp2_with fail
        refine (texts_any _ _ W W _ _ w8 HT8.out (own_texts HO8.out) HWl.out).mono ?_
        rintro e w9 ⟨rfl, hf⟩
        have H9 := hid (H8.out.later hf)
        clear hf
        rw [decide_eq_true (rfl : W = W)]
        have hL8 : (List.set u5.L 50 (headSec (1 + 1))).length = 300 := by rw [List.length_set]; exact HL5.out
        have hop2 := opens_idle (u := ⟨u5.L.set 50 (headSec (1 + 1)), [], true, -1⟩) (e := s2) (h := 2) (first := 50) (count := 200) ⟨rfl, rfl⟩ rfl (by simp only; rw [hL8]; decide) (by decide) (by simp only; rw [getD_set_eq (by rw [HL5.out]; decide)]; exact head_headSec (by decide)) (by decide)
        simp only at hop2
        have hno : s1 ≠ s2 → (scan 2 (viewL (u5.L.set 50 (headSec (1 + 1))) 50 200 s2) (200 - 1) 1 sc0).1 = [] := fun hne => by
          have h1 : viewL u5.L 50 200 s2 1 = none := other_none (fun e => by
            rw [viewL_in (by decide) (by decide)]
            show piece s2 1 (look (u5.L.getD 51 [])) = none
            rw [HZ5.out e, piece_zeros]) HT.out hne
          have h2 : viewL (u5.L.set 50 (headSec (1 + 1))) 50 200 s2 1 = none := by
            rw [viewL_same (fun _ _ => getD_set_ne' (by decide))]
            exact h1
          rw [scan_no h2]
          rfl
        generalize (scan 2 (viewL (u5.L.set 50 (headSec (1 + 1))) 50 200 s2) (200 - 1) 1 sc0).1 = R2 at hop2 hno
        have HOp2 := hid hop2; have HNo := hid hno; have HL8 := hid hL8
        clear hop2 hno hL8
        go_wp2_with fail
        refine (lo_open_some HOp2.out H9.out.lo (by decide) (by simp only; rw [HL8.out]; decide) HS2.out (by simp)).mono ?_
        rintro e w10 ⟨bg10, a10, cap10, Kp10, rfl, h1, -, -, -⟩
        have HF10 := hid h1.fr
        clear h1
        by_cases hs : s1 = s2
        · subst hs
          go_wp2_with fail
          go_ret
          exact ⟨rfl, HF10.out⟩
        · have hsb : ((s1 : Int) == (s2 : Int)) = false := by simp; omega
          have hR : R2 = [] := HNo.out hs
          subst hR
          clear hs
          go_wp2_with fail
          go_ret
          exact ⟨rfl, HF10.out⟩
      · have h1d : decide ((i : Int) < len) = false := decide_eq_false (by omega)
        have h1e : decide (i < len) = false := decide_eq_false hA
        go_wp2_with fail
        refine (ll_sync HLl.out).mono ?_
        rintro e w5 ⟨rfl, h1, h2⟩
        have HO5 := hid (own_ap HOw.out h2 HKq.out)
        have hfl := flush_is HId.out.1
        have hf0 : u.flush.1 = 0 := by rw [hfl]
        obtain ⟨q, c, lx, hraw⟩ := HLi.out
        have hlv := hraw.flush hf0
        have hP5 : u.flush.2.P = [] := by rw [hfl]
        have hL5 : u.flush.2.L.length = 300 := by rw [flush_L]; exact HId.out.2
        have hz5 : W = [] → u.flush.2.L.getD 51 [] = zeros64 := fun e => by
          rw [hfl, HW0.out e]
          show ((List.replicate 300 zeros64).set 50 (headSec 1)).getD 51 [] = zeros64
          rw [getD_set_ne' (by decide), zero_get (by decide)]
        rw [hf0]
        have H5 := hid h1; have HLv := hid hlv; have HP5 := hid hP5; have HL5 := hid hL5; have HZ5 := hid hz5
        generalize u.flush.2 = u5 at H5 HLv HP5 HL5 HZ5
        clear h1 h2 hfl hf0 hraw hlv hP5 hL5 hz5
        go_wp2_with ((with_reducible show wpList _ _ _ ({ dst := _, op := .buildSlice 37 _ _, type := _, pos := _, after := _, guard := _ } :: _) _ _); refine wpL_buildSlice rfl _ 4 3 [(0, .const (.bool true)), (1, .const (.bool true)), (2, .const (.bool true))] rfl [.bool true, .bool true, .bool true] (build3b _) ?_; intro w6 HB6 HF6 HS6)
        refine (lo_crash _ [true, true, true] (Mo Kq w5 w6) (H5.out.more HF6.out.no).lo ⟨_, 3, 3, rfl, rfl, .inr ⟨_, 0, rfl, .inr ⟨Nat.le_refl _, HB6.out.lt⟩, HB6.out.lt, HB6.out.range 0 _ rfl⟩⟩ (fun k hk => .inr hk) (by decide)).mono ?_
        rintro e w7 ⟨rfl, h1, h2⟩
        have HO7 := hid (own_ap (own_fr HO5.out HF6.out (fun _ _ e => e)) h2 (fun j hj => .inl (HKq.out j hj)))
        obtain ⟨q', c', l', hraw⟩ := HLv.out
        obtain ⟨hb, j, hj, ht⟩ := hraw.crash [true, true, true]
        have hj0 : j = 0 := by simpa using hj
        subst hj0
        have hc := crash_idle u5 [true, true, true]
        have hop := opens_idle (e := s1) (h := 1) (first := 50) (count := 200) hc.1 hc.2.1 (by rw [hc.2.2]; exact hb.len) (by decide) (by rw [hc.2.2]; exact hb.head) (by decide)
        have hpk : picked u5.P [true, true, true] = [] := by rw [HP5.out]; rfl
        rw [hc.2.2, hpk] at hop
        rw [hpk] at ht hb
        have hap : applied u5.L [] = u5.L := rfl
        rw [hap] at hop ht hb
        have ht' : told u5.L 50 200 s1 1 = W := by simpa using ht
        have ht4 : (scan 1 (viewL u5.L 50 200 s1) (200 - 1) 1 sc0).1 = W := ht'
        rw [ht4] at hop
        have hP7 : (u5.crash [true, true, true]).2.P = [] := hc.2.1
        have hL7 : (u5.crash [true, true, true]).2.L.length = 300 := by rw [hc.2.2, hpk, hap]; exact HL5.out
        have H7 := hid h1; have HOp := hid hop; have HP7 := hid hP7; have HL7 := hid hL7; have HT := hid ht'
        generalize (u5.crash [true, true, true]).2 = u7 at H7 HOp HP7 HL7
        clear h1 h2 hraw hb hj ht hc hop hpk hap ht' ht4 hP7 hL7
        go_wp2_with fail
        refine (lo_open_some HOp.out H7.out (by decide) (by rw [HL7.out]; decide) HS1.out (by rw [HP7.out]; decide)).mono ?_
        rintro e w8 ⟨bg8, a8, cap8, Kp8, rfl, h1, h2, h3, h4⟩
        have H8 := hid h1; have HT8 := hid h2
        have HO8 := hid (own_ap HO7.out h4 (fun j hj => .inl (HKq.out j hj)))
        have HWl : Hid (W.length ≤ 9223372036854775807) := hid (by omega)
        clear h1 h2 h3 h4
        go_wp2_with fail
        refine (texts_any _ _ W W _ _ w8 HT8.out (own_texts HO8.out) HWl.out).mono ?_
        rintro e w9 ⟨rfl, hf⟩
        have H9 := hid (H8.out.later hf)
        clear hf
        rw [decide_eq_true (rfl : W = W)]
        have hL8 : (List.set u5.L 50 (headSec (1 + 1))).length = 300 := by rw [List.length_set]; exact HL5.out
        have hop2 := opens_idle (u := ⟨u5.L.set 50 (headSec (1 + 1)), [], true, -1⟩) (e := s2) (h := 2) (first := 50) (count := 200) ⟨rfl, rfl⟩ rfl (by simp only; rw [hL8]; decide) (by decide) (by simp only; rw [getD_set_eq (by rw [HL5.out]; decide)]; exact head_headSec (by decide)) (by decide)
        simp only at hop2
        have hno : s1 ≠ s2 → (scan 2 (viewL (u5.L.set 50 (headSec (1 + 1))) 50 200 s2) (200 - 1) 1 sc0).1 = [] := fun hne => by
          have h1 : viewL u5.L 50 200 s2 1 = none := other_none (fun e => by
            rw [viewL_in (by decide) (by decide)]
            show piece s2 1 (look (u5.L.getD 51 [])) = none
            rw [HZ5.out e, piece_zeros]) HT.out hne
          have h2 : viewL (u5.L.set 50 (headSec (1 + 1))) 50 200 s2 1 = none := by
            rw [viewL_same (fun _ _ => getD_set_ne' (by decide))]
            exact h1
          rw [scan_no h2]
          rfl
        generalize (scan 2 (viewL (u5.L.set 50 (headSec (1 + 1))) 50 200 s2) (200 - 1) 1 sc0).1 = R2 at hop2 hno
        have HOp2 := hid hop2; have HNo := hid hno; have HL8 := hid hL8
        clear hop2 hno hL8
        go_wp2_with fail
        refine (lo_open_some HOp2.out H9.out.lo (by decide) (by simp only; rw [HL8.out]; decide) HS2.out (by simp)).mono ?_
        rintro e w10 ⟨bg10, a10, cap10, Kp10, rfl, h1, -, -, -⟩
        have HF10 := hid h1.fr
        clear h1
        by_cases hs : s1 = s2
        · subst hs
          go_wp2_with fail
          go_ret
          exact ⟨rfl, HF10.out⟩
        · have hsb : ((s1 : Int) == (s2 : Int)) = false := by simp; omega
          have hR : R2 = [] := HNo.out hs
          subst hR
          clear hs
          go_wp2_with fail
          go_ret
          exact ⟨rfl, HF10.out⟩
end Go.Proofs.Ytfaogebnpbcnhaa.L
