/-
  LogRoom's walk.
-/
import Derived.Test.YtfaogebnpbcnhaaLogM
import Derived.Test.YtfaogebnpbcnhaaLogE
namespace Go.Proofs.Ytfaogebnpbcnhaa.L
set_option maxRecDepth 100000
open Go.RowKit K

/-- Each of the texts is no longer than an argument may be. -/
def Short (L : List (List UInt8)) : Prop := ∀ l ∈ L, l.length ≤ 140737488351232

set_option maxHeartbeats 4000000 in
theorem logRoom_walk (w : World) (n : Int) (v : Value) (L : List (List UInt8)) (hn : -9223372036854775808 ≤ n ∧ n ≤ 9223372036854775807) (hL : TextsIn w (fun k => k < w.heap.size) v L) (hS : Short L) :
    Calls Try.prog 8 #[.int .i64 n, v] w fun e w' => e = .returned (.bool true) ∧ Fr No w w' := by
  obtain ⟨a, len, cap, rfl, hlen, hcap, hmem⟩ := id hL
  have HL := hid hL; have HSh := hid hS; have HLen := hid hlen; have HMem := hid hmem
  clear hL hS hlen hmem
  go_enter Try.func8, Try.ntmps8
  go_wp2_with fail
  refine (awake_any w).mono ?_
  rintro e w1 ⟨rfl, hf⟩
  have HF1 := hid hf; clear hf
  by_cases hno : n < 1 ∨ 4096 < n
  · go_wp2_with fail
    refine (D.new_no n w1 hno).mono ?_
    rintro e w' ⟨rfl, rfl⟩
    clear hno
    go_wp2_with fail
    go_ret
    exact ⟨rfl, HF1.out⟩
  · obtain ⟨N, rfl⟩ := Int.eq_ofNat_of_zero_le (show 0 ≤ n by omega)
    have hN1 : 1 ≤ N := by omega
    have hN2 : N ≤ 4096 := by omega
    clear hno hn
    go_wp2_with fail
    refine (lo_new (w0 := w) N hN1 hN2 HF1.out).mono ?_
    rintro e w2 ⟨bd, rfl, h1, hf⟩
    have H2 := hid h1; clear h1 hf
    by_cases h2 : N = 1
    · subst h2
      go_wp2_with fail
      go_ret
      exact ⟨rfl, H2.out.fr⟩
    · have hN3 : (2 : Int) ≤ N := by omega
      have hN4 : ¬ ((N : Int) < 2) := by omega
      have hNi : (N : Int) ≤ 4096 := by omega
      have HN := hid (show 2 ≤ N by omega)
      clear h2 hN1 hN2
      go_wp2_with fail
      refine (lo_open_some (first := 0) (count := N) (ep := 3) (new_opens HN.out (by omega)) H2.out HN.out (by simp [U.new]) (by decide) (by simp [U.new])).mono ?_
      rintro e w3 ⟨bg, a3, cap3, Kp, rfl, h1, -, -, -⟩
      have H3 := hid h1; clear h1
      go_wp2_with fail
      go_loopw [11] (fun iv wr => ∃ (i : Nat) (g : Lg) (u : U), iv = .int .i64 (i : Int) ∧ i ≤ 60 ∧ i ≤ len ∧ g.count = N ∧ Hid (u.P.length ≤ 42 * i) ∧ Hid (Ll w Kp wr bg bd g u)) (fun iv _ => 60 - (intOf iv).toNat)
      case atStart => exact ⟨0, _, _, rfl, by omega, Nat.zero_le _, rfl, hid (by simp [opened1]), H3⟩
      case round =>
        obtain ⟨i, g, u, rfl, hi, hil, hg, HP, HLl⟩ := hrel
        by_cases hlt : i < len ∧ i < 60
        · obtain ⟨hlt1, hlt2⟩ := hlt
          obtain ⟨b, o, rfl, _, _, hr⟩ := HMem.out.resolve_left (by omega)
          obtain ⟨l, hl⟩ : ∃ l, L[i]? = some l := ⟨L[i]'(by rw [HLen.out]; exact hlt1), List.getElem?_eq_getElem _⟩
          have cl : wr.cell? ⟨b, o + i, none⟩ = some (str l) := HLl.out.fr.cell (hr i _ (by simp [strs, hl])) id
          have hls := HSh.out l (List.mem_of_getElem? hl)
          have HX : Hid ((⟨l.toArray⟩ : ByteArray).data.toList = l) := hid rfl
          have hxs : (⟨l.toArray⟩ : ByteArray).size = l.length := rfl
          have cl' : wr.cell? ⟨b, o + i, none⟩ = some (.string ⟨l.toArray⟩) := cl
          generalize (⟨l.toArray⟩ : ByteArray) = x at cl' HX hxs
          have hx63 : x.size ≤ 140737488351232 := by omega
          have h1i : (i : Int) < len := by omega
          have h2i : (i : Int) < 60 := by omega
          have hok := HLl.out.gok
          have hnc : (g.next : Int) ≤ g.count := by have := hok.nc; omega
          have hn1 : (1 : Int) ≤ g.next := by have := hok.n1; omega
          have hgN : (g.count : Int) = N := by omega
          have HG := hid hg
          clear cl hr hl hls hxs hok hg
          have hS1 : 1 ≤ secs (x.size : Int) := by unfold secs; split <;> omega
          have hS2 : secs (x.size : Int) ≤ 140737488351232 := by unfold secs; split <;> omega
          have HSe := hid (secsN_secs x.data.toList)
          rw [show x.data.toList.length = x.size by simp] at HSe
          have HSx := fun w => hid (sectors_any (x.size : Int) w (by omega) (by omega))
          generalize secs (x.size : Int) = S at hS1 hS2 HSe HSx
          go_wp2_with fail
          refine (ll_room HLl.out).mono ?_
          rintro e w4 ⟨rfl, hf⟩
          have H4 := hid (HLl.out.later hf)
          have HF4 := hid hf
          replace cl' := hf.cell cl' id
          clear hf
          generalize hR1 : (g.count : Int) - g.next = R1
          have hR1' : (g.next : Int) + R1 = N := by omega
          have hR1l : 0 ≤ R1 := by omega
          have hR1u : R1 ≤ 4096 := by omega
          have HR1 := hid hR1
          clear hR1 hgN hnc
          go_wp2_with fail
          refine (ll_next H4.out).mono ?_
          rintro e w' ⟨rfl, rfl⟩
          go_wp2_with fail
          refine (HSx w4).out.mono ?_
          rintro e w' ⟨rfl, rfl⟩
          go_wp2_with fail
          refine (ll_append x H4.out (by omega) (by have := HP.out; omega)).mono ?_
          rintro e w5 ⟨rfl, h1, h2⟩
          have H5 := hid h1
          have c5 : w5.cell? ⟨b, o + i, none⟩ = some (.string x) := by
            have := HMem.out.resolve_left (by omega)
            obtain ⟨b', o', e1, hb', _, _⟩ := this
            cases e1
            exact h2.cell cl' (fun hd => Nat.lt_irrefl _ (Nat.lt_of_lt_of_le hb' hd.1))
          clear h1 h2 cl'
          have HAp := hid (append_P u g x.data.toList)
          have HFi := hid (append_first u g x.data.toList)
          by_cases h0 : (u.append g x.data.toList).1 = 0
          · obtain ⟨o1, o2, _, o4⟩ := append_ok h0
            have o1' : x.size ≤ 2000 := by simpa using o1
            rw [o4] at H5 HAp ⊢
            simp only at H5 HAp ⊢
            have HO2 := hid o2; have HO1 := hid o1'
            have hxi : (x.size : Int) ≤ 2000 := by omega
            clear o1 o2 o4 h0 o1'
            go_wp2_with fail
            refine (ll_room H5.out).mono ?_
            rintro e w6 ⟨rfl, hf⟩
            have H6 := hid (H5.out.later hf)
            have HF6 := hid hf
            replace c5 := hf.cell c5 id
            clear hf
            simp only
            have hR2 : (g.count : Int) - ((g.next + secsN x.data.toList : Nat) : Int) = R1 - S := by have := HSe.out; have := HR1.out; omega
            rw [hR2]
            have hR2l : 0 ≤ R1 - S := by have := HSe.out; have := HR1.out; have := HO2.out; omega
            go_wp2_with fail
            refine (ll_next H6.out).mono ?_
            rintro e w' ⟨rfl, rfl⟩
            simp only
            have hn2 : ((g.next + secsN x.data.toList : Nat) : Int) + (R1 - S) = N := by have := HSe.out; have := HR1.out; have := HG.out; omega
            have HN2 : Hid (((g.next + secsN x.data.toList : Nat) : Int) + (R1 - S) = N) := hid hn2
            have hn2l : ((g.next + secsN x.data.toList : Nat) : Int) ≤ 4096 := by omega
            have hn20 : 0 ≤ ((g.next + secsN x.data.toList : Nat) : Int) := by omega
            generalize hM : ((g.next + secsN x.data.toList : Nat) : Int) = M at hn2 hn2l hn20 ⊢
            clear hM hR2
            go_wp2_with fail
            exact ⟨⟨i + 1, { g with next := g.next + secsN x.data.toList }, _, by go_num, by omega, by omega, HG.out, hid (by have := HAp.out; have := HP.out; omega), H6⟩, by simp [intOf]; omega⟩
          · obtain ⟨o1, o2⟩ := append_err h0
            rw [o1] at H5
            have HO2 := hid o2
            generalize (u.append g x.data.toList).1 = f at h0 HO2 ⊢
            have HF0 := hid h0
            have f0 : (f == 0) = false := by simp [h0]
            have f0' : (f != 0) = true := by simp [h0]
            have HF3 : Hid (f = 3 → R1 < S) := hid (fun e => by have := HO2.out e; have := HSe.out; have := HR1.out; omega)
            clear o1 o2 h0
            go_wp2_with fail
            refine (ll_room H5.out).mono ?_
            rintro e w6 ⟨rfl, hf⟩
            have H6 := hid (H5.out.later hf)
            replace c5 := hf.cell c5 id
            clear hf
            rw [HR1.out]
            go_wp2_with fail
            refine (ll_next H6.out).mono ?_
            rintro e w' ⟨rfl, rfl⟩
            by_cases h3 : f = 3
            · have hRS := HF3.out h3
              have hRS' : decide (S ≤ R1) = false := decide_eq_false (by omega)
              have f3 : (f == 3) = true := by simp [h3]
              clear h3
              go_wp2_with fail
              exact ⟨⟨i + 1, g, _, by go_num, by omega, by omega, HG.out, hid (by have := HAp.out; have := HP.out; omega), H6⟩, by simp [intOf]; omega⟩
            · have f3 : (f == 3) = false := by simp [h3]
              clear h3
              go_wp2_with fail
              exact ⟨⟨i + 1, g, _, by go_num, by omega, by omega, HG.out, hid (by have := HAp.out; have := HP.out; omega), H6⟩, by simp [intOf]; omega⟩
        · have HFr := hid HLl.out.fr
          by_cases hA : i < len
          · have h1i : (i : Int) < len := by omega
            have h2i : ¬ (i : Int) < 60 := by omega
            have h2d : decide ((i : Int) < 60) = false := decide_eq_false h2i
            go_wp2_with fail
            go_ret
            exact ⟨rfl, HFr.out⟩
          · have h1i : ¬ (i : Int) < len := by omega
            have h1d : decide ((i : Int) < len) = false := decide_eq_false h1i
            have h1e : decide (i < len) = false := decide_eq_false hA
            go_wp2_with fail
            go_ret
            exact ⟨rfl, HFr.out⟩
end Go.Proofs.Ytfaogebnpbcnhaa.L
