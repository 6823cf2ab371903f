/-
  Part 40 of the proof: StId, StPd, StPt.
-/
import Derived.Test.YtejbanlhgnlliaaGreatPt34
import Derived.Test.YtejbanlhgnlliaaGreatPt39
import Derived.Test.YtejbanlhgnlliaaGreatPt38
namespace Go.Proofs.YtejbanlhgnlliaaGreat.ST
set_option maxRecDepth 100000
open Go.RowKit K L

structure Idle (u : U) : Prop where
  up : u.up = true
  left : u.left = -1
theorem recSec64 (g : Lg) (r : List UInt8) (n i : Nat) : (recSec g r n i).length = 64 := made_length (pad48_length (by rw [List.length_take]; omega))
theorem puts_i (g : Lg) (r : List UInt8) (n : Nat) : ∀ (k i : Nat) (u : U), Idle u → g.first + (g.next + i + k) ≤ u.L.length → (u.puts g r n k i).1 = 0 ∧ Idle (u.puts g r n k i).2
  | 0, _, _, h, _ => ⟨rfl, h⟩
  | k + 1, i, u, h, hl => by
    rw [puts_step]
    have hw := write_idle h.up h.left (n := g.first + (g.next + i)) (by omega) (b := recSec g r n i) (by rw [recSec64]; decide)
    rw [hw]
    simp only
    rw [if_neg (by simp)]
    exact puts_i g r n k (i + 1) _ ⟨h.up, h.left⟩ (by simp only; omega)
theorem append_i {u : U} {g : Lg} {x : List UInt8} (h : Idle u) (hl : g.first + g.count ≤ u.L.length) (hx : x.length ≤ 2000) (hn : g.next + secsN x ≤ g.count) : Idle (u.append g x).2.1 ∧ (u.append g x).1 = 0 := by
  unfold U.append
  rw [if_neg (by omega)]
  simp only
  rw [if_neg (by omega)]
  obtain ⟨p1, p2⟩ := puts_i g x (secsN x) (secsN x) 0 u h (by omega)
  rw [if_neg (by simpa using p1)]
  exact ⟨p2, rfl⟩
theorem flush_i {u : U} (h : Idle u) : u.flush = (0, ⟨applied u.L u.P, [], true, -1⟩) := by
  rw [flush_idle h.up h.left]
  obtain ⟨L, P, up, left⟩ := u
  obtain ⟨h1, h2⟩ := h
  simp only at h1 h2
  rw [h1, h2]
end Go.Proofs.YtejbanlhgnlliaaGreat.ST

namespace Go.Proofs.YtejbanlhgnlliaaGreat.ST
set_option maxRecDepth 100000
open Go.RowKit K L

theorem secsN_48 (r : List UInt8) : 48 * secsN r ≤ r.length + 48 := by unfold secsN; split <;> omega
theorem append_g {u : U} {g : Lg} {x : List UInt8} (h : (u.append g x).1 = 0) : (u.append g x).2.2 = { g with next := g.next + secsN x } ∧ g.next + secsN x ≤ g.count := by
  unfold U.append at h ⊢
  split at h
  · simp at h
  · rename_i h1
    rw [if_neg h1]
    simp only at h ⊢
    split at h
    · simp at h
    · rename_i h2
      rw [if_neg h2]
      split at h
      · rename_i h3; exact absurd h h3
      · rename_i h3
        rw [if_neg h3]
        exact ⟨rfl, by omega⟩
theorem grow_le (l : TR.L) (x : Ch) : growS l x ≤ (x.bytes.length : Int) := by
  rw [bytes_length]
  unfold growS
  cases TR.get x.key l <;> cases x.gone <;> simp <;> omega
/-- A store whose disk's power is not armed, and how far its log is written. -/
structure PI (s : Sd) (m : Nat) : Prop where
  idle : Idle s.u
  p : s.u.P = []
  br : s.br = false
  len : s.u.L.length = 600
  fit : s.g.first + s.g.count ≤ 600
  cnt : s.g.count = 301
  nx : 48 * s.g.next ≤ 48 + m
theorem com1 {s : Sd} {m : Nat} {xs : List Ch} (h : PI s m) (hx : xs.all Ch.may = true) (h32 : xs.length ≤ 32) (h2 : (recS xs).length ≤ 2000) (hl : lenS s.l (imgN s.l) xs ≤ 9536) (hm : m ≤ 10000) :
    (comS s xs).1 = 0 ∧ PI (comS s xs).2 (m + (recS xs).length + 48) ∧ (comS s xs).2.l = appS s.l xs := by
  have he : encS xs = (0, recS xs) := by unfold encS; rw [if_neg (by omega), if_pos hx, if_neg (by omega)]
  have hcap : ¬ ((areaN s.u.L.length * 64 : Nat) : Int) < lenS s.l (imgN s.l) xs := by rw [h.len]; unfold areaN; omega
  have h48 := secsN_48 (recS xs)
  have hroom : s.g.next + secsN (recS xs) ≤ s.g.count := by rw [h.cnt]; have := h.nx; omega
  have hmr : mrS s (L.secs ((recS xs).length : Int)) = (0, s) := by
    unfold mrS
    rw [if_pos (by rw [← secsN_secs]; omega)]
  obtain ⟨i1, ha⟩ := append_i (u := s.u) (g := s.g) (x := recS xs) h.idle (by rw [h.len]; exact h.fit) h2 hroom
  obtain ⟨hg, -⟩ := append_g ha
  have hfl := flush_i i1
  have hap : apS s (recS xs) = (0, { s with u := ⟨applied (s.u.append s.g (recS xs)).2.1.L (s.u.append s.g (recS xs)).2.1.P, [], true, -1⟩, g := { s.g with next := s.g.next + secsN (recS xs) } }) := by
    unfold apS
    rw [if_neg (by rw [ha]; simp), hfl, hg]
  have hlen : (applied (s.u.append s.g (recS xs)).2.1.L (s.u.append s.g (recS xs)).2.1.P).length = 600 := by
    have := flush_L (s.u.append s.g (recS xs)).2.1
    rw [hfl] at this
    exact this.trans (by rw [append_L, h.len])
  have hc : comS s xs = (0, { s with u := ⟨applied (s.u.append s.g (recS xs)).2.1.L (s.u.append s.g (recS xs)).2.1.P, [], true, -1⟩, g := { s.g with next := s.g.next + secsN (recS xs) }, l := appS s.l xs }) := by
    unfold comS
    rw [if_neg (by rw [h.br]; decide), he]
    simp only
    rw [if_neg (by simp), if_neg hcap, hmr]
    simp only
    rw [if_neg (by simp), hap]
    simp
  rw [hc]
  refine ⟨rfl, ⟨⟨rfl, rfl⟩, rfl, h.br, hlen, h.fit, h.cnt, ?_⟩, rfl⟩
  show 48 * (s.g.next + secsN (recS xs)) ≤ _
  have := h.nx
  omega
theorem com_l {s : Sd} {xs : List Ch} : (comS s xs).1 ≠ 0 → (comS s xs).2.l = s.l := by
  unfold comS
  split
  · intro _; rfl
  · split
    · intro _; rfl
    · split
      · intro _; rfl
      · split
        · intro _; exact mrS_l _ _
        · simp only
          split
          · intro _; show (apS _ _).2.l = _; rw [apS_l]; exact mrS_l _ _
          · intro h; exact absurd rfl h
theorem com_ok {s : Sd} {xs : List Ch} (h : (comS s xs).1 = 0) : (encS xs).1 = 0 ∧ (comS s xs).2.l = appS s.l xs := by
  unfold comS at h ⊢
  split at h
  · simp at h
  · rename_i h1
    rw [if_neg h1]
    split at h
    · rename_i h2; exact absurd h h2
    · rename_i h2
      rw [if_neg h2]
      refine ⟨Decidable.not_not.1 h2, ?_⟩
      split at h
      · simp at h
      · rename_i h3
        rw [if_neg h3]
        split at h
        · rename_i h4; exact absurd h h4
        · rename_i h4
          rw [if_neg h4]
          simp only at h ⊢
          split at h
          · rename_i h5; exact absurd h h5
          · rename_i h5
            rw [if_neg h5]
            show appS (apS _ _).2.l xs = _
            rw [apS_l, mrS_l]
def p0 : Int × U × Option Sd := openS (U.new 600)
theorem ep0 : isS p0 = true := by decide +kernel
theorem ep1 : ((sd p0).u.up = true ∧ (sd p0).u.left = -1) ∧ (sd p0).u.P.length = 0 ∧ (sd p0).br = false ∧ (sd p0).u.L.length = 600 ∧ (sd p0).g.first + (sd p0).g.count ≤ 600 ∧ (sd p0).g.count = 301 ∧ (sd p0).g.next = 1 ∧ (sd p0).l.length = 0 := by decide +kernel
theorem pi0 : PI (sd p0) 0 := ⟨⟨ep1.1.1, ep1.1.2⟩, List.eq_nil_of_length_eq_zero ep1.2.1, ep1.2.2.1, ep1.2.2.2.1, ep1.2.2.2.2.1, ep1.2.2.2.2.2.1, by rw [ep1.2.2.2.2.2.2.1]; decide⟩
theorem pl0 : (sd p0).l = [] := List.eq_nil_of_length_eq_zero ep1.2.2.2.2.2.2.2
end Go.Proofs.YtejbanlhgnlliaaGreat.ST

namespace Go.Proofs.YtejbanlhgnlliaaGreat.ST
set_option maxRecDepth 100000
open Go.RowKit K L

theorem sub_E {w w' : World} {E : Nat → Prop} {v : Value} {xs : List Ch} (h : ChIn w E v xs) (f : Fr No w w') : ChIn w' E v xs := h.fr f (fun _ _ _ e => e)
theorem img_app (l : TR.L) (xs : List Ch) : (imgN (appS l xs) : Int) ≤ imgN l + ((recS xs).length : Int) := by
  induction xs generalizing l with
  | nil => simp [appS, recS]
  | cons x r ih =>
    have h1 := ih (appC l x)
    have h2 := grow_img l x
    have h3 := grow_le l x
    have h4 : (recS (x :: r)).length = x.bytes.length + (recS r).length := by show (x.bytes ++ recS r).length = _; rw [List.length_append]
    show ((imgN (appS (appC l x) r) : Nat) : Int) ≤ _
    rw [h4]
    push_cast
    omega
theorem recS_take (xs : List Ch) (j : Nat) : (recS (xs.take j)).length ≤ (recS xs).length := by
  have h : recS xs = recS (xs.take j) ++ recS (xs.drop j) := by
    unfold recS
    rw [← List.flatten_append, ← List.map_append, List.take_append_drop]
  rw [h, List.length_append]
  omega
theorem recS_one (x : Ch) : recS [x] = x.bytes := by simp [recS]
section
variable {w : World}
set_option maxHeartbeats 32000000 in
theorem storeParts_walk (a : Option Addr) (c : Nat) (xs : List Ch) (hx : ChIn w (fun k => k < w.heap.size) (.slice a xs.length c) xs) (hc : xs.length ≤ c) (hsz : ∀ x ∈ xs, x.key.size ≤ 140737488351232 ∧ x.value.size ≤ 140737488351232) (hlen : xs.length ≤ 140737488351232) :
    Calls Tryz.prog 6 #[.slice a xs.length c] w fun e w' => e = .returned (.bool true) ∧ Fr No w w' := by
  obtain ⟨ic, hic, hzc, hsc, hbc⟩ := Go.info_parts infozCh
  have IC := hid hic; have ZC := hid hzc; have SC := hid hsc
  have HX := hid hx; have HCC := hid hc; have HSZ := hid hsz; have HLEN := hid hlen
  have hli : (xs.length : Int) ≤ 140737488351232 := by omega
  clear hic hzc hsc hbc hx hc hsz hlen
  go_enter Tryz.func6, Tryz.ntmps6
  go_wp2_with fail
  refine (awake_any w).mono ?_
  rintro e w1 ⟨rfl, f1⟩
  have HF1 := hid f1
  clear f1
  go_wp2_with fail
  refine (dnew_any 600 w1 (by decide) (by decide)).mono ?_
  rintro e w2 ⟨bd, Z, rfl, hd, hz, f2⟩
  have HD2 := hid hd; have HZ2 := hid (fun k (hk : Z k) => show w.heap.size ≤ k by have := hz k hk; have := HF1.out.size; omega); have HF2 := hid (HF1.out.trans' f2)
  clear hd hz f2 HF1
  go_wp2_with fail
  refine (dnew_any 600 w2 (by decide) (by decide)).mono ?_
  rintro e w3 ⟨be, Y, rfl, hd, hy, f3⟩
  have HE3 := hid hd; have HY3 := hid hy; have HF3 := hid (HF2.out.trans' f3)
  have HD3 := hid (D.Rep.no HD2.out f3)
  have HZY := hid (fun k (hk : Z k) => show ¬ Y k from fun e => by have := hy k e; have := HD2.out.lt k hk; omega)
  have HY3W := hid (fun k (hk : Y k) => show w.heap.size ≤ k by have := hy k hk; have := HF2.out.size; omega)
  clear hd hy f3 HF2 HD2
  go_wp2_with fail
  refine (open_any w HD3.out (by decide) HF3.out HZ2.out).mono ?_
  intro e w4 ho
  rw [show openS (U.new 600) = (0, p0.2.1, some (sd p0)) from is_sd ep0] at ho
  obtain ⟨b, O, rfl, hS, hF, hG⟩ := ho
  have HS4 := hid hS
  have HE4 := hid (D.Rep.fr HE3.out hF (fun k hk e => HZY.out k e hk))
  have HF4 := hid (HF3.out.trans hF (fun k hk => .inr (HZ2.out k hk)))
  have HOY := hid (fun k (hk : O k) => show ¬ Y k from fun e => (hG k hk).elim (fun h => HZY.out k h e) (fun hge => by have := HE3.out.lt k e; omega))
  clear hS hF hG HD3 HE3 HF3 HZY HZ2
  go_wp2_with fail
  refine (open_any w HE4.out (by decide) HF4.out HY3W.out).mono ?_
  intro e w5 ho
  rw [show openS (U.new 600) = (0, p0.2.1, some (sd p0)) from is_sd ep0] at ho
  obtain ⟨b', Q, rfl, hS, hF, hG⟩ := ho
  have HT5 := hid hS
  have HS5 := hid (HS4.out.fr hF (fun k hk => HOY.out k hk) HY3W.out)
  have HF5 := hid (HF4.out.trans hF (fun k hk => .inr (HY3W.out k hk)))
  have HOQ := hid (fun k (hk : O k) => show ¬ Q k from fun e => (hG k e).elim (fun h => HOY.out k hk h) (fun hge => by have := (HS4.out.ow k hk).2; omega))
  clear hS hF hG HE4 HF4 HOY HS4 HY3W
  go_wp2_with fail
  refine (commit_any _ xs (fun k => k < w.heap.size) HS5.out (sub_E HX.out HF5.out) ⟨_, _, rfl, HCC.out⟩ (fun k hk => ⟨fun e => by have := (HS5.out.ow k e).1; omega, Nat.lt_of_lt_of_le hk HF5.out.size⟩) HSZ.out HLEN.out (by rw [pi0.p]; decide) (by rw [pl0]; decide) (by rw [pl0]; decide)).mono ?_
  rintro e w6 ⟨rfl, O6, hS, hF, hG⟩
  obtain ⟨p, hp⟩ : ∃ p, comS (sd p0) xs = p := ⟨_, rfl⟩
  have hbad : p.1 ≠ 0 → p.2.l = [] := fun h => by rw [← hp] at h ⊢; rw [com_l h, pl0]
  have hgood : p.1 = 0 → (encS xs).1 = 0 ∧ p.2.l = appS [] xs := fun h => by
    rw [← hp] at h ⊢
    have := com_ok h
    rwa [pl0] at this
  rw [hp] at hS ⊢
  obtain ⟨c6, s6⟩ := p
  simp only at hS hbad hgood ⊢
  have HS6 := hid hS
  have HT6 := hid (HT5.out.fr hF (fun k hk e => HOQ.out k e hk) (fun k hk => (HS5.out.ow k hk).1))
  have HF6 := hid (frN HF5.out HS5.out hF)
  have HOQ6 := hid (fun k (hk : O6 k) => show ¬ Q k from fun e => (hG k hk).elim (fun h => HOQ.out k h e) (fun hge => by have := (HT5.out.ow k e).2; omega))
  clear hS hF hG hp HS5 HT5 HF5 HOQ
  by_cases hc6 : c6 = 0
  · obtain ⟨hen, hl6⟩ := hgood hc6
    obtain ⟨hm, h32, -, h2k⟩ := encS_ok hen
    have HL6 := hid hl6
    have HM := hid hm; have H32 := hid h32; have H2K := hid h2k
    have h32i : (xs.length : Int) ≤ 32 := by omega
    subst hc6
    clear hbad hgood hen hl6 hm h32 h2k hli
    go_wp2_with fail
    go_loopw [13] (fun iv wr => ∃ (j m : Nat) (Oj : Nat → Prop) (sj : Sd), j ≤ xs.length ∧ iv = .int .i64 (j : Int) ∧ Hid (Sto w wr b' be Oj sj) ∧ Hid (PI sj m) ∧ Hid (m ≤ (recS (xs.take j)).length + 48 * j) ∧ Hid (sj.l = appS [] (xs.take j)) ∧ Hid (Sto w wr b bd O6 s6) ∧ Hid (∀ k, O6 k → ¬ Oj k) ∧ Hid (Fr No w wr)) (fun iv _ => xs.length - (intOf iv).toNat)
    case atStart => exact ⟨0, 0, Q, sd p0, Nat.zero_le _, rfl, HT6, hid pi0, hid (Nat.zero_le _), hid pl0, HS6, HOQ6, HF6⟩
    case round =>
      obtain ⟨j, m, Oj, sj, hj, rfl, HTj, HPj, HMj, HLj, HSj, HOj, HFj⟩ := hrel
      by_cases hlt : j < xs.length
      · have hlt' : (j : Int) < (xs.length : Int) := by omega
        obtain ⟨x, hx⟩ : ∃ x, xs[j]? = some x := ⟨_, List.getElem?_eq_getElem hlt⟩
        have htk : xs.take (j + 1) = xs.take j ++ [x] := by rw [List.take_add_one, hx]; rfl
        have HTK := hid htk
        have HMX : Hid (x.may = true) := hid (List.all_eq_true.1 HM.out x (List.mem_of_getElem? hx))
        obtain ⟨g, q, rfl, HGR⟩ : ∃ g q, a = some ⟨g, q, none⟩ ∧ Hid (wr.rangeAt g (q + j * 3) [.string x.key, .string x.value, .bool x.gone]) := by
          obtain ⟨a', c', e0, hX⟩ := HX.out
          simp only [Value.slice.injEq] at e0
          obtain ⟨rfl, -, rfl⟩ := e0
          rcases hX with e | ⟨g, q, e, he, _, hr⟩
          · rw [e] at hlt; simp at hlt
          · exact ⟨g, q, e, hid (range_ch (HFj.out.range hr id) hx)⟩
        have hjb : (j : Int) ≤ 32 := by omega
        clear hx htk hlt hj
        go_wp2_with (first
          | ((with_reducible show wpList _ _ _ ({ dst := _, op := .load 55 _, type := _, pos := _, after := _, guard := _ } :: _) _ _); refine wpL_load rfl _ _ rfl g (q + j * 3) rfl [.string x.key, .string x.value, .bool x.gone] _ HGR.out rfl rfl infoCh ?_)
          | ((with_reducible show wpList _ _ _ ({ dst := _, op := .buildSlice 22 _ _, type := _, pos := _, after := _, guard := _ } :: _) _ _); refine wpL_buildOne rfl _ 55 _ rfl ic _ rfl IC.out ZC.out (by rw [SC.out]; decide) (by rw [SC.out]; decide) x.agg x.cells rfl rfl (by rw [SC.out]; rfl) ?_; intro w7 HB7 F7 HS7)
          | fail)
        have HB7' : Hid (Blk w7 wr.heap.size 55 (chs [x])) := hid (by have h := HB7.out; simpa [chs] using h)
        have hms := may_sizes HMX.out
        have HRT := hid (recS_take xs j)
        have HRS : Hid ((recS (xs.take (j + 1))).length = (recS (xs.take j)).length + x.bytes.length) := hid (by rw [HTK.out, recS_snoc, List.length_append])
        have HRT2 := hid (recS_take xs (j + 1))
        have hbl := bytes_length x
        have hig : (imgN sj.l : Int) ≤ (recS (xs.take j)).length := by
          have := img_app [] (xs.take j)
          rw [← HLj.out] at this
          simpa [imgN] using this
        have hgl := grow_le sj.l x
        have hsl : sj.l.length ≤ 100000 := by
          have := appS_len [] (xs.take j)
          rw [← HLj.out] at this
          simp only [List.length_take, List.length_nil] at this
          have := H32.out
          omega
        have hcom := com1 (s := sj) (m := m) (xs := [x]) HPj.out (by simp [HMX.out]) (by simp) (by rw [recS_one]; omega) (by
          show imgN sj.l + growS sj.l x ≤ 9536
          have := HRT.out; have := H2K.out; omega) (by have := HMj.out; have := HRT.out; have := H2K.out; omega)
        refine (commit_any _ [x] (fun k => k = wr.heap.size) (HTj.out.no F7.out) (chin_new (xs := [x]) HB7'.out 1 rfl) ⟨_, _, rfl, Nat.le_refl _⟩ (fun k hk => ⟨outsS HTj.out (by have e' : k = wr.heap.size := hk; omega), by have e' : k = wr.heap.size := hk; have := HB7.out.lt; omega⟩) (by intro y hy; simp at hy; subst hy; omega) (by simp) (by rw [HPj.out.p]; decide) (by have := HRT.out; have := H2K.out; omega) hsl).mono ?_
        intro e w8 hst
        obtain ⟨rfl, O8, hS, hF, hG⟩ := stp_at hst hcom.1
        have HT8 := hid hS
        have HP8 := hid hcom.2.1; have HL8 := hid hcom.2.2
        have HS8 := hid ((HSj.out.no F7.out).fr hF (fun k hk e => HOj.out k hk e) (fun k hk => (HTj.out.ow k hk).1))
        have HO8 := hid (fun k (hk : O6 k) => show ¬ O8 k from fun e => (hG k e).elim (fun h => HOj.out k hk h) (fun hge => by have := (HSj.out.ow k hk).2; have := F7.out.size; omega))
        have HF8 := hid (frN (HFj.out.trans' F7.out) (HTj.out.no F7.out) hF)
        clear hst hS hF hG hcom hsl hgl hig hbl hms
        go_wp2_with fail
        refine ⟨⟨j + 1, _, O8, _, by omega, by go_num, HT8, HP8, hid (by rw [recS_one]; have := HRS.out; have := HMj.out; omega), hid (by rw [HL8.out, HLj.out, HTK.out, appS_snoc]; rfl), HS8, HO8, HF8⟩, by simp only [intOf]; omega⟩
      · have hge : ¬ (j : Int) < (xs.length : Int) := by omega
        have hjx : xs.take j = xs := List.take_of_length_le (by omega)
        have HLx : Hid (sj.l = appS [] xs) := hid (by rw [HLj.out, hjx])
        have HBN : Hid ((appS [] xs).length ≤ 32) := hid (by have := appS_len [] xs; simp only [List.length_nil] at this; have := H32.out; omega)
        clear hlt hj hjx
        go_wp2_with fail
        refine (all_any HSj.out (by rw [HL6.out]; have := HBN.out; omega)).mono ?_
        rintro e w7 ⟨pv, rfl, hpv, f7⟩
        rw [HL6.out] at hpv
        have HV7 := hid hpv
        have HF7 := hid f7
        obtain ⟨pa, pc, rfl, -⟩ := hpv
        clear f7
        go_wp2_with fail
        refine (all_any (HTj.out.no HF7.out) (by rw [HLx.out]; have := HBN.out; omega)).mono ?_
        rintro e w8 ⟨qv, rfl, hqv, f8⟩
        rw [HLx.out] at hqv
        have HQ8 := hid hqv.pr
        have HV8 := hid (HV7.out.pr.no f8)
        have HF8 := hid f8
        obtain ⟨qa, qc, rfl, -⟩ := hqv
        clear f8
        go_wp2_with fail
        refine (TR.same_any w8 _ _ _ _ HV8.out HQ8.out (by have := HBN.out; omega) (by have := HBN.out; omega)).mono ?_
        rintro e w9 ⟨rfl, f9⟩
        rw [show decide (appS [] xs = appS [] xs) = true from decide_eq_true rfl]
        have HF9 := hid (((HFj.out.trans' HF7.out).trans' HF8.out).trans' f9)
        clear f9
        go_wp2_with fail
        go_ret
        exact ⟨rfl, HF9.out⟩
  · have HL6 := hid (hbad hc6)
    clear hgood hbad
    go_wp2_with fail
    refine (all_any HS6.out (by rw [HL6.out]; decide)).mono ?_
    rintro e w7 ⟨pv, rfl, hpv, f7⟩
    rw [HL6.out] at hpv
    obtain ⟨pa, pc, rfl, -⟩ := hpv
    have HF7 := hid (HF6.out.trans' f7)
    clear f7
    go_wp2_with fail
    go_ret
    exact ⟨rfl, HF7.out⟩
theorem storeParts_arg (w : World) (v : Value) (xs : List Ch) (h : ChArg w v xs) : Calls Tryz.prog 6 #[v] w fun e w' => e = .returned (.bool true) ∧ Fr No w w' := by
  obtain ⟨a, c, rfl, h1, h2, h3, h4⟩ := h
  exact storeParts_walk a c xs h4 h1 h3 h2
end
end Go.Proofs.YtejbanlhgnlliaaGreat.ST
