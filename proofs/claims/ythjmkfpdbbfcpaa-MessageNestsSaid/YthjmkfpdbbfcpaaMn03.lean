/-
  Part 3 of the proof: BeK, BeT, BeS, BeV, BeE.
-/
import Derived.Test.YthjmkfpdbbfcpaaMn02
set_option linter.unusedSimpArgs false
set_option linter.unusedVariables false
namespace Go.Proofs.Ythjmkfpdbbfcpaa.BE
set_option maxRecDepth 100000
open Go.RowKit K

/-- It holds, and nothing but new blocks came; or it fails. -/
def Holds (b : Bool) (c : Nat) (w : World) (e : Ending) (w' : World) : Prop := Fr No w w' ∧ ((b = true ∧ e = .returned (.tuple #[])) ∨ (b = false ∧ e = .panicked [fl c]))
theorem box_kid (c : List Value) (h : c.length = 3) : ∃ x y z, c = [x, y, z] := by
  match c, h with
  | [x, y, z], _ => exact ⟨x, y, z, rfl⟩
theorem all_take {p : Nd → Bool} {l : List Nd} {i : Nat} {x : Nd} (hx : l[i]? = some x) (h : (l.take i).all p = true) (hp : p x = true) : (l.take (i + 1)).all p = true := by
  rw [List.take_add_one, hx]
  simp [h, hp]
theorem all_not {p : Nd → Bool} {l : List Nd} {i : Nat} {x : Nd} (hx : l[i]? = some x) (hp : p x = false) : l.all p = false := by
  rw [List.all_eq_false]
  exact ⟨x, List.mem_of_getElem? hx, by simp [hp]⟩
set_option maxHeartbeats 4000000 in
theorem checkDepth_any : ∀ (m M N : Nat) (n : Nd) (cs : List Value) (w : World), m ≤ 8 → NdAt M (Lo N) w n cs → N ≤ w.heap.size → Calls Try.prog 67 #[.agg cs.toArray, .int .i64 ((9 - m : Nat) : Int)] w (Holds (deep m n) 91 w) := by
  intro m
  induction m with
  | zero =>
    intro M N n cs w _ hn hN
    obtain ⟨x, y, z, hcs⟩ := box_kid cs hn.len
    subst hcs
    go_enter Try.func67, Try.ntmps67
    go_wp2_with (first
      | ((with_reducible refine K.atO (.box 44 _) ?_); refine wpL_box rfl _ _ rfl _ rfl [x, y, z] rfl ?_; intro w1 HB1 F1 HS1)
      | ((with_reducible refine K.atO (.box 3 _) ?_); refine wpL_box rfl _ _ rfl _ rfl [.int .i64 9] rfl ?_; intro w2 HB2 F2 HS2; have c2 : w2.cell? ⟨w1.heap.size, 0, none⟩ = some (.int .i64 9) := HB2.out.cell 0))
    refine (must_any false 91 w2).mono ?_
    rintro e w3 ⟨rfl, h⟩
    rcases h with ⟨h, _⟩ | ⟨_, rfl⟩
    · cases h
    exact ⟨rfl, F1.out.trans' F2.out, .inr ⟨rfl, rfl⟩⟩
  | succ m ih =>
    intro M N n cs w hm hn hN
    obtain ⟨x, y, z, hcs⟩ := box_kid cs hn.len
    subst hcs
    obtain ⟨M, rfl⟩ : ∃ k, M = k + 1 := by
      cases M with
      | zero => exact hn.elim
      | succ k => exact ⟨k, rfl⟩
    have HN := hid hn; have HIH := hid ih; have HNN := hid hN; have HM := hid hm
    have hd : ((9 - (m + 1) : Nat) : Int) = 8 - m := by omega
    have hd8 : (8 - (m : Int)) ≤ 8 := by omega
    have hd0 : 0 ≤ (8 - (m : Int)) := by omega
    rw [hd]
    clear hn ih hN hd hm
    generalize hq : 8 - (m : Int) = q at *
    have HQ := hid hq
    clear hq
    have hmf : ∀ (fn : Fn) (first cap : Array Value) (w : World), (Instr.makeFunc fn first cap).run Try.prog w = .ok (.func fn first cap) w := fun _ _ _ _ => rfl
    go_enter Try.func67, Try.ntmps67
    go_wp2_with (first
      | ((with_reducible refine K.atO (.box 44 _) ?_); refine wpL_box rfl _ _ rfl _ rfl [x, y, z] rfl ?_; intro w1 HB1 F1 HS1)
      | ((with_reducible refine K.atO (.box 3 _) ?_); refine wpL_box rfl _ _ rfl _ rfl [.int .i64 q] rfl ?_; intro w2 HB2 F2 HS2; have c2 : w2.cell? ⟨w1.heap.size, 0, none⟩ = some (.int .i64 q) := HB2.out.cell 0))
    refine (must_any true 91 w2).mono ?_
    rintro e w3 ⟨rfl, h⟩
    rcases h with ⟨_, rfl⟩ | ⟨h, _⟩
    · have HB1' := hid (HB1.out.fr F2.out id)
      go_wp2_with (first
        | ((with_reducible refine K.atO (.load 44 _) ?_); refine wpL_load rfl _ _ rfl w.heap.size 0 rfl [x, y, z] _ (HB1'.out.range 0 _ rfl) rfl rfl infoN ?_))
      have hf2 : Fr No w w3 := F1.out.trans' F2.out
      have HF2 := hid hf2
      refine (children_any M N n [x, y, z] 88 [.pointer (some ⟨w1.heap.size, 0, none⟩)] (fun i w' => Fr No w3 w' ∧ (n.kids.take i).all (deep m) = true) (fun c w' => c = 91 ∧ n.kids.all (deep m) = false ∧ Fr No w3 w') w3 (HN.out.no hf2) (Nat.le_trans HNN.out hf2.size) (fun vs w => by kernel_rfl) ⟨Fr.refl _ _, rfl⟩ (fun i a b h hf => ⟨h.1.trans' hf, h.2⟩) ?_).mono ?_
      · intro i k c wv hx hk hi hs
        have hcv : wv.cell? ⟨w1.heap.size, 0, none⟩ = some (.int .i64 q) := hi.1.cell c2 id
        have HI := hid hi; have HX := hid hx; have HK := hid hk; have HS := hid (show N ≤ wv.heap.size by have := HNN.out; have := hf2.size; omega)
        obtain ⟨x', y', z', hc⟩ := box_kid c hk.len
        subst hc
        have hq1 : q + 1 = ((9 - m : Nat) : Int) := by have := HQ.out; have := HM.out; omega
        have HQ1 := hid hq1
        clear hi hx hk hs hf2 c2 hq1
        show Calls Try.prog _ #[.agg #[x', y', z'], .pointer (some ⟨w1.heap.size, 0, none⟩)] wv _
        go_enter Try.func88, Try.ntmps88
        go_wp2_with (first
          | ((with_reducible refine K.atO (.box 44 _) ?_); refine wpL_box rfl _ _ rfl _ rfl [x', y', z'] rfl ?_; intro v1 HB3 F3 HS3; have c3 : v1.cell? ⟨w1.heap.size, 0, none⟩ = some (.int .i64 q) := F3.out.cell hcv id)
          | ((with_reducible refine K.atO (.load 44 _) ?_); refine wpL_load rfl _ _ rfl wv.heap.size 0 rfl [x', y', z'] _ (HB3.out.range 0 _ rfl) rfl rfl infoN ?_))
        rw [HQ1.out]
        refine (HIH.out M N k [x', y', z'] v1 (by have := HM.out; omega) (HK.out.no F3.out) (Nat.le_trans HS.out F3.out.size)).mono ?_
        rintro e v2 ⟨fv, hv⟩
        have ff : Fr No wv v2 := F3.out.trans' fv
        rcases hv with ⟨hd, rfl⟩ | ⟨hd, rfl⟩
        · go_wp2_with fail
          go_end0
          exact ⟨ff.no, .inl ⟨rfl, HI.out.1.trans' ff, all_take HX.out HI.out.2 hd⟩⟩
        · exact ⟨rfl, ff.no, .inr ⟨_, rfl, rfl, all_not HX.out hd, HI.out.1.trans' ff⟩⟩
      · rintro e v hv
        rcases hv with ⟨rfl, hf, ha⟩ | ⟨c, rfl, rfl, ha, hf⟩
        · go_wp2_with fail
          go_end0
          rw [List.take_length] at ha
          exact ⟨HF2.out.trans' hf, .inl ⟨ha, rfl⟩⟩
        · exact ⟨rfl, HF2.out.trans' hf, .inr ⟨ha, rfl⟩⟩
    · cases h
end Go.Proofs.Ythjmkfpdbbfcpaa.BE

namespace Go.Proofs.Ythjmkfpdbbfcpaa.BE
set_option maxRecDepth 100000
open Go.RowKit K

theorem sb_empty (l : B) : (sb l).toList.isEmpty = l.isEmpty := by rw [ByteArray.toList_eq, sb_list]
theorem deep_succ {m : Nat} {n : Nd} (h : deep m n = true) : ∃ k, m = k + 1 := by
  cases m with
  | zero => cases h
  | succ k => exact ⟨k, rfl⟩
theorem deep_kid {m : Nat} {n : Nd} (h : deep (m + 1) n = true) {i : Nat} {x : Nd} (hx : n.kids[i]? = some x) : deep m x = true := by
  simp only [deep, List.all_eq_true] at h
  exact h x (List.mem_of_getElem? hx)
theorem NdAt.succ {M : Nat} {S : Nat → Prop} {w : World} {n : Nd} {cs : List Value} (h : NdAt M S w n cs) : ∃ k, M = k + 1 := by
  cases M with
  | zero => exact h.elim
  | succ k => exact ⟨k, rfl⟩
set_option maxHeartbeats 4000000 in
theorem checkTags_any : ∀ (m M N : Nat) (n : Nd) (cs : List Value) (w : World), deep m n = true → NdAt M (Lo N) w n cs → N ≤ w.heap.size → Calls Try.prog 68 #[.agg cs.toArray] w (Holds (shaped m n) 90 w) := by
  intro m
  induction m with
  | zero => intro M N n cs w h; cases h
  | succ m ih =>
    intro M N n cs w hd hn hN
    obtain ⟨a, sc, hcs, htg, hbl, hkl⟩ := hn.head
    obtain ⟨M, rfl⟩ := hn.succ
    have HN := hid hn; have HIH := hid ih; have HNN := hid hN; have HD := hid hd; have HTG := hid htg
    obtain ⟨tg, htge⟩ : ∃ tg, n.tag = tg := ⟨_, rfl⟩
    obtain ⟨bd, hbde⟩ : ∃ bd, n.body = bd := ⟨_, rfl⟩
    obtain ⟨kl, hkle⟩ : ∃ kl, n.kids.length = kl := ⟨_, rfl⟩
    have HT := hid htge; have HB := hid hbde; have HK := hid hkle
    have HSH : Hid (shaped (m + 1) n = (tagB tg && (if conB tg then bd.isEmpty else decide (kl = 0)) && n.kids.all (shaped m))) := hid (by
      have e : n.kids.isEmpty = decide (kl = 0) := by rw [← hkle]; cases n.kids <;> simp
      rw [← htge, ← hbde, ← e]; rfl)
    rw [htge, hbde, hkle] at hcs
    rw [hkle] at hkl
    subst hcs
    have hse := sb_empty bd
    clear hn ih hN hd htg hbl htge hbde hkle
    go_enter Try.func68, Try.ntmps68
    go_wp2_with (first
      | ((with_reducible refine K.atO (.box 44 _) ?_); refine wpL_box rfl _ _ rfl _ rfl [.int .i64 tg, .string (sb bd), .slice a kl sc] rfl ?_; intro w1 HB1 F1 HS1; have c0 : w1.cell? ⟨w.heap.size, 0, none⟩ = some (.int .i64 tg) := HB1.out.cell 0; have c1 : w1.cell? ⟨w.heap.size, 1, none⟩ = some (.string (sb bd)) := HB1.out.cell 1; have c2 : w1.cell? ⟨w.heap.size, 2, none⟩ = some (.slice a kl sc) := HB1.out.cell 2))
    refine (isTag_any tg w1).mono ?_
    rintro e w2 ⟨rfl, rfl⟩
    go_wp2_with fail
    refine (must_any (tagB tg) 90 w2).mono ?_
    rintro e w3 ⟨rfl, ⟨ht, rfl⟩ | ⟨ht, rfl⟩⟩
    · have HTB := hid ht
      clear ht
      go_wp2_with fail
      refine (isCon_any tg HTB.out w3).mono ?_
      rintro e w4 ⟨rfl, rfl⟩
      cases hc : conB tg with
      | true =>
        have HC := hid hc
        clear hc
        go_wp2_with fail
        refine (must_any bd.isEmpty 90 w4).mono ?_
        rintro e w5 ⟨rfl, ⟨hb, rfl⟩ | ⟨hb, rfl⟩⟩
        · have HSB : Hid (bd.isEmpty = true) := hid (by simpa using hb)
          clear hb
          go_wp2_with (first
            | ((with_reducible refine K.atO (.load 44 _) ?_); refine wpL_load rfl _ _ rfl w.heap.size 0 rfl [.int .i64 tg, .string (sb bd), .slice a kl sc] _ (HB1.out.range 0 _ rfl) rfl rfl infoN ?_))
          refine (children_any M N n [.int .i64 tg, .string (sb bd), .slice a kl sc] 68 [] (fun i w' => Fr No w5 w' ∧ (n.kids.take i).all (shaped m) = true) (fun c w' => c = 90 ∧ n.kids.all (shaped m) = false ∧ Fr No w5 w') w5 (HN.out.no F1.out) (Nat.le_trans HNN.out F1.out.size) (fun vs w => by kernel_rfl) ⟨Fr.refl _ _, rfl⟩ (fun i a b h hf => ⟨h.1.trans' hf, h.2⟩) ?_).mono ?_
          · intro i k c wv hx hk hi hs
            refine (HIH.out M N k c wv (deep_kid HD.out hx) hk (by have := HNN.out; have := F1.out.size; omega)).mono ?_
            rintro e v2 ⟨ff, hv⟩
            rcases hv with ⟨hd, rfl⟩ | ⟨hd, rfl⟩
            · exact ⟨ff.no, .inl ⟨rfl, hi.1.trans' ff, all_take hx hi.2 hd⟩⟩
            · exact ⟨ff.no, .inr ⟨_, rfl, rfl, all_not hx hd, hi.1.trans' ff⟩⟩
          · rintro e v hv
            rcases hv with ⟨rfl, hf, ha⟩ | ⟨c, rfl, rfl, ha, hf⟩
            · go_wp2_with fail
              go_end0
              rw [List.take_length] at ha
              exact ⟨F1.out.trans' hf, .inl ⟨by rw [HSH.out, HTB.out, HC.out, ha]; simpa using HSB.out, rfl⟩⟩
            · exact ⟨rfl, F1.out.trans' hf, .inr ⟨by rw [HSH.out, ha]; simp, rfl⟩⟩
        · have hsb : (bd.isEmpty) = false := by simpa using hb
          exact ⟨rfl, F1.out, .inr ⟨by rw [HSH.out, HC.out]; simp at hsb; simp [hsb], rfl⟩⟩
      | false =>
        have HC := hid hc
        clear hc
        go_wp2_with fail
        refine (must_any ((kl : Int) == 0) 90 w4).mono ?_
        rintro e w5 ⟨rfl, ⟨hb, rfl⟩ | ⟨hb, rfl⟩⟩
        · have HSB : Hid (decide (kl = 0) = true) := hid (by simpa using hb)
          clear hb
          go_wp2_with (first
            | ((with_reducible refine K.atO (.load 44 _) ?_); refine wpL_load rfl _ _ rfl w.heap.size 0 rfl [.int .i64 tg, .string (sb bd), .slice a kl sc] _ (HB1.out.range 0 _ rfl) rfl rfl infoN ?_))
          refine (children_any M N n [.int .i64 tg, .string (sb bd), .slice a kl sc] 68 [] (fun i w' => Fr No w5 w' ∧ (n.kids.take i).all (shaped m) = true) (fun c w' => c = 90 ∧ n.kids.all (shaped m) = false ∧ Fr No w5 w') w5 (HN.out.no F1.out) (Nat.le_trans HNN.out F1.out.size) (fun vs w => by kernel_rfl) ⟨Fr.refl _ _, rfl⟩ (fun i a b h hf => ⟨h.1.trans' hf, h.2⟩) ?_).mono ?_
          · intro i k c wv hx hk hi hs
            refine (HIH.out M N k c wv (deep_kid HD.out hx) hk (by have := HNN.out; have := F1.out.size; omega)).mono ?_
            rintro e v2 ⟨ff, hv⟩
            rcases hv with ⟨hd, rfl⟩ | ⟨hd, rfl⟩
            · exact ⟨ff.no, .inl ⟨rfl, hi.1.trans' ff, all_take hx hi.2 hd⟩⟩
            · exact ⟨ff.no, .inr ⟨_, rfl, rfl, all_not hx hd, hi.1.trans' ff⟩⟩
          · rintro e v hv
            rcases hv with ⟨rfl, hf, ha⟩ | ⟨c, rfl, rfl, ha, hf⟩
            · go_wp2_with fail
              go_end0
              rw [List.take_length] at ha
              exact ⟨F1.out.trans' hf, .inl ⟨by rw [HSH.out, HTB.out, HC.out, ha]; simpa using HSB.out, rfl⟩⟩
            · exact ⟨rfl, F1.out.trans' hf, .inr ⟨by rw [HSH.out, ha]; simp, rfl⟩⟩
        · have hsb : (decide (kl = 0)) = false := by simpa using hb
          exact ⟨rfl, F1.out, .inr ⟨by rw [HSH.out, HC.out]; simp at hsb; simp [hsb], rfl⟩⟩
    · exact ⟨rfl, F1.out, .inr ⟨by rw [HSH.out, ht]; rfl, rfl⟩⟩
end Go.Proofs.Ythjmkfpdbbfcpaa.BE

namespace Go.Proofs.Ythjmkfpdbbfcpaa.BE
set_option maxRecDepth 100000
open Go.RowKit K

def clen : Nat → Nd → Nat
  | 0, _ => 0
  | m + 1, n => (cont m n).length
theorem enc_clen {m : Nat} {n : Nd} (h : deep m n = true) : (enc m n).length = 1 + (lenB (clen m n)).length + clen m n := by
  obtain ⟨k, rfl⟩ := deep_succ h
  exact enc_len k n
/-- The bytes of some. -/
def flen (m : Nat) (l : List Nd) : Nat := (l.map (enc m)).flatten.length
theorem flen_step (m : Nat) {l : List Nd} {i : Nat} {x : Nd} (hx : l[i]? = some x) : flen m (l.take (i + 1)) = flen m (l.take i) + (enc m x).length := by
  unfold flen
  rw [List.take_add_one, hx]
  simp
theorem clen_fits {m : Nat} {n : Nd} (h : deep m n = true) (hf : fits m n = true) : clen m n ≤ 4000 := by
  obtain ⟨k, rfl⟩ := deep_succ h
  simp only [fits, Bool.and_eq_true, decide_eq_true_eq] at hf
  exact hf.2
/-- What contentBytes leaves. -/
def Counts (m : Nat) (n : Nd) (w : World) (e : Ending) (w' : World) : Prop := Fr No w w' ∧ ((fits m n = true ∧ e = .returned (.int .i64 (clen m n))) ∨ (fits m n = false ∧ e = .panicked [fl 2]))
theorem zeroI : ∀ w, (zeroValue 3).run Try.prog w = .ok (.int .i64 0) w := fun _ => by kernel_rfl
theorem infoI : (Try.prog.info? 3).map (·.size) = some 1 := by kernel_rfl
theorem exec_addI {op : Oper} {a : Act} (x y : Operand) (u : TypeId) (ho : op.op = .binOp .add 3 x y u) (p q : Int) (hx : a.eval x = .int .i64 p) (hy : a.eval y = .int .i64 q) (hl : -9223372036854775808 ≤ p + q) (hh : p + q ≤ 9223372036854775807) (w : World) :
    (execOp a.eval op).run Try.prog w = .ok (.value (.int .i64 (p + q))) w := by
  unfold execOp
  simp only [ho, hx, hy]
  simp [go_sem, eqGuard, Result.andThen]
  rw [IntKind.wrap_i64]
  omega
set_option maxHeartbeats 4000000 in
/-- The visitor. -/
theorem cb1_any (m M N : Nat) (b : Nat) (s : Nat) (x : Nd) (c : List Value) (w : World) (hd : deep m x = true) (hx : NdAt M (Lo N) w x c) (hN : N ≤ w.heap.size) (hs : s ≤ 1000000000000000000) (hB : Blk w b 3 [.int .i64 (s : Int)])
    (ih : ∀ (M N : Nat) (n : Nd) (cs : List Value) (w : World), deep m n = true → NdAt M (Lo N) w n cs → N ≤ w.heap.size → Calls Try.prog 42 #[.agg cs.toArray] w (Counts m n w)) :
    Calls Try.prog 69 #[.agg c.toArray, .pointer (some ⟨b, 0, none⟩)] w fun e w' => Fr (fun k => k = b) w w' ∧
      ((fits m x = true ∧ e = .returned (.tuple #[]) ∧ Blk w' b 3 [.int .i64 ((s + (enc m x).length : Nat) : Int)]) ∨ (fits m x = false ∧ e = .panicked [fl 2])) := by
  obtain ⟨x', y', z', hc⟩ := box_kid c hx.len
  subst hc
  have hblt := hB.lt
  have HX := hid hx; have HN := hid hN; have HS := hid hs; have HB := hid hB; have HIH := hid ih; have HD := hid hd; have HBL := hid hblt
  clear hx hN hs hB ih hd hblt
  go_enter Try.func69, Try.ntmps69
  go_wp2_with (first
    | ((with_reducible refine K.atO (.box 44 _) ?_); refine wpL_box rfl _ _ rfl _ rfl [x', y', z'] rfl ?_; intro w1 HB1 F1 HS1)
    | ((with_reducible refine K.atO (.load 44 _) ?_); refine wpL_load rfl _ _ rfl w.heap.size 0 rfl [x', y', z'] _ (HB1.out.range 0 _ rfl) rfl rfl infoN ?_))
  refine (HIH.out M N x [x', y', z'] w1 HD.out (HX.out.no F1.out) (Nat.le_trans HN.out F1.out.size)).mono ?_
  rintro e w2 ⟨f2, ⟨hf, rfl⟩ | ⟨hf, rfl⟩⟩
  · have hcl := clen_fits HD.out hf
    have hec := enc_clen HD.out
    have hlp := len_pos (clen m x)
    have HF2 := hid f2; have HFI := hid hf; have HEC := hid hec
    have hf12 := F1.out.trans' f2
    have c2 : w2.cell? ⟨b, 0, none⟩ = some (.int .i64 (s : Int)) := (HB.out.fr hf12 id).cell 0
    obtain ⟨cl, hcle⟩ : ∃ cl, clen m x = cl := ⟨_, rfl⟩
    rw [hcle] at hcl hlp ⊢
    obtain ⟨ll, hlle⟩ : ∃ ll, (lenB cl).length = ll := ⟨_, rfl⟩
    rw [hlle] at hlp
    have HLL := hid hlle
    have HCL := hid hcle
    clear f2 hf hec hlle hcle
    go_wp2_with fail
    have hold : Facts.hold [(0, fun w' => w'.cell? ⟨b, 0, none⟩ = some (.int .i64 (s : Int)))] w2.drew := Facts.cons_hold c2 (Facts.nil_hold _)
    refine wpD_region hold (by kernel_rfl) 9 rfl ?_
    (refine wpD_take 0 _ rfl (by kernel_rfl) (by kernel_rfl) (by kernel_rfl) (fun _ _ _ h => h) List.mem_cons_self (by rfl) (v := ?_) ?_ (by assumption) ?_; rotate_left; (intro _w _hw; go_simp; try with_reducible rfl); simp only [Act.put, K.put3])
    (refine wpD_plain 1 (v := ?_) rfl (by kernel_rfl) (by kernel_rfl) (by kernel_rfl) (fun _ _ _ h => h) (by rfl) ?_ (by assumption) ?_; rotate_left; (intro _w; go_simp; try with_reducible rfl); simp only [Act.put, K.put3])
    (refine wpD_plain 5 (v := ?_) rfl (by kernel_rfl) (by kernel_rfl) (by kernel_rfl) (fun _ _ _ h => h) (by rfl) ?_ (by assumption) ?_; rotate_left; (intro _w; go_simp; try with_reducible rfl); simp only [Act.put, K.put3])
    clear hold
    refine wpD_only 2 [(0, fun w' => w'.cell? ⟨b, 0, none⟩ = some (.int .i64 (s : Int)))] rfl (by kernel_rfl) (by kernel_rfl) (by rfl) (fun K2 hK2 => ?_)
    refine wp_call (.func 41) _ _ rfl 41 [] rfl (fun vs w => by kernel_rfl) [.int .i64 cl] (by rfl) ?_
    refine (length_any cl (by omega) w2.drew).mono ?_
    rintro e w3 ⟨rfl, f3⟩
    have f3' : Fr No w2 w3 := (Fr.refl No w2).drew.trans' f3
    have hold : Facts.hold [(0, fun w' => w'.cell? ⟨b, 0, none⟩ = some (.int .i64 (s : Int)))] w3 := Facts.cons_hold (f3'.cell c2 id) (Facts.nil_hold _)
    refine ⟨_, rfl, hK2 _ _ hold ?_⟩
    simp only [Act.put, K.put3]
    have hlli : (ll : Int) ≤ 3 := by omega
    have hcli : (cl : Int) ≤ 4000 := by omega
    have hsi : (s : Int) ≤ 1000000000000000000 := by have := HS.out; omega
    (refine wpD_plain 3 (v := (.int .i64 (ll : Int))) rfl (by kernel_rfl) (by kernel_rfl) (by kernel_rfl) (fun _ _ _ h => h) (by rfl) ?_ (by assumption) ?_; (intro _w; go_simp; rw [sb_size, HLL.out]); simp only [Act.put, K.put3])
    (refine wpD_plain 4 (v := (.int .i64 (1 + (ll : Int)))) rfl (by kernel_rfl) (by kernel_rfl) (by kernel_rfl) (fun _ _ _ h => h) (by rfl) ?_ (by assumption) ?_; (intro _w; exact exec_addI _ _ _ rfl 1 (ll : Int) rfl rfl (by omega) (by omega) _w); simp only [Act.put, K.put3])
    (refine wpD_plain 6 (v := (.int .i64 (1 + (ll : Int) + (cl : Int)))) rfl (by kernel_rfl) (by kernel_rfl) (by kernel_rfl) (fun _ _ _ h => h) (by rfl) ?_ (by assumption) ?_; (intro _w; exact exec_addI _ _ _ rfl (1 + (ll : Int)) (cl : Int) rfl rfl (by omega) (by omega) _w); simp only [Act.put, K.put3])
    (refine wpD_plain 7 (v := (.int .i64 ((s : Int) + (1 + (ll : Int) + (cl : Int))))) rfl (by kernel_rfl) (by kernel_rfl) (by kernel_rfl) (fun _ _ _ h => h) (by rfl) ?_ (by assumption) ?_; (intro _w; exact exec_addI _ _ _ rfl (s : Int) (1 + (ll : Int) + (cl : Int)) rfl rfl (by omega) (by omega) _w); simp only [Act.put, K.put3])
    clear hold
    refine wpD_only 8 [] rfl (by kernel_rfl) (by kernel_rfl) (by rfl) (fun K8 hK8 => ?_)
    have hB3 : Blk w3 b 3 [.int .i64 (s : Int)] := (HB.out.fr hf12 id).fr f3' id
    refine wp_storeV _ _ _ rfl b 0 (.int .i64 ((s : Int) + (1 + (ll : Int) + (cl : Int)))) [.int .i64 ((s : Int) + (1 + (ll : Int) + (cl : Int)))] rfl rfl rfl _ _ hB3 (by simp) infoI (by intro u hu; simp at hu; rcases hu with rfl; rfl) ?_
    intro w4 HB4 F4 HS4
    refine hK8 _ _ (Facts.nil_hold _) ?_
    refine wpD_done (by kernel_rfl) ?_ _
    go_end0
    refine ⟨(Fr.no (hf12.trans' f3')).trans' F4.out, .inl ⟨HFI.out, rfl, ?_⟩⟩
    have h := HB4.out
    have e : ((s + (enc m x).length : Nat) : Int) = (s : Int) + (1 + (ll : Int) + (cl : Int)) := by rw [HEC.out, HCL.out, HLL.out]; omega
    rw [e]
    simpa [spl] using h
  · exact ⟨rfl, (F1.out.trans' f2).no, .inr ⟨hf, rfl⟩⟩
theorem clen_succ (m : Nat) (n : Nd) : clen (m + 1) n = n.body.length + flen m n.kids := by
  show (cont m n).length = _
  unfold cont flen
  rw [List.length_append]
theorem fits_succ (m : Nat) (n : Nd) : fits (m + 1) n = (n.kids.all (fits m) && decide (clen (m + 1) n ≤ 4000)) := rfl
theorem fin_len {m : Nat} {x : Nd} (hd : deep m x = true) (hf : fits m x = true) : (enc m x).length ≤ 4004 := by
  have := enc_clen hd
  have := clen_fits hd hf
  have := len_pos (clen m x)
  omega
set_option maxHeartbeats 4000000 in
theorem cb_any : ∀ (m M N : Nat) (n : Nd) (cs : List Value) (w : World), deep m n = true → NdAt M (Lo N) w n cs → N ≤ w.heap.size → Calls Try.prog 42 #[.agg cs.toArray] w (Counts m n w) := by
  intro m
  induction m with
  | zero => intro M N n cs w h; cases h
  | succ m ih =>
    intro M N n cs w hd hn hN
    obtain ⟨a, sc, hcs, htg, hbl, hkl⟩ := hn.head
    obtain ⟨M, rfl⟩ := hn.succ
    have HN := hid hn; have HIH := hid ih; have HNN := hid hN; have HD := hid hd
    obtain ⟨tg, htge⟩ : ∃ tg, n.tag = tg := ⟨_, rfl⟩
    obtain ⟨kl, hkle⟩ : ∃ kl, n.kids.length = kl := ⟨_, rfl⟩
    obtain ⟨bl, hble⟩ : ∃ bl, n.body.length = bl := ⟨_, rfl⟩
    obtain ⟨bs, hbse⟩ : ∃ bs, sb n.body = bs := ⟨_, rfl⟩
    have hbsz : (bs.size : Int) = bl := by rw [← hbse, sb_size, hble]
    have HK := hid hkle; have HBLE := hid hble
    rw [htge, hkle, hbse] at hcs
    rw [hkle] at hkl
    rw [hble] at hbl
    subst hcs
    have HKL := hid hkl
    clear hn ih hN hd htg htge hkle hble hbse hkl
    have hmf : ∀ (fn : Fn) (first cap : Array Value) (w : World), (Instr.makeFunc fn first cap).run Try.prog w = .ok (.func fn first cap) w := fun _ _ _ _ => rfl
    have hbli : (bl : Int) ≤ 140737488351232 := by omega
    go_enter Try.func42, Try.ntmps42
    go_wp2_with (first
      | ((with_reducible refine K.atO (.box 44 _) ?_); refine wpL_box rfl _ _ rfl _ rfl [.int .i64 tg, .string bs, .slice a kl sc] rfl ?_; intro w1 HB1 F1 HS1; have c1 : w1.cell? ⟨w.heap.size, 1, none⟩ = some (.string bs) := HB1.out.cell 1)
      | ((with_reducible refine K.atO (.alloc 3) ?_); refine wpL_alloc rfl _ rfl _ zeroI [.int .i64 0] rfl ?_; intro w2 HB2 F2 HS2)
      | ((with_reducible refine K.atO (.store 3 _ _) ?_); refine wpL_setV rfl _ _ _ rfl w1.heap.size 0 (.int .i64 (bl : Int)) rfl (by rw [← hbsz]; rfl) rfl rfl _ _ HB2.out (by simp) infoI ?_; intro w3 HB3 F3 HS3;
          have hf13 : Fr No w1 w3 := F2.out.trans F3.out (fun i e => .inr (by have e : i = w1.heap.size := e; omega));
          have HF13 : Hid (Fr No w1 w3) := hid hf13; have HB1' : Hid (Blk w3 w.heap.size 44 [.int .i64 tg, .string bs, .slice a kl sc]) := hid (HB1.out.fr hf13 id); clear hf13)
      | ((with_reducible refine K.atO (.load 44 _) ?_); refine wpL_load rfl _ _ rfl w.heap.size 0 rfl [.int .i64 tg, .string bs, .slice a kl sc] _ (HB1'.out.range 0 _ rfl) rfl rfl infoN ?_))
    have hf3 : Fr No w w3 := F1.out.trans' HF13.out
    have HF3 := hid hf3
    have hb1 : w1.heap.size < w3.heap.size := by have := HS2.out; have := HS3.out; omega
    have HB1L := hid hb1
    have hbN : N ≤ w1.heap.size := Nat.le_trans HNN.out F1.out.size
    have HBN := hid hbN
    refine (children_any M N n [.int .i64 tg, .string bs, .slice a kl sc] 69 [.pointer (some ⟨w1.heap.size, 0, none⟩)]
      (fun i w' => Blk w' w1.heap.size 3 [.int .i64 ((bl + flen m (n.kids.take i) : Nat) : Int)] ∧ Fr (fun k => k = w1.heap.size) w3 w' ∧ (n.kids.take i).all (fits m) = true ∧ flen m (n.kids.take i) ≤ i * 4004)
      (fun c w' => c = 2 ∧ n.kids.all (fits m) = false ∧ Fr (fun k => k = w1.heap.size) w3 w') w3 (HN.out.no hf3) (Nat.le_trans HNN.out hf3.size) (fun vs w => by kernel_rfl)
      ⟨by simpa [flen] using HB3.out, Fr.refl _ _, rfl, by simp [flen]⟩ (fun i a b h hf => ⟨h.1.fr hf id, h.2.1.trans' hf.no, h.2.2.1, h.2.2.2⟩) ?_).mono ?_
    · intro i k c wv hx hk hi hs
      have hik : i < kl := by rw [← HK.out]; exact (List.getElem?_eq_some_iff.1 hx).1
      have hkd := deep_kid HD.out hx
      refine (cb1_any m M N w1.heap.size _ k c wv hkd hk (by omega) (by have := hi.2.2.2; have := HKL.out; omega) hi.1 HIH.out).mono ?_
      rintro e v2 ⟨ff, hv⟩
      have hmay : Fr (May N w3.heap.size) wv v2 := ff.mono (fun j hj => by subst hj; exact ⟨hbN, by omega⟩)
      rcases hv with ⟨hfk, rfl, hB⟩ | ⟨hfk, rfl⟩
      · refine ⟨hmay, .inl ⟨rfl, ?_, hi.2.1.trans' ff, all_take hx hi.2.2.1 hfk, ?_⟩⟩
        · rw [flen_step m hx, ← Nat.add_assoc]; exact hB
        · rw [flen_step m hx]; have := fin_len hkd hfk; have := hi.2.2.2; omega
      · exact ⟨hmay, .inr ⟨_, rfl, rfl, all_not hx hfk, hi.2.1.trans' ff⟩⟩
    · rintro e v hv
      rcases hv with ⟨rfl, hB, hf, ha, hl⟩ | ⟨c, rfl, rfl, ha, hf⟩
      · rw [List.take_length] at hB ha hl
        have hcl : clen (m + 1) n = bl + flen m n.kids := by rw [clen_succ, HBLE.out]
        rw [← hcl] at hB
        have hmx : clen (m + 1) n ≤ 1000000000000000000 := by have := HKL.out; have := HK.out; rw [hcl]; omega
        obtain ⟨cl, hcle⟩ : ∃ cl, clen (m + 1) n = cl := ⟨_, rfl⟩
        rw [hcle] at hB hmx
        have hmxi : (cl : Int) ≤ 1000000000000000000 := by omega
        have c9 : v.cell? ⟨w1.heap.size, 0, none⟩ = some (.int .i64 (cl : Int)) := hB.cell 0
        have HCL := hid hcle; have HA := hid ha
        have hfin : Fr No w v := hf3.trans hf (fun i e => .inr (by have e : i = w1.heap.size := e; have := F1.out.size; omega))
        have HFIN := hid hfin
        clear hcl hcle ha hl hf hB hf3 hfin hb1 hbN hmx
        go_wp2_with fail
        refine (must_any _ 2 v).mono ?_
        rintro e v3 ⟨rfl, ⟨hb, rfl⟩ | ⟨hb, rfl⟩⟩
        · have hb' : cl ≤ 4000 := by simp at hb; omega
          clear hb
          go_wp2_with fail
          go_ret
          refine ⟨HFIN.out, .inl ⟨?_, by rw [HCL.out]; rfl⟩⟩
          rw [fits_succ, HA.out, HCL.out]; simpa using hb'
        · have hb' : ¬ cl ≤ 4000 := by simp at hb; omega
          refine ⟨rfl, HFIN.out, .inr ⟨?_, rfl⟩⟩
          rw [fits_succ, HCL.out]; simp; omega
      · have hfin : Fr No w v := hf3.trans hf (fun i e => .inr (by have e : i = w1.heap.size := e; have := F1.out.size; omega))
        exact ⟨rfl, hfin, .inr ⟨by rw [fits_succ, ha]; rfl, rfl⟩⟩
end Go.Proofs.Ythjmkfpdbbfcpaa.BE

namespace Go.Proofs.Ythjmkfpdbbfcpaa.BE
set_option maxRecDepth 100000
open Go.RowKit K

theorem infozB : (Try.prog.info? 5).map (fun i => (i.zero, i.size, i.bytes)) = some (some (.int .u8 0), 1, 1) := by kernel_rfl
theorem infoSl : (Try.prog.info? 58).map (·.size) = some 1 := by kernel_rfl
/-- A row of bytes that lies in no block below base. -/
def Row (base : Nat) (w : World) (v : Value) (l : B) : Prop := w.ownsRow base 5 1 v l.length (u8s l)
/-- What write leaves: l ahead of it, its own bytes behind. -/
def Wrote (base : Nat) (v : Value) (l : B) (w : World) (e : Ending) (w' : World) : Prop :=
  ∃ v', e = .returned v' ∧ Row base w' v' l ∧ Fr (fun k => v.ownBlock = some k) w w' ∧ ∀ g, v'.ownBlock = some g → v.ownBlock = some g ∨ w.heap.size ≤ g
theorem u8_tag {t : Int} (h : tagB t = true) : (Value.int .u8 (t % 256)) = .int .u8 ((UInt8.ofNat t.toNat).toNat : Int) := by
  rw [tag_back h]
  simp [tagB] at h
  congr 1
  omega
/-- The variables of a write: the row so far, the element. -/
structure WS (base : Nat) (w : World) (v : Value) (bb nb : Nat) (cs : List Value) (vc : Value) (l : B) (wx : World) : Prop where
  b : Blk wx bb 58 [vc]
  n : Blk wx nb 44 cs
  r : wx.ownsRow base 5 1 vc l.length (u8s l)
  f : Fr (fun k => v.ownBlock = some k) w wx
  o : ∀ g, vc.ownBlock = some g → v.ownBlock = some g ∨ w.heap.size ≤ g
  e : ∀ g, vc.ownBlock = some g → g ≠ bb ∧ g ≠ nb
  hb : w.heap.size ≤ bb
  hn : w.heap.size ≤ nb
  ne : bb ≠ nb
theorem WS.no {base : Nat} {w : World} {v : Value} {bb nb : Nat} {cs : List Value} {vc : Value} {l : B} {wx wy : World} (h : WS base w v bb nb cs vc l wx) (f : Fr No wx wy) : WS base w v bb nb cs vc l wy :=
  ⟨h.b.fr f id, h.n.fr f id, own_fr h.r f (fun _ _ e => e), h.f.trans' f.no, h.o, h.e, h.hb, h.hn, h.ne⟩
theorem WS.app {base : Nat} {w : World} {v : Value} {bb nb : Nat} {cs : List Value} {vc : Value} {l : B} {wx wy wz : World} (h : WS base w v bb nb cs vc l wx) {v' : Value} {l' : B} (f : Fr (fun k => vc.ownBlock = some k) wx wy)
    (hr : wy.ownsRow base 5 1 v' l'.length (u8s l')) (ho : ∀ g, v'.ownBlock = some g → vc.ownBlock = some g ∨ wx.heap.size ≤ g) (hB : Blk wz bb 58 [v']) (f2 : Fr (fun k => k = bb) wy wz) : WS base w v bb nb cs v' l' wz := by
  have hbl := h.b.lt
  have hnl := h.n.lt
  have hne : ∀ g, v'.ownBlock = some g → g ≠ bb ∧ g ≠ nb := fun g hg => by
    rcases ho g hg with hg | hg
    · exact h.e g hg
    · exact ⟨by omega, by omega⟩
  refine ⟨hB, (h.n.fr f (fun e => (h.e nb e).2 rfl)).fr f2 (fun e => h.ne e.symm), own_fr hr f2 (fun k hk e => (hne k hk).1 e), (h.f.trans f (fun k hk => h.o k hk)).trans f2 (fun k hk => .inr (by have e : k = bb := hk; have := h.hb; omega)), fun g hg => ?_, hne, h.hb, h.hn, h.ne⟩
  rcases ho g hg with hg | hg
  · exact h.o g hg
  · exact .inr (Nat.le_trans h.f.size hg)
theorem or_own {v' vc : Value} {n : Nat} (h : v'.ownBlock = vc.ownBlock ∨ v'.ownBlock = some n) : ∀ g, v'.ownBlock = some g → vc.ownBlock = some g ∨ n ≤ g := fun g hg => by
  rcases h with h | h
  · exact .inl (h ▸ hg)
  · rw [h] at hg; cases hg; exact .inr (Nat.le_refl _)
set_option maxHeartbeats 4000000 in
/-- The visitor. -/
theorem write1_any (m M N base : Nat) (w : World) (v : Value) (bb nb : Nat) (cs : List Value) (vc : Value) (l : B) (k : Nd) (c : List Value) (wv : World) (hW : WS base w v bb nb cs vc l wv) (hd : deep m k = true) (hsh : shaped m k = true) (hf : fits m k = true) (hk : NdAt M (Lo N) wv k c) (hNb : N ≤ base) (hbs : base ≤ wv.heap.size) (hlen : l.length + (enc m k).length ≤ 100000)
    (ih : ∀ (M N base : Nat) (n : Nd) (cs : List Value) (v : Value) (l : B) (w : World), deep m n = true → shaped m n = true → fits m n = true → NdAt M (Lo N) w n cs → N ≤ base → base ≤ w.heap.size → Row base w v l → l.length + (enc m n).length ≤ 100000 →
      Calls Try.prog 22 #[v, .agg cs.toArray] w (Wrote base v (l ++ enc m n) w)) :
    Calls Try.prog 44 #[.agg c.toArray, .pointer (some ⟨bb, 0, none⟩)] wv fun e w' => e = .returned (.tuple #[]) ∧ ∃ v', WS base w v bb nb cs v' (l ++ enc m k) w' ∧ Fr (fun j => vc.ownBlock = some j ∨ j = bb) wv w' ∧ ∀ g, v'.ownBlock = some g → vc.ownBlock = some g ∨ wv.heap.size ≤ g := by
  obtain ⟨x', y', z', hc⟩ := box_kid c hk.len
  obtain ⟨a, cp, rfl, -, -⟩ := own_form hW.r
  subst hc
  have HW := hid hW; have HD := hid hd; have HSH := hid hsh; have HF := hid hf; have HK := hid hk; have HNB := hid hNb; have HBS := hid hbs; have HL := hid hlen; have HIH := hid ih
  obtain ⟨ln, hln⟩ : ∃ ln, l.length = ln := ⟨_, rfl⟩
  have HLN := hid hln
  rw [hln] at HW ⊢
  clear hW hd hsh hf hk hNb hbs hlen ih hln
  go_enter Try.func44, Try.ntmps44
  go_wp2_with (first
    | ((with_reducible refine K.atO (.box 44 _) ?_); refine wpL_box rfl _ _ rfl _ rfl [x', y', z'] rfl ?_; intro w1 HB1 F1 HS1; have HW1 := hid (HW.out.no F1.out); have c0 : w1.cell? ⟨bb, 0, none⟩ = some (.slice a ln cp) := HW1.out.b.cell 0)
    | ((with_reducible refine K.atO (.load 44 _) ?_); refine wpL_load rfl _ _ rfl wv.heap.size 0 rfl [x', y', z'] _ (HB1.out.range 0 _ rfl) rfl rfl infoN ?_))
  refine (HIH.out M N base k [x', y', z'] (.slice a ln cp) l w1 HD.out HSH.out HF.out (HK.out.no F1.out) HNB.out (Nat.le_trans HBS.out F1.out.size) HW1.out.r HL.out).mono ?_
  rintro e w2 ⟨v', rfl, hr2, f2, ho2⟩
  obtain ⟨a', cp', rfl, -, -⟩ := own_form hr2
  have HR2 := hid hr2; have HF2 := hid f2; have HO2 := hid ho2
  have HB2 : Hid (Blk w2 bb 58 [.slice a ln cp]) := hid (HW1.out.b.fr f2 (fun e => (HW1.out.e _ e).1 rfl))
  clear hr2 f2 ho2 c0
  obtain ⟨l', hl'⟩ : ∃ l', l ++ enc m k = l' := ⟨_, rfl⟩
  rw [hl'] at HR2 HO2 ⊢
  have HLE := hid hl'
  obtain ⟨ln', hln'⟩ : ∃ ln', l'.length = ln' := ⟨_, rfl⟩
  have HLN' := hid hln'
  rw [hln'] at HR2 HO2 ⊢
  clear hl' hln'
  go_wp2_with ((with_reducible refine K.atO (.store 58 _ _) ?_); refine wpL_setV rfl _ _ _ rfl bb 0 (.slice a' ln' cp') rfl rfl rfl rfl _ _ HB2.out (by simp) infoSl ?_; intro w3 HB3 F3 HS3)
  go_end0
  refine ⟨rfl, _, by rw [HLE.out]; exact HW1.out.app HF2.out (by have h := HR2.out; unfold Row at h; rw [HLN'.out] at h ⊢; exact h) HO2.out HB3.out F3.out, ?_, fun g hg => ?_⟩
  · exact ((Fr.no F1.out).trans' (HF2.out.mono fun j hj => .inl hj)).trans' (F3.out.mono fun j hj => .inr hj)
  · rcases HO2.out g hg with h | h
    · exact .inl h
    · exact .inr (Nat.le_trans F1.out.size h)
set_option maxHeartbeats 8000000 in
theorem write_any : ∀ (m M N base : Nat) (n : Nd) (cs : List Value) (v : Value) (l : B) (w : World), deep m n = true → shaped m n = true → fits m n = true → NdAt M (Lo N) w n cs → N ≤ base → base ≤ w.heap.size → Row base w v l → l.length + (enc m n).length ≤ 100000 →
    Calls Try.prog 22 #[v, .agg cs.toArray] w (Wrote base v (l ++ enc m n) w) := by
  intro m
  induction m with
  | zero => intro M N base n cs v l w h; cases h
  | succ m ih =>
    intro M N base n cs v l w hd hsh hf hn hNb hbs hr hlen
    obtain ⟨a, sc, hcs, htg, hbl, hkl⟩ := hn.head
    obtain ⟨M, rfl⟩ := hn.succ
    obtain ⟨va, vc, rfl, -, -⟩ := own_form hr
    obtain ⟨ic, hic, hzc, hsc, hbc⟩ := Go.info_parts infozB
    have IC := hid hic; have ZC := hid hzc; have SC := hid hsc; have BC := hid hbc
    have HN := hid hn; have HIH := hid ih; have HNB := hid hNb; have HD := hid hd; have HSH := hid hsh; have HF := hid hf; have HR := hid hr; have HL := hid hlen; have HBS := hid hbs
    obtain ⟨tg, htge⟩ : ∃ tg, n.tag = tg := ⟨_, rfl⟩
    obtain ⟨kl, hkle⟩ : ∃ kl, n.kids.length = kl := ⟨_, rfl⟩
    obtain ⟨bs, hbse⟩ : ∃ bs, sb n.body = bs := ⟨_, rfl⟩
    have HK := hid hkle; have HBE := hid hbse; have HTE := hid htge
    have htb : tagB tg = true := by simp only [shaped, Bool.and_eq_true] at hsh; rw [← htge]; exact hsh.1.1
    have HTB := hid htb
    rw [htge, hkle, hbse] at hcs
    subst hcs
    obtain ⟨ln, hln⟩ : ∃ ln, l.length = ln := ⟨_, rfl⟩
    rw [hln]
    have HLN := hid hln
    have HRL : Hid (w.ownsRow base 5 1 (.slice va ln vc) l.length (u8s l)) := hid (by rw [← hln]; exact hr)
    have hlni : ln ≤ 100000 := by omega
    clear hn ih hNb hd hsh hf hr hlen htg htge hkle hbse hkl hbl hic hzc hsc hbc htb hbs hln
    have hmf : ∀ (fn : Fn) (first cap : Array Value) (w : World), (Instr.makeFunc fn first cap).run Try.prog w = .ok (.func fn first cap) w := fun _ _ _ _ => rfl
    have h1s : ∀ u ∈ [Value.int .u8 ((UInt8.ofNat tg.toNat).toNat : Int)], u.oneCell' = true := by intro u hu; simp at hu; rcases hu with rfl; rfl
    have H1S := hid h1s
    clear h1s
    go_enter Try.func22, Try.ntmps22
    go_wp2_with (first
      | ((with_reducible refine K.atO (.box 58 _) ?_); refine wpL_box rfl _ _ rfl _ rfl [.slice va ln vc] rfl ?_; intro w1 HB1 F1 HS1)
      | ((with_reducible refine K.atO (.box 44 _) ?_); refine wpL_box rfl _ _ rfl _ rfl [.int .i64 tg, .string bs, .slice a kl sc] rfl ?_; intro w2 HB2 F2 HS2;
          have hb1 : Blk w2 w.heap.size 58 [.slice va ln vc] := HB1.out.fr F2.out id; have c0 : w2.cell? ⟨w.heap.size, 0, none⟩ = some (.slice va ln vc) := hb1.cell 0; have c1 : w2.cell? ⟨w1.heap.size, 0, none⟩ = some (.int .i64 tg) := HB2.out.cell 0;
          have HW2 : Hid (WS base w (.slice va ln vc) w.heap.size w1.heap.size [.int .i64 tg, .string bs, .slice a kl sc] (.slice va ln vc) l w2) := hid ⟨hb1, HB2.out, (own_fr HRL.out (F1.out.trans' F2.out) (fun _ _ e => e)), (F1.out.trans' F2.out).no, fun g hg => .inl hg, fun g hg => (by have := own_ge HRL.out g hg; have := F1.out.size; omega), Nat.le_refl _, F1.out.size, by have := HS1.out; omega⟩; clear hb1)
      | ((with_reducible refine K.atO (.buildSlice 58 _ _) ?_); refine wpL_buildOne rfl _ 5 _ rfl ic _ rfl IC.out ZC.out (by rw [SC.out]; decide) (by rw [SC.out]; decide) _ [.int .u8 ((UInt8.ofNat tg.toNat).toNat : Int)] (by exact u8_tag HTB.out) rfl (by rw [SC.out]; rfl) ?_; intro w6 HB6 F6 HS6;
                have HW6 : Hid (WS base w (.slice va ln vc) w.heap.size w1.heap.size [.int .i64 tg, .string bs, .slice a kl sc] (.slice va ln vc) l w6) := hid (HW2.out.no F6.out);
                have HO6 : Hid (w6.ownsRow base 5 1 (.slice va ln vc) ln (u8s l)) := hid (by have h := HW6.out.r; rwa [HLN.out] at h))
      | ((with_reducible refine K.atO (.call { callee := .builtin .append, args := _, argTypes := _ }) ?_); refine wpL_append rfl _ _ 58 rfl base 5 ic _ 1 1 rfl IC.out ZC.out SC.out BC.out rfl (by decide) (.slice va ln vc) ln (u8s l) rfl HO6.out (some ⟨w2.heap.size, 0, none⟩) 1 _ [.int .u8 ((UInt8.ofNat tg.toNat).toNat : Int)] rfl rfl (.inr ⟨_, rfl, HB6.out.news⟩) H1S.out (by unfold maxLen; omega) (by omega) (Nat.le_trans HBS.out HW6.out.f.size) ?_; intro a7 c7 w7 HO7 HG7 HA7;
                have HB7 : Hid (Blk w7 w.heap.size 58 [.slice va ln vc]) := hid (HW6.out.b.fr (frown HG7.out) (fun e => (HW6.out.e _ e).1 rfl)))
      | ((with_reducible refine K.atO (.store 58 _ _) ?_); refine wpL_setV rfl _ _ _ rfl w.heap.size 0 (.slice a7 (ln + 1) c7) rfl rfl rfl rfl _ _ HB7.out (by simp) infoSl ?_; intro w8 HB8 F8 HS8;
                have HW8 : Hid (WS base w (.slice va ln vc) w.heap.size w1.heap.size [.int .i64 tg, .string bs, .slice a kl sc] (.slice a7 (ln + 1) c7) (l ++ [UInt8.ofNat tg.toNat]) w8) := hid (HW6.out.app (frown HG7.out) (by have h := HO7.out; simpa [u8s_append, u8s, HLN.out] using h) (or_own HA7.out) HB8.out F8.out)))
    have hfk : clen (m + 1) n ≤ 4000 := clen_fits HD.out HF.out
    have hlp := len_pos (clen (m + 1) n)
    obtain ⟨cl, hcle⟩ : ∃ cl, clen (m + 1) n = cl := ⟨_, rfl⟩
    rw [hcle] at hfk hlp
    have HCL := hid hcle
    obtain ⟨l1, hl1⟩ : ∃ l1, l ++ [UInt8.ofNat tg.toNat] = l1 := ⟨_, rfl⟩
    have hW8 := HW8.out
    rw [hl1] at hW8
    have hll1 : l1.length = ln + 1 := by rw [← hl1, List.length_append, HLN.out]; rfl
    have HL1 := hid hl1; have HLL1 := hid hll1; have HW := hid hW8
    have HFK := hid hfk; have HLP := hid hlp
    have k0 : w8.cell? ⟨w.heap.size, 0, none⟩ = some (.slice a7 (ln + 1) c7) := hW8.b.cell 0
    have k1 : w8.rangeAt w1.heap.size 0 [.int .i64 tg, .string bs, .slice a kl sc] := hW8.n.range 0 _ rfl
    have HB : Hid (base ≤ w8.heap.size) := hid (Nat.le_trans HBS.out hW8.f.size)
    have HN8 : Hid (NdAt (M + 1) (Lo N) w8 n [.int .i64 tg, .string bs, .slice a kl sc]) := hid (NdAt.fr hW8.f (fun k hk hl e => by have h1 : k < N := hk; have := own_low HRL.out k e; have := HNB.out; omega) HN.out)
    clear hcle hl1 hll1 HW8 HB8 F8 HS8 HB7 HO7 HG7 HA7 HO6 HW6 HB6 F6 HS6 HW2 HB2 F2 HS2 HB1 c0 c1 hfk hlp hW8
    go_wp2_with fail
    have hold : Facts.hold [(0, fun w' => w'.cell? ⟨w.heap.size, 0, none⟩ = some (.slice a7 (ln + 1) c7)), (1, fun w' => w'.rangeAt w1.heap.size 0 [.int .i64 tg, .string bs, .slice a kl sc])] w8.drew := Facts.cons_hold k0 (Facts.cons_hold k1 (Facts.nil_hold _))
    refine wpD_region hold (by kernel_rfl) 6 rfl ?_
    (refine wpD_take 0 _ rfl (by kernel_rfl) (by kernel_rfl) (by kernel_rfl) (fun _ _ _ h => h) List.mem_cons_self (by rfl) (v := ?_) ?_ (by assumption) ?_; rotate_left; (intro _w _hw; go_simp; try with_reducible rfl); simp only [Act.put, K.put3])
    (refine wpD_take 1 _ rfl (by kernel_rfl) (by kernel_rfl) (by kernel_rfl) (fun _ _ _ h => h) (List.mem_cons_of_mem _ List.mem_cons_self) (by rfl) (exec_load _ _ rfl w1.heap.size 0 rfl _ _ rfl rfl infoN) (by assumption) ?_; simp only [Act.put, K.put3])
    clear hold
    refine wpD_only 2 [(0, fun w' => w'.cell? ⟨w.heap.size, 0, none⟩ = some (.slice a7 (ln + 1) c7))] rfl (by kernel_rfl) (by kernel_rfl) (by rfl) (fun K2 hK2 => ?_)
    refine wp_call (.func 42) _ _ rfl 42 [] rfl (fun vs w => by kernel_rfl) [.agg #[.int .i64 tg, .string bs, .slice a kl sc]] (by rfl) ?_
    refine (cb_any (m + 1) (M + 1) N n [.int .i64 tg, .string bs, .slice a kl sc] w8.drew HD.out (HN8.out.no (Fr.refl No w8).drew) (Nat.le_trans HNB.out HB.out)).mono ?_
    rintro e w9 ⟨f9, h9⟩
    obtain rfl : e = .returned (.int .i64 (clen (m + 1) n)) := by
      rcases h9 with ⟨_, h⟩ | ⟨hff, _⟩
      · exact h
      · rw [HF.out] at hff; cases hff
    clear h9
    have f89 : Fr No w8 w9 := (Fr.refl No w8).drew.trans' f9
    have hold : Facts.hold [(0, fun w' => w'.cell? ⟨w.heap.size, 0, none⟩ = some (.slice a7 (ln + 1) c7))] w9 := Facts.cons_hold (f89.cell k0 id) (Facts.nil_hold _)
    rw [HCL.out]
    refine ⟨_, rfl, hK2 _ _ hold ?_⟩
    clear hold hK2 K2
    simp only [Act.put, K.put3]
    refine wpD_only 3 [(0, fun w' => w'.cell? ⟨w.heap.size, 0, none⟩ = some (.slice a7 (ln + 1) c7))] rfl (by kernel_rfl) (by kernel_rfl) (by rfl) (fun K3 hK3 => ?_)
    refine wp_call (.func 41) _ _ rfl 41 [] rfl (fun vs w => by kernel_rfl) [.int .i64 cl] (by rfl) ?_
    refine (length_any cl (by have := HFK.out; omega) w9).mono ?_
    rintro e w10 ⟨rfl, f10⟩
    have f8 : Fr No w8 w10 := f89.trans' f10
    have hold : Facts.hold [(0, fun w' => w'.cell? ⟨w.heap.size, 0, none⟩ = some (.slice a7 (ln + 1) c7))] w10 := Facts.cons_hold (f8.cell k0 id) (Facts.nil_hold _)
    refine ⟨_, rfl, hK3 _ _ hold ?_⟩
    clear hold hK3 K3
    simp only [Act.put, K.put3]
    have hW10 := HW.out.no f8
    have hr10 := hW10.r
    rw [HLL1.out] at hr10
    have hsz : (sb (lenB cl)).size = (lenB cl).length := sb_size _
    refine wpD_only 4 [] rfl (by kernel_rfl) (by kernel_rfl) (by rfl) (fun K4 hK4 => ?_)
    refine wp_appendStr _ _ 58 9 rfl base 5 ic Try.underlying58 Try.underlying9 IC.out ZC.out SC.out BC.out (.slice a7 (ln + 1) c7) (ln + 1) (u8s l1) rfl hr10 (sb (lenB cl)) rfl (by unfold maxLen; rw [hsz]; have := HLP.out; omega) (by rw [hsz]; have := HLP.out; omega) (Nat.le_trans HB.out f8.size) ?_
    intro a11 c11 w11 HO11 HG11 HA11
    refine hK4 _ _ (Facts.nil_hold _) ?_
    clear hK4 K4
    simp only [Act.put, K.put3]
    have hB11 : Blk w11 w.heap.size 58 [.slice a7 (ln + 1) c7] := hW10.b.fr (frown HG11.out) (fun e => (hW10.e _ e).1 rfl)
    refine wpD_only 5 [] rfl (by kernel_rfl) (by kernel_rfl) (by rfl) (fun K5 hK5 => ?_)
    refine wp_storeV _ _ _ rfl w.heap.size 0 (.slice a11 (ln + 1 + (sb (lenB cl)).size) c11) [.slice a11 (ln + 1 + (sb (lenB cl)).size) c11] rfl rfl rfl _ _ hB11 (by simp) infoSl (by intro u hu; simp at hu; rcases hu with rfl; rfl) ?_
    intro w12 HB12 F12 HS12
    refine hK5 _ _ (Facts.nil_hold _) ?_
    refine wpD_done (by kernel_rfl) ?_ _
    clear hK5 K5
    have hW12 := hW10.app (frown HG11.out) (l' := l1 ++ lenB cl) (by have h := HO11.out; rw [sb_list, ← u8s_append] at h; rw [List.length_append, HLL1.out, ← hsz]; exact h) (or_own HA11.out) (by simpa [spl] using HB12.out) F12.out
    obtain ⟨p2, hp2⟩ : ∃ p2, ln + 1 + (sb (lenB cl)).size = p2 := ⟨_, rfl⟩
    have hp2l : p2 ≤ ln + 4 := by rw [hsz] at hp2; have := HLP.out; omega
    rw [hp2] at hW12 ⊢
    obtain ⟨l2, hl2⟩ : ∃ l2, l1 ++ lenB cl = l2 := ⟨_, rfl⟩
    rw [hl2] at hW12
    have hll2 : l2.length = p2 := by rw [← hl2, List.length_append, HLL1.out, ← hsz]; exact hp2
    have HL2 := hid hl2; have HLL2 := hid hll2; have HW12 := hid hW12
    have d0 : w12.cell? ⟨w.heap.size, 0, none⟩ = some (.slice a11 p2 c11) := hW12.b.cell 0
    have d1 : w12.cell? ⟨w1.heap.size, 1, none⟩ = some (.string bs) := hW12.n.cell 1
    have HN12 : Hid (NdAt (M + 1) (Lo N) w12 n [.int .i64 tg, .string bs, .slice a kl sc]) := hid (NdAt.fr hW12.f (fun k hk hl e => by have h1 : k < N := hk; have := own_low HRL.out k e; have := HNB.out; omega) HN.out)
    have hbsz : bs.size ≤ 4000 := by
      have h1 := clen_succ m n
      rw [HCL.out] at h1
      have := HFK.out
      rw [← HBE.out, sb_size]; omega
    have HBSZ := hid hbsz
    have HB12' : Hid (base ≤ w12.heap.size) := hid (Nat.le_trans HBS.out hW12.f.size)
    clear hp2 hl2 hll2 hW12 HO11 HG11 HA11 hB11 HB12 F12 HS12 hW10 hr10 k0 k1 hsz f8 f10 f89 f9 hbsz
    go_wp2_with (first
      | ((with_reducible refine K.atO (.call { callee := .builtin .append, args := _, argTypes := _ }) ?_); refine wpL_appendStr rfl _ _ 58 9 rfl base 5 ic Try.underlying58 Try.underlying9 IC.out ZC.out SC.out BC.out (.slice a11 p2 c11) p2 (u8s l2) rfl (by have h := HW12.out.r; rwa [HLL2.out] at h) bs rfl (by unfold maxLen; have := HBSZ.out; omega) (by have := HBSZ.out; omega) HB12'.out ?_; intro a13 c13 w13 HO13 HG13 HA13;
          have HB13 : Hid (Blk w13 w.heap.size 58 [.slice a11 p2 c11]) := hid (HW12.out.b.fr (frown HG13.out) (fun e => (HW12.out.e _ e).1 rfl)))
      | ((with_reducible refine K.atO (.store 58 _ _) ?_); refine wpL_setV rfl _ _ _ rfl w.heap.size 0 (.slice a13 (p2 + bs.size) c13) rfl rfl rfl rfl _ _ HB13.out (by simp) infoSl ?_; intro w14 HB14 F14 HS14;
          have HW14 : Hid (WS base w (.slice va ln vc) w.heap.size w1.heap.size [.int .i64 tg, .string bs, .slice a kl sc] (.slice a13 (p2 + bs.size) c13) (l2 ++ n.body) w14) := hid (HW12.out.app (frown HG13.out) (by have h := HO13.out; rw [← HBE.out, sb_list, ← u8s_append, sb_size] at h; rw [List.length_append, HLL2.out, ← HBE.out, sb_size]; exact h) (or_own HA13.out) HB14.out F14.out))
      | ((with_reducible refine K.atO (.load 44 _) ?_); refine wpL_load rfl _ _ rfl w1.heap.size 0 rfl [.int .i64 tg, .string bs, .slice a kl sc] _ (HW14.out.n.range 0 _ rfl) rfl rfl infoN ?_))
    obtain ⟨l3, hl3⟩ : ∃ l3, l2 ++ n.body = l3 := ⟨_, rfl⟩
    have hW14 := HW14.out
    rw [hl3] at hW14
    have HW := hid hW14
    have HL3 := hid hl3
    obtain ⟨vv, hvv⟩ : ∃ vv, (Value.slice a13 (p2 + bs.size) c13) = vv := ⟨_, rfl⟩
    rw [hvv] at hW14
    have HW' := hid hW14
    have hall : n.kids.all (shaped m) = true ∧ n.kids.all (fits m) = true := by
      have h1 := HSH.out; have h2 := HF.out
      simp only [shaped, Bool.and_eq_true] at h1
      simp only [fits, Bool.and_eq_true] at h2
      exact ⟨h1.2, h2.1⟩
    have HALL := hid hall
    have hbL : w.heap.size < w14.heap.size := hW14.b.lt
    have hbw : base ≤ w.heap.size := HBS.out
    have htot : l ++ enc (m + 1) n = l3 ++ (n.kids.map (enc m)).flatten := by
      have e1 : (cont m n).length = cl := HCL.out
      rw [enc_succ, e1, HTE.out, ← HL3.out, ← HL2.out, ← HL1.out]
      unfold cont
      simp
    have HTOT := hid htot
    have hlt2 : l3.length + flen m n.kids ≤ 100000 := by
      have h := HL.out
      rw [← List.length_append, htot, List.length_append] at h
      exact h
    have HLT2 := hid hlt2
    have HN14 : Hid (NdAt (M + 1) (Lo N) w14 n [.int .i64 tg, .string bs, .slice a kl sc]) := hid (NdAt.fr hW14.f (fun k hk hl e => by have h1 : k < N := hk; have := own_low HRL.out k e; have := HNB.out; omega) HN.out)
    refine (children_any M N n [.int .i64 tg, .string bs, .slice a kl sc] 44 [.pointer (some ⟨w.heap.size, 0, none⟩)]
      (fun i w' => ∃ vc', WS base w (.slice va ln vc) w.heap.size w1.heap.size [.int .i64 tg, .string bs, .slice a kl sc] vc' (l3 ++ ((n.kids.take i).map (enc m)).flatten) w' ∧ (∀ g, vc'.ownBlock = some g → g ≠ w14.heap.size))
      (fun _ _ => False) w14 HN14.out (Nat.le_trans HNB.out (by omega)) (fun vs w => by kernel_rfl)
      ⟨vv, by simpa using hW14, fun g hg => by have := own_ge hW14.r g hg; omega⟩ (fun i a b ⟨v', h, h2⟩ hf => ⟨v', h.no hf, h2⟩) ?_).mono ?_
    · intro i k c wv hx hk hi hs
      obtain ⟨vc', hWv, hne⟩ := hi
      have hkd := deep_kid HD.out hx
      have hks := List.all_eq_true.1 HALL.out.1 k (List.mem_of_getElem? hx)
      have hkf := List.all_eq_true.1 HALL.out.2 k (List.mem_of_getElem? hx)
      have hst := flen_step m hx
      have hle : flen m (n.kids.take (i + 1)) ≤ flen m n.kids := by
        unfold flen
        have e : n.kids = n.kids.take (i + 1) ++ n.kids.drop (i + 1) := (List.take_append_drop _ _).symm
        have h := congrArg (fun l => ((l.map (enc m)).flatten).length) e
        simp only [List.map_append, List.flatten_append, List.length_append] at h
        omega
      refine (write1_any m M N base w _ _ _ _ vc' _ k c wv hWv hkd hks hkf hk HNB.out (Nat.le_trans hbw hWv.f.size) (by
        rw [List.length_append]
        have h1 : ((n.kids.take i).map (enc m)).flatten.length = flen m (n.kids.take i) := rfl
        have := HLT2.out
        omega) HIH.out).mono ?_
      rintro e v2 ⟨rfl, v', hW', hf', ho'⟩
      refine ⟨hf'.mono (fun j hj => ?_), .inl ⟨rfl, v', ?_, fun g hg => ?_⟩⟩
      · rcases hj with hj | hj
        · have := (own_ge hWv.r j hj).1; exact ⟨Nat.le_trans HNB.out this, hne j hj⟩
        · subst hj; exact ⟨Nat.le_trans HNB.out hbw, by omega⟩
      · have e : l3 ++ ((n.kids.take (i + 1)).map (enc m)).flatten = l3 ++ ((n.kids.take i).map (enc m)).flatten ++ enc m k := by
          rw [List.take_add_one, hx]; simp
        rw [e]; exact hW'
      · rcases ho' g hg with h | h
        · exact hne g h
        · omega
    · rintro e v hv
      rcases hv with ⟨rfl, vc', hWv, _⟩ | ⟨c, _, hb⟩
      · rw [List.take_length, ← HTOT.out] at hWv
        have k0 : v.cell? ⟨w.heap.size, 0, none⟩ = some vc' := hWv.b.cell 0
        obtain ⟨a', cp', rfl, -, -⟩ := own_form hWv.r
        obtain ⟨lt, hlt⟩ : ∃ lt, (l ++ enc (m + 1) n).length = lt := ⟨_, rfl⟩
        rw [hlt] at hWv k0
        have HWV := hid hWv
        clear hWv hlt
        go_wp2_with fail
        go_ret
        exact ⟨_, rfl, HWV.out.r, HWV.out.f, HWV.out.o⟩
      · exact hb.elim
end Go.Proofs.Ythjmkfpdbbfcpaa.BE

namespace Go.Proofs.Ythjmkfpdbbfcpaa.BE
set_option maxRecDepth 100000
open Go.RowKit K

/-- What check leaves. -/
def Checks (n : Nd) (w : World) (e : Ending) (w' : World) : Prop := Fr No w w' ∧ ((errN n = 0 ∧ e = .returned (.tuple #[])) ∨ (errN n ≠ 0 ∧ e = .panicked [fl (errN n)]))
set_option maxHeartbeats 2000000 in
theorem check_any (M N : Nat) (n : Nd) (cs : List Value) (w : World) (hn : NdAt M (Lo N) w n cs) (hN : N ≤ w.heap.size) : Calls Try.prog 40 #[.agg cs.toArray] w (Checks n w) := by
  obtain ⟨x, y, z, hcs⟩ := box_kid cs hn.len
  subst hcs
  have HN := hid hn; have HNN := hid hN
  clear hn hN
  go_enter Try.func40, Try.ntmps40
  go_wp2_with (first
    | ((with_reducible refine K.atO (.box 44 _) ?_); refine wpL_box rfl _ _ rfl _ rfl [x, y, z] rfl ?_; intro w1 HB1 F1 HS1)
    | ((with_reducible refine K.atO (.load 44 _) ?_); refine wpL_load rfl _ _ rfl w.heap.size 0 rfl [x, y, z] _ (HB1.out.range 0 _ rfl) rfl rfl infoN ?_))
  refine (checkDepth_any 8 M N n [x, y, z] w1 (Nat.le_refl _) (HN.out.no F1.out) (Nat.le_trans HNN.out F1.out.size)).mono ?_
  rintro e w2 ⟨f2, ⟨hd, rfl⟩ | ⟨hd, rfl⟩⟩
  · have HD := hid hd
    have hf := F1.out.trans' f2
    have HF := hid hf
    have HB2 := hid (HB1.out.fr f2 id)
    clear hd f2 hf
    go_wp2_with ((with_reducible refine K.atO (.load 44 _) ?_); refine wpL_load rfl _ _ rfl w.heap.size 0 rfl [x, y, z] _ (HB2.out.range 0 _ rfl) rfl rfl infoN ?_)
    refine (checkTags_any 8 M N n [x, y, z] w2 HD.out (HN.out.no HF.out) (Nat.le_trans HNN.out HF.out.size)).mono ?_
    rintro e w3 ⟨f3, ⟨hs, rfl⟩ | ⟨hs, rfl⟩⟩
    · have HS := hid hs
      have hf := HF.out.trans' f3
      have HF3 := hid hf
      have HB3 := hid (HB2.out.fr f3 id)
      clear hs f3 hf
      go_wp2_with ((with_reducible refine K.atO (.load 44 _) ?_); refine wpL_load rfl _ _ rfl w.heap.size 0 rfl [x, y, z] _ (HB3.out.range 0 _ rfl) rfl rfl infoN ?_)
      refine (cb_any 8 M N n [x, y, z] w3 HD.out (HN.out.no HF3.out) (Nat.le_trans HNN.out HF3.out.size)).mono ?_
      rintro e w4 ⟨f4, ⟨ht, rfl⟩ | ⟨ht, rfl⟩⟩
      · go_wp2_with fail
        go_end0
        exact ⟨HF3.out.trans' f4, .inl ⟨err_zero.2 ⟨HD.out, HS.out, ht⟩, rfl⟩⟩
      · have he : errN n = 2 := by unfold errN; rw [if_neg (by rw [HD.out]; simp), if_neg (by rw [HS.out]; simp), if_pos ht]
        exact ⟨rfl, HF3.out.trans' f4, .inr ⟨by rw [he]; decide, by rw [he]⟩⟩
    · have he : errN n = 90 := by unfold errN; rw [if_neg (by rw [HD.out]; simp), if_pos hs]
      exact ⟨rfl, HF.out.trans' f3, .inr ⟨by rw [he]; decide, by rw [he]⟩⟩
  · have he : errN n = 91 := by unfold errN; rw [if_pos hd]
    exact ⟨rfl, F1.out.trans' f2, .inr ⟨by rw [he]; decide, by rw [he]⟩⟩
/-- What Right's closure leaves. -/
def RightP (n : Nd) (o : Option Nat) (w w' : World) : Prop := Fr No w w' ∧ o.getD 0 = errN n
set_option maxHeartbeats 2000000 in
theorem right_any (M N : Nat) (n : Nd) (cs : List Value) (w : World) (hn : NdAt M (Lo N) w n cs) (hN : N ≤ w.heap.size) : Calls Try.prog 21 #[.agg cs.toArray] w fun e w' => e = .returned (.int .i64 (errN n)) ∧ Fr No w w' := by
  obtain ⟨x, y, z, hcs⟩ := box_kid cs hn.len
  subst hcs
  have HN := hid hn; have HNN := hid hN
  clear hn hN
  have hmf : ∀ (fn : Fn) (first cap : Array Value) (w : World), (Instr.makeFunc fn first cap).run Try.prog w = .ok (.func fn first cap) w := fun _ _ _ _ => rfl
  go_enter Try.func21, Try.ntmps21
  go_wp2_with ((with_reducible refine K.atO (.box 44 _) ?_); refine wpL_box rfl _ _ rfl _ rfl [x, y, z] rfl ?_; intro w1 HB1 F1 HS1)
  refine (caught_any 39 [.pointer (some ⟨w.heap.size, 0, none⟩)] (RightP n) No w1 id (fun vs w => by kernel_rfl) (fun o a b h => h.1) ?_).mono ?_
  · intro v0 f0 hs0
    have HB0 : Hid (Blk v0 w.heap.size 44 [x, y, z]) := hid (HB1.out.fr f0 id)
    have HF0 := hid f0
    clear f0 hs0
    show Calls Try.prog _ #[.pointer (some ⟨w.heap.size, 0, none⟩)] v0 _
    go_enter Try.func39, Try.ntmps39
    go_wp2_with ((with_reducible refine K.atO (.load 44 _) ?_); refine wpL_load rfl _ _ rfl w.heap.size 0 rfl [x, y, z] _ (HB0.out.range 0 _ rfl) rfl rfl infoN ?_)
    refine (check_any M N n [x, y, z] v0 (HN.out.no (F1.out.trans' HF0.out)) (Nat.le_trans HNN.out (F1.out.trans' HF0.out).size)).mono ?_
    rintro e v1 ⟨f1, ⟨he, rfl⟩ | ⟨he, rfl⟩⟩
    · go_wp2_with fail
      go_end0
      exact .inl ⟨rfl, f1, he.symm⟩
    · exact ⟨rfl, .inr ⟨_, rfl, f1, rfl⟩⟩
  · rintro e w2 ⟨o, a, b, rfl, fa, hs, hp, fb⟩
    have hf : Fr No w w2 := ((F1.out.trans' fa).trans' hp.1).trans fb (fun i e => .inr (by have e : i = w1.heap.size := e; have := F1.out.size; omega))
    rw [hp.2]
    have HF := hid hf
    clear fa hs hp fb hf
    go_wp2_with fail
    go_ret
    exact ⟨rfl, HF.out⟩
set_option maxHeartbeats 2000000 in
theorem encode_any (M N : Nat) (n : Nd) (cs : List Value) (w : World) (hn : NdAt M (Lo N) w n cs) (hN : N ≤ w.heap.size) : Calls Try.prog 12 #[.agg cs.toArray] w fun e w' => e = .returned (.tuple #[.string (sb (encS n)), .int .i64 (errN n)]) ∧ Fr No w w' := by
  obtain ⟨x, y, z, hcs⟩ := box_kid cs hn.len
  subst hcs
  have HN := hid hn; have HNN := hid hN
  clear hn hN
  obtain ⟨es, hes⟩ : ∃ es, encS n = es := ⟨_, rfl⟩
  obtain ⟨er, her⟩ : ∃ er, errN n = er := ⟨_, rfl⟩
  rw [hes, her]
  have HES := hid hes; have HER := hid her
  clear hes her
  go_enter Try.func12, Try.ntmps12
  go_wp2_with (first
    | ((with_reducible refine K.atO (.box 44 _) ?_); refine wpL_box rfl _ _ rfl _ rfl [x, y, z] rfl ?_; intro w1 HB1 F1 HS1)
    | ((with_reducible refine K.atO (.load 44 _) ?_); refine wpL_load rfl _ _ rfl w.heap.size 0 rfl [x, y, z] _ (HB1.out.range 0 _ rfl) rfl rfl infoN ?_))
  refine (right_any M N n [x, y, z] w1 (HN.out.no F1.out) (Nat.le_trans HNN.out F1.out.size)).mono ?_
  rintro e w2 ⟨rfl, f2⟩
  have HF2 := hid (F1.out.trans' f2)
  have HB2 := hid (HB1.out.fr f2 id)
  clear f2
  rw [HER.out]
  by_cases he : er = 0
  · obtain ⟨hd, hs, ht⟩ := err_zero.1 (HER.out.trans he)
    have HD := hid hd; have HS := hid hs; have HT := hid ht
    have HE8 : Hid (es = enc 8 n) := hid (by rw [← HES.out]; unfold encS; rw [if_pos (HER.out.trans he)])
    subst he
    have HL := hid (enc8_len ht)
    clear hd hs ht
    go_wp2_with ((with_reducible refine K.atO (.load 44 _) ?_); refine wpL_load rfl _ _ rfl w.heap.size 0 rfl [x, y, z] _ (HB2.out.range 0 _ rfl) rfl rfl infoN ?_)
    refine (write_any 8 M N w2.heap.size n [x, y, z] (.slice none 0 0) [] w2 HD.out HS.out HT.out (HN.out.no HF2.out) (Nat.le_trans HNN.out HF2.out.size) (Nat.le_refl _) (World.ownsRow_nil _ _ _ _) (by have := HL.out; simp; omega)).mono ?_
    rintro e w3 ⟨v', rfl, hr, f3, ho⟩
    rw [List.nil_append] at hr
    have HBy : Hid (BytesIn w3 (fun k => w2.heap.size ≤ k) v' (enc 8 n)) := hid (own_bytes hr)
    have hfin : Fr No w w3 := HF2.out.trans f3 (fun i e => by cases e)
    have HFIN := hid hfin
    obtain ⟨a', cp', rfl, -, -⟩ := own_form hr
    obtain ⟨lt, hlt⟩ : ∃ lt, (enc 8 n).length = lt := ⟨_, rfl⟩
    rw [hlt] at HBy ⊢
    clear hr f3 ho hfin hlt
    go_wp2_with ((with_reducible refine K.atO (.convert _ 9 _) ?_); refine wpL_stringS rfl _ rfl _ _ _ rfl HBy.out ?_)
    go_ret2
    rw [HE8.out]
    exact ⟨rfl, HFIN.out⟩
  · have HE8 : Hid (es = []) := hid (by rw [← HES.out]; unfold encS; rw [if_neg (fun h => he (HER.out.symm.trans h))])
    have hei : ¬ (er : Int) = 0 := by omega
    clear he
    go_wp2_with fail
    go_ret2
    rw [HE8.out]
    exact ⟨rfl, HF2.out⟩
end Go.Proofs.Ythjmkfpdbbfcpaa.BE
