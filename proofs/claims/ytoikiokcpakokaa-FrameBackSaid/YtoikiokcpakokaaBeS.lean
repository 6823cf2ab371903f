/-
  Package ber: how many bytes the contents have.
-/
import Derived.Test.YtoikiokcpakokaaBeT
set_option linter.unusedVariables false
set_option linter.unusedSimpArgs false
namespace Go.Proofs.Ytoikiokcpakokaa.BE
set_option maxRecDepth 100000
open Go.RowKit K

def clen : Nat → Nd → Nat
  | 0, _ => 0
  | m + 1, n => (cont m n).length
theorem enc_clen {m : Nat} {n : Nd} (h : deep m n = true) : (enc m n).length = 1 + (lenB (clen m n)).length + clen m n := by
  obtain ⟨k, rfl⟩ := deep_succ h
  exact enc_len k n
/-- The bytes of some. -/
def flen (m : Nat) (l : List Nd) : Nat := (l.map (enc m)).flatten.length
theorem flen_step (m : Nat) {l : List Nd} {i : Nat} {x : Nd} (hx : l[i]? = some x) : flen m (l.take (i + 1)) = flen m (l.take i) + (enc m x).length := by
  unfold flen
  rw [List.take_add_one, hx]
  simp
theorem clen_fits {m : Nat} {n : Nd} (h : deep m n = true) (hf : fits m n = true) : clen m n ≤ 4000 := by
  obtain ⟨k, rfl⟩ := deep_succ h
  simp only [fits, Bool.and_eq_true, decide_eq_true_eq] at hf
  exact hf.2
/-- What contentBytes leaves. -/
def Counts (m : Nat) (n : Nd) (w : World) (e : Ending) (w' : World) : Prop := Fr No w w' ∧ ((fits m n = true ∧ e = .returned (.int .i64 (clen m n))) ∨ (fits m n = false ∧ e = .panicked [fl 2]))
theorem zeroI : ∀ w, (zeroValue 3).run Try.prog w = .ok (.int .i64 0) w := fun _ => by kernel_rfl
theorem infoI : (Try.prog.info? 3).map (·.size) = some 1 := by kernel_rfl
theorem exec_addI {op : Oper} {a : Act} (x y : Operand) (u : TypeId) (ho : op.op = .binOp .add 3 x y u) (p q : Int) (hx : a.eval x = .int .i64 p) (hy : a.eval y = .int .i64 q) (hl : -9223372036854775808 ≤ p + q) (hh : p + q ≤ 9223372036854775807) (w : World) :
    (execOp a.eval op).run Try.prog w = .ok (.value (.int .i64 (p + q))) w := by
  unfold execOp
  simp only [ho, hx, hy]
  simp [go_sem, eqGuard, Result.andThen]
  rw [IntKind.wrap_i64]
  omega
set_option maxHeartbeats 4000000 in
/-- The visitor. -/
theorem cb1_any (m M N : Nat) (b : Nat) (s : Nat) (x : Nd) (c : List Value) (w : World) (hd : deep m x = true) (hx : NdAt M (Lo N) w x c) (hN : N ≤ w.heap.size) (hs : s ≤ 1000000000000000000) (hB : Blk w b 3 [.int .i64 (s : Int)])
    (ih : ∀ (M N : Nat) (n : Nd) (cs : List Value) (w : World), deep m n = true → NdAt M (Lo N) w n cs → N ≤ w.heap.size → Calls Try.prog 28 #[.agg cs.toArray] w (Counts m n w)) :
    Calls Try.prog 35 #[.agg c.toArray, .pointer (some ⟨b, 0, none⟩)] w fun e w' => Fr (fun k => k = b) w w' ∧
      ((fits m x = true ∧ e = .returned (.tuple #[]) ∧ Blk w' b 3 [.int .i64 ((s + (enc m x).length : Nat) : Int)]) ∨ (fits m x = false ∧ e = .panicked [fl 2])) := by
  obtain ⟨x', y', z', hc⟩ := box_kid c hx.len
  subst hc
  have hblt := hB.lt
  have HX := hid hx; have HN := hid hN; have HS := hid hs; have HB := hid hB; have HIH := hid ih; have HD := hid hd; have HBL := hid hblt
  clear hx hN hs hB ih hd hblt
  go_enter Try.func35, Try.ntmps35
  go_wp2_with (first
    | ((with_reducible show wpList _ _ _ (⟨_, .box 40 _, _, _, _, _⟩ :: _) _ _); refine wpL_box rfl _ _ rfl _ rfl [x', y', z'] rfl ?_; intro w1 HB1 F1 HS1)
    | ((with_reducible show wpList _ _ _ (⟨_, .load 40 _, _, _, _, _⟩ :: _) _ _); refine wpL_load rfl _ _ rfl w.heap.size 0 rfl [x', y', z'] _ (HB1.out.range 0 _ rfl) rfl rfl infoN ?_))
  refine (HIH.out M N x [x', y', z'] w1 HD.out (HX.out.no F1.out) (Nat.le_trans HN.out F1.out.size)).mono ?_
  rintro e w2 ⟨f2, ⟨hf, rfl⟩ | ⟨hf, rfl⟩⟩
  · have hcl := clen_fits HD.out hf
    have hec := enc_clen HD.out
    have hlp := len_pos (clen m x)
    have HF2 := hid f2; have HFI := hid hf; have HEC := hid hec
    have hf12 := F1.out.trans' f2
    have c2 : w2.cell? ⟨b, 0, none⟩ = some (.int .i64 (s : Int)) := (HB.out.fr hf12 id).cell 0
    obtain ⟨cl, hcle⟩ : ∃ cl, clen m x = cl := ⟨_, rfl⟩
    rw [hcle] at hcl hlp ⊢
    obtain ⟨ll, hlle⟩ : ∃ ll, (lenB cl).length = ll := ⟨_, rfl⟩
    rw [hlle] at hlp
    have HLL := hid hlle
    have HCL := hid hcle
    clear f2 hf hec hlle hcle
    go_wp2_with fail
    have hold : Facts.hold [(0, fun w' => w'.cell? ⟨b, 0, none⟩ = some (.int .i64 (s : Int)))] w2.drew := Facts.cons_hold c2 (Facts.nil_hold _)
    refine wpD_region hold (by kernel_rfl) 9 rfl ?_
    (refine wpD_take 0 _ rfl (by kernel_rfl) (by kernel_rfl) (by kernel_rfl) (fun _ _ _ h => h) List.mem_cons_self (by rfl) (v := ?_) ?_ (by assumption) ?_; rotate_left; (intro _w _hw; go_simp; try with_reducible rfl); simp only [Act.put, List.setIfInBounds_toArray, List.set_cons_zero, List.set_cons_succ])
    (refine wpD_plain 1 (v := ?_) rfl (by kernel_rfl) (by kernel_rfl) (by kernel_rfl) (fun _ _ _ h => h) (by rfl) ?_ (by assumption) ?_; rotate_left; (intro _w; go_simp; try with_reducible rfl); simp only [Act.put, List.setIfInBounds_toArray, List.set_cons_zero, List.set_cons_succ])
    (refine wpD_plain 5 (v := ?_) rfl (by kernel_rfl) (by kernel_rfl) (by kernel_rfl) (fun _ _ _ h => h) (by rfl) ?_ (by assumption) ?_; rotate_left; (intro _w; go_simp; try with_reducible rfl); simp only [Act.put, List.setIfInBounds_toArray, List.set_cons_zero, List.set_cons_succ])
    clear hold
    refine wpD_only 2 [(0, fun w' => w'.cell? ⟨b, 0, none⟩ = some (.int .i64 (s : Int)))] rfl (by kernel_rfl) (by kernel_rfl) (by rfl) (fun K2 hK2 => ?_)
    refine wp_call (.func 27) _ _ rfl 27 [] rfl (fun vs w => by kernel_rfl) [.int .i64 cl] (by rfl) ?_
    refine (length_any cl (by omega) w2.drew).mono ?_
    rintro e w3 ⟨rfl, f3⟩
    have f3' : Fr No w2 w3 := (Fr.refl No w2).drew.trans' f3
    have hold : Facts.hold [(0, fun w' => w'.cell? ⟨b, 0, none⟩ = some (.int .i64 (s : Int)))] w3 := Facts.cons_hold (f3'.cell c2 id) (Facts.nil_hold _)
    refine ⟨_, rfl, hK2 _ _ hold ?_⟩
    simp only [Act.put, List.setIfInBounds_toArray, List.set_cons_zero, List.set_cons_succ]
    have hlli : (ll : Int) ≤ 3 := by omega
    have hcli : (cl : Int) ≤ 4000 := by omega
    have hsi : (s : Int) ≤ 1000000000000000000 := by have := HS.out; omega
    (refine wpD_plain 3 (v := (.int .i64 (ll : Int))) rfl (by kernel_rfl) (by kernel_rfl) (by kernel_rfl) (fun _ _ _ h => h) (by rfl) ?_ (by assumption) ?_; (intro _w; go_simp; rw [sb_size, HLL.out]); simp only [Act.put, List.setIfInBounds_toArray, List.set_cons_zero, List.set_cons_succ])
    (refine wpD_plain 4 (v := (.int .i64 (1 + (ll : Int)))) rfl (by kernel_rfl) (by kernel_rfl) (by kernel_rfl) (fun _ _ _ h => h) (by rfl) ?_ (by assumption) ?_; (intro _w; exact exec_addI _ _ _ rfl 1 (ll : Int) rfl rfl (by omega) (by omega) _w); simp only [Act.put, List.setIfInBounds_toArray, List.set_cons_zero, List.set_cons_succ])
    (refine wpD_plain 6 (v := (.int .i64 (1 + (ll : Int) + (cl : Int)))) rfl (by kernel_rfl) (by kernel_rfl) (by kernel_rfl) (fun _ _ _ h => h) (by rfl) ?_ (by assumption) ?_; (intro _w; exact exec_addI _ _ _ rfl (1 + (ll : Int)) (cl : Int) rfl rfl (by omega) (by omega) _w); simp only [Act.put, List.setIfInBounds_toArray, List.set_cons_zero, List.set_cons_succ])
    (refine wpD_plain 7 (v := (.int .i64 ((s : Int) + (1 + (ll : Int) + (cl : Int))))) rfl (by kernel_rfl) (by kernel_rfl) (by kernel_rfl) (fun _ _ _ h => h) (by rfl) ?_ (by assumption) ?_; (intro _w; exact exec_addI _ _ _ rfl (s : Int) (1 + (ll : Int) + (cl : Int)) rfl rfl (by omega) (by omega) _w); simp only [Act.put, List.setIfInBounds_toArray, List.set_cons_zero, List.set_cons_succ])
    clear hold
    refine wpD_only 8 [] rfl (by kernel_rfl) (by kernel_rfl) (by rfl) (fun K8 hK8 => ?_)
    have hB3 : Blk w3 b 3 [.int .i64 (s : Int)] := (HB.out.fr hf12 id).fr f3' id
    refine wp_storeV _ _ _ rfl b 0 (.int .i64 ((s : Int) + (1 + (ll : Int) + (cl : Int)))) [.int .i64 ((s : Int) + (1 + (ll : Int) + (cl : Int)))] rfl rfl rfl _ _ hB3 (by simp) infoI (by intro u hu; simp at hu; rcases hu with rfl; rfl) ?_
    intro w4 HB4 F4 HS4
    refine hK8 _ _ (Facts.nil_hold _) ?_
    refine wpD_done (by kernel_rfl) ?_ _
    go_end0
    refine ⟨(Fr.no (hf12.trans' f3')).trans' F4.out, .inl ⟨HFI.out, rfl, ?_⟩⟩
    have h := HB4.out
    have e : ((s + (enc m x).length : Nat) : Int) = (s : Int) + (1 + (ll : Int) + (cl : Int)) := by rw [HEC.out, HCL.out, HLL.out]; omega
    rw [e]
    simpa [spl] using h
  · exact ⟨rfl, (F1.out.trans' f2).no, .inr ⟨hf, rfl⟩⟩
theorem clen_succ (m : Nat) (n : Nd) : clen (m + 1) n = n.body.length + flen m n.kids := by
  show (cont m n).length = _
  unfold cont flen
  rw [List.length_append]
theorem fits_succ (m : Nat) (n : Nd) : fits (m + 1) n = (n.kids.all (fits m) && decide (clen (m + 1) n ≤ 4000)) := rfl
theorem fin_len {m : Nat} {x : Nd} (hd : deep m x = true) (hf : fits m x = true) : (enc m x).length ≤ 4004 := by
  have := enc_clen hd
  have := clen_fits hd hf
  have := len_pos (clen m x)
  omega
set_option maxHeartbeats 4000000 in
theorem cb_any : ∀ (m M N : Nat) (n : Nd) (cs : List Value) (w : World), deep m n = true → NdAt M (Lo N) w n cs → N ≤ w.heap.size → Calls Try.prog 28 #[.agg cs.toArray] w (Counts m n w) := by
  intro m
  induction m with
  | zero => intro M N n cs w h; cases h
  | succ m ih =>
    intro M N n cs w hd hn hN
    obtain ⟨a, sc, hcs, htg, hbl, hkl⟩ := hn.head
    obtain ⟨M, rfl⟩ := hn.succ
    have HN := hid hn; have HIH := hid ih; have HNN := hid hN; have HD := hid hd
    obtain ⟨tg, htge⟩ : ∃ tg, n.tag = tg := ⟨_, rfl⟩
    obtain ⟨kl, hkle⟩ : ∃ kl, n.kids.length = kl := ⟨_, rfl⟩
    obtain ⟨bl, hble⟩ : ∃ bl, n.body.length = bl := ⟨_, rfl⟩
    obtain ⟨bs, hbse⟩ : ∃ bs, sb n.body = bs := ⟨_, rfl⟩
    have hbsz : (bs.size : Int) = bl := by rw [← hbse, sb_size, hble]
    have HK := hid hkle; have HBLE := hid hble
    rw [htge, hkle, hbse] at hcs
    rw [hkle] at hkl
    rw [hble] at hbl
    subst hcs
    have HKL := hid hkl
    clear hn ih hN hd htg htge hkle hble hbse hkl
    have hmf : ∀ (fn : Fn) (first cap : Array Value) (w : World), (Instr.makeFunc fn first cap).run Try.prog w = .ok (.func fn first cap) w := fun _ _ _ _ => rfl
    have hbli : (bl : Int) ≤ 140737488351232 := by omega
    go_enter Try.func28, Try.ntmps28
    go_wp2_with (first
      | ((with_reducible show wpList _ _ _ (⟨_, .box 40 _, _, _, _, _⟩ :: _) _ _); refine wpL_box rfl _ _ rfl _ rfl [.int .i64 tg, .string bs, .slice a kl sc] rfl ?_; intro w1 HB1 F1 HS1; have c1 : w1.cell? ⟨w.heap.size, 1, none⟩ = some (.string bs) := HB1.out.cell 1)
      | ((with_reducible show wpList _ _ _ (⟨_, .alloc 3, _, _, _, _⟩ :: _) _ _); refine wpL_alloc rfl _ rfl _ zeroI [.int .i64 0] rfl ?_; intro w2 HB2 F2 HS2)
      | ((with_reducible show wpList _ _ _ (⟨_, .store 3 _ _, _, _, _, _⟩ :: _) _ _); refine wpL_setV rfl _ _ _ rfl w1.heap.size 0 (.int .i64 (bl : Int)) rfl (by rw [← hbsz]; rfl) rfl rfl _ _ HB2.out (by simp) infoI ?_; intro w3 HB3 F3 HS3;
          have hf13 : Fr No w1 w3 := F2.out.trans F3.out (fun i e => .inr (by have e : i = w1.heap.size := e; omega));
          have HF13 : Hid (Fr No w1 w3) := hid hf13; have HB1' : Hid (Blk w3 w.heap.size 40 [.int .i64 tg, .string bs, .slice a kl sc]) := hid (HB1.out.fr hf13 id); clear hf13)
      | ((with_reducible show wpList _ _ _ (⟨_, .load 40 _, _, _, _, _⟩ :: _) _ _); refine wpL_load rfl _ _ rfl w.heap.size 0 rfl [.int .i64 tg, .string bs, .slice a kl sc] _ (HB1'.out.range 0 _ rfl) rfl rfl infoN ?_))
    have hf3 : Fr No w w3 := F1.out.trans' HF13.out
    have HF3 := hid hf3
    have hb1 : w1.heap.size < w3.heap.size := by have := HS2.out; have := HS3.out; omega
    have HB1L := hid hb1
    have hbN : N ≤ w1.heap.size := Nat.le_trans HNN.out F1.out.size
    have HBN := hid hbN
    refine (children_any M N n [.int .i64 tg, .string bs, .slice a kl sc] 35 [.pointer (some ⟨w1.heap.size, 0, none⟩)]
      (fun i w' => Blk w' w1.heap.size 3 [.int .i64 ((bl + flen m (n.kids.take i) : Nat) : Int)] ∧ Fr (fun k => k = w1.heap.size) w3 w' ∧ (n.kids.take i).all (fits m) = true ∧ flen m (n.kids.take i) ≤ i * 4004)
      (fun c w' => c = 2 ∧ n.kids.all (fits m) = false ∧ Fr (fun k => k = w1.heap.size) w3 w') w3 (HN.out.no hf3) (Nat.le_trans HNN.out hf3.size) (fun vs w => by kernel_rfl)
      ⟨by simpa [flen] using HB3.out, Fr.refl _ _, rfl, by simp [flen]⟩ (fun i a b h hf => ⟨h.1.fr hf id, h.2.1.trans' hf.no, h.2.2.1, h.2.2.2⟩) ?_).mono ?_
    · intro i k c wv hx hk hi hs
      have hik : i < kl := by rw [← HK.out]; exact (List.getElem?_eq_some_iff.1 hx).1
      have hkd := deep_kid HD.out hx
      refine (cb1_any m M N w1.heap.size _ k c wv hkd hk (by omega) (by have := hi.2.2.2; have := HKL.out; omega) hi.1 HIH.out).mono ?_
      rintro e v2 ⟨ff, hv⟩
      have hmay : Fr (May N w3.heap.size) wv v2 := ff.mono (fun j hj => by subst hj; exact ⟨hbN, by omega⟩)
      rcases hv with ⟨hfk, rfl, hB⟩ | ⟨hfk, rfl⟩
      · refine ⟨hmay, .inl ⟨rfl, ?_, hi.2.1.trans' ff, all_take hx hi.2.2.1 hfk, ?_⟩⟩
        · rw [flen_step m hx, ← Nat.add_assoc]; exact hB
        · rw [flen_step m hx]; have := fin_len hkd hfk; have := hi.2.2.2; omega
      · exact ⟨hmay, .inr ⟨_, rfl, rfl, all_not hx hfk, hi.2.1.trans' ff⟩⟩
    · rintro e v hv
      rcases hv with ⟨rfl, hB, hf, ha, hl⟩ | ⟨c, rfl, rfl, ha, hf⟩
      · rw [List.take_length] at hB ha hl
        have hcl : clen (m + 1) n = bl + flen m n.kids := by rw [clen_succ, HBLE.out]
        rw [← hcl] at hB
        have hmx : clen (m + 1) n ≤ 1000000000000000000 := by have := HKL.out; have := HK.out; rw [hcl]; omega
        obtain ⟨cl, hcle⟩ : ∃ cl, clen (m + 1) n = cl := ⟨_, rfl⟩
        rw [hcle] at hB hmx
        have hmxi : (cl : Int) ≤ 1000000000000000000 := by omega
        have c9 : v.cell? ⟨w1.heap.size, 0, none⟩ = some (.int .i64 (cl : Int)) := hB.cell 0
        have HCL := hid hcle; have HA := hid ha
        have hfin : Fr No w v := hf3.trans hf (fun i e => .inr (by have e : i = w1.heap.size := e; have := F1.out.size; omega))
        have HFIN := hid hfin
        clear hcl hcle ha hl hf hB hf3 hfin hb1 hbN hmx
        go_wp2_with fail
        refine (must_any _ 2 v).mono ?_
        rintro e v3 ⟨rfl, ⟨hb, rfl⟩ | ⟨hb, rfl⟩⟩
        · have hb' : cl ≤ 4000 := by simp at hb; omega
          clear hb
          go_wp2_with fail
          go_ret
          refine ⟨HFIN.out, .inl ⟨?_, by rw [HCL.out]; rfl⟩⟩
          rw [fits_succ, HA.out, HCL.out]; simpa using hb'
        · have hb' : ¬ cl ≤ 4000 := by simp at hb; omega
          refine ⟨rfl, HFIN.out, .inr ⟨?_, rfl⟩⟩
          rw [fits_succ, HCL.out]; simp; omega
      · have hfin : Fr No w v := hf3.trans hf (fun i e => .inr (by have e : i = w1.heap.size := e; have := F1.out.size; omega))
        exact ⟨rfl, hfin, .inr ⟨by rw [fits_succ, ha]; rfl, rfl⟩⟩
end Go.Proofs.Ytoikiokcpakokaa.BE
