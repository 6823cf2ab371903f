/-
  Part 9 of the proof: MpX.
-/
import Derived.Test.YthjmkfpdbbfcpaaMw08
set_option linter.unusedSimpArgs false
set_option linter.unusedVariables false
namespace Go.Proofs.Ythjmkfpdbbfcpaa.ME
set_option maxRecDepth 100000
open Go.RowKit K Go.Proofs.Ythjmkfpdbbfcpaa.BE Go.Proofs.Ythjmkfpdbbfcpaa.FR

theorem Sl.monoS {α : Type} {k : Nat} {p p' : α → List Value → Prop} {S S' : Nat → Prop} {w : World} {v : Value} {xs : List α} (h : Sl k p S w v xs) (hs : ∀ i, i < w.heap.size → S i → S' i) (hp : ∀ x c, p x c → p' x c) : Sl k p' S' w v xs := by
  obtain ⟨a, cap, h1, h2, h3, h4⟩ := h
  refine ⟨a, cap, h1, h2, h3, h4.imp id ?_⟩
  rintro ⟨g, o, L, e, hS, hg, hr, hL, hc, hpp⟩
  exact ⟨g, o, L, e, hs g hg hS, hg, hr, hL, hc, fun j x c hx hcj => hp x c (hpp j x c hx hcj)⟩
theorem and_31 (x : Nat) (hx : x ≤ 255) : bits BinOp.and IntKind.i64 (x : Int) 31 = ((x % 32 : Nat) : Int) := by
  have hA : (BitVec.ofInt 64 (x : Int)).toNat = x := by rw [BitVec.ofInt_natCast, BitVec.toNat_ofNat]; omega
  have e : bits BinOp.and IntKind.i64 (x : Int) 31 = IntKind.i64.wrap (((BitVec.ofInt 64 (x : Int)) &&& (BitVec.ofInt 64 31)).toNat : Int) := rfl
  rw [e, BitVec.toNat_and, hA]
  have hB : (BitVec.ofInt 64 31).toNat = 2 ^ 5 - 1 := by decide
  rw [hB, Nat.and_two_pow_sub_one_eq_mod, IntKind.wrap_i64] <;> omega
theorem exec_and31 {op : Oper} {a : Act} (x y : Operand) (u : TypeId) (ho : op.op = .binOp .and 3 x y u) (n K : Nat) (hn : n ≤ 255) (hK : n % 32 = K) (hx : a.eval x = .int .i64 (n : Int)) (hy : a.eval y = .int .i64 31) (w : World) :
    (execOp a.eval op).run Try.prog w = .ok (.value (.int .i64 (K : Int))) w := by
  subst hK
  have h := and_31 n hn
  unfold execOp
  simp only [ho, hx, hy]
  simp [binOp, go_sem, eqGuard, Result.andThen, h]
theorem nbi (a b : Int) (h : ¬ a = b) : (a == b) = false := by simpa using h
def pfoOk (d : Nat) : Prop := ∀ (S : Nat → Prop) (n : Nd) (cs : List Value) (w : World), NdAt d S w n cs → okF d n → Calls Try.prog 58 #[.agg cs.toArray] w fun e w' => ∃ ds, e = .returned (.agg ds.toArray) ∧ FlC d (Since w.heap.size) w' (filterR d n) ds ∧ Fr No w w'
set_option maxHeartbeats 8000000 in
theorem pfo_0 (d : Nat) (S : Nat → Prop) (n : Nd) (cs : List Value) (w : World) (hn : NdAt (d + 1) S w n cs) (ho : okF (d + 1) n) (t : Nat) (ht : n.tag = (t : Int)) (ht2 : t ≤ 255) (hK : t % 32 = 0) (ih : pfoOk d) : Calls Try.prog 58 #[.agg cs.toArray] w fun e w' =>
    ∃ ds, e = .returned (.agg ds.toArray) ∧ FlC (d + 1) (Since w.heap.size) w' (.mk 0 (n.kids.map (filterR d)) [] [] [] [] []) ds ∧ Fr No w w' := by
  have HN := hid (nd_lo hn.more); have HD := hid hn; have HOK := hid ho; have HT2 := hid ht2
  have HK := hid hK; have IH := hid ih
  clear hK ih
  obtain ⟨a, sc, hcs, -, -, -⟩ := hn.head
  subst hcs
  rw [ht] at HN HD ⊢
  obtain ⟨bs, hbs⟩ : ∃ b, sb n.body = b := ⟨_, rfl⟩
  obtain ⟨kl, hkl⟩ : ∃ k, n.kids.length = k := ⟨_, rfl⟩
  rw [hbs, hkl] at HN HD ⊢
  have HBS := hid hbs
  clear hn ho ht ht2 hbs hkl
  go_enter Try.func58, Try.ntmps58
  go_wp2_with (first
    | ((with_reducible refine atO (.box 44 _) ?_); refine wpL_box rfl _ _ rfl _ rfl [.int .i64 (t : Int), .string bs, .slice a kl sc] rfl ?_; intro w1 HB1 F1 HS1)
    | ((with_reducible refine atO (.alloc 25) ?_); (fail_if_success (have := HB2)); refine wpL_alloc rfl _ rfl _ ME.zeroF [.int .i64 0, .slice none 0 0, .string ⟨#[]⟩, .string ⟨#[]⟩, .string ⟨#[]⟩, .slice none 0 0, .string ⟨#[]⟩] rfl ?_; intro w2 HB2 F2 HS2; have HB12 := hid (HB1.out.fr F2.out id); have HF2 := hid (F1.out.trans' F2.out); have c0 : w2.cell? ⟨w.heap.size, 0, none⟩ = some (.int .i64 (t : Int)) := HB12.out.cell 0)
    | ((with_reducible refine atO (.binOp .and 3 _ _ _) ?_); refine wpL_valZ rfl (.int .i64 (0 : Int)) (exec_and31 _ _ _ rfl t 0 HT2.out HK.out rfl rfl _) ?_)
    | ((with_reducible refine atO (.alloc 25) ?_); refine wpL_alloc rfl _ rfl _ ME.zeroF [.int .i64 0, .slice none 0 0, .string ⟨#[]⟩, .string ⟨#[]⟩, .string ⟨#[]⟩, .slice none 0 0, .string ⟨#[]⟩] rfl ?_; intro w3 HB3 F3 HS3)
    | ((with_reducible refine atO (.store 25 _ _) ?_); refine wpL_storeV rfl _ _ _ rfl w2.heap.size 0 (.agg #[.int .i64 0, .slice none 0 0, .string ⟨#[]⟩, .string ⟨#[]⟩, .string ⟨#[]⟩, .slice none 0 0, .string ⟨#[]⟩]) [.int .i64 0, .slice none 0 0, .string ⟨#[]⟩, .string ⟨#[]⟩, .string ⟨#[]⟩, .slice none 0 0, .string ⟨#[]⟩] rfl rfl rfl _ _ HB3.out (by simp) infoFl (by intro u hu; simp at hu; rcases hu with rfl | rfl | rfl | rfl | rfl | rfl | rfl <;> rfl) ?_; intro w4 HB4 F4 HS4; have HX4 : Hid (Blk w4 w.heap.size 44 [.int .i64 (t : Int), .string bs, .slice a kl sc]) := hid ((HB12.out.fr F3.out id).fr F4.out (fun e => by have e : w.heap.size = w2.heap.size := e; have := HS1.out; have := HS2.out; omega)))
    | ((with_reducible refine atO (.load 44 _) ?_); refine wpL_load rfl _ _ rfl w.heap.size 0 rfl [.int .i64 (t : Int), .string bs, .slice a kl sc] _ (HX4.out.range 0 _ rfl) rfl rfl infoN ?_)
    | fail)
  have HF4 : Hid (Fr No w w4) := hid ((HF2.out.trans' F3.out).trans F4.out fun k e => .inr (by have e : k = w2.heap.size := e; have := HF2.out.size; omega))
  have HR4 : Hid (Blk w4 w1.heap.size 25 [.int .i64 0, .slice none 0 0, .string ⟨#[]⟩, .string ⟨#[]⟩, .string ⟨#[]⟩, .slice none 0 0, .string ⟨#[]⟩]) := hid ((HB2.out.fr F3.out id).fr F4.out (fun e => by have e : w1.heap.size = w2.heap.size := e; have := HS2.out; omega))
  refine (pchildren_any (d + 1) (Lo w.heap.size) n [.int .i64 (t : Int), .string bs, .slice a kl sc] w4 (HN.out.no HF4.out)).mono ?_
  rintro e w5 ⟨bn, rfl, hbn, hr, f5⟩
  have HSZ : Hid (w1.heap.size = w.heap.size + 1 ∧ w2.heap.size = w1.heap.size + 1 ∧ w4.heap.size = w2.heap.size + 1) := hid (by have := HS1.out; have := HS2.out; have := HS3.out; have := HS4.out; omega)
  have HBN : Hid (w.heap.size ≤ bn) := hid (Nat.le_trans HF4.out.size hbn)
  have HNE : Hid (w2.heap.size < bn ∧ w1.heap.size < bn ∧ w.heap.size < bn) := hid (by have := HSZ.out; omega)
  have HR0 := hid hr.start; have HF5 := hid (HF4.out.trans' f5); have HBr := hid (HR4.out.fr f5 id); have HBf : Hid (Blk w5 w2.heap.size 25 [.int .i64 0, .slice none 0 0, .string ⟨#[]⟩, .string ⟨#[]⟩, .string ⟨#[]⟩, .slice none 0 0, .string ⟨#[]⟩]) := hid (HB4.out.fr f5 id); have HBx := hid (HX4.out.fr f5 id)
  have HL5 : Hid (w2.heap.size < w5.heap.size) := hid (by have := HSZ.out; have := f5.size; omega)
  have k0 : w5.cell? ⟨w2.heap.size, 0, none⟩ = some (.int .i64 0) := HBf.out.cell 0
  clear hbn hr f5 HB1 F1 HS1 HB2 F2 HS2 HB3 F3 HS3 HB4 F4 HS4 HB12 HF2 HX4 HR4 c0
  go_wp2_with (first
    | ((with_reducible refine atO (.load 44 _) ?_); refine wpL_load rfl _ _ rfl w.heap.size 0 rfl [.int .i64 (t : Int), .string bs, .slice a kl sc] _ (HBx.out.range 0 _ rfl) rfl rfl infoN ?_)
    | fail)
  refine (plistFl (gpFl d) (filterR d) 58 d S n [.int .i64 (t : Int), .string bs, .slice a kl sc] w5 (HD.out.no HF5.out) (by have := HOK.out.2.2.1; omega) (fun vs w => by kernel_rfl) (fun x hx c wv hxa _ => IH.out S x c wv hxa (HOK.out.2.2.2 x hx))).mono ?_
  rintro e w6 ⟨v, rfl, hv, f6⟩
  have HV := hid hv
  obtain ⟨va, vc, rfl, -, -⟩ := hv.form
  obtain ⟨vl, hvl⟩ : ∃ k, (n.kids.map (filterR d)).length = k := ⟨_, rfl⟩
  rw [hvl] at HV ⊢
  have HF6 := hid (HF5.out.trans' f6); have HBrz := hid (HBr.out.fr f6 id); have HBfz := hid (HBf.out.fr f6 id); have HL6 := hid f6.size
  clear hv f6 hvl k0
  go_wp2_with (first
    | ((with_reducible refine atO (.store 22 _ _) ?_); (fail_if_success (have := HU0)); refine wpL_setV rfl _ _ _ rfl w2.heap.size 1 (.slice va vl vc) rfl rfl rfl rfl _ _ HBfz.out (by simp) infoFs ?_; intro u_0 HV0 FU0 HW0; have HU0 : Hid (Blk u_0 w2.heap.size 25 [.int .i64 0, .slice va vl vc, .string ⟨#[]⟩, .string ⟨#[]⟩, .string ⟨#[]⟩, .slice none 0 0, .string ⟨#[]⟩]) := hid HV0.out)
    | ((with_reducible refine atO (.load 25 _) ?_); refine wpL_load rfl _ _ rfl w2.heap.size 0 rfl [.int .i64 0, .slice va vl vc, .string ⟨#[]⟩, .string ⟨#[]⟩, .string ⟨#[]⟩, .slice none 0 0, .string ⟨#[]⟩] _ (HU0.out.range 0 _ rfl) rfl rfl infoFl ?_)
    | ((with_reducible refine atO (.store 25 _ _) ?_); refine wpL_storeV rfl _ _ _ rfl w1.heap.size 0 (.agg #[.int .i64 0, .slice va vl vc, .string ⟨#[]⟩, .string ⟨#[]⟩, .string ⟨#[]⟩, .slice none 0 0, .string ⟨#[]⟩]) [.int .i64 0, .slice va vl vc, .string ⟨#[]⟩, .string ⟨#[]⟩, .string ⟨#[]⟩, .slice none 0 0, .string ⟨#[]⟩] rfl rfl rfl _ _ (Blk.fr (HBrz.out) FU0.out (fun e => by have e : w1.heap.size = w2.heap.size := e; have := HSZ.out; omega)) (by simp) infoFl (by intro u hu; simp at hu; rcases hu with rfl | rfl | rfl | rfl | rfl | rfl | rfl <;> rfl) ?_; intro wz HBz Fz HSz)
    | fail)
  refine ret_cell rfl _ rfl HBz.out rfl rfl infoFl rfl ?_
  have HFz : Fr No w wz := Fr.trans ((Fr.trans (HF6.out) FU0.out (fun k e => .inr (by have e : k = w2.heap.size := e; have := HSZ.out; omega)))) Fz.out (fun k e => .inr (by have e : k = w1.heap.size := e; have := HSZ.out; omega))
  have HLz : Fr (fun k => k = w2.heap.size ∨ k = w1.heap.size) w6 wz := Fr.trans' (Fr.trans' (Fr.refl (fun k => k = w2.heap.size ∨ k = w1.heap.size) w6) (FU0.out.mono fun k e => .inl e)) (Fz.out.mono fun k e => .inr e)
  refine ⟨_, rfl, ⟨_, _, rfl, i64z, by show (0 : Nat) ≤ _; omega, by show (0 : Nat) ≤ _; omega, by show (0 : Nat) ≤ _; omega, by show (0 : Nat) ≤ _; omega, tx_none _ _, (HV.out.fr HLz (fun k hk _ e => by have h : w5.heap.size ≤ k := hk; have h5 := HL5.out; have := HSZ.out; rcases e with e | e <;> omega) (fun x c _ hx => FlC.fr HLz (fun k hk _ e => by have h : w5.heap.size ≤ k := hk; have h5 := HL5.out; have := HSZ.out; rcases e with e | e <;> omega) hx)).monoS (fun k _ hk => Nat.le_trans HF5.out.size hk) (fun x c hx => hx.monoS (fun k _ hk => Nat.le_trans HF5.out.size hk))⟩, HFz⟩
set_option maxHeartbeats 8000000 in
theorem pfo_1 (d : Nat) (S : Nat → Prop) (n : Nd) (cs : List Value) (w : World) (hn : NdAt (d + 1) S w n cs) (ho : okF (d + 1) n) (t : Nat) (ht : n.tag = (t : Int)) (ht2 : t ≤ 255) (hK : t % 32 = 1) (ih : pfoOk d) : Calls Try.prog 58 #[.agg cs.toArray] w fun e w' =>
    ∃ ds, e = .returned (.agg ds.toArray) ∧ FlC (d + 1) (Since w.heap.size) w' (.mk 1 (n.kids.map (filterR d)) [] [] [] [] []) ds ∧ Fr No w w' := by
  have HN := hid (nd_lo hn.more); have HD := hid hn; have HOK := hid ho; have HT2 := hid ht2
  have HK := hid hK; have IH := hid ih
  clear hK ih
  obtain ⟨a, sc, hcs, -, -, -⟩ := hn.head
  subst hcs
  rw [ht] at HN HD ⊢
  obtain ⟨bs, hbs⟩ : ∃ b, sb n.body = b := ⟨_, rfl⟩
  obtain ⟨kl, hkl⟩ : ∃ k, n.kids.length = k := ⟨_, rfl⟩
  rw [hbs, hkl] at HN HD ⊢
  have HBS := hid hbs
  clear hn ho ht ht2 hbs hkl
  go_enter Try.func58, Try.ntmps58
  go_wp2_with (first
    | ((with_reducible refine atO (.box 44 _) ?_); refine wpL_box rfl _ _ rfl _ rfl [.int .i64 (t : Int), .string bs, .slice a kl sc] rfl ?_; intro w1 HB1 F1 HS1)
    | ((with_reducible refine atO (.alloc 25) ?_); (fail_if_success (have := HB2)); refine wpL_alloc rfl _ rfl _ ME.zeroF [.int .i64 0, .slice none 0 0, .string ⟨#[]⟩, .string ⟨#[]⟩, .string ⟨#[]⟩, .slice none 0 0, .string ⟨#[]⟩] rfl ?_; intro w2 HB2 F2 HS2; have HB12 := hid (HB1.out.fr F2.out id); have HF2 := hid (F1.out.trans' F2.out); have c0 : w2.cell? ⟨w.heap.size, 0, none⟩ = some (.int .i64 (t : Int)) := HB12.out.cell 0)
    | ((with_reducible refine atO (.binOp .and 3 _ _ _) ?_); refine wpL_valZ rfl (.int .i64 (1 : Int)) (exec_and31 _ _ _ rfl t 1 HT2.out HK.out rfl rfl _) ?_)
    | ((with_reducible refine atO (.alloc 25) ?_); refine wpL_alloc rfl _ rfl _ ME.zeroF [.int .i64 0, .slice none 0 0, .string ⟨#[]⟩, .string ⟨#[]⟩, .string ⟨#[]⟩, .slice none 0 0, .string ⟨#[]⟩] rfl ?_; intro w3 HB3 F3 HS3)
    | ((with_reducible refine atO (.store 25 _ _) ?_); refine wpL_storeV rfl _ _ _ rfl w2.heap.size 0 (.agg #[.int .i64 1, .slice none 0 0, .string ⟨#[]⟩, .string ⟨#[]⟩, .string ⟨#[]⟩, .slice none 0 0, .string ⟨#[]⟩]) [.int .i64 1, .slice none 0 0, .string ⟨#[]⟩, .string ⟨#[]⟩, .string ⟨#[]⟩, .slice none 0 0, .string ⟨#[]⟩] rfl rfl rfl _ _ HB3.out (by simp) infoFl (by intro u hu; simp at hu; rcases hu with rfl | rfl | rfl | rfl | rfl | rfl | rfl <;> rfl) ?_; intro w4 HB4 F4 HS4; have HX4 : Hid (Blk w4 w.heap.size 44 [.int .i64 (t : Int), .string bs, .slice a kl sc]) := hid ((HB12.out.fr F3.out id).fr F4.out (fun e => by have e : w.heap.size = w2.heap.size := e; have := HS1.out; have := HS2.out; omega)))
    | ((with_reducible refine atO (.load 44 _) ?_); refine wpL_load rfl _ _ rfl w.heap.size 0 rfl [.int .i64 (t : Int), .string bs, .slice a kl sc] _ (HX4.out.range 0 _ rfl) rfl rfl infoN ?_)
    | fail)
  have HF4 : Hid (Fr No w w4) := hid ((HF2.out.trans' F3.out).trans F4.out fun k e => .inr (by have e : k = w2.heap.size := e; have := HF2.out.size; omega))
  have HR4 : Hid (Blk w4 w1.heap.size 25 [.int .i64 0, .slice none 0 0, .string ⟨#[]⟩, .string ⟨#[]⟩, .string ⟨#[]⟩, .slice none 0 0, .string ⟨#[]⟩]) := hid ((HB2.out.fr F3.out id).fr F4.out (fun e => by have e : w1.heap.size = w2.heap.size := e; have := HS2.out; omega))
  refine (pchildren_any (d + 1) (Lo w.heap.size) n [.int .i64 (t : Int), .string bs, .slice a kl sc] w4 (HN.out.no HF4.out)).mono ?_
  rintro e w5 ⟨bn, rfl, hbn, hr, f5⟩
  have HSZ : Hid (w1.heap.size = w.heap.size + 1 ∧ w2.heap.size = w1.heap.size + 1 ∧ w4.heap.size = w2.heap.size + 1) := hid (by have := HS1.out; have := HS2.out; have := HS3.out; have := HS4.out; omega)
  have HBN : Hid (w.heap.size ≤ bn) := hid (Nat.le_trans HF4.out.size hbn)
  have HNE : Hid (w2.heap.size < bn ∧ w1.heap.size < bn ∧ w.heap.size < bn) := hid (by have := HSZ.out; omega)
  have HR0 := hid hr.start; have HF5 := hid (HF4.out.trans' f5); have HBr := hid (HR4.out.fr f5 id); have HBf : Hid (Blk w5 w2.heap.size 25 [.int .i64 1, .slice none 0 0, .string ⟨#[]⟩, .string ⟨#[]⟩, .string ⟨#[]⟩, .slice none 0 0, .string ⟨#[]⟩]) := hid (HB4.out.fr f5 id); have HBx := hid (HX4.out.fr f5 id)
  have HL5 : Hid (w2.heap.size < w5.heap.size) := hid (by have := HSZ.out; have := f5.size; omega)
  have k0 : w5.cell? ⟨w2.heap.size, 0, none⟩ = some (.int .i64 1) := HBf.out.cell 0
  clear hbn hr f5 HB1 F1 HS1 HB2 F2 HS2 HB3 F3 HS3 HB4 F4 HS4 HB12 HF2 HX4 HR4 c0
  go_wp2_with (first
    | ((with_reducible refine atO (.load 44 _) ?_); refine wpL_load rfl _ _ rfl w.heap.size 0 rfl [.int .i64 (t : Int), .string bs, .slice a kl sc] _ (HBx.out.range 0 _ rfl) rfl rfl infoN ?_)
    | fail)
  refine (plistFl (gpFl d) (filterR d) 58 d S n [.int .i64 (t : Int), .string bs, .slice a kl sc] w5 (HD.out.no HF5.out) (by have := HOK.out.2.2.1; omega) (fun vs w => by kernel_rfl) (fun x hx c wv hxa _ => IH.out S x c wv hxa (HOK.out.2.2.2 x hx))).mono ?_
  rintro e w6 ⟨v, rfl, hv, f6⟩
  have HV := hid hv
  obtain ⟨va, vc, rfl, -, -⟩ := hv.form
  obtain ⟨vl, hvl⟩ : ∃ k, (n.kids.map (filterR d)).length = k := ⟨_, rfl⟩
  rw [hvl] at HV ⊢
  have HF6 := hid (HF5.out.trans' f6); have HBrz := hid (HBr.out.fr f6 id); have HBfz := hid (HBf.out.fr f6 id); have HL6 := hid f6.size
  clear hv f6 hvl k0
  go_wp2_with (first
    | ((with_reducible refine atO (.store 22 _ _) ?_); (fail_if_success (have := HU0)); refine wpL_setV rfl _ _ _ rfl w2.heap.size 1 (.slice va vl vc) rfl rfl rfl rfl _ _ HBfz.out (by simp) infoFs ?_; intro u_0 HV0 FU0 HW0; have HU0 : Hid (Blk u_0 w2.heap.size 25 [.int .i64 1, .slice va vl vc, .string ⟨#[]⟩, .string ⟨#[]⟩, .string ⟨#[]⟩, .slice none 0 0, .string ⟨#[]⟩]) := hid HV0.out)
    | ((with_reducible refine atO (.load 25 _) ?_); refine wpL_load rfl _ _ rfl w2.heap.size 0 rfl [.int .i64 1, .slice va vl vc, .string ⟨#[]⟩, .string ⟨#[]⟩, .string ⟨#[]⟩, .slice none 0 0, .string ⟨#[]⟩] _ (HU0.out.range 0 _ rfl) rfl rfl infoFl ?_)
    | ((with_reducible refine atO (.store 25 _ _) ?_); refine wpL_storeV rfl _ _ _ rfl w1.heap.size 0 (.agg #[.int .i64 1, .slice va vl vc, .string ⟨#[]⟩, .string ⟨#[]⟩, .string ⟨#[]⟩, .slice none 0 0, .string ⟨#[]⟩]) [.int .i64 1, .slice va vl vc, .string ⟨#[]⟩, .string ⟨#[]⟩, .string ⟨#[]⟩, .slice none 0 0, .string ⟨#[]⟩] rfl rfl rfl _ _ (Blk.fr (HBrz.out) FU0.out (fun e => by have e : w1.heap.size = w2.heap.size := e; have := HSZ.out; omega)) (by simp) infoFl (by intro u hu; simp at hu; rcases hu with rfl | rfl | rfl | rfl | rfl | rfl | rfl <;> rfl) ?_; intro wz HBz Fz HSz)
    | fail)
  refine ret_cell rfl _ rfl HBz.out rfl rfl infoFl rfl ?_
  have HFz : Fr No w wz := Fr.trans ((Fr.trans (HF6.out) FU0.out (fun k e => .inr (by have e : k = w2.heap.size := e; have := HSZ.out; omega)))) Fz.out (fun k e => .inr (by have e : k = w1.heap.size := e; have := HSZ.out; omega))
  have HLz : Fr (fun k => k = w2.heap.size ∨ k = w1.heap.size) w6 wz := Fr.trans' (Fr.trans' (Fr.refl (fun k => k = w2.heap.size ∨ k = w1.heap.size) w6) (FU0.out.mono fun k e => .inl e)) (Fz.out.mono fun k e => .inr e)
  refine ⟨_, rfl, ⟨_, _, rfl, ⟨by show (-9223372036854775808 : Int) ≤ 1; omega, by show (1 : Int) ≤ _; omega⟩, by show (0 : Nat) ≤ _; omega, by show (0 : Nat) ≤ _; omega, by show (0 : Nat) ≤ _; omega, by show (0 : Nat) ≤ _; omega, tx_none _ _, (HV.out.fr HLz (fun k hk _ e => by have h : w5.heap.size ≤ k := hk; have h5 := HL5.out; have := HSZ.out; rcases e with e | e <;> omega) (fun x c _ hx => FlC.fr HLz (fun k hk _ e => by have h : w5.heap.size ≤ k := hk; have h5 := HL5.out; have := HSZ.out; rcases e with e | e <;> omega) hx)).monoS (fun k _ hk => Nat.le_trans HF5.out.size hk) (fun x c hx => hx.monoS (fun k _ hk => Nat.le_trans HF5.out.size hk))⟩, HFz⟩
set_option maxHeartbeats 8000000 in
theorem pfo_2 (d : Nat) (S : Nat → Prop) (n : Nd) (cs : List Value) (w : World) (hn : NdAt (d + 1) S w n cs) (ho : okF (d + 1) n) (t : Nat) (ht : n.tag = (t : Int)) (ht2 : t ≤ 255) (hK : t % 32 = 2) (ih : pfoOk d) : Calls Try.prog 58 #[.agg cs.toArray] w fun e w' =>
    ∃ ds, e = .returned (.agg ds.toArray) ∧ FlC (d + 1) (Since w.heap.size) w' (.mk 2 (n.kids.map (filterR d)) [] [] [] [] []) ds ∧ Fr No w w' := by
  have HN := hid (nd_lo hn.more); have HD := hid hn; have HOK := hid ho; have HT2 := hid ht2
  have HK := hid hK; have IH := hid ih
  clear hK ih
  obtain ⟨a, sc, hcs, -, -, -⟩ := hn.head
  subst hcs
  rw [ht] at HN HD ⊢
  obtain ⟨bs, hbs⟩ : ∃ b, sb n.body = b := ⟨_, rfl⟩
  obtain ⟨kl, hkl⟩ : ∃ k, n.kids.length = k := ⟨_, rfl⟩
  rw [hbs, hkl] at HN HD ⊢
  have HBS := hid hbs
  clear hn ho ht ht2 hbs hkl
  go_enter Try.func58, Try.ntmps58
  go_wp2_with (first
    | ((with_reducible refine atO (.box 44 _) ?_); refine wpL_box rfl _ _ rfl _ rfl [.int .i64 (t : Int), .string bs, .slice a kl sc] rfl ?_; intro w1 HB1 F1 HS1)
    | ((with_reducible refine atO (.alloc 25) ?_); (fail_if_success (have := HB2)); refine wpL_alloc rfl _ rfl _ ME.zeroF [.int .i64 0, .slice none 0 0, .string ⟨#[]⟩, .string ⟨#[]⟩, .string ⟨#[]⟩, .slice none 0 0, .string ⟨#[]⟩] rfl ?_; intro w2 HB2 F2 HS2; have HB12 := hid (HB1.out.fr F2.out id); have HF2 := hid (F1.out.trans' F2.out); have c0 : w2.cell? ⟨w.heap.size, 0, none⟩ = some (.int .i64 (t : Int)) := HB12.out.cell 0)
    | ((with_reducible refine atO (.binOp .and 3 _ _ _) ?_); refine wpL_valZ rfl (.int .i64 (2 : Int)) (exec_and31 _ _ _ rfl t 2 HT2.out HK.out rfl rfl _) ?_)
    | ((with_reducible refine atO (.alloc 25) ?_); refine wpL_alloc rfl _ rfl _ ME.zeroF [.int .i64 0, .slice none 0 0, .string ⟨#[]⟩, .string ⟨#[]⟩, .string ⟨#[]⟩, .slice none 0 0, .string ⟨#[]⟩] rfl ?_; intro w3 HB3 F3 HS3)
    | ((with_reducible refine atO (.store 25 _ _) ?_); refine wpL_storeV rfl _ _ _ rfl w2.heap.size 0 (.agg #[.int .i64 2, .slice none 0 0, .string ⟨#[]⟩, .string ⟨#[]⟩, .string ⟨#[]⟩, .slice none 0 0, .string ⟨#[]⟩]) [.int .i64 2, .slice none 0 0, .string ⟨#[]⟩, .string ⟨#[]⟩, .string ⟨#[]⟩, .slice none 0 0, .string ⟨#[]⟩] rfl rfl rfl _ _ HB3.out (by simp) infoFl (by intro u hu; simp at hu; rcases hu with rfl | rfl | rfl | rfl | rfl | rfl | rfl <;> rfl) ?_; intro w4 HB4 F4 HS4; have HX4 : Hid (Blk w4 w.heap.size 44 [.int .i64 (t : Int), .string bs, .slice a kl sc]) := hid ((HB12.out.fr F3.out id).fr F4.out (fun e => by have e : w.heap.size = w2.heap.size := e; have := HS1.out; have := HS2.out; omega)))
    | ((with_reducible refine atO (.load 44 _) ?_); refine wpL_load rfl _ _ rfl w.heap.size 0 rfl [.int .i64 (t : Int), .string bs, .slice a kl sc] _ (HX4.out.range 0 _ rfl) rfl rfl infoN ?_)
    | fail)
  have HF4 : Hid (Fr No w w4) := hid ((HF2.out.trans' F3.out).trans F4.out fun k e => .inr (by have e : k = w2.heap.size := e; have := HF2.out.size; omega))
  have HR4 : Hid (Blk w4 w1.heap.size 25 [.int .i64 0, .slice none 0 0, .string ⟨#[]⟩, .string ⟨#[]⟩, .string ⟨#[]⟩, .slice none 0 0, .string ⟨#[]⟩]) := hid ((HB2.out.fr F3.out id).fr F4.out (fun e => by have e : w1.heap.size = w2.heap.size := e; have := HS2.out; omega))
  refine (pchildren_any (d + 1) (Lo w.heap.size) n [.int .i64 (t : Int), .string bs, .slice a kl sc] w4 (HN.out.no HF4.out)).mono ?_
  rintro e w5 ⟨bn, rfl, hbn, hr, f5⟩
  have HSZ : Hid (w1.heap.size = w.heap.size + 1 ∧ w2.heap.size = w1.heap.size + 1 ∧ w4.heap.size = w2.heap.size + 1) := hid (by have := HS1.out; have := HS2.out; have := HS3.out; have := HS4.out; omega)
  have HBN : Hid (w.heap.size ≤ bn) := hid (Nat.le_trans HF4.out.size hbn)
  have HNE : Hid (w2.heap.size < bn ∧ w1.heap.size < bn ∧ w.heap.size < bn) := hid (by have := HSZ.out; omega)
  have HR0 := hid hr.start; have HF5 := hid (HF4.out.trans' f5); have HBr := hid (HR4.out.fr f5 id); have HBf : Hid (Blk w5 w2.heap.size 25 [.int .i64 2, .slice none 0 0, .string ⟨#[]⟩, .string ⟨#[]⟩, .string ⟨#[]⟩, .slice none 0 0, .string ⟨#[]⟩]) := hid (HB4.out.fr f5 id); have HBx := hid (HX4.out.fr f5 id)
  have HL5 : Hid (w2.heap.size < w5.heap.size) := hid (by have := HSZ.out; have := f5.size; omega)
  have k0 : w5.cell? ⟨w2.heap.size, 0, none⟩ = some (.int .i64 2) := HBf.out.cell 0
  clear hbn hr f5 HB1 F1 HS1 HB2 F2 HS2 HB3 F3 HS3 HB4 F4 HS4 HB12 HF2 HX4 HR4 c0
  go_wp2_with (first
    | ((with_reducible refine atO (.load 44 _) ?_); refine wpL_load rfl _ _ rfl w.heap.size 0 rfl [.int .i64 (t : Int), .string bs, .slice a kl sc] _ (HBx.out.range 0 _ rfl) rfl rfl infoN ?_)
    | fail)
  refine (plistFl (gpFl d) (filterR d) 58 d S n [.int .i64 (t : Int), .string bs, .slice a kl sc] w5 (HD.out.no HF5.out) (by have := HOK.out.2.2.1; omega) (fun vs w => by kernel_rfl) (fun x hx c wv hxa _ => IH.out S x c wv hxa (HOK.out.2.2.2 x hx))).mono ?_
  rintro e w6 ⟨v, rfl, hv, f6⟩
  have HV := hid hv
  obtain ⟨va, vc, rfl, -, -⟩ := hv.form
  obtain ⟨vl, hvl⟩ : ∃ k, (n.kids.map (filterR d)).length = k := ⟨_, rfl⟩
  rw [hvl] at HV ⊢
  have HF6 := hid (HF5.out.trans' f6); have HBrz := hid (HBr.out.fr f6 id); have HBfz := hid (HBf.out.fr f6 id); have HL6 := hid f6.size
  clear hv f6 hvl k0
  go_wp2_with (first
    | ((with_reducible refine atO (.store 22 _ _) ?_); (fail_if_success (have := HU0)); refine wpL_setV rfl _ _ _ rfl w2.heap.size 1 (.slice va vl vc) rfl rfl rfl rfl _ _ HBfz.out (by simp) infoFs ?_; intro u_0 HV0 FU0 HW0; have HU0 : Hid (Blk u_0 w2.heap.size 25 [.int .i64 2, .slice va vl vc, .string ⟨#[]⟩, .string ⟨#[]⟩, .string ⟨#[]⟩, .slice none 0 0, .string ⟨#[]⟩]) := hid HV0.out)
    | ((with_reducible refine atO (.load 25 _) ?_); refine wpL_load rfl _ _ rfl w2.heap.size 0 rfl [.int .i64 2, .slice va vl vc, .string ⟨#[]⟩, .string ⟨#[]⟩, .string ⟨#[]⟩, .slice none 0 0, .string ⟨#[]⟩] _ (HU0.out.range 0 _ rfl) rfl rfl infoFl ?_)
    | ((with_reducible refine atO (.store 25 _ _) ?_); refine wpL_storeV rfl _ _ _ rfl w1.heap.size 0 (.agg #[.int .i64 2, .slice va vl vc, .string ⟨#[]⟩, .string ⟨#[]⟩, .string ⟨#[]⟩, .slice none 0 0, .string ⟨#[]⟩]) [.int .i64 2, .slice va vl vc, .string ⟨#[]⟩, .string ⟨#[]⟩, .string ⟨#[]⟩, .slice none 0 0, .string ⟨#[]⟩] rfl rfl rfl _ _ (Blk.fr (HBrz.out) FU0.out (fun e => by have e : w1.heap.size = w2.heap.size := e; have := HSZ.out; omega)) (by simp) infoFl (by intro u hu; simp at hu; rcases hu with rfl | rfl | rfl | rfl | rfl | rfl | rfl <;> rfl) ?_; intro wz HBz Fz HSz)
    | fail)
  refine ret_cell rfl _ rfl HBz.out rfl rfl infoFl rfl ?_
  have HFz : Fr No w wz := Fr.trans ((Fr.trans (HF6.out) FU0.out (fun k e => .inr (by have e : k = w2.heap.size := e; have := HSZ.out; omega)))) Fz.out (fun k e => .inr (by have e : k = w1.heap.size := e; have := HSZ.out; omega))
  have HLz : Fr (fun k => k = w2.heap.size ∨ k = w1.heap.size) w6 wz := Fr.trans' (Fr.trans' (Fr.refl (fun k => k = w2.heap.size ∨ k = w1.heap.size) w6) (FU0.out.mono fun k e => .inl e)) (Fz.out.mono fun k e => .inr e)
  refine ⟨_, rfl, ⟨_, _, rfl, ⟨by show (-9223372036854775808 : Int) ≤ 2; omega, by show (2 : Int) ≤ _; omega⟩, by show (0 : Nat) ≤ _; omega, by show (0 : Nat) ≤ _; omega, by show (0 : Nat) ≤ _; omega, by show (0 : Nat) ≤ _; omega, tx_none _ _, (HV.out.fr HLz (fun k hk _ e => by have h : w5.heap.size ≤ k := hk; have h5 := HL5.out; have := HSZ.out; rcases e with e | e <;> omega) (fun x c _ hx => FlC.fr HLz (fun k hk _ e => by have h : w5.heap.size ≤ k := hk; have h5 := HL5.out; have := HSZ.out; rcases e with e | e <;> omega) hx)).monoS (fun k _ hk => Nat.le_trans HF5.out.size hk) (fun x c hx => hx.monoS (fun k _ hk => Nat.le_trans HF5.out.size hk))⟩, HFz⟩
set_option maxHeartbeats 8000000 in
theorem pfo_3 (d : Nat) (S : Nat → Prop) (n : Nd) (cs : List Value) (w : World) (hn : NdAt (d + 1) S w n cs) (ho : okF (d + 1) n) (t : Nat) (ht : n.tag = (t : Int)) (ht2 : t ≤ 255) (hK : t % 32 = 3) : Calls Try.prog 58 #[.agg cs.toArray] w fun e w' =>
    ∃ ds, e = .returned (.agg ds.toArray) ∧ FlC (d + 1) (Since w.heap.size) w' (.mk 3 [] (kidN n 0).body (kidN n 1).body [] [] []) ds ∧ Fr No w w' := by
  have HN := hid (nd_lo hn.more); have HD := hid hn; have HOK := hid ho; have HT2 := hid ht2
  have HK := hid hK
  clear hK
  obtain ⟨a, sc, hcs, -, -, -⟩ := hn.head
  subst hcs
  rw [ht] at HN HD ⊢
  obtain ⟨bs, hbs⟩ : ∃ b, sb n.body = b := ⟨_, rfl⟩
  obtain ⟨kl, hkl⟩ : ∃ k, n.kids.length = k := ⟨_, rfl⟩
  rw [hbs, hkl] at HN HD ⊢
  have HBS := hid hbs
  clear hn ho ht ht2 hbs hkl
  go_enter Try.func58, Try.ntmps58
  go_wp2_with (first
    | ((with_reducible refine atO (.box 44 _) ?_); refine wpL_box rfl _ _ rfl _ rfl [.int .i64 (t : Int), .string bs, .slice a kl sc] rfl ?_; intro w1 HB1 F1 HS1)
    | ((with_reducible refine atO (.alloc 25) ?_); (fail_if_success (have := HB2)); refine wpL_alloc rfl _ rfl _ ME.zeroF [.int .i64 0, .slice none 0 0, .string ⟨#[]⟩, .string ⟨#[]⟩, .string ⟨#[]⟩, .slice none 0 0, .string ⟨#[]⟩] rfl ?_; intro w2 HB2 F2 HS2; have HB12 := hid (HB1.out.fr F2.out id); have HF2 := hid (F1.out.trans' F2.out); have c0 : w2.cell? ⟨w.heap.size, 0, none⟩ = some (.int .i64 (t : Int)) := HB12.out.cell 0)
    | ((with_reducible refine atO (.binOp .and 3 _ _ _) ?_); refine wpL_valZ rfl (.int .i64 (3 : Int)) (exec_and31 _ _ _ rfl t 3 HT2.out HK.out rfl rfl _) ?_)
    | ((with_reducible refine atO (.alloc 25) ?_); refine wpL_alloc rfl _ rfl _ ME.zeroF [.int .i64 0, .slice none 0 0, .string ⟨#[]⟩, .string ⟨#[]⟩, .string ⟨#[]⟩, .slice none 0 0, .string ⟨#[]⟩] rfl ?_; intro w3 HB3 F3 HS3)
    | ((with_reducible refine atO (.store 25 _ _) ?_); refine wpL_storeV rfl _ _ _ rfl w2.heap.size 0 (.agg #[.int .i64 3, .slice none 0 0, .string ⟨#[]⟩, .string ⟨#[]⟩, .string ⟨#[]⟩, .slice none 0 0, .string ⟨#[]⟩]) [.int .i64 3, .slice none 0 0, .string ⟨#[]⟩, .string ⟨#[]⟩, .string ⟨#[]⟩, .slice none 0 0, .string ⟨#[]⟩] rfl rfl rfl _ _ HB3.out (by simp) infoFl (by intro u hu; simp at hu; rcases hu with rfl | rfl | rfl | rfl | rfl | rfl | rfl <;> rfl) ?_; intro w4 HB4 F4 HS4; have HX4 : Hid (Blk w4 w.heap.size 44 [.int .i64 (t : Int), .string bs, .slice a kl sc]) := hid ((HB12.out.fr F3.out id).fr F4.out (fun e => by have e : w.heap.size = w2.heap.size := e; have := HS1.out; have := HS2.out; omega)))
    | ((with_reducible refine atO (.load 44 _) ?_); refine wpL_load rfl _ _ rfl w.heap.size 0 rfl [.int .i64 (t : Int), .string bs, .slice a kl sc] _ (HX4.out.range 0 _ rfl) rfl rfl infoN ?_)
    | fail)
  have HF4 : Hid (Fr No w w4) := hid ((HF2.out.trans' F3.out).trans F4.out fun k e => .inr (by have e : k = w2.heap.size := e; have := HF2.out.size; omega))
  have HR4 : Hid (Blk w4 w1.heap.size 25 [.int .i64 0, .slice none 0 0, .string ⟨#[]⟩, .string ⟨#[]⟩, .string ⟨#[]⟩, .slice none 0 0, .string ⟨#[]⟩]) := hid ((HB2.out.fr F3.out id).fr F4.out (fun e => by have e : w1.heap.size = w2.heap.size := e; have := HS2.out; omega))
  refine (pchildren_any (d + 1) (Lo w.heap.size) n [.int .i64 (t : Int), .string bs, .slice a kl sc] w4 (HN.out.no HF4.out)).mono ?_
  rintro e w5 ⟨bn, rfl, hbn, hr, f5⟩
  have HSZ : Hid (w1.heap.size = w.heap.size + 1 ∧ w2.heap.size = w1.heap.size + 1 ∧ w4.heap.size = w2.heap.size + 1) := hid (by have := HS1.out; have := HS2.out; have := HS3.out; have := HS4.out; omega)
  have HBN : Hid (w.heap.size ≤ bn) := hid (Nat.le_trans HF4.out.size hbn)
  have HNE : Hid (w2.heap.size < bn ∧ w1.heap.size < bn ∧ w.heap.size < bn) := hid (by have := HSZ.out; omega)
  have HR0 := hid hr.start; have HF5 := hid (HF4.out.trans' f5); have HBr := hid (HR4.out.fr f5 id); have HBf : Hid (Blk w5 w2.heap.size 25 [.int .i64 3, .slice none 0 0, .string ⟨#[]⟩, .string ⟨#[]⟩, .string ⟨#[]⟩, .slice none 0 0, .string ⟨#[]⟩]) := hid (HB4.out.fr f5 id); have HBx := hid (HX4.out.fr f5 id)
  have HL5 : Hid (w2.heap.size < w5.heap.size) := hid (by have := HSZ.out; have := f5.size; omega)
  have k0 : w5.cell? ⟨w2.heap.size, 0, none⟩ = some (.int .i64 3) := HBf.out.cell 0
  clear hbn hr f5 HB1 F1 HS1 HB2 F2 HS2 HB3 F3 HS3 HB4 F4 HS4 HB12 HF2 HX4 HR4 c0
  go_wp2_with fail
  refine (pkidn_any d (Lo w.heap.size) bn n 0 w5 HR0.out (by have := HBN.out; show ¬ bn < w.heap.size; omega)).mono ?_
  rintro e y1 ⟨k1, rfl, hk1, hr1, f1⟩
  have HK1 := hid hk1; have HR1 := hid hr1; have HF1 := hid (HF5.out.trans f1 fun k e => .inr (by have e : k = bn := e; have := HBN.out; omega))
  have HBr_1 := hid (HBr.out.fr f1 (fun e => by have e : w1.heap.size = bn := e; have := HNE.out; omega))
  have HBf_1 := hid (HBf.out.fr f1 (fun e => by have e : w2.heap.size = bn := e; have := HNE.out; omega))
  clear hk1 hr1 f1 
  go_wp2_with fail
  refine (ptextOf_any _ _ _ _ y1 HK1.out).mono ?_
  rintro e y2 ⟨rfl, f2⟩
  have HR2 := hid (HR1.out.no f2); have HF2 := hid (HF1.out.trans' f2)
  have HBr_2 := hid (HBr_1.out.fr f2 id)
  have HBf_2 := hid (HBf_1.out.fr f2 id)
  clear f2
  obtain ⟨T0, hT0⟩ : ∃ x, sb (kidN n 0).body = x := ⟨_, rfl⟩
  rw [hT0]
  have HT0 := hid hT0
  clear hT0 k0
  go_wp2_with fail
  refine (pkidn_any d (Lo w.heap.size) bn n 1 y2 HR2.out (by have := HBN.out; show ¬ bn < w.heap.size; omega)).mono ?_
  rintro e y3 ⟨k3, rfl, hk3, hr3, f3⟩
  have HK3 := hid hk3; have HR3 := hid hr3; have HF3 := hid (HF2.out.trans f3 fun k e => .inr (by have e : k = bn := e; have := HBN.out; omega))
  have HBr_3 := hid (HBr_2.out.fr f3 (fun e => by have e : w1.heap.size = bn := e; have := HNE.out; omega))
  have HBf_3 := hid (HBf_2.out.fr f3 (fun e => by have e : w2.heap.size = bn := e; have := HNE.out; omega))
  clear hk3 hr3 f3 
  go_wp2_with fail
  refine (ptextOf_any _ _ _ _ y3 HK3.out).mono ?_
  rintro e y4 ⟨rfl, f4⟩
  have HR4 := hid (HR3.out.no f4); have HF4 := hid (HF3.out.trans' f4)
  have HBr_4 := hid (HBr_3.out.fr f4 id)
  have HBf_4 := hid (HBf_3.out.fr f4 id)
  clear f4
  obtain ⟨T1, hT1⟩ : ∃ x, sb (kidN n 1).body = x := ⟨_, rfl⟩
  rw [hT1]
  have HT1 := hid hT1
  clear hT1
  have HBfz := HBf_4
  go_wp2_with (first
    | ((with_reducible refine atO (.store 9 _ _) ?_); (fail_if_success (have := HU0)); refine wpL_setV rfl _ _ _ rfl w2.heap.size 2 (.string T0) rfl rfl rfl rfl _ _ HBfz.out (by simp) infoS ?_; intro u_0 HV0 FU0 HW0; have HU0 : Hid (Blk u_0 w2.heap.size 25 [.int .i64 3, .slice none 0 0, .string T0, .string ⟨#[]⟩, .string ⟨#[]⟩, .slice none 0 0, .string ⟨#[]⟩]) := hid HV0.out)
    | ((with_reducible refine atO (.store 9 _ _) ?_); (fail_if_success (have := HU1)); (have := HU0); refine wpL_setV rfl _ _ _ rfl w2.heap.size 3 (.string T1) rfl rfl rfl rfl _ _ HU0.out (by simp) infoS ?_; intro u_1 HV1 FU1 HW1; have HU1 : Hid (Blk u_1 w2.heap.size 25 [.int .i64 3, .slice none 0 0, .string T0, .string T1, .string ⟨#[]⟩, .slice none 0 0, .string ⟨#[]⟩]) := hid HV1.out)
    | ((with_reducible refine atO (.load 25 _) ?_); refine wpL_load rfl _ _ rfl w2.heap.size 0 rfl [.int .i64 3, .slice none 0 0, .string T0, .string T1, .string ⟨#[]⟩, .slice none 0 0, .string ⟨#[]⟩] _ (HU1.out.range 0 _ rfl) rfl rfl infoFl ?_)
    | ((with_reducible refine atO (.store 25 _ _) ?_); refine wpL_storeV rfl _ _ _ rfl w1.heap.size 0 (.agg #[.int .i64 3, .slice none 0 0, .string T0, .string T1, .string ⟨#[]⟩, .slice none 0 0, .string ⟨#[]⟩]) [.int .i64 3, .slice none 0 0, .string T0, .string T1, .string ⟨#[]⟩, .slice none 0 0, .string ⟨#[]⟩] rfl rfl rfl _ _ (Blk.fr ((Blk.fr (HBr_4.out) FU0.out (fun e => by have e : w1.heap.size = w2.heap.size := e; have := HSZ.out; omega))) FU1.out (fun e => by have e : w1.heap.size = w2.heap.size := e; have := HSZ.out; omega)) (by simp) infoFl (by intro u hu; simp at hu; rcases hu with rfl | rfl | rfl | rfl | rfl | rfl | rfl <;> rfl) ?_; intro wz HBz Fz HSz)
    | fail)
  refine ret_cell rfl _ rfl HBz.out rfl rfl infoFl rfl ?_
  have HFz : Fr No w wz := Fr.trans ((Fr.trans ((Fr.trans (HF4.out) FU0.out (fun k e => .inr (by have e : k = w2.heap.size := e; have := HSZ.out; omega)))) FU1.out (fun k e => .inr (by have e : k = w2.heap.size := e; have := HSZ.out; omega)))) Fz.out (fun k e => .inr (by have e : k = w1.heap.size := e; have := HSZ.out; omega))
  refine ⟨_, rfl, fl_leaf 3 ⟨by omega, by omega⟩ HT0.out.symm (kid_szN HD.out 0) HT1.out.symm (kid_szN HD.out 1) rfl (Nat.zero_le _) rfl (Nat.zero_le _) (tx_none _ _), HFz⟩
set_option maxHeartbeats 8000000 in
theorem pfo_5 (d : Nat) (S : Nat → Prop) (n : Nd) (cs : List Value) (w : World) (hn : NdAt (d + 1) S w n cs) (ho : okF (d + 1) n) (t : Nat) (ht : n.tag = (t : Int)) (ht2 : t ≤ 255) (hK : t % 32 = 5) : Calls Try.prog 58 #[.agg cs.toArray] w fun e w' =>
    ∃ ds, e = .returned (.agg ds.toArray) ∧ FlC (d + 1) (Since w.heap.size) w' (.mk 5 [] (kidN n 0).body (kidN n 1).body [] [] []) ds ∧ Fr No w w' := by
  have HN := hid (nd_lo hn.more); have HD := hid hn; have HOK := hid ho; have HT2 := hid ht2
  have HK := hid hK
  clear hK
  obtain ⟨a, sc, hcs, -, -, -⟩ := hn.head
  subst hcs
  rw [ht] at HN HD ⊢
  obtain ⟨bs, hbs⟩ : ∃ b, sb n.body = b := ⟨_, rfl⟩
  obtain ⟨kl, hkl⟩ : ∃ k, n.kids.length = k := ⟨_, rfl⟩
  rw [hbs, hkl] at HN HD ⊢
  have HBS := hid hbs
  clear hn ho ht ht2 hbs hkl
  go_enter Try.func58, Try.ntmps58
  go_wp2_with (first
    | ((with_reducible refine atO (.box 44 _) ?_); refine wpL_box rfl _ _ rfl _ rfl [.int .i64 (t : Int), .string bs, .slice a kl sc] rfl ?_; intro w1 HB1 F1 HS1)
    | ((with_reducible refine atO (.alloc 25) ?_); (fail_if_success (have := HB2)); refine wpL_alloc rfl _ rfl _ ME.zeroF [.int .i64 0, .slice none 0 0, .string ⟨#[]⟩, .string ⟨#[]⟩, .string ⟨#[]⟩, .slice none 0 0, .string ⟨#[]⟩] rfl ?_; intro w2 HB2 F2 HS2; have HB12 := hid (HB1.out.fr F2.out id); have HF2 := hid (F1.out.trans' F2.out); have c0 : w2.cell? ⟨w.heap.size, 0, none⟩ = some (.int .i64 (t : Int)) := HB12.out.cell 0)
    | ((with_reducible refine atO (.binOp .and 3 _ _ _) ?_); refine wpL_valZ rfl (.int .i64 (5 : Int)) (exec_and31 _ _ _ rfl t 5 HT2.out HK.out rfl rfl _) ?_)
    | ((with_reducible refine atO (.alloc 25) ?_); refine wpL_alloc rfl _ rfl _ ME.zeroF [.int .i64 0, .slice none 0 0, .string ⟨#[]⟩, .string ⟨#[]⟩, .string ⟨#[]⟩, .slice none 0 0, .string ⟨#[]⟩] rfl ?_; intro w3 HB3 F3 HS3)
    | ((with_reducible refine atO (.store 25 _ _) ?_); refine wpL_storeV rfl _ _ _ rfl w2.heap.size 0 (.agg #[.int .i64 5, .slice none 0 0, .string ⟨#[]⟩, .string ⟨#[]⟩, .string ⟨#[]⟩, .slice none 0 0, .string ⟨#[]⟩]) [.int .i64 5, .slice none 0 0, .string ⟨#[]⟩, .string ⟨#[]⟩, .string ⟨#[]⟩, .slice none 0 0, .string ⟨#[]⟩] rfl rfl rfl _ _ HB3.out (by simp) infoFl (by intro u hu; simp at hu; rcases hu with rfl | rfl | rfl | rfl | rfl | rfl | rfl <;> rfl) ?_; intro w4 HB4 F4 HS4; have HX4 : Hid (Blk w4 w.heap.size 44 [.int .i64 (t : Int), .string bs, .slice a kl sc]) := hid ((HB12.out.fr F3.out id).fr F4.out (fun e => by have e : w.heap.size = w2.heap.size := e; have := HS1.out; have := HS2.out; omega)))
    | ((with_reducible refine atO (.load 44 _) ?_); refine wpL_load rfl _ _ rfl w.heap.size 0 rfl [.int .i64 (t : Int), .string bs, .slice a kl sc] _ (HX4.out.range 0 _ rfl) rfl rfl infoN ?_)
    | fail)
  have HF4 : Hid (Fr No w w4) := hid ((HF2.out.trans' F3.out).trans F4.out fun k e => .inr (by have e : k = w2.heap.size := e; have := HF2.out.size; omega))
  have HR4 : Hid (Blk w4 w1.heap.size 25 [.int .i64 0, .slice none 0 0, .string ⟨#[]⟩, .string ⟨#[]⟩, .string ⟨#[]⟩, .slice none 0 0, .string ⟨#[]⟩]) := hid ((HB2.out.fr F3.out id).fr F4.out (fun e => by have e : w1.heap.size = w2.heap.size := e; have := HS2.out; omega))
  refine (pchildren_any (d + 1) (Lo w.heap.size) n [.int .i64 (t : Int), .string bs, .slice a kl sc] w4 (HN.out.no HF4.out)).mono ?_
  rintro e w5 ⟨bn, rfl, hbn, hr, f5⟩
  have HSZ : Hid (w1.heap.size = w.heap.size + 1 ∧ w2.heap.size = w1.heap.size + 1 ∧ w4.heap.size = w2.heap.size + 1) := hid (by have := HS1.out; have := HS2.out; have := HS3.out; have := HS4.out; omega)
  have HBN : Hid (w.heap.size ≤ bn) := hid (Nat.le_trans HF4.out.size hbn)
  have HNE : Hid (w2.heap.size < bn ∧ w1.heap.size < bn ∧ w.heap.size < bn) := hid (by have := HSZ.out; omega)
  have HR0 := hid hr.start; have HF5 := hid (HF4.out.trans' f5); have HBr := hid (HR4.out.fr f5 id); have HBf : Hid (Blk w5 w2.heap.size 25 [.int .i64 5, .slice none 0 0, .string ⟨#[]⟩, .string ⟨#[]⟩, .string ⟨#[]⟩, .slice none 0 0, .string ⟨#[]⟩]) := hid (HB4.out.fr f5 id); have HBx := hid (HX4.out.fr f5 id)
  have HL5 : Hid (w2.heap.size < w5.heap.size) := hid (by have := HSZ.out; have := f5.size; omega)
  have k0 : w5.cell? ⟨w2.heap.size, 0, none⟩ = some (.int .i64 5) := HBf.out.cell 0
  clear hbn hr f5 HB1 F1 HS1 HB2 F2 HS2 HB3 F3 HS3 HB4 F4 HS4 HB12 HF2 HX4 HR4 c0
  go_wp2_with fail
  refine (pkidn_any d (Lo w.heap.size) bn n 0 w5 HR0.out (by have := HBN.out; show ¬ bn < w.heap.size; omega)).mono ?_
  rintro e y1 ⟨k1, rfl, hk1, hr1, f1⟩
  have HK1 := hid hk1; have HR1 := hid hr1; have HF1 := hid (HF5.out.trans f1 fun k e => .inr (by have e : k = bn := e; have := HBN.out; omega))
  have HBr_1 := hid (HBr.out.fr f1 (fun e => by have e : w1.heap.size = bn := e; have := HNE.out; omega))
  have HBf_1 := hid (HBf.out.fr f1 (fun e => by have e : w2.heap.size = bn := e; have := HNE.out; omega))
  clear hk1 hr1 f1 
  go_wp2_with fail
  refine (ptextOf_any _ _ _ _ y1 HK1.out).mono ?_
  rintro e y2 ⟨rfl, f2⟩
  have HR2 := hid (HR1.out.no f2); have HF2 := hid (HF1.out.trans' f2)
  have HBr_2 := hid (HBr_1.out.fr f2 id)
  have HBf_2 := hid (HBf_1.out.fr f2 id)
  clear f2
  obtain ⟨T0, hT0⟩ : ∃ x, sb (kidN n 0).body = x := ⟨_, rfl⟩
  rw [hT0]
  have HT0 := hid hT0
  clear hT0 k0
  go_wp2_with fail
  refine (pkidn_any d (Lo w.heap.size) bn n 1 y2 HR2.out (by have := HBN.out; show ¬ bn < w.heap.size; omega)).mono ?_
  rintro e y3 ⟨k3, rfl, hk3, hr3, f3⟩
  have HK3 := hid hk3; have HR3 := hid hr3; have HF3 := hid (HF2.out.trans f3 fun k e => .inr (by have e : k = bn := e; have := HBN.out; omega))
  have HBr_3 := hid (HBr_2.out.fr f3 (fun e => by have e : w1.heap.size = bn := e; have := HNE.out; omega))
  have HBf_3 := hid (HBf_2.out.fr f3 (fun e => by have e : w2.heap.size = bn := e; have := HNE.out; omega))
  clear hk3 hr3 f3 
  go_wp2_with fail
  refine (ptextOf_any _ _ _ _ y3 HK3.out).mono ?_
  rintro e y4 ⟨rfl, f4⟩
  have HR4 := hid (HR3.out.no f4); have HF4 := hid (HF3.out.trans' f4)
  have HBr_4 := hid (HBr_3.out.fr f4 id)
  have HBf_4 := hid (HBf_3.out.fr f4 id)
  clear f4
  obtain ⟨T1, hT1⟩ : ∃ x, sb (kidN n 1).body = x := ⟨_, rfl⟩
  rw [hT1]
  have HT1 := hid hT1
  clear hT1
  have HBfz := HBf_4
  go_wp2_with (first
    | ((with_reducible refine atO (.store 9 _ _) ?_); (fail_if_success (have := HU0)); refine wpL_setV rfl _ _ _ rfl w2.heap.size 2 (.string T0) rfl rfl rfl rfl _ _ HBfz.out (by simp) infoS ?_; intro u_0 HV0 FU0 HW0; have HU0 : Hid (Blk u_0 w2.heap.size 25 [.int .i64 5, .slice none 0 0, .string T0, .string ⟨#[]⟩, .string ⟨#[]⟩, .slice none 0 0, .string ⟨#[]⟩]) := hid HV0.out)
    | ((with_reducible refine atO (.store 9 _ _) ?_); (fail_if_success (have := HU1)); (have := HU0); refine wpL_setV rfl _ _ _ rfl w2.heap.size 3 (.string T1) rfl rfl rfl rfl _ _ HU0.out (by simp) infoS ?_; intro u_1 HV1 FU1 HW1; have HU1 : Hid (Blk u_1 w2.heap.size 25 [.int .i64 5, .slice none 0 0, .string T0, .string T1, .string ⟨#[]⟩, .slice none 0 0, .string ⟨#[]⟩]) := hid HV1.out)
    | ((with_reducible refine atO (.load 25 _) ?_); refine wpL_load rfl _ _ rfl w2.heap.size 0 rfl [.int .i64 5, .slice none 0 0, .string T0, .string T1, .string ⟨#[]⟩, .slice none 0 0, .string ⟨#[]⟩] _ (HU1.out.range 0 _ rfl) rfl rfl infoFl ?_)
    | ((with_reducible refine atO (.store 25 _ _) ?_); refine wpL_storeV rfl _ _ _ rfl w1.heap.size 0 (.agg #[.int .i64 5, .slice none 0 0, .string T0, .string T1, .string ⟨#[]⟩, .slice none 0 0, .string ⟨#[]⟩]) [.int .i64 5, .slice none 0 0, .string T0, .string T1, .string ⟨#[]⟩, .slice none 0 0, .string ⟨#[]⟩] rfl rfl rfl _ _ (Blk.fr ((Blk.fr (HBr_4.out) FU0.out (fun e => by have e : w1.heap.size = w2.heap.size := e; have := HSZ.out; omega))) FU1.out (fun e => by have e : w1.heap.size = w2.heap.size := e; have := HSZ.out; omega)) (by simp) infoFl (by intro u hu; simp at hu; rcases hu with rfl | rfl | rfl | rfl | rfl | rfl | rfl <;> rfl) ?_; intro wz HBz Fz HSz)
    | fail)
  refine ret_cell rfl _ rfl HBz.out rfl rfl infoFl rfl ?_
  have HFz : Fr No w wz := Fr.trans ((Fr.trans ((Fr.trans (HF4.out) FU0.out (fun k e => .inr (by have e : k = w2.heap.size := e; have := HSZ.out; omega)))) FU1.out (fun k e => .inr (by have e : k = w2.heap.size := e; have := HSZ.out; omega)))) Fz.out (fun k e => .inr (by have e : k = w1.heap.size := e; have := HSZ.out; omega))
  refine ⟨_, rfl, fl_leaf 5 ⟨by omega, by omega⟩ HT0.out.symm (kid_szN HD.out 0) HT1.out.symm (kid_szN HD.out 1) rfl (Nat.zero_le _) rfl (Nat.zero_le _) (tx_none _ _), HFz⟩
set_option maxHeartbeats 8000000 in
theorem pfo_6 (d : Nat) (S : Nat → Prop) (n : Nd) (cs : List Value) (w : World) (hn : NdAt (d + 1) S w n cs) (ho : okF (d + 1) n) (t : Nat) (ht : n.tag = (t : Int)) (ht2 : t ≤ 255) (hK : t % 32 = 6) : Calls Try.prog 58 #[.agg cs.toArray] w fun e w' =>
    ∃ ds, e = .returned (.agg ds.toArray) ∧ FlC (d + 1) (Since w.heap.size) w' (.mk 6 [] (kidN n 0).body (kidN n 1).body [] [] []) ds ∧ Fr No w w' := by
  have HN := hid (nd_lo hn.more); have HD := hid hn; have HOK := hid ho; have HT2 := hid ht2
  have HK := hid hK
  clear hK
  obtain ⟨a, sc, hcs, -, -, -⟩ := hn.head
  subst hcs
  rw [ht] at HN HD ⊢
  obtain ⟨bs, hbs⟩ : ∃ b, sb n.body = b := ⟨_, rfl⟩
  obtain ⟨kl, hkl⟩ : ∃ k, n.kids.length = k := ⟨_, rfl⟩
  rw [hbs, hkl] at HN HD ⊢
  have HBS := hid hbs
  clear hn ho ht ht2 hbs hkl
  go_enter Try.func58, Try.ntmps58
  go_wp2_with (first
    | ((with_reducible refine atO (.box 44 _) ?_); refine wpL_box rfl _ _ rfl _ rfl [.int .i64 (t : Int), .string bs, .slice a kl sc] rfl ?_; intro w1 HB1 F1 HS1)
    | ((with_reducible refine atO (.alloc 25) ?_); (fail_if_success (have := HB2)); refine wpL_alloc rfl _ rfl _ ME.zeroF [.int .i64 0, .slice none 0 0, .string ⟨#[]⟩, .string ⟨#[]⟩, .string ⟨#[]⟩, .slice none 0 0, .string ⟨#[]⟩] rfl ?_; intro w2 HB2 F2 HS2; have HB12 := hid (HB1.out.fr F2.out id); have HF2 := hid (F1.out.trans' F2.out); have c0 : w2.cell? ⟨w.heap.size, 0, none⟩ = some (.int .i64 (t : Int)) := HB12.out.cell 0)
    | ((with_reducible refine atO (.binOp .and 3 _ _ _) ?_); refine wpL_valZ rfl (.int .i64 (6 : Int)) (exec_and31 _ _ _ rfl t 6 HT2.out HK.out rfl rfl _) ?_)
    | ((with_reducible refine atO (.alloc 25) ?_); refine wpL_alloc rfl _ rfl _ ME.zeroF [.int .i64 0, .slice none 0 0, .string ⟨#[]⟩, .string ⟨#[]⟩, .string ⟨#[]⟩, .slice none 0 0, .string ⟨#[]⟩] rfl ?_; intro w3 HB3 F3 HS3)
    | ((with_reducible refine atO (.store 25 _ _) ?_); refine wpL_storeV rfl _ _ _ rfl w2.heap.size 0 (.agg #[.int .i64 6, .slice none 0 0, .string ⟨#[]⟩, .string ⟨#[]⟩, .string ⟨#[]⟩, .slice none 0 0, .string ⟨#[]⟩]) [.int .i64 6, .slice none 0 0, .string ⟨#[]⟩, .string ⟨#[]⟩, .string ⟨#[]⟩, .slice none 0 0, .string ⟨#[]⟩] rfl rfl rfl _ _ HB3.out (by simp) infoFl (by intro u hu; simp at hu; rcases hu with rfl | rfl | rfl | rfl | rfl | rfl | rfl <;> rfl) ?_; intro w4 HB4 F4 HS4; have HX4 : Hid (Blk w4 w.heap.size 44 [.int .i64 (t : Int), .string bs, .slice a kl sc]) := hid ((HB12.out.fr F3.out id).fr F4.out (fun e => by have e : w.heap.size = w2.heap.size := e; have := HS1.out; have := HS2.out; omega)))
    | ((with_reducible refine atO (.load 44 _) ?_); refine wpL_load rfl _ _ rfl w.heap.size 0 rfl [.int .i64 (t : Int), .string bs, .slice a kl sc] _ (HX4.out.range 0 _ rfl) rfl rfl infoN ?_)
    | fail)
  have HF4 : Hid (Fr No w w4) := hid ((HF2.out.trans' F3.out).trans F4.out fun k e => .inr (by have e : k = w2.heap.size := e; have := HF2.out.size; omega))
  have HR4 : Hid (Blk w4 w1.heap.size 25 [.int .i64 0, .slice none 0 0, .string ⟨#[]⟩, .string ⟨#[]⟩, .string ⟨#[]⟩, .slice none 0 0, .string ⟨#[]⟩]) := hid ((HB2.out.fr F3.out id).fr F4.out (fun e => by have e : w1.heap.size = w2.heap.size := e; have := HS2.out; omega))
  refine (pchildren_any (d + 1) (Lo w.heap.size) n [.int .i64 (t : Int), .string bs, .slice a kl sc] w4 (HN.out.no HF4.out)).mono ?_
  rintro e w5 ⟨bn, rfl, hbn, hr, f5⟩
  have HSZ : Hid (w1.heap.size = w.heap.size + 1 ∧ w2.heap.size = w1.heap.size + 1 ∧ w4.heap.size = w2.heap.size + 1) := hid (by have := HS1.out; have := HS2.out; have := HS3.out; have := HS4.out; omega)
  have HBN : Hid (w.heap.size ≤ bn) := hid (Nat.le_trans HF4.out.size hbn)
  have HNE : Hid (w2.heap.size < bn ∧ w1.heap.size < bn ∧ w.heap.size < bn) := hid (by have := HSZ.out; omega)
  have HR0 := hid hr.start; have HF5 := hid (HF4.out.trans' f5); have HBr := hid (HR4.out.fr f5 id); have HBf : Hid (Blk w5 w2.heap.size 25 [.int .i64 6, .slice none 0 0, .string ⟨#[]⟩, .string ⟨#[]⟩, .string ⟨#[]⟩, .slice none 0 0, .string ⟨#[]⟩]) := hid (HB4.out.fr f5 id); have HBx := hid (HX4.out.fr f5 id)
  have HL5 : Hid (w2.heap.size < w5.heap.size) := hid (by have := HSZ.out; have := f5.size; omega)
  have k0 : w5.cell? ⟨w2.heap.size, 0, none⟩ = some (.int .i64 6) := HBf.out.cell 0
  clear hbn hr f5 HB1 F1 HS1 HB2 F2 HS2 HB3 F3 HS3 HB4 F4 HS4 HB12 HF2 HX4 HR4 c0
  go_wp2_with fail
  refine (pkidn_any d (Lo w.heap.size) bn n 0 w5 HR0.out (by have := HBN.out; show ¬ bn < w.heap.size; omega)).mono ?_
  rintro e y1 ⟨k1, rfl, hk1, hr1, f1⟩
  have HK1 := hid hk1; have HR1 := hid hr1; have HF1 := hid (HF5.out.trans f1 fun k e => .inr (by have e : k = bn := e; have := HBN.out; omega))
  have HBr_1 := hid (HBr.out.fr f1 (fun e => by have e : w1.heap.size = bn := e; have := HNE.out; omega))
  have HBf_1 := hid (HBf.out.fr f1 (fun e => by have e : w2.heap.size = bn := e; have := HNE.out; omega))
  clear hk1 hr1 f1 
  go_wp2_with fail
  refine (ptextOf_any _ _ _ _ y1 HK1.out).mono ?_
  rintro e y2 ⟨rfl, f2⟩
  have HR2 := hid (HR1.out.no f2); have HF2 := hid (HF1.out.trans' f2)
  have HBr_2 := hid (HBr_1.out.fr f2 id)
  have HBf_2 := hid (HBf_1.out.fr f2 id)
  clear f2
  obtain ⟨T0, hT0⟩ : ∃ x, sb (kidN n 0).body = x := ⟨_, rfl⟩
  rw [hT0]
  have HT0 := hid hT0
  clear hT0 k0
  go_wp2_with fail
  refine (pkidn_any d (Lo w.heap.size) bn n 1 y2 HR2.out (by have := HBN.out; show ¬ bn < w.heap.size; omega)).mono ?_
  rintro e y3 ⟨k3, rfl, hk3, hr3, f3⟩
  have HK3 := hid hk3; have HR3 := hid hr3; have HF3 := hid (HF2.out.trans f3 fun k e => .inr (by have e : k = bn := e; have := HBN.out; omega))
  have HBr_3 := hid (HBr_2.out.fr f3 (fun e => by have e : w1.heap.size = bn := e; have := HNE.out; omega))
  have HBf_3 := hid (HBf_2.out.fr f3 (fun e => by have e : w2.heap.size = bn := e; have := HNE.out; omega))
  clear hk3 hr3 f3 
  go_wp2_with fail
  refine (ptextOf_any _ _ _ _ y3 HK3.out).mono ?_
  rintro e y4 ⟨rfl, f4⟩
  have HR4 := hid (HR3.out.no f4); have HF4 := hid (HF3.out.trans' f4)
  have HBr_4 := hid (HBr_3.out.fr f4 id)
  have HBf_4 := hid (HBf_3.out.fr f4 id)
  clear f4
  obtain ⟨T1, hT1⟩ : ∃ x, sb (kidN n 1).body = x := ⟨_, rfl⟩
  rw [hT1]
  have HT1 := hid hT1
  clear hT1
  have HBfz := HBf_4
  go_wp2_with (first
    | ((with_reducible refine atO (.store 9 _ _) ?_); (fail_if_success (have := HU0)); refine wpL_setV rfl _ _ _ rfl w2.heap.size 2 (.string T0) rfl rfl rfl rfl _ _ HBfz.out (by simp) infoS ?_; intro u_0 HV0 FU0 HW0; have HU0 : Hid (Blk u_0 w2.heap.size 25 [.int .i64 6, .slice none 0 0, .string T0, .string ⟨#[]⟩, .string ⟨#[]⟩, .slice none 0 0, .string ⟨#[]⟩]) := hid HV0.out)
    | ((with_reducible refine atO (.store 9 _ _) ?_); (fail_if_success (have := HU1)); (have := HU0); refine wpL_setV rfl _ _ _ rfl w2.heap.size 3 (.string T1) rfl rfl rfl rfl _ _ HU0.out (by simp) infoS ?_; intro u_1 HV1 FU1 HW1; have HU1 : Hid (Blk u_1 w2.heap.size 25 [.int .i64 6, .slice none 0 0, .string T0, .string T1, .string ⟨#[]⟩, .slice none 0 0, .string ⟨#[]⟩]) := hid HV1.out)
    | ((with_reducible refine atO (.load 25 _) ?_); refine wpL_load rfl _ _ rfl w2.heap.size 0 rfl [.int .i64 6, .slice none 0 0, .string T0, .string T1, .string ⟨#[]⟩, .slice none 0 0, .string ⟨#[]⟩] _ (HU1.out.range 0 _ rfl) rfl rfl infoFl ?_)
    | ((with_reducible refine atO (.store 25 _ _) ?_); refine wpL_storeV rfl _ _ _ rfl w1.heap.size 0 (.agg #[.int .i64 6, .slice none 0 0, .string T0, .string T1, .string ⟨#[]⟩, .slice none 0 0, .string ⟨#[]⟩]) [.int .i64 6, .slice none 0 0, .string T0, .string T1, .string ⟨#[]⟩, .slice none 0 0, .string ⟨#[]⟩] rfl rfl rfl _ _ (Blk.fr ((Blk.fr (HBr_4.out) FU0.out (fun e => by have e : w1.heap.size = w2.heap.size := e; have := HSZ.out; omega))) FU1.out (fun e => by have e : w1.heap.size = w2.heap.size := e; have := HSZ.out; omega)) (by simp) infoFl (by intro u hu; simp at hu; rcases hu with rfl | rfl | rfl | rfl | rfl | rfl | rfl <;> rfl) ?_; intro wz HBz Fz HSz)
    | fail)
  refine ret_cell rfl _ rfl HBz.out rfl rfl infoFl rfl ?_
  have HFz : Fr No w wz := Fr.trans ((Fr.trans ((Fr.trans (HF4.out) FU0.out (fun k e => .inr (by have e : k = w2.heap.size := e; have := HSZ.out; omega)))) FU1.out (fun k e => .inr (by have e : k = w2.heap.size := e; have := HSZ.out; omega)))) Fz.out (fun k e => .inr (by have e : k = w1.heap.size := e; have := HSZ.out; omega))
  refine ⟨_, rfl, fl_leaf 6 ⟨by omega, by omega⟩ HT0.out.symm (kid_szN HD.out 0) HT1.out.symm (kid_szN HD.out 1) rfl (Nat.zero_le _) rfl (Nat.zero_le _) (tx_none _ _), HFz⟩
set_option maxHeartbeats 8000000 in
theorem pfo_7 (d : Nat) (S : Nat → Prop) (n : Nd) (cs : List Value) (w : World) (hn : NdAt (d + 1) S w n cs) (ho : okF (d + 1) n) (t : Nat) (ht : n.tag = (t : Int)) (ht2 : t ≤ 255) (hK : t % 32 = 7) : Calls Try.prog 58 #[.agg cs.toArray] w fun e w' =>
    ∃ ds, e = .returned (.agg ds.toArray) ∧ FlC (d + 1) (Since w.heap.size) w' (.mk 7 [] n.body [] [] [] []) ds ∧ Fr No w w' := by
  have HN := hid (nd_lo hn.more); have HD := hid hn; have HOK := hid ho; have HT2 := hid ht2
  have HK := hid hK
  clear hK
  obtain ⟨a, sc, hcs, -, -, -⟩ := hn.head
  subst hcs
  rw [ht] at HN HD ⊢
  obtain ⟨bs, hbs⟩ : ∃ b, sb n.body = b := ⟨_, rfl⟩
  obtain ⟨kl, hkl⟩ : ∃ k, n.kids.length = k := ⟨_, rfl⟩
  rw [hbs, hkl] at HN HD ⊢
  have HBS := hid hbs
  clear hn ho ht ht2 hbs hkl
  go_enter Try.func58, Try.ntmps58
  go_wp2_with (first
    | ((with_reducible refine atO (.box 44 _) ?_); refine wpL_box rfl _ _ rfl _ rfl [.int .i64 (t : Int), .string bs, .slice a kl sc] rfl ?_; intro w1 HB1 F1 HS1)
    | ((with_reducible refine atO (.alloc 25) ?_); (fail_if_success (have := HB2)); refine wpL_alloc rfl _ rfl _ ME.zeroF [.int .i64 0, .slice none 0 0, .string ⟨#[]⟩, .string ⟨#[]⟩, .string ⟨#[]⟩, .slice none 0 0, .string ⟨#[]⟩] rfl ?_; intro w2 HB2 F2 HS2; have HB12 := hid (HB1.out.fr F2.out id); have HF2 := hid (F1.out.trans' F2.out); have c0 : w2.cell? ⟨w.heap.size, 0, none⟩ = some (.int .i64 (t : Int)) := HB12.out.cell 0)
    | ((with_reducible refine atO (.binOp .and 3 _ _ _) ?_); refine wpL_valZ rfl (.int .i64 (7 : Int)) (exec_and31 _ _ _ rfl t 7 HT2.out HK.out rfl rfl _) ?_)
    | ((with_reducible refine atO (.alloc 25) ?_); refine wpL_alloc rfl _ rfl _ ME.zeroF [.int .i64 0, .slice none 0 0, .string ⟨#[]⟩, .string ⟨#[]⟩, .string ⟨#[]⟩, .slice none 0 0, .string ⟨#[]⟩] rfl ?_; intro w3 HB3 F3 HS3)
    | ((with_reducible refine atO (.store 25 _ _) ?_); refine wpL_storeV rfl _ _ _ rfl w2.heap.size 0 (.agg #[.int .i64 7, .slice none 0 0, .string ⟨#[]⟩, .string ⟨#[]⟩, .string ⟨#[]⟩, .slice none 0 0, .string ⟨#[]⟩]) [.int .i64 7, .slice none 0 0, .string ⟨#[]⟩, .string ⟨#[]⟩, .string ⟨#[]⟩, .slice none 0 0, .string ⟨#[]⟩] rfl rfl rfl _ _ HB3.out (by simp) infoFl (by intro u hu; simp at hu; rcases hu with rfl | rfl | rfl | rfl | rfl | rfl | rfl <;> rfl) ?_; intro w4 HB4 F4 HS4; have HX4 : Hid (Blk w4 w.heap.size 44 [.int .i64 (t : Int), .string bs, .slice a kl sc]) := hid ((HB12.out.fr F3.out id).fr F4.out (fun e => by have e : w.heap.size = w2.heap.size := e; have := HS1.out; have := HS2.out; omega)))
    | ((with_reducible refine atO (.load 44 _) ?_); refine wpL_load rfl _ _ rfl w.heap.size 0 rfl [.int .i64 (t : Int), .string bs, .slice a kl sc] _ (HX4.out.range 0 _ rfl) rfl rfl infoN ?_)
    | fail)
  have HF4 : Hid (Fr No w w4) := hid ((HF2.out.trans' F3.out).trans F4.out fun k e => .inr (by have e : k = w2.heap.size := e; have := HF2.out.size; omega))
  have HR4 : Hid (Blk w4 w1.heap.size 25 [.int .i64 0, .slice none 0 0, .string ⟨#[]⟩, .string ⟨#[]⟩, .string ⟨#[]⟩, .slice none 0 0, .string ⟨#[]⟩]) := hid ((HB2.out.fr F3.out id).fr F4.out (fun e => by have e : w1.heap.size = w2.heap.size := e; have := HS2.out; omega))
  refine (pchildren_any (d + 1) (Lo w.heap.size) n [.int .i64 (t : Int), .string bs, .slice a kl sc] w4 (HN.out.no HF4.out)).mono ?_
  rintro e w5 ⟨bn, rfl, hbn, hr, f5⟩
  have HSZ : Hid (w1.heap.size = w.heap.size + 1 ∧ w2.heap.size = w1.heap.size + 1 ∧ w4.heap.size = w2.heap.size + 1) := hid (by have := HS1.out; have := HS2.out; have := HS3.out; have := HS4.out; omega)
  have HBN : Hid (w.heap.size ≤ bn) := hid (Nat.le_trans HF4.out.size hbn)
  have HNE : Hid (w2.heap.size < bn ∧ w1.heap.size < bn ∧ w.heap.size < bn) := hid (by have := HSZ.out; omega)
  have HR0 := hid hr.start; have HF5 := hid (HF4.out.trans' f5); have HBr := hid (HR4.out.fr f5 id); have HBf : Hid (Blk w5 w2.heap.size 25 [.int .i64 7, .slice none 0 0, .string ⟨#[]⟩, .string ⟨#[]⟩, .string ⟨#[]⟩, .slice none 0 0, .string ⟨#[]⟩]) := hid (HB4.out.fr f5 id); have HBx := hid (HX4.out.fr f5 id)
  have HL5 : Hid (w2.heap.size < w5.heap.size) := hid (by have := HSZ.out; have := f5.size; omega)
  have k0 : w5.cell? ⟨w2.heap.size, 0, none⟩ = some (.int .i64 7) := HBf.out.cell 0
  clear hbn hr f5 HB1 F1 HS1 HB2 F2 HS2 HB3 F3 HS3 HB4 F4 HS4 HB12 HF2 HX4 HR4 c0
  go_wp2_with (first
    | ((with_reducible refine atO (.load 44 _) ?_); refine wpL_load rfl _ _ rfl w.heap.size 0 rfl [.int .i64 (t : Int), .string bs, .slice a kl sc] _ (HBx.out.range 0 _ rfl) rfl rfl infoN ?_)
    | fail)
  refine (ptextOf_any _ S n [.int .i64 (t : Int), .string bs, .slice a kl sc] w5 (HD.out.no HF5.out)).mono ?_
  rintro e w6 ⟨rfl, f6⟩
  rw [HBS.out]
  have HF6 := hid (HF5.out.trans' f6); have HBrz := hid (HBr.out.fr f6 id); have HBfz := hid (HBf.out.fr f6 id)
  clear f6 k0
  go_wp2_with (first
    | ((with_reducible refine atO (.store 9 _ _) ?_); (fail_if_success (have := HU0)); refine wpL_setV rfl _ _ _ rfl w2.heap.size 2 (.string bs) rfl rfl rfl rfl _ _ HBfz.out (by simp) infoS ?_; intro u_0 HV0 FU0 HW0; have HU0 : Hid (Blk u_0 w2.heap.size 25 [.int .i64 7, .slice none 0 0, .string bs, .string ⟨#[]⟩, .string ⟨#[]⟩, .slice none 0 0, .string ⟨#[]⟩]) := hid HV0.out)
    | ((with_reducible refine atO (.load 25 _) ?_); refine wpL_load rfl _ _ rfl w2.heap.size 0 rfl [.int .i64 7, .slice none 0 0, .string bs, .string ⟨#[]⟩, .string ⟨#[]⟩, .slice none 0 0, .string ⟨#[]⟩] _ (HU0.out.range 0 _ rfl) rfl rfl infoFl ?_)
    | ((with_reducible refine atO (.store 25 _ _) ?_); refine wpL_storeV rfl _ _ _ rfl w1.heap.size 0 (.agg #[.int .i64 7, .slice none 0 0, .string bs, .string ⟨#[]⟩, .string ⟨#[]⟩, .slice none 0 0, .string ⟨#[]⟩]) [.int .i64 7, .slice none 0 0, .string bs, .string ⟨#[]⟩, .string ⟨#[]⟩, .slice none 0 0, .string ⟨#[]⟩] rfl rfl rfl _ _ (Blk.fr (HBrz.out) FU0.out (fun e => by have e : w1.heap.size = w2.heap.size := e; have := HSZ.out; omega)) (by simp) infoFl (by intro u hu; simp at hu; rcases hu with rfl | rfl | rfl | rfl | rfl | rfl | rfl <;> rfl) ?_; intro wz HBz Fz HSz)
    | fail)
  refine ret_cell rfl _ rfl HBz.out rfl rfl infoFl rfl ?_
  have HFz : Fr No w wz := Fr.trans ((Fr.trans (HF6.out) FU0.out (fun k e => .inr (by have e : k = w2.heap.size := e; have := HSZ.out; omega)))) Fz.out (fun k e => .inr (by have e : k = w1.heap.size := e; have := HSZ.out; omega))
  refine ⟨_, rfl, fl_leaf 7 ⟨by omega, by omega⟩ HBS.out.symm (kid_sz HD.out) rfl (Nat.zero_le _) rfl (Nat.zero_le _) rfl (Nat.zero_le _) (tx_none _ _), HFz⟩
set_option maxHeartbeats 8000000 in
theorem pfo_4 (d : Nat) (S : Nat → Prop) (n : Nd) (cs : List Value) (w : World) (hn : NdAt (d + 1) S w n cs) (ho : okF (d + 1) n) (t : Nat) (ht : n.tag = (t : Int)) (ht2 : t ≤ 255) (hK : t % 32 = 4) : Calls Try.prog 58 #[.agg cs.toArray] w fun e w' =>
    ∃ ds, e = .returned (.agg ds.toArray) ∧ FlC (d + 1) (Since w.heap.size) w' (.mk 4 [] (kidN n 0).body [] (partsR (kidN n 1).kids).1 (partsR (kidN n 1).kids).2.1 (partsR (kidN n 1).kids).2.2) ds ∧ Fr No w w' := by
  have HN := hid (nd_lo hn.more); have HD := hid hn; have HOK := hid ho; have HT2 := hid ht2
  have HK := hid hK
  clear hK
  obtain ⟨a, sc, hcs, -, -, -⟩ := hn.head
  subst hcs
  rw [ht] at HN HD ⊢
  obtain ⟨bs, hbs⟩ : ∃ b, sb n.body = b := ⟨_, rfl⟩
  obtain ⟨kl, hkl⟩ : ∃ k, n.kids.length = k := ⟨_, rfl⟩
  rw [hbs, hkl] at HN HD ⊢
  have HBS := hid hbs
  clear hn ho ht ht2 hbs hkl
  go_enter Try.func58, Try.ntmps58
  go_wp2_with (first
    | ((with_reducible refine atO (.box 44 _) ?_); refine wpL_box rfl _ _ rfl _ rfl [.int .i64 (t : Int), .string bs, .slice a kl sc] rfl ?_; intro w1 HB1 F1 HS1)
    | ((with_reducible refine atO (.alloc 25) ?_); (fail_if_success (have := HB2)); refine wpL_alloc rfl _ rfl _ ME.zeroF [.int .i64 0, .slice none 0 0, .string ⟨#[]⟩, .string ⟨#[]⟩, .string ⟨#[]⟩, .slice none 0 0, .string ⟨#[]⟩] rfl ?_; intro w2 HB2 F2 HS2; have HB12 := hid (HB1.out.fr F2.out id); have HF2 := hid (F1.out.trans' F2.out); have c0 : w2.cell? ⟨w.heap.size, 0, none⟩ = some (.int .i64 (t : Int)) := HB12.out.cell 0)
    | ((with_reducible refine atO (.binOp .and 3 _ _ _) ?_); refine wpL_valZ rfl (.int .i64 (4 : Int)) (exec_and31 _ _ _ rfl t 4 HT2.out HK.out rfl rfl _) ?_)
    | ((with_reducible refine atO (.alloc 25) ?_); refine wpL_alloc rfl _ rfl _ ME.zeroF [.int .i64 0, .slice none 0 0, .string ⟨#[]⟩, .string ⟨#[]⟩, .string ⟨#[]⟩, .slice none 0 0, .string ⟨#[]⟩] rfl ?_; intro w3 HB3 F3 HS3)
    | ((with_reducible refine atO (.store 25 _ _) ?_); refine wpL_storeV rfl _ _ _ rfl w2.heap.size 0 (.agg #[.int .i64 4, .slice none 0 0, .string ⟨#[]⟩, .string ⟨#[]⟩, .string ⟨#[]⟩, .slice none 0 0, .string ⟨#[]⟩]) [.int .i64 4, .slice none 0 0, .string ⟨#[]⟩, .string ⟨#[]⟩, .string ⟨#[]⟩, .slice none 0 0, .string ⟨#[]⟩] rfl rfl rfl _ _ HB3.out (by simp) infoFl (by intro u hu; simp at hu; rcases hu with rfl | rfl | rfl | rfl | rfl | rfl | rfl <;> rfl) ?_; intro w4 HB4 F4 HS4; have HX4 : Hid (Blk w4 w.heap.size 44 [.int .i64 (t : Int), .string bs, .slice a kl sc]) := hid ((HB12.out.fr F3.out id).fr F4.out (fun e => by have e : w.heap.size = w2.heap.size := e; have := HS1.out; have := HS2.out; omega)))
    | ((with_reducible refine atO (.load 44 _) ?_); refine wpL_load rfl _ _ rfl w.heap.size 0 rfl [.int .i64 (t : Int), .string bs, .slice a kl sc] _ (HX4.out.range 0 _ rfl) rfl rfl infoN ?_)
    | fail)
  have HF4 : Hid (Fr No w w4) := hid ((HF2.out.trans' F3.out).trans F4.out fun k e => .inr (by have e : k = w2.heap.size := e; have := HF2.out.size; omega))
  have HR4 : Hid (Blk w4 w1.heap.size 25 [.int .i64 0, .slice none 0 0, .string ⟨#[]⟩, .string ⟨#[]⟩, .string ⟨#[]⟩, .slice none 0 0, .string ⟨#[]⟩]) := hid ((HB2.out.fr F3.out id).fr F4.out (fun e => by have e : w1.heap.size = w2.heap.size := e; have := HS2.out; omega))
  refine (pchildren_any (d + 1) (Lo w.heap.size) n [.int .i64 (t : Int), .string bs, .slice a kl sc] w4 (HN.out.no HF4.out)).mono ?_
  rintro e w5 ⟨bn, rfl, hbn, hr, f5⟩
  have HSZ : Hid (w1.heap.size = w.heap.size + 1 ∧ w2.heap.size = w1.heap.size + 1 ∧ w4.heap.size = w2.heap.size + 1) := hid (by have := HS1.out; have := HS2.out; have := HS3.out; have := HS4.out; omega)
  have HBN : Hid (w.heap.size ≤ bn) := hid (Nat.le_trans HF4.out.size hbn)
  have HNE : Hid (w2.heap.size < bn ∧ w1.heap.size < bn ∧ w.heap.size < bn) := hid (by have := HSZ.out; omega)
  have HR0 := hid hr.start; have HF5 := hid (HF4.out.trans' f5); have HBr := hid (HR4.out.fr f5 id); have HBf : Hid (Blk w5 w2.heap.size 25 [.int .i64 4, .slice none 0 0, .string ⟨#[]⟩, .string ⟨#[]⟩, .string ⟨#[]⟩, .slice none 0 0, .string ⟨#[]⟩]) := hid (HB4.out.fr f5 id); have HBx := hid (HX4.out.fr f5 id)
  have HL5 : Hid (w2.heap.size < w5.heap.size) := hid (by have := HSZ.out; have := f5.size; omega)
  have k0 : w5.cell? ⟨w2.heap.size, 0, none⟩ = some (.int .i64 4) := HBf.out.cell 0
  clear hbn hr f5 HB1 F1 HS1 HB2 F2 HS2 HB3 F3 HS3 HB4 F4 HS4 HB12 HF2 HX4 HR4 c0
  go_wp2_with fail
  refine (pkidn_any d (Lo w.heap.size) bn n 0 w5 HR0.out (by have := HBN.out; show ¬ bn < w.heap.size; omega)).mono ?_
  rintro e y1 ⟨k1, rfl, hk1, hr1, f1⟩
  have HK1 := hid hk1; have HR1 := hid hr1; have HF1 := hid (HF5.out.trans f1 fun k e => .inr (by have e : k = bn := e; have := HBN.out; omega))
  have HBr_1 := hid (HBr.out.fr f1 (fun e => by have e : w1.heap.size = bn := e; have := HNE.out; omega))
  have HBf_1 := hid (HBf.out.fr f1 (fun e => by have e : w2.heap.size = bn := e; have := HNE.out; omega))
  clear hk1 hr1 f1 
  go_wp2_with fail
  refine (ptextOf_any _ _ _ _ y1 HK1.out).mono ?_
  rintro e y2 ⟨rfl, f2⟩
  have HR2 := hid (HR1.out.no f2); have HF2 := hid (HF1.out.trans' f2)
  have HBr_2 := hid (HBr_1.out.fr f2 id)
  have HBf_2 := hid (HBf_1.out.fr f2 id)
  clear f2
  obtain ⟨T0, hT0⟩ : ∃ x, sb (kidN n 0).body = x := ⟨_, rfl⟩
  rw [hT0]
  have HT0 := hid hT0
  clear hT0 k0
  go_wp2_with (first
    | ((with_reducible refine atO (.store 9 _ _) ?_); (fail_if_success (have := HU0)); refine wpL_setV rfl _ _ _ rfl w2.heap.size 2 (.string T0) rfl rfl rfl rfl _ _ HBf_2.out (by simp) infoS ?_; intro u_0 HV0 FU0 HW0; have HU0 : Hid (Blk u_0 w2.heap.size 25 [.int .i64 4, .slice none 0 0, .string T0, .string ⟨#[]⟩, .string ⟨#[]⟩, .slice none 0 0, .string ⟨#[]⟩]) := hid HV0.out)
    | fail)
  have HFq := hid (HF2.out.trans FU0.out fun k e => .inr (by have e : k = w2.heap.size := e; have := HSZ.out; omega))
  have HRq : Hid (Rest (d + 1) (Lo w.heap.size) u_0 bn (n.kids.drop 1)) := hid (HR2.out.fr FU0.out (fun i hi _ e => by have h : i < w.heap.size := hi; have e : i = w2.heap.size := e; have := HSZ.out; omega) (fun e => by have e : bn = w2.heap.size := e; have := HNE.out; omega))
  have HBrq := hid (HBr_2.out.fr FU0.out (fun e => by have e : w1.heap.size = w2.heap.size := e; have := HSZ.out; omega))
  refine (pkidn_any d (Lo w.heap.size) bn n 1 u_0 HRq.out (by have := HBN.out; show ¬ bn < w.heap.size; omega)).mono ?_
  rintro e y3 ⟨k3, rfl, hk3, hr3, f3⟩
  have HK3 := hid hk3; have HR3 := hid hr3; have HF3 := hid (HFq.out.trans f3 fun k e => .inr (by have e : k = bn := e; have := HBN.out; omega))
  have HBr_3 := hid (HBrq.out.fr f3 (fun e => by have e : w1.heap.size = bn := e; have := HNE.out; omega))
  have HBf_3 := hid (HU0.out.fr f3 (fun e => by have e : w2.heap.size = bn := e; have := HNE.out; omega))
  clear hk3 hr3 f3 
  go_wp2_with fail
  refine (preadParts_any d (Lo w.heap.size) (kidN n 1) k3 y3 w2.heap.size T0 HK3.out (by show ¬ w2.heap.size < w.heap.size; have := HSZ.out; omega) (by have := HOK.out.kid 1; omega) HBf_3.out).mono ?_
  rintro e w7 ⟨rfl, v, hb7, hv7, hz1, hz2, f7⟩
  have HV := hid hv7; have HZ1 := hid hz1; have HZ2 := hid hz2; have HF7 := hid f7
  obtain ⟨va, vc, rfl, -, -⟩ := hv7.form
  obtain ⟨FI, hFI⟩ : ∃ x, sb (partsR (kidN n 1).kids).1 = x := ⟨_, rfl⟩
  obtain ⟨LA, hLA⟩ : ∃ x, sb (partsR (kidN n 1).kids).2.2 = x := ⟨_, rfl⟩
  obtain ⟨vl, hvl⟩ : ∃ k, (partsR (kidN n 1).kids).2.1.length = k := ⟨_, rfl⟩
  rw [hFI, hLA, hvl] at hb7
  rw [hvl] at HV
  have HBfz := hid hb7; have HFI := hid hFI; have HLA := hid hLA
  have HFw7 : Hid (Fr No w w7) := hid (HF3.out.trans f7 fun k e => .inr (by have e : k = w2.heap.size := e; have := HSZ.out; omega))
  have HBrz := hid (HBr_3.out.fr f7 (fun e => by have e : w1.heap.size = w2.heap.size := e; have := HSZ.out; omega))
  have HL7 : Hid (w2.heap.size < y3.heap.size) := hid (by have h := HR3.out.lt; have := HNE.out; omega)
  clear hb7 hv7 hz1 hz2 f7 hFI hLA hvl HV0 FU0 HW0
  go_wp2_with (first
    | ((with_reducible refine atO (.load 25 _) ?_); refine wpL_load rfl _ _ rfl w2.heap.size 0 rfl [.int .i64 4, .slice none 0 0, .string T0, .string ⟨#[]⟩, .string FI, .slice va vl vc, .string LA] _ (HBfz.out.range 0 _ rfl) rfl rfl infoFl ?_)
    | ((with_reducible refine atO (.store 25 _ _) ?_); refine wpL_storeV rfl _ _ _ rfl w1.heap.size 0 (.agg #[.int .i64 4, .slice none 0 0, .string T0, .string ⟨#[]⟩, .string FI, .slice va vl vc, .string LA]) [.int .i64 4, .slice none 0 0, .string T0, .string ⟨#[]⟩, .string FI, .slice va vl vc, .string LA] rfl rfl rfl _ _ HBrz.out (by simp) infoFl (by intro u hu; simp at hu; rcases hu with rfl | rfl | rfl | rfl | rfl | rfl | rfl <;> rfl) ?_; intro wz HBz Fz HSz)
    | fail)
  refine ret_cell rfl _ rfl HBz.out rfl rfl infoFl rfl ?_
  have HFz : Fr No w wz := Fr.trans (HFw7.out) Fz.out (fun k e => .inr (by have e : k = w1.heap.size := e; have := HSZ.out; omega))
  refine ⟨_, rfl, fl_leaf 4 ⟨by omega, by omega⟩ HT0.out.symm (kid_szN HD.out 0) rfl (Nat.zero_le _) HFI.out.symm HZ1.out HLA.out.symm HZ2.out ((HV.out.fr Fz.out (fun k hk _ e => by have h : y3.heap.size ≤ k := hk; have e : k = w1.heap.size := e; have := HL7.out; have := HSZ.out; omega)).monoS (fun k _ hk => Nat.le_trans HF3.out.size hk)), HFz⟩
set_option maxHeartbeats 8000000 in
theorem pfo_x (d : Nat) (S : Nat → Prop) (n : Nd) (cs : List Value) (w : World) (hn : NdAt (d + 1) S w n cs) (ho : okF (d + 1) n) (t : Nat) (ht : n.tag = (t : Int)) (ht2 : t ≤ 255) (K : Nat) (hK : t % 32 = K) (hx : ¬ (K : Int) = 0 ∧ ¬ (K : Int) = 1 ∧ ¬ (K : Int) = 2 ∧ ¬ (K : Int) = 3 ∧ ¬ (K : Int) = 4 ∧ ¬ (K : Int) = 5 ∧ ¬ (K : Int) = 6 ∧ ¬ (K : Int) = 7) : Calls Try.prog 58 #[.agg cs.toArray] w fun e w' =>
    ∃ ds, e = .returned (.agg ds.toArray) ∧ FlC (d + 1) (Since w.heap.size) w' (.mk (K : Int) [] [] [] [] [] []) ds ∧ Fr No w w' := by
  have HN := hid (nd_lo hn.more); have HD := hid hn; have HOK := hid ho; have HT2 := hid ht2
  have HK := hid hK
  have g0 := nbi _ _ hx.1
  have g1 := nbi _ _ hx.2.1
  have g2 := nbi _ _ hx.2.2.1
  have g3 := nbi _ _ hx.2.2.2.1
  have g4 := nbi _ _ hx.2.2.2.2.1
  have g5 := nbi _ _ hx.2.2.2.2.2.1
  have g6 := nbi _ _ hx.2.2.2.2.2.2.1
  have g7 := nbi _ _ hx.2.2.2.2.2.2.2
  have HKL : Hid (K < 32) := hid (by omega)
  clear hK hx
  obtain ⟨a, sc, hcs, -, -, -⟩ := hn.head
  subst hcs
  rw [ht] at HN HD ⊢
  obtain ⟨bs, hbs⟩ : ∃ b, sb n.body = b := ⟨_, rfl⟩
  obtain ⟨kl, hkl⟩ : ∃ k, n.kids.length = k := ⟨_, rfl⟩
  rw [hbs, hkl] at HN HD ⊢
  have HBS := hid hbs
  clear hn ho ht ht2 hbs hkl
  go_enter Try.func58, Try.ntmps58
  go_wp2_with (first
    | ((with_reducible refine atO (.box 44 _) ?_); refine wpL_box rfl _ _ rfl _ rfl [.int .i64 (t : Int), .string bs, .slice a kl sc] rfl ?_; intro w1 HB1 F1 HS1)
    | ((with_reducible refine atO (.alloc 25) ?_); (fail_if_success (have := HB2)); refine wpL_alloc rfl _ rfl _ ME.zeroF [.int .i64 0, .slice none 0 0, .string ⟨#[]⟩, .string ⟨#[]⟩, .string ⟨#[]⟩, .slice none 0 0, .string ⟨#[]⟩] rfl ?_; intro w2 HB2 F2 HS2; have HB12 := hid (HB1.out.fr F2.out id); have HF2 := hid (F1.out.trans' F2.out); have c0 : w2.cell? ⟨w.heap.size, 0, none⟩ = some (.int .i64 (t : Int)) := HB12.out.cell 0)
    | ((with_reducible refine atO (.binOp .and 3 _ _ _) ?_); refine wpL_valZ rfl (.int .i64 (K : Int)) (exec_and31 _ _ _ rfl t K HT2.out HK.out rfl rfl _) ?_)
    | ((with_reducible refine atO (.alloc 25) ?_); refine wpL_alloc rfl _ rfl _ ME.zeroF [.int .i64 0, .slice none 0 0, .string ⟨#[]⟩, .string ⟨#[]⟩, .string ⟨#[]⟩, .slice none 0 0, .string ⟨#[]⟩] rfl ?_; intro w3 HB3 F3 HS3)
    | ((with_reducible refine atO (.store 25 _ _) ?_); refine wpL_storeV rfl _ _ _ rfl w2.heap.size 0 (.agg #[.int .i64 K, .slice none 0 0, .string ⟨#[]⟩, .string ⟨#[]⟩, .string ⟨#[]⟩, .slice none 0 0, .string ⟨#[]⟩]) [.int .i64 K, .slice none 0 0, .string ⟨#[]⟩, .string ⟨#[]⟩, .string ⟨#[]⟩, .slice none 0 0, .string ⟨#[]⟩] rfl rfl rfl _ _ HB3.out (by simp) infoFl (by intro u hu; simp at hu; rcases hu with rfl | rfl | rfl | rfl | rfl | rfl | rfl <;> rfl) ?_; intro w4 HB4 F4 HS4; have HX4 : Hid (Blk w4 w.heap.size 44 [.int .i64 (t : Int), .string bs, .slice a kl sc]) := hid ((HB12.out.fr F3.out id).fr F4.out (fun e => by have e : w.heap.size = w2.heap.size := e; have := HS1.out; have := HS2.out; omega)))
    | ((with_reducible refine atO (.load 44 _) ?_); refine wpL_load rfl _ _ rfl w.heap.size 0 rfl [.int .i64 (t : Int), .string bs, .slice a kl sc] _ (HX4.out.range 0 _ rfl) rfl rfl infoN ?_)
    | fail)
  have HF4 : Hid (Fr No w w4) := hid ((HF2.out.trans' F3.out).trans F4.out fun k e => .inr (by have e : k = w2.heap.size := e; have := HF2.out.size; omega))
  have HR4 : Hid (Blk w4 w1.heap.size 25 [.int .i64 0, .slice none 0 0, .string ⟨#[]⟩, .string ⟨#[]⟩, .string ⟨#[]⟩, .slice none 0 0, .string ⟨#[]⟩]) := hid ((HB2.out.fr F3.out id).fr F4.out (fun e => by have e : w1.heap.size = w2.heap.size := e; have := HS2.out; omega))
  refine (pchildren_any (d + 1) (Lo w.heap.size) n [.int .i64 (t : Int), .string bs, .slice a kl sc] w4 (HN.out.no HF4.out)).mono ?_
  rintro e w5 ⟨bn, rfl, hbn, hr, f5⟩
  have HSZ : Hid (w1.heap.size = w.heap.size + 1 ∧ w2.heap.size = w1.heap.size + 1 ∧ w4.heap.size = w2.heap.size + 1) := hid (by have := HS1.out; have := HS2.out; have := HS3.out; have := HS4.out; omega)
  have HBN : Hid (w.heap.size ≤ bn) := hid (Nat.le_trans HF4.out.size hbn)
  have HNE : Hid (w2.heap.size < bn ∧ w1.heap.size < bn ∧ w.heap.size < bn) := hid (by have := HSZ.out; omega)
  have HR0 := hid hr.start; have HF5 := hid (HF4.out.trans' f5); have HBr := hid (HR4.out.fr f5 id); have HBf : Hid (Blk w5 w2.heap.size 25 [.int .i64 K, .slice none 0 0, .string ⟨#[]⟩, .string ⟨#[]⟩, .string ⟨#[]⟩, .slice none 0 0, .string ⟨#[]⟩]) := hid (HB4.out.fr f5 id); have HBx := hid (HX4.out.fr f5 id)
  have HL5 : Hid (w2.heap.size < w5.heap.size) := hid (by have := HSZ.out; have := f5.size; omega)
  have k0 : w5.cell? ⟨w2.heap.size, 0, none⟩ = some (.int .i64 K) := HBf.out.cell 0
  clear hbn hr f5 HB1 F1 HS1 HB2 F2 HS2 HB3 F3 HS3 HB4 F4 HS4 HB12 HF2 HX4 HR4 c0
  have HBrz := HBr; have HBfz := HBf
  go_wp2_with (first
    | ((with_reducible refine atO (.load 25 _) ?_); refine wpL_load rfl _ _ rfl w2.heap.size 0 rfl [.int .i64 (K : Int), .slice none 0 0, .string ⟨#[]⟩, .string ⟨#[]⟩, .string ⟨#[]⟩, .slice none 0 0, .string ⟨#[]⟩] _ (HBfz.out.range 0 _ rfl) rfl rfl infoFl ?_)
    | ((with_reducible refine atO (.store 25 _ _) ?_); refine wpL_storeV rfl _ _ _ rfl w1.heap.size 0 (.agg #[.int .i64 (K : Int), .slice none 0 0, .string ⟨#[]⟩, .string ⟨#[]⟩, .string ⟨#[]⟩, .slice none 0 0, .string ⟨#[]⟩]) [.int .i64 (K : Int), .slice none 0 0, .string ⟨#[]⟩, .string ⟨#[]⟩, .string ⟨#[]⟩, .slice none 0 0, .string ⟨#[]⟩] rfl rfl rfl _ _ HBrz.out (by simp) infoFl (by intro u hu; simp at hu; rcases hu with rfl | rfl | rfl | rfl | rfl | rfl | rfl <;> rfl) ?_; intro wz HBz Fz HSz)
    | fail)
  refine ret_cell rfl _ rfl HBz.out rfl rfl infoFl rfl ?_
  have HFz : Fr No w wz := Fr.trans (HF5.out) Fz.out (fun k e => .inr (by have e : k = w1.heap.size := e; have := HSZ.out; omega))
  refine ⟨_, rfl, fl_leaf (K : Int) ⟨by have := HKL.out; omega, by have := HKL.out; omega⟩ rfl (Nat.zero_le _) rfl (Nat.zero_le _) rfl (Nat.zero_le _) rfl (Nat.zero_le _) (tx_none _ _), HFz⟩
theorem pfilterOf_any : ∀ d, pfoOk d
  | 0 => fun S n cs w h _ => h.elim
  | d + 1 => fun S n cs w hn ho => by
    have ih := pfilterOf_any d
    obtain ⟨t, ht⟩ : ∃ t : Nat, n.tag = (t : Int) := ⟨n.tag.toNat, by have := ho.1; omega⟩
    have ht2 : t ≤ 255 := by have := ho.2.1; omega
    have hm : n.tag % 32 = ((t % 32 : Nat) : Int) := by rw [ht]; omega
    obtain ⟨K, hK⟩ : ∃ K, t % 32 = K := ⟨_, rfl⟩
    rw [hK] at hm
    have hR : filterR (d + 1) n = if kidsK (K : Int) then .mk (K : Int) (n.kids.map (filterR d)) [] [] [] [] []
        else if valK (K : Int) then .mk (K : Int) [] (kidN n 0).body (kidN n 1).body [] [] []
        else if (K : Int) = 4 then .mk 4 [] (kidN n 0).body [] (partsR (kidN n 1).kids).1 (partsR (kidN n 1).kids).2.1 (partsR (kidN n 1).kids).2.2
        else if (K : Int) = 7 then .mk 7 [] n.body [] [] [] []
        else .mk (K : Int) [] [] [] [] [] [] := by rw [← hm]; rfl
    rw [hR]
    clear hR hm
    by_cases h0 : K = 0
    · subst h0; exact pfo_0 d S n cs w hn ho t ht ht2 hK ih
    by_cases h1 : K = 1
    · subst h1; exact pfo_1 d S n cs w hn ho t ht ht2 hK ih
    by_cases h2 : K = 2
    · subst h2; exact pfo_2 d S n cs w hn ho t ht ht2 hK ih
    by_cases h3 : K = 3
    · subst h3; exact pfo_3 d S n cs w hn ho t ht ht2 hK
    by_cases h4 : K = 4
    · subst h4; exact pfo_4 d S n cs w hn ho t ht ht2 hK
    by_cases h5 : K = 5
    · subst h5; exact pfo_5 d S n cs w hn ho t ht ht2 hK
    by_cases h6 : K = 6
    · subst h6; exact pfo_6 d S n cs w hn ho t ht ht2 hK
    by_cases h7 : K = 7
    · subst h7; exact pfo_7 d S n cs w hn ho t ht ht2 hK
    have hx : ¬ (K : Int) = 0 ∧ ¬ (K : Int) = 1 ∧ ¬ (K : Int) = 2 ∧ ¬ (K : Int) = 3 ∧ ¬ (K : Int) = 4 ∧ ¬ (K : Int) = 5 ∧ ¬ (K : Int) = 6 ∧ ¬ (K : Int) = 7 := by omega
    have e1 : kidsK (K : Int) = false := by simp [kidsK]; omega
    have e2 : valK (K : Int) = false := by simp [valK]; omega
    rw [e1, e2, if_neg (by simp), if_neg (by simp), if_neg hx.2.2.2.2.1, if_neg hx.2.2.2.2.2.2.2]
    exact pfo_x d S n cs w hn ho t ht ht2 K hK hx
end Go.Proofs.Ythjmkfpdbbfcpaa.ME
