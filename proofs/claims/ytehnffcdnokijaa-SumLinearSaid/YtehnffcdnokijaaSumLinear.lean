/-
  SumLinear: the walk.
-/
import Derived.Test.YtehnffcdnokijaaSumAw
import Derived.Test.YtehnffcdnokijaaDraw
import Derived.Laws.Cover1
namespace Go.Proofs.Ytehnffcdnokijaa.S
open Go.RowKit K

/-- The exclusive ors of the first n. -/
def x3 (a b c : List UInt8) (n : Nat) : List UInt8 := List.zipWith (· ^^^ ·) (List.zipWith (· ^^^ ·) (a.take n) (b.take n)) (c.take n)
theorem x3_zero (a b c : List UInt8) : x3 a b c 0 = [] := by simp [x3]
theorem x3_length (a b c : List UInt8) (n : Nat) (ha : n ≤ a.length) (hb : n ≤ b.length) (hc : n ≤ c.length) : (x3 a b c n).length = n := by simp [x3]; omega
theorem x3_succ (a b c : List UInt8) (n : Nat) (ha : n < a.length) (hb : n < b.length) (hc : n < c.length) : x3 a b c (n + 1) = x3 a b c n ++ [a[n] ^^^ b[n] ^^^ c[n]] := by
  unfold x3
  rw [List.take_succ_eq_append_getElem ha, List.take_succ_eq_append_getElem hb, List.take_succ_eq_append_getElem hc]
  rw [List.zipWith_append (by simp; omega), List.zipWith_append (by simp; omega)]
  rfl
theorem xor8 (a b : UInt8) : bits .xor .u8 (a.toNat : Int) (b.toNat : Int) = (((a ^^^ b).toNat : Nat) : Int) := by
  rw [u8_xor_nat _ _ a.toNat_lt b.toNat_lt, UInt8.toNat_xor]

/-- 'min' of three lengths. -/
theorem wpL_min3 {P : Program} {ops : Array Oper} {rest : List Oper} {op : Oper} {a : Act} {w : World} {Q : Exit → Act → World → Prop} (hgd : op.guard = none) (x y z : Operand) (ts : Array TypeId)
    (ho : op.op = .call { callee := .builtin .min, args := #[x, y, z], argTypes := ts }) (l m n k : Nat) (hx : a.eval x = .int .i64 l) (hy : a.eval y = .int .i64 m) (hz : a.eval z = .int .i64 n) (hk : k = min l (min m n))
    (h : wpList P ops Q rest (a.put op.dst (.int .i64 k)) w) : wpList P ops Q (op :: rest) a w := by
  refine wpList_plain hgd fun K hK => ?_
  have e : (if (n : Int) < (if (m : Int) < (l : Int) then (m : Int) else (l : Int)) then (n : Int) else (if (m : Int) < (l : Int) then (m : Int) else (l : Int))) = (k : Int) := by
    subst hk; omega
  have hrun : ∀ t, (Builtin.min_ ts t #[.int .i64 l, .int .i64 m, .int .i64 n]).run P w = .ok (.int .i64 k) w := fun t => by rw [run_min_int3, e]
  unfold Oper.wp
  simp [execOp, ho, resolve, invoke, builtin, hx, hy, hz, hrun, Result.andThen]
  exact hK _ _ h

/-- The three cells that a round reads. -/
def F3 (g0 o0 g1 o1 g2 o2 : Nat) (p q r : UInt8) : Facts :=
  [(4, fun w' => w'.cell? ⟨g0, o0, none⟩ = some (.int .u8 (p.toNat : Int))), (8, fun w' => w'.cell? ⟨g1, o1, none⟩ = some (.int .u8 (q.toNat : Int))), (13, fun w' => w'.cell? ⟨g2, o2, none⟩ = some (.int .u8 (r.toNat : Int)))]
theorem F3.fr {g0 o0 g1 o1 g2 o2 : Nat} {p q r : UInt8} {D : Nat → Prop} {w w' : World} (h : (F3 g0 o0 g1 o1 g2 o2 p q r).hold w) (hf : Fr D w w') (d0 : ¬ D g0) (d1 : ¬ D g1) (d2 : ¬ D g2) : (F3 g0 o0 g1 o1 g2 o2 p q r).hold w' := by
  have h1 := h (4, _) (by unfold F3; exact List.mem_cons_self)
  have h2 := h (8, _) (by unfold F3; exact List.mem_cons_of_mem _ List.mem_cons_self)
  have h3 := h (13, _) (by unfold F3; exact List.mem_cons_of_mem _ (List.mem_cons_of_mem _ List.mem_cons_self))
  exact Facts.cons_hold (hf.cell h1 d0) (Facts.cons_hold (hf.cell h2 d1) (Facts.cons_hold (hf.cell h3 d2) (Facts.nil_hold _)))
theorem sum_cut (l : List UInt8) (n : Nat) (a : Option Addr) (cap : Nat) (w : World) (hr : At w a l) (hn : n ≤ l.length) (hl : l.length ≤ 9223372036854775807) : Calls Try.prog 8 #[.slice a n cap] w fun e w' =>
    e = .returned (.int .u32 (add 0 (l.take n) : Nat)) ∧ w = w' := by
  have := sum_at (l.take n) a cap w (hr.take n) (by simp; omega)
  rwa [List.length_take, Nat.min_eq_left hn] at this
theorem linear3 (x y z : List UInt8) (n : Nat) (hx : n ≤ x.length) (hy : n ≤ y.length) (hz : n ≤ z.length) :
    bits .xor .u32 (bits .xor .u32 (add 0 (x.take n) : Nat) (add 0 (y.take n) : Nat)) (add 0 (z.take n) : Nat) = ((add 0 (x3 x y z n) : Nat) : Int) := by
  rw [xor32 (add_lt (by decide) _) (add_lt (by decide) _), xor32 (xor_lt (add_lt (by decide) _) (add_lt (by decide) _)) (add_lt (by decide) _)]
  unfold x3
  rw [linear 0 (x.take n) (y.take n) (z.take n) (by simp; omega) (by simp; omega)]

set_option maxRecDepth 100000 in
theorem linear_walk (w : World) (x y z : List UInt8) (v0 v1 v2 : Value) {E : Nat → Prop} (hx : BytesIn w E v0 x) (hy : BytesIn w E v1 y) (hz : BytesIn w E v2 z)
    (lx : x.length ≤ 140737488351232) (ly : y.length ≤ 140737488351232) (lz : z.length ≤ 140737488351232) :
    Calls Try.prog 6 #[v0, v1, v2] w fun e w' => e = .returned (.bool true) ∧ Fr No w w' := by
  obtain ⟨a0, c0, rfl, k0, hx⟩ := at_of hx
  obtain ⟨a1, c1, rfl, k1, hy⟩ := at_of hy
  obtain ⟨a2, c2, rfl, k2, hz⟩ := at_of hz
  have HX := hid hx; have HY := hid hy; have HZ := hid hz
  clear hx hy hz
  obtain ⟨i5, hi5, hz5, hs5, hb5⟩ := info_parts info5z
  have Hi := hid hi5; have Hz := hid hz5; have Hs := hid hs5; have Hb := hid hb5
  clear hi5 hz5 hs5 hb5
  go_enter Try.func6, Try.ntmps6
  go_wp2_with fail
  refine (awake_any w).mono ?_
  rintro e w1 ⟨rfl, hf⟩
  have HF1 := hid hf; clear hf
  obtain ⟨n, hn⟩ : ∃ n, n = min x.length (min y.length z.length) := ⟨_, rfl⟩
  have HN := hid hn
  have nx : n ≤ x.length := by omega
  have ny : n ≤ y.length := by omega
  have nz : n ≤ z.length := by omega
  clear hn
  go_wp2_with ((with_reducible show wpList _ _ _ ({ dst := _, op := .call { callee := .builtin .min, args := _, argTypes := _ }, type := _, pos := _, after := _, guard := _ } :: _) _ _); refine wpL_min3 rfl _ _ _ _ rfl x.length y.length z.length n rfl rfl rfl HN.out ?_)
  go_loopw [9, 10] (fun d i wr => ∃ k : Nat, k ≤ n ∧ i = .int .i64 k ∧ Hid (wr.ownsRow w.heap.size 5 1 d k (u8s (x3 x y z k))) ∧ Hid (Fr No w wr)) (fun _ i _ => n - (intOf i).toNat)
  case atStart => exact ⟨0, Nat.zero_le _, rfl, hid ⟨by rw [x3_zero]; rfl, .inl ⟨rfl, rfl⟩⟩, HF1⟩
  case round =>
    obtain ⟨k, hk, rfl, HO, HF⟩ := hrel
    obtain ⟨da, dc, rfl, dn, _⟩ := own_form HO.out
    have DN := hid dn; clear dn
    by_cases hlt : k < n
    · have L0 := fun g o (e : a0 = some ⟨g, o, none⟩) => HX.out.lt (by omega) e
      have L1 := fun g o (e : a1 = some ⟨g, o, none⟩) => HY.out.lt (by omega) e
      have L2 := fun g o (e : a2 = some ⟨g, o, none⟩) => HZ.out.lt (by omega) e
      obtain ⟨g0, o0, rfl, d0⟩ := (HX.out.no HF.out) k (by omega)
      obtain ⟨g1, o1, rfl, d1⟩ := (HY.out.no HF.out) k (by omega)
      obtain ⟨g2, o2, rfl, d2⟩ := (HZ.out.no HF.out) k (by omega)
      have N0 := hid (L0 _ _ rfl); have N1 := hid (L1 _ _ rfl); have N2 := hid (L2 _ _ rfl)
      clear L0 L1 L2
      have HE := hid (x3_succ x y z k (by omega) (by omega) (by omega))
      have X1 := hid (xor8 x[k] y[k])
      have X2 := hid (xor8 (x[k] ^^^ y[k]) z[k])
      obtain ⟨p, ep⟩ : ∃ p, p = x[k]'(by omega) := ⟨_, rfl⟩
      obtain ⟨q, eq⟩ : ∃ q, q = y[k]'(by omega) := ⟨_, rfl⟩
      obtain ⟨r, er⟩ : ∃ r, r = z[k]'(by omega) := ⟨_, rfl⟩
      rw [← ep] at d0 HE X1 X2
      rw [← eq] at d1 HE X1 X2
      rw [← er] at d2 HE X2
      clear ep eq er
      have hold : (F3 g0 (o0 + k) g1 (o1 + k) g2 (o2 + k) p q r).hold wr.drew := Facts.cons_hold d0 (Facts.cons_hold d1 (Facts.cons_hold d2 (Facts.nil_hold _)))
      clear d0 d1 d2
      have hk0 : (0 : Int) ≤ k := by omega
      have hkx : (k : Int) < x.length := by omega
      have hky : (k : Int) < y.length := by omega
      have hkz : (k : Int) < z.length := by omega
      go_wp2_with fail
      refine wpD_region hold (by kernel_rfl) 18 rfl ?_
      (refine wpD_plain 0 (v := ?_) rfl (by kernel_rfl) (by kernel_rfl) (by kernel_rfl) (fun _ _ _ h => h) (by rfl) ?_ (by assumption) ?_; rotate_left; (intro _w; go_simp; try with_reducible rfl); simp only [Act.put, List.setIfInBounds_toArray, List.set_cons_zero, List.set_cons_succ])
      (refine wpD_plain 1 (v := ?_) rfl (by kernel_rfl) (by kernel_rfl) (by kernel_rfl) (fun _ _ _ h => h) (by rfl) ?_ (by assumption) ?_; rotate_left; (intro _w; go_simp; try with_reducible rfl); simp only [Act.put, List.setIfInBounds_toArray, List.set_cons_zero, List.set_cons_succ])
      (refine wpD_plain 2 (v := ?_) rfl (by kernel_rfl) (by kernel_rfl) (by kernel_rfl) (fun _ _ _ h => h) (by rfl) ?_ (by assumption) ?_; rotate_left; (intro _w; go_simp; try with_reducible rfl); simp only [Act.put, List.setIfInBounds_toArray, List.set_cons_zero, List.set_cons_succ])
      (refine wpD_plain 3 (v := ?_) rfl (by kernel_rfl) (by kernel_rfl) (by kernel_rfl) (fun _ _ _ h => h) (by rfl) ?_ (by assumption) ?_; rotate_left; (intro _w; go_simp; try with_reducible rfl); simp only [Act.put, List.setIfInBounds_toArray, List.set_cons_zero, List.set_cons_succ])
      (refine wpD_take 4 _ rfl (by kernel_rfl) (by kernel_rfl) (by kernel_rfl) (fun _ _ _ h => h) List.mem_cons_self (by rfl) (v := ?_) ?_ (by assumption) ?_; rotate_left; (intro _w _hw; go_simp; try with_reducible rfl); simp only [Act.put, List.setIfInBounds_toArray, List.set_cons_zero, List.set_cons_succ])
      (refine wpD_plain 5 (v := ?_) rfl (by kernel_rfl) (by kernel_rfl) (by kernel_rfl) (fun _ _ _ h => h) (by rfl) ?_ (by assumption) ?_; rotate_left; (intro _w; go_simp; try with_reducible rfl); simp only [Act.put, List.setIfInBounds_toArray, List.set_cons_zero, List.set_cons_succ])
      (refine wpD_plain 6 (v := ?_) rfl (by kernel_rfl) (by kernel_rfl) (by kernel_rfl) (fun _ _ _ h => h) (by rfl) ?_ (by assumption) ?_; rotate_left; (intro _w; go_simp; try with_reducible rfl); simp only [Act.put, List.setIfInBounds_toArray, List.set_cons_zero, List.set_cons_succ])
      (refine wpD_plain 7 (v := ?_) rfl (by kernel_rfl) (by kernel_rfl) (by kernel_rfl) (fun _ _ _ h => h) (by rfl) ?_ (by assumption) ?_; rotate_left; (intro _w; go_simp; try with_reducible rfl); simp only [Act.put, List.setIfInBounds_toArray, List.set_cons_zero, List.set_cons_succ])
      (refine wpD_take 8 _ rfl (by kernel_rfl) (by kernel_rfl) (by kernel_rfl) (fun _ _ _ h => h) (List.mem_cons_of_mem _ List.mem_cons_self) (by rfl) (v := ?_) ?_ (by assumption) ?_; rotate_left; (intro _w _hw; go_simp; try with_reducible rfl); simp only [Act.put, List.setIfInBounds_toArray, List.set_cons_zero, List.set_cons_succ])
      (refine wpD_plain 9 (v := ?_) rfl (by kernel_rfl) (by kernel_rfl) (by kernel_rfl) (fun _ _ _ h => h) (by rfl) ?_ (by assumption) ?_; rotate_left; (intro _w; go_simp; try with_reducible rfl); simp only [Act.put, List.setIfInBounds_toArray, List.set_cons_zero, List.set_cons_succ])
      (refine wpD_plain 10 (v := ?_) rfl (by kernel_rfl) (by kernel_rfl) (by kernel_rfl) (fun _ _ _ h => h) (by rfl) ?_ (by assumption) ?_; rotate_left; (intro _w; go_simp; try with_reducible rfl); simp only [Act.put, List.setIfInBounds_toArray, List.set_cons_zero, List.set_cons_succ])
      (refine wpD_plain 11 (v := ?_) rfl (by kernel_rfl) (by kernel_rfl) (by kernel_rfl) (fun _ _ _ h => h) (by rfl) ?_ (by assumption) ?_; rotate_left; (intro _w; go_simp; try with_reducible rfl); simp only [Act.put, List.setIfInBounds_toArray, List.set_cons_zero, List.set_cons_succ])
      (refine wpD_plain 12 (v := ?_) rfl (by kernel_rfl) (by kernel_rfl) (by kernel_rfl) (fun _ _ _ h => h) (by rfl) ?_ (by assumption) ?_; rotate_left; (intro _w; go_simp; try with_reducible rfl); simp only [Act.put, List.setIfInBounds_toArray, List.set_cons_zero, List.set_cons_succ])
      (refine wpD_take 13 _ rfl (by kernel_rfl) (by kernel_rfl) (by kernel_rfl) (fun _ _ _ h => h) (List.mem_cons_of_mem _ (List.mem_cons_of_mem _ List.mem_cons_self)) (by rfl) (v := ?_) ?_ (by assumption) ?_; rotate_left; (intro _w _hw; go_simp; try with_reducible rfl); simp only [Act.put, List.setIfInBounds_toArray, List.set_cons_zero, List.set_cons_succ])
      (refine wpD_plain 14 (v := ?_) rfl (by kernel_rfl) (by kernel_rfl) (by kernel_rfl) (fun _ _ _ h => h) (by rfl) ?_ (by assumption) ?_; rotate_left; (intro _w; go_simp; try with_reducible rfl); simp only [Act.put, List.setIfInBounds_toArray, List.set_cons_zero, List.set_cons_succ])
      refine wpD_only 15 (F3 g0 (o0 + k) g1 (o1 + k) g2 (o2 + k) p q r) rfl (by kernel_rfl) (by kernel_rfl) (by rfl) (fun K15 hK15 => ?_)
      refine wp_buildOne _ 5 _ rfl i5 _ rfl Hi.out Hz.out (by rw [Hs.out]; decide) (by rw [Hs.out]; decide) (.int .u8 ((p ^^^ q ^^^ r).toNat : Int)) [.int .u8 ((p ^^^ q ^^^ r).toNat : Int)]
        (by show Value.int .u8 (bits .xor .u8 (bits .xor .u8 (p.toNat : Int) (q.toNat : Int)) (r.toNat : Int)) = _; rw [X1.out, X2.out]) rfl (by rw [Hs.out]; rfl) ?_
      intro w5 HB5 HF5 HS5
      refine hK15 _ _ (F3.fr hold HF5.out (fun e => e) (fun e => e) (fun e => e)) ?_
      have hold5 := F3.fr hold HF5.out (fun e => e) (fun e => e) (fun e => e)
      clear hK15 K15 hold
      simp only [Act.put, List.setIfInBounds_toArray, List.set_cons_zero, List.set_cons_succ]
      refine wpD_only 16 (F3 g0 (o0 + k) g1 (o1 + k) g2 (o2 + k) p q r) rfl (by kernel_rfl) (by kernel_rfl) (by rfl) (fun K16 hK16 => ?_)
      have own5 : w5.ownsRow w.heap.size 5 1 (.slice da k dc) k (u8s (x3 x y z k)) := own_fr (w := wr.drew) HO.out HF5.out (fun _ _ e => e)
      have hsz5 : w.heap.size ≤ w5.heap.size := Nat.le_trans HF.out.size HF5.out.size
      refine wp_append_lies w5 _ _ _ rfl w.heap.size 5 i5 _ 1 1 rfl Hi.out Hz.out Hs.out Hb.out rfl (by decide) (.slice da k dc) k (u8s (x3 x y z k)) rfl own5 ⟨wr.drew.heap.size, 0, none⟩ 1 1 [.int .u8 ((p ^^^ q ^^^ r).toNat : Int)] rfl rfl HB5.out.news
        (by intro u hu; obtain rfl := List.mem_singleton.1 hu; rfl) (by decide) (by unfold maxLen; omega) (by omega) hsz5 _ rfl ?_
      intro g cap6 w6 own6 gr6 hat6 hlt6
      have hF6 : Fr (fun j => w.heap.size ≤ j) w5 w6 := (Fr.refl _ _).grown gr6 (fun j hj => .inl (own_low own5 j hj))
      refine hK16 _ _ (F3.fr hold5 hF6 (by have := N0.out; omega) (by have := N1.out; omega) (by have := N2.out; omega)) ?_
      have hold6 := F3.fr hold5 hF6 (by have := N0.out; omega) (by have := N1.out; omega) (by have := N2.out; omega)
      have HO6 := hid own6
      have HF6 : Hid (Fr No w w6) := hid ((HF.out.drew.trans' HF5.out).grown gr6 (fun j hj => .inr (own_low own5 j hj)))
      clear hK16 K16 hold5 own5 own6 gr6 hat6 hlt6 hF6 hsz5
      simp only [Act.put, List.setIfInBounds_toArray, List.set_cons_zero, List.set_cons_succ]
      (refine wpD_plain 17 (v := ?_) rfl (by kernel_rfl) (by kernel_rfl) (by kernel_rfl) (fun _ _ _ h => h) (by rfl) ?_ (by assumption) ?_; rotate_left; (intro _w; go_simp; try with_reducible rfl); simp only [Act.put, List.setIfInBounds_toArray, List.set_cons_zero, List.set_cons_succ])
      refine wpD_done (by kernel_rfl) ?_ _
      clear hold6
      go_wp2
      refine ⟨⟨k + 1, by omega, by go_num, hid ?_, HF6⟩, by simp [intOf]; omega⟩
      rw [HE.out, u8s_append]
      exact HO6.out
    · obtain rfl : k = n := by omega
      have HL := hid (linear3 x y z k nx ny nz)
      have HB := hid (own_bytes HO.out)
      have H3 := hid (x3_length x y z k nx ny nz)
      go_wp2_with fail
      refine (sum_cut x k a0 c0 wr (HX.out.no HF.out) nx (by omega)).mono ?_
      rintro e w' ⟨rfl, rfl⟩
      generalize add 0 (x.take k) = A at HL ⊢
      go_wp2_with fail
      refine (sum_cut y k a1 c1 wr (HY.out.no HF.out) ny (by omega)).mono ?_
      rintro e w' ⟨rfl, rfl⟩
      generalize add 0 (y.take k) = B at HL ⊢
      go_wp2_with fail
      refine (sum_cut z k a2 c2 wr (HZ.out.no HF.out) nz (by omega)).mono ?_
      rintro e w' ⟨rfl, rfl⟩
      generalize add 0 (z.take k) = C at HL ⊢
      go_wp2_with fail
      refine (sum_any (x3 x y z k) (.slice da k dc) wr HB.out (by rw [H3.out]; omega)).mono ?_
      rintro e w' ⟨rfl, rfl⟩
      generalize add 0 (x3 x y z k) = D at HL ⊢
      go_wp2
      go_ret
      refine ⟨?_, HF.out⟩
      show Ending.returned (.bool _) = _
      rw [HL.out]
      simp
end Go.Proofs.Ytehnffcdnokijaa.S
