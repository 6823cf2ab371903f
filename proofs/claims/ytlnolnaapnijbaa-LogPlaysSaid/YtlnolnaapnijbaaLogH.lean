/-
  The document's log: a sector is looked at.
-/
import Derived.Test.YtlnolnaapnijbaaLogF
import Derived.Test.YtlnolnaapnijbaaCall
namespace Go.Proofs.Ytlnolnaapnijbaa.L
set_option maxRecDepth 100000
open Go.RowKit K

theorem rnum64 (fr k : Nat) (l : List UInt8) (a : Option Addr) (cap : Nat) (w : World) (hr : S.At w a l) (hl : l.length = 64) (h : fr + k ≤ 64) (hk : k ≤ 4) :
    Calls Try.prog 92 #[.slice a 64 cap, .int .i64 fr, .int .i64 k] w fun e w' => e = .returned (.int .u32 (nm ((l.drop fr).take k) : Nat)) ∧ w = w' := by
  have := rnumber_any fr k l a cap w hr (by omega) (by omega) hk
  rwa [hl] at this
theorem hentRNum (vs : Array Value) (w : World) : (callFunc 92 vs).run Try.prog w = .ok (.enter 92 vs) w := by kernel_rfl
theorem zero99 (w : World) : (zeroValue 126).run Try.prog w = .ok (.agg #[.bool false, .int .u32 0, .int .u32 0, .int .i64 0, .int .i64 0, .int .i64 0, .slice none 0 0]) w := by kernel_rfl
theorem info99 : (Try.prog.info? 126).map (·.size) = some 7 := by kernel_rfl
theorem build99 (a b c d e : Int) (w : World) : (Instr.build 126 #[(1, .int .u32 a), (2, .int .u32 b), (3, .int .i64 c), (4, .int .i64 d), (5, .int .i64 e)]).run Try.prog w =
    .ok (.agg #[.bool false, .int .u32 a, .int .u32 b, .int .i64 c, .int .i64 d, .int .i64 e, .slice none 0 0]) w := by kernel_rfl
theorem hentRSum (vs : Array Value) (w : World) : (callFunc 70 vs).run Try.prog w = .ok (.enter 70 vs) w := by kernel_rfl
def rsec (r : Bool) (e l p f s : Nat) (v : Value) : List Value := [.bool r, .int .u32 e, .int .u32 l, .int .i64 p, .int .i64 f, .int .i64 s, v]
theorem nm_one {l : List UInt8} {i : Nat} (h : i < l.length) : nm ((l.drop i).take 1) = l[i].toNat := by
  rw [nm_step (j := 0) h]
  simp [nm]

theorem wp_appendX {P : Program} {Q : Exit → Act → World → Prop} {K : Act → World → Prop} {op : Oper} {a : Act} {w : World} (s x : Operand) (t : TypeId) (ho : op.op = .call { callee := .builtin .append, args := #[s, x], argTypes := #[t, t] })
    (base : Nat) (e : TypeId) (i : TypeInfo) (z : Value) (size bytes : Nat) (ht : P.underlying t = some (.slice e)) (hi : P.info? e = some i) (hz : i.zero = some z)
    (hsize : i.size = size) (hby : i.bytes = bytes) (hzs : z.cells.size = size) (hsz : 0 < size) (v : Value) (n : Nat) (xs : List Value) (hv : a.eval s = v) (hown : w.ownsRow base e size v n xs)
    (sp : Option Addr) (m c : Nat) (news : List Value) (hx : a.eval x = .slice sp m c) (hl : news.length = m * size) (hsrc : m = 0 ∨ ∃ ad, sp = some ad ∧ ∀ j u, news[j]? = some u → w.cell? (ad.add j) = some u) (h1 : ∀ u ∈ news, u.oneCell' = true)
    (h63 : n + m ≤ maxLen) (hbytes : (n + m) * bytes ≤ 140737488355328) (hbase : base ≤ w.heap.size)
    (h : ∀ a' cap' w', Hid (w'.ownsRow base e size (.slice a' (n + m) cap') (n + m) (xs ++ news)) → Hid (w.grownBy w' v.ownBlock) → Hid ((Value.slice a' (n + m) cap').ownBlock = v.ownBlock ∨ (Value.slice a' (n + m) cap').ownBlock = some w.heap.size) →
      K (a.put op.dst (.slice a' (n + m) cap')) w') : op.wp P a w K Q := by
  obtain ⟨v', w', hr, h2, h3, h4, a', cap', rfl⟩ := run_append_any (P := P) (w := w) t op.type base e i z size bytes ht hi hz hsize hby hzs hsz v n xs hown sp m c news hl hsrc h1 h63 hbytes hbase
  unfold Oper.wp execOp
  simp only [ho, resolve, invoke, builtin, Sem.run_bind, Sem.run_pure, Result.andThen_ok, List.map_toArray, List.map_cons, List.map_nil, hv, hx, hr]
  exact h a' cap' w' h2 h3 h4

set_option maxHeartbeats 4000000 in
theorem rlook_any (b : List UInt8) (k o cap : Nat) (w : World) (hl : b.length = 64) (hr : S.At w (some ⟨k, o, none⟩) b) (h64 : 64 ≤ cap) :
    Calls Try.prog 63 #[.slice (some ⟨k, o, none⟩) 64 cap] w fun e w' => ∃ (a : Option Addr) (c : Nat), e = .returned (.agg (rsec (look b).right (look b).epoch (look b).life (look b).place (look b).kind (look b).size (.slice a (min (look b).size 48) c)).toArray) ∧
      w'.ownsRow w.heap.size 5 1 (.slice a (min (look b).size 48) c) (min (look b).size 48) (u8s ((look b).bytes.take (min (look b).size 48))) ∧ Fr No w w' := by
  obtain ⟨i5, hi5, hz5, hs5, hb5⟩ := info_parts info5y
  have I5 := hid hi5; have Z5 := hid hz5; have S5 := hid hs5; have B5 := hid hb5
  clear hi5 hz5 hs5 hb5
  have HR := hid hr; have HL := hid hl
  have H14 := hid (nm_one (l := b) (i := 14) (by omega)); have H15 := hid (nm_one (l := b) (i := 15) (by omega))
  have c14 : w.cell? ⟨k, o + 14, none⟩ = some (.int .u8 (b[14].toNat : Int)) := by obtain ⟨g, o', h1, h2⟩ := hr 14 (by omega); cases h1; exact h2
  have c15 : w.cell? ⟨k, o + 15, none⟩ = some (.int .u8 (b[15].toNat : Int)) := by obtain ⟨g, o', h1, h2⟩ := hr 15 (by omega); cases h1; exact h2
  rw [← H14.out] at c14
  rw [← H15.out] at c15
  have HK : Hid (look b = ⟨decide (nm (b.take 4) = S.add 0 (b.drop 4)), nm ((b.drop 4).take 4), nm ((b.drop 8).take 4), nm ((b.drop 12).take 2), nm ((b.drop 14).take 1), nm ((b.drop 15).take 1), b.drop 16⟩) := hid rfl
  have L4 : nm ((b.drop 4).take 4) < 4294967296 := Nat.lt_of_lt_of_le (nm_lt _) (Nat.pow_le_pow_right (by decide) (by simp; omega) : 256 ^ ((b.drop 4).take 4).length ≤ 256 ^ 4)
  have L8 : nm ((b.drop 8).take 4) < 4294967296 := Nat.lt_of_lt_of_le (nm_lt _) (Nat.pow_le_pow_right (by decide) (by simp; omega) : 256 ^ ((b.drop 8).take 4).length ≤ 256 ^ 4)
  have L12 : nm ((b.drop 12).take 2) < 65536 := Nat.lt_of_lt_of_le (nm_lt _) (Nat.pow_le_pow_right (by decide) (by simp; omega) : 256 ^ ((b.drop 12).take 2).length ≤ 256 ^ 2)
  have L14 : nm ((b.drop 14).take 1) < 256 := Nat.lt_of_lt_of_le (nm_lt _) (Nat.pow_le_pow_right (by decide) (by simp; omega) : 256 ^ ((b.drop 14).take 1).length ≤ 256 ^ 1)
  have L15 : nm ((b.drop 15).take 1) < 256 := Nat.lt_of_lt_of_le (nm_lt _) (Nat.pow_le_pow_right (by decide) (by simp; omega) : 256 ^ ((b.drop 15).take 1).length ≤ 256 ^ 1)
  have N4 : Hid (∀ w' : World, S.At w' (some ⟨k, o, none⟩) b → _) := hid (fun w' h => rnum64 4 4 b _ cap w' h HL.out (by decide) (by decide))
  have N8 : Hid (∀ w' : World, S.At w' (some ⟨k, o, none⟩) b → _) := hid (fun w' h => rnum64 8 4 b _ cap w' h HL.out (by decide) (by decide))
  have N12 : Hid (∀ w' : World, S.At w' (some ⟨k, o, none⟩) b → _) := hid (fun w' h => rnum64 12 2 b _ cap w' h HL.out (by decide) (by decide))
  have N0 : Hid (∀ w' : World, S.At w' (some ⟨k, o, none⟩) b → _) := hid (fun w' h => (List.drop_zero (l := b) ▸ rnum64 0 4 b _ cap w' h HL.out (by decide) (by decide) : Calls Try.prog 92 #[.slice (some ⟨k, o, none⟩) 64 cap, .int .i64 0, .int .i64 4] w' fun e w'' => e = .returned (.int .u32 (nm (b.take 4) : Nat)) ∧ w' = w''))
  have SUMR : Hid (∀ w' : World, S.At w' (some ⟨k, o, none⟩) b → Calls Try.prog 70 #[.slice (some ⟨k, o + 4, none⟩) 60 (cap - 4)] w' fun e w'' => e = .returned (.int .u32 (S.add 0 (b.drop 4) : Nat)) ∧ w' = w'') := hid (fun w' h => by
    have hd : (b.drop 4).length = 60 := by simp; omega
    have := S.rsum_any (b.drop 4) (.slice (some ⟨k, o + 4, none⟩) (b.drop 4).length (cap - 4)) w' (E := fun j => j = k) ⟨_, _, _, rfl, rfl, by rw [hd]; omega, .inr ⟨k, o + 4, rfl, rfl, h.lt (by omega) rfl, at_range (at_drop h 4)⟩⟩ (by rw [hd]; decide)
    rwa [hd] at this)
  generalize nm ((b.drop 4).take 4) = n4 at L4 N4 HK
  generalize nm ((b.drop 8).take 4) = n8 at L8 N8 HK
  generalize nm ((b.drop 12).take 2) = n12 at L12 N12 HK
  generalize nm ((b.drop 14).take 1) = n14 at L14 HK c14 H14
  generalize nm ((b.drop 15).take 1) = n15 at L15 HK c15 H15
  generalize nm (b.take 4) = m0 at N0 HK
  generalize S.add 0 (b.drop 4) = s0 at SUMR HK
  have hci : (64 : Int) ≤ cap := by omega
  have WE : Hid ((((m0 : Nat) : Int) == ((s0 : Nat) : Int)) = decide (m0 = s0)) := hid (by rw [Bool.eq_iff_iff]; simp; try omega)
  have hc4 : ¬ cap = 4 := by omega
  have hcn : (4 : Int) ≤ cap := by omega
  have WS12 : Hid (IntKind.i64.wrap (n12 : Int) = (n12 : Int)) := hid (wrap_small (by omega) (by omega))
  have WS14 : Hid (IntKind.i64.wrap (n14 : Int) = (n14 : Int)) := hid (wrap_small (by omega) (by omega))
  have WS15 : Hid (IntKind.i64.wrap (n15 : Int) = (n15 : Int)) := hid (wrap_small (by omega) (by omega))
  rw [HK.out]
  simp only
  clear H14 H15 hr hl
  go_enter Try.func63, Try.ntmps63
  go_wp2_with ((with_reducible show wpList _ _ _ ({ dst := _, op := .alloc 126, type := _, pos := _, after := _, guard := _ } :: _) _ _); refine wpL_alloc rfl _ rfl _ zero99 (rsec false 0 0 0 0 0 (.slice none 0 0)) rfl ?_; intro w1 HB1 HF1 HS1)
  have d14 : w1.cell? ⟨k, o + 14, none⟩ = some (.int .u8 (n14 : Int)) := HF1.out.cell c14 id
  have d15 : w1.cell? ⟨k, o + 15, none⟩ = some (.int .u8 (n15 : Int)) := HF1.out.cell c15 id
  have HR1 := hid (HR.out.no HF1.out.drew)
  clear c14 c15
  have hold : Facts.hold [(9, fun w' => w'.cell? ⟨k, o + 14, none⟩ = some (.int .u8 (n14 : Int))), (13, fun w' => w'.cell? ⟨k, o + 15, none⟩ = some (.int .u8 (n15 : Int)))] w1.drew := Facts.cons_hold d14 (Facts.cons_hold d15 (Facts.nil_hold _))
  refine wpD_region hold (by kernel_rfl) 18 rfl ?_
  (refine wpD_plain 0 (v := ?_) rfl (by kernel_rfl) (by kernel_rfl) (by kernel_rfl) (fun _ _ _ h => h) (by rfl) ?_ (by assumption) ?_; rotate_left; (intro _w; go_simp; try with_reducible rfl); simp only [Act.put, List.setIfInBounds_toArray, List.set_cons_zero, List.set_cons_succ])
  (refine wpD_plain 2 (v := ?_) rfl (by kernel_rfl) (by kernel_rfl) (by kernel_rfl) (fun _ _ _ h => h) (by rfl) ?_ (by assumption) ?_; rotate_left; (intro _w; go_simp; try with_reducible rfl); simp only [Act.put, List.setIfInBounds_toArray, List.set_cons_zero, List.set_cons_succ])
  (refine wpD_plain 4 (v := ?_) rfl (by kernel_rfl) (by kernel_rfl) (by kernel_rfl) (fun _ _ _ h => h) (by rfl) ?_ (by assumption) ?_; rotate_left; (intro _w; go_simp; try with_reducible rfl); simp only [Act.put, List.setIfInBounds_toArray, List.set_cons_zero, List.set_cons_succ])
  (refine wpD_plain 7 (v := ?_) rfl (by kernel_rfl) (by kernel_rfl) (by kernel_rfl) (fun _ _ _ h => h) (by rfl) ?_ (by assumption) ?_; rotate_left; (intro _w; go_simp; try with_reducible rfl); simp only [Act.put, List.setIfInBounds_toArray, List.set_cons_zero, List.set_cons_succ])
  (refine wpD_plain 8 (v := ?_) rfl (by kernel_rfl) (by kernel_rfl) (by kernel_rfl) (fun _ _ _ h => h) (by rfl) ?_ (by assumption) ?_; rotate_left; (intro _w; go_simp; try with_reducible rfl); simp only [Act.put, List.setIfInBounds_toArray, List.set_cons_zero, List.set_cons_succ])
  (refine wpD_take 9 _ rfl (by kernel_rfl) (by kernel_rfl) (by kernel_rfl) (fun _ _ _ h => h) List.mem_cons_self (by rfl) (v := ?_) ?_ (by assumption) ?_; rotate_left; (intro _w _hw; go_simp; try with_reducible rfl); simp only [Act.put, List.setIfInBounds_toArray, List.set_cons_zero, List.set_cons_succ])
  (refine wpD_plain 10 (v := (.int .i64 (n14 : Int))) rfl (by kernel_rfl) (by kernel_rfl) (by kernel_rfl) (fun _ _ _ h => h) (by rfl) ?_ (by assumption) ?_; (intro _w; go_simp; exact WS14.out); simp only [Act.put, List.setIfInBounds_toArray, List.set_cons_zero, List.set_cons_succ])
  (refine wpD_plain 11 (v := ?_) rfl (by kernel_rfl) (by kernel_rfl) (by kernel_rfl) (fun _ _ _ h => h) (by rfl) ?_ (by assumption) ?_; rotate_left; (intro _w; go_simp; try with_reducible rfl); simp only [Act.put, List.setIfInBounds_toArray, List.set_cons_zero, List.set_cons_succ])
  (refine wpD_plain 12 (v := ?_) rfl (by kernel_rfl) (by kernel_rfl) (by kernel_rfl) (fun _ _ _ h => h) (by rfl) ?_ (by assumption) ?_; rotate_left; (intro _w; go_simp; try with_reducible rfl); simp only [Act.put, List.setIfInBounds_toArray, List.set_cons_zero, List.set_cons_succ])
  (refine wpD_take 13 _ rfl (by kernel_rfl) (by kernel_rfl) (by kernel_rfl) (fun _ _ _ h => h) (List.mem_cons_of_mem _ List.mem_cons_self) (by rfl) (v := ?_) ?_ (by assumption) ?_; rotate_left; (intro _w _hw; go_simp; try with_reducible rfl); simp only [Act.put, List.setIfInBounds_toArray, List.set_cons_zero, List.set_cons_succ])
  (refine wpD_plain 14 (v := (.int .i64 (n15 : Int))) rfl (by kernel_rfl) (by kernel_rfl) (by kernel_rfl) (fun _ _ _ h => h) (by rfl) ?_ (by assumption) ?_; (intro _w; go_simp; exact WS15.out); simp only [Act.put, List.setIfInBounds_toArray, List.set_cons_zero, List.set_cons_succ])
  clear hold
  refine wpD_join (fun a a' w' => ∃ bb : Nat, a' = (((((a.put (some 6) (.int .u32 n4)).put (some 8) (.int .u32 n8)).put (some 10) (.int .u32 n12)).put (some 11) (.int .i64 n12)).put (some 20) (.agg (rsec false n4 n8 n12 n14 n15 (.slice none 0 0)).toArray)).put (some 3) (.pointer (some ⟨bb, 0, none⟩)) ∧ Hid (Blk w' bb 126 (spl (rsec false 0 0 0 0 0 (.slice none 0 0)) 0 (rsec false n4 n8 n12 n14 n15 (.slice none 0 0)))) ∧ Hid (Fr No w1.drew w') ∧ Hid (w1.drew.heap.size ≤ bb)) [] 0 (Array.replicate 18 true) ?_ ?_
  · intro tail
    have HT := hid tail; clear tail
    refine wpD_two 1 16 [(9, fun w' => w'.cell? ⟨k, o + 14, none⟩ = some (.int .u8 (n14 : Int))), (13, fun w' => w'.cell? ⟨k, o + 15, none⟩ = some (.int .u8 (n15 : Int)))] [(9, fun w' => w'.cell? ⟨k, o + 14, none⟩ = some (.int .u8 (n14 : Int))), (13, fun w' => w'.cell? ⟨k, o + 15, none⟩ = some (.int .u8 (n15 : Int)))] rfl rfl (by kernel_rfl) (by kernel_rfl) (by kernel_rfl) (by rfl) (by rfl) ?_ ?_
    · intro K1 hK1
      refine wp_call (.func 92) _ _ rfl 92 [] rfl hentRNum [.slice (some ⟨k, o, none⟩) 64 cap, .int .i64 4, .int .i64 4] (by rfl) ?_
      refine (N4.out _ HR1.out).mono ?_
      rintro e wq ⟨rfl, rfl⟩
      refine ⟨_, rfl, hK1 _ _ (Facts.cons_hold d14 (Facts.cons_hold d15 (Facts.nil_hold _))) ?_⟩
      simp only [Act.put, List.setIfInBounds_toArray, List.set_cons_zero, List.set_cons_succ]
      refine wpD_two 3 16 [(9, fun w' => w'.cell? ⟨k, o + 14, none⟩ = some (.int .u8 (n14 : Int))), (13, fun w' => w'.cell? ⟨k, o + 15, none⟩ = some (.int .u8 (n15 : Int)))] [(9, fun w' => w'.cell? ⟨k, o + 14, none⟩ = some (.int .u8 (n14 : Int))), (13, fun w' => w'.cell? ⟨k, o + 15, none⟩ = some (.int .u8 (n15 : Int)))] rfl rfl (by kernel_rfl) (by kernel_rfl) (by kernel_rfl) (by rfl) (by rfl) ?_ ?_
      · intro K3 hK3
        refine wp_call (.func 92) _ _ rfl 92 [] rfl hentRNum [.slice (some ⟨k, o, none⟩) 64 cap, .int .i64 8, .int .i64 4] (by rfl) ?_
        refine (N8.out _ HR1.out).mono ?_
        rintro e wq ⟨rfl, rfl⟩
        refine ⟨_, rfl, hK3 _ _ (Facts.cons_hold d14 (Facts.cons_hold d15 (Facts.nil_hold _))) ?_⟩
        simp only [Act.put, List.setIfInBounds_toArray, List.set_cons_zero, List.set_cons_succ]
        refine wpD_two 5 16 [(9, fun w' => w'.cell? ⟨k, o + 14, none⟩ = some (.int .u8 (n14 : Int))), (13, fun w' => w'.cell? ⟨k, o + 15, none⟩ = some (.int .u8 (n15 : Int)))] [(9, fun w' => w'.cell? ⟨k, o + 14, none⟩ = some (.int .u8 (n14 : Int))), (13, fun w' => w'.cell? ⟨k, o + 15, none⟩ = some (.int .u8 (n15 : Int)))] rfl rfl (by kernel_rfl) (by kernel_rfl) (by kernel_rfl) (by rfl) (by rfl) ?_ ?_
        · intro K5 hK5
          refine wp_call (.func 92) _ _ rfl 92 [] rfl hentRNum [.slice (some ⟨k, o, none⟩) 64 cap, .int .i64 12, .int .i64 2] (by rfl) ?_
          refine (N12.out _ HR1.out).mono ?_
          rintro e wq ⟨rfl, rfl⟩
          refine ⟨_, rfl, hK5 _ _ (Facts.cons_hold d14 (Facts.cons_hold d15 (Facts.nil_hold _))) ?_⟩
          simp only [Act.put, List.setIfInBounds_toArray, List.set_cons_zero, List.set_cons_succ]
          have hold : Facts.hold [(9, fun w' => w'.cell? ⟨k, o + 14, none⟩ = some (.int .u8 (n14 : Int))), (13, fun w' => w'.cell? ⟨k, o + 15, none⟩ = some (.int .u8 (n15 : Int)))] w1.drew := (Facts.cons_hold d14 (Facts.cons_hold d15 (Facts.nil_hold _)))
          (refine wpD_plain 6 (v := (.int .i64 (n12 : Int))) rfl (by kernel_rfl) (by kernel_rfl) (by kernel_rfl) (fun _ _ _ h => h) (by rfl) ?_ (by assumption) ?_; (intro _w; go_simp; exact WS12.out); simp only [Act.put, List.setIfInBounds_toArray, List.set_cons_zero, List.set_cons_succ])
          (refine wpD_plain 15 (v := (.agg (rsec false n4 n8 n12 n14 n15 (.slice none 0 0)).toArray)) rfl (by kernel_rfl) (by kernel_rfl) (by kernel_rfl) (fun _ _ _ h => h) (by rfl) ?_ (by assumption) ?_; (intro _w; go_simp; rfl); simp only [Act.put, List.setIfInBounds_toArray, List.set_cons_zero, List.set_cons_succ])
          refine wpD_only 16 [(9, fun w' => w'.cell? ⟨k, o + 14, none⟩ = some (.int .u8 (n14 : Int))), (13, fun w' => w'.cell? ⟨k, o + 15, none⟩ = some (.int .u8 (n15 : Int)))] rfl (by kernel_rfl) (by kernel_rfl) (by rfl) (fun K8 hK8 => ?_)
          refine wp_alloc _ rfl _ zero99 (rsec false 0 0 0 0 0 (.slice none 0 0)) rfl ?_
          intro w3 HB3 HF3 HS3
          have HR3 := hid (HR1.out.no HF3.out)
          have e14 : w3.cell? ⟨k, o + 14, none⟩ = some (.int .u8 (n14 : Int)) := HF3.out.cell (w := w1.drew) d14 id
          have e15 : w3.cell? ⟨k, o + 15, none⟩ = some (.int .u8 (n15 : Int)) := HF3.out.cell (w := w1.drew) d15 id
          refine hK8 _ _ (Facts.cons_hold e14 (Facts.cons_hold e15 (Facts.nil_hold _))) ?_
          simp only [Act.put, List.setIfInBounds_toArray, List.set_cons_zero, List.set_cons_succ]
          refine wpD_only 17 [] rfl (by kernel_rfl) (by kernel_rfl) (by rfl) (fun K9 hK9 => ?_)
          refine wp_storeB 126 _ _ rfl w1.drew.heap.size 0 (rsec false n4 n8 n12 n14 n15 (.slice none 0 0)) rfl rfl _ _ HB3.out (by simp [rsec]) (by rw [info99]; rfl) (by intro v hv; simp [rsec] at hv; rcases hv with rfl | rfl | rfl | rfl | rfl | rfl | rfl <;> rfl) ?_
          intro w4 HB4 HF4 HS4
          refine hK9 _ _ (Facts.nil_hold _) ?_
          simp only [Act.put, List.setIfInBounds_toArray, List.set_cons_zero, List.set_cons_succ]
          refine wpD_cast (listed' := Array.replicate 18 true) (by kernel_rfl) ?_
          exact HT.out _ _ ⟨w1.drew.heap.size, rfl, HB4, hid (HF3.out.trans HF4.out (fun j hj => .inr (Nat.le_of_eq hj.symm))), hid (Nat.le_refl _)⟩ (Facts.nil_hold _)
        · intro K5 hK5
          refine wp_alloc _ rfl _ zero99 (rsec false 0 0 0 0 0 (.slice none 0 0)) rfl ?_
          intro w3 HB3 HF3 HS3
          have HR3 := hid (HR1.out.no HF3.out)
          have e14 : w3.cell? ⟨k, o + 14, none⟩ = some (.int .u8 (n14 : Int)) := HF3.out.cell (w := w1.drew) d14 id
          have e15 : w3.cell? ⟨k, o + 15, none⟩ = some (.int .u8 (n15 : Int)) := HF3.out.cell (w := w1.drew) d15 id
          refine hK5 _ _ (Facts.cons_hold e14 (Facts.cons_hold e15 (Facts.nil_hold _))) ?_
          simp only [Act.put, List.setIfInBounds_toArray, List.set_cons_zero, List.set_cons_succ]
          refine wpD_only 5 [(9, fun w' => w'.cell? ⟨k, o + 14, none⟩ = some (.int .u8 (n14 : Int))), (13, fun w' => w'.cell? ⟨k, o + 15, none⟩ = some (.int .u8 (n15 : Int)))] rfl (by kernel_rfl) (by kernel_rfl) (by rfl) (fun K5 hK5 => ?_)
          refine wp_call (.func 92) _ _ rfl 92 [] rfl hentRNum [.slice (some ⟨k, o, none⟩) 64 cap, .int .i64 12, .int .i64 2] (by rfl) ?_
          refine (N12.out _ HR3.out).mono ?_
          rintro e wq ⟨rfl, rfl⟩
          refine ⟨_, rfl, hK5 _ _ (Facts.cons_hold e14 (Facts.cons_hold e15 (Facts.nil_hold _))) ?_⟩
          simp only [Act.put, List.setIfInBounds_toArray, List.set_cons_zero, List.set_cons_succ]
          have hold : Facts.hold [(9, fun w' => w'.cell? ⟨k, o + 14, none⟩ = some (.int .u8 (n14 : Int))), (13, fun w' => w'.cell? ⟨k, o + 15, none⟩ = some (.int .u8 (n15 : Int)))] w3 := (Facts.cons_hold e14 (Facts.cons_hold e15 (Facts.nil_hold _)))
          (refine wpD_plain 6 (v := (.int .i64 (n12 : Int))) rfl (by kernel_rfl) (by kernel_rfl) (by kernel_rfl) (fun _ _ _ h => h) (by rfl) ?_ (by assumption) ?_; (intro _w; go_simp; exact WS12.out); simp only [Act.put, List.setIfInBounds_toArray, List.set_cons_zero, List.set_cons_succ])
          (refine wpD_plain 15 (v := (.agg (rsec false n4 n8 n12 n14 n15 (.slice none 0 0)).toArray)) rfl (by kernel_rfl) (by kernel_rfl) (by kernel_rfl) (fun _ _ _ h => h) (by rfl) ?_ (by assumption) ?_; (intro _w; go_simp; rfl); simp only [Act.put, List.setIfInBounds_toArray, List.set_cons_zero, List.set_cons_succ])
          refine wpD_only 17 [] rfl (by kernel_rfl) (by kernel_rfl) (by rfl) (fun K9 hK9 => ?_)
          refine wp_storeB 126 _ _ rfl w1.drew.heap.size 0 (rsec false n4 n8 n12 n14 n15 (.slice none 0 0)) rfl rfl _ _ HB3.out (by simp [rsec]) (by rw [info99]; rfl) (by intro v hv; simp [rsec] at hv; rcases hv with rfl | rfl | rfl | rfl | rfl | rfl | rfl <;> rfl) ?_
          intro w4 HB4 HF4 HS4
          refine hK9 _ _ (Facts.nil_hold _) ?_
          simp only [Act.put, List.setIfInBounds_toArray, List.set_cons_zero, List.set_cons_succ]
          refine wpD_cast (listed' := Array.replicate 18 true) (by kernel_rfl) ?_
          exact HT.out _ _ ⟨w1.drew.heap.size, rfl, HB4, hid (HF3.out.trans HF4.out (fun j hj => .inr (Nat.le_of_eq hj.symm))), hid (Nat.le_refl _)⟩ (Facts.nil_hold _)
      · intro K3 hK3
        refine wp_alloc _ rfl _ zero99 (rsec false 0 0 0 0 0 (.slice none 0 0)) rfl ?_
        intro w3 HB3 HF3 HS3
        have HR3 := hid (HR1.out.no HF3.out)
        have e14 : w3.cell? ⟨k, o + 14, none⟩ = some (.int .u8 (n14 : Int)) := HF3.out.cell (w := w1.drew) d14 id
        have e15 : w3.cell? ⟨k, o + 15, none⟩ = some (.int .u8 (n15 : Int)) := HF3.out.cell (w := w1.drew) d15 id
        refine hK3 _ _ (Facts.cons_hold e14 (Facts.cons_hold e15 (Facts.nil_hold _))) ?_
        simp only [Act.put, List.setIfInBounds_toArray, List.set_cons_zero, List.set_cons_succ]
        refine wpD_only 3 [(9, fun w' => w'.cell? ⟨k, o + 14, none⟩ = some (.int .u8 (n14 : Int))), (13, fun w' => w'.cell? ⟨k, o + 15, none⟩ = some (.int .u8 (n15 : Int)))] rfl (by kernel_rfl) (by kernel_rfl) (by rfl) (fun K3 hK3 => ?_)
        refine wp_call (.func 92) _ _ rfl 92 [] rfl hentRNum [.slice (some ⟨k, o, none⟩) 64 cap, .int .i64 8, .int .i64 4] (by rfl) ?_
        refine (N8.out _ HR3.out).mono ?_
        rintro e wq ⟨rfl, rfl⟩
        refine ⟨_, rfl, hK3 _ _ (Facts.cons_hold e14 (Facts.cons_hold e15 (Facts.nil_hold _))) ?_⟩
        simp only [Act.put, List.setIfInBounds_toArray, List.set_cons_zero, List.set_cons_succ]
        refine wpD_only 5 [(9, fun w' => w'.cell? ⟨k, o + 14, none⟩ = some (.int .u8 (n14 : Int))), (13, fun w' => w'.cell? ⟨k, o + 15, none⟩ = some (.int .u8 (n15 : Int)))] rfl (by kernel_rfl) (by kernel_rfl) (by rfl) (fun K5 hK5 => ?_)
        refine wp_call (.func 92) _ _ rfl 92 [] rfl hentRNum [.slice (some ⟨k, o, none⟩) 64 cap, .int .i64 12, .int .i64 2] (by rfl) ?_
        refine (N12.out _ HR3.out).mono ?_
        rintro e wq ⟨rfl, rfl⟩
        refine ⟨_, rfl, hK5 _ _ (Facts.cons_hold e14 (Facts.cons_hold e15 (Facts.nil_hold _))) ?_⟩
        simp only [Act.put, List.setIfInBounds_toArray, List.set_cons_zero, List.set_cons_succ]
        have hold : Facts.hold [(9, fun w' => w'.cell? ⟨k, o + 14, none⟩ = some (.int .u8 (n14 : Int))), (13, fun w' => w'.cell? ⟨k, o + 15, none⟩ = some (.int .u8 (n15 : Int)))] w3 := (Facts.cons_hold e14 (Facts.cons_hold e15 (Facts.nil_hold _)))
        (refine wpD_plain 6 (v := (.int .i64 (n12 : Int))) rfl (by kernel_rfl) (by kernel_rfl) (by kernel_rfl) (fun _ _ _ h => h) (by rfl) ?_ (by assumption) ?_; (intro _w; go_simp; exact WS12.out); simp only [Act.put, List.setIfInBounds_toArray, List.set_cons_zero, List.set_cons_succ])
        (refine wpD_plain 15 (v := (.agg (rsec false n4 n8 n12 n14 n15 (.slice none 0 0)).toArray)) rfl (by kernel_rfl) (by kernel_rfl) (by kernel_rfl) (fun _ _ _ h => h) (by rfl) ?_ (by assumption) ?_; (intro _w; go_simp; rfl); simp only [Act.put, List.setIfInBounds_toArray, List.set_cons_zero, List.set_cons_succ])
        refine wpD_only 17 [] rfl (by kernel_rfl) (by kernel_rfl) (by rfl) (fun K9 hK9 => ?_)
        refine wp_storeB 126 _ _ rfl w1.drew.heap.size 0 (rsec false n4 n8 n12 n14 n15 (.slice none 0 0)) rfl rfl _ _ HB3.out (by simp [rsec]) (by rw [info99]; rfl) (by intro v hv; simp [rsec] at hv; rcases hv with rfl | rfl | rfl | rfl | rfl | rfl | rfl <;> rfl) ?_
        intro w4 HB4 HF4 HS4
        refine hK9 _ _ (Facts.nil_hold _) ?_
        simp only [Act.put, List.setIfInBounds_toArray, List.set_cons_zero, List.set_cons_succ]
        refine wpD_cast (listed' := Array.replicate 18 true) (by kernel_rfl) ?_
        exact HT.out _ _ ⟨w1.drew.heap.size, rfl, HB4, hid (HF3.out.trans HF4.out (fun j hj => .inr (Nat.le_of_eq hj.symm))), hid (Nat.le_refl _)⟩ (Facts.nil_hold _)
    · intro K1 hK1
      refine wp_alloc _ rfl _ zero99 (rsec false 0 0 0 0 0 (.slice none 0 0)) rfl ?_
      intro w3 HB3 HF3 HS3
      have HR3 := hid (HR1.out.no HF3.out)
      have e14 : w3.cell? ⟨k, o + 14, none⟩ = some (.int .u8 (n14 : Int)) := HF3.out.cell (w := w1.drew) d14 id
      have e15 : w3.cell? ⟨k, o + 15, none⟩ = some (.int .u8 (n15 : Int)) := HF3.out.cell (w := w1.drew) d15 id
      refine hK1 _ _ (Facts.cons_hold e14 (Facts.cons_hold e15 (Facts.nil_hold _))) ?_
      simp only [Act.put, List.setIfInBounds_toArray, List.set_cons_zero, List.set_cons_succ]
      refine wpD_only 1 [(9, fun w' => w'.cell? ⟨k, o + 14, none⟩ = some (.int .u8 (n14 : Int))), (13, fun w' => w'.cell? ⟨k, o + 15, none⟩ = some (.int .u8 (n15 : Int)))] rfl (by kernel_rfl) (by kernel_rfl) (by rfl) (fun K1 hK1 => ?_)
      refine wp_call (.func 92) _ _ rfl 92 [] rfl hentRNum [.slice (some ⟨k, o, none⟩) 64 cap, .int .i64 4, .int .i64 4] (by rfl) ?_
      refine (N4.out _ HR3.out).mono ?_
      rintro e wq ⟨rfl, rfl⟩
      refine ⟨_, rfl, hK1 _ _ (Facts.cons_hold e14 (Facts.cons_hold e15 (Facts.nil_hold _))) ?_⟩
      simp only [Act.put, List.setIfInBounds_toArray, List.set_cons_zero, List.set_cons_succ]
      refine wpD_only 3 [(9, fun w' => w'.cell? ⟨k, o + 14, none⟩ = some (.int .u8 (n14 : Int))), (13, fun w' => w'.cell? ⟨k, o + 15, none⟩ = some (.int .u8 (n15 : Int)))] rfl (by kernel_rfl) (by kernel_rfl) (by rfl) (fun K3 hK3 => ?_)
      refine wp_call (.func 92) _ _ rfl 92 [] rfl hentRNum [.slice (some ⟨k, o, none⟩) 64 cap, .int .i64 8, .int .i64 4] (by rfl) ?_
      refine (N8.out _ HR3.out).mono ?_
      rintro e wq ⟨rfl, rfl⟩
      refine ⟨_, rfl, hK3 _ _ (Facts.cons_hold e14 (Facts.cons_hold e15 (Facts.nil_hold _))) ?_⟩
      simp only [Act.put, List.setIfInBounds_toArray, List.set_cons_zero, List.set_cons_succ]
      refine wpD_only 5 [(9, fun w' => w'.cell? ⟨k, o + 14, none⟩ = some (.int .u8 (n14 : Int))), (13, fun w' => w'.cell? ⟨k, o + 15, none⟩ = some (.int .u8 (n15 : Int)))] rfl (by kernel_rfl) (by kernel_rfl) (by rfl) (fun K5 hK5 => ?_)
      refine wp_call (.func 92) _ _ rfl 92 [] rfl hentRNum [.slice (some ⟨k, o, none⟩) 64 cap, .int .i64 12, .int .i64 2] (by rfl) ?_
      refine (N12.out _ HR3.out).mono ?_
      rintro e wq ⟨rfl, rfl⟩
      refine ⟨_, rfl, hK5 _ _ (Facts.cons_hold e14 (Facts.cons_hold e15 (Facts.nil_hold _))) ?_⟩
      simp only [Act.put, List.setIfInBounds_toArray, List.set_cons_zero, List.set_cons_succ]
      have hold : Facts.hold [(9, fun w' => w'.cell? ⟨k, o + 14, none⟩ = some (.int .u8 (n14 : Int))), (13, fun w' => w'.cell? ⟨k, o + 15, none⟩ = some (.int .u8 (n15 : Int)))] w3 := (Facts.cons_hold e14 (Facts.cons_hold e15 (Facts.nil_hold _)))
      (refine wpD_plain 6 (v := (.int .i64 (n12 : Int))) rfl (by kernel_rfl) (by kernel_rfl) (by kernel_rfl) (fun _ _ _ h => h) (by rfl) ?_ (by assumption) ?_; (intro _w; go_simp; exact WS12.out); simp only [Act.put, List.setIfInBounds_toArray, List.set_cons_zero, List.set_cons_succ])
      (refine wpD_plain 15 (v := (.agg (rsec false n4 n8 n12 n14 n15 (.slice none 0 0)).toArray)) rfl (by kernel_rfl) (by kernel_rfl) (by kernel_rfl) (fun _ _ _ h => h) (by rfl) ?_ (by assumption) ?_; (intro _w; go_simp; rfl); simp only [Act.put, List.setIfInBounds_toArray, List.set_cons_zero, List.set_cons_succ])
      refine wpD_only 17 [] rfl (by kernel_rfl) (by kernel_rfl) (by rfl) (fun K9 hK9 => ?_)
      refine wp_storeB 126 _ _ rfl w1.drew.heap.size 0 (rsec false n4 n8 n12 n14 n15 (.slice none 0 0)) rfl rfl _ _ HB3.out (by simp [rsec]) (by rw [info99]; rfl) (by intro v hv; simp [rsec] at hv; rcases hv with rfl | rfl | rfl | rfl | rfl | rfl | rfl <;> rfl) ?_
      intro w4 HB4 HF4 HS4
      refine hK9 _ _ (Facts.nil_hold _) ?_
      simp only [Act.put, List.setIfInBounds_toArray, List.set_cons_zero, List.set_cons_succ]
      refine wpD_cast (listed' := Array.replicate 18 true) (by kernel_rfl) ?_
      exact HT.out _ _ ⟨w1.drew.heap.size, rfl, HB4, hid (HF3.out.trans HF4.out (fun j hj => .inr (Nat.le_of_eq hj.symm))), hid (Nat.le_refl _)⟩ (Facts.nil_hold _)
  · rintro a' w5 ⟨bb, rfl, HB5, HF5, HS5⟩ hold0
    simp only [Act.put, List.setIfInBounds_toArray, List.set_cons_zero, List.set_cons_succ]
    refine wpD_done (by kernel_rfl) ?_ _
    clear hold0
    have HF5w : Hid (Fr No w w5) := hid ((HF1.out.trans' (Fr.refl No w1).drew).trans' HF5.out)
    have HRx := hid (HR.out.no HF5w.out)
    have HBx : Hid (Blk w5 bb 126 (rsec false n4 n8 n12 n14 n15 (.slice none 0 0))) := hid (by have := HB5.out; rwa [spl_all (by simp [rsec])] at this)
    have HBs : Hid (Blk w5 w.heap.size 126 (rsec false 0 0 0 0 0 (.slice none 0 0))) := hid ((HB1.out.fr (Fr.refl No w1).drew id).fr HF5.out id)
    have HNe : Hid (w.heap.size < bb) := hid (by have e1 := HS5.out; have e2 : w1.drew.heap.size = w1.heap.size := rfl; have e3 := HS1.out; omega)
    clear HB1 HF1 HS1 HR1 d14 d15 HB5 HF5 HS5
    go_wp2_with fail
    have hold : Facts.hold [] w5.drew := Facts.nil_hold _
    refine wpD_region hold (by kernel_rfl) 8 rfl ?_
    (refine wpD_plain 0 (v := ?_) rfl (by kernel_rfl) (by kernel_rfl) (by kernel_rfl) (fun _ _ _ h => h) (by rfl) ?_ (by assumption) ?_; rotate_left; (intro _w; go_simp; try with_reducible rfl); simp only [Act.put, List.setIfInBounds_toArray, List.set_cons_zero, List.set_cons_succ])
    (refine wpD_plain 2 (v := ?_) rfl (by kernel_rfl) (by kernel_rfl) (by kernel_rfl) (fun _ _ _ h => h) (by rfl) ?_ (by assumption) ?_; rotate_left; (intro _w; go_simp; try with_reducible rfl); simp only [Act.put, List.setIfInBounds_toArray, List.set_cons_zero, List.set_cons_succ])
    (refine wpD_plain 3 (v := (.slice (some ⟨k, o + 4, none⟩) 60 (cap - 4))) rfl (by kernel_rfl) (by kernel_rfl) (by kernel_rfl) (fun _ _ _ h => h) (by rfl) ?_ (by assumption) ?_; (intro _w; go_simp; (first | rfl | simp [hc4])); simp only [Act.put, List.setIfInBounds_toArray, List.set_cons_zero, List.set_cons_succ])
    clear hold
    refine wpD_only 1 [] rfl (by kernel_rfl) (by kernel_rfl) (by rfl) (fun K1 hK1 => ?_)
    refine wp_call (.func 92) _ _ rfl 92 [] rfl hentRNum [.slice (some ⟨k, o, none⟩) 64 cap, .int .i64 0, .int .i64 4] (by rfl) ?_
    refine (N0.out _ (HRx.out.no (Fr.refl No w5).drew)).mono ?_
    rintro e wq ⟨rfl, rfl⟩
    refine ⟨_, rfl, hK1 _ _ (Facts.nil_hold _) ?_⟩
    simp only [Act.put, List.setIfInBounds_toArray, List.set_cons_zero, List.set_cons_succ]
    clear hK1 K1
    refine wpD_only 4 [] rfl (by kernel_rfl) (by kernel_rfl) (by rfl) (fun K4 hK4 => ?_)
    refine wp_call (.func 70) _ _ rfl 70 [] rfl hentRSum [.slice (some ⟨k, o + 4, none⟩) 60 (cap - 4)] (by rfl) ?_
    refine (SUMR.out _ (HRx.out.no (Fr.refl No w5).drew)).mono ?_
    rintro e wq ⟨rfl, rfl⟩
    refine ⟨_, rfl, hK4 _ _ (Facts.nil_hold _) ?_⟩
    simp only [Act.put, List.setIfInBounds_toArray, List.set_cons_zero, List.set_cons_succ]
    clear hK4 K4
    have hold : Facts.hold [] w5.drew := Facts.nil_hold _
    (refine wpD_plain 5 (v := (.bool (decide (m0 = s0)))) rfl (by kernel_rfl) (by kernel_rfl) (by kernel_rfl) (fun _ _ _ h => h) (by rfl) ?_ (by assumption) ?_; (intro _w; go_simp; exact WE.out); simp only [Act.put, List.setIfInBounds_toArray, List.set_cons_zero, List.set_cons_succ])
    (refine wpD_plain 6 (v := ?_) rfl (by kernel_rfl) (by kernel_rfl) (by kernel_rfl) (fun _ _ _ h => h) (by rfl) ?_ (by assumption) ?_; rotate_left; (intro _w; go_simp; try with_reducible rfl); simp only [Act.put, List.setIfInBounds_toArray, List.set_cons_zero, List.set_cons_succ])
    clear hold
    have cb : w5.drew.cell? ⟨bb, 0, none⟩ = some (.bool false) := HBx.out.cell 0
    have fb : w5.drew.frozen? ⟨bb, 0, none⟩ = false := HBx.out.frozen 0
    refine wpD_only 7 [] rfl (by kernel_rfl) (by kernel_rfl) (by rfl) (fun K7 hK7 => ?_)
    go_simp
    refine hK7 _ _ (Facts.nil_hold _) ?_
    clear hK7 K7
    try (simp only [Act.put, List.setIfInBounds_toArray, List.set_cons_zero, List.set_cons_succ])
    have HBy : Hid (Blk ((w5.setCell ⟨bb, 0, none⟩ (.bool (decide (m0 = s0)))).drew) bb 126 (rsec (decide (m0 = s0)) n4 n8 n12 n14 n15 (.slice none 0 0))) := hid (HBx.out.set 0 (.bool (decide (m0 = s0))))
    have HFy : Hid (Fr No w ((w5.setCell ⟨bb, 0, none⟩ (.bool (decide (m0 = s0)))).drew)) := hid (HF5w.out.setCell _ _ (.inr (Nat.le_of_lt HNe.out))).drew
    have HBz : Hid (Blk ((w5.setCell ⟨bb, 0, none⟩ (.bool (decide (m0 = s0)))).drew) w.heap.size 126 (rsec false 0 0 0 0 0 (.slice none 0 0))) := hid (HBs.out.fr ((Fr.refl (fun j => j = bb) w5).setCell _ _ (.inl rfl)).drew (fun e => Nat.lt_irrefl _ (e ▸ HNe.out)))
    refine wpD_done (by kernel_rfl) ?_ _
    generalize (w5.setCell ⟨bb, 0, none⟩ (.bool (decide (m0 = s0)))).drew = w6 at HBy HFy HBz ⊢
    clear HBx HBs HF5w HRx cb fb N0 N4 N8 N12 SUMR
    generalize hR0 : decide (m0 = s0) = R0 at HBy ⊢
    have HR0 := hid hR0
    clear hR0
    have LI : min n15 48 ≤ 48 := Nat.min_le_right _ _
    go_wp2_with fail
    go_loopw [4] (fun i wr => ∃ (j : Nat) (a : Option Addr) (c : Nat), j ≤ min n15 48 ∧ i = .int .i64 j ∧ Hid (Blk wr bb 126 (rsec R0 n4 n8 n12 n14 n15 (.slice a j c))) ∧ Hid (wr.ownsRow (bb + 1) 5 1 (.slice a j c) j (u8s ((b.drop 16).take j))) ∧
      Hid (Blk wr w.heap.size 126 (rsec false 0 0 0 0 0 (.slice none 0 0))) ∧ Hid (Fr No w wr)) (fun i _ => 48 - (intOf i).toNat)
    case atStart => exact ⟨0, none, 0, Nat.zero_le _, rfl, HBy, hid (World.ownsRow_nil _ _ _ _), HBz, HFy⟩
    case round =>
      obtain ⟨j, a, c, hj, rfl, HBj, HOj, HSj, HFj⟩ := hrel
      have c5 : wr.cell? ⟨bb, 5, none⟩ = some (.int .i64 (n15 : Int)) := HBj.out.cell 5
      by_cases hlt : j < min n15 48
      · have h1 : (j : Int) < n15 := by omega
        have h2 : (j : Int) < 48 := by omega
        have hj0 : (0 : Int) ≤ j := by omega
        have hx : 16 + j < b.length := by have := HL.out; omega
        have cx : wr.cell? ⟨k, o + (16 + j), none⟩ = some (.int .u8 (b[16 + j].toNat : Int)) := by
          obtain ⟨g, o', q1, q2⟩ := (HR.out.no HFj.out) (16 + j) hx
          cases q1
          exact q2
        have HTk : Hid ((b.drop 16).take (j + 1) = (b.drop 16).take j ++ [b[16 + j]]) := hid (by
          rw [List.take_succ_eq_append_getElem (by simp; omega)]
          simp)
        generalize b[16 + j] = x at cx HTk
        have c6 : wr.cell? ⟨bb, 6, none⟩ = some (.slice a j c) := HBj.out.cell 6
        have WSj : Hid (IntKind.i64.wrap (16 + (j : Int)) = ((16 + j : Nat) : Int)) := hid ((wrap_small (by omega) (by omega)).trans (by omega))
        have hji : ((16 + j : Nat) : Int) < 64 := by omega
        have HJ := hid hj; have HLT := hid hlt
        clear hx hj hlt
        go_wp2_with fail
        have hold : Facts.hold [(1, fun w' => w'.cell? ⟨bb, 6, none⟩ = some (.slice a j c)), (6, fun w' => w'.cell? ⟨k, o + (16 + j), none⟩ = some (.int .u8 (x.toNat : Int)))] wr.drew := Facts.cons_hold c6 (Facts.cons_hold cx (Facts.nil_hold _))
        refine wpD_region hold (by kernel_rfl) 11 rfl ?_
        (refine wpD_plain 0 (v := ?_) rfl (by kernel_rfl) (by kernel_rfl) (by kernel_rfl) (fun _ _ _ h => h) (by rfl) ?_ (by assumption) ?_; rotate_left; (intro _w; go_simp; try with_reducible rfl); simp only [Act.put, List.setIfInBounds_toArray, List.set_cons_zero, List.set_cons_succ])
        (refine wpD_take 1 _ rfl (by kernel_rfl) (by kernel_rfl) (by kernel_rfl) (fun _ _ _ h => h) List.mem_cons_self (by rfl) (v := ?_) ?_ (by assumption) ?_; rotate_left; (intro _w _hw; go_simp; try with_reducible rfl); simp only [Act.put, List.setIfInBounds_toArray, List.set_cons_zero, List.set_cons_succ])
        (refine wpD_plain 2 (v := ?_) rfl (by kernel_rfl) (by kernel_rfl) (by kernel_rfl) (fun _ _ _ h => h) (by rfl) ?_ (by assumption) ?_; rotate_left; (intro _w; go_simp; try with_reducible rfl); simp only [Act.put, List.setIfInBounds_toArray, List.set_cons_zero, List.set_cons_succ])
        (refine wpD_plain 3 (v := ?_) rfl (by kernel_rfl) (by kernel_rfl) (by kernel_rfl) (fun _ _ _ h => h) (by rfl) ?_ (by assumption) ?_; rotate_left; (intro _w; go_simp; try with_reducible rfl); simp only [Act.put, List.setIfInBounds_toArray, List.set_cons_zero, List.set_cons_succ])
        (refine wpD_plain 4 (v := (.int .i64 ((16 + j : Nat) : Int))) rfl (by kernel_rfl) (by kernel_rfl) (by kernel_rfl) (fun _ _ _ h => h) (by rfl) ?_ (by assumption) ?_; (intro _w; go_simp; exact WSj.out); simp only [Act.put, List.setIfInBounds_toArray, List.set_cons_zero, List.set_cons_succ])
        (refine wpD_plain 5 (v := (.pointer (some ⟨k, o + (16 + j), none⟩))) rfl (by kernel_rfl) (by kernel_rfl) (by kernel_rfl) (fun _ _ _ h => h) (by rfl) ?_ (by assumption) ?_; (intro _w; go_simp; rw [if_pos ⟨by omega, by omega⟩, show (16 + (j : Int)).toNat = 16 + j by omega]); simp only [Act.put, List.setIfInBounds_toArray, List.set_cons_zero, List.set_cons_succ])
        (refine wpD_take 6 _ rfl (by kernel_rfl) (by kernel_rfl) (by kernel_rfl) (fun _ _ _ h => h) (List.mem_cons_of_mem _ List.mem_cons_self) (by rfl) (v := ?_) ?_ (by assumption) ?_; rotate_left; (intro _w _hw; go_simp; try with_reducible rfl); simp only [Act.put, List.setIfInBounds_toArray, List.set_cons_zero, List.set_cons_succ])
        clear hold
        refine wpD_only 7 [(1, fun w' => w'.cell? ⟨bb, 6, none⟩ = some (.slice a j c))] rfl (by kernel_rfl) (by kernel_rfl) (by rfl) (fun K7 hK7 => ?_)
        refine wp_buildOne 66 5 _ rfl i5 _ rfl I5.out Z5.out (by rw [S5.out]; decide) (by rw [S5.out]; decide) _ [.int .u8 (x.toNat : Int)] rfl rfl (by rw [S5.out]; rfl) ?_
        intro w7 HB7 HF7 HS7
        refine hK7 _ _ (Facts.cons_hold (HF7.out.cell (w := wr.drew) c6 id) (Facts.nil_hold _)) ?_
        simp only [Act.put, List.setIfInBounds_toArray, List.set_cons_zero, List.set_cons_succ]
        clear hK7 K7
        have HO7 := hid (own_fr (own_fr HOj.out (Fr.refl No wr).drew (fun _ _ e => e)) HF7.out (fun _ _ e => e))
        have HB7' : Hid (Blk w7 bb 126 (rsec R0 n4 n8 n12 n14 n15 (.slice a j c))) := hid ((HBj.out.fr (Fr.refl No wr).drew id).fr HF7.out id)
        have HS7' : Hid (Blk w7 w.heap.size 126 (rsec false 0 0 0 0 0 (.slice none 0 0))) := hid ((HSj.out.fr (Fr.refl No wr).drew id).fr HF7.out id)
        have HF7' : Hid (Fr No w w7) := hid ((HFj.out.trans' (Fr.refl No wr).drew).trans' HF7.out)
        refine wpD_only 8 [] rfl (by kernel_rfl) (by kernel_rfl) (by rfl) (fun K8 hK8 => ?_)
        refine wp_appendX _ _ 66 rfl (bb + 1) 5 i5 _ 1 1 rfl I5.out Z5.out S5.out B5.out rfl (by decide) _ j (u8s ((b.drop 16).take j)) rfl HO7.out (some ⟨wr.drew.heap.size, 0, none⟩) 1 1 [.int .u8 (x.toNat : Int)] rfl rfl (.inr ⟨_, rfl, range_loads (HB7.out.range 0 _ rfl)⟩) (by intro v hv; simp at hv; subst hv; rfl) (by unfold maxLen; omega) (by omega) HB7'.out.lt ?_
        intro a8 c8 w8 HO8 HG8 HA8
        refine hK8 _ _ (Facts.nil_hold _) ?_
        simp only [Act.put, List.setIfInBounds_toArray, List.set_cons_zero, List.set_cons_succ]
        clear hK8 K8
        have hlow : ∀ g, (Value.slice a j c).ownBlock = some g → bb + 1 ≤ g := fun g hg => own_low HO7.out g hg
        have HB8 : Hid (Blk w8 bb 126 (rsec R0 n4 n8 n12 n14 n15 (.slice a j c))) := hid (HB7'.out.fr (frown HG8.out) (fun e => by have := hlow _ e; omega))
        have HS8 : Hid (Blk w8 w.heap.size 126 (rsec false 0 0 0 0 0 (.slice none 0 0))) := hid (HS7'.out.fr (frown HG8.out) (fun e => by have := hlow _ e; have := HNe.out; omega))
        have HF8 : Hid (Fr No w w8) := hid (HF7'.out.trans (frown HG8.out) (fun g e => .inr (by have := hlow g e; have := HNe.out; omega)))
        have hold : Facts.hold [] w8 := Facts.nil_hold _
        (refine wpD_plain 9 (v := ?_) rfl (by kernel_rfl) (by kernel_rfl) (by kernel_rfl) (fun _ _ _ h => h) (by rfl) ?_ (by assumption) ?_; rotate_left; (intro _w; go_simp; try with_reducible rfl); simp only [Act.put, List.setIfInBounds_toArray, List.set_cons_zero, List.set_cons_succ])
        clear hold
        have cb : w8.cell? ⟨bb, 6, none⟩ = some (.slice a j c) := HB8.out.cell 6
        have fb : w8.frozen? ⟨bb, 6, none⟩ = false := HB8.out.frozen 6
        refine wpD_only 10 [] rfl (by kernel_rfl) (by kernel_rfl) (by rfl) (fun K9 hK9 => ?_)
        go_simp
        refine hK9 _ _ (Facts.nil_hold _) ?_
        clear hK9 K9
        try (simp only [Act.put, List.setIfInBounds_toArray, List.set_cons_zero, List.set_cons_succ])
        have HB9 : Hid (Blk (w8.setCell ⟨bb, 6, none⟩ (.slice a8 (j + 1) c8)) bb 126 (rsec R0 n4 n8 n12 n14 n15 (.slice a8 (j + 1) c8))) := hid (HB8.out.set 6 _)
        have hfr9 : Fr (fun g => g = bb) w8 (w8.setCell ⟨bb, 6, none⟩ (.slice a8 (j + 1) c8)) := (Fr.refl _ _).setCell _ _ (.inl rfl)
        have HO9 := hid (own_fr HO8.out hfr9 (fun g e e' => by have := own_low HO8.out g e; omega))
        have HS9 := hid (HS8.out.fr hfr9 (fun e => by have := HNe.out; omega))
        have HF9 : Hid (Fr No w (w8.setCell ⟨bb, 6, none⟩ (.slice a8 (j + 1) c8))) := hid (HF8.out.trans hfr9 (fun g e => .inr (by have := HNe.out; omega)))
        clear hfr9
        generalize w8.setCell ⟨bb, 6, none⟩ (.slice a8 (j + 1) c8) = w9 at HB9 HO9 HS9 HF9 ⊢
        refine wpD_done (by kernel_rfl) ?_ _
        clear cb fb c5 c6 cx
        go_wp2_with fail
        refine ⟨⟨j + 1, a8, c8, by have := HLT.out; omega, by go_num, HB9, hid ?_, HS9, HF9⟩, by simp [intOf]; have := HLT.out; omega⟩
        refine own_cast (j + 1) _ HO9.out rfl ?_
        rw [HTk.out, u8s_append]
        rfl
      · obtain rfl : j = min n15 48 := by omega
        clear hj hlt
        obtain ⟨m, hm⟩ : ∃ m, m = min n15 48 := ⟨_, rfl⟩
        rw [← hm] at HBj HOj ⊢
        have HM := hid hm
        have hcase : (¬ ((m : Int) < n15)) ∨ ((m : Int) < n15 ∧ ¬ ((m : Int) < 48)) := by omega
        have HON : Hid (∀ v ∈ rsec R0 n4 n8 n12 n14 n15 (.slice a m c), v.oneCell' = true) := hid (by intro v hv; simp [rsec] at hv; rcases hv with rfl | rfl | rfl | rfl | rfl | rfl | rfl <;> rfl)
        clear hm LI
        rcases hcase with h1 | ⟨h1, h2⟩
        · have h1d : decide ((m : Int) < n15) = false := decide_eq_false h1
          go_wp2_with (first
            | ((with_reducible show wpList _ _ _ ({ dst := _, op := .load 126 _, type := _, pos := _, after := _, guard := _ } :: _) _ _); refine wpL_load rfl _ _ rfl bb 0 rfl (rsec R0 n4 n8 n12 n14 n15 (.slice a m c)) _ (HBj.out.range 0 _ rfl) rfl rfl (by rw [info99]; rfl) ?_)
            | ((with_reducible show wpList _ _ _ ({ dst := _, op := .store 126 _ _, type := _, pos := _, after := _, guard := _ } :: _) _ _); refine wpL_store rfl _ _ _ rfl w.heap.size 0 (rsec R0 n4 n8 n12 n14 n15 (.slice a m c)) rfl rfl _ _ HSj.out (by simp [rsec]) (by rw [info99]; rfl) HON.out ?_; intro w10 HB10 HF10 HS10))
          have HBr : Hid (Blk w10 w.heap.size 126 (rsec R0 n4 n8 n12 n14 n15 (.slice a m c))) := hid (by have := HB10.out; rwa [spl_all (by simp [rsec])] at this)
          refine ret_cell rfl _ rfl HBr.out rfl rfl (by rw [info99]; rfl) rfl ?_
          have hmm := HM.out
          try clear h1d
          try clear h2d
          subst hmm
          exact ⟨a, c, by rw [HR0.out], own_mono (own_fr HOj.out HF10.out (fun g e e' => by have := own_low HOj.out g e; have := HNe.out; omega)) (by have := HNe.out; omega), HFj.out.trans HF10.out (fun g e => .inr (Nat.le_of_eq e.symm))⟩
        · have h2d : decide ((m : Int) < 48) = false := decide_eq_false h2
          go_wp2_with (first
            | ((with_reducible show wpList _ _ _ ({ dst := _, op := .load 126 _, type := _, pos := _, after := _, guard := _ } :: _) _ _); refine wpL_load rfl _ _ rfl bb 0 rfl (rsec R0 n4 n8 n12 n14 n15 (.slice a m c)) _ (HBj.out.range 0 _ rfl) rfl rfl (by rw [info99]; rfl) ?_)
            | ((with_reducible show wpList _ _ _ ({ dst := _, op := .store 126 _ _, type := _, pos := _, after := _, guard := _ } :: _) _ _); refine wpL_store rfl _ _ _ rfl w.heap.size 0 (rsec R0 n4 n8 n12 n14 n15 (.slice a m c)) rfl rfl _ _ HSj.out (by simp [rsec]) (by rw [info99]; rfl) HON.out ?_; intro w10 HB10 HF10 HS10))
          have HBr : Hid (Blk w10 w.heap.size 126 (rsec R0 n4 n8 n12 n14 n15 (.slice a m c))) := hid (by have := HB10.out; rwa [spl_all (by simp [rsec])] at this)
          refine ret_cell rfl _ rfl HBr.out rfl rfl (by rw [info99]; rfl) rfl ?_
          have hmm := HM.out
          try clear h2d
          subst hmm
          exact ⟨a, c, by rw [HR0.out], own_mono (own_fr HOj.out HF10.out (fun g e e' => by have := own_low HOj.out g e; have := HNe.out; omega)) (by have := HNe.out; omega), HFj.out.trans HF10.out (fun g e => .inr (Nat.le_of_eq e.symm))⟩
end Go.Proofs.Ytlnolnaapnijbaa.L
