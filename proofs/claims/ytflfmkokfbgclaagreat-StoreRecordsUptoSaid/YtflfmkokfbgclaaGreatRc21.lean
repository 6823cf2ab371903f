/-
  Part 21 of the proof: StD, StG, StP, StQ.
-/
import Derived.Test.YtflfmkokfbgclaaGreatRc20
import Derived.Test.YtflfmkokfbgclaaGreatRc12
set_option linter.unusedSimpArgs false
set_option linter.unusedVariables false
namespace Go.Proofs.YtflfmkokfbgclaaGreat.ST
set_option maxRecDepth 100000
open Go.RowKit K

def decG : Nat → S → List Ch → Option (List Ch)
  | 0, _, acc => some acc
  | n + 1, s, acc => if s.size = 0 then some acc else match cutS s with
    | none => none
    | some (c, r) => if acc.length = 32 then none else decG n r (acc ++ [c])
def decS (s : S) : Option (List Ch) := if 2000 < s.size then none else decG (s.size + 1) s []
theorem cut_less {s : S} {c : Ch} {r : S} (h : cutS s = some (c, r)) : r.size + 4 ≤ s.size := by
  unfold cutS at h
  by_cases h1 : s.size < 4 ∨ 1 < byt s 0 ∨ s.size < 4 + byt s 1 + byt s 2 + 256 * byt s 3
  · rw [if_pos h1] at h; cases h
  · rw [if_neg h1] at h
    simp only at h
    split at h
    · simp only [Option.some.injEq, Prod.mk.injEq] at h
      rw [← h.2]
      simp
      omega
    · cases h
theorem cut_sizes {s : S} {c : Ch} {r : S} (h : cutS s = some (c, r)) : c.may = true := by
  unfold cutS at h
  by_cases h1 : s.size < 4 ∨ 1 < byt s 0 ∨ s.size < 4 + byt s 1 + byt s 2 + 256 * byt s 3
  · rw [if_pos h1] at h; cases h
  · rw [if_neg h1] at h
    simp only at h
    split at h
    · rename_i hm
      simp only [Option.some.injEq, Prod.mk.injEq] at h
      rw [← h.1]; exact hm
    · cases h
def strLen : Value → Nat
  | .string s => s.size
  | _ => 0
theorem infozCh : (Tryz.prog.info? 55).map (fun i => (i.zero, i.size, i.bytes)) = some (some (.agg #[.string ⟨#[]⟩, .string ⟨#[]⟩, .bool false]), 3, 40) := by kernel_rfl
def decErr : Option (List Ch) → Int
  | none => 30
  | some _ => 0
/-- What Decode leaves. -/
def Decoded (w : World) (r : Option (List Ch)) (e : Ending) (w' : World) : Prop :=
  ∃ v, e = .returned (.tuple #[v, .int .i64 (decErr r)]) ∧ w'.ownsRow w.heap.size 55 3 v (r.getD []).length (chs (r.getD [])) ∧ Fr No w w'
theorem chs_snoc (l : List Ch) (x : Ch) : chs (l ++ [x]) = chs l ++ [.string x.key, .string x.value, .bool x.gone] := by simp [chs, Ch.cells]
theorem chs_length (l : List Ch) : (chs l).length = l.length * 3 := by
  induction l with
  | nil => rfl
  | cons x r ih =>
    show (x.cells ++ chs r).length = _
    rw [List.length_append, ih, List.length_cons]
    show 3 + _ = _
    omega
set_option maxHeartbeats 8000000 in
theorem decode_any (s : S) (w : World) (hs : s.size ≤ 140737488351232) : Calls Tryz.prog 10 #[.string s] w (Decoded w (decS s)) := by
  have hsi : (s.size : Int) ≤ 140737488351232 := by omega
  obtain ⟨r, hr⟩ : ∃ r, decS s = r := ⟨_, rfl⟩
  have HR := hid hr
  rw [hr]
  clear hr hs
  by_cases h2 : 2000 < s.size
  · have h2i : (2000 : Int) < s.size := by omega
    have hrn : r = none := by rw [← HR.out]; unfold decS; rw [if_pos h2]
    have HRN := hid hrn
    clear hrn h2
    go_enter Tryz.func10, Tryz.ntmps10
    go_wp2_with fail
    go_ret2
    rw [HRN.out]
    exact ⟨_, rfl, World.ownsRow_nil _ _ _ _, Fr.refl _ _⟩
  have h2i : (s.size : Int) ≤ 2000 := by omega
  have HSZ : Hid (s.size ≤ 2000) := hid (by omega)
  have HR2 : Hid (decG (s.size + 1) s [] = r) := hid (by rw [← HR.out]; unfold decS; rw [if_neg h2])
  obtain ⟨ic, hic, hzc, hsc, hbc⟩ := Go.info_parts infozCh
  have IC := hid hic; have ZC := hid hzc; have SC := hid hsc; have BC := hid hbc
  clear h2 hic hzc hsc hbc
  go_enter Tryz.func10, Tryz.ntmps10
  go_wp2_with fail
  go_loopw [0, 4] (fun tv rv wr => ∃ (t : S) (acc : List Ch) (ra : Option Addr) (rc n : Nat), tv = .string t ∧ rv = .slice ra acc.length rc ∧ t.size ≤ 2000 ∧ acc.length ≤ 32 ∧ Hid (t.size < n) ∧ Hid (decG n t acc = r) ∧ Hid (wr.ownsRow w.heap.size 55 3 rv acc.length (chs acc)) ∧ Hid (Fr No w wr)) (fun tv _ _ => strLen tv)
  case atStart => exact ⟨s, [], none, 0, s.size + 1, rfl, rfl, HSZ.out, by simp, hid (Nat.lt_succ_self _), HR2, hid (World.ownsRow_nil _ _ _ _), hid (Fr.refl _ _)⟩
  case round =>
    obtain ⟨t, acc, ra, rc, n, rfl, rfl, hts, hac, HN, HD, HO, HF⟩ := hrel
    have hes := empty_size t
    have htsi : (t.size : Int) ≤ 2000 := by omega
    have haci : (acc.length : Int) ≤ 32 := by omega
    obtain ⟨m, rfl⟩ : ∃ m, n = m + 1 := ⟨n - 1, by have := HN.out; omega⟩
    by_cases h0 : t.size = 0
    · have hte : t.toList.isEmpty = true := by rw [hes]; simp [h0]
      have hrn : r = some acc := by rw [← HD.out]; unfold decG; rw [if_pos h0]
      have HRN := hid hrn
      clear hrn h0 hes
      go_wp2_with fail
      go_ret2
      rw [HRN.out]
      exact ⟨_, rfl, HO.out, HF.out⟩
    · have hte : t.toList.isEmpty = false := by rw [hes]; simp [h0]
      have HD2 : Hid ((match cutS t with
        | none => none
        | some (c, r) => if acc.length = 32 then none else decG m r (acc ++ [c])) = r) := hid (by have h := HD.out; unfold decG at h; rwa [if_neg h0] at h)
      clear hes h0
      go_wp2_with fail
      refine (cut_any t wr (by omega)).mono ?_
      rintro e w2 ⟨rfl, f2⟩
      have HF2 := hid f2
      clear f2
      cases hc : cutS t with
      | none =>
        have hrn : r = none := by have h := HD2.out; rw [hc] at h; exact h.symm
        have HRN := hid hrn
        clear hrn hc
        unfold cutV
        simp only
        go_wp2_with (first
          | ((with_reducible show wpList _ _ _ (⟨_, .alloc 55, _, _, _, _⟩ :: _) _ _); refine wpL_alloc rfl _ rfl _ zeroCh [.string ⟨#[]⟩, .string ⟨#[]⟩, .bool false] rfl ?_; intro w4 HB4 F4 HS4)
          | ((with_reducible show wpList _ _ _ (⟨_, .store 55 _ _, _, _, _, _⟩ :: _) _ _); refine TR.wpL_storeV rfl _ _ _ rfl w2.heap.size 0 noCh.agg [.string ⟨#[]⟩, .string ⟨#[]⟩, .bool false] rfl rfl rfl _ _ HB4.out (by simp) infoCh (by intro u hu; simp at hu; rcases hu with rfl | rfl <;> rfl) ?_; intro w5 HB5 F5 HS5))
        go_ret2
        rw [HRN.out]
        exact ⟨_, rfl, World.ownsRow_nil _ _ _ _, ((HF.out.trans' HF2.out).trans' F4.out).trans F5.out (fun k hk => .inr (by rw [hk]; exact (HF.out.trans' HF2.out).size))⟩
      | some p =>
        obtain ⟨x, t'⟩ := p
        have hless := cut_less hc
        have HD3 : Hid ((if acc.length = 32 then none else decG m t' (acc ++ [x])) = r) := hid (by have h := HD2.out; rw [hc] at h; exact h)
        have HONE : Hid (∀ u ∈ [Value.string x.key, .string x.value, .bool x.gone], u.oneCell' = true) := hid (by intro u hu; simp at hu; rcases hu with rfl | rfl | rfl <;> rfl)
        have HLE := hid hless
        clear hc hless HD2
        unfold cutV
        simp only
        by_cases h32 : acc.length = 32
        · have h32i : (acc.length : Int) = 32 := by omega
          have hrn : r = none := by have h := HD3.out; rw [if_pos h32] at h; exact h.symm
          have HRN := hid hrn
          clear hrn h32
          go_wp2_with (first
            | ((with_reducible show wpList _ _ _ (⟨_, .alloc 55, _, _, _, _⟩ :: _) _ _); refine wpL_alloc rfl _ rfl _ zeroCh [.string ⟨#[]⟩, .string ⟨#[]⟩, .bool false] rfl ?_; intro w4 HB4 F4 HS4)
            | ((with_reducible show wpList _ _ _ (⟨_, .store 55 _ _, _, _, _, _⟩ :: _) _ _); refine TR.wpL_storeV rfl _ _ _ rfl w2.heap.size 0 x.agg [.string x.key, .string x.value, .bool x.gone] rfl rfl rfl _ _ HB4.out (by simp) infoCh HONE.out ?_; intro w5 HB5 F5 HS5;
                have HBx : Hid (Blk w5 w2.heap.size 55 [.string x.key, .string x.value, .bool x.gone]) := hid (by have h := HB5.out; simpa [spl] using h);
                have HN5 : Hid (Fr No w w5) := hid (((HF.out.trans' HF2.out).trans' F4.out).trans F5.out (fun k hk => .inr (by rw [hk]; exact (HF.out.trans' HF2.out).size)))))
          go_ret2
          rw [HRN.out]
          exact ⟨_, rfl, World.ownsRow_nil _ _ _ _, ((HF.out.trans' HF2.out).trans' F4.out).trans F5.out (fun k hk => .inr (by rw [hk]; exact (HF.out.trans' HF2.out).size))⟩
        · have h32i : ¬ ((acc.length : Int) = 32) := by omega
          have HD4 : Hid (decG m t' (acc ++ [x]) = r) := hid (by have h := HD3.out; rwa [if_neg h32] at h)
          have hac2 : acc.length ≤ 31 := by omega
          clear h32
          go_wp2_with (first
            | ((with_reducible show wpList _ _ _ (⟨_, .alloc 55, _, _, _, _⟩ :: _) _ _); refine wpL_alloc rfl _ rfl _ zeroCh [.string ⟨#[]⟩, .string ⟨#[]⟩, .bool false] rfl ?_; intro w4 HB4 F4 HS4)
            | ((with_reducible show wpList _ _ _ (⟨_, .store 55 _ _, _, _, _, _⟩ :: _) _ _); refine TR.wpL_storeV rfl _ _ _ rfl w2.heap.size 0 x.agg [.string x.key, .string x.value, .bool x.gone] rfl rfl rfl _ _ HB4.out (by simp) infoCh HONE.out ?_; intro w5 HB5 F5 HS5;
                have HBx : Hid (Blk w5 w2.heap.size 55 [.string x.key, .string x.value, .bool x.gone]) := hid (by have h := HB5.out; simpa [spl] using h);
                have HN5 : Hid (Fr No w w5) := hid (((HF.out.trans' HF2.out).trans' F4.out).trans F5.out (fun k hk => .inr (by rw [hk]; exact (HF.out.trans' HF2.out).size))))
            | ((with_reducible show wpList _ _ _ (⟨_, .load 55 _, _, _, _, _⟩ :: _) _ _); refine wpL_load rfl _ _ rfl w2.heap.size 0 rfl [.string x.key, .string x.value, .bool x.gone] _ (HBx.out.range 0 _ rfl) rfl rfl infoCh ?_)
            | ((with_reducible show wpList _ _ _ (⟨_, .buildSlice 22 _ _, _, _, _, _⟩ :: _) _ _); refine wpL_buildOne rfl _ 55 _ rfl ic _ rfl IC.out ZC.out (by rw [SC.out]; decide) (by rw [SC.out]; decide) _ [.string x.key, .string x.value, .bool x.gone] rfl rfl (by rw [SC.out]; rfl) ?_; intro w6 HB6 F6 HS6;
                have HOx : Hid (w6.ownsRow w.heap.size 55 3 (.slice ra acc.length rc) acc.length (chs acc)) := hid (own_fr HO.out (HF2.out.trans' ((F4.out.trans F5.out (fun k hk => .inr (Nat.le_of_eq (Eq.symm hk)))).trans' F6.out)) (fun _ _ e => e)))
            | ((with_reducible show wpList _ _ _ (⟨_, .call { callee := .builtin .append, args := _, argTypes := _ }, _, _, _, _⟩ :: _) _ _); refine wpL_append rfl _ _ 22 rfl w.heap.size 55 ic _ 3 40 rfl IC.out ZC.out SC.out BC.out rfl (by decide) (.slice ra acc.length rc) acc.length (chs acc) rfl HOx.out (some ⟨w5.heap.size, 0, none⟩) 1 _ [.string x.key, .string x.value, .bool x.gone] rfl rfl (.inr ⟨_, rfl, HB6.out.news⟩) HONE.out (by unfold maxLen; omega) (by omega) (Nat.le_trans HN5.out.size F6.out.size) ?_; intro a7 c7 w7 HO7 HG7 HA7))
          have hl := HLE.out
          have hn := HN.out
          refine ⟨⟨t', acc ++ [x], a7, c7, m, rfl, by rw [List.length_append]; rfl, by omega, by rw [List.length_append]; simp only [List.length_cons, List.length_nil]; omega, hid (by omega), HD4, hid ?_, hid ?_⟩, by simp only [strLen]; omega⟩
          · have h := HO7.out
            rw [← chs_snoc] at h
            rw [List.length_append]
            exact h
          · exact (HN5.out.trans' F6.out).trans (frown HG7.out) (fun k hk => .inr (own_low HOx.out k hk))
end Go.Proofs.YtflfmkokfbgclaaGreat.ST

namespace Go.Proofs.YtflfmkokfbgclaaGreat.ST
set_option maxRecDepth 100000
open Go.RowKit K

abbrev pt (b : Nat) : Value := .pointer (some ⟨b, 0, none⟩)
/-- How much longer a change alone makes the image. -/
def growS (l : TR.L) (x : Ch) : Int :=
  (match TR.get x.key l with | some v => -((4 + x.key.size + v.size : Nat) : Int) | none => 0) + (if x.gone then 0 else ((4 + x.key.size + x.value.size : Nat) : Int))
theorem get_size : ∀ (l : TR.L) (k u : S), TR.get k l = some u → (∀ p ∈ l, p.2.size ≤ 400) → u.size ≤ 400
  | [], _, _, h, _ => by simp [TR.get] at h
  | x :: r, k, u, h, hv => by
    unfold TR.get at h
    split at h
    · exact get_size r k u h (fun p hp => hv p (by simp [hp]))
    · split at h
      · have e : x.2 = u := by simpa using h
        rw [← e]; exact hv x (by simp)
      · cases h
theorem hentGet (vs : Array Value) (w : World) : (callFunc 74 vs).run Tryz.prog w = .ok (.enter 74 vs) w := by kernel_rfl
set_option maxHeartbeats 8000000 in
theorem growth_any (W w : World) (b o bt : Nat) (T : TR.TD) (l : TR.L) (x : Ch) (ht : w.cell? ⟨b, o, none⟩ = some (pt bt)) (h : TR.Lv W w bt T l) (hn : l.length ≤ 4398046511104) (hv : ∀ p ∈ l, p.2.size ≤ 400) (hk : x.key.size ≤ 64) (hx : x.value.size ≤ 400) :
    Calls Tryz.prog 55 #[.pointer (some ⟨b, o, none⟩), x.agg] w fun e w' => e = .returned (.int .i64 (growS l x)) ∧ Fr No w w' := by
  have H := hid h; have HN := hid hn; have HV := hid hv
  obtain ⟨key, value, gone⟩ := x
  obtain ⟨r, hr⟩ : ∃ r, growS l ⟨key, value, gone⟩ = r := ⟨_, rfl⟩
  have HR : Hid ((match TR.get key l with | some v => -((4 + key.size + v.size : Nat) : Int) | none => 0) + (if gone then 0 else ((4 + key.size + value.size : Nat) : Int)) = r) := hid hr
  rw [hr]
  have HK : Hid (key.size ≤ 64) := hid hk
  have HX : Hid (value.size ≤ 400) := hid hx
  show Calls _ _ #[_, .agg #[.string key, .string value, .bool gone]] _ _
  clear h hn hv hr hk hx
  go_enter Tryz.func55, Tryz.ntmps55
  go_wp2_with ((with_reducible show wpList _ _ _ (⟨_, .box 55 _, _, _, _, _⟩ :: _) _ _); refine wpL_box rfl _ _ rfl _ rfl [.string key, .string value, .bool gone] rfl ?_; intro w1 HB1 F1 HS1)
  have a0 : w1.cell? ⟨w.heap.size, 0, none⟩ = some (.string key) := HB1.out.cell 0
  have t1 : w1.cell? ⟨b, o, none⟩ = some (pt bt) := F1.out.cell ht id
  have hold : Facts.hold [(3, fun w' => w'.cell? ⟨b, o, none⟩ = some (pt bt)), (5, fun w' => w'.cell? ⟨w.heap.size, 0, none⟩ = some (.string key))] w1.drew := Facts.cons_hold t1 (Facts.cons_hold a0 (Facts.nil_hold _))
  refine wpD_region hold (by kernel_rfl) 12 rfl ?_
  (refine wpD_plain 0 (v := ?_) rfl (by kernel_rfl) (by kernel_rfl) (by kernel_rfl) (fun _ _ _ h => h) (by rfl) ?_ (by assumption) ?_; rotate_left; (intro _w; go_simp; try with_reducible rfl); simp only [Act.put, List.setIfInBounds_toArray, List.set_cons_zero, List.set_cons_succ])
  (refine wpD_plain 1 (v := ?_) rfl (by kernel_rfl) (by kernel_rfl) (by kernel_rfl) (fun _ _ _ h => h) (by rfl) ?_ (by assumption) ?_; rotate_left; (intro _w; go_simp; try with_reducible rfl); simp only [Act.put, List.setIfInBounds_toArray, List.set_cons_zero, List.set_cons_succ])
  (refine wpD_plain 2 (v := ?_) rfl (by kernel_rfl) (by kernel_rfl) (by kernel_rfl) (fun _ _ _ h => h) (by rfl) ?_ (by assumption) ?_; rotate_left; (intro _w; go_simp; try with_reducible rfl); simp only [Act.put, List.setIfInBounds_toArray, List.set_cons_zero, List.set_cons_succ])
  (refine wpD_take 3 _ rfl (by kernel_rfl) (by kernel_rfl) (by kernel_rfl) (fun _ _ _ h => h) List.mem_cons_self (by rfl) (v := ?_) ?_ (by assumption) ?_; rotate_left; (intro _w _hw; go_simp; try with_reducible rfl); simp only [Act.put, List.setIfInBounds_toArray, List.set_cons_zero, List.set_cons_succ])
  (refine wpD_plain 4 (v := ?_) rfl (by kernel_rfl) (by kernel_rfl) (by kernel_rfl) (fun _ _ _ h => h) (by rfl) ?_ (by assumption) ?_; rotate_left; (intro _w; go_simp; try with_reducible rfl); simp only [Act.put, List.setIfInBounds_toArray, List.set_cons_zero, List.set_cons_succ])
  (refine wpD_take 5 _ rfl (by kernel_rfl) (by kernel_rfl) (by kernel_rfl) (fun _ _ _ h => h) (List.mem_cons_of_mem _ List.mem_cons_self) (by rfl) (v := ?_) ?_ (by assumption) ?_; rotate_left; (intro _w _hw; go_simp; try with_reducible rfl); simp only [Act.put, List.setIfInBounds_toArray, List.set_cons_zero, List.set_cons_succ])
  refine wpD_only 6 [] rfl (by kernel_rfl) (by kernel_rfl) (by rfl) (fun K6 hK6 => ?_)
  refine wp_call (.func 74) _ _ rfl 74 [] rfl hentGet [pt bt, .string key] (by rfl) ?_
  refine ((H.out.no (Fr.drew F1.out)).get HN.out key).mono ?_
  rintro e w2 ⟨rfl, -, f2⟩
  have HF2 : Hid (Fr No w w2) := hid (F1.out.drew.trans' f2)
  have HB2 := hid ((HB1.out.drew).fr f2 id)
  clear f2 ht a0 t1
  refine ⟨_, rfl, ?_⟩
  refine hK6 _ _ (Facts.nil_hold _) ?_
  clear hK6 K6 hold
  simp only [Act.put, List.setIfInBounds_toArray, List.set_cons_zero, List.set_cons_succ]
  have hold : Facts.hold [] w2 := Facts.nil_hold _
  (refine wpD_plain 7 (v := ?_) rfl (by kernel_rfl) (by kernel_rfl) (by kernel_rfl) (fun _ _ _ h => h) (by rfl) ?_ (by assumption) ?_; rotate_left; (intro _w; go_simp; try with_reducible rfl); simp only [Act.put, List.setIfInBounds_toArray, List.set_cons_zero, List.set_cons_succ])
  unfold TR.getV
  have a0 : w2.cell? ⟨w.heap.size, 0, none⟩ = some (.string key) := HB2.out.cell 0
  have a1 : w2.cell? ⟨w.heap.size, 1, none⟩ = some (.string value) := HB2.out.cell 1
  have a2 : w2.cell? ⟨w.heap.size, 2, none⟩ = some (.bool gone) := HB2.out.cell 2
  cases hg : TR.get key l with
  | none =>
    have HG := hid hg
    rw [hg] at HR
    clear hg
    simp only [Option.getD_none, Option.isSome_none]
    (refine wpD_plain 8 (v := ?_) rfl (by kernel_rfl) (by kernel_rfl) (by kernel_rfl) (fun _ _ _ h => h) (by rfl) ?_ (by assumption) ?_; rotate_left; (intro _w; go_simp; try with_reducible rfl); simp only [Act.put, List.setIfInBounds_toArray, List.set_cons_zero, List.set_cons_succ])
    (refine wpD_plain 9 (v := ?_) rfl (by kernel_rfl) (by kernel_rfl) (by kernel_rfl) (fun _ _ _ h => h) (by rfl) ?_ (by assumption) ?_; rotate_left; (intro _w; go_simp; try with_reducible rfl); simp only [Act.put, List.setIfInBounds_toArray, List.set_cons_zero, List.set_cons_succ])
    (refine wpD_plain 10 (v := ?_) rfl (by kernel_rfl) (by kernel_rfl) (by kernel_rfl) (fun _ _ _ h => h) (by rfl) ?_ (by assumption) ?_; rotate_left; (intro _w; go_simp; try with_reducible rfl); simp only [Act.put, List.setIfInBounds_toArray, List.set_cons_zero, List.set_cons_succ])
    (refine wpD_plain 11 (v := ?_) rfl (by kernel_rfl) (by kernel_rfl) (by kernel_rfl) (fun _ _ _ h => h) (by rfl) ?_ (by assumption) ?_; rotate_left; (intro _w; go_simp; try with_reducible rfl); simp only [Act.put, List.setIfInBounds_toArray, List.set_cons_zero, List.set_cons_succ])
    clear hold
    refine wpD_done (by kernel_rfl) ?_ _
    try simp only [Act.put, List.setIfInBounds_toArray, List.set_cons_zero, List.set_cons_succ]
    cases gone with
    | false =>
      go_wp2_with fail
      refine (size_any key value w2 (by have := HK.out; omega) (by have := HX.out; omega)).mono ?_
      rintro e w3 ⟨rfl, rfl⟩
      have hs2 : ((4 + key.size + value.size : Nat) : Int) ≤ 468 := by have := HK.out; have := HX.out; omega
      obtain ⟨m2, hm2⟩ : ∃ m : Nat, 4 + key.size + value.size = m := ⟨_, rfl⟩
      rw [hm2] at hs2 HR ⊢
      clear hm2
      go_wp2_with fail
      go_ret
      have hr := HR.out
      simp at hr
      refine ⟨?_, HF2.out⟩
      rw [← hr]
      first | rfl | (simp; done) | (simp; omega)
    | true =>
      go_wp2_with fail
      go_ret
      have hr := HR.out
      simp at hr
      refine ⟨?_, HF2.out⟩
      rw [← hr]
      first | rfl | (simp; done) | (simp; omega)
  | some u =>
    have HG := hid hg
    rw [hg] at HR
    clear hg
    have hus : u.size ≤ 400 := get_size l key u HG.out HV.out
    have HU := hid hus
    clear hus
    simp only [Option.getD_some, Option.isSome_some]
    (refine wpD_plain 8 (v := ?_) rfl (by kernel_rfl) (by kernel_rfl) (by kernel_rfl) (fun _ _ _ h => h) (by rfl) ?_ (by assumption) ?_; rotate_left; (intro _w; go_simp; try with_reducible rfl); simp only [Act.put, List.setIfInBounds_toArray, List.set_cons_zero, List.set_cons_succ])
    (refine wpD_plain 9 (v := ?_) rfl (by kernel_rfl) (by kernel_rfl) (by kernel_rfl) (fun _ _ _ h => h) (by rfl) ?_ (by assumption) ?_; rotate_left; (intro _w; go_simp; try with_reducible rfl); simp only [Act.put, List.setIfInBounds_toArray, List.set_cons_zero, List.set_cons_succ])
    (refine wpD_plain 10 (v := ?_) rfl (by kernel_rfl) (by kernel_rfl) (by kernel_rfl) (fun _ _ _ h => h) (by rfl) ?_ (by assumption) ?_; rotate_left; (intro _w; go_simp; try with_reducible rfl); simp only [Act.put, List.setIfInBounds_toArray, List.set_cons_zero, List.set_cons_succ])
    (refine wpD_plain 11 (v := ?_) rfl (by kernel_rfl) (by kernel_rfl) (by kernel_rfl) (fun _ _ _ h => h) (by rfl) ?_ (by assumption) ?_; rotate_left; (intro _w; go_simp; try with_reducible rfl); simp only [Act.put, List.setIfInBounds_toArray, List.set_cons_zero, List.set_cons_succ])
    clear hold
    refine wpD_done (by kernel_rfl) ?_ _
    try simp only [Act.put, List.setIfInBounds_toArray, List.set_cons_zero, List.set_cons_succ]
    cases gone with
    | false =>
      go_wp2_with fail
      refine (size_any key u w2 (by have := HK.out; omega) (by have := HU.out; omega)).mono ?_
      rintro e w3 ⟨rfl, rfl⟩
      have hs1 : ((4 + key.size + u.size : Nat) : Int) ≤ 468 := by have := HK.out; have := HU.out; omega
      obtain ⟨m1, hm1⟩ : ∃ m : Nat, 4 + key.size + u.size = m := ⟨_, rfl⟩
      rw [hm1] at hs1 HR ⊢
      clear hm1
      go_wp2_with fail
      refine (size_any key value w2 (by have := HK.out; omega) (by have := HX.out; omega)).mono ?_
      rintro e w3 ⟨rfl, rfl⟩
      have hs2 : ((4 + key.size + value.size : Nat) : Int) ≤ 468 := by have := HK.out; have := HX.out; omega
      obtain ⟨m2, hm2⟩ : ∃ m : Nat, 4 + key.size + value.size = m := ⟨_, rfl⟩
      rw [hm2] at hs2 HR ⊢
      clear hm2
      go_wp2_with fail
      go_ret
      have hr := HR.out
      simp at hr
      refine ⟨?_, HF2.out⟩
      rw [← hr]
      first | rfl | (simp; done) | (simp; omega)
    | true =>
      go_wp2_with fail
      refine (size_any key u w2 (by have := HK.out; omega) (by have := HU.out; omega)).mono ?_
      rintro e w3 ⟨rfl, rfl⟩
      have hs1 : ((4 + key.size + u.size : Nat) : Int) ≤ 468 := by have := HK.out; have := HU.out; omega
      obtain ⟨m1, hm1⟩ : ∃ m : Nat, 4 + key.size + u.size = m := ⟨_, rfl⟩
      rw [hm1] at hs1 HR ⊢
      clear hm1
      go_wp2_with fail
      go_ret
      have hr := HR.out
      simp at hr
      refine ⟨?_, HF2.out⟩
      rw [← hr]
      first | rfl | (simp; done) | (simp; omega)
end Go.Proofs.YtflfmkokfbgclaaGreat.ST

namespace Go.Proofs.YtflfmkokfbgclaaGreat.ST
set_option maxRecDepth 100000
open Go.RowKit K

def imgN : TR.L → Nat
  | [] => 0
  | x :: r => 4 + x.1.size + x.2.size + imgN r
def appC (l : TR.L) (c : Ch) : TR.L := if c.gone then TR.del c.key l else TR.put c.key c.value l
def appS (l : TR.L) (cs : List Ch) : TR.L := cs.foldl appC l
theorem appS_snoc (l : TR.L) (cs : List Ch) (c : Ch) : appS l (cs ++ [c]) = appC (appS l cs) c := by simp [appS]
theorem put_img (k v : S) : ∀ (l : TR.L), ((imgN (TR.put k v l) : Nat) : Int) = imgN l + ((match TR.get k l with | some u => -((4 + k.size + u.size : Nat) : Int) | none => 0) + ((4 + k.size + v.size : Nat) : Int))
  | [] => by simp [TR.put, TR.get, imgN]
  | x :: r => by
    have ih := put_img k v r
    unfold TR.put TR.get
    by_cases h1 : TR.lt x.1 k = true
    · rw [if_pos h1, if_pos h1]
      simp only [imgN]
      push_cast at ih ⊢
      omega
    · rw [if_neg h1, if_neg h1]
      by_cases h2 : x.1 = k
      · rw [if_pos h2, if_pos h2]
        simp only [imgN, h2]
        push_cast
        omega
      · rw [if_neg h2, if_neg h2]
        simp only [imgN]
        push_cast
        omega
theorem del_img (k : S) : ∀ (l : TR.L), ((imgN (TR.del k l) : Nat) : Int) = imgN l + (match TR.get k l with | some u => -((4 + k.size + u.size : Nat) : Int) | none => 0)
  | [] => by simp [TR.del, TR.get, imgN]
  | x :: r => by
    have ih := del_img k r
    unfold TR.del TR.get
    by_cases h1 : TR.lt x.1 k = true
    · rw [if_pos h1, if_pos h1]
      simp only [imgN]
      push_cast at ih ⊢
      omega
    · rw [if_neg h1, if_neg h1]
      by_cases h2 : x.1 = k
      · rw [if_pos h2, if_pos h2]
        simp only [imgN, h2]
        push_cast
        omega
      · rw [if_neg h2, if_neg h2]
        simp
/-- What a change adds. -/
theorem grow_img (l : TR.L) (c : Ch) : ((imgN (appC l c) : Nat) : Int) = imgN l + growS l c := by
  unfold appC growS
  cases c.gone
  · simp only [Bool.false_eq_true, if_false]
    exact put_img _ _ _
  · simp only [if_true]
    rw [Int.add_zero]
    exact del_img _ _
theorem imgN_le : ∀ (l : TR.L), (∀ p ∈ l, p.1.size ≤ 64 ∧ p.2.size ≤ 400) → imgN l ≤ 468 * l.length
  | [], _ => by simp [imgN]
  | x :: r, h => by
    have h1 := h x (by simp)
    have h2 := imgN_le r (fun p hp => h p (by simp [hp]))
    simp only [imgN, List.length_cons]
    omega
/-- Keys and values are such as may be. -/
def Mays (l : TR.L) : Prop := ∀ p ∈ l, p.1.size ≤ 64 ∧ p.2.size ≤ 400
theorem mays_app {l : TR.L} {c : Ch} (h : Mays l) (hk : c.key.size ≤ 64) (hv : c.value.size ≤ 400) : Mays (appC l c) := by
  unfold appC
  split
  · exact fun p hp => h p (TR.del_sub _ _ p hp)
  · intro p hp
    have : ∀ (l : TR.L), Mays l → ∀ p ∈ TR.put c.key c.value l, p.1.size ≤ 64 ∧ p.2.size ≤ 400 := by
      intro l
      induction l with
      | nil => intro _ p hp; simp [TR.put] at hp; subst hp; exact ⟨hk, hv⟩
      | cons x r ih =>
        intro hm p hp
        unfold TR.put at hp
        split at hp
        · rcases List.mem_cons.1 hp with rfl | hp
          · exact hm _ (by simp)
          · exact ih (fun q hq => hm q (by simp [hq])) p hp
        · split at hp
          · rcases List.mem_cons.1 hp with rfl | hp
            · exact ⟨(hm x (by simp)).1, hv⟩
            · exact hm p (by simp [hp])
          · rcases List.mem_cons.1 hp with rfl | hp
            · exact ⟨hk, hv⟩
            · exact hm p hp
    exact this l h p hp
theorem app_length (l : TR.L) (c : Ch) : (appC l c).length ≤ l.length + 1 := by
  unfold appC
  split
  · have := TR.del_length c.key l; split at this <;> omega
  · have := TR.put_length c.key c.value l; split at this <;> omega
end Go.Proofs.YtflfmkokfbgclaaGreat.ST

namespace Go.Proofs.YtflfmkokfbgclaaGreat.ST
set_option maxRecDepth 100000
open Go.RowKit K

theorem hentGrow (vs : Array Value) (w : World) : (callFunc 55 vs).run Tryz.prog w = .ok (.enter 55 vs) w := by kernel_rfl
theorem hentTDel (vs : Array Value) (w : World) : (callFunc 59 vs).run Tryz.prog w = .ok (.enter 59 vs) w := by kernel_rfl
theorem hentTPut (vs : Array Value) (w : World) : (callFunc 60 vs).run Tryz.prog w = .ok (.enter 60 vs) w := by kernel_rfl
/-- A tree and its image's length, in a block. -/
structure Ct (W w : World) (b o : Nat) (tb : TypeId) (cs : List Value) (bt : Nat) (T : TR.TD) (l : TR.L) : Prop where
  t : TR.Lv W w bt T l
  blk : Blk w b tb (cs.set (o + 1) (.int .i64 (imgN l : Int)))
  c0 : cs[o]? = some (pt bt)
  c1 : o + 1 < cs.length
  nb : ¬ T.fp b
  bw : W.heap.size ≤ b
  m : Mays l
theorem Ct.ptr {W w : World} {b o : Nat} {tb : TypeId} {cs : List Value} {bt : Nat} {T : TR.TD} {l : TR.L} (h : Ct W w b o tb cs bt T l) : w.cell? ⟨b, o, none⟩ = some (pt bt) := by
  rw [h.blk.cell, List.getElem?_set_ne (by omega)]; exact h.c0
theorem Ct.len {W w : World} {b o : Nat} {tb : TypeId} {cs : List Value} {bt : Nat} {T : TR.TD} {l : TR.L} (h : Ct W w b o tb cs bt T l) : w.cell? ⟨b, o + 1, none⟩ = some (.int .i64 (imgN l : Int)) := by
  rw [h.blk.cell, List.getElem?_set_self h.c1]
theorem Ct.no {W w w' : World} {b o : Nat} {tb : TypeId} {cs : List Value} {bt : Nat} {T : TR.TD} {l : TR.L} (h : Ct W w b o tb cs bt T l) (f : Fr No w w') : Ct W w' b o tb cs bt T l :=
  ⟨h.t.no f, h.blk.fr f id, h.c0, h.c1, h.nb, h.bw, h.m⟩
set_option maxHeartbeats 16000000 in
theorem apply_any (W w : World) (b o : Nat) (tb : TypeId) (cs : List Value) (bt : Nat) (T : TR.TD) (l : TR.L) (v : Value) (xs : List Ch) (E : Nat → Prop) (h : Ct W w b o tb cs bt T l) (hx : ChIn w E v xs) (hE : ∀ k, E k → ¬ T.fp k ∧ k ≠ b) (hm : ∀ x ∈ xs, x.key.size ≤ 64 ∧ x.value.size ≤ 400) (hn : l.length + xs.length ≤ 1000000000) :
    Calls Tryz.prog 40 #[.pointer (some ⟨b, o, none⟩), v] w fun e w' => e = .returned (.tuple #[]) ∧ ∃ T', Ct W w' b o tb cs bt T' (appS l xs) ∧ Fr (fun k => T.fp k ∨ k = b) w w' ∧ ∀ k, T'.fp k → T.fp k ∨ w.heap.size ≤ k := by
  obtain ⟨a, c, rfl, hx⟩ := hx
  have H := hid h; have HX := hid hx; have HE := hid hE; have HM := hid hm; have HN := hid hn
  have hli : (xs.length : Int) ≤ 1000000000 := by omega
  clear h hx hE hm hn
  go_enter Tryz.func40, Tryz.ntmps40
  go_wp2_with fail
  go_loopw [8] (fun iv wr => ∃ (j : Nat) (Tj : TR.TD), j ≤ xs.length ∧ iv = .int .i64 (j : Int) ∧ Hid (Ct W wr b o tb cs bt Tj (appS l (xs.take j))) ∧ Hid ((appS l (xs.take j)).length ≤ l.length + j) ∧ Hid (Fr (fun k => T.fp k ∨ k = b) w wr) ∧ Hid (∀ k, Tj.fp k → T.fp k ∨ w.heap.size ≤ k)) (fun iv _ => xs.length - (intOf iv).toNat)
  case atStart => exact ⟨0, T, by omega, rfl, H, hid (Nat.le_refl _), hid (Fr.refl _ _), hid (fun k e => .inl e)⟩
  case round =>
    obtain ⟨j, Tj, hj, rfl, HC, HL, HF, HG⟩ := hrel
    by_cases hlt : j < xs.length
    · have hlt' : (j : Int) < (xs.length : Int) := by omega
      obtain ⟨x, hx⟩ : ∃ x, xs[j]? = some x := ⟨_, List.getElem?_eq_getElem hlt⟩
      have htk : xs.take (j + 1) = xs.take j ++ [x] := by rw [List.take_add_one, hx]; rfl
      have HTK : Hid (appS l (xs.take (j + 1)) = appC (appS l (xs.take j)) x) := hid (by rw [htk, appS_snoc])
      have HXM : Hid (x.key.size ≤ 64 ∧ x.value.size ≤ 400) := hid (HM.out x (List.mem_of_getElem? hx))
      obtain ⟨g, q, rfl, HGR⟩ : ∃ g q, a = some ⟨g, q, none⟩ ∧ Hid (wr.rangeAt g (q + j * 3) [.string x.key, .string x.value, .bool x.gone]) := by
        rcases HX.out with e | ⟨g, q, e, he, _, hr⟩
        · rw [e] at hlt; simp at hlt
        · exact ⟨g, q, e, hid (range_ch (HF.out.range hr (fun e2 => e2.elim (HE.out g he).1 (HE.out g he).2)) hx)⟩
      have HONE : Hid (∀ u ∈ [Value.string x.key, .string x.value, .bool x.gone], u.oneCell' = true) := hid (by intro u hu; simp at hu; rcases hu with rfl | rfl | rfl <;> rfl)
      have HLN : Hid ((appS l (xs.take j)).length ≤ 1000000000) := hid (by have := HL.out; have := HN.out; omega)
      generalize appS l (xs.take j) = lj at HC HL HTK HLN
      have him := imgN_le lj HC.out.m
      have himi : (imgN lj : Int) ≤ 500000000000 := by have := HLN.out; omega
      obtain ⟨gr, hgr⟩ : ∃ r, growS lj x = r := ⟨_, rfl⟩
      have HGI := hid (grow_img lj x)
      rw [hgr] at HGI
      have hmi2 := imgN_le _ (mays_app (c := x) HC.out.m HXM.out.1 HXM.out.2)
      have hal := app_length lj x
      obtain ⟨n0, hn0⟩ : ∃ n : Nat, imgN lj = n := ⟨_, rfl⟩
      obtain ⟨n1, hn1⟩ : ∃ n : Nat, imgN (appC lj x) = n := ⟨_, rfl⟩
      have W7 : Hid (IntKind.i64.wrap ((n0 : Int) + gr) = (n1 : Int)) := hid (by
        have h1 := HGI.out
        rw [hn0, hn1] at h1
        rw [← h1]
        exact L.wrap_small (by omega) (by have := HLN.out; omega))
      have c3 : wr.cell? ⟨b, o + 1, none⟩ = some (.int .i64 (n0 : Int)) := by rw [← hn0]; exact HC.out.len
      have HGR2 := hid hgr
      have HN1 := hid hn1; have HN0 := hid hn0
      clear htk hx him hmi2 hal hgr hn0 hn1 himi
      go_wp2_with (first
        | ((with_reducible show wpList _ _ _ (⟨_, .load 55 _, _, _, _, _⟩ :: _) _ _); refine wpL_load rfl _ _ rfl g (q + j * 3) rfl [.string x.key, .string x.value, .bool x.gone] _ HGR.out rfl rfl infoCh ?_)
        | ((with_reducible show wpList _ _ _ (⟨_, .alloc 55, _, _, _, _⟩ :: _) _ _); refine wpL_alloc rfl _ rfl _ zeroCh [.string ⟨#[]⟩, .string ⟨#[]⟩, .bool false] rfl ?_; intro w4 HB4 F4 HS4)
        | ((with_reducible show wpList _ _ _ (⟨_, .store 55 _ _, _, _, _, _⟩ :: _) _ _); refine TR.wpL_storeV rfl _ _ _ rfl wr.heap.size 0 (.agg #[.string x.key, .string x.value, .bool x.gone]) [.string x.key, .string x.value, .bool x.gone] rfl rfl rfl _ _ HB4.out (by simp) infoCh HONE.out ?_; intro w5 HB5 F5 HS5))
      have HBx : Hid (Blk w5 wr.heap.size 55 [.string x.key, .string x.value, .bool x.gone]) := hid (by have h := HB5.out; simpa [spl] using h)
      have HF5 : Hid (Fr No wr w5) := hid (F4.out.trans F5.out (fun k hk => .inr (Nat.le_of_eq (Eq.symm hk))))
      have HC5 := hid (HC.out.no HF5.out)
      have k3 : w5.cell? ⟨b, o + 1, none⟩ = some (.int .i64 (n0 : Int)) := HF5.out.cell c3 id
      have hrx : w5.rangeAt wr.heap.size 0 [.string x.key, .string x.value, .bool x.gone] := HBx.out.range 0 _ rfl
      clear HB4 F4 HS4 HB5 F5 HS5 c3
      have hold : Facts.hold [(3, fun w' => w'.cell? ⟨b, o + 1, none⟩ = some (.int .i64 (n0 : Int))), (5, fun w' => w'.rangeAt wr.heap.size 0 [.string x.key, .string x.value, .bool x.gone])] w5.drew := Facts.cons_hold k3 (Facts.cons_hold hrx (Facts.nil_hold _))
      refine wpD_region hold (by kernel_rfl) 11 rfl ?_
      (refine wpD_plain 0 (v := ?_) rfl (by kernel_rfl) (by kernel_rfl) (by kernel_rfl) (fun _ _ _ h => h) (by rfl) ?_ (by assumption) ?_; rotate_left; (intro _w; go_simp; try with_reducible rfl); simp only [Act.put, List.setIfInBounds_toArray, List.set_cons_zero, List.set_cons_succ])
      (refine wpD_plain 1 (v := ?_) rfl (by kernel_rfl) (by kernel_rfl) (by kernel_rfl) (fun _ _ _ h => h) (by rfl) ?_ (by assumption) ?_; rotate_left; (intro _w; go_simp; try with_reducible rfl); simp only [Act.put, List.setIfInBounds_toArray, List.set_cons_zero, List.set_cons_succ])
      (refine wpD_plain 2 (v := ?_) rfl (by kernel_rfl) (by kernel_rfl) (by kernel_rfl) (fun _ _ _ h => h) (by rfl) ?_ (by assumption) ?_; rotate_left; (intro _w; go_simp; try with_reducible rfl); simp only [Act.put, List.setIfInBounds_toArray, List.set_cons_zero, List.set_cons_succ])
      (refine wpD_take 3 _ rfl (by kernel_rfl) (by kernel_rfl) (by kernel_rfl) (fun _ _ _ h => h) List.mem_cons_self (by rfl) (v := ?_) ?_ (by assumption) ?_; rotate_left; (intro _w _hw; go_simp; try with_reducible rfl); simp only [Act.put, List.setIfInBounds_toArray, List.set_cons_zero, List.set_cons_succ])
      (refine wpD_plain 4 (v := ?_) rfl (by kernel_rfl) (by kernel_rfl) (by kernel_rfl) (fun _ _ _ h => h) (by rfl) ?_ (by assumption) ?_; rotate_left; (intro _w; go_simp; try with_reducible rfl); simp only [Act.put, List.setIfInBounds_toArray, List.set_cons_zero, List.set_cons_succ])
      (refine wpD_take 5 _ rfl (by kernel_rfl) (by kernel_rfl) (by kernel_rfl) (fun _ _ _ h => h) (List.mem_cons_of_mem _ List.mem_cons_self) (by rfl) (exec_load _ _ rfl wr.heap.size 0 rfl _ _ rfl rfl infoCh) (by assumption) ?_; simp only [Act.put, List.setIfInBounds_toArray, List.set_cons_zero, List.set_cons_succ])
      refine wpD_only 6 [(3, fun w' => w'.cell? ⟨b, o + 1, none⟩ = some (.int .i64 (n0 : Int)))] rfl (by kernel_rfl) (by kernel_rfl) (by rfl) (fun K6 hK6 => ?_)
      refine wp_call (.func 55) _ _ rfl 55 [] rfl hentGrow [.pointer (some ⟨b, o, none⟩), x.agg] (by rfl) ?_
      refine (growth_any W w5.drew b o bt Tj lj x (HC5.out.no (Fr.refl No w5).drew).ptr (HC5.out.no (Fr.refl No w5).drew).t (by have := HLN.out; omega) (fun p hp => (HC5.out.m p hp).2) HXM.out.1 HXM.out.2).mono ?_
      rintro e w6 ⟨rfl, f6⟩
      have HF6 : Hid (Fr No w5 w6) := hid (Fr.trans' (b := w5.drew) (Fr.refl No w5).drew f6)
      have HC6 := hid (HC5.out.no HF6.out)
      have HB6 := hid (HBx.out.fr HF6.out id)
      clear f6 hold
      have hold : Facts.hold [(3, fun w' => w'.cell? ⟨b, o + 1, none⟩ = some (.int .i64 (n0 : Int)))] w6 := Facts.cons_hold (HF6.out.cell k3 id) (Facts.nil_hold _)
      rw [HGR2.out]
      refine ⟨_, rfl, ?_⟩
      refine hK6 _ _ hold ?_
      clear hK6 K6
      simp only [Act.put, List.setIfInBounds_toArray, List.set_cons_zero, List.set_cons_succ]
      (refine wpD_plain 7 (v := (.int .i64 (n1 : Int))) rfl (by kernel_rfl) (by kernel_rfl) (by kernel_rfl) (fun _ _ _ h => h) (by rfl) ?_ (by assumption) ?_; (intro _w; go_simp; exact W7.out); simp only [Act.put, List.setIfInBounds_toArray, List.set_cons_zero, List.set_cons_succ])
      have q3 : w6.frozen? ⟨b, o + 1, none⟩ = false := HC6.out.blk.frozen (o + 1)
      have k6 : w6.cell? ⟨b, o + 1, none⟩ = some (.int .i64 (n0 : Int)) := HF6.out.cell k3 id
      (refine wpD_plain 8 (v := ?_) rfl (by kernel_rfl) (by kernel_rfl) (by kernel_rfl) (fun _ _ _ h => h) (by rfl) ?_ (by assumption) ?_; rotate_left; (intro _w; go_simp; try with_reducible rfl); simp only [Act.put, List.setIfInBounds_toArray, List.set_cons_zero, List.set_cons_succ])
      (refine wpD_plain 9 (v := ?_) rfl (by kernel_rfl) (by kernel_rfl) (by kernel_rfl) (fun _ _ _ h => h) (by rfl) ?_ (by assumption) ?_; rotate_left; (intro _w; go_simp; try with_reducible rfl); simp only [Act.put, List.setIfInBounds_toArray, List.set_cons_zero, List.set_cons_succ])
      refine wpD_only 10 [] rfl (by kernel_rfl) (by kernel_rfl) (by rfl) (fun K10 hK10 => ?_)
      go_simp
      refine hK10 _ _ (Facts.nil_hold _) ?_
      clear hK10 K10 hold
      refine wpD_done (by kernel_rfl) ?_ _
      have HB7 : Hid (Blk (w6.setCell ⟨b, o + 1, none⟩ (.int .i64 (n1 : Int))) b tb (cs.set (o + 1) (.int .i64 (n1 : Int)))) := hid (by
        have h := HC6.out.blk.set (o + 1) (.int .i64 (n1 : Int))
        rwa [List.set_set] at h)
      have F67 : Hid (Fr (fun k => k = b) w6 (w6.setCell ⟨b, o + 1, none⟩ (.int .i64 (n1 : Int)))) := hid ((Fr.refl (fun k => k = b) w6).setCell _ _ (.inl rfl))
      have HX7 := hid (HB6.out.fr F67.out (fun e => by have := HC.out.blk.lt; omega))
      have HT7 : Hid (TR.Lv W (w6.setCell ⟨b, o + 1, none⟩ (.int .i64 (n1 : Int))) bt Tj lj) := hid ⟨HC6.out.t.b, HC6.out.t.at_.fr F67.out (fun k hk e => HC6.out.nb (by have e' : k = b := e; rw [← e']; exact hk)), HC6.out.t.fr.trans F67.out (fun k e => .inr (by have e' : k = b := e; rw [e']; exact HC6.out.bw)), HC6.out.t.ge⟩
      have HF7 : Hid (Fr (fun k => T.fp k ∨ k = b) w (w6.setCell ⟨b, o + 1, none⟩ (.int .i64 (n1 : Int)))) := hid (((HF.out.trans' HF5.out.no).trans' HF6.out.no).trans F67.out (fun k e => .inl (.inr e)))
      clear k3 hrx q3 k6
      generalize w6.setCell ⟨b, o + 1, none⟩ (.int .i64 (n1 : Int)) = w7 at HB7 HX7 HT7 HF7 ⊢
      have e2 : w7.cell? ⟨wr.heap.size, 2, none⟩ = some (.bool x.gone) := HX7.out.cell 2
      cases hgn : x.gone with
      | true =>
        rw [hgn] at e2
        have b0 : w7.cell? ⟨b, o, none⟩ = some (pt bt) := by rw [HB7.out.cell, List.getElem?_set_ne (by omega)]; exact HC6.out.c0
        have e0 : w7.cell? ⟨wr.heap.size, 0, none⟩ = some (.string x.key) := HX7.out.cell 0
        have e1 : w7.cell? ⟨wr.heap.size, 1, none⟩ = some (.string x.value) := HX7.out.cell 1
        go_wp2_with fail
        have hold : Facts.hold [(3, fun w' => w'.cell? ⟨b, o, none⟩ = some (pt bt)), (5, fun w' => w'.cell? ⟨wr.heap.size, 0, none⟩ = some (.string x.key))] w7.drew := Facts.cons_hold b0 (Facts.cons_hold e0 (Facts.nil_hold _))
        refine wpD_region hold (by kernel_rfl) 7 rfl ?_
        (refine wpD_plain 0 (v := ?_) rfl (by kernel_rfl) (by kernel_rfl) (by kernel_rfl) (fun _ _ _ h => h) (by rfl) ?_ (by assumption) ?_; rotate_left; (intro _w; go_simp; try with_reducible rfl); simp only [Act.put, List.setIfInBounds_toArray, List.set_cons_zero, List.set_cons_succ])
        (refine wpD_plain 1 (v := ?_) rfl (by kernel_rfl) (by kernel_rfl) (by kernel_rfl) (fun _ _ _ h => h) (by rfl) ?_ (by assumption) ?_; rotate_left; (intro _w; go_simp; try with_reducible rfl); simp only [Act.put, List.setIfInBounds_toArray, List.set_cons_zero, List.set_cons_succ])
        (refine wpD_plain 2 (v := ?_) rfl (by kernel_rfl) (by kernel_rfl) (by kernel_rfl) (fun _ _ _ h => h) (by rfl) ?_ (by assumption) ?_; rotate_left; (intro _w; go_simp; try with_reducible rfl); simp only [Act.put, List.setIfInBounds_toArray, List.set_cons_zero, List.set_cons_succ])
        (refine wpD_take 3 _ rfl (by kernel_rfl) (by kernel_rfl) (by kernel_rfl) (fun _ _ _ h => h) List.mem_cons_self (by rfl) (v := ?_) ?_ (by assumption) ?_; rotate_left; (intro _w _hw; go_simp; try with_reducible rfl); simp only [Act.put, List.setIfInBounds_toArray, List.set_cons_zero, List.set_cons_succ])
        (refine wpD_plain 4 (v := ?_) rfl (by kernel_rfl) (by kernel_rfl) (by kernel_rfl) (fun _ _ _ h => h) (by rfl) ?_ (by assumption) ?_; rotate_left; (intro _w; go_simp; try with_reducible rfl); simp only [Act.put, List.setIfInBounds_toArray, List.set_cons_zero, List.set_cons_succ])
        (refine wpD_take 5 _ rfl (by kernel_rfl) (by kernel_rfl) (by kernel_rfl) (fun _ _ _ h => h) (List.mem_cons_of_mem _ List.mem_cons_self) (by rfl) (v := ?_) ?_ (by assumption) ?_; rotate_left; (intro _w _hw; go_simp; try with_reducible rfl); simp only [Act.put, List.setIfInBounds_toArray, List.set_cons_zero, List.set_cons_succ])
        refine wpD_only 6 [] rfl (by kernel_rfl) (by kernel_rfl) (by rfl) (fun K9 hK9 => ?_)
        refine wp_call (.func 59) _ _ rfl 59 [] rfl hentTDel [pt bt, .string x.key] (by rfl) ?_
        refine ((HT7.out.no (Fr.refl No w7).drew).del (by have := HLN.out; omega) x.key).mono ?_
        rintro e w8 ⟨rfl, T8, t8, f8, g8⟩
        have HLF : Hid (appC lj x = TR.del x.key lj) := hid (by unfold appC; rw [hgn]; rfl)
        have HC8 : Hid (Ct W w8 b o tb cs bt T8 (appC lj x)) := hid (by
          refine ⟨by rw [HLF.out]; exact t8, ?_, HC6.out.c0, HC6.out.c1, fun e => (g8 b e).elim HC6.out.nb (fun e => by have := HB7.out.lt; have h0 : w7.heap.size ≤ b := e; omega), HC6.out.bw, mays_app HC6.out.m HXM.out.1 HXM.out.2⟩
          rw [HN1.out]
          exact (HB7.out.drew).fr f8 HC6.out.nb)
        have HF8 : Hid (Fr (fun k => T.fp k ∨ k = b) w w8) := hid ((HF7.out.drew).trans f8 (fun k hk => (HG.out k hk).imp .inl id))
        have HG8 : Hid (∀ k, T8.fp k → T.fp k ∨ w.heap.size ≤ k) := hid (fun k hk => (g8 k hk).elim (HG.out k) (fun e => .inr (Nat.le_trans HF7.out.size e)))
        refine ⟨_, rfl, ?_⟩
        refine hK9 _ _ (Facts.nil_hold _) ?_
        clear hK9 K9 hold t8 f8 g8 b0 e0 e1
        simp only [Act.put, List.setIfInBounds_toArray, List.set_cons_zero, List.set_cons_succ]
        refine wpD_done (by kernel_rfl) ?_ _
        go_wp2_with fail
        have hln := app_length lj x
        refine ⟨⟨j + 1, T8, by omega, by go_num, hid ?_, hid ?_, HF8, HG8⟩, by simp [intOf]; omega⟩
        · rw [HTK.out]; exact HC8.out
        · rw [HTK.out]; have := HL.out; omega
      | false =>
        rw [hgn] at e2
        have b0 : w7.cell? ⟨b, o, none⟩ = some (pt bt) := by rw [HB7.out.cell, List.getElem?_set_ne (by omega)]; exact HC6.out.c0
        have e0 : w7.cell? ⟨wr.heap.size, 0, none⟩ = some (.string x.key) := HX7.out.cell 0
        have e1 : w7.cell? ⟨wr.heap.size, 1, none⟩ = some (.string x.value) := HX7.out.cell 1
        go_wp2_with fail
        have hold : Facts.hold [(3, fun w' => w'.cell? ⟨b, o, none⟩ = some (pt bt)), (5, fun w' => w'.cell? ⟨wr.heap.size, 0, none⟩ = some (.string x.key)), (7, fun w' => w'.cell? ⟨wr.heap.size, 1, none⟩ = some (.string x.value))] w7.drew := Facts.cons_hold b0 (Facts.cons_hold e0 (Facts.cons_hold e1 (Facts.nil_hold _)))
        refine wpD_region hold (by kernel_rfl) 9 rfl ?_
        (refine wpD_plain 0 (v := ?_) rfl (by kernel_rfl) (by kernel_rfl) (by kernel_rfl) (fun _ _ _ h => h) (by rfl) ?_ (by assumption) ?_; rotate_left; (intro _w; go_simp; try with_reducible rfl); simp only [Act.put, List.setIfInBounds_toArray, List.set_cons_zero, List.set_cons_succ])
        (refine wpD_plain 1 (v := ?_) rfl (by kernel_rfl) (by kernel_rfl) (by kernel_rfl) (fun _ _ _ h => h) (by rfl) ?_ (by assumption) ?_; rotate_left; (intro _w; go_simp; try with_reducible rfl); simp only [Act.put, List.setIfInBounds_toArray, List.set_cons_zero, List.set_cons_succ])
        (refine wpD_plain 2 (v := ?_) rfl (by kernel_rfl) (by kernel_rfl) (by kernel_rfl) (fun _ _ _ h => h) (by rfl) ?_ (by assumption) ?_; rotate_left; (intro _w; go_simp; try with_reducible rfl); simp only [Act.put, List.setIfInBounds_toArray, List.set_cons_zero, List.set_cons_succ])
        (refine wpD_take 3 _ rfl (by kernel_rfl) (by kernel_rfl) (by kernel_rfl) (fun _ _ _ h => h) List.mem_cons_self (by rfl) (v := ?_) ?_ (by assumption) ?_; rotate_left; (intro _w _hw; go_simp; try with_reducible rfl); simp only [Act.put, List.setIfInBounds_toArray, List.set_cons_zero, List.set_cons_succ])
        (refine wpD_plain 4 (v := ?_) rfl (by kernel_rfl) (by kernel_rfl) (by kernel_rfl) (fun _ _ _ h => h) (by rfl) ?_ (by assumption) ?_; rotate_left; (intro _w; go_simp; try with_reducible rfl); simp only [Act.put, List.setIfInBounds_toArray, List.set_cons_zero, List.set_cons_succ])
        (refine wpD_take 5 _ rfl (by kernel_rfl) (by kernel_rfl) (by kernel_rfl) (fun _ _ _ h => h) (List.mem_cons_of_mem _ List.mem_cons_self) (by rfl) (v := ?_) ?_ (by assumption) ?_; rotate_left; (intro _w _hw; go_simp; try with_reducible rfl); simp only [Act.put, List.setIfInBounds_toArray, List.set_cons_zero, List.set_cons_succ])
        (refine wpD_plain 6 (v := ?_) rfl (by kernel_rfl) (by kernel_rfl) (by kernel_rfl) (fun _ _ _ h => h) (by rfl) ?_ (by assumption) ?_; rotate_left; (intro _w; go_simp; try with_reducible rfl); simp only [Act.put, List.setIfInBounds_toArray, List.set_cons_zero, List.set_cons_succ])
        (refine wpD_take 7 _ rfl (by kernel_rfl) (by kernel_rfl) (by kernel_rfl) (fun _ _ _ h => h) (List.mem_cons_of_mem _ (List.mem_cons_of_mem _ List.mem_cons_self)) (by rfl) (v := ?_) ?_ (by assumption) ?_; rotate_left; (intro _w _hw; go_simp; try with_reducible rfl); simp only [Act.put, List.setIfInBounds_toArray, List.set_cons_zero, List.set_cons_succ])
        refine wpD_only 8 [] rfl (by kernel_rfl) (by kernel_rfl) (by rfl) (fun K9 hK9 => ?_)
        refine wp_call (.func 60) _ _ rfl 60 [] rfl hentTPut [pt bt, .string x.key, .string x.value] (by rfl) ?_
        refine ((HT7.out.no (Fr.refl No w7).drew).put (by have := HLN.out; omega) x.key x.value).mono ?_
        rintro e w8 ⟨rfl, T8, t8, f8, g8⟩
        have HLF : Hid (appC lj x = TR.put x.key x.value lj) := hid (by unfold appC; rw [hgn]; rfl)
        have HC8 : Hid (Ct W w8 b o tb cs bt T8 (appC lj x)) := hid (by
          refine ⟨by rw [HLF.out]; exact t8, ?_, HC6.out.c0, HC6.out.c1, fun e => (g8 b e).elim HC6.out.nb (fun e => by have := HB7.out.lt; have h0 : w7.heap.size ≤ b := e; omega), HC6.out.bw, mays_app HC6.out.m HXM.out.1 HXM.out.2⟩
          rw [HN1.out]
          exact (HB7.out.drew).fr f8 HC6.out.nb)
        have HF8 : Hid (Fr (fun k => T.fp k ∨ k = b) w w8) := hid ((HF7.out.drew).trans f8 (fun k hk => (HG.out k hk).imp .inl id))
        have HG8 : Hid (∀ k, T8.fp k → T.fp k ∨ w.heap.size ≤ k) := hid (fun k hk => (g8 k hk).elim (HG.out k) (fun e => .inr (Nat.le_trans HF7.out.size e)))
        refine ⟨_, rfl, ?_⟩
        refine hK9 _ _ (Facts.nil_hold _) ?_
        clear hK9 K9 hold t8 f8 g8 b0 e0 e1
        simp only [Act.put, List.setIfInBounds_toArray, List.set_cons_zero, List.set_cons_succ]
        refine wpD_done (by kernel_rfl) ?_ _
        go_wp2_with fail
        have hln := app_length lj x
        refine ⟨⟨j + 1, T8, by omega, by go_num, hid ?_, hid ?_, HF8, HG8⟩, by simp [intOf]; omega⟩
        · rw [HTK.out]; exact HC8.out
        · rw [HTK.out]; have := HL.out; omega
    · have hje : j = xs.length := by omega
      have hge : ¬ ((j : Int) < (xs.length : Int)) := by omega
      have htl : xs.take j = xs := by rw [hje, List.take_length]
      rw [htl] at HC
      clear hje hlt htl
      go_wp2_with fail
      go_end0
      exact ⟨rfl, Tj, HC.out, HF.out, HG.out⟩
end Go.Proofs.YtflfmkokfbgclaaGreat.ST
