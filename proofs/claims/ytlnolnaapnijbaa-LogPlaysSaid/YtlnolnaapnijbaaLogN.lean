/-
  The document's log: Append.
-/
import Derived.Test.YtlnolnaapnijbaaLogI
import Derived.Laws.Strings2
namespace Go.Proofs.Ytlnolnaapnijbaa.L
set_option maxRecDepth 100000
open Go.RowKit K

theorem slice_str (x : ByteArray) (a m : Nat) (h1 : a ≤ m) (h2 : m ≤ x.size) (w : World) : (Instr.slice 9 (.string x) (some (.int .i64 (a : Int))) (some (.int .i64 (m : Int))) none).run Try.prog w = .ok (.string (x.extract a m)) w := by
  have := run_slice_string (P := Try.prog) (w := w) 9 x .i64 .i64 (a : Int) (m : Int) Try.underlying9 (by omega) (by omega) (by omega)
  simpa using this
theorem ext_piece (x : ByteArray) (a : Nat) : (x.extract a (min x.size (a + 48))).data.toList = (x.data.toList.drop a).take 48 := by
  have hs : x.size = x.data.toList.length := by simp
  rw [hs]
  rw [ByteArray.data_extract, Array.toList_extract]
  simp only [List.extract_eq_take_drop]
  rw [List.take_eq_take_iff]
  simp only [List.length_drop]
  omega
theorem hentRMade (vs : Array Value) (w : World) : (callFunc 38 vs).run Try.prog w = .ok (.enter 38 vs) w := by kernel_rfl
theorem hentRWrite (vs : Array Value) (w : World) : (callFunc 37 vs).run Try.prog w = .ok (.enter 37 vs) w := by kernel_rfl
/-- '[]byte(s)', one operation. -/
theorem wp_bytesOf {P : Program} {op : Oper} {a : Act} {w : World} {K : Act → World → Prop} {Q : Exit → Act → World → Prop} (src dst e : TypeId) (x : Operand) (ho : op.op = .convert src dst x) (s : ByteArray) (hx : a.eval x = .string s)
    (hs : P.underlying src = some .string) (hd : P.underlying dst = some (.slice e)) (he : P.underlying e = some (.int .u8))
    (h : ∀ c w', Hid (BytesIn w' (New w) (.slice (some ⟨w.heap.size, 0, none⟩) s.size c) s.data.toList) → Hid (Fr No w w') → K (a.put op.dst (.slice (some ⟨w.heap.size, 0, none⟩) s.size c)) w') : op.wp P a w K Q := by
  have hrun := run_bytes_of_string (P := P) w src dst e s hs hd he
  have h1 := h (grownCap w s.size 0 e) _ (hid ⟨_, _, _, rfl, by simp, grownCap_ge _ _ _ _, .inr ⟨w.heap.size, 0, rfl, Nat.le_refl _, by simp, rangeAt_new w.drew (bytesRow s (grownCap w s.size 0 e)) e ((bytesRow s (grownCap w s.size 0 e)).size, (bytesRow s (grownCap w s.size 0 e)).size + 1) _ (fun j v hj => by
    unfold bytesRow
    have hl : j < s.size := by have := (List.getElem?_eq_some_iff.1 hj).1; simpa [u8s] using this
    rw [Array.getElem?_append_left (by simpa using hl)]
    simpa [u8s] using hj)⟩⟩) (hid ((Fr.refl No w).drew.alloc _))
  unfold Oper.wp
  simp [execOp, ho, hx, hrun, Result.andThen]
  exact h1
set_option maxHeartbeats 16000000 in
theorem rappend_any (w : World) (bg bd : Nat) (Z : Nat → Prop) (g : Lg) (u : U) (x : ByteArray) (h : AtR w bg bd Z g u) (hx : x.size ≤ 9223372036854775807) (hp : u.P.length < 900000) :
    Calls Try.prog 31 #[.pointer (some ⟨bg, 0, none⟩), .string x] w fun e w' =>
      e = .returned (.int .i64 (u.append g x.data.toList).1) ∧ ∃ Z', AtR w' bg bd Z' (u.append g x.data.toList).2.2 (u.append g x.data.toList).2.1 ∧ Fr (fun k => Z k ∨ k = bg) w w' ∧ Grows w Z Z' := by
  have hxl : x.data.toList.length = x.size := by simp
  have HR : Hid (u.append g x.data.toList = (if 2000 < x.size then (2, u, g) else if g.count < g.next + secsN x.data.toList then (3, u, g) else
    let a := u.puts g x.data.toList (secsN x.data.toList) (secsN x.data.toList) 0
    if a.1 ≠ 0 then (a.1, a.2, g) else (0, a.2, { g with next := g.next + secsN x.data.toList }))) := hid (by unfold U.append; rw [hxl])
  generalize u.append g x.data.toList = r at HR ⊢
  have HA := hid h; have HP := hid hp
  have hS := secsN_secs x.data.toList
  rw [hxl] at hS
  have HS := hid (rsectors_any (x.size : Int) w (by omega) (by omega))
  rw [← hS] at HS
  by_cases h1 : 2000 < x.size
  · have e1 : r = (2, u, g) := HR.out.trans (if_pos h1)
    have h1i : (2000 : Int) < x.size := by omega
    rw [e1]
    generalize secsN x.data.toList = n at HS
    clear h hp e1 h1 hxl hS HR
    go_enter Try.func31, Try.ntmps31
    go_wp2_with (go_at_call 65; refine HS.out.mono ?_; rintro e' w' ⟨rfl, rfl⟩)
    go_ret
    exact ⟨rfl, Z, HA.out, Fr.refl _ _, Grows.refl _ _⟩
  · have h1i : ¬ (2000 : Int) < x.size := by omega
    have hxs : x.size ≤ 2000 := by omega
    have hn1 := secsN_pos x.data.toList
    have hn42 := secsN_le (l := x.data.toList) (by omega)
    have HFitN : Hid (∀ i, i < secsN x.data.toList → i = 0 ∨ 48 * i < x.size) := hid (fun i hi => by have := secsN_fit x.data.toList hi; rwa [hxl] at this)
    have hr2 := HR.out
    rw [if_neg h1] at hr2
    generalize hNe : secsN x.data.toList = n at HS hn1 hn42 HFitN hr2
    have hcn : (g.count : Int) ≤ 4096 := by have := h.2.2.2.fit; have := h.lens; omega
    have hnn : (g.next : Int) ≤ g.count := by have := h.2.2.2.nc; omega
    have c2 : w.cell? ⟨bg, 2, none⟩ = some (.int .i64 (g.count : Int)) := h.2.1.cell 2
    have c5 : w.cell? ⟨bg, 5, none⟩ = some (.int .i64 (g.next : Int)) := h.2.1.cell 5
    have HR2 := hid hr2
    clear HR hr2 hS
    by_cases h2 : g.count < g.next + n
    · have e1 : r = (3, u, g) := HR2.out.trans (if_pos h2)
      have h2i : (g.count : Int) < g.next + n := by omega
      rw [e1]
      clear h hp e1 h1 h2 hxl hNe
      go_enter Try.func31, Try.ntmps31
      go_wp2_with (go_at_call 65; refine HS.out.mono ?_; rintro e' w' ⟨rfl, rfl⟩)
      go_quiet (fail)
      go_wp2_with fail
      go_ret
      exact ⟨rfl, Z, HA.out.no ((Fr.refl No w).drewN _), ((Fr.refl No w).drewN _).no, Grows.refl _ _⟩
    · have h2i : ¬ (g.count : Int) < g.next + n := by omega
      have h2j : (g.next : Int) + n ≤ 4096 := by omega
      have h2n : g.next + n ≤ g.count := by omega
      have H2n := hid h2n
      have HR3 : Hid (r = (let a := u.puts g x.data.toList n n 0; if a.1 ≠ 0 then (a.1, a.2, g) else (0, a.2, { g with next := g.next + n }))) := hid (HR2.out.trans (if_neg h2))
      have HXS := hid hxs
      clear h hp h1 h2 hxl HR2 h2n hxs hNe
      go_enter Try.func31, Try.ntmps31
      go_wp2_with (go_at_call 65; refine HS.out.mono ?_; rintro e' w' ⟨rfl, rfl⟩)
      go_quiet (fail)
      go_wp2_with fail
      have HA1 := hid (HA.out.no ((Fr.refl No w).drewN 2))
      have HD1 := hid ((Fr.refl No w).drewN 2)
      go_loopw [6] (fun iv wr => ∃ (i : Nat) (ui : U) (Zi : Nat → Prop), iv = .int .i64 (i : Int) ∧ i ≤ n ∧ Hid (ui.puts g x.data.toList n (n - i) i = u.puts g x.data.toList n n 0) ∧ Hid (ui.P.length ≤ u.P.length + i) ∧ Hid (ui.L = u.L) ∧
        Hid (AtR wr bg bd Zi g ui) ∧ Hid (Fr (fun k => Z k ∨ k = bg) w wr) ∧ Hid (Grows w Z Zi)) (fun iv _ => n - (intOf iv).toNat)
      case atStart => exact ⟨0, u, Z, rfl, Nat.zero_le _, hid rfl, hid (Nat.le_refl _), hid rfl, hid (HA.out.no ((Fr.refl No w).drewN _)), hid ((Fr.refl No w).drewN _).no, hid (Grows.refl _ _)⟩
      case round =>
        obtain ⟨i, ui, Zi, rfl, hin, HPu, HPl, HLe, HAi, HFi, HGi⟩ := hrel
        by_cases hlt : i < n
        · have hli : (i : Int) < n := by omega
          have b0 : wr.cell? ⟨bg, 0, none⟩ = some (.pointer (some ⟨bd, 0, none⟩)) := HAi.out.2.1.cell 0
          have b1 : wr.cell? ⟨bg, 1, none⟩ = some (.int .i64 (g.first : Int)) := HAi.out.2.1.cell 1
          have b3 : wr.cell? ⟨bg, 3, none⟩ = some (.int .u32 (g.epoch : Int)) := HAi.out.2.1.cell 3
          have b4 : wr.cell? ⟨bg, 4, none⟩ = some (.int .u32 (g.life : Int)) := HAi.out.2.1.cell 4
          have b5 : wr.cell? ⟨bg, 5, none⟩ = some (.int .i64 (g.next : Int)) := HAi.out.2.1.cell 5
          by_cases hi0 : i = 0
          · have hi0i : ((i : Int) == 0) = true := by simp; omega
            have HI0 := hid hi0
            by_cases hil : i + 1 = n
            · have hili : ((i : Int) == (n : Int) - 1) = true := by simp; omega
              have HIL := hid hil
              clear hi0 hil
              have hgf : (g.first : Int) + g.count ≤ 4096 := by have := HAi.out.2.2.2.fit; have := HAi.out.lens; omega
              have hnc : (g.next : Int) + n ≤ g.count := by have := H2n.out; omega
              obtain ⟨p12, hp12⟩ : ∃ p : Nat, p = g.first + g.next := ⟨_, rfl⟩
              obtain ⟨q14, hq14⟩ : ∃ p : Nat, p = g.first + (g.next + i) := ⟨_, rfl⟩
              obtain ⟨s28, hs28⟩ : ∃ p : Nat, p = g.next + i := ⟨_, rfl⟩
              obtain ⟨a48, ha48⟩ : ∃ p : Nat, p = 48 * i := ⟨_, rfl⟩
              obtain ⟨b48, hb48⟩ : ∃ p : Nat, p = 48 * i + 48 := ⟨_, rfl⟩
              obtain ⟨mn, hmn⟩ : ∃ p : Nat, p = min x.size (48 * i + 48) := ⟨_, rfl⟩
              obtain ⟨sl, hsl⟩ : ∃ s : ByteArray, s = x.extract (48 * i) (min x.size (48 * i + 48)) := ⟨_, rfl⟩
              have W12 : Hid (IntKind.i64.wrap ((g.first : Int) + (g.next : Int)) = (p12 : Int)) := hid ((wrap_small (by omega) (by omega)).trans (by omega))
              have W14 : Hid (IntKind.i64.wrap ((p12 : Int) + (i : Int)) = (q14 : Int)) := hid ((wrap_small (by omega) (by omega)).trans (by omega))
              have W28 : Hid (IntKind.i64.wrap ((g.next : Int) + (i : Int)) = (s28 : Int)) := hid ((wrap_small (by omega) (by omega)).trans (by omega))
              have W32 : Hid (IntKind.i64.wrap (48 * (i : Int)) = (a48 : Int)) := hid ((wrap_small (by omega) (by omega)).trans (by omega))
              have W37 : Hid (IntKind.i64.wrap ((a48 : Int) + 48) = (b48 : Int)) := hid ((wrap_small (by omega) (by omega)).trans (by omega))
              have HQ := hid hq14; have HS28 := hid hs28; have HA48 := hid ha48; have HB48 := hid hb48; have HMN := hid hmn; have HSL := hid hsl
              have HSLI : Hid (∀ w : World, (Instr.slice 9 (.string x) (some (.int .i64 (a48 : Int))) (some (.int .i64 (mn : Int))) none).run Try.prog w = .ok (.string sl) w) := hid (fun w => by rw [show sl = x.extract a48 mn by rw [hsl, ha48, hmn]]; exact slice_str x a48 mn (by have := HFitN.out i hlt; omega) (by omega) w)
              clear hmn hsl hp12 hq14 hs28 ha48 hb48
              have h39a : (a48 : Int) ≤ mn := by have := HA48.out; have := HMN.out; have := HFitN.out i hlt; omega
              go_wp2_with fail
              have hold : Facts.hold [(3, fun w' => w'.cell? ⟨bg, 0, none⟩ = some (.pointer (some ⟨bd, 0, none⟩))), (7, fun w' => w'.cell? ⟨bg, 1, none⟩ = some (.int .i64 (g.first : Int))), (11, fun w' => w'.cell? ⟨bg, 5, none⟩ = some (.int .i64 (g.next : Int))), (18, fun w' => w'.cell? ⟨bg, 3, none⟩ = some (.int .u32 (g.epoch : Int))), (22, fun w' => w'.cell? ⟨bg, 4, none⟩ = some (.int .u32 (g.life : Int))), (26, fun w' => w'.cell? ⟨bg, 5, none⟩ = some (.int .i64 (g.next : Int)))] wr.drew := Facts.cons_hold b0 (Facts.cons_hold b1 (Facts.cons_hold b5 (Facts.cons_hold b3 (Facts.cons_hold b4 (Facts.cons_hold b5 (Facts.nil_hold _))))))
              refine wpD_region hold (by kernel_rfl) 44 rfl ?_
              (refine wpD_plain 0 (v := ?_) rfl (by kernel_rfl) (by kernel_rfl) (by kernel_rfl) (fun _ _ _ h => h) (by rfl) ?_ (by assumption) ?_; rotate_left; (intro _w; go_simp; try with_reducible rfl); simp only [Act.put, List.setIfInBounds_toArray, List.set_cons_zero, List.set_cons_succ])
              (refine wpD_plain 1 (v := ?_) rfl (by kernel_rfl) (by kernel_rfl) (by kernel_rfl) (fun _ _ _ h => h) (by rfl) ?_ (by assumption) ?_; rotate_left; (intro _w; go_simp; try with_reducible rfl); simp only [Act.put, List.setIfInBounds_toArray, List.set_cons_zero, List.set_cons_succ])
              (refine wpD_plain 2 (v := ?_) rfl (by kernel_rfl) (by kernel_rfl) (by kernel_rfl) (fun _ _ _ h => h) (by rfl) ?_ (by assumption) ?_; rotate_left; (intro _w; go_simp; try with_reducible rfl); simp only [Act.put, List.setIfInBounds_toArray, List.set_cons_zero, List.set_cons_succ])
              (refine wpD_take 3 _ rfl (by kernel_rfl) (by kernel_rfl) (by kernel_rfl) (fun _ _ _ h => h) List.mem_cons_self (by rfl) (v := ?_) ?_ (by assumption) ?_; rotate_left; (intro _w _hw; go_simp; try with_reducible rfl); simp only [Act.put, List.setIfInBounds_toArray, List.set_cons_zero, List.set_cons_succ])
              (refine wpD_plain 4 (v := ?_) rfl (by kernel_rfl) (by kernel_rfl) (by kernel_rfl) (fun _ _ _ h => h) (by rfl) ?_ (by assumption) ?_; rotate_left; (intro _w; go_simp; try with_reducible rfl); simp only [Act.put, List.setIfInBounds_toArray, List.set_cons_zero, List.set_cons_succ])
              (refine wpD_plain 5 (v := ?_) rfl (by kernel_rfl) (by kernel_rfl) (by kernel_rfl) (fun _ _ _ h => h) (by rfl) ?_ (by assumption) ?_; rotate_left; (intro _w; go_simp; try with_reducible rfl); simp only [Act.put, List.setIfInBounds_toArray, List.set_cons_zero, List.set_cons_succ])
              (refine wpD_plain 6 (v := ?_) rfl (by kernel_rfl) (by kernel_rfl) (by kernel_rfl) (fun _ _ _ h => h) (by rfl) ?_ (by assumption) ?_; rotate_left; (intro _w; go_simp; try with_reducible rfl); simp only [Act.put, List.setIfInBounds_toArray, List.set_cons_zero, List.set_cons_succ])
              (refine wpD_take 7 _ rfl (by kernel_rfl) (by kernel_rfl) (by kernel_rfl) (fun _ _ _ h => h) (List.mem_cons_of_mem _ List.mem_cons_self) (by rfl) (v := ?_) ?_ (by assumption) ?_; rotate_left; (intro _w _hw; go_simp; try with_reducible rfl); simp only [Act.put, List.setIfInBounds_toArray, List.set_cons_zero, List.set_cons_succ])
              (refine wpD_plain 8 (v := ?_) rfl (by kernel_rfl) (by kernel_rfl) (by kernel_rfl) (fun _ _ _ h => h) (by rfl) ?_ (by assumption) ?_; rotate_left; (intro _w; go_simp; try with_reducible rfl); simp only [Act.put, List.setIfInBounds_toArray, List.set_cons_zero, List.set_cons_succ])
              (refine wpD_plain 9 (v := ?_) rfl (by kernel_rfl) (by kernel_rfl) (by kernel_rfl) (fun _ _ _ h => h) (by rfl) ?_ (by assumption) ?_; rotate_left; (intro _w; go_simp; try with_reducible rfl); simp only [Act.put, List.setIfInBounds_toArray, List.set_cons_zero, List.set_cons_succ])
              (refine wpD_plain 10 (v := ?_) rfl (by kernel_rfl) (by kernel_rfl) (by kernel_rfl) (fun _ _ _ h => h) (by rfl) ?_ (by assumption) ?_; rotate_left; (intro _w; go_simp; try with_reducible rfl); simp only [Act.put, List.setIfInBounds_toArray, List.set_cons_zero, List.set_cons_succ])
              (refine wpD_take 11 _ rfl (by kernel_rfl) (by kernel_rfl) (by kernel_rfl) (fun _ _ _ h => h) (List.mem_cons_of_mem _ (List.mem_cons_of_mem _ List.mem_cons_self)) (by rfl) (v := ?_) ?_ (by assumption) ?_; rotate_left; (intro _w _hw; go_simp; try with_reducible rfl); simp only [Act.put, List.setIfInBounds_toArray, List.set_cons_zero, List.set_cons_succ])
              (refine wpD_plain 12 (v := (.int .i64 (p12 : Int))) rfl (by kernel_rfl) (by kernel_rfl) (by kernel_rfl) (fun _ _ _ h => h) (by rfl) ?_ (by assumption) ?_; (intro _w; go_simp; exact W12.out); simp only [Act.put, List.setIfInBounds_toArray, List.set_cons_zero, List.set_cons_succ])
              (refine wpD_plain 13 (v := ?_) rfl (by kernel_rfl) (by kernel_rfl) (by kernel_rfl) (fun _ _ _ h => h) (by rfl) ?_ (by assumption) ?_; rotate_left; (intro _w; go_simp; try with_reducible rfl); simp only [Act.put, List.setIfInBounds_toArray, List.set_cons_zero, List.set_cons_succ])
              (refine wpD_plain 14 (v := (.int .i64 (q14 : Int))) rfl (by kernel_rfl) (by kernel_rfl) (by kernel_rfl) (fun _ _ _ h => h) (by rfl) ?_ (by assumption) ?_; (intro _w; go_simp; exact W14.out); simp only [Act.put, List.setIfInBounds_toArray, List.set_cons_zero, List.set_cons_succ])
              (refine wpD_plain 15 (v := ?_) rfl (by kernel_rfl) (by kernel_rfl) (by kernel_rfl) (fun _ _ _ h => h) (by rfl) ?_ (by assumption) ?_; rotate_left; (intro _w; go_simp; try with_reducible rfl); simp only [Act.put, List.setIfInBounds_toArray, List.set_cons_zero, List.set_cons_succ])
              (refine wpD_plain 16 (v := ?_) rfl (by kernel_rfl) (by kernel_rfl) (by kernel_rfl) (fun _ _ _ h => h) (by rfl) ?_ (by assumption) ?_; rotate_left; (intro _w; go_simp; try with_reducible rfl); simp only [Act.put, List.setIfInBounds_toArray, List.set_cons_zero, List.set_cons_succ])
              (refine wpD_plain 17 (v := ?_) rfl (by kernel_rfl) (by kernel_rfl) (by kernel_rfl) (fun _ _ _ h => h) (by rfl) ?_ (by assumption) ?_; rotate_left; (intro _w; go_simp; try with_reducible rfl); simp only [Act.put, List.setIfInBounds_toArray, List.set_cons_zero, List.set_cons_succ])
              (refine wpD_take 18 _ rfl (by kernel_rfl) (by kernel_rfl) (by kernel_rfl) (fun _ _ _ h => h) (List.mem_cons_of_mem _ (List.mem_cons_of_mem _ (List.mem_cons_of_mem _ List.mem_cons_self))) (by rfl) (v := ?_) ?_ (by assumption) ?_; rotate_left; (intro _w _hw; go_simp; try with_reducible rfl); simp only [Act.put, List.setIfInBounds_toArray, List.set_cons_zero, List.set_cons_succ])
              (refine wpD_plain 19 (v := ?_) rfl (by kernel_rfl) (by kernel_rfl) (by kernel_rfl) (fun _ _ _ h => h) (by rfl) ?_ (by assumption) ?_; rotate_left; (intro _w; go_simp; try with_reducible rfl); simp only [Act.put, List.setIfInBounds_toArray, List.set_cons_zero, List.set_cons_succ])
              (refine wpD_plain 20 (v := ?_) rfl (by kernel_rfl) (by kernel_rfl) (by kernel_rfl) (fun _ _ _ h => h) (by rfl) ?_ (by assumption) ?_; rotate_left; (intro _w; go_simp; try with_reducible rfl); simp only [Act.put, List.setIfInBounds_toArray, List.set_cons_zero, List.set_cons_succ])
              (refine wpD_plain 21 (v := ?_) rfl (by kernel_rfl) (by kernel_rfl) (by kernel_rfl) (fun _ _ _ h => h) (by rfl) ?_ (by assumption) ?_; rotate_left; (intro _w; go_simp; try with_reducible rfl); simp only [Act.put, List.setIfInBounds_toArray, List.set_cons_zero, List.set_cons_succ])
              (refine wpD_take 22 _ rfl (by kernel_rfl) (by kernel_rfl) (by kernel_rfl) (fun _ _ _ h => h) (List.mem_cons_of_mem _ (List.mem_cons_of_mem _ (List.mem_cons_of_mem _ (List.mem_cons_of_mem _ List.mem_cons_self)))) (by rfl) (v := ?_) ?_ (by assumption) ?_; rotate_left; (intro _w _hw; go_simp; try with_reducible rfl); simp only [Act.put, List.setIfInBounds_toArray, List.set_cons_zero, List.set_cons_succ])
              (refine wpD_plain 23 (v := ?_) rfl (by kernel_rfl) (by kernel_rfl) (by kernel_rfl) (fun _ _ _ h => h) (by rfl) ?_ (by assumption) ?_; rotate_left; (intro _w; go_simp; try with_reducible rfl); simp only [Act.put, List.setIfInBounds_toArray, List.set_cons_zero, List.set_cons_succ])
              (refine wpD_plain 24 (v := ?_) rfl (by kernel_rfl) (by kernel_rfl) (by kernel_rfl) (fun _ _ _ h => h) (by rfl) ?_ (by assumption) ?_; rotate_left; (intro _w; go_simp; try with_reducible rfl); simp only [Act.put, List.setIfInBounds_toArray, List.set_cons_zero, List.set_cons_succ])
              (refine wpD_plain 25 (v := ?_) rfl (by kernel_rfl) (by kernel_rfl) (by kernel_rfl) (fun _ _ _ h => h) (by rfl) ?_ (by assumption) ?_; rotate_left; (intro _w; go_simp; try with_reducible rfl); simp only [Act.put, List.setIfInBounds_toArray, List.set_cons_zero, List.set_cons_succ])
              (refine wpD_take 26 _ rfl (by kernel_rfl) (by kernel_rfl) (by kernel_rfl) (fun _ _ _ h => h) (List.mem_cons_of_mem _ (List.mem_cons_of_mem _ (List.mem_cons_of_mem _ (List.mem_cons_of_mem _ (List.mem_cons_of_mem _ List.mem_cons_self))))) (by rfl) (v := ?_) ?_ (by assumption) ?_; rotate_left; (intro _w _hw; go_simp; try with_reducible rfl); simp only [Act.put, List.setIfInBounds_toArray, List.set_cons_zero, List.set_cons_succ])
              (refine wpD_plain 27 (v := ?_) rfl (by kernel_rfl) (by kernel_rfl) (by kernel_rfl) (fun _ _ _ h => h) (by rfl) ?_ (by assumption) ?_; rotate_left; (intro _w; go_simp; try with_reducible rfl); simp only [Act.put, List.setIfInBounds_toArray, List.set_cons_zero, List.set_cons_succ])
              (refine wpD_plain 28 (v := (.int .i64 (s28 : Int))) rfl (by kernel_rfl) (by kernel_rfl) (by kernel_rfl) (fun _ _ _ h => h) (by rfl) ?_ (by assumption) ?_; (intro _w; go_simp; exact W28.out); simp only [Act.put, List.setIfInBounds_toArray, List.set_cons_zero, List.set_cons_succ])
              (refine wpD_plain 29 (v := ?_) rfl (by kernel_rfl) (by kernel_rfl) (by kernel_rfl) (fun _ _ _ h => h) (by rfl) ?_ (by assumption) ?_; rotate_left; (intro _w; go_simp; try with_reducible rfl); simp only [Act.put, List.setIfInBounds_toArray, List.set_cons_zero, List.set_cons_succ])
              (refine wpD_plain 30 (v := ?_) rfl (by kernel_rfl) (by kernel_rfl) (by kernel_rfl) (fun _ _ _ h => h) (by rfl) ?_ (by assumption) ?_; rotate_left; (intro _w; go_simp; try with_reducible rfl); simp only [Act.put, List.setIfInBounds_toArray, List.set_cons_zero, List.set_cons_succ])
              (refine wpD_plain 31 (v := ?_) rfl (by kernel_rfl) (by kernel_rfl) (by kernel_rfl) (fun _ _ _ h => h) (by rfl) ?_ (by assumption) ?_; rotate_left; (intro _w; go_simp; try with_reducible rfl); simp only [Act.put, List.setIfInBounds_toArray, List.set_cons_zero, List.set_cons_succ])
              (refine wpD_plain 32 (v := (.int .i64 (a48 : Int))) rfl (by kernel_rfl) (by kernel_rfl) (by kernel_rfl) (fun _ _ _ h => h) (by rfl) ?_ (by assumption) ?_; (intro _w; go_simp; exact W32.out); simp only [Act.put, List.setIfInBounds_toArray, List.set_cons_zero, List.set_cons_succ])
              (refine wpD_plain 33 (v := ?_) rfl (by kernel_rfl) (by kernel_rfl) (by kernel_rfl) (fun _ _ _ h => h) (by rfl) ?_ (by assumption) ?_; rotate_left; (intro _w; go_simp; try with_reducible rfl); simp only [Act.put, List.setIfInBounds_toArray, List.set_cons_zero, List.set_cons_succ])
              (refine wpD_plain 34 (v := ?_) rfl (by kernel_rfl) (by kernel_rfl) (by kernel_rfl) (fun _ _ _ h => h) (by rfl) ?_ (by assumption) ?_; rotate_left; (intro _w; go_simp; try with_reducible rfl); simp only [Act.put, List.setIfInBounds_toArray, List.set_cons_zero, List.set_cons_succ])
              (refine wpD_plain 35 (v := ?_) rfl (by kernel_rfl) (by kernel_rfl) (by kernel_rfl) (fun _ _ _ h => h) (by rfl) ?_ (by assumption) ?_; rotate_left; (intro _w; go_simp; try with_reducible rfl); simp only [Act.put, List.setIfInBounds_toArray, List.set_cons_zero, List.set_cons_succ])
              (refine wpD_plain 36 (v := (.int .i64 (a48 : Int))) rfl (by kernel_rfl) (by kernel_rfl) (by kernel_rfl) (fun _ _ _ h => h) (by rfl) ?_ (by assumption) ?_; (intro _w; go_simp; exact W32.out); simp only [Act.put, List.setIfInBounds_toArray, List.set_cons_zero, List.set_cons_succ])
              (refine wpD_plain 37 (v := (.int .i64 (b48 : Int))) rfl (by kernel_rfl) (by kernel_rfl) (by kernel_rfl) (fun _ _ _ h => h) (by rfl) ?_ (by assumption) ?_; (intro _w; go_simp; exact W37.out); simp only [Act.put, List.setIfInBounds_toArray, List.set_cons_zero, List.set_cons_succ])
              (refine wpD_plain 38 (v := (.int .i64 (mn : Int))) rfl (by kernel_rfl) (by kernel_rfl) (by kernel_rfl) (fun _ _ _ h => h) (by rfl) ?_ (by assumption) ?_; (intro _w; go_simp; (have := HMN.out; have := HB48.out; split <;> omega)); simp only [Act.put, List.setIfInBounds_toArray, List.set_cons_zero, List.set_cons_succ])
              (refine wpD_plain 39 (v := (.string sl)) rfl (by kernel_rfl) (by kernel_rfl) (by kernel_rfl) (fun _ _ _ h => h) (by rfl) ?_ (by assumption) ?_; (intro _w; go_simp; (rw [HSLI.out _w]; rfl)); simp only [Act.put, List.setIfInBounds_toArray, List.set_cons_zero, List.set_cons_succ])
              refine wpD_only 40 [(3, fun w' => w'.cell? ⟨bg, 0, none⟩ = some (.pointer (some ⟨bd, 0, none⟩))), (7, fun w' => w'.cell? ⟨bg, 1, none⟩ = some (.int .i64 (g.first : Int))), (11, fun w' => w'.cell? ⟨bg, 5, none⟩ = some (.int .i64 (g.next : Int))), (18, fun w' => w'.cell? ⟨bg, 3, none⟩ = some (.int .u32 (g.epoch : Int))), (22, fun w' => w'.cell? ⟨bg, 4, none⟩ = some (.int .u32 (g.life : Int))), (26, fun w' => w'.cell? ⟨bg, 5, none⟩ = some (.int .i64 (g.next : Int)))] rfl (by kernel_rfl) (by kernel_rfl) (by rfl) (fun K40 hK40 => ?_)
              refine wp_bytesOf _ _ 5 _ rfl sl rfl Try.underlying9 Try.underlying66 Try.underlying5 ?_
              intro c40 w40 HB40 HF40
              have HBK40 : Hid (Blk w40 bg 93 (lgCells bd g)) := hid (HAi.out.2.1.fr (Fr.trans' (b := wr.drew) (Fr.refl No wr).drew HF40.out) id)
              refine hK40 _ _ (Facts.cons_hold (HBK40.out.cell 0) (Facts.cons_hold (HBK40.out.cell 1) (Facts.cons_hold (HBK40.out.cell 5) (Facts.cons_hold (HBK40.out.cell 3) (Facts.cons_hold (HBK40.out.cell 4) (Facts.cons_hold (HBK40.out.cell 5) (Facts.nil_hold _))))))) ?_
              clear hK40 K40 hold
              simp only [Act.put, List.setIfInBounds_toArray, List.set_cons_zero, List.set_cons_succ]
              have HSB : Hid (sl.data.toList = (x.data.toList.drop (48 * i)).take 48) := hid (by rw [HSL.out]; exact ext_piece x (48 * i))
              have HBL : Hid (sl.data.toList.length ≤ 48) := hid (by rw [HSB.out, List.length_take]; omega)
              have HRec : Hid (recSec g x.data.toList n i = made g.epoch g.life s28 (((3 : Int) % 256).toNat) sl.data.toList.length (pad48 sl.data.toList)) := hid (by
                have e1 : (if i = 0 then 1 else 0) + (if i + 1 = n then 2 else 0) = 3 := by rw [if_pos HI0.out, if_pos HIL.out]
                rw [HSB.out, HS28.out]
                unfold recSec
                rw [e1]; rfl)
              refine wpD_only 41 [(3, fun w' => w'.cell? ⟨bg, 0, none⟩ = some (.pointer (some ⟨bd, 0, none⟩))), (7, fun w' => w'.cell? ⟨bg, 1, none⟩ = some (.int .i64 (g.first : Int))), (11, fun w' => w'.cell? ⟨bg, 5, none⟩ = some (.int .i64 (g.next : Int))), (26, fun w' => w'.cell? ⟨bg, 5, none⟩ = some (.int .i64 (g.next : Int)))] rfl (by kernel_rfl) (by kernel_rfl) (by rfl) (fun K41 hK41 => ?_)
              refine wp_call (.func 38) _ _ rfl 38 [] rfl hentRMade [.int .u32 g.epoch, .int .u32 g.life, .int .i64 s28, .int .i64 3, .slice (some ⟨wr.drew.heap.size, 0, none⟩) sl.size c40] (by rfl) ?_
              refine (rmade_any g.epoch g.life s28 3 _ _ _ w40 HAi.out.2.2.2.ep HAi.out.2.2.2.li (by have := HS28.out; omega) HB40.out HBL.out).mono ?_
              rintro e' w41 ⟨a41, c41, rfl, o41, f41⟩
              refine ⟨_, rfl, ?_⟩
              refine hK41 _ _ (Facts.cons_hold ((HBK40.out.fr f41 id).cell 0) (Facts.cons_hold ((HBK40.out.fr f41 id).cell 1) (Facts.cons_hold ((HBK40.out.fr f41 id).cell 5) (Facts.cons_hold ((HBK40.out.fr f41 id).cell 5) (Facts.nil_hold _))))) ?_
              clear hK41 K41
              simp only [Act.put, List.setIfInBounds_toArray, List.set_cons_zero, List.set_cons_succ]
              rw [← HRec.out] at o41
              have HO41 := hid (own_bytes o41)
              have HF41 : Hid (Fr No wr w41) := hid ((Fr.trans' (b := wr.drew) (Fr.refl No wr).drew HF40.out).trans' f41)
              have HA41 := hid (HAi.out.no HF41.out)
              have HPut := hid (puts_step g x.data.toList n (n - (i + 1)) i ui)
              rw [show n - (i + 1) + 1 = n - i by omega] at HPut
              refine wpD_only 42 [(7, fun w' => w'.cell? ⟨bg, 1, none⟩ = some (.int .i64 (g.first : Int))), (11, fun w' => w'.cell? ⟨bg, 5, none⟩ = some (.int .i64 (g.next : Int))), (26, fun w' => w'.cell? ⟨bg, 5, none⟩ = some (.int .i64 (g.next : Int)))] rfl (by kernel_rfl) (by kernel_rfl) (by rfl) (fun K42 hK42 => ?_)
              refine wp_call (.func 37) _ _ rfl 37 [] rfl hentRWrite [.pointer (some ⟨bd, 0, none⟩), .int .i64 q14, .slice a41 64 c41] (by rfl) ?_
              refine (rwrite_any (q14 : Int) _ _ _ HO41.out (fun j hj e => by have h1 := HAi.out.1.lt j e; have h2 := (Fr.trans' (b := wr.drew) (Fr.refl No wr).drew HF40.out).size; omega) HA41.out.1 (by have := HPl.out; have := HP.out; omega)).mono ?_
              rintro e' w7 ⟨rfl, Z7, hA, hF, hG⟩
              refine ⟨_, rfl, ?_⟩
              have HBK7 : Hid (Blk w7 bg 93 (lgCells bd g)) := hid (HA41.out.2.1.fr hF HA41.out.2.2.1)
              have hold : Facts.hold [(7, fun w' => w'.cell? ⟨bg, 1, none⟩ = some (.int .i64 (g.first : Int))), (11, fun w' => w'.cell? ⟨bg, 5, none⟩ = some (.int .i64 (g.next : Int))), (26, fun w' => w'.cell? ⟨bg, 5, none⟩ = some (.int .i64 (g.next : Int)))] w7 := (Facts.cons_hold (HBK7.out.cell 1) (Facts.cons_hold (HBK7.out.cell 5) (Facts.cons_hold (HBK7.out.cell 5) (Facts.nil_hold _))))
              refine hK42 _ _ hold ?_
              clear hK42 K42 o41 f41
              simp only [Act.put, List.setIfInBounds_toArray, List.set_cons_zero, List.set_cons_succ]
              rw [HQ.out] at hA ⊢
              have HWP := hid (write_P ui ((g.first + (g.next + i) : Nat) : Int) (recSec g x.data.toList n i))
              have HWL := hid (write_L ui ((g.first + (g.next + i) : Nat) : Int) (recSec g x.data.toList n i))
              have hput := HPut.out
              clear HPut
              generalize ui.write ((g.first + (g.next + i) : Nat) : Int) (recSec g x.data.toList n i) = a at hA hput HWP HWL ⊢
              obtain ⟨a1, a2⟩ := a
              simp only at hA hput ⊢
              have HPut := hid hput
              clear hput
              have HA7 : Hid (AtR w7 bg bd Z7 g a2) := hid ⟨hA, HA41.out.2.1.fr hF HA41.out.2.2.1, fun e => (hG _ e).elim HA41.out.2.2.1 (fun e2 => by have := HA41.out.2.1.lt; omega), by rw [show a2.L.length = ui.L.length from congrArg List.length HWL.out]; exact HA41.out.2.2.2⟩
              have HG7 : Hid (Grows w Z Z7) := hid (HGi.out.trans (fun j hj => (hG j hj).imp id (fun hge => Nat.le_trans HF41.out.size hge)) HFi.out.size)
              have HF7 : Hid (Fr (fun k => Z k ∨ k = bg) w w7) := hid ((HFi.out.trans' HF41.out.no).trans hF (fun j hj => (HGi.out j hj).imp .inl id))
              have HLe7 : Hid (a2.L = u.L) := hid (HWL.out.trans HLe.out)
              clear hA hF hG
              (refine wpD_plain 43 (v := ?_) rfl (by kernel_rfl) (by kernel_rfl) (by kernel_rfl) (fun _ _ _ h => h) (by rfl) ?_ (by assumption) ?_; rotate_left; (intro _w; go_simp; try with_reducible rfl); simp only [Act.put, List.setIfInBounds_toArray, List.set_cons_zero, List.set_cons_succ])
              refine wpD_done (by kernel_rfl) ?_ _
              try simp only [Act.put, List.setIfInBounds_toArray, List.set_cons_zero, List.set_cons_succ]
              by_cases ha : a1 = 0
              · subst ha
                have HPu' : Hid (a2.puts g x.data.toList n (n - (i + 1)) (i + 1) = u.puts g x.data.toList n n 0) := hid (by
                  have h1 := HPut.out
                  rw [if_neg (by simp)] at h1
                  exact h1.symm.trans HPu.out)
                have HPl7 : Hid (a2.P.length ≤ u.P.length + (i + 1)) := hid (by have h1 : a2.P.length ≤ ui.P.length + 1 := HWP.out; have := HPl.out; omega)
                clear HPut HWP HWL HRec HBL HSB HO41 HA41 HF41 hold W12 W14 W28 W32 W37 HSLI
                go_wp2_with fail
                exact ⟨⟨i + 1, a2, Z7, by go_num, by omega, HPu', HPl7, HLe7, HA7, HF7, HG7⟩, by simp [intOf]; omega⟩
              · have HPu' : Hid (u.puts g x.data.toList n n 0 = (a1, a2)) := hid (by
                  have h1 := HPut.out
                  rw [if_pos ha] at h1
                  exact HPu.out.symm.trans h1)
                have a0 : (a1 != 0) = true := by simp [ha]
                have HR4 : Hid (r = (a1, a2, g)) := hid (by
                  have h1 := HR3.out
                  simp only [HPu'.out] at h1
                  rw [if_pos ha] at h1
                  exact h1)
                clear ha HPut HWP HWL HRec HBL HSB HO41 HA41 HF41 hold W12 W14 W28 W32 W37 HSLI
                go_wp2_with fail
                go_ret
                rw [HR4.out]
                exact ⟨rfl, Z7, HA7.out, HF7.out, HG7.out⟩
            · have hili : ((i : Int) == (n : Int) - 1) = false := by simp; omega
              have HIL := hid hil
              clear hi0 hil
              have hgf : (g.first : Int) + g.count ≤ 4096 := by have := HAi.out.2.2.2.fit; have := HAi.out.lens; omega
              have hnc : (g.next : Int) + n ≤ g.count := by have := H2n.out; omega
              obtain ⟨p12, hp12⟩ : ∃ p : Nat, p = g.first + g.next := ⟨_, rfl⟩
              obtain ⟨q14, hq14⟩ : ∃ p : Nat, p = g.first + (g.next + i) := ⟨_, rfl⟩
              obtain ⟨s28, hs28⟩ : ∃ p : Nat, p = g.next + i := ⟨_, rfl⟩
              obtain ⟨a48, ha48⟩ : ∃ p : Nat, p = 48 * i := ⟨_, rfl⟩
              obtain ⟨b48, hb48⟩ : ∃ p : Nat, p = 48 * i + 48 := ⟨_, rfl⟩
              obtain ⟨mn, hmn⟩ : ∃ p : Nat, p = min x.size (48 * i + 48) := ⟨_, rfl⟩
              obtain ⟨sl, hsl⟩ : ∃ s : ByteArray, s = x.extract (48 * i) (min x.size (48 * i + 48)) := ⟨_, rfl⟩
              have W12 : Hid (IntKind.i64.wrap ((g.first : Int) + (g.next : Int)) = (p12 : Int)) := hid ((wrap_small (by omega) (by omega)).trans (by omega))
              have W14 : Hid (IntKind.i64.wrap ((p12 : Int) + (i : Int)) = (q14 : Int)) := hid ((wrap_small (by omega) (by omega)).trans (by omega))
              have W28 : Hid (IntKind.i64.wrap ((g.next : Int) + (i : Int)) = (s28 : Int)) := hid ((wrap_small (by omega) (by omega)).trans (by omega))
              have W32 : Hid (IntKind.i64.wrap (48 * (i : Int)) = (a48 : Int)) := hid ((wrap_small (by omega) (by omega)).trans (by omega))
              have W37 : Hid (IntKind.i64.wrap ((a48 : Int) + 48) = (b48 : Int)) := hid ((wrap_small (by omega) (by omega)).trans (by omega))
              have HQ := hid hq14; have HS28 := hid hs28; have HA48 := hid ha48; have HB48 := hid hb48; have HMN := hid hmn; have HSL := hid hsl
              have HSLI : Hid (∀ w : World, (Instr.slice 9 (.string x) (some (.int .i64 (a48 : Int))) (some (.int .i64 (mn : Int))) none).run Try.prog w = .ok (.string sl) w) := hid (fun w => by rw [show sl = x.extract a48 mn by rw [hsl, ha48, hmn]]; exact slice_str x a48 mn (by have := HFitN.out i hlt; omega) (by omega) w)
              clear hmn hsl hp12 hq14 hs28 ha48 hb48
              have h39a : (a48 : Int) ≤ mn := by have := HA48.out; have := HMN.out; have := HFitN.out i hlt; omega
              go_wp2_with fail
              have hold : Facts.hold [(3, fun w' => w'.cell? ⟨bg, 0, none⟩ = some (.pointer (some ⟨bd, 0, none⟩))), (7, fun w' => w'.cell? ⟨bg, 1, none⟩ = some (.int .i64 (g.first : Int))), (11, fun w' => w'.cell? ⟨bg, 5, none⟩ = some (.int .i64 (g.next : Int))), (18, fun w' => w'.cell? ⟨bg, 3, none⟩ = some (.int .u32 (g.epoch : Int))), (22, fun w' => w'.cell? ⟨bg, 4, none⟩ = some (.int .u32 (g.life : Int))), (26, fun w' => w'.cell? ⟨bg, 5, none⟩ = some (.int .i64 (g.next : Int)))] wr.drew := Facts.cons_hold b0 (Facts.cons_hold b1 (Facts.cons_hold b5 (Facts.cons_hold b3 (Facts.cons_hold b4 (Facts.cons_hold b5 (Facts.nil_hold _))))))
              refine wpD_region hold (by kernel_rfl) 44 rfl ?_
              (refine wpD_plain 0 (v := ?_) rfl (by kernel_rfl) (by kernel_rfl) (by kernel_rfl) (fun _ _ _ h => h) (by rfl) ?_ (by assumption) ?_; rotate_left; (intro _w; go_simp; try with_reducible rfl); simp only [Act.put, List.setIfInBounds_toArray, List.set_cons_zero, List.set_cons_succ])
              (refine wpD_plain 1 (v := ?_) rfl (by kernel_rfl) (by kernel_rfl) (by kernel_rfl) (fun _ _ _ h => h) (by rfl) ?_ (by assumption) ?_; rotate_left; (intro _w; go_simp; try with_reducible rfl); simp only [Act.put, List.setIfInBounds_toArray, List.set_cons_zero, List.set_cons_succ])
              (refine wpD_plain 2 (v := ?_) rfl (by kernel_rfl) (by kernel_rfl) (by kernel_rfl) (fun _ _ _ h => h) (by rfl) ?_ (by assumption) ?_; rotate_left; (intro _w; go_simp; try with_reducible rfl); simp only [Act.put, List.setIfInBounds_toArray, List.set_cons_zero, List.set_cons_succ])
              (refine wpD_take 3 _ rfl (by kernel_rfl) (by kernel_rfl) (by kernel_rfl) (fun _ _ _ h => h) List.mem_cons_self (by rfl) (v := ?_) ?_ (by assumption) ?_; rotate_left; (intro _w _hw; go_simp; try with_reducible rfl); simp only [Act.put, List.setIfInBounds_toArray, List.set_cons_zero, List.set_cons_succ])
              (refine wpD_plain 4 (v := ?_) rfl (by kernel_rfl) (by kernel_rfl) (by kernel_rfl) (fun _ _ _ h => h) (by rfl) ?_ (by assumption) ?_; rotate_left; (intro _w; go_simp; try with_reducible rfl); simp only [Act.put, List.setIfInBounds_toArray, List.set_cons_zero, List.set_cons_succ])
              (refine wpD_plain 5 (v := ?_) rfl (by kernel_rfl) (by kernel_rfl) (by kernel_rfl) (fun _ _ _ h => h) (by rfl) ?_ (by assumption) ?_; rotate_left; (intro _w; go_simp; try with_reducible rfl); simp only [Act.put, List.setIfInBounds_toArray, List.set_cons_zero, List.set_cons_succ])
              (refine wpD_plain 6 (v := ?_) rfl (by kernel_rfl) (by kernel_rfl) (by kernel_rfl) (fun _ _ _ h => h) (by rfl) ?_ (by assumption) ?_; rotate_left; (intro _w; go_simp; try with_reducible rfl); simp only [Act.put, List.setIfInBounds_toArray, List.set_cons_zero, List.set_cons_succ])
              (refine wpD_take 7 _ rfl (by kernel_rfl) (by kernel_rfl) (by kernel_rfl) (fun _ _ _ h => h) (List.mem_cons_of_mem _ List.mem_cons_self) (by rfl) (v := ?_) ?_ (by assumption) ?_; rotate_left; (intro _w _hw; go_simp; try with_reducible rfl); simp only [Act.put, List.setIfInBounds_toArray, List.set_cons_zero, List.set_cons_succ])
              (refine wpD_plain 8 (v := ?_) rfl (by kernel_rfl) (by kernel_rfl) (by kernel_rfl) (fun _ _ _ h => h) (by rfl) ?_ (by assumption) ?_; rotate_left; (intro _w; go_simp; try with_reducible rfl); simp only [Act.put, List.setIfInBounds_toArray, List.set_cons_zero, List.set_cons_succ])
              (refine wpD_plain 9 (v := ?_) rfl (by kernel_rfl) (by kernel_rfl) (by kernel_rfl) (fun _ _ _ h => h) (by rfl) ?_ (by assumption) ?_; rotate_left; (intro _w; go_simp; try with_reducible rfl); simp only [Act.put, List.setIfInBounds_toArray, List.set_cons_zero, List.set_cons_succ])
              (refine wpD_plain 10 (v := ?_) rfl (by kernel_rfl) (by kernel_rfl) (by kernel_rfl) (fun _ _ _ h => h) (by rfl) ?_ (by assumption) ?_; rotate_left; (intro _w; go_simp; try with_reducible rfl); simp only [Act.put, List.setIfInBounds_toArray, List.set_cons_zero, List.set_cons_succ])
              (refine wpD_take 11 _ rfl (by kernel_rfl) (by kernel_rfl) (by kernel_rfl) (fun _ _ _ h => h) (List.mem_cons_of_mem _ (List.mem_cons_of_mem _ List.mem_cons_self)) (by rfl) (v := ?_) ?_ (by assumption) ?_; rotate_left; (intro _w _hw; go_simp; try with_reducible rfl); simp only [Act.put, List.setIfInBounds_toArray, List.set_cons_zero, List.set_cons_succ])
              (refine wpD_plain 12 (v := (.int .i64 (p12 : Int))) rfl (by kernel_rfl) (by kernel_rfl) (by kernel_rfl) (fun _ _ _ h => h) (by rfl) ?_ (by assumption) ?_; (intro _w; go_simp; exact W12.out); simp only [Act.put, List.setIfInBounds_toArray, List.set_cons_zero, List.set_cons_succ])
              (refine wpD_plain 13 (v := ?_) rfl (by kernel_rfl) (by kernel_rfl) (by kernel_rfl) (fun _ _ _ h => h) (by rfl) ?_ (by assumption) ?_; rotate_left; (intro _w; go_simp; try with_reducible rfl); simp only [Act.put, List.setIfInBounds_toArray, List.set_cons_zero, List.set_cons_succ])
              (refine wpD_plain 14 (v := (.int .i64 (q14 : Int))) rfl (by kernel_rfl) (by kernel_rfl) (by kernel_rfl) (fun _ _ _ h => h) (by rfl) ?_ (by assumption) ?_; (intro _w; go_simp; exact W14.out); simp only [Act.put, List.setIfInBounds_toArray, List.set_cons_zero, List.set_cons_succ])
              (refine wpD_plain 15 (v := ?_) rfl (by kernel_rfl) (by kernel_rfl) (by kernel_rfl) (fun _ _ _ h => h) (by rfl) ?_ (by assumption) ?_; rotate_left; (intro _w; go_simp; try with_reducible rfl); simp only [Act.put, List.setIfInBounds_toArray, List.set_cons_zero, List.set_cons_succ])
              (refine wpD_plain 16 (v := ?_) rfl (by kernel_rfl) (by kernel_rfl) (by kernel_rfl) (fun _ _ _ h => h) (by rfl) ?_ (by assumption) ?_; rotate_left; (intro _w; go_simp; try with_reducible rfl); simp only [Act.put, List.setIfInBounds_toArray, List.set_cons_zero, List.set_cons_succ])
              (refine wpD_plain 17 (v := ?_) rfl (by kernel_rfl) (by kernel_rfl) (by kernel_rfl) (fun _ _ _ h => h) (by rfl) ?_ (by assumption) ?_; rotate_left; (intro _w; go_simp; try with_reducible rfl); simp only [Act.put, List.setIfInBounds_toArray, List.set_cons_zero, List.set_cons_succ])
              (refine wpD_take 18 _ rfl (by kernel_rfl) (by kernel_rfl) (by kernel_rfl) (fun _ _ _ h => h) (List.mem_cons_of_mem _ (List.mem_cons_of_mem _ (List.mem_cons_of_mem _ List.mem_cons_self))) (by rfl) (v := ?_) ?_ (by assumption) ?_; rotate_left; (intro _w _hw; go_simp; try with_reducible rfl); simp only [Act.put, List.setIfInBounds_toArray, List.set_cons_zero, List.set_cons_succ])
              (refine wpD_plain 19 (v := ?_) rfl (by kernel_rfl) (by kernel_rfl) (by kernel_rfl) (fun _ _ _ h => h) (by rfl) ?_ (by assumption) ?_; rotate_left; (intro _w; go_simp; try with_reducible rfl); simp only [Act.put, List.setIfInBounds_toArray, List.set_cons_zero, List.set_cons_succ])
              (refine wpD_plain 20 (v := ?_) rfl (by kernel_rfl) (by kernel_rfl) (by kernel_rfl) (fun _ _ _ h => h) (by rfl) ?_ (by assumption) ?_; rotate_left; (intro _w; go_simp; try with_reducible rfl); simp only [Act.put, List.setIfInBounds_toArray, List.set_cons_zero, List.set_cons_succ])
              (refine wpD_plain 21 (v := ?_) rfl (by kernel_rfl) (by kernel_rfl) (by kernel_rfl) (fun _ _ _ h => h) (by rfl) ?_ (by assumption) ?_; rotate_left; (intro _w; go_simp; try with_reducible rfl); simp only [Act.put, List.setIfInBounds_toArray, List.set_cons_zero, List.set_cons_succ])
              (refine wpD_take 22 _ rfl (by kernel_rfl) (by kernel_rfl) (by kernel_rfl) (fun _ _ _ h => h) (List.mem_cons_of_mem _ (List.mem_cons_of_mem _ (List.mem_cons_of_mem _ (List.mem_cons_of_mem _ List.mem_cons_self)))) (by rfl) (v := ?_) ?_ (by assumption) ?_; rotate_left; (intro _w _hw; go_simp; try with_reducible rfl); simp only [Act.put, List.setIfInBounds_toArray, List.set_cons_zero, List.set_cons_succ])
              (refine wpD_plain 23 (v := ?_) rfl (by kernel_rfl) (by kernel_rfl) (by kernel_rfl) (fun _ _ _ h => h) (by rfl) ?_ (by assumption) ?_; rotate_left; (intro _w; go_simp; try with_reducible rfl); simp only [Act.put, List.setIfInBounds_toArray, List.set_cons_zero, List.set_cons_succ])
              (refine wpD_plain 24 (v := ?_) rfl (by kernel_rfl) (by kernel_rfl) (by kernel_rfl) (fun _ _ _ h => h) (by rfl) ?_ (by assumption) ?_; rotate_left; (intro _w; go_simp; try with_reducible rfl); simp only [Act.put, List.setIfInBounds_toArray, List.set_cons_zero, List.set_cons_succ])
              (refine wpD_plain 25 (v := ?_) rfl (by kernel_rfl) (by kernel_rfl) (by kernel_rfl) (fun _ _ _ h => h) (by rfl) ?_ (by assumption) ?_; rotate_left; (intro _w; go_simp; try with_reducible rfl); simp only [Act.put, List.setIfInBounds_toArray, List.set_cons_zero, List.set_cons_succ])
              (refine wpD_take 26 _ rfl (by kernel_rfl) (by kernel_rfl) (by kernel_rfl) (fun _ _ _ h => h) (List.mem_cons_of_mem _ (List.mem_cons_of_mem _ (List.mem_cons_of_mem _ (List.mem_cons_of_mem _ (List.mem_cons_of_mem _ List.mem_cons_self))))) (by rfl) (v := ?_) ?_ (by assumption) ?_; rotate_left; (intro _w _hw; go_simp; try with_reducible rfl); simp only [Act.put, List.setIfInBounds_toArray, List.set_cons_zero, List.set_cons_succ])
              (refine wpD_plain 27 (v := ?_) rfl (by kernel_rfl) (by kernel_rfl) (by kernel_rfl) (fun _ _ _ h => h) (by rfl) ?_ (by assumption) ?_; rotate_left; (intro _w; go_simp; try with_reducible rfl); simp only [Act.put, List.setIfInBounds_toArray, List.set_cons_zero, List.set_cons_succ])
              (refine wpD_plain 28 (v := (.int .i64 (s28 : Int))) rfl (by kernel_rfl) (by kernel_rfl) (by kernel_rfl) (fun _ _ _ h => h) (by rfl) ?_ (by assumption) ?_; (intro _w; go_simp; exact W28.out); simp only [Act.put, List.setIfInBounds_toArray, List.set_cons_zero, List.set_cons_succ])
              (refine wpD_plain 29 (v := ?_) rfl (by kernel_rfl) (by kernel_rfl) (by kernel_rfl) (fun _ _ _ h => h) (by rfl) ?_ (by assumption) ?_; rotate_left; (intro _w; go_simp; try with_reducible rfl); simp only [Act.put, List.setIfInBounds_toArray, List.set_cons_zero, List.set_cons_succ])
              (refine wpD_plain 30 (v := ?_) rfl (by kernel_rfl) (by kernel_rfl) (by kernel_rfl) (fun _ _ _ h => h) (by rfl) ?_ (by assumption) ?_; rotate_left; (intro _w; go_simp; try with_reducible rfl); simp only [Act.put, List.setIfInBounds_toArray, List.set_cons_zero, List.set_cons_succ])
              (refine wpD_plain 31 (v := ?_) rfl (by kernel_rfl) (by kernel_rfl) (by kernel_rfl) (fun _ _ _ h => h) (by rfl) ?_ (by assumption) ?_; rotate_left; (intro _w; go_simp; try with_reducible rfl); simp only [Act.put, List.setIfInBounds_toArray, List.set_cons_zero, List.set_cons_succ])
              (refine wpD_plain 32 (v := (.int .i64 (a48 : Int))) rfl (by kernel_rfl) (by kernel_rfl) (by kernel_rfl) (fun _ _ _ h => h) (by rfl) ?_ (by assumption) ?_; (intro _w; go_simp; exact W32.out); simp only [Act.put, List.setIfInBounds_toArray, List.set_cons_zero, List.set_cons_succ])
              (refine wpD_plain 33 (v := ?_) rfl (by kernel_rfl) (by kernel_rfl) (by kernel_rfl) (fun _ _ _ h => h) (by rfl) ?_ (by assumption) ?_; rotate_left; (intro _w; go_simp; try with_reducible rfl); simp only [Act.put, List.setIfInBounds_toArray, List.set_cons_zero, List.set_cons_succ])
              (refine wpD_plain 34 (v := ?_) rfl (by kernel_rfl) (by kernel_rfl) (by kernel_rfl) (fun _ _ _ h => h) (by rfl) ?_ (by assumption) ?_; rotate_left; (intro _w; go_simp; try with_reducible rfl); simp only [Act.put, List.setIfInBounds_toArray, List.set_cons_zero, List.set_cons_succ])
              (refine wpD_plain 35 (v := ?_) rfl (by kernel_rfl) (by kernel_rfl) (by kernel_rfl) (fun _ _ _ h => h) (by rfl) ?_ (by assumption) ?_; rotate_left; (intro _w; go_simp; try with_reducible rfl); simp only [Act.put, List.setIfInBounds_toArray, List.set_cons_zero, List.set_cons_succ])
              (refine wpD_plain 36 (v := (.int .i64 (a48 : Int))) rfl (by kernel_rfl) (by kernel_rfl) (by kernel_rfl) (fun _ _ _ h => h) (by rfl) ?_ (by assumption) ?_; (intro _w; go_simp; exact W32.out); simp only [Act.put, List.setIfInBounds_toArray, List.set_cons_zero, List.set_cons_succ])
              (refine wpD_plain 37 (v := (.int .i64 (b48 : Int))) rfl (by kernel_rfl) (by kernel_rfl) (by kernel_rfl) (fun _ _ _ h => h) (by rfl) ?_ (by assumption) ?_; (intro _w; go_simp; exact W37.out); simp only [Act.put, List.setIfInBounds_toArray, List.set_cons_zero, List.set_cons_succ])
              (refine wpD_plain 38 (v := (.int .i64 (mn : Int))) rfl (by kernel_rfl) (by kernel_rfl) (by kernel_rfl) (fun _ _ _ h => h) (by rfl) ?_ (by assumption) ?_; (intro _w; go_simp; (have := HMN.out; have := HB48.out; split <;> omega)); simp only [Act.put, List.setIfInBounds_toArray, List.set_cons_zero, List.set_cons_succ])
              (refine wpD_plain 39 (v := (.string sl)) rfl (by kernel_rfl) (by kernel_rfl) (by kernel_rfl) (fun _ _ _ h => h) (by rfl) ?_ (by assumption) ?_; (intro _w; go_simp; (rw [HSLI.out _w]; rfl)); simp only [Act.put, List.setIfInBounds_toArray, List.set_cons_zero, List.set_cons_succ])
              refine wpD_only 40 [(3, fun w' => w'.cell? ⟨bg, 0, none⟩ = some (.pointer (some ⟨bd, 0, none⟩))), (7, fun w' => w'.cell? ⟨bg, 1, none⟩ = some (.int .i64 (g.first : Int))), (11, fun w' => w'.cell? ⟨bg, 5, none⟩ = some (.int .i64 (g.next : Int))), (18, fun w' => w'.cell? ⟨bg, 3, none⟩ = some (.int .u32 (g.epoch : Int))), (22, fun w' => w'.cell? ⟨bg, 4, none⟩ = some (.int .u32 (g.life : Int))), (26, fun w' => w'.cell? ⟨bg, 5, none⟩ = some (.int .i64 (g.next : Int)))] rfl (by kernel_rfl) (by kernel_rfl) (by rfl) (fun K40 hK40 => ?_)
              refine wp_bytesOf _ _ 5 _ rfl sl rfl Try.underlying9 Try.underlying66 Try.underlying5 ?_
              intro c40 w40 HB40 HF40
              have HBK40 : Hid (Blk w40 bg 93 (lgCells bd g)) := hid (HAi.out.2.1.fr (Fr.trans' (b := wr.drew) (Fr.refl No wr).drew HF40.out) id)
              refine hK40 _ _ (Facts.cons_hold (HBK40.out.cell 0) (Facts.cons_hold (HBK40.out.cell 1) (Facts.cons_hold (HBK40.out.cell 5) (Facts.cons_hold (HBK40.out.cell 3) (Facts.cons_hold (HBK40.out.cell 4) (Facts.cons_hold (HBK40.out.cell 5) (Facts.nil_hold _))))))) ?_
              clear hK40 K40 hold
              simp only [Act.put, List.setIfInBounds_toArray, List.set_cons_zero, List.set_cons_succ]
              have HSB : Hid (sl.data.toList = (x.data.toList.drop (48 * i)).take 48) := hid (by rw [HSL.out]; exact ext_piece x (48 * i))
              have HBL : Hid (sl.data.toList.length ≤ 48) := hid (by rw [HSB.out, List.length_take]; omega)
              have HRec : Hid (recSec g x.data.toList n i = made g.epoch g.life s28 (((1 : Int) % 256).toNat) sl.data.toList.length (pad48 sl.data.toList)) := hid (by
                have e1 : (if i = 0 then 1 else 0) + (if i + 1 = n then 2 else 0) = 1 := by rw [if_pos HI0.out, if_neg HIL.out]
                rw [HSB.out, HS28.out]
                unfold recSec
                rw [e1]; rfl)
              refine wpD_only 41 [(3, fun w' => w'.cell? ⟨bg, 0, none⟩ = some (.pointer (some ⟨bd, 0, none⟩))), (7, fun w' => w'.cell? ⟨bg, 1, none⟩ = some (.int .i64 (g.first : Int))), (11, fun w' => w'.cell? ⟨bg, 5, none⟩ = some (.int .i64 (g.next : Int))), (26, fun w' => w'.cell? ⟨bg, 5, none⟩ = some (.int .i64 (g.next : Int)))] rfl (by kernel_rfl) (by kernel_rfl) (by rfl) (fun K41 hK41 => ?_)
              refine wp_call (.func 38) _ _ rfl 38 [] rfl hentRMade [.int .u32 g.epoch, .int .u32 g.life, .int .i64 s28, .int .i64 1, .slice (some ⟨wr.drew.heap.size, 0, none⟩) sl.size c40] (by rfl) ?_
              refine (rmade_any g.epoch g.life s28 1 _ _ _ w40 HAi.out.2.2.2.ep HAi.out.2.2.2.li (by have := HS28.out; omega) HB40.out HBL.out).mono ?_
              rintro e' w41 ⟨a41, c41, rfl, o41, f41⟩
              refine ⟨_, rfl, ?_⟩
              refine hK41 _ _ (Facts.cons_hold ((HBK40.out.fr f41 id).cell 0) (Facts.cons_hold ((HBK40.out.fr f41 id).cell 1) (Facts.cons_hold ((HBK40.out.fr f41 id).cell 5) (Facts.cons_hold ((HBK40.out.fr f41 id).cell 5) (Facts.nil_hold _))))) ?_
              clear hK41 K41
              simp only [Act.put, List.setIfInBounds_toArray, List.set_cons_zero, List.set_cons_succ]
              rw [← HRec.out] at o41
              have HO41 := hid (own_bytes o41)
              have HF41 : Hid (Fr No wr w41) := hid ((Fr.trans' (b := wr.drew) (Fr.refl No wr).drew HF40.out).trans' f41)
              have HA41 := hid (HAi.out.no HF41.out)
              have HPut := hid (puts_step g x.data.toList n (n - (i + 1)) i ui)
              rw [show n - (i + 1) + 1 = n - i by omega] at HPut
              refine wpD_only 42 [(7, fun w' => w'.cell? ⟨bg, 1, none⟩ = some (.int .i64 (g.first : Int))), (11, fun w' => w'.cell? ⟨bg, 5, none⟩ = some (.int .i64 (g.next : Int))), (26, fun w' => w'.cell? ⟨bg, 5, none⟩ = some (.int .i64 (g.next : Int)))] rfl (by kernel_rfl) (by kernel_rfl) (by rfl) (fun K42 hK42 => ?_)
              refine wp_call (.func 37) _ _ rfl 37 [] rfl hentRWrite [.pointer (some ⟨bd, 0, none⟩), .int .i64 q14, .slice a41 64 c41] (by rfl) ?_
              refine (rwrite_any (q14 : Int) _ _ _ HO41.out (fun j hj e => by have h1 := HAi.out.1.lt j e; have h2 := (Fr.trans' (b := wr.drew) (Fr.refl No wr).drew HF40.out).size; omega) HA41.out.1 (by have := HPl.out; have := HP.out; omega)).mono ?_
              rintro e' w7 ⟨rfl, Z7, hA, hF, hG⟩
              refine ⟨_, rfl, ?_⟩
              have HBK7 : Hid (Blk w7 bg 93 (lgCells bd g)) := hid (HA41.out.2.1.fr hF HA41.out.2.2.1)
              have hold : Facts.hold [(7, fun w' => w'.cell? ⟨bg, 1, none⟩ = some (.int .i64 (g.first : Int))), (11, fun w' => w'.cell? ⟨bg, 5, none⟩ = some (.int .i64 (g.next : Int))), (26, fun w' => w'.cell? ⟨bg, 5, none⟩ = some (.int .i64 (g.next : Int)))] w7 := (Facts.cons_hold (HBK7.out.cell 1) (Facts.cons_hold (HBK7.out.cell 5) (Facts.cons_hold (HBK7.out.cell 5) (Facts.nil_hold _))))
              refine hK42 _ _ hold ?_
              clear hK42 K42 o41 f41
              simp only [Act.put, List.setIfInBounds_toArray, List.set_cons_zero, List.set_cons_succ]
              rw [HQ.out] at hA ⊢
              have HWP := hid (write_P ui ((g.first + (g.next + i) : Nat) : Int) (recSec g x.data.toList n i))
              have HWL := hid (write_L ui ((g.first + (g.next + i) : Nat) : Int) (recSec g x.data.toList n i))
              have hput := HPut.out
              clear HPut
              generalize ui.write ((g.first + (g.next + i) : Nat) : Int) (recSec g x.data.toList n i) = a at hA hput HWP HWL ⊢
              obtain ⟨a1, a2⟩ := a
              simp only at hA hput ⊢
              have HPut := hid hput
              clear hput
              have HA7 : Hid (AtR w7 bg bd Z7 g a2) := hid ⟨hA, HA41.out.2.1.fr hF HA41.out.2.2.1, fun e => (hG _ e).elim HA41.out.2.2.1 (fun e2 => by have := HA41.out.2.1.lt; omega), by rw [show a2.L.length = ui.L.length from congrArg List.length HWL.out]; exact HA41.out.2.2.2⟩
              have HG7 : Hid (Grows w Z Z7) := hid (HGi.out.trans (fun j hj => (hG j hj).imp id (fun hge => Nat.le_trans HF41.out.size hge)) HFi.out.size)
              have HF7 : Hid (Fr (fun k => Z k ∨ k = bg) w w7) := hid ((HFi.out.trans' HF41.out.no).trans hF (fun j hj => (HGi.out j hj).imp .inl id))
              have HLe7 : Hid (a2.L = u.L) := hid (HWL.out.trans HLe.out)
              clear hA hF hG
              (refine wpD_plain 43 (v := ?_) rfl (by kernel_rfl) (by kernel_rfl) (by kernel_rfl) (fun _ _ _ h => h) (by rfl) ?_ (by assumption) ?_; rotate_left; (intro _w; go_simp; try with_reducible rfl); simp only [Act.put, List.setIfInBounds_toArray, List.set_cons_zero, List.set_cons_succ])
              refine wpD_done (by kernel_rfl) ?_ _
              try simp only [Act.put, List.setIfInBounds_toArray, List.set_cons_zero, List.set_cons_succ]
              by_cases ha : a1 = 0
              · subst ha
                have HPu' : Hid (a2.puts g x.data.toList n (n - (i + 1)) (i + 1) = u.puts g x.data.toList n n 0) := hid (by
                  have h1 := HPut.out
                  rw [if_neg (by simp)] at h1
                  exact h1.symm.trans HPu.out)
                have HPl7 : Hid (a2.P.length ≤ u.P.length + (i + 1)) := hid (by have h1 : a2.P.length ≤ ui.P.length + 1 := HWP.out; have := HPl.out; omega)
                clear HPut HWP HWL HRec HBL HSB HO41 HA41 HF41 hold W12 W14 W28 W32 W37 HSLI
                go_wp2_with fail
                exact ⟨⟨i + 1, a2, Z7, by go_num, by omega, HPu', HPl7, HLe7, HA7, HF7, HG7⟩, by simp [intOf]; omega⟩
              · have HPu' : Hid (u.puts g x.data.toList n n 0 = (a1, a2)) := hid (by
                  have h1 := HPut.out
                  rw [if_pos ha] at h1
                  exact HPu.out.symm.trans h1)
                have a0 : (a1 != 0) = true := by simp [ha]
                have HR4 : Hid (r = (a1, a2, g)) := hid (by
                  have h1 := HR3.out
                  simp only [HPu'.out] at h1
                  rw [if_pos ha] at h1
                  exact h1)
                clear ha HPut HWP HWL HRec HBL HSB HO41 HA41 HF41 hold W12 W14 W28 W32 W37 HSLI
                go_wp2_with fail
                go_ret
                rw [HR4.out]
                exact ⟨rfl, Z7, HA7.out, HF7.out, HG7.out⟩
          · have hi0i : ((i : Int) == 0) = false := by simp; omega
            have HI0 := hid hi0
            by_cases hil : i + 1 = n
            · have hili : ((i : Int) == (n : Int) - 1) = true := by simp; omega
              have HIL := hid hil
              clear hi0 hil
              have hgf : (g.first : Int) + g.count ≤ 4096 := by have := HAi.out.2.2.2.fit; have := HAi.out.lens; omega
              have hnc : (g.next : Int) + n ≤ g.count := by have := H2n.out; omega
              obtain ⟨p12, hp12⟩ : ∃ p : Nat, p = g.first + g.next := ⟨_, rfl⟩
              obtain ⟨q14, hq14⟩ : ∃ p : Nat, p = g.first + (g.next + i) := ⟨_, rfl⟩
              obtain ⟨s28, hs28⟩ : ∃ p : Nat, p = g.next + i := ⟨_, rfl⟩
              obtain ⟨a48, ha48⟩ : ∃ p : Nat, p = 48 * i := ⟨_, rfl⟩
              obtain ⟨b48, hb48⟩ : ∃ p : Nat, p = 48 * i + 48 := ⟨_, rfl⟩
              obtain ⟨mn, hmn⟩ : ∃ p : Nat, p = min x.size (48 * i + 48) := ⟨_, rfl⟩
              obtain ⟨sl, hsl⟩ : ∃ s : ByteArray, s = x.extract (48 * i) (min x.size (48 * i + 48)) := ⟨_, rfl⟩
              have W12 : Hid (IntKind.i64.wrap ((g.first : Int) + (g.next : Int)) = (p12 : Int)) := hid ((wrap_small (by omega) (by omega)).trans (by omega))
              have W14 : Hid (IntKind.i64.wrap ((p12 : Int) + (i : Int)) = (q14 : Int)) := hid ((wrap_small (by omega) (by omega)).trans (by omega))
              have W28 : Hid (IntKind.i64.wrap ((g.next : Int) + (i : Int)) = (s28 : Int)) := hid ((wrap_small (by omega) (by omega)).trans (by omega))
              have W32 : Hid (IntKind.i64.wrap (48 * (i : Int)) = (a48 : Int)) := hid ((wrap_small (by omega) (by omega)).trans (by omega))
              have W37 : Hid (IntKind.i64.wrap ((a48 : Int) + 48) = (b48 : Int)) := hid ((wrap_small (by omega) (by omega)).trans (by omega))
              have HQ := hid hq14; have HS28 := hid hs28; have HA48 := hid ha48; have HB48 := hid hb48; have HMN := hid hmn; have HSL := hid hsl
              have HSLI : Hid (∀ w : World, (Instr.slice 9 (.string x) (some (.int .i64 (a48 : Int))) (some (.int .i64 (mn : Int))) none).run Try.prog w = .ok (.string sl) w) := hid (fun w => by rw [show sl = x.extract a48 mn by rw [hsl, ha48, hmn]]; exact slice_str x a48 mn (by have := HFitN.out i hlt; omega) (by omega) w)
              clear hmn hsl hp12 hq14 hs28 ha48 hb48
              have h39a : (a48 : Int) ≤ mn := by have := HA48.out; have := HMN.out; have := HFitN.out i hlt; omega
              go_wp2_with fail
              have hold : Facts.hold [(3, fun w' => w'.cell? ⟨bg, 0, none⟩ = some (.pointer (some ⟨bd, 0, none⟩))), (7, fun w' => w'.cell? ⟨bg, 1, none⟩ = some (.int .i64 (g.first : Int))), (11, fun w' => w'.cell? ⟨bg, 5, none⟩ = some (.int .i64 (g.next : Int))), (18, fun w' => w'.cell? ⟨bg, 3, none⟩ = some (.int .u32 (g.epoch : Int))), (22, fun w' => w'.cell? ⟨bg, 4, none⟩ = some (.int .u32 (g.life : Int))), (26, fun w' => w'.cell? ⟨bg, 5, none⟩ = some (.int .i64 (g.next : Int)))] wr.drew := Facts.cons_hold b0 (Facts.cons_hold b1 (Facts.cons_hold b5 (Facts.cons_hold b3 (Facts.cons_hold b4 (Facts.cons_hold b5 (Facts.nil_hold _))))))
              refine wpD_region hold (by kernel_rfl) 44 rfl ?_
              (refine wpD_plain 0 (v := ?_) rfl (by kernel_rfl) (by kernel_rfl) (by kernel_rfl) (fun _ _ _ h => h) (by rfl) ?_ (by assumption) ?_; rotate_left; (intro _w; go_simp; try with_reducible rfl); simp only [Act.put, List.setIfInBounds_toArray, List.set_cons_zero, List.set_cons_succ])
              (refine wpD_plain 1 (v := ?_) rfl (by kernel_rfl) (by kernel_rfl) (by kernel_rfl) (fun _ _ _ h => h) (by rfl) ?_ (by assumption) ?_; rotate_left; (intro _w; go_simp; try with_reducible rfl); simp only [Act.put, List.setIfInBounds_toArray, List.set_cons_zero, List.set_cons_succ])
              (refine wpD_plain 2 (v := ?_) rfl (by kernel_rfl) (by kernel_rfl) (by kernel_rfl) (fun _ _ _ h => h) (by rfl) ?_ (by assumption) ?_; rotate_left; (intro _w; go_simp; try with_reducible rfl); simp only [Act.put, List.setIfInBounds_toArray, List.set_cons_zero, List.set_cons_succ])
              (refine wpD_take 3 _ rfl (by kernel_rfl) (by kernel_rfl) (by kernel_rfl) (fun _ _ _ h => h) List.mem_cons_self (by rfl) (v := ?_) ?_ (by assumption) ?_; rotate_left; (intro _w _hw; go_simp; try with_reducible rfl); simp only [Act.put, List.setIfInBounds_toArray, List.set_cons_zero, List.set_cons_succ])
              (refine wpD_plain 4 (v := ?_) rfl (by kernel_rfl) (by kernel_rfl) (by kernel_rfl) (fun _ _ _ h => h) (by rfl) ?_ (by assumption) ?_; rotate_left; (intro _w; go_simp; try with_reducible rfl); simp only [Act.put, List.setIfInBounds_toArray, List.set_cons_zero, List.set_cons_succ])
              (refine wpD_plain 5 (v := ?_) rfl (by kernel_rfl) (by kernel_rfl) (by kernel_rfl) (fun _ _ _ h => h) (by rfl) ?_ (by assumption) ?_; rotate_left; (intro _w; go_simp; try with_reducible rfl); simp only [Act.put, List.setIfInBounds_toArray, List.set_cons_zero, List.set_cons_succ])
              (refine wpD_plain 6 (v := ?_) rfl (by kernel_rfl) (by kernel_rfl) (by kernel_rfl) (fun _ _ _ h => h) (by rfl) ?_ (by assumption) ?_; rotate_left; (intro _w; go_simp; try with_reducible rfl); simp only [Act.put, List.setIfInBounds_toArray, List.set_cons_zero, List.set_cons_succ])
              (refine wpD_take 7 _ rfl (by kernel_rfl) (by kernel_rfl) (by kernel_rfl) (fun _ _ _ h => h) (List.mem_cons_of_mem _ List.mem_cons_self) (by rfl) (v := ?_) ?_ (by assumption) ?_; rotate_left; (intro _w _hw; go_simp; try with_reducible rfl); simp only [Act.put, List.setIfInBounds_toArray, List.set_cons_zero, List.set_cons_succ])
              (refine wpD_plain 8 (v := ?_) rfl (by kernel_rfl) (by kernel_rfl) (by kernel_rfl) (fun _ _ _ h => h) (by rfl) ?_ (by assumption) ?_; rotate_left; (intro _w; go_simp; try with_reducible rfl); simp only [Act.put, List.setIfInBounds_toArray, List.set_cons_zero, List.set_cons_succ])
              (refine wpD_plain 9 (v := ?_) rfl (by kernel_rfl) (by kernel_rfl) (by kernel_rfl) (fun _ _ _ h => h) (by rfl) ?_ (by assumption) ?_; rotate_left; (intro _w; go_simp; try with_reducible rfl); simp only [Act.put, List.setIfInBounds_toArray, List.set_cons_zero, List.set_cons_succ])
              (refine wpD_plain 10 (v := ?_) rfl (by kernel_rfl) (by kernel_rfl) (by kernel_rfl) (fun _ _ _ h => h) (by rfl) ?_ (by assumption) ?_; rotate_left; (intro _w; go_simp; try with_reducible rfl); simp only [Act.put, List.setIfInBounds_toArray, List.set_cons_zero, List.set_cons_succ])
              (refine wpD_take 11 _ rfl (by kernel_rfl) (by kernel_rfl) (by kernel_rfl) (fun _ _ _ h => h) (List.mem_cons_of_mem _ (List.mem_cons_of_mem _ List.mem_cons_self)) (by rfl) (v := ?_) ?_ (by assumption) ?_; rotate_left; (intro _w _hw; go_simp; try with_reducible rfl); simp only [Act.put, List.setIfInBounds_toArray, List.set_cons_zero, List.set_cons_succ])
              (refine wpD_plain 12 (v := (.int .i64 (p12 : Int))) rfl (by kernel_rfl) (by kernel_rfl) (by kernel_rfl) (fun _ _ _ h => h) (by rfl) ?_ (by assumption) ?_; (intro _w; go_simp; exact W12.out); simp only [Act.put, List.setIfInBounds_toArray, List.set_cons_zero, List.set_cons_succ])
              (refine wpD_plain 13 (v := ?_) rfl (by kernel_rfl) (by kernel_rfl) (by kernel_rfl) (fun _ _ _ h => h) (by rfl) ?_ (by assumption) ?_; rotate_left; (intro _w; go_simp; try with_reducible rfl); simp only [Act.put, List.setIfInBounds_toArray, List.set_cons_zero, List.set_cons_succ])
              (refine wpD_plain 14 (v := (.int .i64 (q14 : Int))) rfl (by kernel_rfl) (by kernel_rfl) (by kernel_rfl) (fun _ _ _ h => h) (by rfl) ?_ (by assumption) ?_; (intro _w; go_simp; exact W14.out); simp only [Act.put, List.setIfInBounds_toArray, List.set_cons_zero, List.set_cons_succ])
              (refine wpD_plain 15 (v := ?_) rfl (by kernel_rfl) (by kernel_rfl) (by kernel_rfl) (fun _ _ _ h => h) (by rfl) ?_ (by assumption) ?_; rotate_left; (intro _w; go_simp; try with_reducible rfl); simp only [Act.put, List.setIfInBounds_toArray, List.set_cons_zero, List.set_cons_succ])
              (refine wpD_plain 16 (v := ?_) rfl (by kernel_rfl) (by kernel_rfl) (by kernel_rfl) (fun _ _ _ h => h) (by rfl) ?_ (by assumption) ?_; rotate_left; (intro _w; go_simp; try with_reducible rfl); simp only [Act.put, List.setIfInBounds_toArray, List.set_cons_zero, List.set_cons_succ])
              (refine wpD_plain 17 (v := ?_) rfl (by kernel_rfl) (by kernel_rfl) (by kernel_rfl) (fun _ _ _ h => h) (by rfl) ?_ (by assumption) ?_; rotate_left; (intro _w; go_simp; try with_reducible rfl); simp only [Act.put, List.setIfInBounds_toArray, List.set_cons_zero, List.set_cons_succ])
              (refine wpD_take 18 _ rfl (by kernel_rfl) (by kernel_rfl) (by kernel_rfl) (fun _ _ _ h => h) (List.mem_cons_of_mem _ (List.mem_cons_of_mem _ (List.mem_cons_of_mem _ List.mem_cons_self))) (by rfl) (v := ?_) ?_ (by assumption) ?_; rotate_left; (intro _w _hw; go_simp; try with_reducible rfl); simp only [Act.put, List.setIfInBounds_toArray, List.set_cons_zero, List.set_cons_succ])
              (refine wpD_plain 19 (v := ?_) rfl (by kernel_rfl) (by kernel_rfl) (by kernel_rfl) (fun _ _ _ h => h) (by rfl) ?_ (by assumption) ?_; rotate_left; (intro _w; go_simp; try with_reducible rfl); simp only [Act.put, List.setIfInBounds_toArray, List.set_cons_zero, List.set_cons_succ])
              (refine wpD_plain 20 (v := ?_) rfl (by kernel_rfl) (by kernel_rfl) (by kernel_rfl) (fun _ _ _ h => h) (by rfl) ?_ (by assumption) ?_; rotate_left; (intro _w; go_simp; try with_reducible rfl); simp only [Act.put, List.setIfInBounds_toArray, List.set_cons_zero, List.set_cons_succ])
              (refine wpD_plain 21 (v := ?_) rfl (by kernel_rfl) (by kernel_rfl) (by kernel_rfl) (fun _ _ _ h => h) (by rfl) ?_ (by assumption) ?_; rotate_left; (intro _w; go_simp; try with_reducible rfl); simp only [Act.put, List.setIfInBounds_toArray, List.set_cons_zero, List.set_cons_succ])
              (refine wpD_take 22 _ rfl (by kernel_rfl) (by kernel_rfl) (by kernel_rfl) (fun _ _ _ h => h) (List.mem_cons_of_mem _ (List.mem_cons_of_mem _ (List.mem_cons_of_mem _ (List.mem_cons_of_mem _ List.mem_cons_self)))) (by rfl) (v := ?_) ?_ (by assumption) ?_; rotate_left; (intro _w _hw; go_simp; try with_reducible rfl); simp only [Act.put, List.setIfInBounds_toArray, List.set_cons_zero, List.set_cons_succ])
              (refine wpD_plain 23 (v := ?_) rfl (by kernel_rfl) (by kernel_rfl) (by kernel_rfl) (fun _ _ _ h => h) (by rfl) ?_ (by assumption) ?_; rotate_left; (intro _w; go_simp; try with_reducible rfl); simp only [Act.put, List.setIfInBounds_toArray, List.set_cons_zero, List.set_cons_succ])
              (refine wpD_plain 24 (v := ?_) rfl (by kernel_rfl) (by kernel_rfl) (by kernel_rfl) (fun _ _ _ h => h) (by rfl) ?_ (by assumption) ?_; rotate_left; (intro _w; go_simp; try with_reducible rfl); simp only [Act.put, List.setIfInBounds_toArray, List.set_cons_zero, List.set_cons_succ])
              (refine wpD_plain 25 (v := ?_) rfl (by kernel_rfl) (by kernel_rfl) (by kernel_rfl) (fun _ _ _ h => h) (by rfl) ?_ (by assumption) ?_; rotate_left; (intro _w; go_simp; try with_reducible rfl); simp only [Act.put, List.setIfInBounds_toArray, List.set_cons_zero, List.set_cons_succ])
              (refine wpD_take 26 _ rfl (by kernel_rfl) (by kernel_rfl) (by kernel_rfl) (fun _ _ _ h => h) (List.mem_cons_of_mem _ (List.mem_cons_of_mem _ (List.mem_cons_of_mem _ (List.mem_cons_of_mem _ (List.mem_cons_of_mem _ List.mem_cons_self))))) (by rfl) (v := ?_) ?_ (by assumption) ?_; rotate_left; (intro _w _hw; go_simp; try with_reducible rfl); simp only [Act.put, List.setIfInBounds_toArray, List.set_cons_zero, List.set_cons_succ])
              (refine wpD_plain 27 (v := ?_) rfl (by kernel_rfl) (by kernel_rfl) (by kernel_rfl) (fun _ _ _ h => h) (by rfl) ?_ (by assumption) ?_; rotate_left; (intro _w; go_simp; try with_reducible rfl); simp only [Act.put, List.setIfInBounds_toArray, List.set_cons_zero, List.set_cons_succ])
              (refine wpD_plain 28 (v := (.int .i64 (s28 : Int))) rfl (by kernel_rfl) (by kernel_rfl) (by kernel_rfl) (fun _ _ _ h => h) (by rfl) ?_ (by assumption) ?_; (intro _w; go_simp; exact W28.out); simp only [Act.put, List.setIfInBounds_toArray, List.set_cons_zero, List.set_cons_succ])
              (refine wpD_plain 29 (v := ?_) rfl (by kernel_rfl) (by kernel_rfl) (by kernel_rfl) (fun _ _ _ h => h) (by rfl) ?_ (by assumption) ?_; rotate_left; (intro _w; go_simp; try with_reducible rfl); simp only [Act.put, List.setIfInBounds_toArray, List.set_cons_zero, List.set_cons_succ])
              (refine wpD_plain 30 (v := ?_) rfl (by kernel_rfl) (by kernel_rfl) (by kernel_rfl) (fun _ _ _ h => h) (by rfl) ?_ (by assumption) ?_; rotate_left; (intro _w; go_simp; try with_reducible rfl); simp only [Act.put, List.setIfInBounds_toArray, List.set_cons_zero, List.set_cons_succ])
              (refine wpD_plain 31 (v := ?_) rfl (by kernel_rfl) (by kernel_rfl) (by kernel_rfl) (fun _ _ _ h => h) (by rfl) ?_ (by assumption) ?_; rotate_left; (intro _w; go_simp; try with_reducible rfl); simp only [Act.put, List.setIfInBounds_toArray, List.set_cons_zero, List.set_cons_succ])
              (refine wpD_plain 32 (v := (.int .i64 (a48 : Int))) rfl (by kernel_rfl) (by kernel_rfl) (by kernel_rfl) (fun _ _ _ h => h) (by rfl) ?_ (by assumption) ?_; (intro _w; go_simp; exact W32.out); simp only [Act.put, List.setIfInBounds_toArray, List.set_cons_zero, List.set_cons_succ])
              (refine wpD_plain 33 (v := ?_) rfl (by kernel_rfl) (by kernel_rfl) (by kernel_rfl) (fun _ _ _ h => h) (by rfl) ?_ (by assumption) ?_; rotate_left; (intro _w; go_simp; try with_reducible rfl); simp only [Act.put, List.setIfInBounds_toArray, List.set_cons_zero, List.set_cons_succ])
              (refine wpD_plain 34 (v := ?_) rfl (by kernel_rfl) (by kernel_rfl) (by kernel_rfl) (fun _ _ _ h => h) (by rfl) ?_ (by assumption) ?_; rotate_left; (intro _w; go_simp; try with_reducible rfl); simp only [Act.put, List.setIfInBounds_toArray, List.set_cons_zero, List.set_cons_succ])
              (refine wpD_plain 35 (v := ?_) rfl (by kernel_rfl) (by kernel_rfl) (by kernel_rfl) (fun _ _ _ h => h) (by rfl) ?_ (by assumption) ?_; rotate_left; (intro _w; go_simp; try with_reducible rfl); simp only [Act.put, List.setIfInBounds_toArray, List.set_cons_zero, List.set_cons_succ])
              (refine wpD_plain 36 (v := (.int .i64 (a48 : Int))) rfl (by kernel_rfl) (by kernel_rfl) (by kernel_rfl) (fun _ _ _ h => h) (by rfl) ?_ (by assumption) ?_; (intro _w; go_simp; exact W32.out); simp only [Act.put, List.setIfInBounds_toArray, List.set_cons_zero, List.set_cons_succ])
              (refine wpD_plain 37 (v := (.int .i64 (b48 : Int))) rfl (by kernel_rfl) (by kernel_rfl) (by kernel_rfl) (fun _ _ _ h => h) (by rfl) ?_ (by assumption) ?_; (intro _w; go_simp; exact W37.out); simp only [Act.put, List.setIfInBounds_toArray, List.set_cons_zero, List.set_cons_succ])
              (refine wpD_plain 38 (v := (.int .i64 (mn : Int))) rfl (by kernel_rfl) (by kernel_rfl) (by kernel_rfl) (fun _ _ _ h => h) (by rfl) ?_ (by assumption) ?_; (intro _w; go_simp; (have := HMN.out; have := HB48.out; split <;> omega)); simp only [Act.put, List.setIfInBounds_toArray, List.set_cons_zero, List.set_cons_succ])
              (refine wpD_plain 39 (v := (.string sl)) rfl (by kernel_rfl) (by kernel_rfl) (by kernel_rfl) (fun _ _ _ h => h) (by rfl) ?_ (by assumption) ?_; (intro _w; go_simp; (rw [HSLI.out _w]; rfl)); simp only [Act.put, List.setIfInBounds_toArray, List.set_cons_zero, List.set_cons_succ])
              refine wpD_only 40 [(3, fun w' => w'.cell? ⟨bg, 0, none⟩ = some (.pointer (some ⟨bd, 0, none⟩))), (7, fun w' => w'.cell? ⟨bg, 1, none⟩ = some (.int .i64 (g.first : Int))), (11, fun w' => w'.cell? ⟨bg, 5, none⟩ = some (.int .i64 (g.next : Int))), (18, fun w' => w'.cell? ⟨bg, 3, none⟩ = some (.int .u32 (g.epoch : Int))), (22, fun w' => w'.cell? ⟨bg, 4, none⟩ = some (.int .u32 (g.life : Int))), (26, fun w' => w'.cell? ⟨bg, 5, none⟩ = some (.int .i64 (g.next : Int)))] rfl (by kernel_rfl) (by kernel_rfl) (by rfl) (fun K40 hK40 => ?_)
              refine wp_bytesOf _ _ 5 _ rfl sl rfl Try.underlying9 Try.underlying66 Try.underlying5 ?_
              intro c40 w40 HB40 HF40
              have HBK40 : Hid (Blk w40 bg 93 (lgCells bd g)) := hid (HAi.out.2.1.fr (Fr.trans' (b := wr.drew) (Fr.refl No wr).drew HF40.out) id)
              refine hK40 _ _ (Facts.cons_hold (HBK40.out.cell 0) (Facts.cons_hold (HBK40.out.cell 1) (Facts.cons_hold (HBK40.out.cell 5) (Facts.cons_hold (HBK40.out.cell 3) (Facts.cons_hold (HBK40.out.cell 4) (Facts.cons_hold (HBK40.out.cell 5) (Facts.nil_hold _))))))) ?_
              clear hK40 K40 hold
              simp only [Act.put, List.setIfInBounds_toArray, List.set_cons_zero, List.set_cons_succ]
              have HSB : Hid (sl.data.toList = (x.data.toList.drop (48 * i)).take 48) := hid (by rw [HSL.out]; exact ext_piece x (48 * i))
              have HBL : Hid (sl.data.toList.length ≤ 48) := hid (by rw [HSB.out, List.length_take]; omega)
              have HRec : Hid (recSec g x.data.toList n i = made g.epoch g.life s28 (((2 : Int) % 256).toNat) sl.data.toList.length (pad48 sl.data.toList)) := hid (by
                have e1 : (if i = 0 then 1 else 0) + (if i + 1 = n then 2 else 0) = 2 := by rw [if_neg HI0.out, if_pos HIL.out]
                rw [HSB.out, HS28.out]
                unfold recSec
                rw [e1]; rfl)
              refine wpD_only 41 [(3, fun w' => w'.cell? ⟨bg, 0, none⟩ = some (.pointer (some ⟨bd, 0, none⟩))), (7, fun w' => w'.cell? ⟨bg, 1, none⟩ = some (.int .i64 (g.first : Int))), (11, fun w' => w'.cell? ⟨bg, 5, none⟩ = some (.int .i64 (g.next : Int))), (26, fun w' => w'.cell? ⟨bg, 5, none⟩ = some (.int .i64 (g.next : Int)))] rfl (by kernel_rfl) (by kernel_rfl) (by rfl) (fun K41 hK41 => ?_)
              refine wp_call (.func 38) _ _ rfl 38 [] rfl hentRMade [.int .u32 g.epoch, .int .u32 g.life, .int .i64 s28, .int .i64 2, .slice (some ⟨wr.drew.heap.size, 0, none⟩) sl.size c40] (by rfl) ?_
              refine (rmade_any g.epoch g.life s28 2 _ _ _ w40 HAi.out.2.2.2.ep HAi.out.2.2.2.li (by have := HS28.out; omega) HB40.out HBL.out).mono ?_
              rintro e' w41 ⟨a41, c41, rfl, o41, f41⟩
              refine ⟨_, rfl, ?_⟩
              refine hK41 _ _ (Facts.cons_hold ((HBK40.out.fr f41 id).cell 0) (Facts.cons_hold ((HBK40.out.fr f41 id).cell 1) (Facts.cons_hold ((HBK40.out.fr f41 id).cell 5) (Facts.cons_hold ((HBK40.out.fr f41 id).cell 5) (Facts.nil_hold _))))) ?_
              clear hK41 K41
              simp only [Act.put, List.setIfInBounds_toArray, List.set_cons_zero, List.set_cons_succ]
              rw [← HRec.out] at o41
              have HO41 := hid (own_bytes o41)
              have HF41 : Hid (Fr No wr w41) := hid ((Fr.trans' (b := wr.drew) (Fr.refl No wr).drew HF40.out).trans' f41)
              have HA41 := hid (HAi.out.no HF41.out)
              have HPut := hid (puts_step g x.data.toList n (n - (i + 1)) i ui)
              rw [show n - (i + 1) + 1 = n - i by omega] at HPut
              refine wpD_only 42 [(7, fun w' => w'.cell? ⟨bg, 1, none⟩ = some (.int .i64 (g.first : Int))), (11, fun w' => w'.cell? ⟨bg, 5, none⟩ = some (.int .i64 (g.next : Int))), (26, fun w' => w'.cell? ⟨bg, 5, none⟩ = some (.int .i64 (g.next : Int)))] rfl (by kernel_rfl) (by kernel_rfl) (by rfl) (fun K42 hK42 => ?_)
              refine wp_call (.func 37) _ _ rfl 37 [] rfl hentRWrite [.pointer (some ⟨bd, 0, none⟩), .int .i64 q14, .slice a41 64 c41] (by rfl) ?_
              refine (rwrite_any (q14 : Int) _ _ _ HO41.out (fun j hj e => by have h1 := HAi.out.1.lt j e; have h2 := (Fr.trans' (b := wr.drew) (Fr.refl No wr).drew HF40.out).size; omega) HA41.out.1 (by have := HPl.out; have := HP.out; omega)).mono ?_
              rintro e' w7 ⟨rfl, Z7, hA, hF, hG⟩
              refine ⟨_, rfl, ?_⟩
              have HBK7 : Hid (Blk w7 bg 93 (lgCells bd g)) := hid (HA41.out.2.1.fr hF HA41.out.2.2.1)
              have hold : Facts.hold [(7, fun w' => w'.cell? ⟨bg, 1, none⟩ = some (.int .i64 (g.first : Int))), (11, fun w' => w'.cell? ⟨bg, 5, none⟩ = some (.int .i64 (g.next : Int))), (26, fun w' => w'.cell? ⟨bg, 5, none⟩ = some (.int .i64 (g.next : Int)))] w7 := (Facts.cons_hold (HBK7.out.cell 1) (Facts.cons_hold (HBK7.out.cell 5) (Facts.cons_hold (HBK7.out.cell 5) (Facts.nil_hold _))))
              refine hK42 _ _ hold ?_
              clear hK42 K42 o41 f41
              simp only [Act.put, List.setIfInBounds_toArray, List.set_cons_zero, List.set_cons_succ]
              rw [HQ.out] at hA ⊢
              have HWP := hid (write_P ui ((g.first + (g.next + i) : Nat) : Int) (recSec g x.data.toList n i))
              have HWL := hid (write_L ui ((g.first + (g.next + i) : Nat) : Int) (recSec g x.data.toList n i))
              have hput := HPut.out
              clear HPut
              generalize ui.write ((g.first + (g.next + i) : Nat) : Int) (recSec g x.data.toList n i) = a at hA hput HWP HWL ⊢
              obtain ⟨a1, a2⟩ := a
              simp only at hA hput ⊢
              have HPut := hid hput
              clear hput
              have HA7 : Hid (AtR w7 bg bd Z7 g a2) := hid ⟨hA, HA41.out.2.1.fr hF HA41.out.2.2.1, fun e => (hG _ e).elim HA41.out.2.2.1 (fun e2 => by have := HA41.out.2.1.lt; omega), by rw [show a2.L.length = ui.L.length from congrArg List.length HWL.out]; exact HA41.out.2.2.2⟩
              have HG7 : Hid (Grows w Z Z7) := hid (HGi.out.trans (fun j hj => (hG j hj).imp id (fun hge => Nat.le_trans HF41.out.size hge)) HFi.out.size)
              have HF7 : Hid (Fr (fun k => Z k ∨ k = bg) w w7) := hid ((HFi.out.trans' HF41.out.no).trans hF (fun j hj => (HGi.out j hj).imp .inl id))
              have HLe7 : Hid (a2.L = u.L) := hid (HWL.out.trans HLe.out)
              clear hA hF hG
              (refine wpD_plain 43 (v := ?_) rfl (by kernel_rfl) (by kernel_rfl) (by kernel_rfl) (fun _ _ _ h => h) (by rfl) ?_ (by assumption) ?_; rotate_left; (intro _w; go_simp; try with_reducible rfl); simp only [Act.put, List.setIfInBounds_toArray, List.set_cons_zero, List.set_cons_succ])
              refine wpD_done (by kernel_rfl) ?_ _
              try simp only [Act.put, List.setIfInBounds_toArray, List.set_cons_zero, List.set_cons_succ]
              by_cases ha : a1 = 0
              · subst ha
                have HPu' : Hid (a2.puts g x.data.toList n (n - (i + 1)) (i + 1) = u.puts g x.data.toList n n 0) := hid (by
                  have h1 := HPut.out
                  rw [if_neg (by simp)] at h1
                  exact h1.symm.trans HPu.out)
                have HPl7 : Hid (a2.P.length ≤ u.P.length + (i + 1)) := hid (by have h1 : a2.P.length ≤ ui.P.length + 1 := HWP.out; have := HPl.out; omega)
                clear HPut HWP HWL HRec HBL HSB HO41 HA41 HF41 hold W12 W14 W28 W32 W37 HSLI
                go_wp2_with fail
                exact ⟨⟨i + 1, a2, Z7, by go_num, by omega, HPu', HPl7, HLe7, HA7, HF7, HG7⟩, by simp [intOf]; omega⟩
              · have HPu' : Hid (u.puts g x.data.toList n n 0 = (a1, a2)) := hid (by
                  have h1 := HPut.out
                  rw [if_pos ha] at h1
                  exact HPu.out.symm.trans h1)
                have a0 : (a1 != 0) = true := by simp [ha]
                have HR4 : Hid (r = (a1, a2, g)) := hid (by
                  have h1 := HR3.out
                  simp only [HPu'.out] at h1
                  rw [if_pos ha] at h1
                  exact h1)
                clear ha HPut HWP HWL HRec HBL HSB HO41 HA41 HF41 hold W12 W14 W28 W32 W37 HSLI
                go_wp2_with fail
                go_ret
                rw [HR4.out]
                exact ⟨rfl, Z7, HA7.out, HF7.out, HG7.out⟩
            · have hili : ((i : Int) == (n : Int) - 1) = false := by simp; omega
              have HIL := hid hil
              clear hi0 hil
              have hgf : (g.first : Int) + g.count ≤ 4096 := by have := HAi.out.2.2.2.fit; have := HAi.out.lens; omega
              have hnc : (g.next : Int) + n ≤ g.count := by have := H2n.out; omega
              obtain ⟨p12, hp12⟩ : ∃ p : Nat, p = g.first + g.next := ⟨_, rfl⟩
              obtain ⟨q14, hq14⟩ : ∃ p : Nat, p = g.first + (g.next + i) := ⟨_, rfl⟩
              obtain ⟨s28, hs28⟩ : ∃ p : Nat, p = g.next + i := ⟨_, rfl⟩
              obtain ⟨a48, ha48⟩ : ∃ p : Nat, p = 48 * i := ⟨_, rfl⟩
              obtain ⟨b48, hb48⟩ : ∃ p : Nat, p = 48 * i + 48 := ⟨_, rfl⟩
              obtain ⟨mn, hmn⟩ : ∃ p : Nat, p = min x.size (48 * i + 48) := ⟨_, rfl⟩
              obtain ⟨sl, hsl⟩ : ∃ s : ByteArray, s = x.extract (48 * i) (min x.size (48 * i + 48)) := ⟨_, rfl⟩
              have W12 : Hid (IntKind.i64.wrap ((g.first : Int) + (g.next : Int)) = (p12 : Int)) := hid ((wrap_small (by omega) (by omega)).trans (by omega))
              have W14 : Hid (IntKind.i64.wrap ((p12 : Int) + (i : Int)) = (q14 : Int)) := hid ((wrap_small (by omega) (by omega)).trans (by omega))
              have W28 : Hid (IntKind.i64.wrap ((g.next : Int) + (i : Int)) = (s28 : Int)) := hid ((wrap_small (by omega) (by omega)).trans (by omega))
              have W32 : Hid (IntKind.i64.wrap (48 * (i : Int)) = (a48 : Int)) := hid ((wrap_small (by omega) (by omega)).trans (by omega))
              have W37 : Hid (IntKind.i64.wrap ((a48 : Int) + 48) = (b48 : Int)) := hid ((wrap_small (by omega) (by omega)).trans (by omega))
              have HQ := hid hq14; have HS28 := hid hs28; have HA48 := hid ha48; have HB48 := hid hb48; have HMN := hid hmn; have HSL := hid hsl
              have HSLI : Hid (∀ w : World, (Instr.slice 9 (.string x) (some (.int .i64 (a48 : Int))) (some (.int .i64 (mn : Int))) none).run Try.prog w = .ok (.string sl) w) := hid (fun w => by rw [show sl = x.extract a48 mn by rw [hsl, ha48, hmn]]; exact slice_str x a48 mn (by have := HFitN.out i hlt; omega) (by omega) w)
              clear hmn hsl hp12 hq14 hs28 ha48 hb48
              have h39a : (a48 : Int) ≤ mn := by have := HA48.out; have := HMN.out; have := HFitN.out i hlt; omega
              go_wp2_with fail
              have hold : Facts.hold [(3, fun w' => w'.cell? ⟨bg, 0, none⟩ = some (.pointer (some ⟨bd, 0, none⟩))), (7, fun w' => w'.cell? ⟨bg, 1, none⟩ = some (.int .i64 (g.first : Int))), (11, fun w' => w'.cell? ⟨bg, 5, none⟩ = some (.int .i64 (g.next : Int))), (18, fun w' => w'.cell? ⟨bg, 3, none⟩ = some (.int .u32 (g.epoch : Int))), (22, fun w' => w'.cell? ⟨bg, 4, none⟩ = some (.int .u32 (g.life : Int))), (26, fun w' => w'.cell? ⟨bg, 5, none⟩ = some (.int .i64 (g.next : Int)))] wr.drew := Facts.cons_hold b0 (Facts.cons_hold b1 (Facts.cons_hold b5 (Facts.cons_hold b3 (Facts.cons_hold b4 (Facts.cons_hold b5 (Facts.nil_hold _))))))
              refine wpD_region hold (by kernel_rfl) 44 rfl ?_
              (refine wpD_plain 0 (v := ?_) rfl (by kernel_rfl) (by kernel_rfl) (by kernel_rfl) (fun _ _ _ h => h) (by rfl) ?_ (by assumption) ?_; rotate_left; (intro _w; go_simp; try with_reducible rfl); simp only [Act.put, List.setIfInBounds_toArray, List.set_cons_zero, List.set_cons_succ])
              (refine wpD_plain 1 (v := ?_) rfl (by kernel_rfl) (by kernel_rfl) (by kernel_rfl) (fun _ _ _ h => h) (by rfl) ?_ (by assumption) ?_; rotate_left; (intro _w; go_simp; try with_reducible rfl); simp only [Act.put, List.setIfInBounds_toArray, List.set_cons_zero, List.set_cons_succ])
              (refine wpD_plain 2 (v := ?_) rfl (by kernel_rfl) (by kernel_rfl) (by kernel_rfl) (fun _ _ _ h => h) (by rfl) ?_ (by assumption) ?_; rotate_left; (intro _w; go_simp; try with_reducible rfl); simp only [Act.put, List.setIfInBounds_toArray, List.set_cons_zero, List.set_cons_succ])
              (refine wpD_take 3 _ rfl (by kernel_rfl) (by kernel_rfl) (by kernel_rfl) (fun _ _ _ h => h) List.mem_cons_self (by rfl) (v := ?_) ?_ (by assumption) ?_; rotate_left; (intro _w _hw; go_simp; try with_reducible rfl); simp only [Act.put, List.setIfInBounds_toArray, List.set_cons_zero, List.set_cons_succ])
              (refine wpD_plain 4 (v := ?_) rfl (by kernel_rfl) (by kernel_rfl) (by kernel_rfl) (fun _ _ _ h => h) (by rfl) ?_ (by assumption) ?_; rotate_left; (intro _w; go_simp; try with_reducible rfl); simp only [Act.put, List.setIfInBounds_toArray, List.set_cons_zero, List.set_cons_succ])
              (refine wpD_plain 5 (v := ?_) rfl (by kernel_rfl) (by kernel_rfl) (by kernel_rfl) (fun _ _ _ h => h) (by rfl) ?_ (by assumption) ?_; rotate_left; (intro _w; go_simp; try with_reducible rfl); simp only [Act.put, List.setIfInBounds_toArray, List.set_cons_zero, List.set_cons_succ])
              (refine wpD_plain 6 (v := ?_) rfl (by kernel_rfl) (by kernel_rfl) (by kernel_rfl) (fun _ _ _ h => h) (by rfl) ?_ (by assumption) ?_; rotate_left; (intro _w; go_simp; try with_reducible rfl); simp only [Act.put, List.setIfInBounds_toArray, List.set_cons_zero, List.set_cons_succ])
              (refine wpD_take 7 _ rfl (by kernel_rfl) (by kernel_rfl) (by kernel_rfl) (fun _ _ _ h => h) (List.mem_cons_of_mem _ List.mem_cons_self) (by rfl) (v := ?_) ?_ (by assumption) ?_; rotate_left; (intro _w _hw; go_simp; try with_reducible rfl); simp only [Act.put, List.setIfInBounds_toArray, List.set_cons_zero, List.set_cons_succ])
              (refine wpD_plain 8 (v := ?_) rfl (by kernel_rfl) (by kernel_rfl) (by kernel_rfl) (fun _ _ _ h => h) (by rfl) ?_ (by assumption) ?_; rotate_left; (intro _w; go_simp; try with_reducible rfl); simp only [Act.put, List.setIfInBounds_toArray, List.set_cons_zero, List.set_cons_succ])
              (refine wpD_plain 9 (v := ?_) rfl (by kernel_rfl) (by kernel_rfl) (by kernel_rfl) (fun _ _ _ h => h) (by rfl) ?_ (by assumption) ?_; rotate_left; (intro _w; go_simp; try with_reducible rfl); simp only [Act.put, List.setIfInBounds_toArray, List.set_cons_zero, List.set_cons_succ])
              (refine wpD_plain 10 (v := ?_) rfl (by kernel_rfl) (by kernel_rfl) (by kernel_rfl) (fun _ _ _ h => h) (by rfl) ?_ (by assumption) ?_; rotate_left; (intro _w; go_simp; try with_reducible rfl); simp only [Act.put, List.setIfInBounds_toArray, List.set_cons_zero, List.set_cons_succ])
              (refine wpD_take 11 _ rfl (by kernel_rfl) (by kernel_rfl) (by kernel_rfl) (fun _ _ _ h => h) (List.mem_cons_of_mem _ (List.mem_cons_of_mem _ List.mem_cons_self)) (by rfl) (v := ?_) ?_ (by assumption) ?_; rotate_left; (intro _w _hw; go_simp; try with_reducible rfl); simp only [Act.put, List.setIfInBounds_toArray, List.set_cons_zero, List.set_cons_succ])
              (refine wpD_plain 12 (v := (.int .i64 (p12 : Int))) rfl (by kernel_rfl) (by kernel_rfl) (by kernel_rfl) (fun _ _ _ h => h) (by rfl) ?_ (by assumption) ?_; (intro _w; go_simp; exact W12.out); simp only [Act.put, List.setIfInBounds_toArray, List.set_cons_zero, List.set_cons_succ])
              (refine wpD_plain 13 (v := ?_) rfl (by kernel_rfl) (by kernel_rfl) (by kernel_rfl) (fun _ _ _ h => h) (by rfl) ?_ (by assumption) ?_; rotate_left; (intro _w; go_simp; try with_reducible rfl); simp only [Act.put, List.setIfInBounds_toArray, List.set_cons_zero, List.set_cons_succ])
              (refine wpD_plain 14 (v := (.int .i64 (q14 : Int))) rfl (by kernel_rfl) (by kernel_rfl) (by kernel_rfl) (fun _ _ _ h => h) (by rfl) ?_ (by assumption) ?_; (intro _w; go_simp; exact W14.out); simp only [Act.put, List.setIfInBounds_toArray, List.set_cons_zero, List.set_cons_succ])
              (refine wpD_plain 15 (v := ?_) rfl (by kernel_rfl) (by kernel_rfl) (by kernel_rfl) (fun _ _ _ h => h) (by rfl) ?_ (by assumption) ?_; rotate_left; (intro _w; go_simp; try with_reducible rfl); simp only [Act.put, List.setIfInBounds_toArray, List.set_cons_zero, List.set_cons_succ])
              (refine wpD_plain 16 (v := ?_) rfl (by kernel_rfl) (by kernel_rfl) (by kernel_rfl) (fun _ _ _ h => h) (by rfl) ?_ (by assumption) ?_; rotate_left; (intro _w; go_simp; try with_reducible rfl); simp only [Act.put, List.setIfInBounds_toArray, List.set_cons_zero, List.set_cons_succ])
              (refine wpD_plain 17 (v := ?_) rfl (by kernel_rfl) (by kernel_rfl) (by kernel_rfl) (fun _ _ _ h => h) (by rfl) ?_ (by assumption) ?_; rotate_left; (intro _w; go_simp; try with_reducible rfl); simp only [Act.put, List.setIfInBounds_toArray, List.set_cons_zero, List.set_cons_succ])
              (refine wpD_take 18 _ rfl (by kernel_rfl) (by kernel_rfl) (by kernel_rfl) (fun _ _ _ h => h) (List.mem_cons_of_mem _ (List.mem_cons_of_mem _ (List.mem_cons_of_mem _ List.mem_cons_self))) (by rfl) (v := ?_) ?_ (by assumption) ?_; rotate_left; (intro _w _hw; go_simp; try with_reducible rfl); simp only [Act.put, List.setIfInBounds_toArray, List.set_cons_zero, List.set_cons_succ])
              (refine wpD_plain 19 (v := ?_) rfl (by kernel_rfl) (by kernel_rfl) (by kernel_rfl) (fun _ _ _ h => h) (by rfl) ?_ (by assumption) ?_; rotate_left; (intro _w; go_simp; try with_reducible rfl); simp only [Act.put, List.setIfInBounds_toArray, List.set_cons_zero, List.set_cons_succ])
              (refine wpD_plain 20 (v := ?_) rfl (by kernel_rfl) (by kernel_rfl) (by kernel_rfl) (fun _ _ _ h => h) (by rfl) ?_ (by assumption) ?_; rotate_left; (intro _w; go_simp; try with_reducible rfl); simp only [Act.put, List.setIfInBounds_toArray, List.set_cons_zero, List.set_cons_succ])
              (refine wpD_plain 21 (v := ?_) rfl (by kernel_rfl) (by kernel_rfl) (by kernel_rfl) (fun _ _ _ h => h) (by rfl) ?_ (by assumption) ?_; rotate_left; (intro _w; go_simp; try with_reducible rfl); simp only [Act.put, List.setIfInBounds_toArray, List.set_cons_zero, List.set_cons_succ])
              (refine wpD_take 22 _ rfl (by kernel_rfl) (by kernel_rfl) (by kernel_rfl) (fun _ _ _ h => h) (List.mem_cons_of_mem _ (List.mem_cons_of_mem _ (List.mem_cons_of_mem _ (List.mem_cons_of_mem _ List.mem_cons_self)))) (by rfl) (v := ?_) ?_ (by assumption) ?_; rotate_left; (intro _w _hw; go_simp; try with_reducible rfl); simp only [Act.put, List.setIfInBounds_toArray, List.set_cons_zero, List.set_cons_succ])
              (refine wpD_plain 23 (v := ?_) rfl (by kernel_rfl) (by kernel_rfl) (by kernel_rfl) (fun _ _ _ h => h) (by rfl) ?_ (by assumption) ?_; rotate_left; (intro _w; go_simp; try with_reducible rfl); simp only [Act.put, List.setIfInBounds_toArray, List.set_cons_zero, List.set_cons_succ])
              (refine wpD_plain 24 (v := ?_) rfl (by kernel_rfl) (by kernel_rfl) (by kernel_rfl) (fun _ _ _ h => h) (by rfl) ?_ (by assumption) ?_; rotate_left; (intro _w; go_simp; try with_reducible rfl); simp only [Act.put, List.setIfInBounds_toArray, List.set_cons_zero, List.set_cons_succ])
              (refine wpD_plain 25 (v := ?_) rfl (by kernel_rfl) (by kernel_rfl) (by kernel_rfl) (fun _ _ _ h => h) (by rfl) ?_ (by assumption) ?_; rotate_left; (intro _w; go_simp; try with_reducible rfl); simp only [Act.put, List.setIfInBounds_toArray, List.set_cons_zero, List.set_cons_succ])
              (refine wpD_take 26 _ rfl (by kernel_rfl) (by kernel_rfl) (by kernel_rfl) (fun _ _ _ h => h) (List.mem_cons_of_mem _ (List.mem_cons_of_mem _ (List.mem_cons_of_mem _ (List.mem_cons_of_mem _ (List.mem_cons_of_mem _ List.mem_cons_self))))) (by rfl) (v := ?_) ?_ (by assumption) ?_; rotate_left; (intro _w _hw; go_simp; try with_reducible rfl); simp only [Act.put, List.setIfInBounds_toArray, List.set_cons_zero, List.set_cons_succ])
              (refine wpD_plain 27 (v := ?_) rfl (by kernel_rfl) (by kernel_rfl) (by kernel_rfl) (fun _ _ _ h => h) (by rfl) ?_ (by assumption) ?_; rotate_left; (intro _w; go_simp; try with_reducible rfl); simp only [Act.put, List.setIfInBounds_toArray, List.set_cons_zero, List.set_cons_succ])
              (refine wpD_plain 28 (v := (.int .i64 (s28 : Int))) rfl (by kernel_rfl) (by kernel_rfl) (by kernel_rfl) (fun _ _ _ h => h) (by rfl) ?_ (by assumption) ?_; (intro _w; go_simp; exact W28.out); simp only [Act.put, List.setIfInBounds_toArray, List.set_cons_zero, List.set_cons_succ])
              (refine wpD_plain 29 (v := ?_) rfl (by kernel_rfl) (by kernel_rfl) (by kernel_rfl) (fun _ _ _ h => h) (by rfl) ?_ (by assumption) ?_; rotate_left; (intro _w; go_simp; try with_reducible rfl); simp only [Act.put, List.setIfInBounds_toArray, List.set_cons_zero, List.set_cons_succ])
              (refine wpD_plain 30 (v := ?_) rfl (by kernel_rfl) (by kernel_rfl) (by kernel_rfl) (fun _ _ _ h => h) (by rfl) ?_ (by assumption) ?_; rotate_left; (intro _w; go_simp; try with_reducible rfl); simp only [Act.put, List.setIfInBounds_toArray, List.set_cons_zero, List.set_cons_succ])
              (refine wpD_plain 31 (v := ?_) rfl (by kernel_rfl) (by kernel_rfl) (by kernel_rfl) (fun _ _ _ h => h) (by rfl) ?_ (by assumption) ?_; rotate_left; (intro _w; go_simp; try with_reducible rfl); simp only [Act.put, List.setIfInBounds_toArray, List.set_cons_zero, List.set_cons_succ])
              (refine wpD_plain 32 (v := (.int .i64 (a48 : Int))) rfl (by kernel_rfl) (by kernel_rfl) (by kernel_rfl) (fun _ _ _ h => h) (by rfl) ?_ (by assumption) ?_; (intro _w; go_simp; exact W32.out); simp only [Act.put, List.setIfInBounds_toArray, List.set_cons_zero, List.set_cons_succ])
              (refine wpD_plain 33 (v := ?_) rfl (by kernel_rfl) (by kernel_rfl) (by kernel_rfl) (fun _ _ _ h => h) (by rfl) ?_ (by assumption) ?_; rotate_left; (intro _w; go_simp; try with_reducible rfl); simp only [Act.put, List.setIfInBounds_toArray, List.set_cons_zero, List.set_cons_succ])
              (refine wpD_plain 34 (v := ?_) rfl (by kernel_rfl) (by kernel_rfl) (by kernel_rfl) (fun _ _ _ h => h) (by rfl) ?_ (by assumption) ?_; rotate_left; (intro _w; go_simp; try with_reducible rfl); simp only [Act.put, List.setIfInBounds_toArray, List.set_cons_zero, List.set_cons_succ])
              (refine wpD_plain 35 (v := ?_) rfl (by kernel_rfl) (by kernel_rfl) (by kernel_rfl) (fun _ _ _ h => h) (by rfl) ?_ (by assumption) ?_; rotate_left; (intro _w; go_simp; try with_reducible rfl); simp only [Act.put, List.setIfInBounds_toArray, List.set_cons_zero, List.set_cons_succ])
              (refine wpD_plain 36 (v := (.int .i64 (a48 : Int))) rfl (by kernel_rfl) (by kernel_rfl) (by kernel_rfl) (fun _ _ _ h => h) (by rfl) ?_ (by assumption) ?_; (intro _w; go_simp; exact W32.out); simp only [Act.put, List.setIfInBounds_toArray, List.set_cons_zero, List.set_cons_succ])
              (refine wpD_plain 37 (v := (.int .i64 (b48 : Int))) rfl (by kernel_rfl) (by kernel_rfl) (by kernel_rfl) (fun _ _ _ h => h) (by rfl) ?_ (by assumption) ?_; (intro _w; go_simp; exact W37.out); simp only [Act.put, List.setIfInBounds_toArray, List.set_cons_zero, List.set_cons_succ])
              (refine wpD_plain 38 (v := (.int .i64 (mn : Int))) rfl (by kernel_rfl) (by kernel_rfl) (by kernel_rfl) (fun _ _ _ h => h) (by rfl) ?_ (by assumption) ?_; (intro _w; go_simp; (have := HMN.out; have := HB48.out; split <;> omega)); simp only [Act.put, List.setIfInBounds_toArray, List.set_cons_zero, List.set_cons_succ])
              (refine wpD_plain 39 (v := (.string sl)) rfl (by kernel_rfl) (by kernel_rfl) (by kernel_rfl) (fun _ _ _ h => h) (by rfl) ?_ (by assumption) ?_; (intro _w; go_simp; (rw [HSLI.out _w]; rfl)); simp only [Act.put, List.setIfInBounds_toArray, List.set_cons_zero, List.set_cons_succ])
              refine wpD_only 40 [(3, fun w' => w'.cell? ⟨bg, 0, none⟩ = some (.pointer (some ⟨bd, 0, none⟩))), (7, fun w' => w'.cell? ⟨bg, 1, none⟩ = some (.int .i64 (g.first : Int))), (11, fun w' => w'.cell? ⟨bg, 5, none⟩ = some (.int .i64 (g.next : Int))), (18, fun w' => w'.cell? ⟨bg, 3, none⟩ = some (.int .u32 (g.epoch : Int))), (22, fun w' => w'.cell? ⟨bg, 4, none⟩ = some (.int .u32 (g.life : Int))), (26, fun w' => w'.cell? ⟨bg, 5, none⟩ = some (.int .i64 (g.next : Int)))] rfl (by kernel_rfl) (by kernel_rfl) (by rfl) (fun K40 hK40 => ?_)
              refine wp_bytesOf _ _ 5 _ rfl sl rfl Try.underlying9 Try.underlying66 Try.underlying5 ?_
              intro c40 w40 HB40 HF40
              have HBK40 : Hid (Blk w40 bg 93 (lgCells bd g)) := hid (HAi.out.2.1.fr (Fr.trans' (b := wr.drew) (Fr.refl No wr).drew HF40.out) id)
              refine hK40 _ _ (Facts.cons_hold (HBK40.out.cell 0) (Facts.cons_hold (HBK40.out.cell 1) (Facts.cons_hold (HBK40.out.cell 5) (Facts.cons_hold (HBK40.out.cell 3) (Facts.cons_hold (HBK40.out.cell 4) (Facts.cons_hold (HBK40.out.cell 5) (Facts.nil_hold _))))))) ?_
              clear hK40 K40 hold
              simp only [Act.put, List.setIfInBounds_toArray, List.set_cons_zero, List.set_cons_succ]
              have HSB : Hid (sl.data.toList = (x.data.toList.drop (48 * i)).take 48) := hid (by rw [HSL.out]; exact ext_piece x (48 * i))
              have HBL : Hid (sl.data.toList.length ≤ 48) := hid (by rw [HSB.out, List.length_take]; omega)
              have HRec : Hid (recSec g x.data.toList n i = made g.epoch g.life s28 (((0 : Int) % 256).toNat) sl.data.toList.length (pad48 sl.data.toList)) := hid (by
                have e1 : (if i = 0 then 1 else 0) + (if i + 1 = n then 2 else 0) = 0 := by rw [if_neg HI0.out, if_neg HIL.out]
                rw [HSB.out, HS28.out]
                unfold recSec
                rw [e1]; rfl)
              refine wpD_only 41 [(3, fun w' => w'.cell? ⟨bg, 0, none⟩ = some (.pointer (some ⟨bd, 0, none⟩))), (7, fun w' => w'.cell? ⟨bg, 1, none⟩ = some (.int .i64 (g.first : Int))), (11, fun w' => w'.cell? ⟨bg, 5, none⟩ = some (.int .i64 (g.next : Int))), (26, fun w' => w'.cell? ⟨bg, 5, none⟩ = some (.int .i64 (g.next : Int)))] rfl (by kernel_rfl) (by kernel_rfl) (by rfl) (fun K41 hK41 => ?_)
              refine wp_call (.func 38) _ _ rfl 38 [] rfl hentRMade [.int .u32 g.epoch, .int .u32 g.life, .int .i64 s28, .int .i64 0, .slice (some ⟨wr.drew.heap.size, 0, none⟩) sl.size c40] (by rfl) ?_
              refine (rmade_any g.epoch g.life s28 0 _ _ _ w40 HAi.out.2.2.2.ep HAi.out.2.2.2.li (by have := HS28.out; omega) HB40.out HBL.out).mono ?_
              rintro e' w41 ⟨a41, c41, rfl, o41, f41⟩
              refine ⟨_, rfl, ?_⟩
              refine hK41 _ _ (Facts.cons_hold ((HBK40.out.fr f41 id).cell 0) (Facts.cons_hold ((HBK40.out.fr f41 id).cell 1) (Facts.cons_hold ((HBK40.out.fr f41 id).cell 5) (Facts.cons_hold ((HBK40.out.fr f41 id).cell 5) (Facts.nil_hold _))))) ?_
              clear hK41 K41
              simp only [Act.put, List.setIfInBounds_toArray, List.set_cons_zero, List.set_cons_succ]
              rw [← HRec.out] at o41
              have HO41 := hid (own_bytes o41)
              have HF41 : Hid (Fr No wr w41) := hid ((Fr.trans' (b := wr.drew) (Fr.refl No wr).drew HF40.out).trans' f41)
              have HA41 := hid (HAi.out.no HF41.out)
              have HPut := hid (puts_step g x.data.toList n (n - (i + 1)) i ui)
              rw [show n - (i + 1) + 1 = n - i by omega] at HPut
              refine wpD_only 42 [(7, fun w' => w'.cell? ⟨bg, 1, none⟩ = some (.int .i64 (g.first : Int))), (11, fun w' => w'.cell? ⟨bg, 5, none⟩ = some (.int .i64 (g.next : Int))), (26, fun w' => w'.cell? ⟨bg, 5, none⟩ = some (.int .i64 (g.next : Int)))] rfl (by kernel_rfl) (by kernel_rfl) (by rfl) (fun K42 hK42 => ?_)
              refine wp_call (.func 37) _ _ rfl 37 [] rfl hentRWrite [.pointer (some ⟨bd, 0, none⟩), .int .i64 q14, .slice a41 64 c41] (by rfl) ?_
              refine (rwrite_any (q14 : Int) _ _ _ HO41.out (fun j hj e => by have h1 := HAi.out.1.lt j e; have h2 := (Fr.trans' (b := wr.drew) (Fr.refl No wr).drew HF40.out).size; omega) HA41.out.1 (by have := HPl.out; have := HP.out; omega)).mono ?_
              rintro e' w7 ⟨rfl, Z7, hA, hF, hG⟩
              refine ⟨_, rfl, ?_⟩
              have HBK7 : Hid (Blk w7 bg 93 (lgCells bd g)) := hid (HA41.out.2.1.fr hF HA41.out.2.2.1)
              have hold : Facts.hold [(7, fun w' => w'.cell? ⟨bg, 1, none⟩ = some (.int .i64 (g.first : Int))), (11, fun w' => w'.cell? ⟨bg, 5, none⟩ = some (.int .i64 (g.next : Int))), (26, fun w' => w'.cell? ⟨bg, 5, none⟩ = some (.int .i64 (g.next : Int)))] w7 := (Facts.cons_hold (HBK7.out.cell 1) (Facts.cons_hold (HBK7.out.cell 5) (Facts.cons_hold (HBK7.out.cell 5) (Facts.nil_hold _))))
              refine hK42 _ _ hold ?_
              clear hK42 K42 o41 f41
              simp only [Act.put, List.setIfInBounds_toArray, List.set_cons_zero, List.set_cons_succ]
              rw [HQ.out] at hA ⊢
              have HWP := hid (write_P ui ((g.first + (g.next + i) : Nat) : Int) (recSec g x.data.toList n i))
              have HWL := hid (write_L ui ((g.first + (g.next + i) : Nat) : Int) (recSec g x.data.toList n i))
              have hput := HPut.out
              clear HPut
              generalize ui.write ((g.first + (g.next + i) : Nat) : Int) (recSec g x.data.toList n i) = a at hA hput HWP HWL ⊢
              obtain ⟨a1, a2⟩ := a
              simp only at hA hput ⊢
              have HPut := hid hput
              clear hput
              have HA7 : Hid (AtR w7 bg bd Z7 g a2) := hid ⟨hA, HA41.out.2.1.fr hF HA41.out.2.2.1, fun e => (hG _ e).elim HA41.out.2.2.1 (fun e2 => by have := HA41.out.2.1.lt; omega), by rw [show a2.L.length = ui.L.length from congrArg List.length HWL.out]; exact HA41.out.2.2.2⟩
              have HG7 : Hid (Grows w Z Z7) := hid (HGi.out.trans (fun j hj => (hG j hj).imp id (fun hge => Nat.le_trans HF41.out.size hge)) HFi.out.size)
              have HF7 : Hid (Fr (fun k => Z k ∨ k = bg) w w7) := hid ((HFi.out.trans' HF41.out.no).trans hF (fun j hj => (HGi.out j hj).imp .inl id))
              have HLe7 : Hid (a2.L = u.L) := hid (HWL.out.trans HLe.out)
              clear hA hF hG
              (refine wpD_plain 43 (v := ?_) rfl (by kernel_rfl) (by kernel_rfl) (by kernel_rfl) (fun _ _ _ h => h) (by rfl) ?_ (by assumption) ?_; rotate_left; (intro _w; go_simp; try with_reducible rfl); simp only [Act.put, List.setIfInBounds_toArray, List.set_cons_zero, List.set_cons_succ])
              refine wpD_done (by kernel_rfl) ?_ _
              try simp only [Act.put, List.setIfInBounds_toArray, List.set_cons_zero, List.set_cons_succ]
              by_cases ha : a1 = 0
              · subst ha
                have HPu' : Hid (a2.puts g x.data.toList n (n - (i + 1)) (i + 1) = u.puts g x.data.toList n n 0) := hid (by
                  have h1 := HPut.out
                  rw [if_neg (by simp)] at h1
                  exact h1.symm.trans HPu.out)
                have HPl7 : Hid (a2.P.length ≤ u.P.length + (i + 1)) := hid (by have h1 : a2.P.length ≤ ui.P.length + 1 := HWP.out; have := HPl.out; omega)
                clear HPut HWP HWL HRec HBL HSB HO41 HA41 HF41 hold W12 W14 W28 W32 W37 HSLI
                go_wp2_with fail
                exact ⟨⟨i + 1, a2, Z7, by go_num, by omega, HPu', HPl7, HLe7, HA7, HF7, HG7⟩, by simp [intOf]; omega⟩
              · have HPu' : Hid (u.puts g x.data.toList n n 0 = (a1, a2)) := hid (by
                  have h1 := HPut.out
                  rw [if_pos ha] at h1
                  exact HPu.out.symm.trans h1)
                have a0 : (a1 != 0) = true := by simp [ha]
                have HR4 : Hid (r = (a1, a2, g)) := hid (by
                  have h1 := HR3.out
                  simp only [HPu'.out] at h1
                  rw [if_pos ha] at h1
                  exact h1)
                clear ha HPut HWP HWL HRec HBL HSB HO41 HA41 HF41 hold W12 W14 W28 W32 W37 HSLI
                go_wp2_with fail
                go_ret
                rw [HR4.out]
                exact ⟨rfl, Z7, HA7.out, HF7.out, HG7.out⟩
        · have hin2 : i = n := by omega
          have hgei : ¬ ((i : Int) < n) := by omega
          have c5 : wr.cell? ⟨bg, 5, none⟩ = some (.int .i64 g.next) := HAi.out.2.1.cell 5
          have f5 : wr.frozen? ⟨bg, 5, none⟩ = false := HAi.out.2.1.frozen 5
          have HPu' : Hid (u.puts g x.data.toList n n 0 = (0, ui)) := hid (by
            have h1 := HPu.out
            rw [hin2, Nat.sub_self] at h1
            exact h1.symm)
          have HR4 : Hid (r = (0, ui, { g with next := g.next + n })) := hid (by
            have h1 := HR3.out
            simp only [HPu'.out] at h1
            rw [if_neg (by simp)] at h1
            exact h1)
          have HN1 := hid hn1
          clear hin2 hlt
          go_wp2_with fail
          go_ret
          rw [HR4.out]
          have hA := HAi.out.setNext (g.next + n) (by have := HN1.out; omega) H2n.out
          exact ⟨rfl, Zi, hA, HFi.out.setCell _ _ (.inl (.inr rfl)), HGi.out⟩
end Go.Proofs.Ytlnolnaapnijbaa.L
