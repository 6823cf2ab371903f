/-
  Package frame: complete, a function that is ranged over.
-/
import Derived.Test.YtoikiokcpakokaaFrS
import Derived.Test.YtoikiokcpakokaaFrR
set_option linter.unusedVariables false
set_option linter.unusedSimpArgs false
namespace Go.Proofs.Ytoikiokcpakokaa.FR
set_option maxRecDepth 100000
open Go.RowKit K Go.Proofs.Ytoikiokcpakokaa.BE

/-- The text lies in a box of its own; the function knows where. -/
theorem complete_any (s : B) (w : World) : Calls Try.prog 15 #[.string (sb s)] w fun e w' =>
    e = .returned (.func (.func 20) #[] #[.pointer (some ⟨w.heap.size, 0, none⟩)]) ∧ Blk w' w.heap.size 9 [.string (sb s)] ∧ Fr No w w' ∧ w'.heap.size = w.heap.size + 1 := by
  have hmf : ∀ (fn : Fn) (first cap : Array Value) (w : World), (Instr.makeFunc fn first cap).run Try.prog w = .ok (.func fn first cap) w := fun _ _ _ _ => rfl
  obtain ⟨ss, hss⟩ : ∃ ss, sb s = ss := ⟨_, rfl⟩
  rw [hss]
  go_enter Try.func15, Try.ntmps15
  go_wp2_with (first
    | ((with_reducible show wpList _ _ _ (⟨_, .box 9 _, _, _, _, _⟩ :: _) _ _); refine wpL_box rfl _ _ rfl (.string ss) rfl [.string ss] rfl ?_; intro w1 HB1 HF1 HS1)
    | fail)
  go_ret
  exact ⟨rfl, HB1.out, HF1.out, HS1.out⟩
/-- What the rounds are handed. -/
def yl (s : B) : List (Array Value) := (cut s).1.map (fun f => #[.string (sb f), .bool true]) ++ match (cut s).2 with
  | none => [#[.string (sb []), .bool false]]
  | some _ => []
theorem yl_ok {s : B} {n : Nat} (h : szF s = .ok n) : yl s = #[.string (sb (s.take n)), .bool true] :: yl (s.drop n) := by
  unfold yl
  rw [cut_ok h]
  rfl
theorem yl_wait {s : B} (h : szF s = .error 92) : yl s = [] := by unfold yl; rw [cut_wait h]; rfl
theorem yl_bad {s : B} {e : Nat} (h : szF s = .error e) (he : e ≠ 92) : yl s = [#[.string (sb []), .bool false]] := by unfold yl; rw [cut_bad h he]; rfl
/-- How long the text is that lies there. -/
def lenAt (b : Nat) (w : World) : Nat := match w.cell? ⟨b, 0, none⟩ with
  | some (.string s) => s.size
  | _ => 0
theorem lenAt_blk {w : World} {b : Nat} {t : TypeId} {s : B} (h : Blk w b t [.string (sb s)]) : lenAt b w = s.length := by
  unfold lenAt
  rw [show w.cell? ⟨b, 0, none⟩ = some (.string (sb s)) from h.cell 0]
  exact sb_size s
theorem drop_cons {α : Type} {l : List α} {k : Nat} {x : α} {r : List α} (h : l.drop k = x :: r) : l[k]? = some x ∧ l.drop (k + 1) = r ∧ k < l.length := by
  have h0 : (l.drop k)[0]? = some x := by rw [h]; rfl
  rw [List.getElem?_drop, Nat.add_zero] at h0
  refine ⟨h0, ?_, (List.getElem?_eq_some_iff.1 h0).1⟩
  rw [← List.drop_drop, h]
  rfl
theorem blk_same {w w' : World} {b : Nat} {t : TypeId} {cs : List Value} (h : Blk w b t cs) (e : w'.heap[b]? = w.heap[b]?) : Blk w' b t cs := e.trans h
set_option maxHeartbeats 4000000 in
theorem complete_seq (bx : Nat) (s : B) (hs : s.length ≤ 281474976710656) (w : World) (hb : Blk w bx 9 [.string (sb s)]) :
    SeqX Try.prog 20 #[.pointer (some ⟨bx, 0, none⟩)] (yl s) bx w := by
  intro l J Jx W hW hWb hJ hJx hY h0
  have HB := hid (blk_same hb hWb)
  have HS := hid hs
  clear hb hWb hs
  refine callsIn_of_wp Try.func20 rfl trivial ?_ rfl
  simp only [Try.ntmps20, List.size_toArray, List.length_cons, List.length_nil, Nat.reduceAdd, Nat.reduceSub, Array.replicate_succ, Array.replicate_zero, List.push_toArray, List.append_toArray, List.nil_append, List.cons_append]
  gi_wp2
  gi_loopw [3] (fun _ wr => ∃ (k : Nat) (rest : B), (yl s).drop k = yl rest ∧ k ≤ (yl s).length ∧ rest.length ≤ s.length ∧ J k wr ∧ Hid (Blk wr bx 9 [.string (sb rest)])) (fun _ wr => lenAt bx wr)
  case atStart => exact ⟨0, s, rfl, Nat.zero_le _, Nat.le_refl _, h0, HB⟩
  case round =>
    obtain ⟨k, rest, hyl, hk, hrl, hJs, HR⟩ := hrel
    have HYL := hid hyl; have HK := hid hk; have HRL := hid hrl
    have c1 : wr.cell? ⟨bx, 0, none⟩ = some (.string (sb rest)) := HR.out.cell 0
    clear hyl hk hrl
    cases hz : szF rest with
    | error e =>
      have hzn : szN rest = (0, e) := by unfold szN; rw [hz]
      by_cases he : e = 92
      · subst he
        have hend := HYL.out
        rw [yl_wait hz, List.drop_eq_nil_iff] at hend
        have HE := hid (show k = (yl s).length by have := HK.out; omega)
        have hyl := HYL.out
        clear hz hend
        gi_wp2_with fail
        refine ⟨trivial, (callsIn_wide.2 (size_any rest wr (by have := HRL.out; have := HS.out; omega))).mono ?_⟩
        rintro e2 w2 ⟨rfl, f2⟩
        rw [hzn]
        have HF := hid f2
        clear f2
        show (match Ending.returned (Value.tuple #[.int .i64 0, .int .i64 92]), w2 with | _, _ => _)
        gi_wp2_with fail
        refine bodyPost_ret (results_none rfl _ _ _) rfl ?_
        exact ⟨⟨_, rfl⟩, .inl (by rw [← HE.out]; exact hJ _ _ _ hJs HF.out.no)⟩
      · have he0 : e ≠ 0 := by
          intro h0
          subst h0
          match rest, hz with
          | [], hz => cases hz
          | t :: r, hz =>
            unfold szF at hz
            simp only at hz
            split at hz
            · split at hz
              · rename_i hd
                cases hz
                exact hd_pos hd rfl
              · split at hz <;> cases hz
            · cases hz
        have hend := HYL.out
        rw [yl_bad hz he] at hend
        obtain ⟨hx, htl, hkl⟩ := drop_cons hend
        rw [List.drop_eq_nil_iff] at htl
        have HE := hid (show k + 1 = (yl s).length by omega)
        have he92 : ((e : Int) == 92) = false := by simp; omega
        have hei : ((e : Int) == 0) = false := by simp; omega
        have HX := hid hx
        clear hz hend hx htl hkl he he0
        gi_wp2_with fail
        refine ⟨trivial, (callsIn_wide.2 (size_any rest wr (by have := HRL.out; have := HS.out; omega))).mono ?_⟩
        rintro e2 w2 ⟨rfl, f2⟩
        rw [hzn]
        obtain ⟨fn, tmps, assign, body, hy, hR⟩ := hY k _ w2 (hJ _ _ _ hJs f2.no) HX.out
        have hsb : sb [] = ⟨#[]⟩ := rfl
        rw [hsb] at hy
        clear f2
        show (match Ending.returned (Value.tuple #[.int .i64 0, .int .i64 (e : Int)]), w2 with | _, _ => _)
        gi_wp2_with fail
        refine hR.mono ?_
        rintro e3 W3 (⟨rfl, hJ3, -, -⟩ | ⟨rfl, hJx3⟩)
        · gi_wp2_with fail
          refine bodyPost_ret (results_none rfl _ _ _) rfl ?_
          exact ⟨⟨_, rfl⟩, .inl (by rw [← HE.out]; exact hJ3)⟩
        · gi_wp2_with fail
          refine bodyPost_ret (results_none rfl _ _ _) rfl ?_
          exact ⟨⟨_, rfl⟩, .inr ⟨_, hJx3⟩⟩
    | ok n =>
      have hzn : szN rest = (n, 0) := by unfold szN; rw [hz]
      obtain ⟨hn2, hnl, -⟩ := sz_ok hz
      have hend := HYL.out
      rw [yl_ok hz] at hend
      obtain ⟨hx, htl, hkl⟩ := drop_cons hend
      have HX := hid hx; have HTL := hid htl; have HKL := hid hkl; have HN := hid (show 2 ≤ n ∧ n ≤ rest.length from ⟨hn2, hnl⟩)
      have hto := slice_to rest n hnl
      have hfr := slice_from rest n hnl
      clear hz hend hx htl hkl hn2 hnl
      gi_wp2_with fail
      refine ⟨trivial, (callsIn_wide.2 (size_any rest wr (by have := HRL.out; have := HS.out; omega))).mono ?_⟩
      rintro e2 w2 ⟨rfl, f2⟩
      rw [hzn]
      obtain ⟨fn, tmps, assign, body, hy, hR⟩ := hY k _ w2 (hJ _ _ _ hJs f2.no) HX.out
      have HB2 := hid (HR.out.fr f2 id)
      have c2 : w2.cell? ⟨bx, 0, none⟩ = some (.string (sb rest)) := HB2.out.cell 0
      clear f2 c1
      show (match Ending.returned (Value.tuple #[.int .i64 (n : Int), .int .i64 0]), w2 with | _, _ => _)
      gi_wp2_with fail
      refine hR.mono ?_
      rintro e3 W3 (⟨rfl, hJ3, -, hk3⟩ | ⟨rfl, hJx3⟩)
      · have HB3 := hid (blk_same HB2.out hk3)
        have c3 : W3.cell? ⟨bx, 0, none⟩ = some (.string (sb rest)) := HB3.out.cell 0
        have f3 : W3.frozen? ⟨bx, 0, none⟩ = false := HB3.out.frozen 0
        clear c2 hk3
        gi_wp2_with fail
        have HB4 : Blk (W3.setCell ⟨bx, 0, none⟩ (.string (sb (rest.drop n)))) bx 9 [.string (sb (rest.drop n))] := HB3.out.set 0 _
        go_roundw
        case rel => exact ⟨k + 1, rest.drop n, HTL.out, HKL.out, by have := HRL.out; rw [List.length_drop]; omega, hJ _ _ _ hJ3 ((Fr.refl _ _).setCell _ _ (.inl rfl)), hid HB4⟩
        case measure =>
          rw [lenAt_blk HB4, lenAt_blk HR.out, List.length_drop]
          have := HN.out
          omega
      · gi_wp2_with fail
        refine bodyPost_ret (results_none rfl _ _ _) rfl ?_
        exact ⟨⟨_, rfl⟩, .inr ⟨_, hJx3⟩⟩
end Go.Proofs.Ytoikiokcpakokaa.FR
