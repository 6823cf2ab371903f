/-
  Package ber: how deep an element is.
-/
import Derived.Test.YtoikiokcpakokaaBeC
set_option linter.unusedVariables false
set_option linter.unusedSimpArgs false
namespace Go.Proofs.Ytoikiokcpakokaa.BE
set_option maxRecDepth 100000
open Go.RowKit K

/-- It holds, and nothing but new blocks came; or it fails. -/
def Holds (b : Bool) (c : Nat) (w : World) (e : Ending) (w' : World) : Prop := Fr No w w' ∧ ((b = true ∧ e = .returned (.tuple #[])) ∨ (b = false ∧ e = .panicked [fl c]))
theorem musts_holds {b : Bool} {c : Nat} {w : World} {e : Ending} {w' : World} (h : Musts b c w e w') : Holds b c w e w' := by
  obtain ⟨rfl, h⟩ := h
  exact ⟨Fr.refl _ _, h⟩
theorem box_kid (c : List Value) (h : c.length = 3) : ∃ x y z, c = [x, y, z] := by
  match c, h with
  | [x, y, z], _ => exact ⟨x, y, z, rfl⟩
theorem all_take {p : Nd → Bool} {l : List Nd} {i : Nat} {x : Nd} (hx : l[i]? = some x) (h : (l.take i).all p = true) (hp : p x = true) : (l.take (i + 1)).all p = true := by
  rw [List.take_add_one, hx]
  simp [h, hp]
theorem all_not {p : Nd → Bool} {l : List Nd} {i : Nat} {x : Nd} (hx : l[i]? = some x) (hp : p x = false) : l.all p = false := by
  rw [List.all_eq_false]
  exact ⟨x, List.mem_of_getElem? hx, by simp [hp]⟩
set_option maxHeartbeats 4000000 in
theorem checkDepth_any : ∀ (m M N : Nat) (n : Nd) (cs : List Value) (w : World), m ≤ 8 → NdAt M (Lo N) w n cs → N ≤ w.heap.size → Calls Try.prog 33 #[.agg cs.toArray, .int .i64 ((9 - m : Nat) : Int)] w (Holds (deep m n) 91 w) := by
  intro m
  induction m with
  | zero =>
    intro M N n cs w _ hn hN
    obtain ⟨x, y, z, hcs⟩ := box_kid cs hn.len
    subst hcs
    go_enter Try.func33, Try.ntmps33
    go_wp2_with (first
      | ((with_reducible show wpList _ _ _ (⟨_, .box 40 _, _, _, _, _⟩ :: _) _ _); refine wpL_box rfl _ _ rfl _ rfl [x, y, z] rfl ?_; intro w1 HB1 F1 HS1)
      | ((with_reducible show wpList _ _ _ (⟨_, .box 3 _, _, _, _, _⟩ :: _) _ _); refine wpL_box rfl _ _ rfl _ rfl [.int .i64 9] rfl ?_; intro w2 HB2 F2 HS2; have c2 : w2.cell? ⟨w1.heap.size, 0, none⟩ = some (.int .i64 9) := HB2.out.cell 0))
    refine (must_any false 91 w2).mono ?_
    rintro e w3 ⟨rfl, h⟩
    rcases h with ⟨h, _⟩ | ⟨_, rfl⟩
    · cases h
    exact ⟨rfl, F1.out.trans' F2.out, .inr ⟨rfl, rfl⟩⟩
  | succ m ih =>
    intro M N n cs w hm hn hN
    obtain ⟨x, y, z, hcs⟩ := box_kid cs hn.len
    subst hcs
    obtain ⟨M, rfl⟩ : ∃ k, M = k + 1 := by
      cases M with
      | zero => exact hn.elim
      | succ k => exact ⟨k, rfl⟩
    have HN := hid hn; have HIH := hid ih; have HNN := hid hN; have HM := hid hm
    have hd : ((9 - (m + 1) : Nat) : Int) = 8 - m := by omega
    have hd8 : (8 - (m : Int)) ≤ 8 := by omega
    have hd0 : 0 ≤ (8 - (m : Int)) := by omega
    rw [hd]
    clear hn ih hN hd hm
    generalize hq : 8 - (m : Int) = q at *
    have HQ := hid hq
    clear hq
    have hmf : ∀ (fn : Fn) (first cap : Array Value) (w : World), (Instr.makeFunc fn first cap).run Try.prog w = .ok (.func fn first cap) w := fun _ _ _ _ => rfl
    go_enter Try.func33, Try.ntmps33
    go_wp2_with (first
      | ((with_reducible show wpList _ _ _ (⟨_, .box 40 _, _, _, _, _⟩ :: _) _ _); refine wpL_box rfl _ _ rfl _ rfl [x, y, z] rfl ?_; intro w1 HB1 F1 HS1)
      | ((with_reducible show wpList _ _ _ (⟨_, .box 3 _, _, _, _, _⟩ :: _) _ _); refine wpL_box rfl _ _ rfl _ rfl [.int .i64 q] rfl ?_; intro w2 HB2 F2 HS2; have c2 : w2.cell? ⟨w1.heap.size, 0, none⟩ = some (.int .i64 q) := HB2.out.cell 0))
    refine (must_any true 91 w2).mono ?_
    rintro e w3 ⟨rfl, h⟩
    rcases h with ⟨_, rfl⟩ | ⟨h, _⟩
    · have HB1' := hid (HB1.out.fr F2.out id)
      go_wp2_with (first
        | ((with_reducible show wpList _ _ _ (⟨_, .load 40 _, _, _, _, _⟩ :: _) _ _); refine wpL_load rfl _ _ rfl w.heap.size 0 rfl [x, y, z] _ (HB1'.out.range 0 _ rfl) rfl rfl infoN ?_))
      have hf2 : Fr No w w3 := F1.out.trans' F2.out
      have HF2 := hid hf2
      refine (children_any M N n [x, y, z] 39 [.pointer (some ⟨w1.heap.size, 0, none⟩)] (fun i w' => Fr No w3 w' ∧ (n.kids.take i).all (deep m) = true) (fun c w' => c = 91 ∧ n.kids.all (deep m) = false ∧ Fr No w3 w') w3 (HN.out.no hf2) (Nat.le_trans HNN.out hf2.size) (fun vs w => by kernel_rfl) ⟨Fr.refl _ _, rfl⟩ (fun i a b h hf => ⟨h.1.trans' hf, h.2⟩) ?_).mono ?_
      · intro i k c wv hx hk hi hs
        have hcv : wv.cell? ⟨w1.heap.size, 0, none⟩ = some (.int .i64 q) := hi.1.cell c2 id
        have HI := hid hi; have HX := hid hx; have HK := hid hk; have HS := hid (show N ≤ wv.heap.size by have := HNN.out; have := hf2.size; omega)
        obtain ⟨x', y', z', hc⟩ := box_kid c hk.len
        subst hc
        have hq1 : q + 1 = ((9 - m : Nat) : Int) := by have := HQ.out; have := HM.out; omega
        have HQ1 := hid hq1
        clear hi hx hk hs hf2 c2 hq1
        show Calls Try.prog _ #[.agg #[x', y', z'], .pointer (some ⟨w1.heap.size, 0, none⟩)] wv _
        go_enter Try.func39, Try.ntmps39
        go_wp2_with (first
          | ((with_reducible show wpList _ _ _ (⟨_, .box 40 _, _, _, _, _⟩ :: _) _ _); refine wpL_box rfl _ _ rfl _ rfl [x', y', z'] rfl ?_; intro v1 HB3 F3 HS3; have c3 : v1.cell? ⟨w1.heap.size, 0, none⟩ = some (.int .i64 q) := F3.out.cell hcv id)
          | ((with_reducible show wpList _ _ _ (⟨_, .load 40 _, _, _, _, _⟩ :: _) _ _); refine wpL_load rfl _ _ rfl wv.heap.size 0 rfl [x', y', z'] _ (HB3.out.range 0 _ rfl) rfl rfl infoN ?_))
        rw [HQ1.out]
        refine (HIH.out M N k [x', y', z'] v1 (by have := HM.out; omega) (HK.out.no F3.out) (Nat.le_trans HS.out F3.out.size)).mono ?_
        rintro e v2 ⟨fv, hv⟩
        have ff : Fr No wv v2 := F3.out.trans' fv
        rcases hv with ⟨hd, rfl⟩ | ⟨hd, rfl⟩
        · go_wp2_with fail
          go_end0
          exact ⟨ff.no, .inl ⟨rfl, HI.out.1.trans' ff, all_take HX.out HI.out.2 hd⟩⟩
        · exact ⟨rfl, ff.no, .inr ⟨_, rfl, rfl, all_not HX.out hd, HI.out.1.trans' ff⟩⟩
      · rintro e v hv
        rcases hv with ⟨rfl, hf, ha⟩ | ⟨c, rfl, rfl, ha, hf⟩
        · go_wp2_with fail
          go_end0
          rw [List.take_length] at ha
          exact ⟨HF2.out.trans' hf, .inl ⟨ha, rfl⟩⟩
        · exact ⟨rfl, HF2.out.trans' hf, .inr ⟨ha, rfl⟩⟩
    · cases h
end Go.Proofs.Ytoikiokcpakokaa.BE
