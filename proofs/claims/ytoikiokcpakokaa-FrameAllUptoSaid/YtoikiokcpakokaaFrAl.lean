/-
  FrameAll: nothing is lost, and nothing made up.
-/
import Derived.Test.YtoikiokcpakokaaFrW
set_option linter.unusedVariables false
set_option linter.unusedSimpArgs false
namespace Go.Proofs.Ytoikiokcpakokaa.FR
set_option maxRecDepth 100000
open Go.RowKit K Go.Proofs.Ytoikiokcpakokaa.BE

/-- What a chunk does to Frames that live. -/
theorem fd_live {q c : B} : ∃ L rest, fdF ⟨q, false⟩ c = L ∧ q ++ c = L.flatten ++ rest ∧ (∀ f ∈ L, 2 ≤ f.length ∧ ∃ r, f = 48 :: r) ∧ 2 * L.length ≤ q.length + c.length ∧
    ((fdE ⟨q, false⟩ c = 0 ∧ fdS ⟨q, false⟩ c = ⟨rest, false⟩) ∨ (fdE ⟨q, false⟩ c = 100 ∧ fdS ⟨q, false⟩ c = ⟨[], true⟩)) := by
  obtain ⟨⟨rest, h1, h2⟩, h3⟩ := cut_all (q ++ c).length (q ++ c) (Nat.le_refl _)
  have h4 := (cut_count (q ++ c)).1
  rw [List.length_append] at h4
  cases hr : (cut (q ++ c)).2 with
  | none =>
    obtain ⟨f1, f2, f3⟩ := fd_none (q := q) (c := c) (fs := (cut (q ++ c)).1) (by rw [← hr])
    exact ⟨_, rest, f2, h1, h3, h4, .inr ⟨f1, f3⟩⟩
  | some r =>
    obtain ⟨f1, f2, f3⟩ := fd_some (q := q) (c := c) (fs := (cut (q ++ c)).1) (r := r) (by rw [← hr])
    have := h2 r hr
    subst this
    exact ⟨_, r, f2, h1, h3, h4, .inl ⟨f1, f3⟩⟩
theorem flat_take_le (L : List B) (k : Nat) : (L.take k).flatten.length ≤ L.flatten.length := by
  have h : L.flatten = (L.take k).flatten ++ (L.drop k).flatten := by rw [← List.flatten_append, List.take_append_drop]
  rw [h, List.length_append]
  omega
set_option maxHeartbeats 16000000 in
theorem frameAll_walk (v0 : Value) (X : List B) (w : World) (h0 : TxIn w (fun k => k < w.heap.size) v0 X) (hX : ∀ x ∈ X, x.length ≤ 1073741824) : Calls Try.prog 6 #[v0] w fun e w' => e = .returned (.bool true) ∧ Fr No w w' := by
  obtain ⟨a0, n0, c0, rfl, hn0, -, hA0⟩ := h0
  have HN0 := hid hn0; have HA0 := hid hA0; have HX := hid hX
  clear hn0 hA0 hX
  go_enter Try.func6, Try.ntmps6
  go_wp2_with fail
  refine (awake_any w).mono ?_
  rintro e w1 ⟨rfl, f1⟩
  have F1 := hid f1
  clear f1
  go_wp2_with fail
  refine (new_any w1).mono ?_
  rintro e w2 ⟨rfl, hb2, f2, hs2⟩
  obtain ⟨bf, hbf⟩ : ∃ x, w1.heap.size = x := ⟨_, rfl⟩
  rw [hbf] at hb2 ⊢
  have HI0 : Hid (FrAt w2 bf Fs.new ∧ Fr No w w2) := hid ⟨hb2, F1.out.trans' f2⟩
  have HN : Hid (w.heap.size ≤ bf) := hid (by have := F1.out.size; omega)
  have he0 : (.string ⟨#[]⟩ : Value) = .string (sb ([] : B)) := rfl
  have HE0 := hid he0
  clear hb2 f2 hs2 hbf F1 he0
  go_wp2_with fail
  go_loopw [5, 6, 7] (fun cv tv iv wr => ∃ (i : Nat) (T q : B), cv = .string (sb (T ++ q)) ∧ tv = .string (sb T) ∧ iv = .int .i64 i ∧ i ≤ 100 ∧ Hid ((T ++ q).length ≤ 1073741824 * i ∧ FrAt wr bf ⟨q, false⟩ ∧ Fr No w wr)) (fun _ _ iv _ => 100 - (intOf iv).toNat)
  case atStart => exact ⟨0, [], [], rfl, rfl, rfl, by omega, hid ⟨Nat.zero_le _, HI0.out⟩⟩
  case round =>
    clear HI0
    obtain ⟨i, T, q, rfl, rfl, rfl, hi, HI⟩ := hrel
    by_cases hlt : i < n0 ∧ i < 100
    · have h1 : (i : Int) < n0 := by omega
      have h2 : (i : Int) < 100 := by omega
      obtain ⟨g, o, rfl, hg0, hg1, hr⟩ := HA0.out.resolve_left (by omega)
      have hiX : i < X.length := by rw [HN0.out]; exact hlt.1
      obtain ⟨x, hx⟩ : ∃ x, X[i] = x := ⟨_, rfl⟩
      have HCX : Hid (∀ w9, Fr No w w9 → w9.cell? ⟨g, o + i, none⟩ = some (.string (sb x))) := hid fun w9 f9 => by rw [← hx]; exact cell_tx (f9.range hr id) hiX
      have k1 := HCX.out wr HI.out.2.2
      have hxl : x.length ≤ 1073741824 := by rw [← hx]; exact HX.out _ (List.getElem_mem _)
      have HFL := hid (show (T ++ q).length + x.length ≤ 1073741824 * (i + 1) by have := HI.out.1; omega)
      have HLT := hid hlt
      obtain ⟨L, rest, hL, hall, hfr, hcnt, hor⟩ := fd_live (q := q) (c := x)
      obtain ⟨n, hn⟩ : ∃ n, fdE ⟨q, false⟩ x = n := ⟨_, rfl⟩
      obtain ⟨f', hf'⟩ : ∃ f', fdS ⟨q, false⟩ x = f' := ⟨_, rfl⟩
      rw [hn, hf'] at hor
      have HL := hid hL; have HE := hid hn; have HS := hid hf'; have HALL := hid hall; have HFR := hid hfr; have HOR := hid hor
      have HCNT := hid (show L.length ≤ 1073741824 * 200 by have := HFL.out; rw [List.length_append] at this; omega)
      clear hr hg0 hg1 hlt hx hxl hL hn hf' hall hfr hcnt hor
      go_wp2_with fail
      refine (feed_at bf ⟨q, false⟩ x wr L n f' HI.out.2.1 (by have := HFL.out; rw [List.length_append] at this; show q.length + x.length ≤ _; omega) HL.out HE.out HS.out).mono ?_
      rintro e w4 ⟨a4, c4, rfl, ht4, hb4, f4⟩
      have hw4 : Fr No w w4 := HI.out.2.2.trans f4 fun k e => .inr (by have e : k = bf := e; have := HN.out; omega)
      have k2 := HCX.out w4 hw4
      have HT4 := hid ht4; have HB4 := hid hb4; have HW4 := hid hw4
      obtain ⟨C, hC⟩ : ∃ C, T ++ q ++ x = C := ⟨_, rfl⟩
      have HC := hid hC
      have HCA : Hid (C = T ++ L.flatten ++ rest) := hid (by rw [← hC, List.append_assoc, HALL.out, List.append_assoc])
      obtain ⟨m, hm⟩ : ∃ m, L.length = m := ⟨_, rfl⟩
      rw [hm] at ht4 ⊢
      have HM := hid hm
      have hmi : (m : Int) ≤ 214748364800 := by have := HCNT.out; omega
      have HCL := hid (show C.length ≤ 1073741824 * (i + 1) by rw [← hC, List.length_append]; exact HFL.out)
      obtain ⟨a, len, cap, e1, e2, -, hA⟩ := ht4
      simp only [Value.slice.injEq] at e1
      obtain ⟨rfl, rfl, rfl⟩ := e1
      have HA := hid hA
      clear hb4 f4 hw4 k1 hC hm hA e2
      go_wp2_with (first
        | ((with_reducible show wpList _ _ _ (⟨_, .binOp .add 9 _ _ _, _, _, _, _⟩ :: _) _ _); refine wpL_valZ (by rfl) (.string (sb C)) (exec_addS _ _ _ rfl (T ++ q) x rfl rfl (by have := HFL.out; omega) C HC.out _) ?_)
        | fail)
      have ht0 : (.string (sb T) : Value) = .string (sb (T ++ (L.take 0).flatten)) := by simp
      have HT0 := hid ht0
      clear ht0
      go_loopw [6, 10] (fun tv kv wx => ∃ k : Nat, tv = .string (sb (T ++ (L.take k).flatten)) ∧ kv = .int .i64 k ∧ k ≤ m ∧ wx = w4) (fun _ kv _ => m - (intOf kv).toNat)
      case atStart => exact ⟨0, HT0.out, rfl, Nat.zero_le _, rfl⟩
      case round =>
        obtain ⟨k, rfl, rfl, hk, rfl⟩ := hrel
        by_cases hkm : k < m
        · obtain ⟨g', o', rfl, -, hg', hr'⟩ := HA.out.resolve_left (by omega)
          have hkL : k < L.length := by rw [HM.out]; exact hkm
          have k3 := cell_tx hr' hkL
          obtain ⟨F, hF⟩ : ∃ F, L[k] = F := ⟨_, rfl⟩
          rw [hF] at k3
          obtain ⟨hF2, r', hFr⟩ := HFR.out F (by rw [← hF]; exact List.getElem_mem _)
          have H0 : Hid (F[0]? = some (48 : UInt8)) := hid (by rw [hFr]; rfl)
          obtain ⟨fl, hfl⟩ : ∃ fl, F.length = fl := ⟨_, rfl⟩
          have hsz : ((sb F).size : Int) = fl := by rw [sb_size, hfl]
          have hfl2 : ¬ (fl : Int) < 2 := by omega
          have htk : T ++ (L.take k).flatten ++ F = T ++ (L.take (k + 1)).flatten := by
            rw [List.append_assoc, List.take_succ_eq_append_getElem hkL, hF, List.flatten_append]
            simp
          have htl := flat_take_le L (k + 1)
          have hcl := HCL.out
          rw [HCA.out, List.length_append, List.length_append] at hcl
          obtain ⟨U, hU⟩ : ∃ U, T ++ (L.take k).flatten = U := ⟨_, rfl⟩
          obtain ⟨V, hV⟩ : ∃ V, T ++ (L.take (k + 1)).flatten = V := ⟨_, rfl⟩
          have hUV : U ++ F = V := by rw [← hU, ← hV]; exact htk
          have HUV := hid hUV
          have HVL := hid (show V.length ≤ 1073741824 * (i + 1) by rw [← hV, List.length_append]; omega)
          have HVE := hid hV
          rw [hU]
          have hkmi : (k : Int) < m := by omega
          have hidx : ∀ (op : Oper) (a : Act) (x y : Operand), op.op = .index 9 x y → a.eval x = .string (sb F) → a.eval y = .int .i64 0 → ∀ W, (execOp a.eval op).run Try.prog W = .ok (.value (.int .u8 48)) W := fun op a x y ho hx hy W => exec_idx x y ho F 0 48 H0.out 0 rfl hx hy W
          have HIX := hid hidx
          have HKM := hid hkm
          clear hidx hr' hg' hkm hkL hF hF2 hFr hfl htk htl hcl hU hV hUV k2
          go_wp2_with (first
            | ((with_reducible show wpList _ _ _ (⟨_, .index 9 _ _, _, _, _, _⟩ :: _) _ _); refine wpL_valZ (by rfl) (.int .u8 48) (HIX.out _ _ _ _ rfl rfl rfl _) ?_)
            | ((with_reducible show wpList _ _ _ (⟨_, .binOp .add 9 _ _ _, _, _, _, _⟩ :: _) _ _); refine wpL_valZ (by rfl) (.string (sb V)) (exec_addS _ _ _ rfl U F rfl rfl (by have := HVL.out; rw [← HUV.out, List.length_append] at this; omega) V HUV.out _) ?_)
            | fail)
          go_roundw
          case rel => exact ⟨k + 1, by rw [HVE.out], by go_num, HKM.out, trivial⟩
          case measure => have := HKM.out; simp [intOf]; omega
        · obtain rfl : k = m := by omega
          have htk : (L.take k).flatten = L.flatten := by rw [List.take_of_length_le (by rw [HM.out]; exact Nat.le_refl _)]
          rw [htk]
          obtain ⟨U, hU⟩ : ∃ U, T ++ L.flatten = U := ⟨_, rfl⟩
          have HU := hid hU
          have hCU : C = U ++ rest := by rw [HCA.out, ← hU]
          have HCU := hid hCU
          obtain ⟨tl, htl⟩ : ∃ tl, U.length = tl := ⟨_, rfl⟩
          obtain ⟨cl, hcl⟩ : ∃ cl, C.length = cl := ⟨_, rfl⟩
          obtain ⟨rl, hrl⟩ : ∃ rl, rest.length = rl := ⟨_, rfl⟩
          have hcll : cl = tl + rl := by rw [← htl, ← hcl, ← hrl, hCU, List.length_append]
          have hcb := HCL.out
          rw [hcl] at hcb
          have HTL := hid htl
          have HCLE := hid (show tl ≤ C.length by rw [hcl]; omega)
          have hsT : ((sb U).size : Int) = tl := by rw [sb_size, htl]
          have hsC : ((sb C).size : Int) = cl := by rw [sb_size, hcl]
          have hcli : (cl : Int) = tl + rl := by omega
          have hcbi : (cl : Int) ≤ 108447924224 := by omega
          have hrbi : (rl : Int) ≤ 108447924224 := by omega
          have htbi : (tl : Int) ≤ 108447924224 := by omega
          have HCLI := hid hcli
          have hrl0 : (0 : Int) ≤ rl := by omega
          have htl0 : (0 : Int) ≤ tl := by omega
          have HTK : Hid (C.take tl = U) := hid (by rw [hCU, ← htl, List.take_left])
          have HRL := hid hrl
          rw [hU]
          clear hkm htk hU hCU htl hcl hrl hcll hcb k2 hcli
          rcases HOR.out with ⟨rfl, rfl⟩ | ⟨rfl, rfl⟩
          · go_wp2_with fail
            refine (waiting_any bf _ _ HB4.out).mono ?_
            rintro e w5 ⟨rfl, rfl⟩
            show (match Ending.returned (Value.int .i64 (rest.length : Int)), w5 with | _, _ => _)
            rw [HRL.out]
            have hg3 : (tl : Int) + rl = cl := by have := HCLI.out; omega
            go_wp2_with (first
              | ((with_reducible show wpList _ _ _ (⟨_, .slice 9 _ _ _ _, _, _, _, _⟩ :: _) _ _); refine wpL_valZ (by rfl) (.string (sb U)) (exec_to _ _ rfl C tl rfl rfl HCLE.out U HTK.out _) ?_)
              | ((with_reducible show wpList _ _ _ (⟨_, .binOp .neq 9 _ _ _, _, _, _, _⟩ :: _) _ _); refine wpL_valZ (by rfl) (.bool false) ((exec_neS _ _ _ rfl U U rfl rfl _).trans (by simp)) ?_)
              | fail)
            go_roundw
            case rel => exact ⟨i + 1, U, rest, by rw [HCU.out], rfl, by go_num, by have := HLT.out; omega, hid ⟨by rw [← HCU.out]; exact HCL.out, HB4.out, HW4.out⟩⟩
            case measure => have := HLT.out; simp [intOf]; omega
          · go_wp2_with fail
            refine (waiting_any bf _ _ HB4.out).mono ?_
            rintro e w5 ⟨rfl, rfl⟩
            show (match Ending.returned (Value.int .i64 0), w5 with | _, _ => _)
            have hg1 : (tl : Int) ≤ (cl : Int) := by have := HCLI.out; omega
            have hg1n : tl ≤ cl := by omega
            have hg1d : ¬ cl < tl := by omega
            go_wp2_with (first
              | ((with_reducible show wpList _ _ _ (⟨_, .slice 9 _ _ _ _, _, _, _, _⟩ :: _) _ _); refine wpL_valZ (by rfl) (.string (sb U)) (exec_to _ _ rfl C tl rfl rfl HCLE.out U HTK.out _) ?_)
              | ((with_reducible show wpList _ _ _ (⟨_, .binOp .neq 9 _ _ _, _, _, _, _⟩ :: _) _ _); refine wpL_valZ (by rfl) (.bool false) ((exec_neS _ _ _ rfl U U rfl rfl _).trans (by simp)) ?_)
              | fail)
            go_ret
            exact ⟨rfl, HW4.out⟩
    · have hstep : ¬ ((i : Int) < n0 ∧ (i : Int) < 100) := by omega
      by_cases h1 : (i : Int) < n0
      · have h2 : ¬ (i : Int) < 100 := fun h => hstep ⟨h1, h⟩
        clear hlt hstep
        go_wp2_with fail
        go_ret
        exact ⟨rfl, HI.out.2.2⟩
      · clear hlt hstep
        go_wp2_with fail
        go_ret
        exact ⟨rfl, HI.out.2.2⟩
end Go.Proofs.Ytoikiokcpakokaa.FR
