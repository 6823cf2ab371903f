/-
  The program's ParseUint of two hexadecimal digits; escapes.
-/
import Derived.Test.YthjmkfpdbbfcpaaGreatDoorDnC
import Derived.Test.YthjmkfpdbbfcpaaGreatDoorDnI
set_option linter.unusedVariables false
set_option linter.unusedSimpArgs false
namespace Go.Proofs.YthjmkfpdbbfcpaaGreatDoor.DN
set_option maxRecDepth 100000
open Go.RowKit K Go.Proofs.YthjmkfpdbbfcpaaGreatDoor.BE

/-- A byte's small letter, as a number. -/
def lw (c : UInt8) : Nat := (c ||| 32).toNat
theorem or_lw (c : UInt8) : bits .or .u8 (c.toNat : Int) 32 = (lw c : Int) := by
  have h : ∀ n : Fin 256, bits .or .u8 (n.val : Int) 32 = ((((UInt8.ofNat n.val) ||| 32).toNat : Nat) : Int) := by decide +kernel
  have := h ⟨c.toNat, UInt8.toNat_lt c⟩
  simpa [lw] using this
theorem lower_any (c : UInt8) (w : World) : Calls Tryz.prog 80 #[.int .u8 (c.toNat : Int)] w fun e w' => e = .returned (.int .u8 (lw c : Int)) ∧ w' = w := by
  have H := hid (or_lw c)
  obtain ⟨x, hx⟩ : ∃ x : Int, (c.toNat : Int) = x := ⟨_, rfl⟩
  rw [hx] at H ⊢
  rw [← H.out]
  clear hx H
  go_enter Tryz.func80, Tryz.ntmps80
  go_wp2
  go_ret
  exact ⟨rfl, rfl⟩
def hexB (c : UInt8) : Bool := (decide (48 ≤ c.toNat ∧ c.toNat ≤ 57) && (hexv c == some (c - 48)) && ((c - 48).toNat == c.toNat - 48)) ||
    (!decide (48 ≤ c.toNat ∧ c.toNat ≤ 57) && decide (97 ≤ lw c ∧ lw c ≤ 102) && (match hexv c with | some d => d.toNat == lw c - 87 | none => false)) ||
    (!decide (48 ≤ c.toNat ∧ c.toNat ≤ 57) && decide (103 ≤ lw c ∧ lw c ≤ 122) && (hexv c == none)) || (!decide (48 ≤ c.toNat ∧ c.toNat ≤ 57) && !decide (97 ≤ lw c ∧ lw c ≤ 122) && (hexv c == none))
/-- A byte is a digit, a letter that is one, or none; its number is known. -/
theorem hex_facts (c : UInt8) : (48 ≤ c.toNat ∧ c.toNat ≤ 57 ∧ hexv c = some (c - 48) ∧ (c - 48).toNat = c.toNat - 48) ∨
    (¬ (48 ≤ c.toNat ∧ c.toNat ≤ 57) ∧ 97 ≤ lw c ∧ lw c ≤ 102 ∧ ∃ d : UInt8, hexv c = some d ∧ d.toNat = lw c - 87) ∨
    (¬ (48 ≤ c.toNat ∧ c.toNat ≤ 57) ∧ 103 ≤ lw c ∧ lw c ≤ 122 ∧ hexv c = none) ∨ (¬ (48 ≤ c.toNat ∧ c.toNat ≤ 57) ∧ ¬ (97 ≤ lw c ∧ lw c ≤ 122) ∧ hexv c = none) := by
  have h1 : hexB c = true := u8_all hexB (by decide +kernel) c
  unfold hexB at h1
  simp only [Bool.or_eq_true, Bool.and_eq_true, decide_eq_true_eq, Bool.not_eq_true', decide_eq_false_iff_not, beq_iff_eq] at h1
  rcases h1 with ((⟨⟨h1, h2⟩, h3⟩ | ⟨⟨h1, h2⟩, h3⟩) | ⟨⟨h1, h2⟩, h3⟩) | ⟨⟨h1, h2⟩, h3⟩
  · exact .inl ⟨h1.1, h1.2, h2, h3⟩
  · right; left
    refine ⟨h1, h2.1, h2.2, ?_⟩
    cases hq : hexv c with
    | none => rw [hq] at h3; cases h3
    | some d => rw [hq] at h3; exact ⟨d, rfl, by simpa using h3⟩
  · exact .inr (.inr (.inl ⟨h1, h2.1, h2.2, h3⟩))
  · exact .inr (.inr (.inr ⟨h1, h2, h3⟩))
theorem not95 {c : UInt8} (h : lw c ≤ 122) : c.toNat ≠ 95 := by
  have := u8_all (fun c => !decide (lw c ≤ 122) || !decide (c.toNat = 95)) (by decide +kernel) c
  simpa [h] using this
theorem hexv_lt {c d : UInt8} (h : hexv c = some d) : d.toNat < 16 := by
  have := u8_all (fun c => match hexv c with | some d => decide (d.toNat < 16) | none => true) (by decide +kernel) c
  rw [h] at this
  simpa using this
/-- The digits' number, a number ahead of them. -/
def hexs : Nat → B → Option Nat
  | n, [] => some n
  | n, c :: r => (hexv c).bind fun d => hexs (16 * n + d.toNat) r
theorem exec_geqI {op : Oper} {a : Act} (x y : Operand) (t u : TypeId) (ho : op.op = .binOp .geq t x y u) (k : IntKind) (m n : Int) (hx : a.eval x = .int k m) (hy : a.eval y = .int k n) (b : Bool) (hb : decide (n ≤ m) = b) (w : World) :
    (execOp a.eval op).run Tryz.prog w = .ok (.value (.bool b)) w := by
  subst hb
  unfold execOp
  simp only [ho, hx, hy]
  simp [go_sem, eqGuard, Result.andThen]
/-- What the inner ParseUint tells. -/
def puR : Option Nat → Value
  | some n => .tuple #[.int .u64 (n : Int), .nilIface]
  | none => .tuple #[.int .u64 0, .iface 106 (.int .i64 2)]
set_option maxRecDepth 100000 in
set_option maxHeartbeats 4000000 in
theorem iparse_any (x y : UInt8) (w : World) : Calls Tryz.prog 75 #[.string (sb [x, y]), .int .i64 16, .int .i64 8] w fun e w' => e = .returned (puR (hexs 0 [x, y])) ∧ Fr No w w' := by
  have hz : (sb [x, y]).size = 2 := rfl
  have hzl : (sb [x, y]).data.toList = [x, y] := rfl
  have hne : ((sb [x, y]).toList == ([] : B)) = false := by rw [ByteArray.toList_eq, hzl]; rfl
  have hnei : (sb [x, y]).toList.isEmpty = false := by rw [ByteArray.toList_eq, hzl]; rfl
  obtain ⟨S, hS⟩ : ∃ S, sb [x, y] = S := ⟨_, rfl⟩
  rw [hS] at hz hzl hne hnei ⊢
  have hszi : (S.size : Int) = 2 := by omega
  have HZL := hid hzl
  clear hzl hS
  obtain ⟨R, hR⟩ : ∃ R, hexs 0 [x, y] = R := ⟨_, rfl⟩
  rw [hR]
  have HR := hid hR
  clear hR
  go_enter Tryz.func75, Tryz.ntmps75
  go_wp2_with (first
    | ((with_reducible refine K.atO (.convert _ 49 _) ?_); refine wpL_bytesOf rfl _ _ _ _ rfl S rfl Tryz.underlying9 Tryz.underlying49 Tryz.underlying5 ?_; intro cp w1 HB1 HF1)
    | fail)
  rw [hz] at *
  clear hz hszi hne hnei
  have HFW := hid HF1.out
  clear HF1
  obtain ⟨g, hg⟩ : ∃ g, w.heap.size = g := ⟨_, rfl⟩
  have hbs := HB1.out
  rw [hg, HZL.out] at hbs
  obtain ⟨a, len, cap, e1, e2, e3, e4⟩ := hbs
  simp only [Value.slice.injEq] at e1
  obtain ⟨rfl, rfl, rfl⟩ := e1
  obtain ⟨g', o', e5, -, hgw, hrg⟩ := e4.resolve_left (by omega)
  simp only [Option.some.injEq, Addr.mk.injEq, and_true] at e5
  obtain ⟨rfl, rfl⟩ := e5
  have HRG := hid hrg
  rw [hg]
  clear e2 e3 e4 hrg HB1 hg
  go_loopw [12, 13, 101] (fun uv nv iv wr => ∃ (i n : Nat), uv = .bool false ∧ nv = .int .u64 n ∧ iv = .int .i64 i ∧ i ≤ 2 ∧ n < 256 ∧ (i = 0 → n = 0) ∧ (i ≤ 1 → n < 16) ∧ Hid (hexs n ([x, y].drop i) = R) ∧ wr = w1) (fun _ _ iv _ => 2 - (intOf iv).toNat)
  case atStart => exact ⟨0, 0, rfl, rfl, rfl, by omega, by omega, by omega, by omega, HR, rfl⟩
  case round =>
    obtain ⟨i, n, rfl, rfl, rfl, hi, hn, hn0', hn2, HX, rfl⟩ := hrel
    by_cases hlt : i < 2
    · obtain ⟨c, hc⟩ : ∃ c, [x, y][i]? = some c := ⟨_, List.getElem?_eq_getElem (by simpa using hlt)⟩
      have hdrop : [x, y].drop i = c :: [x, y].drop (i + 1) := by
        rw [List.drop_eq_getElem_cons (by simpa using hlt)]
        rw [List.getElem?_eq_getElem (by simpa using hlt)] at hc
        rw [Option.some.inj hc]
      have hX := HX.out
      rw [hdrop] at hX
      have HX2 : Hid ((hexv c).bind (fun d => hexs (16 * n + d.toNat) ([x, y].drop (i + 1))) = R) := hid hX
      have hcell : wr.cell? ⟨g, i, none⟩ = some (.int .u8 (c.toNat : Int)) := by
        have := HRG.out i (.int .u8 (c.toNat : Int)) (by unfold u8s; rw [List.getElem?_map, hc]; rfl)
        rwa [Nat.zero_add] at this
      have hn3 : n < 16 := hn2 (by omega)
      have HLo : Hid (∀ w, Calls Tryz.prog 80 #[.int .u8 (c.toNat : Int)] w fun e w' => e = .returned (.int .u8 (lw c : Int)) ∧ w' = w) := hid (fun w => lower_any c w)
      have hf := hex_facts c
      have hb := lt256 c
      have h95 : lw c ≤ 122 → c.toNat ≠ 95 := not95
      have h96 : c.toNat = 95 → lw c = 127 := fun h => by
        obtain rfl : c = 95 := UInt8.toNat_inj.1 h
        rfl
      obtain ⟨xn, hxn⟩ : ∃ xn, c.toNat = xn := ⟨_, rfl⟩
      obtain ⟨ln, hln⟩ : ∃ ln, lw c = ln := ⟨_, rfl⟩
      rw [hxn] at hcell HLo hf hb h95 h96
      rw [hln] at HLo hf h95 h96
      have hlti : (i : Int) < 2 := by omega
      have hi0 : (0 : Int) ≤ i := by omega
      have hni : (n : Int) < 16 := by omega
      have hn0 : (0 : Int) ≤ n := by omega
      have HN0 := hid hn0'
      clear hX hdrop hc hi hn hn2 HX hxn hln hn0'
      rcases hf with ⟨h1, h2, h3, h4⟩ | ⟨h1, h2, h3, d, h4, h5⟩ | ⟨h1, h2, h3, h4⟩ | ⟨h1, h2, h3⟩
      · have hx1 : (48 : Int) ≤ xn := by omega
        have hx2 : (xn : Int) ≤ 57 := by omega
        have hd : (c - 48).toNat < 16 := by omega
        have HX3 : Hid (hexs (16 * n + (xn - 48)) ([x, y].drop (i + 1)) = R) := hid (by have := HX2.out; rw [h3] at this; simp only [Option.bind_some] at this; rwa [h4] at this)
        have HCUT := hid (show decide ((1152921504606846976 : Int) ≤ (n : Int)) = false from decide_eq_false (by omega))
        clear h1 h2 h3 h4 HX2 hd
        go_wp2_with (first | ((with_reducible refine K.atO (.binOp .geq 96 _ _ _) ?_); refine wpL_valZ rfl (.bool false) (by exact exec_geqI _ _ _ _ rfl .u64 (n : Int) 1152921504606846976 rfl rfl _ HCUT.out _) ?_) | fail)
        refine ⟨⟨i + 1, 16 * n + (xn - 48), rfl, ?_, by go_num, by omega, by omega, by omega, fun h => by have := HN0.out; omega, HX3, trivial⟩, by simp [intOf]; omega⟩
        exact congrArg (Value.int .u64) (by omega)
      · have hx1 : (97 : Int) ≤ ln := by omega
        have hx2 : (ln : Int) ≤ 102 := by omega
        have hx3 : (ln : Int) ≤ 122 := by omega
        have hd := hexv_lt h4
        have HX3 : Hid (hexs (16 * n + (ln - 87)) ([x, y].drop (i + 1)) = R) := hid (by have := HX2.out; rw [h4] at this; simp only [Option.bind_some] at this; rwa [h5] at this)
        have HCUT := hid (show decide ((1152921504606846976 : Int) ≤ (n : Int)) = false from decide_eq_false (by omega))
        have hn95 : ¬ (xn : Int) = 95 := by have := h95 (by omega); omega
        have hnd : (xn : Int) < 48 ∨ (48 ≤ (xn : Int) ∧ ¬ (xn : Int) ≤ 57) := by omega
        have hrel2 : ∃ (i_1 n_1 : Nat), Value.int IntKind.u64 ((n : Int) * 16 + ((ln : Int) - 97 + 10)) = Value.int IntKind.u64 n_1 ∧ Value.int IntKind.i64 ((i : Int) + 1) = Value.int IntKind.i64 i_1 ∧ i_1 ≤ 2 ∧ n_1 < 256 ∧ (i_1 = 0 → n_1 = 0) ∧ (i_1 ≤ 1 → n_1 < 16) ∧ Hid (hexs n_1 ([x, y].drop i_1) = R) :=
          ⟨i + 1, 16 * n + (ln - 87), congrArg (Value.int .u64) (by omega), by go_num, by omega, by omega, by omega, fun h => by have := HN0.out; omega, HX3⟩
        have HREL := hid hrel2
        clear h1 h2 h3 h4 h5 HX2 hd hrel2 h95 h96
        rcases hnd with hlo | ⟨hlo, hhi⟩
        all_goals
          go_wp2_with fail
          refine (HLo.out _).mono ?_
          rintro e w2 ⟨rfl, rfl⟩
          go_wp2_with fail
          refine (HLo.out _).mono ?_
          rintro e w3 ⟨rfl, rfl⟩
          go_wp2_with fail
          refine (HLo.out _).mono ?_
          rintro e w4 ⟨rfl, rfl⟩
          go_wp2_with (first | ((with_reducible refine K.atO (.binOp .geq 96 _ _ _) ?_); refine wpL_valZ rfl (.bool false) (by exact exec_geqI _ _ _ _ rfl .u64 (n : Int) 1152921504606846976 rfl rfl _ HCUT.out _) ?_) | fail)
          refine ⟨?_, by simp [intOf]; omega⟩
          obtain ⟨i1, n1, r1, r2, r3, r4, r5, r6, r7⟩ := HREL.out
          exact ⟨i1, n1, rfl, r1, r2, r3, r4, r5, r6, r7, trivial⟩
      · have hx1 : (97 : Int) ≤ ln := by omega
        have hx2 : (103 : Int) ≤ ln := by omega
        have hx3 : (ln : Int) ≤ 122 := by omega
        have HRV : Hid (R = none) := hid (by have := HX2.out; rw [h4] at this; exact this.symm)
        have hn95 : ¬ (xn : Int) = 95 := by have := h95 (by omega); omega
        have hnd : (xn : Int) < 48 ∨ (48 ≤ (xn : Int) ∧ ¬ (xn : Int) ≤ 57) := by omega
        clear h1 h2 h3 h4 HX2 h95 h96
        rcases hnd with hlo | ⟨hlo, hhi⟩
        all_goals
          go_wp2_with fail
          refine (HLo.out _).mono ?_
          rintro e w2 ⟨rfl, rfl⟩
          go_wp2_with fail
          refine (HLo.out _).mono ?_
          rintro e w3 ⟨rfl, rfl⟩
          go_wp2_with fail
          refine (HLo.out _).mono ?_
          rintro e w4 ⟨rfl, rfl⟩
          go_wp2_with fail
          rw [HRV.out]
          go_ret2
          exact ⟨rfl, HFW.out⟩
      · have HRV : Hid (R = none) := hid (by have := HX2.out; rw [h3] at this; exact this.symm)
        have hnd : (xn : Int) < 48 ∨ (48 ≤ (xn : Int) ∧ ¬ (xn : Int) ≤ 57) := by omega
        have hnl : (ln : Int) < 97 ∨ (97 ≤ (ln : Int) ∧ ¬ (ln : Int) ≤ 122) := by omega
        clear h3 HX2 h95
        by_cases h5 : xn = 95
        · obtain rfl := h96 h5
          subst h5
          have HLo2 : Hid (∀ w, Calls Tryz.prog 80 #[.int .u8 95] w fun e w' => e = .returned (.int .u8 127) ∧ w' = w) := HLo
          clear HLo h1 h2 h96 hnd hnl
          go_wp2_with fail
          refine (HLo2.out _).mono ?_
          rintro e w2 ⟨rfl, rfl⟩
          go_wp2_with fail
          refine (HLo2.out _).mono ?_
          rintro e w3 ⟨rfl, rfl⟩
          go_wp2_with fail
          rw [HRV.out]
          go_ret2
          exact ⟨rfl, HFW.out⟩
        · have hn95 : ¬ (xn : Int) = 95 := by omega
          clear h1 h2 h96 h5
          rcases hnd with hlo | ⟨hlo, hhi⟩
          all_goals
            rcases hnl with hl1 | ⟨hl1, hl2⟩
            · go_wp2_with fail
              refine (HLo.out _).mono ?_
              rintro e w2 ⟨rfl, rfl⟩
              go_wp2_with fail
              rw [HRV.out]
              go_ret2
              exact ⟨rfl, HFW.out⟩
            · go_wp2_with fail
              refine (HLo.out _).mono ?_
              rintro e w2 ⟨rfl, rfl⟩
              go_wp2_with fail
              refine (HLo.out _).mono ?_
              rintro e w3 ⟨rfl, rfl⟩
              go_wp2_with fail
              rw [HRV.out]
              go_ret2
              exact ⟨rfl, HFW.out⟩
    · obtain rfl : i = 2 := by omega
      have hR := HX.out
      have HRV : Hid (R = some n) := hid (by rw [← hR]; rfl)
      clear hR HX
      go_wp2_with fail
      rw [HRV.out]
      go_ret2
      exact ⟨rfl, HFW.out⟩
end Go.Proofs.YthjmkfpdbbfcpaaGreatDoor.DN
