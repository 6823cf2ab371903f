/-
  The program's lower and Fold.
-/
import Derived.Test.YthjmkfpdbbfcpaaGreatDoorDnSh
set_option linter.unusedVariables false
set_option linter.unusedSimpArgs false
namespace Go.Proofs.YthjmkfpdbbfcpaaGreatDoor.DN
set_option maxRecDepth 100000
open Go.RowKit K Go.Proofs.YthjmkfpdbbfcpaaGreatDoor.BE

/-- A block that no cell of which is frozen, though its end bears a mark. -/
def BlkF (w : World) (b : Nat) (t : TypeId) (cs : List Value) : Prop := w.heap[b]? = some (.cells cs.toArray t (cs.length, cs.length + 1))
theorem BlkF.lt {w : World} {b : Nat} {t : TypeId} {cs : List Value} (h : BlkF w b t cs) : b < w.heap.size := (Array.getElem?_eq_some_iff.1 h).1
theorem BlkF.cell {w : World} {b : Nat} {t : TypeId} {cs : List Value} (h : BlkF w b t cs) (j : Nat) : w.cell? ⟨b, j, none⟩ = cs[j]? := by
  rw [cell_of_row w b j cs.toArray t _ h]; simp
theorem BlkF.frozen {w : World} {b : Nat} {t : TypeId} {cs : List Value} (h : BlkF w b t cs) {j : Nat} (hj : j < cs.length) : w.frozen? ⟨b, j, none⟩ = false := by
  unfold World.frozen?
  rw [h]
  simp
  omega
theorem BlkF.set {w : World} {b : Nat} {t : TypeId} {cs : List Value} (h : BlkF w b t cs) (j : Nat) (v : Value) : BlkF (w.setCell ⟨b, j, none⟩ v) b t (cs.set j v) := by
  unfold BlkF World.setCell at *
  simp only [Array.getElem?_modify, if_true, h, Option.map_some, List.length_set]
  simp
theorem wpL_setF {P : Program} {ops : Array Oper} {rest : List Oper} {op : Oper} {a : Act} {w : World} {Q : Exit → Act → World → Prop} (hgd : op.guard = none) (ty : TypeId) (x y : Operand) (ho : op.op = .store ty x y) (b o : Nat) (v : Value) (hx : a.eval x = .pointer (some ⟨b, o, none⟩)) (hy : a.eval y = v) (hv : v.cells = #[v]) (h1 : v.oneCell' = true)
    (t : TypeId) (cs : List Value) (hB : BlkF w b t cs) (hle : o < cs.length) (hi : (P.info? ty).map (·.size) = some 1)
    (h : ∀ w', Hid (BlkF w' b t (cs.set o v)) → Hid (Fr (fun k => k = b) w w') → wpList P ops Q rest (a.put op.dst undef) w') : wpList P ops Q (op :: rest) a w := by
  refine wpList_plain hgd fun K hK => ?_
  have hth : w.there b o [v].length := by
    intro j hj
    obtain rfl : j = 0 := by simpa using hj
    rw [Nat.add_zero, hB.cell, hB.frozen hle]
    simp [hle]
  have hr := run_storeV (P := P) w b o ty v [v] (by rw [hv]) hth (by simpa using hi) (by simpa using h1)
  unfold Oper.wp execOp
  simp only [ho, hx, hy, Instr.storeAt, Instr.sureAddr, Sem.run_bind, Sem.run_pure, Result.andThen_ok, hr]
  exact hK _ _ (h _ (hid (hB.set o v)) (hid ((Fr.refl (fun k => k = b) w).setCells b o [v] (.inl rfl))))
/-- '[]byte(s)', the whole block. -/
theorem wpL_bytesF {P : Program} {ops : Array Oper} {rest : List Oper} {op : Oper} {a : Act} {w : World} {Q : Exit → Act → World → Prop} (hgd : op.guard = none) (src dst e : TypeId) (x : Operand) (ho : op.op = .convert src dst x) (s : ByteArray) (hx : a.eval x = .string s)
    (hs : P.underlying src = some .string) (hd : P.underlying dst = some (.slice e)) (he : P.underlying e = some (.int .u8))
    (h : ∀ c z w', s.size ≤ c → Hid (BlkF w' w.heap.size e (u8s s.data.toList ++ z)) → Hid (Fr No w w') → wpList P ops Q rest (a.put op.dst (.slice (some ⟨w.heap.size, 0, none⟩) s.size c)) w') : wpList P ops Q (op :: rest) a w := by
  refine wpList_plain hgd fun K hK => ?_
  have hrun := run_bytes_of_string (P := P) w src dst e s hs hd he
  have hB : (bytesRow s (grownCap w s.size 0 e)) = (u8s s.data.toList ++ List.replicate (grownCap w s.size 0 e - s.size) (Value.int .u8 0)).toArray := by
    unfold bytesRow u8s
    apply Array.toList_inj.1
    simp
  have h1 := h (grownCap w s.size 0 e) (List.replicate (grownCap w s.size 0 e - s.size) (Value.int .u8 0)) (w.drew.alloc (.cells (bytesRow s (grownCap w s.size 0 e)) e ((bytesRow s (grownCap w s.size 0 e)).size, (bytesRow s (grownCap w s.size 0 e)).size + 1))) (grownCap_ge _ _ _ _)
    (hid (by rw [hB]; unfold BlkF; rw [show w.heap.size = w.drew.heap.size from rfl, heap_alloc_new w.drew]; simp)) (hid ((Fr.refl No w).drew.alloc _))
  unfold Oper.wp
  simp [execOp, ho, hx, hrun, Result.andThen]
  exact hK _ _ h1
theorem infoU8 : (Tryz.prog.info? 5).map (·.size) = some 1 := by kernel_rfl
theorem lo_nat (c : UInt8) : (lo c).toNat = if 65 ≤ c.toNat ∧ c.toNat ≤ 90 then c.toNat + 32 else c.toNat := by
  have := u8_all (fun c => (lo c).toNat == if 65 ≤ c.toNat ∧ c.toNat ≤ 90 then c.toNat + 32 else c.toNat) (by decide +kernel) c
  simpa using this
set_option maxHeartbeats 4000000 in
theorem lower_str (s : B) (hs : Sz s) (w : World) : Calls Tryz.prog 25 #[.string (sb s)] w fun e w' => e = .returned (.string (sb (low s))) ∧ Fr No w w' := by
  have hz : (sb s).size = s.length := sb_size s
  have hzl : (sb s).data.toList = s := sb_list s
  obtain ⟨S, hS⟩ : ∃ S, sb s = S := ⟨_, rfl⟩
  obtain ⟨n, hn⟩ : ∃ n, s.length = n := ⟨_, rfl⟩
  rw [hS] at hz hzl ⊢
  rw [hn] at hz
  have hni : (n : Int) ≤ 140737488351232 := by unfold Sz at hs; omega
  have HNN := hid hn; have HZL := hid hzl; have HZ := hid hz
  clear hs hz hzl hS hn
  go_enter Tryz.func25, Tryz.ntmps25
  go_wp2_with (first
    | ((with_reducible refine K.atO (.convert _ 49 _) ?_); refine wpL_bytesF rfl _ _ _ _ rfl S rfl Tryz.underlying9 Tryz.underlying49 Tryz.underlying5 ?_; intro cp z w1 hcp HB1 HF1; rw [HZ.out])
    | fail)
  obtain ⟨g, hg⟩ : ∃ g, w.heap.size = g := ⟨_, rfl⟩
  rw [hg] at HB1 ⊢
  rw [HZL.out] at HB1
  have HG := hid hg
  have HCP := hid hcp
  clear hg hcp
  go_loopw [10] (fun iv wr => ∃ (i : Nat), iv = .int .i64 i ∧ i ≤ n ∧ Hid (BlkF wr g 5 (u8s (low (s.take i) ++ s.drop i) ++ z) ∧ Fr No w wr)) (fun iv _ => n - (intOf iv).toNat)
  case atStart => exact ⟨0, rfl, Nat.zero_le _, hid ⟨by simpa [low] using HB1.out, HF1.out⟩⟩
  case round =>
    obtain ⟨i, rfl, hi, HI⟩ := hrel
    by_cases hlt : i < n
    · have hlti : (i : Int) < n := by omega
      have hi0 : (0 : Int) ≤ i := by omega
      obtain ⟨c, hc⟩ : ∃ c, s[i]? = some c := ⟨_, List.getElem?_eq_getElem (by rw [HNN.out]; exact hlt)⟩
      have hlow : (low (s.take i)).length = i := by rw [low_length, List.length_take, HNN.out]; omega
      have hcur : (u8s (low (s.take i) ++ s.drop i) ++ z)[i]? = some (.int .u8 (c.toNat : Int)) := by
        rw [List.getElem?_append_left (by rw [u8s_length, List.length_append, hlow, List.length_drop, HNN.out]; omega)]
        unfold u8s
        rw [List.getElem?_map, List.getElem?_append_right (by omega), hlow, Nat.sub_self, List.getElem?_drop, Nat.add_zero, hc]
        rfl
      have hcell : wr.cell? ⟨g, i, none⟩ = some (.int .u8 (c.toNat : Int)) := by rw [HI.out.1.cell]; exact hcur
      have hsplit : s.drop i = c :: s.drop (i + 1) := by
        have hl : i < s.length := by rw [HNN.out]; exact hlt
        rw [List.drop_eq_getElem_cons hl]
        rw [List.getElem?_eq_getElem hl] at hc
        rw [Option.some.inj hc]
      have htake : low (s.take (i + 1)) = low (s.take i) ++ [lo c] := by
        unfold low
        rw [List.take_add_one, hc]
        simp
      have hset : (u8s (low (s.take i) ++ s.drop i) ++ z).set i (.int .u8 ((lo c).toNat : Int)) = u8s (low (s.take (i + 1)) ++ s.drop (i + 1)) ++ z := by
        rw [htake, hsplit, u8s_append, List.append_assoc, List.set_append_right _ _ (by rw [u8s_length, hlow]; exact Nat.le_refl _), u8s_length, hlow, Nat.sub_self]
        simp [u8s]
      have hlen : i < (u8s (low (s.take i) ++ s.drop i) ++ z).length := (List.getElem?_eq_some_iff.1 hcur).1
      have HSET := hid hset; have HLEN := hid hlen
      have hlo := lo_nat c
      obtain ⟨xn, hxn⟩ : ∃ xn, c.toNat = xn := ⟨_, rfl⟩
      have hb := lt256 c
      rw [hxn] at hcell hlo hb
      have HLT := hid hlt
      have HFS : Hid (∀ w', Fr (fun k => k = g) wr w' → Fr No w w') := hid (fun w' h => HI.out.2.trans h (fun k e => .inr (by rw [HG.out]; have e : k = g := e; omega)))
      clear hcur hsplit htake hset hlen hc hlow hi hlt
      by_cases hup : 65 ≤ xn ∧ xn ≤ 90
      · rw [if_pos hup] at hlo
        have h1 : (65 : Int) ≤ xn := by omega
        have h2 : (xn : Int) ≤ 90 := by omega
        have HLO := hid hlo
        clear hup hlo hxn
        go_wp2_with (first
          | ((with_reducible refine K.atO (.store 5 _ _) ?_); refine wpL_setF rfl _ _ _ rfl g i (.int .u8 ((lo c).toNat : Int)) (by go_simp) (by rw [HLO.out]; exact congrArg (Value.int .u8) (by omega)) rfl rfl 5 _ HI.out.1 HLEN.out infoU8 ?_; intro w2 HB2 HF2)
          | fail)
        refine ⟨⟨i + 1, by go_num, HLT.out, hid ⟨by rw [← HSET.out]; exact HB2.out, HFS.out w2 HF2.out⟩⟩, ?_⟩
        have := HLT.out
        simp [intOf]; omega
      · rw [if_neg hup] at hlo
        have h1 : (xn : Int) < 65 ∨ (65 ≤ (xn : Int) ∧ ¬ (xn : Int) ≤ 90) := by omega
        have HSAME : Hid (BlkF wr g 5 (u8s (low (s.take (i + 1)) ++ s.drop (i + 1)) ++ z)) := hid (by
          rw [← HSET.out, hlo, ← hxn]
          have h := HI.out.1
          have hce := h.cell i
          rw [hxn] at *
          rw [hcell] at hce
          obtain ⟨hl, e⟩ := List.getElem?_eq_some_iff.1 hce.symm
          rw [← e, List.set_getElem_self]
          exact h)
        clear hup hlo hxn
        rcases h1 with h1 | ⟨h1, h2⟩
        all_goals
          go_wp2_with fail
          refine ⟨⟨i + 1, by go_num, HLT.out, hid ⟨HSAME.out, HI.out.2⟩⟩, ?_⟩
          have := HLT.out
          simp [intOf]; omega
    · obtain rfl : i = n := by omega
      have hB := HI.out.1
      rw [← HNN.out, List.take_length, List.drop_length, List.append_nil] at hB
      have hbi : BytesIn wr (fun _ => True) (.slice (some ⟨g, 0, none⟩) i cp) (low s) := by
        refine ⟨_, _, _, rfl, by rw [low_length]; exact HNN.out, (by have := HCP.out; rw [HZ.out] at this; exact this), .inr ⟨g, 0, rfl, trivial, hB.lt, ?_⟩⟩
        intro j v hj
        rw [Nat.zero_add, hB.cell, List.getElem?_append_left (List.getElem?_eq_some_iff.1 hj).1]
        exact hj
      have HBI := hid hbi
      clear hB hbi hi hlt
      go_wp2_with (first
        | ((with_reducible refine K.atO (.convert _ 9 _) ?_); refine wpL_stringOf rfl _ _ _ _ rfl _ _ (low s) rfl HBI.out Tryz.underlying49 Tryz.underlying5 Tryz.underlying9 ?_)
        | fail)
      go_ret
      exact ⟨rfl, HI.out.2⟩
theorem blank_any (x : Nat) (hx : x ≤ 1114111) (w : World) : Calls Tryz.prog 26 #[.int .i32 (x : Int)] w fun e w' => e = .returned (.bool (x == 32)) ∧ w' = w := by
  by_cases h : x = 32
  · subst h
    go_enter Tryz.func26, Tryz.ntmps26
    go_wp2
    go_ret
    exact ⟨rfl, rfl⟩
  · have h1 : (x == 32) = false := by simpa using h
    have h2 : ((x : Int) == 32) = false := by rw [beq_eq_false_iff_ne]; omega
    have H2 := hid h2
    rw [h1]
    clear h h1 h2
    go_enter Tryz.func26, Tryz.ntmps26
    go_wp2
    go_ret
    exact ⟨by show Ending.returned (.bool ((x : Int) == 32)) = _; rw [H2.out], rfl⟩
set_option maxHeartbeats 4000000 in
theorem fold_any (s : B) (hs : s.length ≤ 4294967296) (w : World) : Calls Tryz.prog 11 #[.string (sb s)] w fun e w' => e = .returned (.string (sb (fold s))) ∧ Fr No w w' := by
  have H1 := hid (lower_str s (by unfold Sz; omega) w)
  have H2 := hid (fun w => fields_any 26 (fun _ _ => by kernel_rfl) (low s) w (by rw [low_length]; exact hs) (fun W x hx => blank_any x hx W))
  have hfl := fold_len s
  have HL : Hid (∀ E v w, (∃ a cap, v = .slice a (words [] (low s)).length cap ∧ (words [] (low s)).length ≤ cap ∧ (words [] (low s) = [] ∨ ∃ g o, a = some ⟨g, o, none⟩ ∧ g < w.heap.size ∧ w.rangeAt g o (strs (words [] (low s))))) →
      Calls Tryz.prog 27 #[v, .string (sb [32])] w fun e w' => e = .returned (.string (sb (fold s))) ∧ Fr No w w') := hid (fun E v w h => join_any E v _ [32] w h (by
        have h1 := words_count (low s) []
        simp only [List.isEmpty_nil, if_true, Nat.add_zero] at h1
        rw [low_length] at h1
        omega) (by show (fold s).length ≤ _; omega))
  clear hfl hs
  go_enter Tryz.func11, Tryz.ntmps11
  go_wp2_with fail
  refine H1.out.mono ?_
  rintro e w1 ⟨rfl, f1⟩
  have HF1 := hid f1
  clear f1
  go_wp2_with fail
  refine (H2.out _).mono ?_
  rintro e w2 ⟨v, rfl, hv, f2⟩
  have HV := hid hv
  have HF2 := hid (HF1.out.trans' f2)
  obtain ⟨a, cap, rfl, -, -⟩ := hv
  clear f2
  go_wp2_with fail
  refine (HL.out (fun _ => True) _ _ HV.out).mono ?_
  rintro e w3 ⟨rfl, f3⟩
  have HF3 := hid (HF2.out.trans' f3)
  clear f3
  go_wp2_with fail
  go_ret
  exact ⟨rfl, HF3.out⟩
end Go.Proofs.YthjmkfpdbbfcpaaGreatDoor.DN
