/-
  Part 10 of the proof: MpE, MpS.
-/
import Derived.Test.YthjmkfpdbbfcpaaMw05
import Derived.Deep.DeepCutAuto
set_option linter.unusedSimpArgs false
set_option linter.unusedVariables false
namespace Go.Proofs.Ythjmkfpdbbfcpaa.ME
set_option maxRecDepth 100000
open Go.RowKit K Go.Proofs.Ythjmkfpdbbfcpaa.BE Go.Proofs.Ythjmkfpdbbfcpaa.FR

theorem pfrom_any (n a b : Int) (w : World) : Calls Try.prog 33 #[.int .i64 a, .int .i64 n, .int .i64 b] w fun e w' => e = .returned (.bool (inI n a b)) ∧ w' = w := by
  by_cases h1 : a ≤ n
  · by_cases h2 : n ≤ b
    · have hR : inI n a b = true := by simp [inI, h1, h2]
      rw [hR]
      clear hR
      go_enter Try.func33, Try.ntmps33
      go_wp2_with fail
      go_ret
      exact ⟨rfl, rfl⟩
    · have hR : inI n a b = false := by simp [inI, h1, h2]
      rw [hR]
      clear hR
      go_enter Try.func33, Try.ntmps33
      go_wp2_with fail
      go_ret
      exact ⟨rfl, rfl⟩
  · have hR : inI n a b = false := by simp [inI, h1]
    rw [hR]
    clear hR
    go_enter Try.func33, Try.ntmps33
    go_wp2_with fail
    go_ret
    exact ⟨rfl, rfl⟩
theorem pnumber_any (n : Int) (w : World) : Calls Try.prog 32 #[.int .i64 n] w fun e w' => e = .returned (.bool (inI n 0 2147483647)) ∧ w' = w := by
  obtain ⟨b, hb⟩ : ∃ b, inI n 0 2147483647 = b := ⟨_, rfl⟩
  have HB := hid hb
  rw [hb]
  clear hb
  go_enter Try.func32, Try.ntmps32
  go_wp2_with fail
  refine (pfrom_any n 0 2147483647 w).mono ?_
  rintro e w2 ⟨rfl, rfl⟩
  rw [HB.out]
  go_wp2_with fail
  go_ret
  exact ⟨rfl, rfl⟩
theorem pcode_any (n : Int) (w : World) : Calls Try.prog 37 #[.int .i64 n] w fun e w' => e = .returned (.bool (inI n 0 127)) ∧ w' = w := by
  obtain ⟨b, hb⟩ : ∃ b, inI n 0 127 = b := ⟨_, rfl⟩
  have HB := hid hb
  rw [hb]
  clear hb
  go_enter Try.func37, Try.ntmps37
  go_wp2_with fail
  refine (pfrom_any n 0 127 w).mono ?_
  rintro e w2 ⟨rfl, rfl⟩
  rw [HB.out]
  go_wp2_with fail
  go_ret
  exact ⟨rfl, rfl⟩
theorem len_beq {α : Type} (l : List α) : ((l.length : Int) == 0) = l.isEmpty := by cases l <;> simp <;> omega
set_option maxHeartbeats 8000000 in
theorem pempty_any (M : Nat) (E : Nat → Prop) (f : Fl) (cs : List Value) (w : World) (h : FlC M E w f cs) : Calls Try.prog 66 #[.agg cs.toArray] w fun e w' => e = .returned (.bool (emptyF f)) ∧ Fr No w w' := by
  obtain ⟨M, rfl⟩ := h.succ
  obtain ⟨vk, va, rfl, -, -, -, -, -, ht, hs⟩ := h
  obtain ⟨k1, ck, rfl, -, hkl⟩ := hs.form
  obtain ⟨a1, ca, rfl, -, hal⟩ := ht.form
  clear ht hs
  obtain ⟨fk, kids, tyB, vaB, fiB, any, laB⟩ := f
  simp only [Fl.kind, Fl.kids, Fl.type, Fl.value, Fl.first, Fl.any, Fl.last] at hkl hal ⊢
  have g0 : (fk == 0) = decide (fk = 0) := rfl
  have g1 := len_beq kids
  have g2 := sbE tyB
  have g3 := sbE vaB
  have g4 := sbE fiB
  have g5 := len_beq any
  have g6 := sbE laB
  have hR : emptyF (.mk fk kids tyB vaB fiB any laB) = (decide (fk = 0) && (tyB.isEmpty && vaB.isEmpty && fiB.isEmpty && laB.isEmpty) && kids.isEmpty && any.isEmpty) := by
    have h : ∀ a b c d e f g : Bool, (a && b && c && d && e && f && g) = (a && (c && d && e && g) && b && f) := by decide
    simp only [emptyF, Fl.kind, Fl.kids, Fl.type, Fl.value, Fl.first, Fl.any, Fl.last]
    exact h _ _ _ _ _ _ _
  rw [hR]
  clear hR
  generalize decide (fk = 0) = b0 at g0 ⊢
  generalize kids.isEmpty = b1 at g1 ⊢
  generalize tyB.isEmpty = b2 at g2 ⊢
  generalize vaB.isEmpty = b3 at g3 ⊢
  generalize fiB.isEmpty = b4 at g4 ⊢
  generalize any.isEmpty = b5 at g5 ⊢
  generalize laB.isEmpty = b6 at g6 ⊢
  generalize sb tyB = TY at g2 ⊢
  generalize sb vaB = VA at g3 ⊢
  generalize sb fiB = FI at g4 ⊢
  generalize sb laB = LA at g6 ⊢
  generalize kids.length = nk at g1 hkl ⊢
  generalize any.length = na at g5 hal ⊢
  obtain ⟨T, hT⟩ : ∃ T, (b2 && b3 && b4 && b6) = T := ⟨_, rfl⟩
  rw [hT]
  have HT := hid hT
  clear hT
  go_enter Try.func66, Try.ntmps66
  go_upto_region 1 with (first
    | ((with_reducible refine K.atO (.box 25 _) ?_); refine wpL_box rfl _ _ rfl _ rfl [.int .i64 fk, .slice k1 nk ck, .string TY, .string VA, .string FI, .slice a1 na ca, .string LA] rfl ?_; intro w1 HB1 F1 HS1; have c0 : w1.cell? ⟨w.heap.size, 0, none⟩ = some (.int .i64 fk) := HB1.out.cell 0; have c1 : w1.cell? ⟨w.heap.size, 1, none⟩ = some (.slice k1 nk ck) := HB1.out.cell 1; have c2 : w1.cell? ⟨w.heap.size, 2, none⟩ = some (.string TY) := HB1.out.cell 2; have c3 : w1.cell? ⟨w.heap.size, 3, none⟩ = some (.string VA) := HB1.out.cell 3; have c4 : w1.cell? ⟨w.heap.size, 4, none⟩ = some (.string FI) := HB1.out.cell 4; have c5 : w1.cell? ⟨w.heap.size, 5, none⟩ = some (.slice a1 na ca) := HB1.out.cell 5; have c6 : w1.cell? ⟨w.heap.size, 6, none⟩ = some (.string LA) := HB1.out.cell 6)
    | fail)
  go_cut [3] (fun s3 wx => s3 = .bool T ∧ wx = w1)
  case first =>
    cases b2 with
    | false =>
      go_wp2_with fail
      go_meet
      exact ⟨by rw [← HT.out]; simp, rfl⟩
    | true =>
    cases b3 with
    | false =>
      go_wp2_with fail
      go_meet
      exact ⟨by rw [← HT.out]; simp, rfl⟩
    | true =>
    cases b4 with
    | false =>
      go_wp2_with fail
      go_meet
      exact ⟨by rw [← HT.out]; simp, rfl⟩
    | true =>
    cases b6 with
    | false =>
      go_wp2_with fail
      go_meet
      exact ⟨by rw [← HT.out]; simp, rfl⟩
    | true =>
    go_wp2_with fail
    go_meet
    exact ⟨by rw [← HT.out]; simp, rfl⟩
  case rest =>
  obtain ⟨rfl, hwc⟩ := hcut
  have hwc' := hwc.symm
  subst hwc'
  clear HT g2 g3 g4 g6
  cases b0 with
  | false =>
    go_wp2_with fail
    go_ret
    exact ⟨by simp, F1.out⟩
  | true =>
  cases T with
  | false =>
    go_wp2_with fail
    go_ret
    exact ⟨by simp, F1.out⟩
  | true =>
  cases b1 with
  | false =>
    go_wp2_with fail
    go_ret
    exact ⟨by simp, F1.out⟩
  | true =>
  cases b5 with
  | false =>
    go_wp2_with fail
    go_ret
    exact ⟨by simp, F1.out⟩
  | true =>
  go_wp2_with fail
  go_ret
  exact ⟨by simp, F1.out⟩
/-- Nothing is left of a message but its number and its operation. -/
def emptyM (m : Msg) : Bool := (decide (m.ver = 0) && decide (m.scope = 0) && decide (m.deref = 0) && decide (m.size = 0) && decide (m.time = 0) && decide (m.target = 0) && decide (m.code = 0)) && (m.name.isEmpty && m.pw.isEmpty && m.rdn.isEmpty && m.sup.isEmpty && m.type.isEmpty && m.value.isEmpty && m.matched.isEmpty && m.text.isEmpty) && (m.wants.isEmpty && m.list.isEmpty && m.mods.isEmpty) && emptyF m.filter && !m.typesOnly && !m.dropOld && !m.moves
set_option maxHeartbeats 16000000 in
theorem pemptyM_any (M : Nat) (E : Nat → Prop) (m : Msg) (vk va vw vl vm : Value) (w : World) (h : MsgC M E w m vk va vw vl vm) : Calls Try.prog 38 #[.agg (mcs m vk va vw vl vm).toArray] w fun e w' => e = .returned (.bool (emptyM m)) ∧ Fr No w w' := by
  obtain ⟨aw, cw, rfl, -, hwl⟩ := h.wants.form
  obtain ⟨al, cl, rfl, -, hll⟩ := h.list.form
  obtain ⟨am, cm, rfl, -, hml⟩ := h.mods.form
  have H := hid h.filter
  clear h
  obtain ⟨id, op, ver, name, pw, scope, deref, size, time, typesOnly, filter, wants, list, mods, rdn, dropOld, moves, sup, type, value, target, code, matched, text⟩ := m
  unfold mcs emptyM
  simp only at hwl hll hml H ⊢
  have g_ver : (ver == 0) = decide (ver = 0) := rfl
  have g_scope : (scope == 0) = decide (scope = 0) := rfl
  have g_deref : (deref == 0) = decide (deref = 0) := rfl
  have g_size : (size == 0) = decide (size = 0) := rfl
  have g_time : (time == 0) = decide (time = 0) := rfl
  have g_target : (target == 0) = decide (target = 0) := rfl
  have g_code : (code == 0) = decide (code = 0) := rfl
  have g_name := sbE name
  have g_pw := sbE pw
  have g_rdn := sbE rdn
  have g_sup := sbE sup
  have g_type := sbE type
  have g_value := sbE value
  have g_matched := sbE matched
  have g_text := sbE text
  have g_wants := len_beq wants
  have g_list := len_beq list
  have g_mods := len_beq mods
  generalize decide (ver = 0) = b_ver at g_ver ⊢
  generalize decide (scope = 0) = b_scope at g_scope ⊢
  generalize decide (deref = 0) = b_deref at g_deref ⊢
  generalize decide (size = 0) = b_size at g_size ⊢
  generalize decide (time = 0) = b_time at g_time ⊢
  generalize decide (target = 0) = b_target at g_target ⊢
  generalize decide (code = 0) = b_code at g_code ⊢
  generalize name.isEmpty = b_name at g_name ⊢
  generalize sb name = S_name at g_name ⊢
  generalize pw.isEmpty = b_pw at g_pw ⊢
  generalize sb pw = S_pw at g_pw ⊢
  generalize rdn.isEmpty = b_rdn at g_rdn ⊢
  generalize sb rdn = S_rdn at g_rdn ⊢
  generalize sup.isEmpty = b_sup at g_sup ⊢
  generalize sb sup = S_sup at g_sup ⊢
  generalize type.isEmpty = b_type at g_type ⊢
  generalize sb type = S_type at g_type ⊢
  generalize value.isEmpty = b_value at g_value ⊢
  generalize sb value = S_value at g_value ⊢
  generalize matched.isEmpty = b_matched at g_matched ⊢
  generalize sb matched = S_matched at g_matched ⊢
  generalize text.isEmpty = b_text at g_text ⊢
  generalize sb text = S_text at g_text ⊢
  generalize wants.isEmpty = b_wants at g_wants ⊢
  generalize wants.length = n_wants at g_wants hwl ⊢
  generalize list.isEmpty = b_list at g_list ⊢
  generalize list.length = n_list at g_list hll ⊢
  generalize mods.isEmpty = b_mods at g_mods ⊢
  generalize mods.length = n_mods at g_mods hml ⊢
  obtain ⟨TN, hTN⟩ : ∃ T, (b_ver && b_scope && b_deref && b_size && b_time && b_target && b_code) = T := ⟨_, rfl⟩
  rw [hTN]
  have HTN := hid hTN
  clear hTN
  obtain ⟨TT, hTT⟩ : ∃ T, (b_name && b_pw && b_rdn && b_sup && b_type && b_value && b_matched && b_text) = T := ⟨_, rfl⟩
  rw [hTT]
  have HTT := hid hTT
  clear hTT
  obtain ⟨TL, hTL⟩ : ∃ T, (b_wants && b_list && b_mods) = T := ⟨_, rfl⟩
  rw [hTL]
  have HTL := hid hTL
  clear hTL
  obtain ⟨ef, hef⟩ : ∃ b, emptyF filter = b := ⟨_, rfl⟩
  have HEF := hid hef
  rw [hef]
  clear hef
  go_enter Try.func38, Try.ntmps38
  go_upto_region 1 with (first
    | ((with_reducible refine K.atO (.box 29 _) ?_); refine wpL_box rfl _ _ rfl _ rfl [.int .i64 id, .int .i64 op, .int .i64 ver, .string S_name, .string S_pw, .int .i64 scope, .int .i64 deref, .int .i64 size, .int .i64 time, .bool typesOnly, .int .i64 filter.kind, vk, .string (sb filter.type), .string (sb filter.value), .string (sb filter.first), va, .string (sb filter.last), .slice aw n_wants cw, .slice al n_list cl, .slice am n_mods cm, .string S_rdn, .bool dropOld, .bool moves, .string S_sup, .string S_type, .string S_value, .int .i64 target, .int .i64 code, .string S_matched, .string S_text] rfl ?_; intro w1 HB1 F1 HS1; have c_ver : w1.cell? ⟨w.heap.size, 2, none⟩ = some (.int .i64 ver) := HB1.out.cell 2; have c_scope : w1.cell? ⟨w.heap.size, 5, none⟩ = some (.int .i64 scope) := HB1.out.cell 5; have c_deref : w1.cell? ⟨w.heap.size, 6, none⟩ = some (.int .i64 deref) := HB1.out.cell 6; have c_size : w1.cell? ⟨w.heap.size, 7, none⟩ = some (.int .i64 size) := HB1.out.cell 7; have c_time : w1.cell? ⟨w.heap.size, 8, none⟩ = some (.int .i64 time) := HB1.out.cell 8; have c_target : w1.cell? ⟨w.heap.size, 26, none⟩ = some (.int .i64 target) := HB1.out.cell 26; have c_code : w1.cell? ⟨w.heap.size, 27, none⟩ = some (.int .i64 code) := HB1.out.cell 27; have c_name : w1.cell? ⟨w.heap.size, 3, none⟩ = some (.string S_name) := HB1.out.cell 3; have c_pw : w1.cell? ⟨w.heap.size, 4, none⟩ = some (.string S_pw) := HB1.out.cell 4; have c_rdn : w1.cell? ⟨w.heap.size, 20, none⟩ = some (.string S_rdn) := HB1.out.cell 20; have c_sup : w1.cell? ⟨w.heap.size, 23, none⟩ = some (.string S_sup) := HB1.out.cell 23; have c_type : w1.cell? ⟨w.heap.size, 24, none⟩ = some (.string S_type) := HB1.out.cell 24; have c_value : w1.cell? ⟨w.heap.size, 25, none⟩ = some (.string S_value) := HB1.out.cell 25; have c_matched : w1.cell? ⟨w.heap.size, 28, none⟩ = some (.string S_matched) := HB1.out.cell 28; have c_text : w1.cell? ⟨w.heap.size, 29, none⟩ = some (.string S_text) := HB1.out.cell 29; have c_wants : w1.cell? ⟨w.heap.size, 17, none⟩ = some (.slice aw n_wants cw) := HB1.out.cell 17; have c_list : w1.cell? ⟨w.heap.size, 18, none⟩ = some (.slice al n_list cl) := HB1.out.cell 18; have c_mods : w1.cell? ⟨w.heap.size, 19, none⟩ = some (.slice am n_mods cm) := HB1.out.cell 19; have c_typesOnly : w1.cell? ⟨w.heap.size, 9, none⟩ = some (.bool typesOnly) := HB1.out.cell 9; have c_dropOld : w1.cell? ⟨w.heap.size, 21, none⟩ = some (.bool dropOld) := HB1.out.cell 21; have c_moves : w1.cell? ⟨w.heap.size, 22, none⟩ = some (.bool moves) := HB1.out.cell 22)
    | fail)
  go_cut [3] (fun s3 wx => s3 = .bool TN ∧ wx = w1)
  case first =>
    cases b_ver with
    | false =>
      go_wp2_with fail
      go_meet
      exact ⟨by rw [← HTN.out]; simp, rfl⟩
    | true =>
    cases b_scope with
    | false =>
      go_wp2_with fail
      go_meet
      exact ⟨by rw [← HTN.out]; simp, rfl⟩
    | true =>
    cases b_deref with
    | false =>
      go_wp2_with fail
      go_meet
      exact ⟨by rw [← HTN.out]; simp, rfl⟩
    | true =>
    cases b_size with
    | false =>
      go_wp2_with fail
      go_meet
      exact ⟨by rw [← HTN.out]; simp, rfl⟩
    | true =>
    cases b_time with
    | false =>
      go_wp2_with fail
      go_meet
      exact ⟨by rw [← HTN.out]; simp, rfl⟩
    | true =>
    cases b_target with
    | false =>
      go_wp2_with fail
      go_meet
      exact ⟨by rw [← HTN.out]; simp, rfl⟩
    | true =>
    cases b_code with
    | false =>
      go_wp2_with fail
      go_meet
      exact ⟨by rw [← HTN.out]; simp, rfl⟩
    | true =>
    go_wp2_with fail
    go_meet
    exact ⟨by rw [← HTN.out]; simp, rfl⟩
  case rest =>
  obtain ⟨rfl, hwc⟩ := hcut
  have hwc' := hwc.symm
  subst hwc'
  clear HTN g_ver c_ver g_scope c_scope g_deref c_deref g_size c_size g_time c_time g_target c_target g_code c_code
  go_upto_region 2 with fail
  go_cut [4] (fun s3 wx => s3 = .bool TT ∧ wx = w1)
  case first =>
    cases b_name with
    | false =>
      go_wp2_with fail
      go_meet
      exact ⟨by rw [← HTT.out]; simp, rfl⟩
    | true =>
    cases b_pw with
    | false =>
      go_wp2_with fail
      go_meet
      exact ⟨by rw [← HTT.out]; simp, rfl⟩
    | true =>
    cases b_rdn with
    | false =>
      go_wp2_with fail
      go_meet
      exact ⟨by rw [← HTT.out]; simp, rfl⟩
    | true =>
    cases b_sup with
    | false =>
      go_wp2_with fail
      go_meet
      exact ⟨by rw [← HTT.out]; simp, rfl⟩
    | true =>
    cases b_type with
    | false =>
      go_wp2_with fail
      go_meet
      exact ⟨by rw [← HTT.out]; simp, rfl⟩
    | true =>
    cases b_value with
    | false =>
      go_wp2_with fail
      go_meet
      exact ⟨by rw [← HTT.out]; simp, rfl⟩
    | true =>
    cases b_matched with
    | false =>
      go_wp2_with fail
      go_meet
      exact ⟨by rw [← HTT.out]; simp, rfl⟩
    | true =>
    cases b_text with
    | false =>
      go_wp2_with fail
      go_meet
      exact ⟨by rw [← HTT.out]; simp, rfl⟩
    | true =>
    go_wp2_with fail
    go_meet
    exact ⟨by rw [← HTT.out]; simp, rfl⟩
  case rest =>
  obtain ⟨rfl, hwc⟩ := hcut
  have hwc' := hwc.symm
  subst hwc'
  clear HTT g_name c_name g_pw c_pw g_rdn c_rdn g_sup c_sup g_type c_type g_value c_value g_matched c_matched g_text c_text
  go_upto_region 3 with fail
  go_cut [5] (fun s3 wx => s3 = .bool TL ∧ wx = w1)
  case first =>
    cases b_wants with
    | false =>
      go_wp2_with fail
      go_meet
      exact ⟨by rw [← HTL.out]; simp, rfl⟩
    | true =>
    cases b_list with
    | false =>
      go_wp2_with fail
      go_meet
      exact ⟨by rw [← HTL.out]; simp, rfl⟩
    | true =>
    cases b_mods with
    | false =>
      go_wp2_with fail
      go_meet
      exact ⟨by rw [← HTL.out]; simp, rfl⟩
    | true =>
    go_wp2_with fail
    go_meet
    exact ⟨by rw [← HTL.out]; simp, rfl⟩
  case rest =>
  obtain ⟨rfl, hwc⟩ := hcut
  have hwc' := hwc.symm
  subst hwc'
  clear HTL g_wants c_wants g_list c_list g_mods c_mods
  cases TN with
  | false =>
    go_wp2_with fail
    go_ret
    exact ⟨by simp, F1.out⟩
  | true =>
  cases TT with
  | false =>
    go_wp2_with fail
    go_ret
    exact ⟨by simp, F1.out⟩
  | true =>
  cases TL with
  | false =>
    go_wp2_with fail
    go_ret
    exact ⟨by simp, F1.out⟩
  | true =>
  have c_f0 : w1.cell? ⟨w.heap.size, 10, none⟩ = some (.int .i64 filter.kind) := HB1.out.cell 10
  have c_f1 : w1.cell? ⟨w.heap.size, 11, none⟩ = some (vk) := HB1.out.cell 11
  have c_f2 : w1.cell? ⟨w.heap.size, 12, none⟩ = some (.string (sb filter.type)) := HB1.out.cell 12
  have c_f3 : w1.cell? ⟨w.heap.size, 13, none⟩ = some (.string (sb filter.value)) := HB1.out.cell 13
  have c_f4 : w1.cell? ⟨w.heap.size, 14, none⟩ = some (.string (sb filter.first)) := HB1.out.cell 14
  have c_f5 : w1.cell? ⟨w.heap.size, 15, none⟩ = some (va) := HB1.out.cell 15
  have c_f6 : w1.cell? ⟨w.heap.size, 16, none⟩ = some (.string (sb filter.last)) := HB1.out.cell 16
  go_wp2_with fail
  refine (pempty_any M E filter [.int .i64 filter.kind, vk, .string (sb filter.type), .string (sb filter.value), .string (sb filter.first), va, .string (sb filter.last)] w1 (H.out.no F1.out)).mono ?_
  rintro e w2 ⟨rfl, f2⟩
  rw [HEF.out]
  have HF2 := hid (F1.out.trans' f2)
  have d_typesOnly := f2.cell c_typesOnly (fun h => h)
  have d_dropOld := f2.cell c_dropOld (fun h => h)
  have d_moves := f2.cell c_moves (fun h => h)
  clear f2 c_typesOnly c_dropOld c_moves c_f0 c_f1 c_f2 c_f3 c_f4 c_f5 c_f6
  cases ef with
  | false =>
    go_wp2_with fail
    go_ret
    exact ⟨by simp, HF2.out⟩
  | true =>
  cases typesOnly with
  | true =>
    go_wp2_with fail
    go_ret
    exact ⟨by simp, HF2.out⟩
  | false =>
  cases dropOld with
  | true =>
    go_wp2_with fail
    go_ret
    exact ⟨by simp, HF2.out⟩
  | false =>
  cases moves with
  | true =>
    go_wp2_with fail
    go_ret
    exact ⟨by simp, HF2.out⟩
  | false =>
  go_wp2_with fail
  go_ret
  exact ⟨by simp, HF2.out⟩
end Go.Proofs.Ythjmkfpdbbfcpaa.ME

namespace Go.Proofs.Ythjmkfpdbbfcpaa.ME
set_option maxRecDepth 100000
open Go.RowKit K Go.Proofs.Ythjmkfpdbbfcpaa.BE Go.Proofs.Ythjmkfpdbbfcpaa.FR

/-- Told: a place, or -1. -/
def Found (b : Bool) (w : World) (e : Ending) (w' : World) : Prop := ∃ n : Int, e = .returned (.int .i64 n) ∧ decide (0 ≤ n) = b ∧ -1 ≤ n ∧ n ≤ 9223372036854775807 ∧ Fr No w w'
set_option maxHeartbeats 8000000 in
theorem indexMo {α : Type} (f : FuncId) (cap : List Value) (q : α → Bool) (p : World → α → List Value → Prop) (E : Nat → Prop) (v0 : Value) (X : List α) (w : World) (hp : ∀ w w' x c, p w x c → Fr No w w' → p w' x c)
    (h0 : Sl 3 (p w) E w v0 X) (hent : ∀ (vs : Array Value) (w : World), (callFunc f vs).run Try.prog w = .ok (.enter f vs) w)
    (hf : ∀ x ∈ X, ∀ c wv, p wv x c → Fr No w wv → Calls Try.prog f (Value.agg c.toArray :: cap).toArray wv fun e w' => e = .returned (.bool (q x)) ∧ Fr No wv w') :
    Calls Try.prog 65 #[v0, .func (.func f) #[] cap.toArray] w (Found (X.any q) w) := by
  obtain ⟨a, c, rfl, -, hl0⟩ := h0.form
  have HX0 := hid h0
  obtain ⟨n, hn⟩ : ∃ n, X.length = n := ⟨_, rfl⟩
  rw [hn] at HX0 hl0 ⊢
  have HNN := hid hn; have HP := hid hp; have HE := hid hent; have HF := hid hf
  obtain ⟨R, hR⟩ : ∃ R, X.any q = R := ⟨_, rfl⟩
  rw [hR]
  have HR := hid hR
  have hni : (n : Int) ≤ 140737488351232 := by omega
  clear hp h0 hent hf hn hR
  go_enter Try.func65, Try.ntmps65
  go_wp2_with fail
  go_loopw [8] (fun iv wr => ∃ (i : Nat), iv = .int .i64 i ∧ i ≤ n ∧ Hid ((X.take i).any q = false ∧ Fr No w wr)) (fun iv _ => n - (intOf iv).toNat)
  case atStart => exact ⟨0, rfl, Nat.zero_le _, hid ⟨rfl, Fr.refl _ _⟩⟩
  case round =>
    obtain ⟨i, rfl, hi, HI⟩ := hrel
    by_cases hlt : i < n
    · have hiX : i < X.length := by rw [HNN.out]; exact hlt
      obtain ⟨x, hx⟩ : ∃ x, X[i]? = some x := ⟨_, List.getElem?_eq_getElem hiX⟩
      have HXM := hid (List.mem_of_getElem? hx)
      have HNX : Hid ((X.take (i + 1)).any q = (q x || false)) := hid (by
        have hxx : X[i] = x := by rw [List.getElem?_eq_getElem hiX] at hx; exact Option.some.inj hx
        rw [List.take_succ_eq_append_getElem hiX, List.any_append, HI.out.1, hxx]; simp)
      have hlti : (i : Int) < n := by omega
      have hi0 : (0 : Int) ≤ i := by omega
      obtain ⟨g, o, cp, c, e1, hEg, hgw, hr, hc, hxa⟩ := (HX0.out.fr HI.out.2 (fun _ _ _ e => e) (fun x c _ h => HP.out _ _ x c h HI.out.2)).get hx
      rw [HNN.out] at e1
      simp only [Value.slice.injEq, true_and] at e1
      obtain ⟨rfl, rfl⟩ := e1
      have HXA := hid hxa; have HC := hid hc; have HRR := hid hr
      have HI3 : Hid ((Try.prog.info? 56).map (·.size) = some c.length) := hid (by rw [hc]; exact infoMo)
      clear hc hEg hgw hr hxa hx
      go_wp2_with (first
        | ((with_reducible refine K.atO (.load 56 _) ?_); refine wpL_load rfl _ _ rfl g (o + i * 3) rfl c _ HRR.out rfl rfl HI3.out ?_)
        | ((with_reducible refine K.atO (.call { callee := .value _, args := _, argTypes := _ }) ?_); refine wpL_callP rfl _ [_] _ rfl f cap rfl HE.out (Value.agg c.toArray :: cap) rfl ?_)
        | fail)
      refine (HF.out x HXM.out c wr HXA.out HI.out.2).mono ?_
      rintro e w4 ⟨rfl, f4⟩
      refine .inl ⟨_, rfl, ?_⟩
      have HF4 := hid (HI.out.2.trans' f4)
      have HLT := hid hlt
      clear f4 hlt
      cases hq : q x with
      | true =>
        have HQ := hid hq
        clear hq
        go_wp2_with fail
        go_ret
        refine ⟨i, rfl, ?_, by omega, by omega, HF4.out⟩
        rw [← HR.out]
        have h1 : X.any q = true := List.any_eq_true.2 ⟨x, HXM.out, HQ.out⟩
        rw [h1]
        simp
      | false =>
        have HQ := hid hq
        clear hq
        go_wp2_with fail
        go_roundw
        case rel => exact ⟨i + 1, by go_num, HLT.out, hid ⟨by rw [HNX.out, HQ.out]; rfl, HF4.out⟩⟩
        case measure => have := HLT.out; simp [intOf]; omega
    · obtain rfl : i = n := by omega
      go_wp2_with fail
      go_ret
      refine ⟨-1, rfl, ?_, by omega, by omega, HI.out.2⟩
      rw [← HR.out]
      have h1 := HI.out.1
      rw [List.take_of_length_le (by rw [HNN.out]; exact Nat.le_refl _)] at h1
      rw [h1]
      rfl
theorem containsMo {α : Type} (f : FuncId) (cap : List Value) (q : α → Bool) (p : World → α → List Value → Prop) (E : Nat → Prop) (v0 : Value) (X : List α) (w : World) (hp : ∀ w w' x c, p w x c → Fr No w w' → p w' x c)
    (h0 : Sl 3 (p w) E w v0 X) (hent : ∀ (vs : Array Value) (w : World), (callFunc f vs).run Try.prog w = .ok (.enter f vs) w)
    (hf : ∀ x ∈ X, ∀ c wv, p wv x c → Fr No w wv → Calls Try.prog f (Value.agg c.toArray :: cap).toArray wv fun e w' => e = .returned (.bool (q x)) ∧ Fr No wv w') :
    Calls Try.prog 35 #[v0, .func (.func f) #[] cap.toArray] w fun e w' => e = .returned (.bool (X.any q)) ∧ Fr No w w' := by
  have H := hid (indexMo f cap q p E v0 X w hp h0 hent hf)
  obtain ⟨a, c, rfl, -, -⟩ := h0.form
  obtain ⟨R, hR⟩ : ∃ R, X.any q = R := ⟨_, rfl⟩
  obtain ⟨n, hn⟩ : ∃ n, X.length = n := ⟨_, rfl⟩
  rw [hR] at H ⊢
  rw [hn] at H ⊢
  clear hp h0 hent hf hR hn
  go_enter Try.func35, Try.ntmps35
  go_wp2_with fail
  refine H.out.mono ?_
  rintro e w2 ⟨m, rfl, hm, h1, h2, f2⟩
  have HF := hid f2
  clear f2
  have HM := hid hm
  clear hm
  go_wp2_with fail
  go_ret
  exact ⟨by rw [← HM.out]; rfl, HF.out⟩
set_option maxHeartbeats 8000000 in
theorem indexFl {α : Type} (f : FuncId) (cap : List Value) (q : α → Bool) (p : World → α → List Value → Prop) (E : Nat → Prop) (v0 : Value) (X : List α) (w : World) (hp : ∀ w w' x c, p w x c → Fr No w w' → p w' x c)
    (h0 : Sl 7 (p w) E w v0 X) (hent : ∀ (vs : Array Value) (w : World), (callFunc f vs).run Try.prog w = .ok (.enter f vs) w)
    (hf : ∀ x ∈ X, ∀ c wv, p wv x c → Fr No w wv → Calls Try.prog f (Value.agg c.toArray :: cap).toArray wv fun e w' => e = .returned (.bool (q x)) ∧ Fr No wv w') :
    Calls Try.prog 94 #[v0, .func (.func f) #[] cap.toArray] w (Found (X.any q) w) := by
  obtain ⟨a, c, rfl, -, hl0⟩ := h0.form
  have HX0 := hid h0
  obtain ⟨n, hn⟩ : ∃ n, X.length = n := ⟨_, rfl⟩
  rw [hn] at HX0 hl0 ⊢
  have HNN := hid hn; have HP := hid hp; have HE := hid hent; have HF := hid hf
  obtain ⟨R, hR⟩ : ∃ R, X.any q = R := ⟨_, rfl⟩
  rw [hR]
  have HR := hid hR
  have hni : (n : Int) ≤ 140737488351232 := by omega
  clear hp h0 hent hf hn hR
  go_enter Try.func94, Try.ntmps94
  go_wp2_with fail
  go_loopw [8] (fun iv wr => ∃ (i : Nat), iv = .int .i64 i ∧ i ≤ n ∧ Hid ((X.take i).any q = false ∧ Fr No w wr)) (fun iv _ => n - (intOf iv).toNat)
  case atStart => exact ⟨0, rfl, Nat.zero_le _, hid ⟨rfl, Fr.refl _ _⟩⟩
  case round =>
    obtain ⟨i, rfl, hi, HI⟩ := hrel
    by_cases hlt : i < n
    · have hiX : i < X.length := by rw [HNN.out]; exact hlt
      obtain ⟨x, hx⟩ : ∃ x, X[i]? = some x := ⟨_, List.getElem?_eq_getElem hiX⟩
      have HXM := hid (List.mem_of_getElem? hx)
      have HNX : Hid ((X.take (i + 1)).any q = (q x || false)) := hid (by
        have hxx : X[i] = x := by rw [List.getElem?_eq_getElem hiX] at hx; exact Option.some.inj hx
        rw [List.take_succ_eq_append_getElem hiX, List.any_append, HI.out.1, hxx]; simp)
      have hlti : (i : Int) < n := by omega
      have hi0 : (0 : Int) ≤ i := by omega
      obtain ⟨g, o, cp, c, e1, hEg, hgw, hr, hc, hxa⟩ := (HX0.out.fr HI.out.2 (fun _ _ _ e => e) (fun x c _ h => HP.out _ _ x c h HI.out.2)).get hx
      rw [HNN.out] at e1
      simp only [Value.slice.injEq, true_and] at e1
      obtain ⟨rfl, rfl⟩ := e1
      have HXA := hid hxa; have HC := hid hc; have HRR := hid hr
      have HI3 : Hid ((Try.prog.info? 25).map (·.size) = some c.length) := hid (by rw [hc]; exact infoFl)
      clear hc hEg hgw hr hxa hx
      go_wp2_with (first
        | ((with_reducible refine K.atO (.load 25 _) ?_); refine wpL_load rfl _ _ rfl g (o + i * 7) rfl c _ HRR.out rfl rfl HI3.out ?_)
        | ((with_reducible refine K.atO (.call { callee := .value _, args := _, argTypes := _ }) ?_); refine wpL_callP rfl _ [_] _ rfl f cap rfl HE.out (Value.agg c.toArray :: cap) rfl ?_)
        | fail)
      refine (HF.out x HXM.out c wr HXA.out HI.out.2).mono ?_
      rintro e w4 ⟨rfl, f4⟩
      refine .inl ⟨_, rfl, ?_⟩
      have HF4 := hid (HI.out.2.trans' f4)
      have HLT := hid hlt
      clear f4 hlt
      cases hq : q x with
      | true =>
        have HQ := hid hq
        clear hq
        go_wp2_with fail
        go_ret
        refine ⟨i, rfl, ?_, by omega, by omega, HF4.out⟩
        rw [← HR.out]
        have h1 : X.any q = true := List.any_eq_true.2 ⟨x, HXM.out, HQ.out⟩
        rw [h1]
        simp
      | false =>
        have HQ := hid hq
        clear hq
        go_wp2_with fail
        go_roundw
        case rel => exact ⟨i + 1, by go_num, HLT.out, hid ⟨by rw [HNX.out, HQ.out]; rfl, HF4.out⟩⟩
        case measure => have := HLT.out; simp [intOf]; omega
    · obtain rfl : i = n := by omega
      go_wp2_with fail
      go_ret
      refine ⟨-1, rfl, ?_, by omega, by omega, HI.out.2⟩
      rw [← HR.out]
      have h1 := HI.out.1
      rw [List.take_of_length_le (by rw [HNN.out]; exact Nat.le_refl _)] at h1
      rw [h1]
      rfl
theorem containsFl {α : Type} (f : FuncId) (cap : List Value) (q : α → Bool) (p : World → α → List Value → Prop) (E : Nat → Prop) (v0 : Value) (X : List α) (w : World) (hp : ∀ w w' x c, p w x c → Fr No w w' → p w' x c)
    (h0 : Sl 7 (p w) E w v0 X) (hent : ∀ (vs : Array Value) (w : World), (callFunc f vs).run Try.prog w = .ok (.enter f vs) w)
    (hf : ∀ x ∈ X, ∀ c wv, p wv x c → Fr No w wv → Calls Try.prog f (Value.agg c.toArray :: cap).toArray wv fun e w' => e = .returned (.bool (q x)) ∧ Fr No wv w') :
    Calls Try.prog 91 #[v0, .func (.func f) #[] cap.toArray] w fun e w' => e = .returned (.bool (X.any q)) ∧ Fr No w w' := by
  have H := hid (indexFl f cap q p E v0 X w hp h0 hent hf)
  obtain ⟨a, c, rfl, -, -⟩ := h0.form
  obtain ⟨R, hR⟩ : ∃ R, X.any q = R := ⟨_, rfl⟩
  obtain ⟨n, hn⟩ : ∃ n, X.length = n := ⟨_, rfl⟩
  rw [hR] at H ⊢
  rw [hn] at H ⊢
  clear hp h0 hent hf hR hn
  go_enter Try.func91, Try.ntmps91
  go_wp2_with fail
  refine H.out.mono ?_
  rintro e w2 ⟨m, rfl, hm, h1, h2, f2⟩
  have HF := hid f2
  clear f2
  have HM := hid hm
  clear hm
  go_wp2_with fail
  go_ret
  exact ⟨by rw [← HM.out]; rfl, HF.out⟩
set_option maxHeartbeats 8000000 in
theorem indexTx (E : Nat → Prop) (v0 : Value) (X : List B) (w : World) (h0 : Tx E w v0 X) : Calls Try.prog 95 #[v0, .string ⟨#[]⟩] w (Found (X.any (·.isEmpty)) w) := by
  obtain ⟨⟨a, n, c, rfl, hn, -, hA⟩, hl, hsz⟩ := h0
  have HNN := hid hn; have HA := hid hA
  rw [hn] at hl
  obtain ⟨R, hR⟩ : ∃ R, X.any (·.isEmpty) = R := ⟨_, rfl⟩
  rw [hR]
  have HR := hid hR
  have hni : (n : Int) ≤ 140737488351232 := by omega
  clear hn hA hR hsz
  go_enter Try.func95, Try.ntmps95
  go_wp2_with fail
  go_loopw [8] (fun iv wr => ∃ (i : Nat), iv = .int .i64 i ∧ i ≤ n ∧ Hid ((X.take i).any (·.isEmpty) = false ∧ Fr No w wr)) (fun iv _ => n - (intOf iv).toNat)
  case atStart => exact ⟨0, rfl, Nat.zero_le _, hid ⟨rfl, Fr.refl _ _⟩⟩
  case round =>
    obtain ⟨i, rfl, hi, HI⟩ := hrel
    by_cases hlt : i < n
    · obtain ⟨g, o, rfl, hEg, hg, hr⟩ := HA.out.resolve_left (by omega)
      have hiX : i < X.length := by rw [HNN.out]; exact hlt
      have k2 := (HI.out.2.range hr id) i _ (show (strs X)[i]? = some (.string (sb X[i])) by simp [strs, hiX])
      obtain ⟨x, hx⟩ : ∃ x, X[i] = x := ⟨_, rfl⟩
      have HXM : Hid (x ∈ X) := hid (by rw [← hx]; exact List.getElem_mem _)
      have HNX : Hid ((X.take (i + 1)).any (·.isEmpty) = (x.isEmpty || false)) := hid (by rw [List.take_succ_eq_append_getElem hiX, List.any_append, HI.out.1, hx]; simp)
      rw [hx] at k2
      have hlti : (i : Int) < n := by omega
      have hi0 : (0 : Int) ≤ i := by omega
      have HLT := hid hlt
      have g2 := sbE x
      clear hr hg hEg hx hlt hiX
      cases hq : x.isEmpty with
      | true =>
        have HQ := hid hq
        rw [hq] at g2
        obtain rfl : x = [] := List.isEmpty_iff.1 hq
        clear hq
        go_wp2_with fail
        go_ret
        refine ⟨i, rfl, ?_, by omega, by omega, HI.out.2⟩
        rw [← HR.out]
        have h1 : X.any (·.isEmpty) = true := List.any_eq_true.2 ⟨[], HXM.out, rfl⟩
        rw [h1]
        simp
      | false =>
        have HQ := hid hq
        rw [hq] at g2
        obtain ⟨S, hS⟩ : ∃ S, sb x = S := ⟨_, rfl⟩
        rw [hS] at g2 k2
        clear hq hS
        go_wp2_with fail
        go_roundw
        case rel => exact ⟨i + 1, by go_num, HLT.out, hid ⟨by rw [HNX.out, HQ.out]; rfl, HI.out.2⟩⟩
        case measure => have := HLT.out; simp [intOf]; omega
    · obtain rfl : i = n := by omega
      go_wp2_with fail
      go_ret
      refine ⟨-1, rfl, ?_, by omega, by omega, HI.out.2⟩
      rw [← HR.out]
      have h1 := HI.out.1
      rw [List.take_of_length_le (by rw [HNN.out]; exact Nat.le_refl _)] at h1
      rw [h1]
      rfl
theorem containsTx (E : Nat → Prop) (v0 : Value) (X : List B) (w : World) (h0 : Tx E w v0 X) : Calls Try.prog 93 #[v0, .string ⟨#[]⟩] w fun e w' => e = .returned (.bool (X.any (·.isEmpty))) ∧ Fr No w w' := by
  have H := hid (indexTx E v0 X w h0)
  obtain ⟨a, c, rfl, -, -⟩ := h0.form
  obtain ⟨R, hR⟩ : ∃ R, X.any (·.isEmpty) = R := ⟨_, rfl⟩
  obtain ⟨n, hn⟩ : ∃ n, X.length = n := ⟨_, rfl⟩
  rw [hR] at H ⊢
  rw [hn] at H ⊢
  clear h0 hR hn
  go_enter Try.func93, Try.ntmps93
  go_wp2_with fail
  refine H.out.mono ?_
  rintro e w2 ⟨m, rfl, hm, h1, h2, f2⟩
  have HF := hid f2
  clear f2
  have HM := hid hm
  clear hm
  go_wp2_with fail
  go_ret
  exact ⟨by rw [← HM.out]; rfl, HF.out⟩
end Go.Proofs.Ythjmkfpdbbfcpaa.ME
