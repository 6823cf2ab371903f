/-
  Part 25 of the proof: MqL.
-/
import Derived.Test.YthjmkfpdbbfcpaaMw24
import Derived.Test.YthjmkfpdbbfcpaaMw03
set_option linter.unusedSimpArgs false
set_option linter.unusedVariables false
namespace Go.Proofs.Ythjmkfpdbbfcpaa.ME
set_option maxRecDepth 100000
open Go.RowKit K Go.Proofs.Ythjmkfpdbbfcpaa.BE Go.Proofs.Ythjmkfpdbbfcpaa.FR

theorem flb_mono {k k' : Nat} (hk : k ≤ k') : ∀ (d : Nat) {f : Fl}, FlB k d f → FlB k' d f
  | 0, _, _ => trivial
  | d + 1, f, h => ⟨Nat.le_trans h.1 hk, Nat.le_trans h.2.1 hk, Nat.le_trans h.2.2.1 hk, Nat.le_trans h.2.2.2.1 hk, Nat.le_trans h.2.2.2.2.1 hk, fun a ha => Nat.le_trans (h.2.2.2.2.2.1 a ha) hk, Nat.le_trans h.2.2.2.2.2.2.1 hk, fun x hx => flb_mono hk d (h.2.2.2.2.2.2.2 x hx)⟩
theorem wb_arg {k : Nat} {m : Msg} (h : MsgB k m) (hk : k ≤ 1048576) : WB m :=
  ⟨flb_mono hk 6 (h.filter 6), Nat.le_trans h.wants.1 hk, ⟨Nat.le_trans h.list.1 hk, fun x hx => Nat.le_trans (h.list.2 x hx).2.1 hk⟩, ⟨Nat.le_trans h.mods.1 hk, fun x hx => Nat.le_trans (h.mods.2 x hx).2.1 hk⟩⟩
theorem enc_short (m : Msg) : (encM m).1.length ≤ 4004 := by
  unfold encM
  split
  · unfold encS
    split
    · rename_i h
      exact enc8_len (errN_zero h).2.2
    · exact Nat.zero_le _
  · exact Nat.zero_le _
theorem enc_good {m : Msg} (h : (encM m).2 = 0) : decP (encM m).1 = (m, 0) := by
  unfold encM at h ⊢
  split
  · rename_i hr
    rw [if_pos hr] at h
    unfold decP
    rw [decR_back hr h]
  · rename_i hr
    rw [if_neg hr] at h
    cases h
theorem enc_rd {m : Msg} (h : (encM m).2 = 0) (r : B) : rd 8 ((encM m).1 ++ r) = .ok (pieceM m, (encM m).1.length) := by
  unfold encM at h ⊢
  split
  · rename_i hr
    rw [if_pos hr] at h
    have h1 : encS (pieceM m) = enc 8 (pieceM m) := by unfold encS; rw [if_pos h]
    obtain ⟨e1, e2, e3⟩ := errN_zero h
    show rd 8 (encS (pieceM m) ++ r) = .ok (pieceM m, (encS (pieceM m)).length)
    rw [h1]
    exact rd_enc 8 (pieceM m) r e1 e2 e3
  · rename_i hr
    rw [if_neg hr] at h
    cases h
theorem dec_rd {s r : B} {m : Msg} (h : decR s = some m) : rd 8 (s ++ r) = .ok (pieceM m, s.length) := by
  obtain ⟨hr, he, hs⟩ := decR_only h
  have e : encM m = (s, 0) := by unfold encM; rw [if_pos hr, he, hs]
  have := enc_rd (m := m) (by rw [e]) r
  rw [e] at this
  exact this
theorem cut_none {m : Msg} (h : (encM m).2 = 0) {k : Nat} (hk : k < (encM m).1.length) : decP ((encM m).1.take k) = (msg0 0 0, 110) := by
  unfold decP
  cases hd : decR ((encM m).1.take k) with
  | none => rfl
  | some m' =>
    have h1 := dec_rd (r := (encM m).1.drop k) hd
    rw [List.take_append_drop] at h1
    have h2 := enc_rd h []
    rw [List.append_nil, h1] at h2
    simp only [Except.ok.injEq, Prod.mk.injEq, List.length_take] at h2
    omega
theorem more_none {m : Msg} (h : (encM m).2 = 0) {r : B} (hr : r ≠ []) : decP ((encM m).1 ++ r) = (msg0 0 0, 110) := by
  unfold decP
  cases hd : decR ((encM m).1 ++ r) with
  | none => rfl
  | some m' =>
    have h1 := dec_rd (r := []) hd
    rw [List.append_nil, enc_rd h r] at h1
    simp only [Except.ok.injEq, Prod.mk.injEq, List.length_append] at h1
    have : r.length ≠ 0 := fun e => hr (List.eq_nil_of_length_eq_zero e)
    omega
set_option maxHeartbeats 16000000 in
theorem messageWhole_walk (M : Nat) (m : Msg) (vk va vw vl vm : Value) (at_ : Int) (bh : B) (w : World) (hm : MsgC M (fun i => i < w.heap.size) w m vk va vw vl vm) (hb : WB m) (hat : I64 at_) (hbh : bh.length ≤ 140737488351232) : Calls Try.prog 5 #[.agg (mcs m vk va vw vl vm).toArray, .int .i64 at_, .string (sb bh)] w fun e w' => e = .returned (.bool true) ∧ Fr No w w' := by
  obtain ⟨E, hE⟩ : ∃ E : Nat → Prop, E = fun i => i < w.heap.size := ⟨_, rfl⟩
  rw [← hE] at hm
  clear hE
  have H := hid hm
  have HEC : Hid (∀ w', Fr No w w' → Calls Try.prog 8 #[.agg (mcs m vk va vw vl vm).toArray] w' fun e w'' => e = .returned (.tuple #[.string (sb (encM m).1), .int .i64 ((encM m).2 : Int)]) ∧ Fr No w' w'') := hid (fun w' hf => pencode_any M E m vk va vw vl vm w' (hm.no hf) hb)
  have HLEN := hid (show (Try.prog.info? 29).map (·.size) = some (mcs m vk va vw vl vm).length from infoMsg)
  have HONE := hid (mcs_one hm)
  have HSL : Hid ((encM m).1.length ≤ 4004) := hid (enc_short m)
  have e : mcs m vk va vw vl vm = [.int .i64 m.id, .int .i64 m.op, .int .i64 m.ver, .string (sb m.name), .string (sb m.pw), .int .i64 m.scope, .int .i64 m.deref, .int .i64 m.size, .int .i64 m.time, .bool m.typesOnly, .int .i64 m.filter.kind, vk, .string (sb m.filter.type), .string (sb m.filter.value), .string (sb m.filter.first), va, .string (sb m.filter.last), vw, vl, vm, .string (sb m.rdn), .bool m.dropOld, .bool m.moves, .string (sb m.sup), .string (sb m.type), .string (sb m.value), .int .i64 m.target, .int .i64 m.code, .string (sb m.matched), .string (sb m.text)] := rfl
  rw [e] at HLEN HONE HEC ⊢
  by_cases hk : (encM m).2 = 0
  · have hk2 : (((encM m).2 : Nat) : Int) = 0 := by rw [hk]; rfl
    rw [hk2] at HEC
    have HCUT : Hid (∀ k, k < (encM m).1.length → (decP ((encM m).1.take k)).1 = msg0 0 0 ∧ (((decP ((encM m).1.take k)).2 : Nat) : Int) = 110) := hid (fun k hk3 => by rw [cut_none hk hk3]; exact ⟨rfl, rfl⟩)
    have HMORE : Hid (bh ≠ [] → (decP ((encM m).1 ++ bh)).1 = msg0 0 0 ∧ (((decP ((encM m).1 ++ bh)).2 : Nat) : Int) = 110) := hid (fun hne => by rw [more_none hk hne]; exact ⟨rfl, rfl⟩)
    have HSAME : Hid ((decP (encM m).1).1 = m ∧ (((decP (encM m).1).2 : Nat) : Int) = 0) := hid (by rw [enc_good hk]; exact ⟨rfl, rfl⟩)
    obtain ⟨s, hs⟩ : ∃ s, (encM m).1 = s := ⟨_, rfl⟩
    rw [hs] at HEC HCUT HMORE HSAME HSL
    obtain ⟨n, hn⟩ : ∃ n, s.length = n := ⟨_, rfl⟩
    have HN := hid hn
    have HBH := hid hbh
    have hsz : (((sb s).size : Nat) : Int) = (n : Int) := by rw [sb_size, hn]
    clear hm hb hk hk2 hs e hn hbh
    by_cases hin : 0 ≤ at_ ∧ at_ < (n : Int)
    · obtain ⟨k, hk⟩ : ∃ k : Nat, at_ = (k : Int) := ⟨at_.toNat, by omega⟩
      subst hk
      have hk0 : (0 : Int) ≤ (k : Int) := by omega
      have hkn : (k : Int) < (n : Int) := hin.2
      have HKN := hid (show k < s.length by rw [HN.out]; omega)
      have HC := hid (HCUT.out k HKN.out)
      have HTL := hid (show (s.take k).length ≤ 281474976710656 by rw [List.length_take]; have := HSL.out; omega)
      clear hin hat
      go_enter Try.func5, Try.ntmps5
      go_wp2_with (first
        | ((with_reducible refine K.atO (.box 29 _) ?_); refine wpL_box rfl _ _ rfl _ rfl [.int .i64 m.id, .int .i64 m.op, .int .i64 m.ver, .string (sb m.name), .string (sb m.pw), .int .i64 m.scope, .int .i64 m.deref, .int .i64 m.size, .int .i64 m.time, .bool m.typesOnly, .int .i64 m.filter.kind, vk, .string (sb m.filter.type), .string (sb m.filter.value), .string (sb m.filter.first), va, .string (sb m.filter.last), vw, vl, vm, .string (sb m.rdn), .bool m.dropOld, .bool m.moves, .string (sb m.sup), .string (sb m.type), .string (sb m.value), .int .i64 m.target, .int .i64 m.code, .string (sb m.matched), .string (sb m.text)] rfl ?_; intro w1 HB1 F1 HS1)
        | fail)
      refine (awake_any w1).mono ?_
      rintro e w2 ⟨rfl, f2⟩
      have HB2 := hid (HB1.out.fr f2 id); have HF2 := hid (F1.out.trans' f2)
      clear f2
      go_wp2_with (first
        | ((with_reducible refine K.atO (.load 29 _) ?_); refine wpL_load rfl _ _ rfl w.heap.size 0 rfl [.int .i64 m.id, .int .i64 m.op, .int .i64 m.ver, .string (sb m.name), .string (sb m.pw), .int .i64 m.scope, .int .i64 m.deref, .int .i64 m.size, .int .i64 m.time, .bool m.typesOnly, .int .i64 m.filter.kind, vk, .string (sb m.filter.type), .string (sb m.filter.value), .string (sb m.filter.first), va, .string (sb m.filter.last), vw, vl, vm, .string (sb m.rdn), .bool m.dropOld, .bool m.moves, .string (sb m.sup), .string (sb m.type), .string (sb m.value), .int .i64 m.target, .int .i64 m.code, .string (sb m.matched), .string (sb m.text)] _ (HB2.out.range 0 _ rfl) rfl rfl HLEN.out ?_)
        | fail)
      refine (HEC.out w2 HF2.out).mono ?_
      rintro e w3 ⟨rfl, f3⟩
      have HF3 := hid (HF2.out.trans' f3)
      clear f3
      go_wp2_with (first
        | ((with_reducible refine K.atO (.slice 9 _ _ _ _) ?_); refine wpL_valZ (by rfl) (.string (sb (s.take k))) (exec_to _ _ rfl s k rfl rfl (Nat.le_of_lt HKN.out) _ rfl _) ?_)
        | fail)
      refine (pdecode_any (s.take k) w3 (by exact HTL.out)).mono ?_
      rintro e x5 ⟨uk5, ua5, uw5, ul5, um5, rfl, hu, f5⟩
      rw [HC.out.1] at hu ⊢
      rw [HC.out.2]
      have HUL5 := hid (show (Try.prog.info? 29).map (·.size) = some (mcs (msg0 0 0) uk5 ua5 uw5 ul5 um5).length from infoMsg)
      have HU5 := hid (mcs_one hu); have HF5 := hid (HF3.out.trans' f5)
      obtain ⟨D5, hD⟩ : ∃ D, mcs (msg0 0 0) uk5 ua5 uw5 ul5 um5 = D := ⟨_, rfl⟩
      have HDL5 : Hid (D5.length = 30) := hid (by rw [← hD]; rfl)
      rw [hD] at HU5 HUL5 ⊢
      clear hu f5 hD
      go_wp2_with (first
        | ((with_reducible refine K.atO (.alloc 29) ?_); (fail_if_success (have := HA5)); refine wpL_alloc rfl _ rfl _ zeroMsg [.int .i64 0, .int .i64 0, .int .i64 0, .string ⟨#[]⟩, .string ⟨#[]⟩, .int .i64 0, .int .i64 0, .int .i64 0, .int .i64 0, .bool false, .int .i64 0, .slice none 0 0, .string ⟨#[]⟩, .string ⟨#[]⟩, .string ⟨#[]⟩, .slice none 0 0, .string ⟨#[]⟩, .slice none 0 0, .slice none 0 0, .slice none 0 0, .string ⟨#[]⟩, .bool false, .bool false, .string ⟨#[]⟩, .string ⟨#[]⟩, .string ⟨#[]⟩, .int .i64 0, .int .i64 0, .string ⟨#[]⟩, .string ⟨#[]⟩] rfl ?_; intro a5 HA5 FA5 SA5)
        | ((with_reducible refine K.atO (.store 29 _ _) ?_); refine wpL_storeV rfl _ _ _ rfl x5.heap.size 0 (.agg D5.toArray) D5 rfl rfl rfl _ _ HA5.out (by rw [HDL5.out]; simp) HUL5.out HU5.out ?_; intro b5 HB5 FB5 SB5; have G5 : Hid (Fr No w b5) := hid (HF5.out.trans' (FA5.out.trans FB5.out fun k e => .inr (by have e : k = x5.heap.size := e; omega))))
        | ((with_reducible refine K.atO (.binOp .add 9 _ _ _) ?_); refine wpL_valZ rfl (.string (sb (s ++ bh))) (exec_addS _ _ _ rfl s bh rfl rfl (by have := HN.out; have := HSL.out; have := HBH.out; omega) _ rfl _) ?_)
        | fail)
      by_cases hbe : bh = []
      · subst hbe
        have g2 : (sb ([] : B)).toList.isEmpty = true := by rw [sbE]; rfl
        have e2 : s ++ ([] : B) = s := List.append_nil s
        rw [e2]
        clear e2
        refine (pdecode_any (s) b5 (by have := HSL.out; omega)).mono ?_
        rintro e x8 ⟨uk8, ua8, uw8, ul8, um8, rfl, hu, f8⟩
        rw [HSAME.out.1] at hu ⊢
        rw [HSAME.out.2]
        have HUL8 := hid (show (Try.prog.info? 29).map (·.size) = some (mcs m uk8 ua8 uw8 ul8 um8).length from infoMsg)
        have HU8 := hid (mcs_one hu); have HF8 := hid (G5.out.trans' f8)
        obtain ⟨D8, hD⟩ : ∃ D, mcs m uk8 ua8 uw8 ul8 um8 = D := ⟨_, rfl⟩
        have HDL8 : Hid (D8.length = 30) := hid (by rw [← hD]; rfl)
        rw [hD] at HU8 HUL8 ⊢
        clear hu f8 hD
        go_wp2_with (first
          | ((with_reducible refine K.atO (.alloc 29) ?_); (fail_if_success (have := HA8)); refine wpL_alloc rfl _ rfl _ zeroMsg [.int .i64 0, .int .i64 0, .int .i64 0, .string ⟨#[]⟩, .string ⟨#[]⟩, .int .i64 0, .int .i64 0, .int .i64 0, .int .i64 0, .bool false, .int .i64 0, .slice none 0 0, .string ⟨#[]⟩, .string ⟨#[]⟩, .string ⟨#[]⟩, .slice none 0 0, .string ⟨#[]⟩, .slice none 0 0, .slice none 0 0, .slice none 0 0, .string ⟨#[]⟩, .bool false, .bool false, .string ⟨#[]⟩, .string ⟨#[]⟩, .string ⟨#[]⟩, .int .i64 0, .int .i64 0, .string ⟨#[]⟩, .string ⟨#[]⟩] rfl ?_; intro a8 HA8 FA8 SA8)
          | ((with_reducible refine K.atO (.store 29 _ _) ?_); refine wpL_storeV rfl _ _ _ rfl x8.heap.size 0 (.agg D8.toArray) D8 rfl rfl rfl _ _ HA8.out (by rw [HDL8.out]; simp) HUL8.out HU8.out ?_; intro b8 HB8 FB8 SB8; have G8 : Hid (Fr No w b8) := hid (HF8.out.trans' (FA8.out.trans FB8.out fun k e => .inr (by have e : k = x8.heap.size := e; omega))))
          | fail)
        go_ret
        exact ⟨rfl, G8.out⟩
      · have g2 : (sb bh).toList.isEmpty = false := by rw [sbE]; cases bh with | nil => exact absurd rfl hbe | cons a r => rfl
        have HMM := hid (HMORE.out hbe)
        have HLL := hid (show (s ++ bh).length ≤ 281474976710656 by rw [List.length_append]; have := HSL.out; have := HBH.out; omega)
        obtain ⟨SBH, hSBH⟩ : ∃ x, sb bh = x := ⟨_, rfl⟩
        rw [hSBH] at g2 ⊢
        clear hbe hSBH
        refine (pdecode_any (s ++ bh) b5 (by exact HLL.out)).mono ?_
        rintro e x9 ⟨uk9, ua9, uw9, ul9, um9, rfl, hu, f9⟩
        rw [HMM.out.1] at hu ⊢
        rw [HMM.out.2]
        have HUL9 := hid (show (Try.prog.info? 29).map (·.size) = some (mcs (msg0 0 0) uk9 ua9 uw9 ul9 um9).length from infoMsg)
        have HU9 := hid (mcs_one hu); have HF9 := hid (G5.out.trans' f9)
        obtain ⟨D9, hD⟩ : ∃ D, mcs (msg0 0 0) uk9 ua9 uw9 ul9 um9 = D := ⟨_, rfl⟩
        have HDL9 : Hid (D9.length = 30) := hid (by rw [← hD]; rfl)
        rw [hD] at HU9 HUL9 ⊢
        clear hu f9 hD
        go_wp2_with (first
          | ((with_reducible refine K.atO (.alloc 29) ?_); (fail_if_success (have := HA9)); refine wpL_alloc rfl _ rfl _ zeroMsg [.int .i64 0, .int .i64 0, .int .i64 0, .string ⟨#[]⟩, .string ⟨#[]⟩, .int .i64 0, .int .i64 0, .int .i64 0, .int .i64 0, .bool false, .int .i64 0, .slice none 0 0, .string ⟨#[]⟩, .string ⟨#[]⟩, .string ⟨#[]⟩, .slice none 0 0, .string ⟨#[]⟩, .slice none 0 0, .slice none 0 0, .slice none 0 0, .string ⟨#[]⟩, .bool false, .bool false, .string ⟨#[]⟩, .string ⟨#[]⟩, .string ⟨#[]⟩, .int .i64 0, .int .i64 0, .string ⟨#[]⟩, .string ⟨#[]⟩] rfl ?_; intro a9 HA9 FA9 SA9)
          | ((with_reducible refine K.atO (.store 29 _ _) ?_); refine wpL_storeV rfl _ _ _ rfl x9.heap.size 0 (.agg D9.toArray) D9 rfl rfl rfl _ _ HA9.out (by rw [HDL9.out]; simp) HUL9.out HU9.out ?_; intro b9 HB9 FB9 SB9; have G9 : Hid (Fr No w b9) := hid (HF9.out.trans' (FA9.out.trans FB9.out fun k e => .inr (by have e : k = x9.heap.size := e; omega))))
          | fail)
        go_ret
        exact ⟨rfl, G9.out⟩
    · have hd : at_ < 0 ∨ (n : Int) ≤ at_ := by omega
      rcases hd with hd | hd
      · have hd2 : ¬ 0 ≤ at_ := by omega
        clear hin hat
        go_enter Try.func5, Try.ntmps5
        go_wp2_with (first
          | ((with_reducible refine K.atO (.box 29 _) ?_); refine wpL_box rfl _ _ rfl _ rfl [.int .i64 m.id, .int .i64 m.op, .int .i64 m.ver, .string (sb m.name), .string (sb m.pw), .int .i64 m.scope, .int .i64 m.deref, .int .i64 m.size, .int .i64 m.time, .bool m.typesOnly, .int .i64 m.filter.kind, vk, .string (sb m.filter.type), .string (sb m.filter.value), .string (sb m.filter.first), va, .string (sb m.filter.last), vw, vl, vm, .string (sb m.rdn), .bool m.dropOld, .bool m.moves, .string (sb m.sup), .string (sb m.type), .string (sb m.value), .int .i64 m.target, .int .i64 m.code, .string (sb m.matched), .string (sb m.text)] rfl ?_; intro w1 HB1 F1 HS1)
          | fail)
        refine (awake_any w1).mono ?_
        rintro e w2 ⟨rfl, f2⟩
        have HB2 := hid (HB1.out.fr f2 id); have HF2 := hid (F1.out.trans' f2)
        clear f2
        go_wp2_with (first
          | ((with_reducible refine K.atO (.load 29 _) ?_); refine wpL_load rfl _ _ rfl w.heap.size 0 rfl [.int .i64 m.id, .int .i64 m.op, .int .i64 m.ver, .string (sb m.name), .string (sb m.pw), .int .i64 m.scope, .int .i64 m.deref, .int .i64 m.size, .int .i64 m.time, .bool m.typesOnly, .int .i64 m.filter.kind, vk, .string (sb m.filter.type), .string (sb m.filter.value), .string (sb m.filter.first), va, .string (sb m.filter.last), vw, vl, vm, .string (sb m.rdn), .bool m.dropOld, .bool m.moves, .string (sb m.sup), .string (sb m.type), .string (sb m.value), .int .i64 m.target, .int .i64 m.code, .string (sb m.matched), .string (sb m.text)] _ (HB2.out.range 0 _ rfl) rfl rfl HLEN.out ?_)
          | fail)
        refine (HEC.out w2 HF2.out).mono ?_
        rintro e w3 ⟨rfl, f3⟩
        have HF3 := hid (HF2.out.trans' f3)
        clear f3
        go_wp2_with (first
          | ((with_reducible refine K.atO (.binOp .add 9 _ _ _) ?_); refine wpL_valZ rfl (.string (sb (s ++ bh))) (exec_addS _ _ _ rfl s bh rfl rfl (by have := HN.out; have := HSL.out; have := HBH.out; omega) _ rfl _) ?_)
          | fail)
        by_cases hbe : bh = []
        · subst hbe
          have g2 : (sb ([] : B)).toList.isEmpty = true := by rw [sbE]; rfl
          have e2 : s ++ ([] : B) = s := List.append_nil s
          rw [e2]
          clear e2
          refine (pdecode_any (s) w3 (by have := HSL.out; omega)).mono ?_
          rintro e x8 ⟨uk8, ua8, uw8, ul8, um8, rfl, hu, f8⟩
          rw [HSAME.out.1] at hu ⊢
          rw [HSAME.out.2]
          have HUL8 := hid (show (Try.prog.info? 29).map (·.size) = some (mcs m uk8 ua8 uw8 ul8 um8).length from infoMsg)
          have HU8 := hid (mcs_one hu); have HF8 := hid (HF3.out.trans' f8)
          obtain ⟨D8, hD⟩ : ∃ D, mcs m uk8 ua8 uw8 ul8 um8 = D := ⟨_, rfl⟩
          have HDL8 : Hid (D8.length = 30) := hid (by rw [← hD]; rfl)
          rw [hD] at HU8 HUL8 ⊢
          clear hu f8 hD
          go_wp2_with (first
            | ((with_reducible refine K.atO (.alloc 29) ?_); (fail_if_success (have := HA8)); refine wpL_alloc rfl _ rfl _ zeroMsg [.int .i64 0, .int .i64 0, .int .i64 0, .string ⟨#[]⟩, .string ⟨#[]⟩, .int .i64 0, .int .i64 0, .int .i64 0, .int .i64 0, .bool false, .int .i64 0, .slice none 0 0, .string ⟨#[]⟩, .string ⟨#[]⟩, .string ⟨#[]⟩, .slice none 0 0, .string ⟨#[]⟩, .slice none 0 0, .slice none 0 0, .slice none 0 0, .string ⟨#[]⟩, .bool false, .bool false, .string ⟨#[]⟩, .string ⟨#[]⟩, .string ⟨#[]⟩, .int .i64 0, .int .i64 0, .string ⟨#[]⟩, .string ⟨#[]⟩] rfl ?_; intro a8 HA8 FA8 SA8)
            | ((with_reducible refine K.atO (.store 29 _ _) ?_); refine wpL_storeV rfl _ _ _ rfl x8.heap.size 0 (.agg D8.toArray) D8 rfl rfl rfl _ _ HA8.out (by rw [HDL8.out]; simp) HUL8.out HU8.out ?_; intro b8 HB8 FB8 SB8; have G8 : Hid (Fr No w b8) := hid (HF8.out.trans' (FA8.out.trans FB8.out fun k e => .inr (by have e : k = x8.heap.size := e; omega))))
            | fail)
          go_ret
          exact ⟨rfl, G8.out⟩
        · have g2 : (sb bh).toList.isEmpty = false := by rw [sbE]; cases bh with | nil => exact absurd rfl hbe | cons a r => rfl
          have HMM := hid (HMORE.out hbe)
          have HLL := hid (show (s ++ bh).length ≤ 281474976710656 by rw [List.length_append]; have := HSL.out; have := HBH.out; omega)
          obtain ⟨SBH, hSBH⟩ : ∃ x, sb bh = x := ⟨_, rfl⟩
          rw [hSBH] at g2 ⊢
          clear hbe hSBH
          refine (pdecode_any (s ++ bh) w3 (by exact HLL.out)).mono ?_
          rintro e x9 ⟨uk9, ua9, uw9, ul9, um9, rfl, hu, f9⟩
          rw [HMM.out.1] at hu ⊢
          rw [HMM.out.2]
          have HUL9 := hid (show (Try.prog.info? 29).map (·.size) = some (mcs (msg0 0 0) uk9 ua9 uw9 ul9 um9).length from infoMsg)
          have HU9 := hid (mcs_one hu); have HF9 := hid (HF3.out.trans' f9)
          obtain ⟨D9, hD⟩ : ∃ D, mcs (msg0 0 0) uk9 ua9 uw9 ul9 um9 = D := ⟨_, rfl⟩
          have HDL9 : Hid (D9.length = 30) := hid (by rw [← hD]; rfl)
          rw [hD] at HU9 HUL9 ⊢
          clear hu f9 hD
          go_wp2_with (first
            | ((with_reducible refine K.atO (.alloc 29) ?_); (fail_if_success (have := HA9)); refine wpL_alloc rfl _ rfl _ zeroMsg [.int .i64 0, .int .i64 0, .int .i64 0, .string ⟨#[]⟩, .string ⟨#[]⟩, .int .i64 0, .int .i64 0, .int .i64 0, .int .i64 0, .bool false, .int .i64 0, .slice none 0 0, .string ⟨#[]⟩, .string ⟨#[]⟩, .string ⟨#[]⟩, .slice none 0 0, .string ⟨#[]⟩, .slice none 0 0, .slice none 0 0, .slice none 0 0, .string ⟨#[]⟩, .bool false, .bool false, .string ⟨#[]⟩, .string ⟨#[]⟩, .string ⟨#[]⟩, .int .i64 0, .int .i64 0, .string ⟨#[]⟩, .string ⟨#[]⟩] rfl ?_; intro a9 HA9 FA9 SA9)
            | ((with_reducible refine K.atO (.store 29 _ _) ?_); refine wpL_storeV rfl _ _ _ rfl x9.heap.size 0 (.agg D9.toArray) D9 rfl rfl rfl _ _ HA9.out (by rw [HDL9.out]; simp) HUL9.out HU9.out ?_; intro b9 HB9 FB9 SB9; have G9 : Hid (Fr No w b9) := hid (HF9.out.trans' (FA9.out.trans FB9.out fun k e => .inr (by have e : k = x9.heap.size := e; omega))))
            | fail)
          go_ret
          exact ⟨rfl, G9.out⟩
      · have hd1 : 0 ≤ at_ := by omega
        have hd2 : ¬ at_ < (n : Int) := by omega
        clear hin hat
        go_enter Try.func5, Try.ntmps5
        go_wp2_with (first
          | ((with_reducible refine K.atO (.box 29 _) ?_); refine wpL_box rfl _ _ rfl _ rfl [.int .i64 m.id, .int .i64 m.op, .int .i64 m.ver, .string (sb m.name), .string (sb m.pw), .int .i64 m.scope, .int .i64 m.deref, .int .i64 m.size, .int .i64 m.time, .bool m.typesOnly, .int .i64 m.filter.kind, vk, .string (sb m.filter.type), .string (sb m.filter.value), .string (sb m.filter.first), va, .string (sb m.filter.last), vw, vl, vm, .string (sb m.rdn), .bool m.dropOld, .bool m.moves, .string (sb m.sup), .string (sb m.type), .string (sb m.value), .int .i64 m.target, .int .i64 m.code, .string (sb m.matched), .string (sb m.text)] rfl ?_; intro w1 HB1 F1 HS1)
          | fail)
        refine (awake_any w1).mono ?_
        rintro e w2 ⟨rfl, f2⟩
        have HB2 := hid (HB1.out.fr f2 id); have HF2 := hid (F1.out.trans' f2)
        clear f2
        go_wp2_with (first
          | ((with_reducible refine K.atO (.load 29 _) ?_); refine wpL_load rfl _ _ rfl w.heap.size 0 rfl [.int .i64 m.id, .int .i64 m.op, .int .i64 m.ver, .string (sb m.name), .string (sb m.pw), .int .i64 m.scope, .int .i64 m.deref, .int .i64 m.size, .int .i64 m.time, .bool m.typesOnly, .int .i64 m.filter.kind, vk, .string (sb m.filter.type), .string (sb m.filter.value), .string (sb m.filter.first), va, .string (sb m.filter.last), vw, vl, vm, .string (sb m.rdn), .bool m.dropOld, .bool m.moves, .string (sb m.sup), .string (sb m.type), .string (sb m.value), .int .i64 m.target, .int .i64 m.code, .string (sb m.matched), .string (sb m.text)] _ (HB2.out.range 0 _ rfl) rfl rfl HLEN.out ?_)
          | fail)
        refine (HEC.out w2 HF2.out).mono ?_
        rintro e w3 ⟨rfl, f3⟩
        have HF3 := hid (HF2.out.trans' f3)
        clear f3
        go_wp2_with (first
          | ((with_reducible refine K.atO (.binOp .add 9 _ _ _) ?_); refine wpL_valZ rfl (.string (sb (s ++ bh))) (exec_addS _ _ _ rfl s bh rfl rfl (by have := HN.out; have := HSL.out; have := HBH.out; omega) _ rfl _) ?_)
          | fail)
        by_cases hbe : bh = []
        · subst hbe
          have g2 : (sb ([] : B)).toList.isEmpty = true := by rw [sbE]; rfl
          have e2 : s ++ ([] : B) = s := List.append_nil s
          rw [e2]
          clear e2
          refine (pdecode_any (s) w3 (by have := HSL.out; omega)).mono ?_
          rintro e x8 ⟨uk8, ua8, uw8, ul8, um8, rfl, hu, f8⟩
          rw [HSAME.out.1] at hu ⊢
          rw [HSAME.out.2]
          have HUL8 := hid (show (Try.prog.info? 29).map (·.size) = some (mcs m uk8 ua8 uw8 ul8 um8).length from infoMsg)
          have HU8 := hid (mcs_one hu); have HF8 := hid (HF3.out.trans' f8)
          obtain ⟨D8, hD⟩ : ∃ D, mcs m uk8 ua8 uw8 ul8 um8 = D := ⟨_, rfl⟩
          have HDL8 : Hid (D8.length = 30) := hid (by rw [← hD]; rfl)
          rw [hD] at HU8 HUL8 ⊢
          clear hu f8 hD
          go_wp2_with (first
            | ((with_reducible refine K.atO (.alloc 29) ?_); (fail_if_success (have := HA8)); refine wpL_alloc rfl _ rfl _ zeroMsg [.int .i64 0, .int .i64 0, .int .i64 0, .string ⟨#[]⟩, .string ⟨#[]⟩, .int .i64 0, .int .i64 0, .int .i64 0, .int .i64 0, .bool false, .int .i64 0, .slice none 0 0, .string ⟨#[]⟩, .string ⟨#[]⟩, .string ⟨#[]⟩, .slice none 0 0, .string ⟨#[]⟩, .slice none 0 0, .slice none 0 0, .slice none 0 0, .string ⟨#[]⟩, .bool false, .bool false, .string ⟨#[]⟩, .string ⟨#[]⟩, .string ⟨#[]⟩, .int .i64 0, .int .i64 0, .string ⟨#[]⟩, .string ⟨#[]⟩] rfl ?_; intro a8 HA8 FA8 SA8)
            | ((with_reducible refine K.atO (.store 29 _ _) ?_); refine wpL_storeV rfl _ _ _ rfl x8.heap.size 0 (.agg D8.toArray) D8 rfl rfl rfl _ _ HA8.out (by rw [HDL8.out]; simp) HUL8.out HU8.out ?_; intro b8 HB8 FB8 SB8; have G8 : Hid (Fr No w b8) := hid (HF8.out.trans' (FA8.out.trans FB8.out fun k e => .inr (by have e : k = x8.heap.size := e; omega))))
            | fail)
          go_ret
          exact ⟨rfl, G8.out⟩
        · have g2 : (sb bh).toList.isEmpty = false := by rw [sbE]; cases bh with | nil => exact absurd rfl hbe | cons a r => rfl
          have HMM := hid (HMORE.out hbe)
          have HLL := hid (show (s ++ bh).length ≤ 281474976710656 by rw [List.length_append]; have := HSL.out; have := HBH.out; omega)
          obtain ⟨SBH, hSBH⟩ : ∃ x, sb bh = x := ⟨_, rfl⟩
          rw [hSBH] at g2 ⊢
          clear hbe hSBH
          refine (pdecode_any (s ++ bh) w3 (by exact HLL.out)).mono ?_
          rintro e x9 ⟨uk9, ua9, uw9, ul9, um9, rfl, hu, f9⟩
          rw [HMM.out.1] at hu ⊢
          rw [HMM.out.2]
          have HUL9 := hid (show (Try.prog.info? 29).map (·.size) = some (mcs (msg0 0 0) uk9 ua9 uw9 ul9 um9).length from infoMsg)
          have HU9 := hid (mcs_one hu); have HF9 := hid (HF3.out.trans' f9)
          obtain ⟨D9, hD⟩ : ∃ D, mcs (msg0 0 0) uk9 ua9 uw9 ul9 um9 = D := ⟨_, rfl⟩
          have HDL9 : Hid (D9.length = 30) := hid (by rw [← hD]; rfl)
          rw [hD] at HU9 HUL9 ⊢
          clear hu f9 hD
          go_wp2_with (first
            | ((with_reducible refine K.atO (.alloc 29) ?_); (fail_if_success (have := HA9)); refine wpL_alloc rfl _ rfl _ zeroMsg [.int .i64 0, .int .i64 0, .int .i64 0, .string ⟨#[]⟩, .string ⟨#[]⟩, .int .i64 0, .int .i64 0, .int .i64 0, .int .i64 0, .bool false, .int .i64 0, .slice none 0 0, .string ⟨#[]⟩, .string ⟨#[]⟩, .string ⟨#[]⟩, .slice none 0 0, .string ⟨#[]⟩, .slice none 0 0, .slice none 0 0, .slice none 0 0, .string ⟨#[]⟩, .bool false, .bool false, .string ⟨#[]⟩, .string ⟨#[]⟩, .string ⟨#[]⟩, .int .i64 0, .int .i64 0, .string ⟨#[]⟩, .string ⟨#[]⟩] rfl ?_; intro a9 HA9 FA9 SA9)
            | ((with_reducible refine K.atO (.store 29 _ _) ?_); refine wpL_storeV rfl _ _ _ rfl x9.heap.size 0 (.agg D9.toArray) D9 rfl rfl rfl _ _ HA9.out (by rw [HDL9.out]; simp) HUL9.out HU9.out ?_; intro b9 HB9 FB9 SB9; have G9 : Hid (Fr No w b9) := hid (HF9.out.trans' (FA9.out.trans FB9.out fun k e => .inr (by have e : k = x9.heap.size := e; omega))))
            | fail)
          go_ret
          exact ⟨rfl, G9.out⟩
  · obtain ⟨k, hkk⟩ : ∃ k, (encM m).2 = k := ⟨_, rfl⟩
    rw [hkk] at HEC hk
    have g1 : ((k : Int) == 0) = false := by simpa using hk
    obtain ⟨SB, hSB⟩ : ∃ S, sb (encM m).1 = S := ⟨_, rfl⟩
    rw [hSB] at HEC
    clear hm hb hk hkk e HSL hSB
    go_enter Try.func5, Try.ntmps5
    go_wp2_with (first
      | ((with_reducible refine K.atO (.box 29 _) ?_); refine wpL_box rfl _ _ rfl _ rfl [.int .i64 m.id, .int .i64 m.op, .int .i64 m.ver, .string (sb m.name), .string (sb m.pw), .int .i64 m.scope, .int .i64 m.deref, .int .i64 m.size, .int .i64 m.time, .bool m.typesOnly, .int .i64 m.filter.kind, vk, .string (sb m.filter.type), .string (sb m.filter.value), .string (sb m.filter.first), va, .string (sb m.filter.last), vw, vl, vm, .string (sb m.rdn), .bool m.dropOld, .bool m.moves, .string (sb m.sup), .string (sb m.type), .string (sb m.value), .int .i64 m.target, .int .i64 m.code, .string (sb m.matched), .string (sb m.text)] rfl ?_; intro w1 HB1 F1 HS1)
      | fail)
    refine (awake_any w1).mono ?_
    rintro e w2 ⟨rfl, f2⟩
    have HB2 := hid (HB1.out.fr f2 id); have HF2 := hid (F1.out.trans' f2)
    clear f2
    go_wp2_with (first
      | ((with_reducible refine K.atO (.load 29 _) ?_); refine wpL_load rfl _ _ rfl w.heap.size 0 rfl [.int .i64 m.id, .int .i64 m.op, .int .i64 m.ver, .string (sb m.name), .string (sb m.pw), .int .i64 m.scope, .int .i64 m.deref, .int .i64 m.size, .int .i64 m.time, .bool m.typesOnly, .int .i64 m.filter.kind, vk, .string (sb m.filter.type), .string (sb m.filter.value), .string (sb m.filter.first), va, .string (sb m.filter.last), vw, vl, vm, .string (sb m.rdn), .bool m.dropOld, .bool m.moves, .string (sb m.sup), .string (sb m.type), .string (sb m.value), .int .i64 m.target, .int .i64 m.code, .string (sb m.matched), .string (sb m.text)] _ (HB2.out.range 0 _ rfl) rfl rfl HLEN.out ?_)
      | fail)
    refine (HEC.out w2 HF2.out).mono ?_
    rintro e w3 ⟨rfl, f3⟩
    have HF3 := hid (HF2.out.trans' f3)
    clear f3
    go_wp2_with fail
    go_ret
    exact ⟨rfl, HF3.out⟩
end Go.Proofs.Ythjmkfpdbbfcpaa.ME
