/-
  Part 15 of the proof: FtL, ScV, ScW, FtC.
-/
import Derived.Shelf.Strings.Cut
import Derived.Shelf.Strings.Prefix
import Derived.Shelf.Strings.Trim
import Derived.Test.YtdkkpfeiaaffhaaGreatDoorFe14
set_option linter.unusedSimpArgs false
set_option linter.unusedVariables false
namespace Go.Proofs.YtdkkpfeiaaffhaaGreatDoor.FT
set_option maxRecDepth 100000
open Go.Shelf Go.RowKit K Go.Proofs.YtdkkpfeiaaffhaaGreatDoor.BE Go.Proofs.YtdkkpfeiaaffhaaGreatDoor.DN Go.Proofs.YtdkkpfeiaaffhaaGreatDoor.SC

def lays161_ren : Go.Shelf.Ren := ⟨fun | 161 => 174 | 231 => 207 | 227 => 208 | 233 => 209 | 235 => 210 | 228 => 237 | 197 => 238 | 151 => 239 | 260 => 256 | 152 => 257 | 137 => 221 | 119 => 264 | 224 => 260 | 225 => 259 | 217 => 246 | 266 => 263 | n => n, fun | 9 => 9 | 4 => 4 | 3 => 3 | 5 => 5 | 117 => 259 | 116 => 258 | 0 => 0 | 124 => 262 | 105 => 281 | 21 => 21 | 119 => 293 | 46 => 194 | 139 => 296 | 138 => 295 | n => n, fun | 3 => 6 | 4 => 7 | n => n⟩
theorem lays161 : Go.Proofs.Lays.n161 Tryz.prog lays161_ren := {
  mixed := by kernel_rfl
  f119 := Tryz.func264.trans (congrArg some (by kernel_rfl))
  f137 := Tryz.func221.trans (congrArg some (by kernel_rfl))
  f151 := Tryz.func239.trans (congrArg some (by kernel_rfl))
  f152 := Tryz.func257.trans (congrArg some (by kernel_rfl))
  f161 := Tryz.func174.trans (congrArg some (by kernel_rfl))
  f197 := Tryz.func238.trans (congrArg some (by kernel_rfl))
  f217 := Tryz.func246.trans (congrArg some (by kernel_rfl))
  f224 := Tryz.func260.trans (congrArg some (by kernel_rfl))
  f225 := Tryz.func259.trans (congrArg some (by kernel_rfl))
  f227 := Tryz.func208.trans (congrArg some (by kernel_rfl))
  f228 := Tryz.func237.trans (congrArg some (by kernel_rfl))
  f231 := Tryz.func207.trans (congrArg some (by kernel_rfl))
  f233 := Tryz.func209.trans (congrArg some (by kernel_rfl))
  f235 := Tryz.func210.trans (congrArg some (by kernel_rfl))
  f260 := Tryz.func256.trans (congrArg some (by kernel_rfl))
  f266 := Tryz.func263.trans (congrArg some (by kernel_rfl))
  t0 := Tryz.underlying0
  a0 := Tryz.isAgg0
  z0 := Tryz.sizeOf0
  v0 := Tryz.zeroValue0
  t3 := Tryz.underlying3
  a3 := Tryz.isAgg3
  z3 := Tryz.sizeOf3
  v3 := Tryz.zeroValue3
  t4 := Tryz.underlying4
  a4 := Tryz.isAgg4
  z4 := Tryz.sizeOf4
  v4 := Tryz.zeroValue4
  t5 := Tryz.underlying5
  a5 := Tryz.isAgg5
  z5 := Tryz.sizeOf5
  v5 := Tryz.zeroValue5
  t9 := Tryz.underlying9
  a9 := Tryz.isAgg9
  z9 := Tryz.sizeOf9
  v9 := Tryz.zeroValue9
  t21 := Tryz.underlying21
  a21 := Tryz.isAgg21
  z21 := Tryz.sizeOf21
  v21 := Tryz.zeroValue21
  t46 := Tryz.underlying194
  a46 := Tryz.isAgg194
  z46 := Tryz.sizeOf194
  v46 := Tryz.zeroValue194
  t105 := Tryz.underlying281
  a105 := Tryz.isAgg281
  z105 := Tryz.sizeOf281
  v105 := Tryz.zeroValue281
  t116 := Tryz.underlying258
  a116 := Tryz.isAgg258
  z116 := Tryz.sizeOf258
  t117 := Tryz.underlying259
  a117 := Tryz.isAgg259
  z117 := Tryz.sizeOf259
  v117 := Tryz.zeroValue259
  t119 := Tryz.underlying293
  a119 := Tryz.isAgg293
  z119 := Tryz.sizeOf293
  t124 := Tryz.underlying262
  a124 := Tryz.isAgg262
  z124 := Tryz.sizeOf262
  v124 := Tryz.zeroValue262
  t138 := Tryz.underlying295
  a138 := Tryz.isAgg295
  z138 := Tryz.sizeOf295
  v138 := Tryz.zeroValue295
  t139 := Tryz.underlying296
  a139 := Tryz.isAgg296
  z139 := Tryz.sizeOf296
  v139 := Tryz.zeroValue296
  g3 := by kernel_rfl
  g4 := by kernel_rfl }
def lays162_ren : Go.Shelf.Ren := ⟨fun | 162 => 175 | 232 => 211 | 227 => 208 | 234 => 212 | 236 => 213 | 228 => 237 | 271 => 240 | 151 => 239 | 120 => 258 | 197 => 238 | 152 => 257 | 260 => 256 | 137 => 221 | 119 => 264 | 224 => 260 | 225 => 259 | 217 => 246 | 266 => 263 | n => n, fun | 9 => 9 | 4 => 4 | 3 => 3 | 5 => 5 | 117 => 259 | 116 => 258 | 0 => 0 | 124 => 262 | 21 => 21 | 105 => 281 | 46 => 194 | 119 => 293 | 139 => 296 | 138 => 295 | n => n, fun | 3 => 6 | 4 => 7 | n => n⟩
theorem lays162 : Go.Proofs.Lays.n162 Tryz.prog lays162_ren := {
  mixed := by kernel_rfl
  f119 := Tryz.func264.trans (congrArg some (by kernel_rfl))
  f120 := Tryz.func258.trans (congrArg some (by kernel_rfl))
  f137 := Tryz.func221.trans (congrArg some (by kernel_rfl))
  f151 := Tryz.func239.trans (congrArg some (by kernel_rfl))
  f152 := Tryz.func257.trans (congrArg some (by kernel_rfl))
  f162 := Tryz.func175.trans (congrArg some (by kernel_rfl))
  f197 := Tryz.func238.trans (congrArg some (by kernel_rfl))
  f217 := Tryz.func246.trans (congrArg some (by kernel_rfl))
  f224 := Tryz.func260.trans (congrArg some (by kernel_rfl))
  f225 := Tryz.func259.trans (congrArg some (by kernel_rfl))
  f227 := Tryz.func208.trans (congrArg some (by kernel_rfl))
  f228 := Tryz.func237.trans (congrArg some (by kernel_rfl))
  f232 := Tryz.func211.trans (congrArg some (by kernel_rfl))
  f234 := Tryz.func212.trans (congrArg some (by kernel_rfl))
  f236 := Tryz.func213.trans (congrArg some (by kernel_rfl))
  f260 := Tryz.func256.trans (congrArg some (by kernel_rfl))
  f266 := Tryz.func263.trans (congrArg some (by kernel_rfl))
  f271 := Tryz.func240.trans (congrArg some (by kernel_rfl))
  t0 := Tryz.underlying0
  a0 := Tryz.isAgg0
  z0 := Tryz.sizeOf0
  v0 := Tryz.zeroValue0
  t3 := Tryz.underlying3
  a3 := Tryz.isAgg3
  z3 := Tryz.sizeOf3
  v3 := Tryz.zeroValue3
  t4 := Tryz.underlying4
  a4 := Tryz.isAgg4
  z4 := Tryz.sizeOf4
  v4 := Tryz.zeroValue4
  t5 := Tryz.underlying5
  a5 := Tryz.isAgg5
  z5 := Tryz.sizeOf5
  v5 := Tryz.zeroValue5
  t9 := Tryz.underlying9
  a9 := Tryz.isAgg9
  z9 := Tryz.sizeOf9
  v9 := Tryz.zeroValue9
  t21 := Tryz.underlying21
  a21 := Tryz.isAgg21
  z21 := Tryz.sizeOf21
  v21 := Tryz.zeroValue21
  t46 := Tryz.underlying194
  a46 := Tryz.isAgg194
  z46 := Tryz.sizeOf194
  v46 := Tryz.zeroValue194
  t105 := Tryz.underlying281
  a105 := Tryz.isAgg281
  z105 := Tryz.sizeOf281
  v105 := Tryz.zeroValue281
  t116 := Tryz.underlying258
  a116 := Tryz.isAgg258
  z116 := Tryz.sizeOf258
  t117 := Tryz.underlying259
  a117 := Tryz.isAgg259
  z117 := Tryz.sizeOf259
  v117 := Tryz.zeroValue259
  t119 := Tryz.underlying293
  a119 := Tryz.isAgg293
  z119 := Tryz.sizeOf293
  t124 := Tryz.underlying262
  a124 := Tryz.isAgg262
  z124 := Tryz.sizeOf262
  v124 := Tryz.zeroValue262
  t138 := Tryz.underlying295
  a138 := Tryz.isAgg295
  z138 := Tryz.sizeOf295
  v138 := Tryz.zeroValue295
  t139 := Tryz.underlying296
  a139 := Tryz.isAgg296
  z139 := Tryz.sizeOf296
  v139 := Tryz.zeroValue296
  g3 := by kernel_rfl
  g4 := by kernel_rfl }
def lays145_ren : Go.Shelf.Ren := ⟨fun | 145 => 177 | 220 => 215 | 219 => 242 | 217 => 246 | 225 => 259 | 224 => 260 | 267 => 261 | 266 => 263 | 314 => 265 | n => n, fun | 9 => 9 | 4 => 4 | 59 => 228 | 3 => 3 | 5 => 5 | 46 => 194 | 146 => 297 | 51 => 76 | n => n, fun | 1 => 0 | n => n⟩
theorem lays145 : Go.Proofs.Lays.n145 Tryz.prog lays145_ren := {
  mixed := by kernel_rfl
  f145 := Tryz.func177.trans (congrArg some (by kernel_rfl))
  f217 := Tryz.func246.trans (congrArg some (by kernel_rfl))
  f219 := Tryz.func242.trans (congrArg some (by kernel_rfl))
  f220 := Tryz.func215.trans (congrArg some (by kernel_rfl))
  f224 := Tryz.func260.trans (congrArg some (by kernel_rfl))
  f225 := Tryz.func259.trans (congrArg some (by kernel_rfl))
  f266 := Tryz.func263.trans (congrArg some (by kernel_rfl))
  f267 := Tryz.func261.trans (congrArg some (by kernel_rfl))
  f314 := Tryz.func265.trans (congrArg some (by kernel_rfl))
  t3 := Tryz.underlying3
  a3 := Tryz.isAgg3
  z3 := Tryz.sizeOf3
  v3 := Tryz.zeroValue3
  t4 := Tryz.underlying4
  a4 := Tryz.isAgg4
  z4 := Tryz.sizeOf4
  v4 := Tryz.zeroValue4
  t5 := Tryz.underlying5
  a5 := Tryz.isAgg5
  z5 := Tryz.sizeOf5
  v5 := Tryz.zeroValue5
  t9 := Tryz.underlying9
  a9 := Tryz.isAgg9
  z9 := Tryz.sizeOf9
  v9 := Tryz.zeroValue9
  t46 := Tryz.underlying194
  a46 := Tryz.isAgg194
  z46 := Tryz.sizeOf194
  v46 := Tryz.zeroValue194
  t51 := Tryz.underlying76
  a51 := Tryz.isAgg76
  z51 := Tryz.sizeOf76
  v51 := Tryz.zeroValue76
  t59 := Tryz.underlying228
  a59 := Tryz.isAgg228
  z59 := Tryz.sizeOf228
  v59 := Tryz.zeroValue228
  t146 := Tryz.underlying297
  a146 := Tryz.isAgg297
  z146 := Tryz.sizeOf297
  v146 := Tryz.zeroValue297
  g1 := by kernel_rfl }
def lays206_ren : Go.Shelf.Ren := ⟨fun | 206 => 241 | n => n, fun | 9 => 9 | 4 => 4 | 3 => 3 | n => n, fun | n => n⟩
theorem lays206 : Go.Proofs.Lays.n206 Tryz.prog lays206_ren := {
  mixed := by kernel_rfl
  f206 := Tryz.func241.trans (congrArg some (by kernel_rfl))
  t3 := Tryz.underlying3
  a3 := Tryz.isAgg3
  z3 := Tryz.sizeOf3
  v3 := Tryz.zeroValue3
  t4 := Tryz.underlying4
  a4 := Tryz.isAgg4
  z4 := Tryz.sizeOf4
  v4 := Tryz.zeroValue4
  t9 := Tryz.underlying9
  a9 := Tryz.isAgg9
  z9 := Tryz.sizeOf9
  v9 := Tryz.zeroValue9 }
def lays100_ren : Go.Shelf.Ren := ⟨fun | 100 => 178 | 207 => 216 | n => n, fun | 9 => 9 | 4 => 4 | 3 => 3 | n => n, fun | n => n⟩
theorem lays100 : Go.Proofs.Lays.n100 Tryz.prog lays100_ren := {
  mixed := by kernel_rfl
  f100 := Tryz.func178.trans (congrArg some (by kernel_rfl))
  f207 := Tryz.func216.trans (congrArg some (by kernel_rfl))
  t3 := Tryz.underlying3
  a3 := Tryz.isAgg3
  z3 := Tryz.sizeOf3
  v3 := Tryz.zeroValue3
  t4 := Tryz.underlying4
  a4 := Tryz.isAgg4
  z4 := Tryz.sizeOf4
  v4 := Tryz.zeroValue4
  t9 := Tryz.underlying9
  a9 := Tryz.isAgg9
  z9 := Tryz.sizeOf9
  v9 := Tryz.zeroValue9 }
theorem drewN_fr (w : World) (n : Nat) : Fr No w (w.drewN n) := (Fr.refl _ _).drewN n
theorem trimL_any (s : B) (w : World) : Calls Tryz.prog 174 #[.string (sb s), .string (sb [32])] w fun e w' => e = .returned (.string (sb (trimL s))) ∧ w' = w := by
  have h := Any.strings_TrimLeft_one lays161 (sb s) 32 (by decide) w
  rw [sb_list] at h
  exact h
theorem trimR_any (s : B) (hs : Sz s) (w : World) : Calls Tryz.prog 175 #[.string (sb s), .string (sb [32])] w fun e w' => e = .returned (.string (sb (trimR s))) ∧ w' = w := by
  have h := Any.strings_TrimRight_one lays162 (sb s) 32 (by decide) w (by rw [sb_size]; unfold Sz at hs; omega)
  rw [sb_list] at h
  exact h
theorem hasSuf_any (s p : B) (hs : Sz s) (w : World) : Calls Tryz.prog 178 #[.string (sb s), .string (sb p)] w fun e w' => e = .returned (.bool (Lib.hasSuffix s p)) ∧ w' = w := by
  have h := Any.strings_HasSuffix lays100 (sb s) (sb p) w (by rw [sb_size]; unfold Sz at hs; omega)
  rw [sb_list, sb_list] at h
  exact h
theorem cutX_any (s p : B) (hs : Sm s) (w : World) (hG : Gm w) : Calls Tryz.prog 177 #[.string (sb s), .string (sb p)] w fun e w' => e = .returned (.tuple #[.string (sb (Lib.cut s p).1), .string (sb (Lib.cut s p).2.1), .bool (Lib.cut s p).2.2]) ∧ Fr No w w' := by
  obtain ⟨m, hm⟩ := hG.2
  have h := Any.strings_Cut lays145 (sb s) (sb p) m w (by rw [sb_size]; unfold Sm at hs; omega) hm
  rw [sb_list, sb_list] at h
  refine h.mono ?_
  rintro e w' ⟨rfl, n, rfl⟩
  exact ⟨rfl, drewN_fr w n⟩
theorem sliteHasPre_any (s p : B) (w : World) : Calls Tryz.prog 241 #[.string (sb s), .string (sb p)] w fun e w' => e = .returned (.bool (Lib.hasPrefix s p)) ∧ w' = w := by
  have h := Any.stringslite_HasPrefix lays206 (sb s) (sb p) w
  rw [sb_list, sb_list] at h
  exact h
set_option maxHeartbeats 2000000 in
theorem sliteCutPre_any (s p : B) (hs : Sz s) (w : World) : Calls Tryz.prog 214 #[.string (sb s), .string (sb p)] w fun e w' => e = .returned (.tuple #[.string (sb (Lib.trimPrefix s p)), .bool (Lib.hasPrefix s p)]) ∧ Fr No w w' := by
  have H := hid (sliteHasPre_any s p w)
  cases hb : Lib.hasPrefix s p with
  | false =>
    have HR : Hid (Lib.trimPrefix s p = s) := hid (by unfold Lib.trimPrefix; rw [hb]; rfl)
    rw [hb] at H
    clear hb
    go_enter Tryz.func214, Tryz.ntmps214
    go_wp2_with fail
    refine H.out.mono ?_
    rintro e w' ⟨rfl, rfl⟩
    go_wp2_with fail
    go_ret2
    exact ⟨by rw [HR.out]; rfl, Fr.refl _ _⟩
  | true =>
    have hp : p.length ≤ s.length := (List.isPrefixOf_iff_prefix.1 (show p.isPrefixOf s = true from hb)).length_le
    have HR : Hid (s.drop p.length = Lib.trimPrefix s p) := hid (by unfold Lib.trimPrefix; rw [hb]; rfl)
    rw [hb] at H
    have HP := hid hp
    obtain ⟨S, hS⟩ : ∃ S, sb s = S := ⟨_, rfl⟩
    obtain ⟨Q, hQ⟩ : ∃ Q, sb p = Q := ⟨_, rfl⟩
    obtain ⟨m, hm⟩ : ∃ m, p.length = m := ⟨_, rfl⟩
    have hqz : (Q.size : Int) = m := by rw [← hQ, sb_size, hm]
    have HS := hid hS; have HM := hid hm
    rw [hS, hQ] at H ⊢
    clear hb hp hS hQ hs hm
    go_enter Tryz.func214, Tryz.ntmps214
    go_wp2_with fail
    refine H.out.mono ?_
    rintro e w' ⟨rfl, rfl⟩
    go_wp2_with (first
      | ((with_reducible refine K.atO (.slice 9 _ _ _ _) ?_); refine wpL_valZ rfl (.string (sb (Lib.trimPrefix s p))) (by rw [← HR.out, HM.out]; rw [← HS.out]; exact exec_from _ _ rfl s m rfl (by go_simp) (by rw [← HM.out]; exact HP.out) _ rfl _) ?_)
      | fail)
    go_ret2
    exact ⟨rfl, Fr.refl _ _⟩
theorem cutPre_any (s p : B) (hs : Sz s) (w : World) : Calls Tryz.prog 176 #[.string (sb s), .string (sb p)] w fun e w' => e = .returned (.tuple #[.string (sb (Lib.trimPrefix s p)), .bool (Lib.hasPrefix s p)]) ∧ Fr No w w' := by
  have H := hid (sliteCutPre_any s p hs w)
  clear hs
  go_enter Tryz.func176, Tryz.ntmps176
  go_wp2_with fail
  refine H.out.mono ?_
  rintro e w' ⟨rfl, f⟩
  have HF := hid f
  clear f
  go_wp2_with fail
  go_ret2
  exact ⟨rfl, HF.out⟩
end Go.Proofs.YtdkkpfeiaaffhaaGreatDoor.FT

namespace Go.Proofs.YtdkkpfeiaaffhaaGreatDoor.SC
set_option maxRecDepth 100000
open Go.RowKit K Go.Proofs.YtdkkpfeiaaffhaaGreatDoor.BE Go.Proofs.YtdkkpfeiaaffhaaGreatDoor.DN

/-- How often a norm was seen. -/
def Cnt (f : B → Option Int) (seen : List B) : Prop := ∀ x, (f x).getD 0 = if x ∈ seen then 1 else 0
theorem Cnt.step {f : B → Option Int} {seen : List B} {x : B} (h : Cnt f seen) (hx : x ∉ seen) : Cnt (updM f x 1) (seen ++ [x]) := by
  intro y
  unfold updM
  by_cases hy : y = x
  · subst hy; simp
  · rw [if_neg hy, h y]
    simp [hy]
theorem LsIn.at_ {S : Nat → Prop} {w : World} {v : Value} {l : List B} (h : LsIn S w v l) {i : Nat} {x : B} (hx : l[i]? = some x) : ∃ g o cap, v = .slice (some ⟨g, o, none⟩) l.length cap ∧ w.cell? ⟨g, o + i, none⟩ = some (.string (sb x)) ∧ Sz x := by
  obtain ⟨g, o, cap, c, e1, -, -, hr, -, hp⟩ := Sl.get h hx
  obtain ⟨rfl, hz⟩ := hp
  refine ⟨g, o, cap, e1, ?_, hz⟩
  have := hr 0 _ rfl
  simpa using this
theorem exec_lookV {op : Oper} {a : Act} {w : World} (x y : Operand) (ho : op.op = .lookup 85 x y false) (b n : Nat) (f : B → Option Int) (hx : a.eval x = .map (some b)) (s : B) (hy : a.eval y = .string (sb s)) (h : MpI w b n f) (hs : Sz s) (c : Int) (hc : (f s).getD 0 = c) :
    (execOp a.eval op).run Tryz.prog w = .ok (.value (.int .i64 c)) w := by
  rw [← hc]
  exact exec_look1 x y ho b n f hx s hy h hs
set_option maxHeartbeats 16000000 in
theorem checkValues_any {S : Nat → Prop} (t : Ty) (v : Value) (vs : List B) (w : World) (h : LsIn S w v vs) (hG : Gs w) :
    Calls Tryz.prog 78 #[.agg (tyV t).toArray, v] w fun e w' => e = .returned (.int .i64 (chkVals t vs)) ∧ Fr No w w' := by
  have HX := hid h; have HG := hid hG
  obtain ⟨a, cp, rfl, hcap, hl⟩ := h.form
  obtain ⟨R, hR⟩ : ∃ R, chkVals t vs = R := ⟨_, rfl⟩
  rw [hR]
  have HR := hid hR
  obtain ⟨n, hn⟩ : ∃ n, vs.length = n := ⟨_, rfl⟩
  have HNN := hid hn
  rw [hn] at HX hcap hl ⊢
  have hni : (n : Int) ≤ 140737488351232 := by omega
  have HL := hid hl
  clear h hG hR hn hcap hl
  by_cases h0 : n = 0
  · obtain rfl : R = 132 := by
      have h := HR.out
      unfold chkVals at h
      rw [if_pos (List.eq_nil_of_length_eq_zero (by rw [HNN.out]; exact h0))] at h
      exact h.symm
    subst h0
    go_enter Tryz.func78, Tryz.ntmps78
    go_wp2_with (first
      | ((with_reducible refine K.atO (.box 62 _) ?_); refine wpL_box rfl _ _ rfl _ rfl (tyV t) rfl ?_; intro w1 HB1 HF1 HS1)
      | fail)
    go_ret
    exact ⟨rfl, HF1.out⟩
  have h0b : ((n : Int) == 0) = false := by rw [beq_eq_false_iff_ne]; omega
  obtain ⟨O, hO⟩ : ∃ O, okVals t.syn [] vs = O := ⟨_, rfl⟩
  have HO : Hid (okVals t.syn [] (vs.drop 0) = O) := hid hO
  have HR2 : Hid ((if O = true then (if t.one = true ∧ 1 < n then 136 else 0) else (132 : Int)) = R) := hid (by
    have h := HR.out
    unfold chkVals at h
    rw [if_neg (by intro e; rw [e] at HNN; exact h0 HNN.out.symm), hO, HNN.out] at h
    exact h)
  clear hO h0
  go_enter Tryz.func78, Tryz.ntmps78
  go_wp2_with (first
    | ((with_reducible refine K.atO (.box 62 _) ?_); refine wpL_box rfl _ _ rfl _ rfl (tyV t) rfl ?_; intro w1 HB1 HF1 HS1)
    | ((with_reducible refine K.atO (.makeMap _ _) ?_); refine wpL_makeMap rfl _ rfl ?_; intro w2 HM2 HF2 HS2)
    | fail)
  obtain ⟨b, hb⟩ : ∃ b, w.heap.size = b := ⟨_, rfl⟩
  obtain ⟨bm, hbm⟩ : ∃ b, w1.heap.size = b := ⟨_, rfl⟩
  have HBM := hid (show b < bm ∧ bm < w2.heap.size ∧ w.heap.size = b from ⟨by have := HS1.out; omega, by have := HS2.out; omega, hb⟩)
  rw [hb] at HB1 ⊢
  rw [hbm] at HM2 ⊢
  have HB2 := hid (HB1.out.fr HF2.out id)
  have HFR2 := hid (HF1.out.trans' HF2.out)
  clear hb hbm HB1 HF1 HS1 HF2 HS2 h0b
  go_loopw [16] (fun iv wr => ∃ (i : Nat) (f : B → Option Int) (seen : List B), iv = .int .i64 i ∧ i ≤ n ∧ Hid (MpI wr bm i f ∧ Cnt f seen) ∧ Hid (okVals t.syn seen (vs.drop i) = O) ∧ Hid (Blk wr b 62 (tyV t) ∧ Fr No w wr ∧ bm < wr.heap.size)) (fun iv _ => n - (intOf iv).toNat)
  case atStart => exact ⟨0, _, [], rfl, Nat.zero_le _, hid ⟨HM2.out, fun x => by simp⟩, HO, hid ⟨HB2.out, HFR2.out, HBM.out.2.1⟩⟩
  case round =>
    obtain ⟨i, f, seen, rfl, hi, HM, HT, HI⟩ := hrel
    by_cases hlt : i < n
    · obtain ⟨x, hx⟩ : ∃ x, vs[i]? = some x := ⟨_, List.getElem?_eq_getElem (by rw [HNN.out]; exact hlt)⟩
      have hlti : (i : Int) < n := by omega
      have hi0 : (0 : Int) ≤ i := by omega
      obtain ⟨g, o, cq, e1, hc, hz⟩ := (LsIn.fr (D := No) HX.out HI.out.2.1 (fun _ _ _ e => e)).at_ hx
      rw [HNN.out] at e1
      simp only [Value.slice.injEq, true_and] at e1
      obtain ⟨rfl, rfl⟩ := e1
      have HZ := hid hz
      obtain ⟨hdrop, -⟩ := drop_at hx
      have HT2 : Hid ((match normV t.syn x with | none => false | some y => !(seen.contains y) && okVals t.syn (seen ++ [y]) (vs.drop (i + 1))) = O) := hid (by
        have h := HT.out
        rw [hdrop] at h
        exact h)
      have HLT := hid hlt
      have c1 : wr.cell? ⟨b, 1, none⟩ = some (.int .i64 t.syn) := HI.out.1.cell 1
      clear hz hx hdrop HT hi hlt
      go_wp2_with fail
      refine (normOf_any t.syn x HZ.out wr (HG.out.no HI.out.2.1)).mono ?_
      rintro e w3 ⟨⟨y, rfl, hy, hxy⟩, f3⟩
      have HY := hid (show Sz y ∧ ∀ z, normV t.syn x = some z → y = z from ⟨hy, hxy⟩)
      have HF3 := hid f3
      have HM3 := hid (HM.out.1.fr f3 id)
      clear hy hxy f3 c1 hc
      obtain ⟨c, hc⟩ : ∃ c, (f y).getD 0 = c := ⟨_, rfl⟩
      have HC := hid hc
      have hc01 : 0 ≤ c ∧ c ≤ 1 := by
        have := HM.out.2 y
        rw [hc] at this
        split at this <;> omega
      obtain ⟨hc0, hc1⟩ := hc01
      obtain ⟨NO, hNO⟩ : ∃ NO, normV t.syn x = NO := ⟨_, rfl⟩
      have HNO := hid hNO
      obtain ⟨OK, hOK⟩ : ∃ OK, (normV t.syn x).isSome = OK := ⟨_, rfl⟩
      have HOK := hid hOK
      rw [hOK]
      clear hc hNO hOK
      cases OK with
      | false =>
        obtain rfl : O = false := by
          have h := HT2.out
          have h2 := HOK.out
          rw [Option.isSome_eq_false_iff, Option.isNone_iff_eq_none] at h2
          rw [h2] at h
          exact h.symm
        obtain rfl : R = 132 := by have h := HR2.out; simp at h; exact h.symm
        go_wp2_with (first
          | ((with_reducible refine K.atO (.lookup _ _ _ _) ?_); refine wpL_valZ rfl (.int .i64 c) (by rw [← HC.out]; exact exec_look1 _ _ rfl bm i f rfl y rfl HM3.out HY.out.1) ?_)
          | ((with_reducible refine K.atO (.mapUpdate _ _ _ _) ?_); refine wpL_upd rfl _ _ _ rfl bm i f rfl y (c + 1) rfl (by go_simp) HM3.out HY.out.1 (by have := HLT.out; have := HL.out; omega) ?_; intro w4 HM4 HF4)
          | fail)
        go_ret
        have hf := (HI.out.2.1.trans' HF3.out).trans HF4.out (fun k e => .inr (by have e : k = bm := e; have := HBM.out; omega))
        exact ⟨rfl, hf⟩
      | true =>
        obtain ⟨z, hz⟩ := Option.isSome_iff_exists.1 HOK.out
        obtain rfl : y = z := HY.out.2 z hz
        have HT3 : Hid ((!(seen.contains y) && okVals t.syn (seen ++ [y]) (vs.drop (i + 1))) = O) := hid (by have h := HT2.out; rw [hz] at h; exact h)
        clear hz
        by_cases hs : y ∈ seen
        · obtain rfl : O = false := by have h := HT3.out; rw [List.contains_iff_mem.2 hs] at h; exact h.symm
          obtain rfl : R = 132 := by have h := HR2.out; simp at h; exact h.symm
          obtain rfl : c = 1 := by have := HM.out.2 y; rw [HC.out, if_pos hs] at this; exact this
          clear hs
          go_wp2_with (first
            | ((with_reducible refine K.atO (.lookup _ _ _ _) ?_); (fail_if_success (have := HM4)); refine wpL_valZ rfl (.int .i64 1) (by rw [← HC.out]; exact exec_look1 _ _ rfl bm i f rfl y rfl HM3.out HY.out.1) ?_)
            | ((with_reducible refine K.atO (.mapUpdate _ _ _ _) ?_); refine wpL_upd rfl _ _ _ rfl bm i f rfl y 2 rfl (by go_simp) HM3.out HY.out.1 (by have := HLT.out; have := HL.out; omega) ?_; intro w4 HM4 HF4)
            | ((with_reducible refine K.atO (.lookup _ _ _ _) ?_); refine wpL_valZ rfl (.int .i64 2) (exec_lookV _ _ rfl bm (i + 1) (updM f y 2) rfl y rfl HM4.out HY.out.1 2 (by simp [updM])) ?_)
            | fail)
          go_ret
          have hf := (HI.out.2.1.trans' HF3.out).trans HF4.out (fun k e => .inr (by have e : k = bm := e; have := HBM.out; omega))
          exact ⟨rfl, hf⟩
        · have HT4 : Hid (okVals t.syn (seen ++ [y]) (vs.drop (i + 1)) = O) := hid (by
            have h := HT3.out
            have hcn : seen.contains y = false := by
              rw [Bool.eq_false_iff]
              intro e
              exact hs (List.contains_iff_mem.1 e)
            rw [hcn] at h
            exact h)
          obtain rfl : c = 0 := by have := HM.out.2 y; rw [HC.out, if_neg hs] at this; exact this
          have HCN := hid (HM.out.2.step hs)
          clear hs
          go_wp2_with (first
            | ((with_reducible refine K.atO (.lookup _ _ _ _) ?_); (fail_if_success (have := HM4)); refine wpL_valZ rfl (.int .i64 0) (by rw [← HC.out]; exact exec_look1 _ _ rfl bm i f rfl y rfl HM3.out HY.out.1) ?_)
            | ((with_reducible refine K.atO (.mapUpdate _ _ _ _) ?_); refine wpL_upd rfl _ _ _ rfl bm i f rfl y 1 rfl (by go_simp) HM3.out HY.out.1 (by have := HLT.out; have := HL.out; omega) ?_; intro w4 HM4 HF4)
            | ((with_reducible refine K.atO (.lookup _ _ _ _) ?_); refine wpL_valZ rfl (.int .i64 1) (exec_lookV _ _ rfl bm (i + 1) (updM f y 1) rfl y rfl HM4.out HY.out.1 1 (by simp [updM])) ?_)
            | fail)
          have HF' : Hid (Fr No w w4 ∧ bm < w4.heap.size) := hid ⟨(HI.out.2.1.trans' HF3.out).trans HF4.out (fun k e => .inr (by have e : k = bm := e; have := HBM.out; omega)), by have := HI.out.2.2; have := HF3.out.size; have := HF4.out.size; omega⟩
          have HB' : Hid (Blk w4 b 62 (tyV t)) := hid ((HI.out.1.fr HF3.out id).fr HF4.out (by show ¬ b = bm; have := HBM.out; omega))
          refine ⟨⟨i + 1, _, _, by go_num, HLT.out, hid ⟨HM4.out, HCN.out⟩, HT4, hid ⟨HB'.out, HF'.out.1, HF'.out.2⟩⟩, ?_⟩
          have := HLT.out
          simp [intOf]; omega
    · obtain rfl : i = n := by omega
      obtain rfl : O = true := by
        have h := HT.out
        rw [← HNN.out, List.drop_length] at h
        exact h.symm
      have c2 : wr.cell? ⟨b, 2, none⟩ = some (.bool t.one) := HI.out.1.cell 2
      obtain ⟨p, hp⟩ : ∃ p, t.one = p := ⟨_, rfl⟩
      rw [hp] at c2
      have HP := hid hp
      clear hp hi hlt
      have HR3 : Hid ((if p = true ∧ 1 < i then (136 : Int) else 0) = R) := hid (by have h := HR2.out; rw [if_pos rfl, HP.out] at h; exact h)
      cases p with
      | false =>
        obtain rfl : R = 0 := by have h := HR3.out; simp at h; exact h.symm
        go_wp2_with fail
        go_ret
        exact ⟨rfl, HI.out.2.1⟩
      | true =>
        by_cases h1 : 1 < i
        · obtain rfl : R = 136 := by have h := HR3.out; rw [if_pos ⟨rfl, h1⟩] at h; exact h.symm
          have h1i : decide ((1 : Int) < i) = true := decide_eq_true (by omega)
          clear h1
          go_wp2_with fail
          go_ret
          exact ⟨rfl, HI.out.2.1⟩
        · obtain rfl : R = 0 := by have h := HR3.out; rw [if_neg (fun e => h1 e.2)] at h; exact h.symm
          have h1i : decide ((1 : Int) < i) = false := decide_eq_false (by omega)
          clear h1
          go_wp2_with fail
          go_ret
          exact ⟨rfl, HI.out.2.1⟩
end Go.Proofs.YtdkkpfeiaaffhaaGreatDoor.SC

namespace Go.Proofs.YtdkkpfeiaaffhaaGreatDoor.SC
set_option maxRecDepth 100000
open Go.RowKit K Go.Proofs.YtdkkpfeiaaffhaaGreatDoor.BE Go.Proofs.YtdkkpfeiaaffhaaGreatDoor.DN

/-- Booleans as cells. -/
def bb (f : Set) (n : Nat) : List Value := (List.range n).map fun i => .bool (f i)
@[simp] theorem bb_length (f : Set) (n : Nat) : (bb f n).length = n := by simp [bb]
theorem bb_get (f : Set) {i n : Nat} (h : i < n) : (bb f n)[i]? = some (.bool (f i)) := by simp [bb, h]
theorem bb_one (f : Set) (n : Nat) : ∀ v ∈ bb f n, v.oneCell' = true := by
  intro v hv
  obtain ⟨i, _, rfl⟩ := List.mem_map.1 hv
  rfl
theorem bb_put (f : Set) (n i : Nat) : (bb f n).set i (.bool true) = bb (put f i) n := by
  refine List.ext_getElem? fun j => ?_
  by_cases hj : j < n
  · rw [bb_get _ hj, List.getElem?_set]
    unfold put
    by_cases e : i = j
    · subst e; simp [hj]
    · have e2 : ¬ j = i := fun h => e h.symm
      simp [e, e2, bb_get f hj]
  · rw [List.getElem?_eq_none (by simp; omega), List.getElem?_eq_none (by simp; omega)]
theorem bb_spl (f g : Set) (n : Nat) : spl (bb f n) 0 (bb g n) = bb g n := by
  unfold spl
  rw [List.take_zero, List.nil_append, Nat.zero_add, bb_length, List.drop_eq_nil_of_le (by simp), List.append_nil]
theorem infoTs : (Tryz.prog.info? 97).map (·.size) = some 40 := by kernel_rfl
theorem infoCs2 : (Tryz.prog.info? 101).map (·.size) = some 20 := by kernel_rfl
theorem infoBool : (Tryz.prog.info? 4).map (·.size) = some 1 := by kernel_rfl
theorem zeroTs : ∀ w, (zeroValue 97).run Tryz.prog w = .ok (.agg (bb none_ 40).toArray) w := fun _ => by kernel_rfl
theorem zeroCs : ∀ w, (zeroValue 101).run Tryz.prog w = .ok (.agg (bb none_ 20).toArray) w := fun _ => by kernel_rfl
theorem zeroAt : ∀ w, (zeroValue 60).run Tryz.prog w = .ok (.agg #[.string ⟨#[]⟩, .slice none 0 0]) w := fun _ => by kernel_rfl
theorem GX.also {X : Nat → Prop} {r : Nat} (h : GX X) : GX (Also X r) := ⟨.inl h.1, .inl h.2.1, .inl h.2.2⟩
theorem Gs.put {w w' : World} {r : Nat} (h : Gs w) (hf : Fr (fun k => k = r) w w') (hl : GX (fun k => k < r)) : Gs w' :=
  h.bb hf hl (fun e => Nat.lt_irrefl _ e)
theorem tyAt_lt {s : Sch} (hk : okS s = true) {n : B} {i : Nat} (h : s.tyAt n = some i) : i < s.tys.length ∧ i < 40 := by
  have := fnd_lt h
  unfold Sch.tn at this
  rw [List.length_map] at this
  have := (okS_b hk).2.1
  omega
theorem clAt_lt {s : Sch} (hk : okS s = true) {n : B} {i : Nat} (h : s.clAt n = some i) : i < s.cls.length ∧ i < 20 := by
  have := fnd_lt h
  unfold Sch.cn at this
  rw [List.length_map] at this
  have := (okS_b hk).2.2
  omega
set_option maxHeartbeats 16000000 in
theorem checkAttrs_any {S : Nat → Prop} (X : Nat → Prop) (b : Nat) (s : Sch) (v : Value) (en : Ent) (w : World) (h : Sx w X b s) (hX : ∀ k, X k → k < w.heap.size) (hx : GX X) (hG : Gs w) (he : EnIn S w v en) (hS : ∀ i, S i → i ≠ b) :
    Calls Tryz.prog 43 #[.pointer (some ⟨b, 0, none⟩), v] w fun e w' => e = .returned (.tuple #[.agg (bb (chkAts s none_ en).1 40).toArray, .int .i64 (chkAts s none_ en).2]) ∧ Sx w' X b s ∧ Fr (fun k => k = b) w w' := by
  obtain ⟨r, hr⟩ : ∃ r, w.heap.size = r := ⟨_, rfl⟩
  have HX := hid (h.also (r := r) (by omega)); have HXB := hid hX; have HR := hid hr; have HGX : Hid (GX (Also X r)) := hid hx.also
  have HG := hid hG; have HE := hid he; have HS := hid hS
  have HGL : Hid (GX (fun k => k < r)) := hid (by rw [← hr]; exact hG.gx)
  have HBR : Hid (b < r) := hid (by have := h.lt; omega)
  have HOK := hid h.ok
  obtain ⟨a, cp, rfl, hcap, hl⟩ := he.form
  obtain ⟨RR, hRR⟩ : ∃ RR, chkAts s none_ en = RR := ⟨_, rfl⟩
  rw [hRR]
  have HRR : Hid (chkAts s none_ (en.drop 0) = RR) := hid hRR
  obtain ⟨n, hn⟩ : ∃ n, en.length = n := ⟨_, rfl⟩
  have HNN := hid hn
  rw [hn] at HE hcap hl ⊢
  have hni : (n : Int) ≤ 140737488351232 := by omega
  clear h hX hx hG he hS hr hRR hn hcap hl
  go_enter Tryz.func43, Tryz.ntmps43
  go_wp2_with (first
    | ((with_reducible refine K.atO (.alloc 97) ?_); refine wpL_alloc rfl _ rfl _ zeroTs (bb none_ 40) rfl ?_; intro w1 HB1 HF1 HS1)
    | fail)
  rw [HR.out] at HB1 ⊢
  have HX1 := hid (HX.out.no HF1.out)
  have HXL : Hid (∀ k, Also X r k → k < w1.heap.size) := hid (also_lt HXB.out (by have := HS1.out; have := HR.out; omega) (by have := HS1.out; omega))
  have HG1 := hid (HG.out.no HF1.out)
  have HFw1 := hid (HF1.out.no (D := fun k => k = b))
  clear HF1 HS1 HX HG
  go_loopw [13] (fun iv wr => ∃ (i : Nat) (f : Set), iv = .int .i64 i ∧ i ≤ n ∧ Hid (Blk wr r 97 (bb f 40)) ∧ Hid (chkAts s f (en.drop i) = RR) ∧ Hid (Sx wr (Also X r) b s ∧ Fr (fun k => k = b) w wr ∧ Gs wr ∧ w1.heap.size ≤ wr.heap.size)) (fun iv _ => n - (intOf iv).toNat)
  case atStart => exact ⟨0, none_, rfl, Nat.zero_le _, HB1, HRR, hid ⟨HX1.out, HFw1.out, HG1.out, Nat.le_refl _⟩⟩
  case round =>
    obtain ⟨i, f, rfl, hi, HB, HT, HI⟩ := hrel
    by_cases hlt : i < n
    · obtain ⟨at_, hx⟩ : ∃ x, en[i]? = some x := ⟨_, List.getElem?_eq_getElem (by rw [HNN.out]; exact hlt)⟩
      have hlti : (i : Int) < n := by omega
      have hi0 : (0 : Int) ≤ i := by omega
      obtain ⟨g, o, cq, cs, e1, -, -, hr, -, hp⟩ := (EnIn.fr HE.out HI.out.2.1 (fun i hi _ e => HS.out i hi e)).get hx
      rw [HNN.out] at e1
      simp only [Value.slice.injEq, true_and] at e1
      obtain ⟨rfl, rfl⟩ := e1
      obtain ⟨u, rfl, hz, hls⟩ := hp
      have HRG := hid hr; have HZ := hid hz; have HLS := hid hls
      have HONE : Hid (∀ v ∈ [Value.string (sb at_.1), u], v.oneCell' = true) := hid (by
        obtain ⟨a, cp, rfl, -⟩ := hls.form
        intro v hv
        simp only [List.mem_cons, List.not_mem_nil, or_false] at hv
        rcases hv with rfl | rfl <;> rfl)
      obtain ⟨hdrop, -⟩ := drop_at hx
      have HT2 := hid HT.out
      rw [hdrop] at HT2
      have HLT := hid hlt
      clear hr hz hls hx hdrop HT hi hlt
      go_wp2_with (first
        | ((with_reducible refine K.atO (.load 60 _) ?_); refine wpL_load rfl _ _ rfl g (o + i * 2) rfl [.string (sb at_.1), u] _ HRG.out rfl rfl infoAt ?_)
        | ((with_reducible refine K.atO (.alloc 60) ?_); refine wpL_alloc rfl _ rfl _ zeroAt _ rfl ?_; intro y2 HB2 HF2 HS2)
        | ((with_reducible refine K.atO (.store 60 _ _) ?_); refine wpL_store rfl _ _ _ rfl wr.heap.size 0 [.string (sb at_.1), u] rfl rfl 60 _ HB2.out (by simp) infoAt HONE.out ?_; intro y3 HB3 HF3 HS3; refine Hid.out ?_)
        | fail)
      have HFR3 : Hid (Fr No wr y3) := hid (HF2.out.trans HF3.out fun k e => .inr (by have e : k = wr.heap.size := e; omega))
      obtain ⟨q, hq⟩ : ∃ q, wr.heap.size = q := ⟨_, rfl⟩
      have HQ := hid hq
      rw [hq] at HB3 ⊢
      have HBK : Hid (Blk y3 q 60 [.string (sb at_.1), u]) := hid HB3.out
      have HBr3 := hid (HB.out.fr HFR3.out id)
      have HX3 := hid (HI.out.1.no HFR3.out)
      have HXL3 := hid (fun k hk => Nat.lt_of_lt_of_le (HXL.out k hk) (Nat.le_trans HI.out.2.2.2 HFR3.out.size))
      clear hq HB3 HB2 HF2 HF3 HS2 HS3
      have c0 : y3.cell? ⟨q, 0, none⟩ = some (.string (sb at_.1)) := HBK.out.cell 0
      refine hid ?_
      go_wp2_with fail
      refine (typeAt_any (Also X r) b s at_.1 y3 HX3.out HXL3.out HZ.out).mono ?_
      rintro e y4 ⟨rfl, hs4, f4⟩
      have HS4 := hid hs4
      have HBr4 := hid (HBr3.out.fr f4 (by show ¬ r = b; have := HBR.out; omega))
      have HBK4 := hid (HBK.out.fr f4 (by show ¬ q = b; have := HQ.out; have := HI.out.1.lt; omega))
      have HFR4 : Hid (Fr (fun k => k = b) wr y4) := hid (HFR3.out.no.trans' f4)
      have HG4 : Hid (Gs y4) := hid ((HI.out.2.2.1.no HFR3.out).bb f4 HGX.out hs4.nx)
      have HQ4 : Hid (w1.heap.size ≤ y4.heap.size) := hid (Nat.le_trans HI.out.2.2.2 HFR4.out.size)
      clear hs4 f4 c0 HX3 HXL3 HBr3 HBK
      cases hat : s.tyAt at_.1 with
      | none =>
        obtain rfl : RR = (none_, 131) := by
          have h := HT2.out
          rw [chkAts, hat] at h
          exact h.symm
        rw [atR_none]
        clear hat
        go_wp2_with (first
          | ((with_reducible refine K.atO (.build 97 _) ?_); refine wpL_valZ rfl (.agg (bb none_ 40).toArray) (by kernel_rfl) ?_)
          | ((with_reducible refine K.atO (.store 97 _ _) ?_); refine wpL_store rfl _ _ _ rfl r 0 (bb none_ 40) rfl rfl 97 _ HBr4.out (by simp) (by rw [bb_length]; exact infoTs) (bb_one _ _) ?_; intro y5 HB5 HF5 HS5; rw [bb_spl] at HB5)
          | fail)
        refine ret_cell2 rfl _ rfl HB5.out rfl rfl (by rw [bb_length]; exact infoTs) rfl ?_
        exact ⟨rfl, (HS4.out.set HF5.out).back.sx, (HI.out.2.1.trans' HFR4.out).trans HF5.out (fun k e => .inr (by have e : k = r := e; have := HR.out; omega))⟩
      | some j =>
        obtain ⟨hj1, hj2⟩ := tyAt_lt HOK.out hat
        rw [atR_some]
        have hji : (j : Int) < 40 := by omega
        have hj0 : (0 : Int) ≤ j := by omega
        have cj : y4.cell? ⟨r, j, none⟩ = some (.bool (f j)) := by rw [HBr4.out.cell, bb_get f hj2]
        obtain ⟨p, hp⟩ : ∃ p, f j = p := ⟨_, rfl⟩
        rw [hp] at cj
        have HAT := hid hat; have HP := hid hp; have HJ := hid (show j < s.tys.length ∧ j < 40 from ⟨hj1, hj2⟩)
        clear hat hp hj1 hj2
        cases p with
        | true =>
          obtain rfl : RR = (none_, 131) := by
            have h := HT2.out
            rw [chkAts, HAT.out] at h
            simp only [HP.out, if_true] at h
            exact h.symm
          go_wp2_with (first
            | ((with_reducible refine K.atO (.build 97 _) ?_); refine wpL_valZ rfl (.agg (bb none_ 40).toArray) (by kernel_rfl) ?_)
            | ((with_reducible refine K.atO (.store 97 _ _) ?_); refine wpL_store rfl _ _ _ rfl r 0 (bb none_ 40) rfl rfl 97 _ HBr4.out (by simp) (by rw [bb_length]; exact infoTs) (bb_one _ _) ?_; intro y5 HB5 HF5 HS5; rw [bb_spl] at HB5)
            | fail)
          refine ret_cell2 rfl _ rfl HB5.out rfl rfl (by rw [bb_length]; exact infoTs) rfl ?_
          exact ⟨rfl, (HS4.out.set HF5.out).back.sx, (HI.out.2.1.trans' HFR4.out).trans HF5.out (fun k e => .inr (by have e : k = r := e; have := HR.out; omega))⟩
        | false =>
          obtain ⟨t, htt⟩ : ∃ t, s.tys[j]? = some t := ⟨_, List.getElem?_eq_getElem HJ.out.1⟩
          have HT3 : Hid ((if chkVals t at_.2 = 0 then chkAts s (put f j) (en.drop (i + 1)) else (none_, chkVals t at_.2)) = RR) := hid (by
            have h := HT2.out
            rw [chkAts, HAT.out] at h
            simp only [HP.out, htt, Bool.false_eq_true, if_false] at h
            exact h)
          obtain ⟨vt, vc, bt, bc, n1, m1, hB, -, htv, -, -, -, -, -, -⟩ := HS4.out
          obtain ⟨tg, to_, tcq, tcs, te, -, -, thr, -, tp⟩ := htv.get htt
          subst te
          obtain ⟨rfl, -⟩ := tp
          obtain ⟨TL, hTL⟩ : ∃ L, s.tys.length = L := ⟨_, rfl⟩
          have d0 : y4.cell? ⟨b, 0, none⟩ = some (.slice (some ⟨tg, to_, none⟩) TL tcq) := by rw [← hTL]; exact hB.cell 0
          have d1 : y4.cell? ⟨q, 1, none⟩ = some u := HBK4.out.cell 1
          have hjl : (j : Int) < (TL : Int) := by have := HJ.out.1; omega
          have HU : Hid (LsIn S y4 u at_.2) := hid (HLS.out.fr HFR4.out (fun i hi _ e => HS.out i hi e))
          have HTHR := hid thr
          clear hB htv thr hTL htt
          go_wp2_with fail
          have hold : Facts.hold [(4, fun w' => w'.cell? ⟨b, 0, none⟩ = some (.slice (some ⟨tg, to_, none⟩) TL tcq)), (7, fun w' => w'.rangeAt tg (to_ + j * 6) (tyV t)), (9, fun w' => w'.cell? ⟨q, 1, none⟩ = some u)] y4.drew := Facts.cons_hold d0 (Facts.cons_hold HTHR.out (Facts.cons_hold d1 (Facts.nil_hold _)))
          refine wpD_region hold (by kernel_rfl) 12 rfl ?_
          (refine wpD_plain 0 (v := ?_) rfl (by kernel_rfl) (by kernel_rfl) (by kernel_rfl) (fun _ _ _ h => h) (by rfl) ?_ (by assumption) ?_; rotate_left; (intro _w; go_simp; try with_reducible rfl); simp only [Act.put, K.put3])
          (refine wpD_plain 1 (v := ?_) rfl (by kernel_rfl) (by kernel_rfl) (by kernel_rfl) (fun _ _ _ h => h) (by rfl) ?_ (by assumption) ?_; rotate_left; (intro _w; go_simp; try with_reducible rfl); simp only [Act.put, K.put3])
          (refine wpD_plain 2 (v := ?_) rfl (by kernel_rfl) (by kernel_rfl) (by kernel_rfl) (fun _ _ _ h => h) (by rfl) ?_ (by assumption) ?_; rotate_left; (intro _w; go_simp; try with_reducible rfl); simp only [Act.put, K.put3])
          (refine wpD_plain 3 (v := ?_) rfl (by kernel_rfl) (by kernel_rfl) (by kernel_rfl) (fun _ _ _ h => h) (by rfl) ?_ (by assumption) ?_; rotate_left; (intro _w; go_simp; try with_reducible rfl); simp only [Act.put, K.put3])
          (refine wpD_plain 5 (v := ?_) rfl (by kernel_rfl) (by kernel_rfl) (by kernel_rfl) (fun _ _ _ h => h) (by rfl) ?_ (by assumption) ?_; rotate_left; (intro _w; go_simp; try with_reducible rfl); simp only [Act.put, K.put3])
          (refine wpD_plain 8 (v := ?_) rfl (by kernel_rfl) (by kernel_rfl) (by kernel_rfl) (fun _ _ _ h => h) (by rfl) ?_ (by assumption) ?_; rotate_left; (intro _w; go_simp; try with_reducible rfl); simp only [Act.put, K.put3])
          (refine wpD_take 4 _ rfl (by kernel_rfl) (by kernel_rfl) (by kernel_rfl) (fun _ _ _ h => h) List.mem_cons_self (by rfl) (v := ?_) ?_ (by assumption) ?_; rotate_left; (intro _w _hw; go_simp; try with_reducible rfl); simp only [Act.put, K.put3])
          (refine wpD_plain 6 (v := ?_) rfl (by kernel_rfl) (by kernel_rfl) (by kernel_rfl) (fun _ _ _ h => h) (by rfl) ?_ (by assumption) ?_; rotate_left; (intro _w; go_simp; try with_reducible rfl); simp only [Act.put, K.put3])
          (refine wpD_take 7 _ rfl (by kernel_rfl) (by kernel_rfl) (by kernel_rfl) (fun _ _ _ h => h) (List.mem_cons_of_mem _ List.mem_cons_self) (by rfl) (exec_load _ _ rfl tg (to_ + j * 6) rfl _ _ rfl rfl infoTy) (by assumption) ?_; simp only [Act.put, K.put3])
          (refine wpD_take 9 _ rfl (by kernel_rfl) (by kernel_rfl) (by kernel_rfl) (fun _ _ _ h => h) (List.mem_cons_of_mem _ (List.mem_cons_of_mem _ List.mem_cons_self)) (by rfl) (v := ?_) ?_ (by assumption) ?_; rotate_left; (intro _w _hw; go_simp; try with_reducible rfl); simp only [Act.put, K.put3])
          clear hold
          refine wpD_only 10 [(4, fun w' => w'.cell? ⟨b, 0, none⟩ = some (.slice (some ⟨tg, to_, none⟩) TL tcq))] rfl (by kernel_rfl) (by kernel_rfl) (by rfl) (fun K10 hK10 => ?_)
          refine wp_call _ _ _ rfl 78 [] rfl (fun vs w => by kernel_rfl) [.agg (tyV t).toArray, u] (by rfl) ?_
          refine (checkValues_any t u at_.2 y4.drew (LsIn.fr (D := No) HU.out ((Fr.refl No y4).drew) (fun _ _ _ e => e)) (HG4.out.no ((Fr.refl No y4).drew))).mono ?_
          rintro e y5 ⟨rfl, f5⟩
          have HF5 : Hid (Fr No y4 y5) := hid ((Fr.refl No y4).drew.trans' f5)
          have d05 : y5.cell? ⟨b, 0, none⟩ = some (.slice (some ⟨tg, to_, none⟩) TL tcq) := f5.cell (show y4.drew.cell? _ = _ from d0) id
          refine ⟨_, rfl, hK10 _ _ (Facts.cons_hold d05 (Facts.nil_hold _)) ?_⟩
          clear hK10 K10 f5 d0 d1 cj
          simp only [Act.put, K.put3]
          have hold : Facts.hold [(4, fun w' => w'.cell? ⟨b, 0, none⟩ = some (.slice (some ⟨tg, to_, none⟩) TL tcq))] y5 := Facts.cons_hold d05 (Facts.nil_hold _)
          (refine wpD_plain 11 (v := ?_) rfl (by kernel_rfl) (by kernel_rfl) (by kernel_rfl) (fun _ _ _ h => h) (by rfl) ?_ (by assumption) ?_; rotate_left; (intro _w; go_simp; try with_reducible rfl); simp only [Act.put, K.put3])
          clear hold d05
          refine wpD_done (by kernel_rfl) ?_ _
          have HBr5 := hid (HBr4.out.fr HF5.out id)
          have HS5 := hid (HS4.out.no HF5.out)
          have HFR5 : Hid (Fr (fun k => k = b) wr y5) := hid (HFR4.out.trans' HF5.out.no)
          have HG5 := hid (HG4.out.no HF5.out)
          have HQ5 : Hid (w1.heap.size ≤ y5.heap.size) := hid (Nat.le_trans HQ4.out HF5.out.size)
          obtain ⟨E, hE⟩ : ∃ E, chkVals t at_.2 = E := ⟨_, rfl⟩
          rw [hE]
          have HE2 := hid hE
          clear hE
          by_cases h0 : E = 0
          · subst h0
            have HT4 : Hid (chkAts s (put f j) (en.drop (i + 1)) = RR) := hid (by have h := HT3.out; rw [if_pos HE2.out] at h; exact h)
            go_wp2_with (first
              | ((with_reducible refine K.atO (.store 4 _ _) ?_); refine wpL_setV rfl _ _ _ rfl r j (.bool true) rfl rfl rfl rfl 97 _ HBr5.out (by rw [bb_length]; exact HJ.out.2) infoBool ?_; intro y6 HB6 HF6 HS6; rw [bb_put] at HB6)
              | fail)
            refine ⟨⟨i + 1, put f j, by go_num, HLT.out, HB6, HT4, hid ⟨(HS5.out.set HF6.out).sx, (HI.out.2.1.trans' HFR5.out).trans HF6.out (fun k e => .inr (by have e : k = r := e; have := HR.out; omega)), HG5.out.put HF6.out HGL.out, Nat.le_trans HQ5.out HF6.out.size⟩⟩, ?_⟩
            have := HLT.out
            simp [intOf]; omega
          · obtain rfl : RR = (none_, E) := by have h := HT3.out; rw [if_neg (by rw [HE2.out]; exact h0), HE2.out] at h; exact h.symm
            have h0b : (E != 0) = true := by rw [bne_iff_ne]; exact h0
            clear h0
            go_wp2_with (first
              | ((with_reducible refine K.atO (.build 97 _) ?_); refine wpL_valZ rfl (.agg (bb none_ 40).toArray) (by kernel_rfl) ?_)
              | ((with_reducible refine K.atO (.store 97 _ _) ?_); refine wpL_store rfl _ _ _ rfl r 0 (bb none_ 40) rfl rfl 97 _ HBr5.out (by simp) (by rw [bb_length]; exact infoTs) (bb_one _ _) ?_; intro y6 HB6 HF6 HS6; rw [bb_spl] at HB6)
              | fail)
            refine ret_cell2 rfl _ rfl HB6.out rfl rfl (by rw [bb_length]; exact infoTs) rfl ?_
            exact ⟨rfl, (HS5.out.set HF6.out).back.sx, (HI.out.2.1.trans' HFR5.out).trans HF6.out (fun k e => .inr (by have e : k = r := e; have := HR.out; omega))⟩
    · obtain rfl : i = n := by omega
      obtain rfl : RR = (f, 0) := by
        have h := HT.out
        rw [← HNN.out, List.drop_length] at h
        exact h.symm
      have c0 : wr.rangeAt r 0 (bb f 40) := HB.out.range 0 _ (by rw [List.drop_zero, List.take_length])
      go_wp2_with (first
        | ((with_reducible refine K.atO (.load 97 _) ?_); refine wpL_load rfl _ _ rfl r 0 rfl (bb f 40) _ c0 rfl rfl (by rw [bb_length]; exact infoTs) ?_)
        | ((with_reducible refine K.atO (.store 97 _ _) ?_); refine wpL_store rfl _ _ _ rfl r 0 (bb f 40) rfl rfl 97 _ HB.out (by simp) (by rw [bb_length]; exact infoTs) (bb_one _ _) ?_; intro y5 HB5 HF5 HS5; rw [bb_spl] at HB5)
        | fail)
      refine ret_cell2 rfl _ rfl HB5.out rfl rfl (by rw [bb_length]; exact infoTs) rfl ?_
      exact ⟨rfl, (HI.out.1.fr HF5.out (fun k hk => .inl (.inr hk))).less (fun _ hk => .inl hk), HI.out.2.1.trans HF5.out (fun k e => .inr (by have e : k = r := e; have := HR.out; omega))⟩
end Go.Proofs.YtdkkpfeiaaffhaaGreatDoor.SC

namespace Go.Proofs.YtdkkpfeiaaffhaaGreatDoor.FT
set_option maxRecDepth 100000
open Go.RowKit K Go.Proofs.YtdkkpfeiaaffhaaGreatDoor.BE Go.Proofs.YtdkkpfeiaaffhaaGreatDoor.DN Go.Proofs.YtdkkpfeiaaffhaaGreatDoor.SC

/-- A schema that may be asked: its block b and what it lies in are not in X, which holds what the functions ask of the variables. -/
def Tn (X : Nat → Prop) (b : Nat) (s : Sch) (w : World) : Prop := Sx w X b s ∧ (∀ k, X k → k < w.heap.size) ∧ GM X ∧ Gm w
section
variable {X : Nat → Prop} {b r : Nat} {s : Sch} {w w' : World}
theorem Tn.step (h : Tn X b s w) (hs : Sx w' X b s) (hf : Fr (fun k => k = b) w w') : Tn X b s w' := ⟨hs, fun k hk => Nat.lt_of_lt_of_le (h.2.1 k hk) hf.size, h.2.2.1, h.2.2.2.bb hf h.2.2.1 hs.nx⟩
theorem Tn.no (h : Tn X b s w) (hf : Fr No w w') : Tn X b s w' := ⟨h.1.no hf, fun k hk => Nat.lt_of_lt_of_le (h.2.1 k hk) hf.size, h.2.2.1, h.2.2.2.no hf⟩
theorem Tn.also (h : Tn X b s w) (hr : w.heap.size ≤ r) (hf : Fr No w w') (hr' : r < w'.heap.size) : Tn (Also X r) b s w' :=
  ⟨(h.1.also hr).no hf, also_lt h.2.1 hr' hf.size, ⟨h.2.2.1.1.also, .inl h.2.2.1.2⟩, h.2.2.2.no hf⟩
theorem Tn.set (h : Tn (Also X r) b s w) (hf : Fr (fun k => k = r) w w') (hl : GM (fun k => k < r)) : Tn (Also X r) b s w' :=
  ⟨h.1.fr hf fun k hk => .inl (.inr hk), fun k hk => Nat.lt_of_lt_of_le (h.2.1 k hk) hf.size, h.2.2.1, h.2.2.2.1.put hf hl.1, h.2.2.2.2.imp fun _ e => hf.cell e fun e => by have e : 0 = r := e; have := hl.2; omega⟩
theorem Tn.lt (h : Tn X b s w) : b < w.heap.size := h.1.lt
theorem Sx.back {w : World} (h : Sx w (Also X r) b s) : Sx w X b s := h.less fun _ hk => .inl hk
theorem Sx.set (h : Sx w (Also X r) b s) (hf : Fr (fun k => k = r) w w') : Sx w' (Also X r) b s := h.fr hf fun k hk => .inl (.inr hk)
end
/-! ### Three values -/
theorem beqI {a b : Int} (h : a = b) : (a == b) = true := by rw [h]; exact beq_self_eq_true b
theorem beqN {a b : Int} (h : ¬ a = b) : (a == b) = false := by rw [beq_eq_false_iff_ne]; exact h
theorem opposite_any (r : Int) (w : World) : Calls Tryz.prog 131 #[.int .i64 r] w fun e w' => e = .returned (.int .i64 (opp r)) ∧ w' = w := by
  by_cases h0 : r = 0
  · subst h0
    go_enter Tryz.func131, Tryz.ntmps131
    go_wp2
    go_ret
    exact ⟨rfl, rfl⟩
  · have e0 := beqN h0
    by_cases h1 : r = 1
    · subst h1
      clear e0 h0
      go_enter Tryz.func131, Tryz.ntmps131
      go_wp2
      go_ret
      exact ⟨rfl, rfl⟩
    · have e1 := beqN h1
      have HR : Hid (opp r = 2) := hid (by unfold opp; rw [if_neg h0, if_neg h1])
      clear h0 h1
      go_enter Tryz.func131, Tryz.ntmps131
      go_wp2_with fail
      go_ret
      exact ⟨by rw [HR.out]; rfl, rfl⟩
theorem truth_any (v : Bool) (w : World) : Calls Tryz.prog 141 #[.bool v] w fun e w' => e = .returned (.int .i64 (truI v)) ∧ w' = w := by
  cases v
  · go_enter Tryz.func141, Tryz.ntmps141
    go_wp2
    go_ret
    exact ⟨rfl, rfl⟩
  · go_enter Tryz.func141, Tryz.ntmps141
    go_wp2
    go_ret
    exact ⟨rfl, rfl⟩
theorem isOrder_any (k o : Int) (w : World) : Calls Tryz.prog 135 #[.int .i64 k, .int .i64 o] w fun e w' => e = .returned (.bool (isOrd k o)) ∧ w' = w := by
  by_cases h5 : k = 5
  · subst h5
    have HR : Hid (isOrd 5 o = decide (0 ≤ o)) := hid (by unfold isOrd; rw [if_pos rfl])
    go_enter Tryz.func135, Tryz.ntmps135
    go_wp2_with fail
    go_ret
    exact ⟨by rw [HR.out]; rfl, rfl⟩
  · have e5 := beqN h5
    by_cases h6 : k = 6
    · subst h6
      have HR : Hid (isOrd 6 o = decide (o ≤ 0)) := hid (by unfold isOrd; rw [if_neg (by decide), if_pos rfl])
      clear e5 h5
      go_enter Tryz.func135, Tryz.ntmps135
      go_wp2_with fail
      go_ret
      exact ⟨by rw [HR.out]; rfl, rfl⟩
    · have e6 := beqN h6
      have HR : Hid (isOrd k o = (o == 0)) := hid (by
        unfold isOrd
        rw [if_neg h5, if_neg h6]
        by_cases h : o = 0
        · rw [decide_eq_true h, beqI h]
        · rw [decide_eq_false h, beqN h])
      clear h5 h6
      go_enter Tryz.func135, Tryz.ntmps135
      go_wp2_with fail
      go_ret
      exact ⟨by rw [HR.out]; rfl, rfl⟩
/-! ### A number in a list -/
set_option maxHeartbeats 4000000 in
theorem indexI_any (L : List Int) (g : Nat) (m : Int) (w : World) (hL : w.rangeAt g 0 (L.map fun x => Value.int .i64 x)) (hl : L.length ≤ 100) :
    Calls Tryz.prog 173 #[.slice (some ⟨g, 0, none⟩) L.length L.length, .int .i64 m] w fun e w' => (∃ k : Int, e = .returned (.int .i64 k) ∧ decide (0 ≤ k) = L.contains m ∧ -1 ≤ k ∧ k ≤ 100) ∧ w' = w := by
  obtain ⟨n, hn⟩ : ∃ n, L.length = n := ⟨_, rfl⟩
  rw [hn] at hl ⊢
  have HN := hid hn; have HL := hid hL
  have hni : (n : Int) ≤ 100 := by omega
  clear hn hL
  go_enter Tryz.func173, Tryz.ntmps173
  go_wp2_with fail
  go_loopw [8] (fun iv wr => ∃ (i : Nat), iv = .int .i64 i ∧ i ≤ n ∧ wr = w ∧ Hid ((L.take i).contains m = false)) (fun iv _ => n - (intOf iv).toNat)
  case atStart => exact ⟨0, rfl, Nat.zero_le _, rfl, hid rfl⟩
  case round =>
    obtain ⟨i, rfl, hi, rfl, HI⟩ := hrel
    by_cases hlt : i < n
    · have hiX : i < L.length := by rw [HN.out]; exact hlt
      obtain ⟨x, hx⟩ : ∃ x, L[i]? = some x := ⟨_, List.getElem?_eq_getElem hiX⟩
      have hxx : L[i] = x := by rw [List.getElem?_eq_getElem hiX] at hx; exact Option.some.inj hx
      have hlti : (i : Int) < n := by omega
      have hi0 : (0 : Int) ≤ i := by omega
      have d0 : wr.cell? ⟨g, i, none⟩ = some (.int .i64 x) := by have := HL.out i (.int .i64 x) (by rw [List.getElem?_map, hx]; rfl); simpa using this
      have HX : Hid (L[i]? = some x) := hid hx
      have HT : Hid (L.take (i + 1) = L.take i ++ [x]) := hid (by rw [List.take_succ_eq_append_getElem hiX, hxx])
      have HLT := hid hlt
      clear hx hxx hlt hiX
      cases hq : (m == x) with
      | true =>
        have HQ : Hid (m = x) := hid (by simpa using hq)
        go_wp2_with fail
        go_ret
        refine ⟨⟨i, rfl, ?_, by omega, by omega⟩, rfl⟩
        rw [decide_eq_true hi0, HQ.out]
        exact (List.contains_iff_mem.2 (List.mem_of_getElem? HX.out)).symm
      | false =>
        have HQ := hid hq
        go_wp2_with fail
        refine ⟨⟨i + 1, by go_num, HLT.out, by trivial, hid ?_⟩, ?_⟩
        · rw [HT.out, List.contains_append, HI.out]
          simpa using HQ.out
        · have := HLT.out
          simp [intOf]; omega
    · obtain rfl : i = n := by omega
      go_wp2_with fail
      go_ret
      refine ⟨⟨-1, rfl, ?_, by omega, by omega⟩, rfl⟩
      have h1 := HI.out
      rw [List.take_of_length_le (by rw [HN.out]; exact Nat.le_refl _)] at h1
      rw [h1]
      rfl
theorem containsI_any (L : List Int) (g : Nat) (m : Int) (w : World) (hL : w.rangeAt g 0 (L.map fun x => Value.int .i64 x)) (hl : L.length ≤ 100) :
    Calls Tryz.prog 132 #[.slice (some ⟨g, 0, none⟩) L.length L.length, .int .i64 m] w fun e w' => e = .returned (.bool (L.contains m)) ∧ w' = w := by
  have H := hid (indexI_any L g m w hL hl)
  obtain ⟨n, hn⟩ : ∃ n, L.length = n := ⟨_, rfl⟩
  rw [hn] at H ⊢
  obtain ⟨R, hR⟩ : ∃ R, L.contains m = R := ⟨_, rfl⟩
  rw [hR] at H ⊢
  clear hL hl hn hR
  go_enter Tryz.func132, Tryz.ntmps132
  go_wp2_with fail
  refine H.out.mono ?_
  rintro e w' ⟨⟨k, rfl, hk, k1, k2⟩, rfl⟩
  have HK := hid hk
  clear hk
  go_wp2_with fail
  go_ret
  exact ⟨by rw [← HK.out]; rfl, rfl⟩
/-! ### hasSyntax -/
def sjV (b : Nat) (ve : Value) (lv : Int) : List Value := [.pointer (some ⟨b, 0, none⟩), ve, .int .i64 lv]
theorem tyN_none {s : Sch} {n : B} (h : s.tyAt n = none) : tyN s n = none := by unfold tyN; rw [h]; rfl
theorem tyN_at {s : Sch} {n : B} {i : Nat} (h : s.tyAt n = some i) : tyN s n = some (tyOf s n) := tyN_of h (tyAt_tys h)
set_option maxHeartbeats 8000000 in
theorem hasSyn_any (X : Nat → Prop) (b : Nat) (s : Sch) (n : B) (ve : Value) (lv : Int) (L : List Int) (g : Nat) (w : World) (h : Tn X b s w) (hz : Sz n) (hL : w.rangeAt g 0 (L.map fun x => Value.int .i64 x)) (hg : g ≠ b) (hl : L.length ≤ 100) :
    Calls Tryz.prog 90 #[.agg (sjV b ve lv).toArray, .string (sb n), .slice (some ⟨g, 0, none⟩) L.length L.length] w fun e w' => e = .returned (.bool (hasSyn s n L)) ∧ Sx w' X b s ∧ Fr (fun k => k = b) w w' := by
  have HX := hid h; have HZ := hid hz; have HL := hid hL; have HG := hid hg; have HLL := hid hl
  obtain ⟨R, hR⟩ : ∃ R, hasSyn s n L = R := ⟨_, rfl⟩
  have HR := hid hR
  rw [hR]
  clear h hz hL hg hl hR
  go_enter Tryz.func90, Tryz.ntmps90
  go_wp2_with (first
    | ((with_reducible refine K.atO (.box 113 _) ?_); refine wpL_box rfl _ _ rfl _ rfl (sjV b ve lv) rfl ?_; intro w1 HB1 HF1 HS1; refine Hid.out ?_)
    | fail)
  obtain ⟨p, hp⟩ : ∃ p, w.heap.size = p := ⟨_, rfl⟩
  rw [hp] at HB1 ⊢
  have c0 : w1.cell? ⟨p, 0, none⟩ = some (.pointer (some ⟨b, 0, none⟩)) := HB1.out.cell 0
  have HX1 := hid (HX.out.no HF1.out)
  clear hp HS1
  refine hid ?_
  go_wp2_with fail
  refine (type_any X b s n w1 HX1.out.1 HX1.out.2.1 HZ.out).mono ?_
  rintro e w2 ⟨rfl, hs2, f2⟩
  have HS2 := hid hs2.sx
  have HF2 : Hid (Fr (fun k => k = b) w w2) := hid (HF1.out.no.trans' f2)
  clear hs2 f2 c0
  cases hat : s.tyAt n with
  | none =>
    have HRN : Hid (false = R) := hid (by rw [← HR.out]; unfold hasSyn; rw [tyN_none hat])
    have e1 : (none : Option Nat).isSome = false := rfl
    rw [e1]
    clear hat e1
    go_wp2_with (first
      | ((with_reducible refine K.atO (.alloc 62) ?_); refine wpL_alloc rfl _ rfl _ zeroTy _ rfl ?_; intro w3 HB3 HF3 HS3)
      | ((with_reducible refine K.atO (.store 62 _ _) ?_); refine wpL_store rfl _ _ _ rfl w2.heap.size 0 (tyV (tyOf s n)) rfl rfl 62 _ HB3.out (by simp [tyV]) infoTy (oneTy _) ?_; intro w4 HB4 HF4 HS4)
      | fail)
    go_ret
    have hf4 : Fr No w2 w4 := HF3.out.trans HF4.out (fun k e => .inr (by have e : k = w2.heap.size := e; omega))
    exact ⟨by rw [← HRN.out]; rfl, HS2.out.no hf4, HF2.out.trans' hf4.no⟩
  | some i =>
    have HRN : Hid (L.contains (tyOf s n).syn = R) := hid (by rw [← HR.out]; unfold hasSyn; rw [tyN_at hat])
    have e1 : (some i).isSome = true := rfl
    rw [e1]
    clear hat e1
    go_wp2_with (first
      | ((with_reducible refine K.atO (.alloc 62) ?_); refine wpL_alloc rfl _ rfl _ zeroTy _ rfl ?_; intro w3 HB3 HF3 HS3)
      | ((with_reducible refine K.atO (.store 62 _ _) ?_); refine wpL_store rfl _ _ _ rfl w2.heap.size 0 (tyV (tyOf s n)) rfl rfl 62 _ HB3.out (by simp [tyV]) infoTy (oneTy _) ?_; intro w4 HB4 HF4 HS4; refine Hid.out ?_)
      | fail)
    have HF4' : Hid (Fr No w2 w4) := hid (HF3.out.trans HF4.out (fun k e => .inr (by have e : k = w2.heap.size := e; omega)))
    have HB4' : Hid (Blk w4 w2.heap.size 62 (tyV (tyOf s n))) := hid HB4.out
    obtain ⟨r, hr⟩ : ∃ r, w2.heap.size = r := ⟨_, rfl⟩
    rw [hr] at HB4' ⊢
    have c1 : w4.cell? ⟨r, 1, none⟩ = some (.int .i64 (tyOf s n).syn) := HB4'.out.cell 1
    have HL4 := hid ((HF2.out.trans' HF4'.out.no).range HL.out HG.out)
    clear hr HB3 HF3 HS3 HB4 HF4 HS4
    refine hid ?_
    go_wp2_with fail
    refine (containsI_any L g (tyOf s n).syn w4 HL4.out HLL.out).mono ?_
    rintro e w5 ⟨rfl, rfl⟩
    rw [HRN.out]
    clear c1
    go_wp2_with fail
    go_ret
    exact ⟨rfl, HS2.out.no HF4'.out, HF2.out.trans' HF4'.out.no⟩
end Go.Proofs.YtdkkpfeiaaffhaaGreatDoor.FT
