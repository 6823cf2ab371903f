/-
  Part 20 of the proof: SdL, SdH, DrA, DrB, DrS, ScO.
-/
import Derived.Test.YtooodoacpdhbfaaGreatDoorSl19
import Derived.Test.YtooodoacpdhbfaaGreatDoorSl12
import Derived.Test.YtooodoacpdhbfaaGreatDoorSl06
import Derived.Test.YtooodoacpdhbfaaGreatDoorSl10
import Derived.Test.YtooodoacpdhbfaaGreatDoorSl07
import Derived.Test.YtooodoacpdhbfaaGreatDoorSl04
set_option linter.unusedSimpArgs false
set_option linter.unusedVariables false
namespace Go.Proofs.YtooodoacpdhbfaaGreatDoor.SC
set_option maxRecDepth 100000
open Go.RowKit K Go.Proofs.YtooodoacpdhbfaaGreatDoor.BE Go.Proofs.YtooodoacpdhbfaaGreatDoor.DN

theorem exec_idxC {op : Oper} {a : Act} (x y : Operand) (ho : op.op = .index 9 x y) (l : B) {S : ByteArray} (hS : sb l = S) (i : Nat) (b : UInt8) (hi : l[i]? = some b) (hx : a.eval x = .string S) (hy : a.eval y = .int .i64 (i : Int)) (w : World) : (execOp a.eval op).run Tryz.prog w = .ok (.value (.int .u8 (b.toNat : Int))) w := by
  subst hS
  have := index_str l i b hi w
  simp [execOp, ho, hx, hy, this, Result.andThen]
theorem upc_nat (c : UInt8) : (upc c).toNat = if 97 ≤ c.toNat ∧ c.toNat ≤ 122 then c.toNat - 32 else c.toNat := by
  have := u8_all (fun c => decide ((upc c).toNat = if 97 ≤ c.toNat ∧ c.toNat ≤ 122 then c.toNat - 32 else c.toNat)) (by decide +kernel) c
  simpa using this
theorem ups_take {s : B} {i : Nat} {c : UInt8} (h : s[i]? = some c) : ups (s.take (i + 1)) = ups (s.take i) ++ [upc c] := by
  rw [(drop_at h).2]
  unfold ups
  rw [List.map_append]
  rfl
theorem ups_len (s : B) : (ups s).length = s.length := by unfold ups; rw [List.length_map]
theorem infoU3 : (Tryz.prog.info? 5).map (fun i => (i.zero, i.size, i.bytes)) = some (some (.int .u8 0), 1, 1) := by kernel_rfl
set_option maxHeartbeats 8000000 in
theorem letters_any (s : B) (hs : Sz s) (w : World) : Calls Tryz.prog 31 #[.string (sb s)] w fun e w' => e = .returned (.string (sb (ups s))) ∧ Fr No w w' := by
  obtain ⟨ic, hic, hzc, hsc, hbc⟩ := info_ex infoU3
  have IC := hid hic; have ZC := hid hzc; have SC := hid hsc; have BC := hid hbc
  obtain ⟨S, hS⟩ : ∃ S, sb s = S := ⟨_, rfl⟩
  obtain ⟨n, hn⟩ : ∃ n, s.length = n := ⟨_, rfl⟩
  obtain ⟨base, hbase⟩ : ∃ b, w.heap.size = b := ⟨_, rfl⟩
  have hsz : (S.size : Int) = n := by rw [← hS, sb_size, hn]
  have hni : (n : Int) ≤ 140737488351232 := by have := hs; unfold Sz at this; omega
  have HNI := hid hni
  have HS := hid hS; have HN := hid hn; have HBASE := hid hbase
  rw [hS]
  clear hS hn hs hic hzc hsc hbc hbase
  go_enter Tryz.func31, Tryz.ntmps31
  go_wp2_with fail
  go_loopw [3, 4] (fun sv iv wr => ∃ (i : Nat) (va : Option Addr) (vcp : Nat), iv = .int .i64 i ∧ sv = .slice va i vcp ∧ i ≤ n ∧ Hid (wr.ownsRow base 5 1 (.slice va i vcp) i (u8s (ups (s.take i))) ∧ Fr No w wr)) (fun _ iv _ => n - (intOf iv).toNat)
  case atStart => exact ⟨0, none, 0, rfl, rfl, Nat.zero_le _, hid ⟨⟨rfl, .inl ⟨rfl, rfl⟩⟩, Fr.refl _ _⟩⟩
  case round =>
    obtain ⟨i, va, vcp, rfl, rfl, hi, HI⟩ := hrel
    by_cases hlt : i < n
    · obtain ⟨c, hc⟩ : ∃ c, s[i]? = some c := ⟨_, List.getElem?_eq_getElem (by rw [HN.out]; exact hlt)⟩
      have hlti : (i : Int) < n := by omega
      have hi0 : (0 : Int) ≤ i := by omega
      have HC := hid hc
      have HLT := hid hlt
      have HT := hid (ups_take hc)
      have hlo := upc_nat c
      have HIX : Hid (∀ w, (Instr.index 9 (.string S) (.int .i64 (i : Int))).run Tryz.prog w = .ok (.int .u8 (c.toNat : Int)) w) := hid (fun w => by rw [← HS.out]; exact index_str s i c hc w)
      have hb := lt256 c
      obtain ⟨xn, hxn⟩ : ∃ xn, c.toNat = xn := ⟨_, rfl⟩
      rw [hxn] at hlo hb HIX
      have HXN := hid hxn
      clear hlt hc hxn hi
      obtain ⟨u, hu⟩ : ∃ u, upc c = u := ⟨_, rfl⟩
      rw [hu] at hlo HT
      obtain ⟨un, hun⟩ : ∃ un, u.toNat = un := ⟨_, rfl⟩
      have HUN := hid hun
      rw [hun] at hlo
      clear hu hun
      have key : ∀ (wq : World) (a5 : Option Addr) (c5 : Nat), wq.ownsRow base 5 1 (.slice a5 (i + 1) c5) (i + 1) (u8s (ups (s.take i)) ++ [.int .u8 (un : Int)]) → wq.ownsRow base 5 1 (.slice a5 (i + 1) c5) (i + 1) (u8s (ups (s.take (i + 1)))) := by
        intro wq a5 c5 h
        rw [HT.out, ← HUN.out] at *
        have e : u8s (ups (s.take i) ++ [u]) = u8s (ups (s.take i)) ++ [.int .u8 (u.toNat : Int)] := by simp [u8s]
        rw [e]
        exact h
      have KEY := hid key
      clear key
      by_cases hup : 97 ≤ xn ∧ xn ≤ 122
      · rw [if_pos hup] at hlo
        have h1 : (97 : Int) ≤ xn := by omega
        have h2 : (xn : Int) ≤ 122 := by omega
        have HLO : Hid (un = xn - 32 ∧ 97 ≤ xn ∧ xn ≤ 122) := hid ⟨hlo, hup⟩
        have HV : Hid ((Value.int .u8 (un : Int)) = .int .u8 ((xn : Int) - 32)) := hid (by congr 1; omega)
        clear hup hlo
        go_wp2_with (first
          | ((with_reducible refine K.atO (.index 9 _ _) ?_); refine wpL_valZ (by rfl) (.int .u8 (xn : Int)) ((exec_idxC _ _ rfl s HS.out i c HC.out rfl rfl _).trans (by rw [HXN.out])) ?_)
          | ((with_reducible refine K.atO (.buildSlice 120 _ _) ?_); refine wpL_buildOne rfl _ 5 _ rfl ic _ Tryz.underlying120 IC.out ZC.out (by rw [SC.out]; decide) (by rw [SC.out]; decide) (.int .u8 (un : Int)) [.int .u8 (un : Int)] (by rw [HV.out]; go_simp) rfl (by rw [SC.out]; rfl) ?_; intro y4 HB4 HF4 HS4)
          | ((with_reducible refine K.atO (.call { callee := .builtin .append, args := _, argTypes := _ }) ?_); refine wpL_append rfl _ _ 120 rfl base 5 ic _ 1 1 Tryz.underlying120 IC.out ZC.out SC.out BC.out rfl (by decide) (.slice va i vcp) i (u8s (ups (s.take i))) rfl (own_fr HI.out.1 HF4.out (fun _ _ e => e)) (some ⟨wr.heap.size, 0, none⟩) 1 1 [.int .u8 (un : Int)] rfl rfl (.inr ⟨_, rfl, HB4.out.news⟩) (by intro u hu; rw [List.mem_singleton.1 hu]; rfl) (by unfold maxLen; have := HLT.out; have := HNI.out; omega) (by have := HLT.out; have := HNI.out; omega) (by have := HI.out.2.size; have := HF4.out.size; have := HBASE.out; omega) ?_; intro a5 c5 y5 HO5 HG5 HA5)
          | fail)
        refine ⟨⟨i + 1, a5, c5, by go_num, rfl, HLT.out, hid ⟨KEY.out _ _ _ HO5.out, (HI.out.2.trans' HF4.out).grown HG5.out (fun k e => .inr (by have := (own_ge HI.out.1 k e).1; rw [HBASE.out]; exact this))⟩⟩, ?_⟩
        have := HLT.out
        simp [intOf]; omega
      · rw [if_neg hup] at hlo
        have h1 : (xn : Int) < 97 ∨ (97 ≤ (xn : Int) ∧ ¬ (xn : Int) ≤ 122) := by omega
        have HV : Hid ((Value.int .u8 (un : Int)) = .int .u8 (xn : Int)) := hid (by congr 1; omega)
        clear hup hlo
        rcases h1 with h1 | ⟨h1, h2⟩
        all_goals
          go_wp2_with (first
            | ((with_reducible refine K.atO (.index 9 _ _) ?_); refine wpL_valZ (by rfl) (.int .u8 (xn : Int)) ((exec_idxC _ _ rfl s HS.out i c HC.out rfl rfl _).trans (by rw [HXN.out])) ?_)
            | ((with_reducible refine K.atO (.buildSlice 120 _ _) ?_); refine wpL_buildOne rfl _ 5 _ rfl ic _ Tryz.underlying120 IC.out ZC.out (by rw [SC.out]; decide) (by rw [SC.out]; decide) (.int .u8 (un : Int)) [.int .u8 (un : Int)] (by rw [HV.out]; rfl) rfl (by rw [SC.out]; rfl) ?_; intro y4 HB4 HF4 HS4)
            | ((with_reducible refine K.atO (.call { callee := .builtin .append, args := _, argTypes := _ }) ?_); refine wpL_append rfl _ _ 120 rfl base 5 ic _ 1 1 Tryz.underlying120 IC.out ZC.out SC.out BC.out rfl (by decide) (.slice va i vcp) i (u8s (ups (s.take i))) rfl (own_fr HI.out.1 HF4.out (fun _ _ e => e)) (some ⟨wr.heap.size, 0, none⟩) 1 1 [.int .u8 (un : Int)] rfl rfl (.inr ⟨_, rfl, HB4.out.news⟩) (by intro u hu; rw [List.mem_singleton.1 hu]; rfl) (by unfold maxLen; have := HLT.out; have := HNI.out; omega) (by have := HLT.out; have := HNI.out; omega) (by have := HI.out.2.size; have := HF4.out.size; have := HBASE.out; omega) ?_; intro a5 c5 y5 HO5 HG5 HA5)
            | fail)
          refine ⟨⟨i + 1, a5, c5, by go_num, rfl, HLT.out, hid ⟨KEY.out _ _ _ HO5.out, (HI.out.2.trans' HF4.out).grown HG5.out (fun k e => .inr (by have := (own_ge HI.out.1 k e).1; rw [HBASE.out]; exact this))⟩⟩, ?_⟩
          have := HLT.out
          simp [intOf]; omega
    · obtain rfl : i = n := by omega
      have hB := HI.out.1
      rw [← HN.out, List.take_length] at hB
      rw [HN.out] at hB
      have HBI := hid (own_bytes hB)
      clear hB hi hlt
      go_wp2_with (first
        | ((with_reducible refine K.atO (.convert _ 9 _) ?_); refine wpL_stringOf rfl _ _ _ _ rfl _ _ (ups s) rfl HBI.out Tryz.underlying120 Tryz.underlying5 Tryz.underlying9 ?_)
        | fail)
      go_ret
      exact ⟨rfl, HI.out.2⟩
end Go.Proofs.YtooodoacpdhbfaaGreatDoor.SC

namespace Go.Proofs.YtooodoacpdhbfaaGreatDoor.SC
set_option maxRecDepth 100000
open Go.RowKit K Go.Proofs.YtooodoacpdhbfaaGreatDoor.BE Go.Proofs.YtooodoacpdhbfaaGreatDoor.DN

theorem infoSc3 : (Tryz.prog.info? 33).map (·.size) = some 2 := by kernel_rfl
set_option maxHeartbeats 16000000 in
theorem lettersLaw {S2 S3 : Nat → Prop} (vt vc : Value) (s : Sch) (ve : Value) (en : Ent) (c v : B) (w : World) (h : TysIn S2 w vt s.tys) (hy : ClsIn S3 w vc s.cls) (he : EnIn (fun i => i < w.heap.size) w ve en) (hl : en.length * 40 ≤ 140737488351232) (hG : Gs w) (hc : Sz c) (hv : Sz v) :
    Calls Tryz.prog 8 #[.agg #[vt, vc], ve, .string (sb c), .string (sb v)] w fun e w' => e = .returned (.bool true) ∧ Fr No w w' := by
  obtain ⟨X, hXe⟩ : ∃ X : Nat → Prop, X = fun k => k < w.heap.size := ⟨_, rfl⟩
  have HX := hid hXe
  have HGX : Hid (GX X) := hid (by rw [hXe]; exact hG.gx)
  have HG := hid hG; have HT := hid h; have HC := hid hy
  obtain ⟨va1, vcp1, rfl, -, -⟩ := he.form
  obtain ⟨n, hn⟩ : ∃ n, en.length = n := ⟨_, rfl⟩
  have HN := hid hn; have HE := hid he; have HLE := hid hl
  rw [hn] at HE HLE ⊢
  have HZ := hid (show Sz c ∧ Sz v from ⟨hc, hv⟩)
  obtain ⟨ia, hia, hza, hsa, hba⟩ := info_ex infoAt3
  have IA := hid hia; have ZA := hid hza; have SA := hid hsa; have BA := hid hba
  clear h hy hG he hXe hc hv hn hl hia hza hsa hba
  go_enter Tryz.func8, Tryz.ntmps8
  go_wp2_with (first
    | ((with_reducible refine K.atO (.box 33 _) ?_); refine wpL_box rfl _ _ rfl _ rfl [vt, vc] rfl ?_; intro w1 HB1 HF1 HS1; refine Hid.out ?_)
    | fail)
  obtain ⟨sb0, hsb⟩ : ∃ b, w.heap.size = b := ⟨_, rfl⟩
  rw [hsb] at HB1 ⊢
  clear hsb HS1
  refine hid ?_
  go_wp2_with fail
  refine (awake_any w1 (HG.out.no HF1.out)).mono ?_
  rintro e w2 ⟨rfl, f2⟩
  have HR2 : Hid (w2.rangeAt sb0 0 [vt, vc]) := hid ((HB1.out.fr f2 id).range 0 _ rfl)
  have HF2 : Hid (Fr No w w2) := hid (HF1.out.trans' f2)
  have HT2 := hid (TysIn.fr (D := No) HT.out HF2.out (fun _ _ _ e => e)); have HC2 := hid (ClsIn.fr (D := No) HC.out HF2.out (fun _ _ _ e => e))
  clear f2 HB1 HF1 HT HC
  go_wp2_with (first
    | ((with_reducible refine K.atO (.load 33 _) ?_); refine wpL_valZ rfl (.agg #[vt, vc]) (exec_load _ _ rfl sb0 0 rfl [vt, vc] _ rfl rfl infoSc3 w2 HR2.out) ?_)
    | fail)
  cases hok : okS s with
  | false =>
    refine (new_bad vt vc s w2 HT2.out HC2.out hok).mono ?_
    rintro e w3 ⟨rfl, f3⟩
    go_wp2_with fail
    go_ret
    exact ⟨rfl, HF2.out.trans' f3⟩
  | true =>
    refine (new_ok vt vc s w2 HT2.out HC2.out hok).mono ?_
    rintro e w3 ⟨q, rfl, hs, f3⟩
    have HS3 : Hid (Sx w3 X q s) := hid (hs.less (fun k hk => by rw [HX.out] at hk; exact Nat.lt_of_lt_of_le hk HF2.out.size))
    have HG3 := hid (HG.out.no (HF2.out.trans' f3))
    have HF3 : Hid (Fr No w w3) := hid (HF2.out.trans' f3)
    have HQ : Hid (w.heap.size ≤ q) := hid (by have := HS3.out.nx; rw [HX.out] at this; omega)
    have HQL : Hid (q < w3.heap.size) := hid hs.lt
    have HFQ : Hid (∀ u v : World, Fr No w u → Fr (fun i => i = q) u v → Fr No w v) := hid (fun _ _ f g => f.trans g (fun i e => .inr (by rw [e]; exact HQ.out)))
    have HXB : Hid (∀ u, Fr No w u → ∀ k, X k → k < u.heap.size) := hid (fun u f k hk => by rw [HX.out] at hk; exact Nat.lt_of_lt_of_le (show k < w.heap.size from hk) f.size)
    have HE3 : Hid (EnIn (fun i => i < w.heap.size) w3 (.slice va1 n vcp1) en) := hid (EnIn.fr (D := No) HE.out HF3.out (fun _ _ _ e => e))
    clear hs f3 HT2 HC2 HF2 HR2 hok HE HG
    obtain ⟨base, hbase⟩ : ∃ b, w3.heap.size = b := ⟨_, rfl⟩
    have HBASE := hid hbase
    have HWB : Hid (w.heap.size ≤ base) := hid (by rw [← hbase]; exact HF3.out.size)
    rw [hbase] at HQL
    clear hbase
    have hni : (n : Int) ≤ 140737488351232 := by have := HLE.out; omega
    go_wp2_with fail
    go_loopw [12, 13] (fun sv iv wr => ∃ (i : Nat) (va : Option Addr) (vcp : Nat) (L : List (List Value)), iv = .int .i64 i ∧ sv = .slice va i vcp ∧ i ≤ n ∧ Hid (RwL (fun i => i < w.heap.size) base wr va vcp (great (en.take i)) L ∧ Fr No w3 wr ∧ (great (en.take i)).length = i)) (fun _ iv _ => n - (intOf iv).toNat)
    case atStart => exact ⟨0, none, 0, [], rfl, rfl, Nat.zero_le _, hid ⟨RwL.nil, Fr.refl _ _, rfl⟩⟩
    case round =>
      obtain ⟨i, va, vcp, L, rfl, rfl, hi, HI⟩ := hrel
      by_cases hlt : i < n
      · obtain ⟨⟨nm, ls⟩, hx⟩ : ∃ x, en[i]? = some x := ⟨_, List.getElem?_eq_getElem (by rw [HN.out]; exact hlt)⟩
        have hlti : (i : Int) < n := by omega
        have hi0 : (0 : Int) ≤ i := by omega
        obtain ⟨g, o, cq, cs, e1, hgS, -, hr, -, hp⟩ := (EnIn.fr (D := No) HE3.out HI.out.2.1 (fun _ _ _ e => e)).get hx
        rw [HN.out] at e1
        simp only [Value.slice.injEq, true_and] at e1
        obtain ⟨rfl, rfl⟩ := e1
        obtain ⟨u, rfl, hznm, hu⟩ := hp
        obtain ⟨ua, ucp, rfl, -, -⟩ := hu.form
        obtain ⟨un, hun⟩ : ∃ k, ls.length = k := ⟨_, rfl⟩
        rw [hun] at hu hr
        have HGS : Hid (g < w.heap.size) := hid hgS
        have HU := hid hu; have HRR := hid hr; have HZN := hid hznm
        have HLT := hid hlt
        have HTK := hid (great_take hx)
        have HNL := hid HI.out.2.2
        have HRW := hid HI.out.1
        have HFW := hid HI.out.2.1
        obtain ⟨xs, hxs⟩ : ∃ xs, great (en.take i) = xs := ⟨_, rfl⟩
        rw [hxs] at HTK HNL HRW
        have d0 : wr.cell? ⟨g, o + i * 2, none⟩ = some (.string (sb nm)) := by have := hr 0 _ rfl; simpa using this
        have d1 : wr.cell? ⟨g, o + i * 2 + 1, none⟩ = some (.slice ua un ucp) := hr 1 _ rfl
        clear hgS hr hu hznm hx hlt hxs hun HI
        go_wp2_with fail
        have hold : Facts.hold [(5, fun w' => w'.cell? ⟨g, o + i * 2, none⟩ = some (.string (sb nm))), (11, fun w' => w'.cell? ⟨g, o + i * 2 + 1, none⟩ = some (.slice ua un ucp))] wr.drew := Facts.cons_hold d0 (Facts.cons_hold d1 (Facts.nil_hold _))
        refine wpD_region hold (by kernel_rfl) 16 rfl ?_
        (refine wpD_plain 0 (v := ?_) rfl (by kernel_rfl) (by kernel_rfl) (by kernel_rfl) (fun _ _ _ h => h) (by rfl) ?_ (by assumption) ?_; rotate_left; (intro _w; go_simp; try with_reducible rfl); simp only [Act.put, K.put3])
        (refine wpD_plain 1 (v := ?_) rfl (by kernel_rfl) (by kernel_rfl) (by kernel_rfl) (fun _ _ _ h => h) (by rfl) ?_ (by assumption) ?_; rotate_left; (intro _w; go_simp; try with_reducible rfl); simp only [Act.put, K.put3])
        (refine wpD_plain 2 (v := ?_) rfl (by kernel_rfl) (by kernel_rfl) (by kernel_rfl) (fun _ _ _ h => h) (by rfl) ?_ (by assumption) ?_; rotate_left; (intro _w; go_simp; try with_reducible rfl); simp only [Act.put, K.put3])
        (refine wpD_plain 7 (v := ?_) rfl (by kernel_rfl) (by kernel_rfl) (by kernel_rfl) (fun _ _ _ h => h) (by rfl) ?_ (by assumption) ?_; rotate_left; (intro _w; go_simp; try with_reducible rfl); simp only [Act.put, K.put3])
        (refine wpD_plain 8 (v := ?_) rfl (by kernel_rfl) (by kernel_rfl) (by kernel_rfl) (fun _ _ _ h => h) (by rfl) ?_ (by assumption) ?_; rotate_left; (intro _w; go_simp; try with_reducible rfl); simp only [Act.put, K.put3])
        (refine wpD_plain 3 (v := ?_) rfl (by kernel_rfl) (by kernel_rfl) (by kernel_rfl) (fun _ _ _ h => h) (by rfl) ?_ (by assumption) ?_; rotate_left; (intro _w; go_simp; try with_reducible rfl); simp only [Act.put, K.put3])
        (refine wpD_plain 4 (v := ?_) rfl (by kernel_rfl) (by kernel_rfl) (by kernel_rfl) (fun _ _ _ h => h) (by rfl) ?_ (by assumption) ?_; rotate_left; (intro _w; go_simp; try with_reducible rfl); simp only [Act.put, K.put3])
        (refine wpD_plain 9 (v := ?_) rfl (by kernel_rfl) (by kernel_rfl) (by kernel_rfl) (fun _ _ _ h => h) (by rfl) ?_ (by assumption) ?_; rotate_left; (intro _w; go_simp; try with_reducible rfl); simp only [Act.put, K.put3])
        (refine wpD_plain 10 (v := ?_) rfl (by kernel_rfl) (by kernel_rfl) (by kernel_rfl) (fun _ _ _ h => h) (by rfl) ?_ (by assumption) ?_; rotate_left; (intro _w; go_simp; try with_reducible rfl); simp only [Act.put, K.put3])
        (refine wpD_take 5 _ rfl (by kernel_rfl) (by kernel_rfl) (by kernel_rfl) (fun _ _ _ h => h) List.mem_cons_self (by rfl) (v := ?_) ?_ (by assumption) ?_; rotate_left; (intro _w _hw; go_simp; try with_reducible rfl); simp only [Act.put, K.put3])
        (refine wpD_take 11 _ rfl (by kernel_rfl) (by kernel_rfl) (by kernel_rfl) (fun _ _ _ h => h) (List.mem_cons_of_mem _ List.mem_cons_self) (by rfl) (v := ?_) ?_ (by assumption) ?_; rotate_left; (intro _w _hw; go_simp; try with_reducible rfl); simp only [Act.put, K.put3])
        clear hold
        refine wpD_only 6 [(11, fun w' => w'.cell? ⟨g, o + i * 2 + 1, none⟩ = some (.slice ua un ucp))] rfl (by kernel_rfl) (by kernel_rfl) (by rfl) (fun K6 hK6 => ?_)
        refine wp_call _ _ _ rfl 31 [] rfl (fun vs w => by kernel_rfl) [.string (sb nm)] (by rfl) ?_
        refine (letters_any nm HZN.out wr.drew).mono ?_
        rintro e y1 ⟨rfl, f1⟩
        have HY1 : Hid (Fr No wr y1) := hid ((Fr.refl No wr).drew.trans' f1)
        have e1 : y1.cell? ⟨g, o + i * 2 + 1, none⟩ = some (.slice ua un ucp) := HY1.out.cell d1 id
        refine ⟨_, rfl, hK6 _ _ (Facts.cons_hold e1 (Facts.nil_hold _)) ?_⟩
        clear hK6 K6 f1 d0
        simp only [Act.put, K.put3]
        have hold : Facts.hold [(11, fun w' => w'.cell? ⟨g, o + i * 2 + 1, none⟩ = some (.slice ua un ucp))] y1 := Facts.cons_hold e1 (Facts.nil_hold _)
        (refine wpD_plain 12 (v := (.agg #[.string (sb (ups nm)), .slice ua un ucp])) rfl (by kernel_rfl) (by kernel_rfl) (by kernel_rfl) (fun _ _ _ h => h) (by rfl) ?_ (by assumption) ?_; (intro _w; exact exec_bld _ [(0, .tmp 47), (1, .tmp 52)] rfl [(0, .string (sb (ups nm))), (1, .slice ua un ucp)] rfl _ _ (bat2 _ _ _ _ _)); simp only [Act.put, K.put3])
        clear hold
        refine wpD_only 13 [(11, fun w' => w'.cell? ⟨g, o + i * 2 + 1, none⟩ = some (.slice ua un ucp))] rfl (by kernel_rfl) (by kernel_rfl) (by rfl) (fun K13 hK13 => ?_)
        refine wp_buildOne 56 64 _ rfl ia _ Tryz.underlying56 IA.out ZA.out (by rw [SA.out]; decide) (by rw [SA.out]; decide) (.agg #[.string (sb (ups nm)), .slice ua un ucp]) [.string (sb (ups nm)), .slice ua un ucp] rfl rfl (by rw [SA.out]; rfl) ?_
        intro y2 HB2 HG2 HS2
        have HY2 : Hid (Fr No wr y2) := hid (HY1.out.trans' HG2.out)
        have e2 : y2.cell? ⟨g, o + i * 2 + 1, none⟩ = some (.slice ua un ucp) := HY2.out.cell d1 id
        refine hK13 _ _ (Facts.cons_hold e2 (Facts.nil_hold _)) ?_
        clear hK13 K13 e1
        simp only [Act.put, K.put3]
        have HRW2 : Hid (RwL (fun i => i < w.heap.size) base y2 va vcp xs L) := hid (HRW.out.fr (D := No) HY2.out (fun _ _ _ e => e) (fun _ _ _ e => e))
        have hown : y2.ownsRow base 64 2 (.slice va i vcp) i L.flatten := by have := HRW2.out.2.2.2; rw [HNL.out] at this; exact this
        refine wpD_only 14 [(11, fun w' => w'.cell? ⟨g, o + i * 2 + 1, none⟩ = some (.slice ua un ucp))] rfl (by kernel_rfl) (by kernel_rfl) (by rfl) (fun K14 hK14 => ?_)
        refine wp_append _ _ 56 rfl base 64 ia _ 2 40 Tryz.underlying56 IA.out ZA.out SA.out BA.out rfl (by decide) (.slice va i vcp) i L.flatten rfl hown (some ⟨y1.heap.size, 0, none⟩) 1 1 [.string (sb (ups nm)), .slice ua un ucp] rfl rfl (.inr ⟨_, rfl, HB2.out.news⟩) (by intro u hu; simp only [List.mem_cons, List.not_mem_nil, or_false] at hu; rcases hu with rfl | rfl <;> rfl) (by unfold maxLen; have := HLT.out; have := HLE.out; omega) (by have := HLT.out; have := HLE.out; omega) (by have := HFW.out.size; have := HY2.out.size; have := HBASE.out; omega) ?_
        intro a5 c5 y5 HO5 HG5 HA5
        have HFB : Hid (Fr (fun k => base ≤ k) y2 y5) := hid ((frown HG5.out).mono (fun k e => (own_ge hown k e).1))
        have e5 : y5.cell? ⟨g, o + i * 2 + 1, none⟩ = some (.slice ua un ucp) := HFB.out.cell e2 (by show ¬ base ≤ g; have := HGS.out; have := HWB.out; omega)
        refine hK14 _ _ (Facts.cons_hold e5 (Facts.nil_hold _)) ?_
        clear hK14 K14 e2
        simp only [Act.put, K.put3]
        have hold : Facts.hold [(11, fun w' => w'.cell? ⟨g, o + i * 2 + 1, none⟩ = some (.slice ua un ucp))] y5 := Facts.cons_hold e5 (Facts.nil_hold _)
        (refine wpD_plain 15 (v := ?_) rfl (by kernel_rfl) (by kernel_rfl) (by kernel_rfl) (fun _ _ _ h => h) (by rfl) ?_ (by assumption) ?_; rotate_left; (intro _w; go_simp; try with_reducible rfl); simp only [Act.put, K.put3])
        clear hold
        refine wpD_done (by kernel_rfl) ?_ _
        clear e5 d1
        have HRW5 : Hid (RwL (fun i => i < w.heap.size) base y5 a5 c5 (great (en.take (i + 1))) (L ++ [[.string (sb (ups nm)), .slice ua un ucp]]) ∧ (great (en.take (i + 1))).length = i + 1) := hid (by
          rw [HTK.out]
          refine ⟨HRW2.out.push HFB.out (fun i hi => Nat.lt_of_lt_of_le hi HWB.out) ⟨_, rfl, by unfold Sz; rw [ups_len]; exact HZN.out, LsIn.fr (D := No) (by have := HU.out; exact this) HY2.out (fun _ _ _ e => e)⟩ (by rw [HNL.out]; exact HO5.out), by rw [List.length_append, HNL.out]; rfl⟩)
        have HF5 : Hid (Fr No w3 y5) := hid ((HFW.out.trans' HY2.out).trans HFB.out (fun k e => .inr (by rw [HBASE.out]; exact e)))
        clear hown
        go_wp2_with fail
        refine ⟨⟨i + 1, a5, c5, _, by go_num, rfl, HLT.out, hid ⟨HRW5.out.1, HF5.out, HRW5.out.2⟩⟩, ?_⟩
        have := HLT.out
        simp [intOf]; omega
      · obtain rfl : i = n := by omega
        have HGR : Hid (EnIn (fun k => k < w.heap.size ∨ base ≤ k) wr (.slice va i vcp) (great en)) := hid (by
          have h1 := HI.out.1
          have h2 := HI.out.2.2
          rw [← HN.out, List.take_length] at h1 h2
          have := h1.en (by rw [h2, HN.out]; omega)
          rw [h2, HN.out] at this
          exact this)
        have HFW : Hid (Fr No w wr) := hid (HF3.out.trans' HI.out.2.1)
        have HS4 := hid (HS3.out.no HI.out.2.1); have HG4 := hid (HG3.out.no HI.out.2.1)
        have HE4 : Hid (EnIn (fun k => k < w.heap.size) wr (.slice va1 i vcp1) en) := hid (EnIn.fr (D := No) HE3.out HI.out.2.1 (fun _ _ _ e => e))
        have HSE : Hid (∀ k, k < w.heap.size → k ≠ q) := hid (fun k hk => by have := HQ.out; omega)
        have HSG : Hid (∀ k, (k < w.heap.size ∨ base ≤ k) → k ≠ q) := hid (fun k hk => by have := HQ.out; have := HQL.out; omega)
        have hcg := check_great s en; have hig := isA_great s en c; have hng := normE_up s c v
        obtain ⟨F, hF⟩ : ∃ F, check s en = F := ⟨_, rfl⟩
        obtain ⟨I, hI⟩ : ∃ I, isA s en c = I := ⟨_, rfl⟩
        obtain ⟨M1, hM1⟩ : ∃ M, (normE s c v).1 = M := ⟨_, rfl⟩
        obtain ⟨M2, hM2⟩ : ∃ M, (normE s c v).2 = M := ⟨_, rfl⟩
        rw [hF] at hcg; rw [hI] at hig
        have HF_ := hid hF; have HI_ := hid hI; have HM1 := hid hM1; have HM2 := hid hM2; have HCG := hid hcg; have HIG := hid hig; have HNG := hid hng
        clear hF hI hM1 hM2 hcg hig hng HI HS3 HG3 HE3 hi hlt
        go_wp2_with fail
        refine (check_any X q s _ en wr HS4.out (HXB.out _ HFW.out) HGX.out HG4.out HE4.out HSE.out).mono ?_
        rintro e z5 ⟨rfl, hs, f⟩
        have HS5 := hid hs; have HG5 := hid (hs.bb HG4.out f HGX.out); have HW5 := hid (HFQ.out _ _ HFW.out f)
        have HE5 := hid (HE4.out.fr f (fun i hi _ e => HSE.out i hi e)); have HGR5 := hid (HGR.out.fr f (fun i hi _ e => HSG.out i hi e))
        clear hs f HS4 HG4 HE4 HGR HFW
        rw [HF_.out]
        go_wp2_with fail
        refine (check_any X q s _ (great en) z5 HS5.out (HXB.out _ HW5.out) HGX.out HG5.out HGR5.out HSG.out).mono ?_
        rintro e z6 ⟨rfl, hs, f⟩
        have HS6 := hid hs; have HG6 := hid (hs.bb HG5.out f HGX.out); have HW6 := hid (HFQ.out _ _ HW5.out f)
        have HE6 := hid (HE5.out.fr f (fun i hi _ e => HSE.out i hi e)); have HGR6 := hid (HGR5.out.fr f (fun i hi _ e => HSG.out i hi e))
        clear hs f HS5 HG5 HE5 HGR5 HW5
        rw [HCG.out]
        go_wp2_with fail
        refine (isA_any X q s _ en c z6 HS6.out (HXB.out _ HW6.out) HGX.out HG6.out HE6.out HSE.out HZ.out.1).mono ?_
        rintro e z7 ⟨rfl, hs, f⟩
        have HS7 := hid hs; have HG7 := hid (hs.bb HG6.out f HGX.out); have HW7 := hid (HFQ.out _ _ HW6.out f)
        have HE7 := hid (HE6.out.fr f (fun i hi _ e => HSE.out i hi e)); have HGR7 := hid (HGR6.out.fr f (fun i hi _ e => HSG.out i hi e))
        clear hs f HS6 HG6 HE6 HGR6 HW6
        rw [HI_.out]
        go_wp2_with fail
        refine (letters_any c HZ.out.1 z7).mono ?_
        rintro e z8 ⟨rfl, f⟩
        have HS8 := hid (HS7.out.no f); have HG8 := hid (HG7.out.no f); have HW8 := hid (HW7.out.trans' f)
        have HE8 : Hid (EnIn (fun k => k < w.heap.size) z8 (.slice va1 i vcp1) en) := hid (EnIn.fr (D := No) HE7.out f (fun _ _ _ e => e)); have HGR8 : Hid (EnIn (fun k => k < w.heap.size ∨ base ≤ k) z8 (.slice va i vcp) (great en)) := hid (EnIn.fr (D := No) HGR7.out f (fun _ _ _ e => e))
        clear f HS7 HG7 HE7 HGR7 HW7
        go_wp2_with fail
        refine (isA_any X q s _ (great en) (ups c) z8 HS8.out (HXB.out _ HW8.out) HGX.out HG8.out HGR8.out HSG.out (by unfold Sz; rw [ups_len]; exact HZ.out.1)).mono ?_
        rintro e z9 ⟨rfl, hs, f⟩
        have HS9 := hid hs; have HG9 := hid (hs.bb HG8.out f HGX.out); have HW9 := hid (HFQ.out _ _ HW8.out f)
        have HE9 := hid (HE8.out.fr f (fun i hi _ e => HSE.out i hi e)); have HGR9 := hid (HGR8.out.fr f (fun i hi _ e => HSG.out i hi e))
        clear hs f HS8 HG8 HE8 HGR8 HW8
        rw [HIG.out]
        go_wp2_with fail
        refine (norm_any X q s c v z9 HS9.out (HXB.out _ HW9.out) HGX.out HG9.out HZ.out.1 HZ.out.2).mono ?_
        rintro e z10 ⟨rfl, hs, f⟩
        have HS10 := hid hs.sx; have HG10 := hid (hs.bb HG9.out f HGX.out); have HW10 := hid (HFQ.out _ _ HW9.out f)
        have HE10 := hid (HE9.out.fr f (fun i hi _ e => HSE.out i hi e)); have HGR10 := hid (HGR9.out.fr f (fun i hi _ e => HSG.out i hi e))
        clear hs f HS9 HG9 HE9 HGR9 HW9
        rw [HM1.out, HM2.out]
        go_wp2_with fail
        refine (letters_any c HZ.out.1 z10).mono ?_
        rintro e z11 ⟨rfl, f⟩
        have HS11 := hid (HS10.out.no f); have HG11 := hid (HG10.out.no f); have HW11 := hid (HW10.out.trans' f)
        have HE11 : Hid (EnIn (fun k => k < w.heap.size) z11 (.slice va1 i vcp1) en) := hid (EnIn.fr (D := No) HE10.out f (fun _ _ _ e => e)); have HGR11 : Hid (EnIn (fun k => k < w.heap.size ∨ base ≤ k) z11 (.slice va i vcp) (great en)) := hid (EnIn.fr (D := No) HGR10.out f (fun _ _ _ e => e))
        clear f HS10 HG10 HE10 HGR10 HW10
        go_wp2_with fail
        refine (norm_any X q s (ups c) v z11 HS11.out (HXB.out _ HW11.out) HGX.out HG11.out (by unfold Sz; rw [ups_len]; exact HZ.out.1) HZ.out.2).mono ?_
        rintro e z12 ⟨rfl, hs, f⟩
        have HS12 := hid hs.sx; have HG12 := hid (hs.bb HG11.out f HGX.out); have HW12 := hid (HFQ.out _ _ HW11.out f)
        have HE12 := hid (HE11.out.fr f (fun i hi _ e => HSE.out i hi e)); have HGR12 := hid (HGR11.out.fr f (fun i hi _ e => HSG.out i hi e))
        clear hs f HS11 HG11 HE11 HGR11 HW11
        rw [HNG.out, HM1.out, HM2.out]
        cases I <;>
        (go_wp2_with (first
          | ((with_reducible refine K.atO (.binOp .eql 9 _ _ _) ?_); refine wpL_valZ rfl (.bool true) ((exec_eqS _ _ _ rfl M1 M1 rfl rfl _).trans (by simp)) ?_)
          | fail))
        all_goals
          go_ret
          exact ⟨rfl, HW12.out⟩
end Go.Proofs.YtooodoacpdhbfaaGreatDoor.SC

namespace Go.Proofs.YtooodoacpdhbfaaGreatDoor.DN
set_option maxRecDepth 100000
open Go.RowKit K Go.Proofs.YtooodoacpdhbfaaGreatDoor.BE

theorem let_n (c : UInt8) : isLet c = decide ((97 ≤ c.toNat ∧ c.toNat ≤ 122) ∨ (65 ≤ c.toNat ∧ c.toNat ≤ 90)) := by
  have := u8_all (fun c => isLet c == decide ((97 ≤ c.toNat ∧ c.toNat ≤ 122) ∨ (65 ≤ c.toNat ∧ c.toNat ≤ 90))) (by decide +kernel) c
  simpa using this
theorem dig_n (c : UInt8) : isDig c = decide (48 ≤ c.toNat ∧ c.toNat ≤ 57) := by
  have := u8_all (fun c => isDig c == decide (48 ≤ c.toNat ∧ c.toNat ≤ 57)) (by decide +kernel) c
  simpa using this
theorem sign_n (c : UInt8) : sign c = decide (c.toNat = 34 ∨ c.toNat = 43 ∨ c.toNat = 44 ∨ c.toNat = 59 ∨ c.toNat = 60 ∨ c.toNat = 62 ∨ c.toNat = 92) := by
  have := u8_all (fun c => sign c == decide (c.toNat = 34 ∨ c.toNat = 43 ∨ c.toNat = 44 ∨ c.toNat = 59 ∨ c.toNat = 60 ∨ c.toNat = 62 ∨ c.toNat = 92)) (by decide +kernel) c
  simpa using this
/-- The document's number of a digit: 16: it is none. -/
def hexN (c : UInt8) : Nat := match hexv c with
  | some x => x.toNat
  | none => 16
theorem hex_n (c : UInt8) : hexN c = if 48 ≤ c.toNat ∧ c.toNat ≤ 57 then c.toNat - 48 else if 97 ≤ c.toNat ∧ c.toNat ≤ 102 then c.toNat - 87 else if 65 ≤ c.toNat ∧ c.toNat ≤ 70 then c.toNat - 55 else 16 := by
  have := u8_all (fun c => hexN c == if 48 ≤ c.toNat ∧ c.toNat ≤ 57 then c.toNat - 48 else if 97 ≤ c.toNat ∧ c.toNat ≤ 102 then c.toNat - 87 else if 65 ≤ c.toNat ∧ c.toNat ≤ 70 then c.toNat - 55 else 16) (by decide +kernel) c
  simpa using this
theorem letter_any (c : UInt8) (w : World) : Calls Tryz.prog 44 #[.int .u8 (c.toNat : Int)] w fun e w' => e = .returned (.bool (isLet c)) ∧ w' = w := by
  rw [let_n]
  generalize c.toNat = n
  have hc : n < 65 ∨ (65 ≤ n ∧ n ≤ 90) ∨ (90 < n ∧ n < 97) ∨ (97 ≤ n ∧ n ≤ 122) ∨ 122 < n := by omega
  rcases hc with h | h | h | h | h
  · have h1 : ¬ (97 : Int) ≤ n := by omega
    have h2 : ¬ (65 : Int) ≤ n := by omega
    rw [decide_eq_false (by omega)]
    clear h
    go_enter Tryz.func44, Tryz.ntmps44
    go_wp2
    go_ret
    exact ⟨rfl, rfl⟩
  · have h1 : ¬ (97 : Int) ≤ n := by omega
    have h2 : (65 : Int) ≤ n := by omega
    have h3 : (n : Int) ≤ 90 := by omega
    rw [decide_eq_true (by omega)]
    clear h
    go_enter Tryz.func44, Tryz.ntmps44
    go_wp2
    go_ret
    exact ⟨rfl, rfl⟩
  · have h1 : ¬ (97 : Int) ≤ n := by omega
    have h2 : (65 : Int) ≤ n := by omega
    have h3 : ¬ (n : Int) ≤ 90 := by omega
    rw [decide_eq_false (by omega)]
    clear h
    go_enter Tryz.func44, Tryz.ntmps44
    go_wp2
    go_ret
    exact ⟨rfl, rfl⟩
  · have h1 : (97 : Int) ≤ n := by omega
    have h2 : (n : Int) ≤ 122 := by omega
    rw [decide_eq_true (by omega)]
    clear h
    go_enter Tryz.func44, Tryz.ntmps44
    go_wp2
    go_ret
    exact ⟨rfl, rfl⟩
  · have h1 : (97 : Int) ≤ n := by omega
    have h2 : ¬ (n : Int) ≤ 122 := by omega
    have h3 : (65 : Int) ≤ n := by omega
    have h4 : ¬ (n : Int) ≤ 90 := by omega
    rw [decide_eq_false (by omega)]
    clear h
    go_enter Tryz.func44, Tryz.ntmps44
    go_wp2
    go_ret
    exact ⟨rfl, rfl⟩
theorem digit_any (c : UInt8) (w : World) : Calls Tryz.prog 45 #[.int .u8 (c.toNat : Int)] w fun e w' => e = .returned (.bool (isDig c)) ∧ w' = w := by
  rw [dig_n]
  generalize c.toNat = n
  by_cases h1 : 48 ≤ n
  · have h1i : (48 : Int) ≤ n := by omega
    by_cases h2 : n ≤ 57
    · have h2i : (n : Int) ≤ 57 := by omega
      rw [decide_eq_true (by omega)]
      clear h1 h2
      go_enter Tryz.func45, Tryz.ntmps45
      go_wp2
      go_ret
      exact ⟨rfl, rfl⟩
    · have h2i : ¬ (n : Int) ≤ 57 := by omega
      rw [decide_eq_false (by omega)]
      clear h1 h2
      go_enter Tryz.func45, Tryz.ntmps45
      go_wp2
      go_ret
      exact ⟨rfl, rfl⟩
  · have h1i : ¬ (48 : Int) ≤ n := by omega
    rw [decide_eq_false (by omega)]
    clear h1
    go_enter Tryz.func45, Tryz.ntmps45
    go_wp2
    go_ret
    exact ⟨rfl, rfl⟩
theorem signs_any (c : UInt8) (w : World) : Calls Tryz.prog 82 #[.int .u8 (c.toNat : Int)] w fun e w' => e = .returned (.bool (sign c)) ∧ w' = w := by
  rw [sign_n]
  generalize c.toNat = n
  obtain ⟨R, hR⟩ : ∃ R, decide (n = 34 ∨ n = 43 ∨ n = 44 ∨ n = 59 ∨ n = 60 ∨ n = 62 ∨ n = 92) = R := ⟨_, rfl⟩
  rw [hR]
  have HR := hid hR
  clear hR
  go_enter Tryz.func82, Tryz.ntmps82
  go_wp2
  all_goals go_ret
  all_goals refine ⟨?_, rfl⟩
  all_goals have h := HR.out
  all_goals first
    | (rw [decide_eq_true (by omega)] at h; subst h; rfl)
    | (subst h; refine congrArg (fun b => Ending.returned (Value.bool b)) ?_; rw [Bool.eq_iff_iff]; simp; omega)
theorem hex_any (c : UInt8) (w : World) : Calls Tryz.prog 83 #[.int .u8 (c.toNat : Int)] w fun e w' => e = .returned (.int .i64 (hexN c : Int)) ∧ w' = w := by
  obtain ⟨H, hH⟩ : ∃ H, hexN c = H := ⟨_, rfl⟩
  have h0 := hex_n c
  have hc := c.toNat_lt
  rw [hH] at h0 ⊢
  generalize c.toNat = n at h0 hc
  have hn0 : (0 : Int) ≤ n := by omega
  have hn1 : (n : Int) < 256 := by omega
  have HH := hid h0
  clear h0 hH hc
  go_enter Tryz.func83, Tryz.ntmps83
  go_wp2
  all_goals go_ret
  all_goals refine ⟨congrArg (fun x : Int => Ending.returned (Value.int .i64 x)) ?_, rfl⟩
  all_goals have h := HH.out
  all_goals (repeat' split at h) <;> omega
theorem hexv_lt16 {c x : UInt8} (h : hexv c = some x) : x.toNat < 16 := by
  have := u8_all (fun c => match hexv c with | some x => decide (x.toNat < 16) | none => true) (by decide +kernel) c
  rw [h] at this
  simpa using this
theorem hex_join {x y : UInt8} (hx : x.toNat < 16) (hy : y.toNat < 16) : (16 * x + y).toNat = 16 * x.toNat + y.toNat := by
  rw [UInt8.toNat_add, UInt8.toNat_mul]
  have : (16 : UInt8).toNat = 16 := rfl
  rw [this]
  omega
theorem one_bare (den : B) (r : B) {c : UInt8} (h92 : c ≠ 92) (h44 : c ≠ 44) (h43 : c ≠ 43) : one den c r = if c = 0 ∨ sign c = true ∨ (den = [] ∧ (c = 35 ∨ c = 32)) then none else some (c, c == 32, r) := by
  unfold one sign
  rw [if_neg h92]
  by_cases k0 : c = 0 <;> by_cases k1 : c = 34 <;> by_cases k2 : c = 59 <;> by_cases k3 : c = 60 <;> by_cases k4 : c = 62 <;> by_cases k5 : c = 35 <;> by_cases k6 : c = 32 <;> by_cases k7 : den = [] <;> simp_all
theorem esc_ok {d : UInt8} {r : B} (h : (sign d || d == 35 || d == 61 || d == 32) = true) : esc (d :: r) = some (d, r) := by
  unfold esc
  simp only [h, if_true]
theorem esc_no {d : UInt8} {r : B} (h : ¬ (sign d || d == 35 || d == 61 || d == 32) = true) : esc (d :: r) = match r with
    | [] => none
    | d2 :: r' => match hexv d, hexv d2 with
      | some x, some y => some (16 * x + y, r')
      | _, _ => none := by
  unfold esc
  simp only [h, Bool.false_eq_true, if_false]
  cases r <;> rfl
end Go.Proofs.YtooodoacpdhbfaaGreatDoor.DN

namespace Go.Proofs.YtooodoacpdhbfaaGreatDoor.DN
set_option maxRecDepth 100000
open Go.RowKit K Go.Proofs.YtooodoacpdhbfaaGreatDoor.BE

theorem exec_idxB {op : Oper} {a : Act} (x y : Operand) (ho : op.op = .index 9 x y) (l : B) {S : ByteArray} (hS : sb l = S) (i : Nat) (b : UInt8) (hi : l[i]? = some b) (n : Int) (hn : n = (i : Int)) (hx : a.eval x = .string S) (hy : a.eval y = .int .i64 n) (w : World) : (execOp a.eval op).run Tryz.prog w = .ok (.value (.int .u8 (b.toNat : Int))) w := by
  subst hS
  exact exec_idx x y ho l i b hi n hn hx hy w
theorem ok_n (c : UInt8) (f : Bool) : okAt f c = (isLet c || (!f && (isDig c || decide (c.toNat = 45)))) := by
  have h : (c == 45) = decide (c.toNat = 45) := by
    have := u8_all (fun c => (c == 45) == decide (c.toNat = 45)) (by decide +kernel) c
    simpa using this
  unfold okAt
  rw [h]
theorem typ_at {s : B} : typ s = true ↔ 1 ≤ s.length ∧ s.length ≤ 20 ∧ ∀ j c, s[j]? = some c → okAt (j == 0) c = true := by
  unfold typ
  cases s with
  | nil => simp
  | cons d r =>
    simp only [Bool.and_eq_true, decide_eq_true_eq, List.all_eq_true]
    constructor
    · rintro ⟨⟨h1, h2⟩, h3, h4⟩
      refine ⟨h1, h2, fun j c hj => ?_⟩
      cases j with
      | zero =>
        obtain rfl : d = c := by simpa using hj
        exact h3
      | succ j =>
        have hj : r[j]? = some c := by simpa using hj
        exact h4 c (List.mem_of_getElem? hj)
    · rintro ⟨h1, h2, h3⟩
      refine ⟨⟨h1, h2⟩, h3 0 d rfl, fun c hc => ?_⟩
      obtain ⟨j, hj, rfl⟩ := List.mem_iff_getElem.1 hc
      exact h3 (j + 1) r[j] (by simp [hj])
set_option maxHeartbeats 8000000 in
theorem rType_any (s : B) (hs : Sz s) (w : World) : Calls Tryz.prog 15 #[.string (sb s)] w fun e w' => e = .returned (.bool (typ s)) ∧ w' = w := by
  obtain ⟨S, hS⟩ : ∃ S, sb s = S := ⟨_, rfl⟩
  obtain ⟨n, hn⟩ : ∃ n, s.length = n := ⟨_, rfl⟩
  obtain ⟨R, hR⟩ : ∃ R, typ s = R := ⟨_, rfl⟩
  have hsz : (S.size : Int) = n := by rw [← hS, sb_size, hn]
  have hni : (n : Int) ≤ 140737488351232 := by have := hs; unfold Sz at this; omega
  have HS := hid hS; have HN := hid hn; have HR := hid hR
  rw [hS, hR]
  clear hS hn hR hs
  go_enter Tryz.func15, Tryz.ntmps15
  go_wp2_with fail
  go_loopw [3] (fun iv wr => ∃ (i : Nat), iv = .int .i64 i ∧ i ≤ n ∧ wr = w ∧ Hid (∀ j c, j < i → s[j]? = some c → okAt (j == 0) c = true)) (fun iv _ => n - (intOf iv).toNat)
  case atStart => exact ⟨0, rfl, Nat.zero_le _, rfl, hid fun j c hj _ => by omega⟩
  case round =>
    obtain ⟨i, rfl, hi, rfl, HA⟩ := hrel
    by_cases hlt : i < n
    · obtain ⟨c, hc⟩ : ∃ c, s[i]? = some c := ⟨_, List.getElem?_eq_getElem (by rw [HN.out]; exact hlt)⟩
      have hlti : (i : Int) < n := by omega
      have hi0 : (0 : Int) ≤ i := by omega
      have HC := hid hc
      have HLT := hid hlt
      have HOK := hid (ok_n c (i == 0))
      have HBAD : Hid (okAt (i == 0) c = false → R = false) := hid (fun h => by
        rw [← HR.out]
        cases ht : typ s with
        | false => rfl
        | true => rw [(typ_at.1 ht).2.2 i c HC.out] at h; cases h)
      have HGOOD : Hid (okAt (i == 0) c = true → ∀ j c, j < i + 1 → s[j]? = some c → okAt (j == 0) c = true) := hid (fun h j d hj hd => by
        by_cases hji : j = i
        · subst hji
          rw [HC.out] at hd
          obtain rfl := Option.some.inj hd
          exact h
        · exact HA.out j d (by omega) hd)
      obtain ⟨L, hL⟩ : ∃ L, isLet c = L := ⟨_, rfl⟩
      obtain ⟨D, hD⟩ : ∃ D, isDig c = D := ⟨_, rfl⟩
      have HLA := hid (letter_any c); have HDA := hid (digit_any c)
      rw [hL] at HLA HOK
      rw [hD] at HDA HOK
      obtain ⟨cn, hcn⟩ : ∃ cn, c.toNat = cn := ⟨_, rfl⟩
      have HCN := hid hcn
      rw [hcn] at HOK
      clear hlt hc hL hD hcn
      go_wp2_with (first
        | ((with_reducible refine K.atO (.index 9 _ _) ?_); refine wpL_valZ (by rfl) (.int .u8 (c.toNat : Int)) (exec_idxB _ _ rfl s HS.out i c HC.out _ rfl rfl rfl _) ?_)
        | fail)
      refine (HLA.out _).mono ?_
      rintro e w1 ⟨rfl, rfl⟩
      go_wp2_with (first
        | ((with_reducible refine K.atO (.index 9 _ _) ?_); refine wpL_valZ (by rfl) (.int .u8 (c.toNat : Int)) (exec_idxB _ _ rfl s HS.out i c HC.out _ rfl rfl rfl _) ?_)
        | fail)
      refine (HDA.out _).mono ?_
      rintro e w1 ⟨rfl, rfl⟩
      have hidx : ∀ w, (Instr.index 9 (.string S) (.int .i64 (i : Int))).run Tryz.prog w = .ok (.int .u8 (cn : Int)) w := fun w => by rw [← HS.out, ← HCN.out]; exact index_str s i c HC.out w
      have hcase : (i = 0 ∨ i ≠ 0) ∧ (cn = 45 ∨ cn ≠ 45) := ⟨by omega, by omega⟩
      cases L with
      | true =>
        go_wp2_with fail
        refine ⟨⟨i + 1, by go_num, HLT.out, trivial, hid (HGOOD.out (by rw [HOK.out]; rfl))⟩, ?_⟩
        have := HLT.out
        simp [intOf]; omega
      | false =>
        by_cases hi00 : i = 0
        · subst hi00
          obtain rfl := HBAD.out (by rw [HOK.out]; rfl)
          go_wp2_with fail
          go_ret
          exact ⟨rfl, rfl⟩
        · have hi1 : ¬ (i : Int) = 0 := by omega
          have hb : (i == 0) = false := by simp [hi00]
          cases D with
          | true =>
            go_wp2_with fail
            refine ⟨⟨i + 1, by go_num, HLT.out, trivial, hid (HGOOD.out (by rw [HOK.out, hb]; rfl))⟩, ?_⟩
            have := HLT.out
            simp [intOf]; omega
          | false =>
            by_cases h45 : cn = 45
            · subst h45
              go_wp2_with fail
              refine ⟨⟨i + 1, by go_num, HLT.out, trivial, hid (HGOOD.out (by rw [HOK.out, hb]; rfl))⟩, ?_⟩
              have := HLT.out
              simp [intOf]; omega
            · have h45i : ((cn : Int) != 45) = true := by simp; omega
              obtain rfl := HBAD.out (by rw [HOK.out, hb, decide_eq_false h45]; rfl)
              go_wp2_with fail
              go_ret
              exact ⟨rfl, rfl⟩
    · obtain rfl : i = n := by omega
      have hR : R = (decide (1 ≤ i) && decide (i ≤ 20)) := by
        rw [← HR.out, Bool.eq_iff_iff, typ_at, HN.out]
        simp only [Bool.and_eq_true, decide_eq_true_eq]
        constructor
        · rintro ⟨h1, h2, -⟩; exact ⟨h1, h2⟩
        · rintro ⟨h1, h2⟩
          exact ⟨h1, h2, fun j c hj => HA.out j c (by have := (List.getElem?_eq_some_iff.1 hj).1; rw [HN.out] at this; exact this) hj⟩
      by_cases h1 : 1 ≤ i
      · have h1i : (1 : Int) ≤ i := by omega
        by_cases h2 : i ≤ 20
        · have h2i : (i : Int) ≤ 20 := by omega
          rw [decide_eq_true h1, decide_eq_true h2] at hR
          subst hR
          clear hlt
          go_wp2_with fail
          go_ret
          exact ⟨rfl, rfl⟩
        · have h2i : ¬ (i : Int) ≤ 20 := by omega
          rw [decide_eq_true h1, decide_eq_false h2] at hR
          subst hR
          clear hlt
          go_wp2_with fail
          go_ret
          exact ⟨rfl, rfl⟩
      · have h1i : ¬ (1 : Int) ≤ i := by omega
        rw [decide_eq_false h1] at hR
        subst hR
        clear hlt
        go_wp2_with fail
        go_ret
        exact ⟨rfl, rfl⟩
end Go.Proofs.YtooodoacpdhbfaaGreatDoor.DN

namespace Go.Proofs.YtooodoacpdhbfaaGreatDoor.DN
set_option maxRecDepth 100000
open Go.RowKit K Go.Proofs.YtooodoacpdhbfaaGreatDoor.BE

theorem lo_n (c : UInt8) : lo c = if 65 ≤ c.toNat ∧ c.toNat ≤ 90 then c + 32 else c := by
  have := u8_all (fun c => lo c == if 65 ≤ c.toNat ∧ c.toNat ≤ 90 then c + 32 else c) (by decide +kernel) c
  simpa using this
set_option maxHeartbeats 8000000 in
theorem small_any (s : B) (hs : s.length ≤ 1048576) (w : World) : Calls Tryz.prog 33 #[.string (sb s)] w fun e w' => e = .returned (.string (sb (low s))) ∧ Fr No w w' := by
  obtain ⟨S, hS⟩ : ∃ S, sb s = S := ⟨_, rfl⟩
  obtain ⟨n, hn⟩ : ∃ n, s.length = n := ⟨_, rfl⟩
  have hsz : (S.size : Int) = n := by rw [← hS, sb_size, hn]
  have hni : (n : Int) ≤ 1048576 := by omega
  have HS := hid hS; have HN := hid hn
  rw [hS]
  clear hS hn hs
  go_enter Tryz.func33, Tryz.ntmps33
  go_wp2_with fail
  go_loopw [3, 4] (fun dv iv wr => ∃ (i : Nat), iv = .int .i64 i ∧ i ≤ n ∧ Hid (OwR 5 1 w wr dv i (u8s ((low s).take i)))) (fun _ iv _ => n - (intOf iv).toNat)
  case atStart => exact ⟨0, rfl, Nat.zero_le _, hid (owR_nil (Fr.refl _ _))⟩
  case round =>
    obtain ⟨i, rfl, hi, HO⟩ := hrel
    obtain ⟨va, vc, rfl⟩ := HO.out.1
    by_cases hlt : i < n
    · obtain ⟨c, hc⟩ : ∃ c, s[i]? = some c := ⟨_, List.getElem?_eq_getElem (by rw [HN.out]; exact hlt)⟩
      have hlti : (i : Int) < n := by omega
      have hi0 : (0 : Int) ≤ i := by omega
      have HC := hid hc
      have HLT := hid hlt
      have HNX : Hid (u8s ((low s).take (i + 1)) = u8s ((low s).take i) ++ [.int .u8 ((lo c).toNat : Int)]) := hid (by
        have hl : (low s)[i]? = some (lo c) := by simp [low, hc]
        rw [List.take_add_one, hl]
        simp [u8s])
      by_cases hup : 65 ≤ c.toNat ∧ c.toNat ≤ 90
      · have h1 : (65 : Int) ≤ (c.toNat : Int) := by omega
        have h2 : (c.toNat : Int) ≤ 90 := by omega
        have hlo : ((lo c).toNat : Int) = (c.toNat : Int) + 32 := by
          rw [lo_n, if_pos hup, UInt8.toNat_add]
          have : (32 : UInt8).toNat = 32 := rfl
          rw [this]
          omega
        rw [hlo] at HNX
        clear hup hlo hc hlt
        go_wp2_with (first
          | ((with_reducible refine K.atO (.index 9 _ _) ?_); refine wpL_valZ (by rfl) (.int .u8 (c.toNat : Int)) (exec_idxB _ _ rfl s HS.out i c HC.out _ rfl rfl rfl _) ?_)
          | ((with_reducible refine K.atO (.buildSlice 120 _ _) ?_); refine wpL_app1 rfl rfl _ _ _ 120 5 rfl rfl Tryz.underlying120 infoU rfl (by decide) (by decide) HO.out (.int .u8 ((c.toNat : Int) + 32)) [.int .u8 ((c.toNat : Int) + 32)] rfl rfl rfl (by simp [Value.oneCell']) (fun _ => rfl) (fun _ => rfl) (by omega) (by omega) ?_; intro q a4 c4 w4 HO4 HF4)
          | fail)
        refine ⟨⟨i + 1, by go_num, HLT.out, hid (by rw [HNX.out]; exact HO4.out)⟩, ?_⟩
        have := HLT.out
        simp [intOf]; omega
      · have hlo : lo c = c := by rw [lo_n, if_neg hup]
        rw [hlo] at HNX
        have hcase : c.toNat < 65 ∨ (65 ≤ c.toNat ∧ 90 < c.toNat) := by omega
        clear hup hlo hc hlt
        rcases hcase with h | ⟨h, h'⟩
        · have h1 : ¬ (65 : Int) ≤ (c.toNat : Int) := by omega
          clear h
          go_wp2_with (first
            | ((with_reducible refine K.atO (.index 9 _ _) ?_); refine wpL_valZ (by rfl) (.int .u8 (c.toNat : Int)) (exec_idxB _ _ rfl s HS.out i c HC.out _ rfl rfl rfl _) ?_)
            | ((with_reducible refine K.atO (.buildSlice 120 _ _) ?_); refine wpL_app1 rfl rfl _ _ _ 120 5 rfl rfl Tryz.underlying120 infoU rfl (by decide) (by decide) HO.out (.int .u8 (c.toNat : Int)) [.int .u8 (c.toNat : Int)] rfl rfl rfl (by simp [Value.oneCell']) (fun _ => rfl) (fun _ => rfl) (by omega) (by omega) ?_; intro q a4 c4 w4 HO4 HF4)
            | fail)
          refine ⟨⟨i + 1, by go_num, HLT.out, hid (by rw [HNX.out]; exact HO4.out)⟩, ?_⟩
          have := HLT.out
          simp [intOf]; omega
        · have h1 : (65 : Int) ≤ (c.toNat : Int) := by omega
          have h2 : ¬ (c.toNat : Int) ≤ 90 := by omega
          clear h h'
          go_wp2_with (first
            | ((with_reducible refine K.atO (.index 9 _ _) ?_); refine wpL_valZ (by rfl) (.int .u8 (c.toNat : Int)) (exec_idxB _ _ rfl s HS.out i c HC.out _ rfl rfl rfl _) ?_)
            | ((with_reducible refine K.atO (.buildSlice 120 _ _) ?_); refine wpL_app1 rfl rfl _ _ _ 120 5 rfl rfl Tryz.underlying120 infoU rfl (by decide) (by decide) HO.out (.int .u8 (c.toNat : Int)) [.int .u8 (c.toNat : Int)] rfl rfl rfl (by simp [Value.oneCell']) (fun _ => rfl) (fun _ => rfl) (by omega) (by omega) ?_; intro q a4 c4 w4 HO4 HF4)
            | fail)
          refine ⟨⟨i + 1, by go_num, HLT.out, hid (by rw [HNX.out]; exact HO4.out)⟩, ?_⟩
          have := HLT.out
          simp [intOf]; omega
    · obtain rfl : i = n := by omega
      have hall : (low s).take i = low s := List.take_of_length_le (by rw [low_length, HN.out]; exact Nat.le_refl _)
      have HO2 : Hid (OwR 5 1 w wr (.slice va i vc) (low s).length (u8s (low s))) := hid (by rw [low_length, HN.out]; have h := HO.out; rw [hall] at h; exact h)
      have HDEN := hid (owR_bytes HO2.out)
      clear hall hlt
      go_wp2_with (first
        | ((with_reducible refine K.atO (.convert _ 9 _) ?_); refine wpL_stringOf rfl _ _ _ _ rfl _ _ (low s) rfl HDEN.out Tryz.underlying120 Tryz.underlying5 Tryz.underlying9 ?_)
        | fail)
      go_ret
      exact ⟨rfl, HO.out.fr⟩
end Go.Proofs.YtooodoacpdhbfaaGreatDoor.DN

namespace Go.Proofs.YtooodoacpdhbfaaGreatDoor.SC
set_option maxRecDepth 100000
open Go.Proofs.YtooodoacpdhbfaaGreatDoor.BE Go.Proofs.YtooodoacpdhbfaaGreatDoor.DN

theorem puts_iff : ∀ (l : List Nat) (f : Set) (j : Nat), puts f l j = (f j || decide (j ∈ l))
  | [], f, j => by simp [puts]
  | i :: r, f, j => by
    have := puts_iff r (put f i) j
    unfold puts at this ⊢
    rw [List.foldl_cons, this]
    simp only [put, List.mem_cons, Bool.decide_or, Bool.or_assoc]
theorem nodup_rev {l : List Nat} (h : l.Nodup) : l.reverse.Nodup := by
  unfold List.Nodup at h ⊢
  rw [List.pairwise_reverse]
  exact h.imp fun h e => h e.symm
def good (s : Sch) (a : Atr) : Prop := ∃ i t, s.tyAt a.1 = some i ∧ s.tys[i]? = some t ∧ chkVals t a.2 = 0
def pos (s : Sch) (en : Ent) : List Nat := en.filterMap fun a => s.tyAt a.1
theorem chkAts_iff (s : Sch) : ∀ (en : Ent) (f : Set), (chkAts s f en).2 = 0 ↔ (∀ a ∈ en, good s a) ∧ (pos s en).Nodup ∧ ∀ i ∈ pos s en, f i = false
  | [], f => by simp [chkAts, pos]
  | a :: r, f => by
    unfold chkAts
    cases ht : s.tyAt a.1 with
    | none =>
      simp only []
      refine iff_of_false (by decide) ?_
      rintro ⟨h, -⟩
      obtain ⟨i, t, e, -⟩ := h a List.mem_cons_self
      rw [ht] at e; cases e
    | some i =>
      simp only []
      have hpos : pos s (a :: r) = i :: pos s r := by simp [pos, ht]
      rw [hpos]
      by_cases hf : f i = true
      · rw [if_pos hf]
        refine iff_of_false (by decide) ?_
        rintro ⟨-, -, h⟩
        rw [h i List.mem_cons_self] at hf; cases hf
      · rw [if_neg hf]
        have hff : f i = false := by simpa using hf
        cases hx : s.tys[i]? with
        | none =>
          simp only []
          refine iff_of_false (by decide) ?_
          rintro ⟨h, -⟩
          obtain ⟨i', t, e, e2, -⟩ := h a List.mem_cons_self
          rw [ht] at e; cases e
          rw [hx] at e2; cases e2
        | some t =>
          simp only []
          by_cases hc : chkVals t a.2 = 0
          · rw [if_pos hc, chkAts_iff s r (put f i), List.nodup_cons]
            constructor
            · rintro ⟨h1, h2, h3⟩
              refine ⟨fun b hb => ?_, ⟨fun hm => ?_, h2⟩, fun j hj => ?_⟩
              · rcases List.mem_cons.1 hb with rfl | hb
                · exact ⟨i, t, ht, hx, hc⟩
                · exact h1 b hb
              · have := h3 i hm
                simp [put] at this
              · rcases List.mem_cons.1 hj with rfl | hj
                · exact hff
                · have := h3 j hj
                  simp only [put, Bool.or_eq_false_iff] at this
                  exact this.1
            · rintro ⟨h1, ⟨h2, h3⟩, h4⟩
              refine ⟨fun b hb => h1 b (List.mem_cons_of_mem _ hb), h3, fun j hj => ?_⟩
              have hji : j ≠ i := fun e => h2 (e ▸ hj)
              simp [put, h4 j (List.mem_cons_of_mem _ hj), hji]
          · rw [if_neg hc]
            refine iff_of_false hc ?_
            rintro ⟨h, -⟩
            obtain ⟨i', t', e, e2, e3⟩ := h a List.mem_cons_self
            rw [ht] at e; cases e
            rw [hx] at e2; cases e2
            exact hc e3
theorem chkAts_set (s : Sch) : ∀ (en : Ent) (f : Set), (chkAts s f en).2 = 0 → (chkAts s f en).1 = puts f (pos s en)
  | [], _, _ => rfl
  | a :: r, f, h => by
    obtain ⟨h1, h2, h3⟩ := (chkAts_iff s (a :: r) f).1 h
    obtain ⟨i, t, e1, e2, e3⟩ := h1 a List.mem_cons_self
    have hpos : pos s (a :: r) = i :: pos s r := by simp [pos, e1]
    have hf : f i = false := h3 i (by rw [hpos]; exact List.mem_cons_self)
    have hstep : chkAts s f (a :: r) = chkAts s (put f i) r := by
      rw [chkAts, e1]
      simp only [hf, e2, e3, Bool.false_eq_true, if_false, if_true]
    rw [hstep] at h ⊢
    rw [chkAts_set s r _ h, hpos]
    rfl
/-- Of the entry at most one attribute is of a type. -/
theorem find_mid {α : Type} (p : α → Bool) (l1 l2 : List α) (a : α) (h : p a = true) (h1 : ∀ x ∈ l1, p x = false) : (l1 ++ a :: l2).find? p = some a := by
  rw [List.find?_append]
  have : l1.find? p = none := List.find?_eq_none.2 fun x hx => by simp [h1 x hx]
  rw [this, List.find?_cons_of_pos h]
  rfl
theorem classesOf_back {s : Sch} {en : Ent} (hn : (pos s en).Nodup) : classesOf s en.reverse = classesOf s en := by
  unfold classesOf
  cases h : en.find? (fun a => decide (s.tyAt a.1 = some 0)) with
  | none =>
    rw [List.find?_eq_none] at h
    rw [List.find?_eq_none.2 fun x hx => h x (List.mem_reverse.1 hx)]
  | some a =>
    obtain ⟨hp, l1, l2, rfl, h1⟩ := List.find?_eq_some_iff_append.1 h
    have ha : s.tyAt a.1 = some 0 := by simpa using hp
    rw [List.reverse_append, List.reverse_cons, List.append_assoc, List.singleton_append]
    rw [find_mid (fun a : Atr => decide (s.tyAt a.1 = some 0)) l2.reverse l1.reverse a hp]
    intro x hx
    rw [decide_eq_false_iff_not]
    intro hx0
    have hpos : pos s (l1 ++ a :: l2) = pos s l1 ++ 0 :: pos s l2 := by simp [pos, ha]
    rw [hpos, List.nodup_append] at hn
    have h2 := (List.nodup_cons.1 hn.2.1).1
    exact h2 (List.mem_filterMap.2 ⟨x, List.mem_reverse.1 hx, hx0⟩)
theorem check_iff {s : Sch} {en : Ent} : check s en = 0 ↔ (chkAts s none_ en).2 = 0 ∧ (classesOf s en).2 = true ∧ chain s (classesOf s en).1 = true ∧ okMust s (chkAts s none_ en).1 (classesOf s en).1 = true ∧ okMayF s (chkAts s none_ en).1 (classesOf s en).1 0 s.tys = true := by
  unfold check chkTys
  by_cases h1 : (chkAts s none_ en).2 = 0
  · rw [if_pos h1]
    by_cases h2 : (classesOf s en).2 = true
    · by_cases h3 : chain s (classesOf s en).1 = true
      · rw [h2, h3, Bool.and_true, if_pos rfl]
        by_cases h4 : okMust s (chkAts s none_ en).1 (classesOf s en).1 = true
        · rw [if_pos h4]
          by_cases h5 : okMayF s (chkAts s none_ en).1 (classesOf s en).1 0 s.tys = true
          · rw [if_pos h5]; simp [h1, h4, h5]
          · rw [if_neg h5]; simp [h5]
        · rw [if_neg h4]; simp [h4]
      · simp [h3]
    · simp [h2]
  · rw [if_neg h1]; simp [h1]
theorem check_back {s : Sch} {en : Ent} (h : check s en = 0) : check s en.reverse = 0 := by
  obtain ⟨h1, h2, h3, h4, h5⟩ := check_iff.1 h
  obtain ⟨g1, g2, g3⟩ := (chkAts_iff s en none_).1 h1
  have hpr : pos s en.reverse = (pos s en).reverse := by simp [pos, List.filterMap_reverse]
  have hr : (chkAts s none_ en.reverse).2 = 0 := (chkAts_iff s en.reverse none_).2 ⟨fun a ha => g1 a (List.mem_reverse.1 ha), by rw [hpr]; exact nodup_rev g2, fun _ _ => rfl⟩
  have hs : (chkAts s none_ en.reverse).1 = (chkAts s none_ en).1 := by
    rw [chkAts_set _ _ _ hr, chkAts_set _ _ _ h1, hpr]
    funext j
    simp [puts_iff]
  rw [check_iff, hs, classesOf_back g2]
  exact ⟨hr, h2, h3, h4, h5⟩
theorem okMust_more {s : Sch} {pr pr' f : Set} (h : okMust s pr f = true) (hm : ∀ i, pr i = true → pr' i = true) : okMust s pr' f = true := by
  unfold okMust at h ⊢
  rw [List.all_eq_true] at h ⊢
  intro i hi
  have := h i hi
  cases hp : pr i with
  | true => simp [hm i hp]
  | false =>
    rw [hp] at this
    simp at this
    simp [this]
theorem okMay_more {s : Sch} {pr pr' f : Set} : ∀ (l : List Ty) (i : Nat), okMayF s pr f i l = true → (∀ j t, l[j]? = some t → pr' (i + j) = true → pr (i + j) = true ∨ t.sys = true) → okMayF s pr' f i l = true
  | [], _, _, _ => rfl
  | t :: r, i, h, hm => by
    simp only [okMayF, Bool.and_eq_true] at h ⊢
    refine ⟨?_, okMay_more r (i + 1) h.2 fun j t' hj => by
      have := hm (j + 1) t' (by simpa using hj)
      rwa [show i + (j + 1) = i + 1 + j by omega] at this⟩
    have h1 := h.1
    unfold okMay1 at h1 ⊢
    cases hp : pr' i with
    | false => simp
    | true =>
      rcases hm 0 t rfl (by simpa using hp) with h2 | h2
      · rw [Nat.add_zero] at h2
        rw [h2] at h1
        exact h1
      · simp [h2]
theorem check_more {s : Sch} {en : Ent} {n v : B} {i : Nat} {t : Ty} (h : check s en = 0) (ht : s.tyAt n = some i) (hx : s.tys[i]? = some t) (hs : t.sys = true) (hv : (normV t.syn v).isSome = true) (h0 : i ≠ 0) (hnew : ∀ a ∈ en, low a.1 ≠ low n) (hfn : ∀ m, s.tyAt m = some i → low m = low n) :
    check s (en ++ [(n, [v])]) = 0 := by
  obtain ⟨h1, h2, h3, h4, h5⟩ := check_iff.1 h
  obtain ⟨g1, g2, g3⟩ := (chkAts_iff s en none_).1 h1
  have hpa : pos s (en ++ [(n, [v])]) = pos s en ++ [i] := by simp [pos, ht]
  have hni : i ∉ pos s en := fun hm => by
    obtain ⟨a, ha, e⟩ := List.mem_filterMap.1 hm
    exact hnew a ha (hfn _ e)
  have hcv : chkVals t [v] = 0 := by
    unfold chkVals
    rw [if_neg (by simp)]
    obtain ⟨x, hx⟩ := Option.isSome_iff_exists.1 hv
    have : okVals t.syn [] [v] = true := by simp [okVals, hx]
    rw [if_pos this, if_neg (by simp)]
  have hr : (chkAts s none_ (en ++ [(n, [v])])).2 = 0 := (chkAts_iff s _ none_).2 ⟨fun a ha => by
      rcases List.mem_append.1 ha with ha | ha
      · exact g1 a ha
      · obtain rfl := List.mem_singleton.1 ha
        exact ⟨i, t, ht, hx, hcv⟩, by
      rw [hpa, List.nodup_append]
      exact ⟨g2, by simp, fun a ha b hb e => hni (by rw [List.mem_singleton] at hb; rw [← hb, ← e]; exact ha)⟩, fun _ _ => rfl⟩
  have hset : (chkAts s none_ (en ++ [(n, [v])])).1 = put (chkAts s none_ en).1 i := by
    rw [chkAts_set _ _ _ hr, chkAts_set _ _ _ h1, hpa]
    unfold puts
    rw [List.foldl_append]
    rfl
  have hcl : classesOf s (en ++ [(n, [v])]) = classesOf s en := by
    unfold classesOf
    rw [List.find?_append]
    have : List.find? (fun a : Atr => decide (s.tyAt a.1 = some 0)) [(n, [v])] = none := by
      rw [List.find?_eq_none]
      intro a ha
      obtain rfl := List.mem_singleton.1 ha
      simp [ht, h0]
    rw [this, Option.or_none]
  rw [check_iff, hset, hcl]
  refine ⟨hr, h2, h3, okMust_more h4 fun j hj => by simp [put, hj], okMay_more s.tys 0 h5 fun j t' hj hp => ?_⟩
  simp only [Nat.zero_add, put, Bool.or_eq_true, decide_eq_true_eq] at hp ⊢
  rcases hp with hp | rfl
  · exact .inl hp
  · rw [hx] at hj
    cases hj
    exact .inr hs
theorem fnd_low {L : List B} {s t : B} {i : Nat} (h : fnd L s = some i) (k : fnd L t = some i) : low s = low t := by
  unfold fnd at h k
  rw [List.findIdx?_eq_some_iff_getElem] at h k
  obtain ⟨hl, e, -⟩ := h
  obtain ⟨_, e2, -⟩ := k
  rw [beq_iff_eq] at e e2
  exact e.symm.trans e2
end Go.Proofs.YtooodoacpdhbfaaGreatDoor.SC
