/-
  The document's Feed.
-/
import Derived.Test.YtoikiokcpakokaaFrF
import Derived.Test.YtoikiokcpakokaaBf9
set_option linter.unusedVariables false
set_option linter.unusedSimpArgs false
namespace Go.Proofs.Ytoikiokcpakokaa.FR
set_option maxRecDepth 100000
open Go.RowKit K Go.Proofs.Ytoikiokcpakokaa.BE

/-- The document's Frames lies in block b. -/
def RfAt (w : World) (b : Nat) (f : Fs) : Prop := Blk w b 28 [.string (sb f.wait), .bool f.dead]
def strLen : Value → Nat
  | .string s => s.size
  | _ => 0
theorem strLen_sb (l : B) : strLen (.string (sb l)) = l.length := sb_size l
/-- What the document's Feed leaves. -/
def RFeeds (b : Nat) (f : Fs) (c : B) (w : World) (e : Ending) (w' : World) : Prop :=
  ∃ v, e = .returned (.tuple #[v, .int .i64 (fdE f c : Int)]) ∧ TxIn w' (fun k => w.heap.size ≤ k) v (fdF f c) ∧ RfAt w' b (fdS f c) ∧ Fr (fun k => k = b) w w'
theorem fin_dead {b k e : Nat} {q c rest : B} {fs : List B} {r : Option B} {v : Value} {w w2 w' : World} (hcut : cut (q ++ c) = (fs, r)) (hk : k ≤ fs.length) (hcr : cut rest = (fs.drop k, r)) (hz : szF rest = .error e) (he : e ≠ 92)
    (ho : w2.ownsRow w.heap.size 9 1 v k (strs (fs.take k))) (hb : b < w.heap.size) (hf : Fr No w w2) (hf' : Fr (fun i => i = b) w2 w') (hR : RfAt w' b ⟨[], true⟩) : RFeeds b ⟨q, false⟩ c w (.returned (.tuple #[v, .int .i64 100])) w' := by
  rw [cut_bad hz he] at hcr
  simp only [Prod.mk.injEq] at hcr
  obtain ⟨h1, h2⟩ := hcr
  have h3 := List.drop_eq_nil_iff.1 h1.symm
  obtain rfl : k = fs.length := by omega
  rw [List.take_length] at ho
  rw [← h2] at hcut
  obtain ⟨f1, f2, f3⟩ := fd_none hcut
  refine ⟨v, by rw [f1]; rfl, ?_, by rw [f3]; exact hR, (hf.no (D := fun i => i = b)).trans' hf'⟩
  rw [f2]
  exact own_tx (own_fr2 ho hf' fun i hi e => by have e : i = b := e; omega)
theorem fin_wait {b k : Nat} {q c rest : B} {fs : List B} {r : Option B} {v : Value} {w w2 w' : World} (hcut : cut (q ++ c) = (fs, r)) (hk : k ≤ fs.length) (hcr : cut rest = (fs.drop k, r)) (hz : szF rest = .error 92)
    (ho : w2.ownsRow w.heap.size 9 1 v k (strs (fs.take k))) (hb : b < w.heap.size) (hf : Fr No w w2) (hf' : Fr (fun i => i = b) w2 w') (hR : RfAt w' b ⟨rest, false⟩) : RFeeds b ⟨q, false⟩ c w (.returned (.tuple #[v, .int .i64 0])) w' := by
  rw [cut_wait hz] at hcr
  simp only [Prod.mk.injEq] at hcr
  obtain ⟨h1, h2⟩ := hcr
  have h3 := List.drop_eq_nil_iff.1 h1.symm
  obtain rfl : k = fs.length := by omega
  rw [List.take_length] at ho
  rw [← h2] at hcut
  obtain ⟨f1, f2, f3⟩ := fd_some hcut
  refine ⟨v, by rw [f1]; rfl, ?_, by rw [f3]; exact hR, (hf.no (D := fun i => i = b)).trans' hf'⟩
  rw [f2]
  exact own_tx (own_fr2 ho hf' fun i hi e => by have e : i = b := e; omega)
set_option maxHeartbeats 16000000 in
theorem rfeed_any (b : Nat) (f : Fs) (c : B) (w : World) (h : RfAt w b f) (hl : f.wait.length + c.length ≤ 1099511627776) : Calls Try.prog 10 #[.pointer (some ⟨b, 0, none⟩), .string (sb c)] w (RFeeds b f c w) := by
  have HB := hid h; have HL := hid hl
  have HBW := hid h.lt
  obtain ⟨is, his, hzs, hss, hbs⟩ := Go.info_parts infoS3
  have HIS := hid his; have HZS := hid hzs; have HSS := hid hss; have HBS := hid hbs
  obtain ⟨q, d⟩ := f
  have cw : w.cell? ⟨b, 0, none⟩ = some (.string (sb q)) := h.cell 0
  have cd : w.cell? ⟨b, 1, none⟩ = some (.bool d) := h.cell 1
  clear h hl his hzs hss hbs
  cases d with
  | true =>
    go_enter Try.func10, Try.ntmps10
    go_wp2_with fail
    go_ret2
    exact ⟨_, rfl, tx_nil _ _ _ _, HB.out, Fr.refl _ _⟩
  | false =>
    obtain ⟨S, hS⟩ : ∃ S, q ++ c = S := ⟨_, rfl⟩
    have HSQ := hid hS
    clear hS
    have hlS : S.length ≤ 1099511627776 := by rw [← HSQ.out, List.length_append]; exact HL.out
    have HLS := hid hlS
    obtain ⟨⟨fs, r⟩, hcut⟩ : ∃ x, cut S = x := ⟨_, rfl⟩
    have HCUT := hid hcut
    have HFS := hid (show 2 * fs.length ≤ S.length by have := (cut_count S).1; rw [hcut] at this; exact this)
    have HI0 : Hid (w.ownsRow w.heap.size 9 1 (.slice none 0 0) 0 (strs (fs.take 0)) ∧ 0 ≤ fs.length ∧ cut S = (fs.drop 0, r) ∧ S.length ≤ S.length ∧ RfAt w b ⟨q, false⟩ ∧ Fr No w w) :=
      hid ⟨World.ownsRow_nil _ _ _ _, Nat.zero_le _, hcut, Nat.le_refl _, HB.out, Fr.refl _ _⟩
    clear hlS hcut
    go_enter Try.func10, Try.ntmps10
    go_wp2_with (first
      | ((with_reducible show wpList _ _ _ (⟨_, .binOp .add 9 _ _ _, _, _, _, _⟩ :: _) _ _); refine wpL_valZ (by rfl) (.string (sb S)) (exec_addS _ _ _ rfl q c rfl rfl (by have := HL.out; simp only at this; omega) S HSQ.out _) ?_)
      | fail)
    go_loopw [6, 7] (fun sv lv wr => ∃ (k : Nat) (rest : B) (va : Option Addr) (vc : Nat), sv = .string (sb rest) ∧ lv = .slice va k vc ∧ Hid (wr.ownsRow w.heap.size 9 1 (.slice va k vc) k (strs (fs.take k)) ∧ k ≤ fs.length ∧ cut rest = (fs.drop k, r) ∧ rest.length ≤ S.length ∧ RfAt wr b ⟨q, false⟩ ∧ Fr No w wr)) (fun sv lv _ => strLen sv)
    case atStart => exact ⟨0, S, none, 0, rfl, rfl, HI0⟩
    case round =>
      clear HI0 cw cd
      obtain ⟨k, rest, va, vc, rfl, rfl, HI⟩ := hrel
      obtain ⟨n, hn⟩ : ∃ n, rest.length = n := ⟨_, rfl⟩
      have hsz : ((sb rest).size : Int) = n := by rw [sb_size, hn]
      have HN := hid hn
      have hnl : (n : Int) ≤ 1099511627776 := by have := HI.out.2.2.2.1; have := HLS.out; omega
      clear hn
      have cwr : wr.cell? ⟨b, 0, none⟩ = some (.string (sb q)) := HI.out.2.2.2.2.1.cell 0
      cases hrest : rest with
      | nil =>
        subst hrest
        have hn0 : n = 0 := by rw [← HN.out]; rfl
        subst hn0
        have hcr := HI.out.2.2.1
        rw [cut_nil] at hcr
        simp only [Prod.mk.injEq] at hcr
        have HRN : Hid (r = some []) := hid hcr.2.symm
        have HKE : Hid (k = fs.length) := hid (by have h := hcr.1; have h2 := HI.out.2.1; have := List.drop_eq_nil_iff.1 h.symm; omega)
        clear hcr
        go_wp2_with (first
          | ((with_reducible show wpList _ _ _ (⟨_, .store 9 _ _, _, _, _, _⟩ :: _) _ _); refine wpL_setV rfl _ _ _ rfl b 0 (.string ⟨#[]⟩) rfl rfl rfl rfl _ _ HI.out.2.2.2.2.1 (by simp) infoS ?_; intro w2 HB2 F2 HS2)
          | fail)
        go_ret2
        obtain ⟨f1, f2, f3⟩ := fd_some (q := q) (c := c) (r := []) (fs := fs) (by rw [HSQ.out, HCUT.out, HRN.out])
        have ho := HI.out.1
        rw [HKE.out, List.take_length] at ho
        refine ⟨.slice va k vc, by rw [f1]; rfl, ?_, ?_, ?_⟩
        · rw [f2]
          rw [HKE.out]
          exact own_tx (own_fr2 ho F2.out fun i hi e => by have e : i = b := e; have := HBW.out; omega)
        · rw [f3]; exact HB2.out
        · exact (HI.out.2.2.2.2.2.no (D := fun i => i = b)).trans' F2.out
      | cons t q' =>
        have hn1 : (1 : Int) ≤ n := by rw [← HN.out, hrest]; simp; omega
        have H0 : Hid (rest[0]? = some t) := hid (by rw [hrest]; rfl)
        have HSZ : Hid (szF rest = if t.toNat = 48 then match hdS rest with
          | .error e => .error e
          | .ok (_, c, h) => if n < h + c then .error 92 else .ok (h + c)
          else .error 100) := hid (by rw [← HN.out, hrest]; rfl)
        obtain ⟨tn, htn⟩ : ∃ tn, t.toNat = tn := ⟨_, rfl⟩
        have HTN := hid htn
        rw [← hrest]
        clear hrest htn
        have hidx : ∀ (op : Oper) (a : Act) (x y : Operand), op.op = .index 9 x y → a.eval x = .string (sb rest) → a.eval y = .int .i64 0 → ∀ W, (execOp a.eval op).run Try.prog W = .ok (.value (.int .u8 (tn : Int))) W := fun op a x y ho hx hy W => by rw [← HTN.out]; exact exec_idx x y ho rest 0 t H0.out 0 rfl hx hy W
        have HIX := hid hidx
        clear hidx
        have hn0 : (0 : Int) < n := by omega
        go_wp2_with fail
        refine (docHead_any rest wr (by have := HI.out.2.2.2.1; have := HLS.out; omega)).mono ?_
        rintro e w2 ⟨rfl, f2⟩
        have HF2 := hid f2
        have HO2 := hid (own_fr2 (D := No) HI.out.1 f2 fun i _ e => e)
        have HB2 : Hid (RfAt w2 b ⟨q, false⟩) := hid (HI.out.2.2.2.2.1.fr f2 id)
        clear f2 cwr
        have cw2 : w2.cell? ⟨b, 0, none⟩ = some (.string (sb q)) := HB2.out.cell 0
        by_cases h48 : tn = 48
        · subst h48
          cases hd : hdS rest with
          | error e =>
            have he0 := hd_pos hd
            have HZ : Hid (szF rest = .error e) := hid (by rw [HSZ.out, HTN.out, if_pos rfl, hd])
            rw [show headN rest = (0, 0, 0, e) by unfold headN; rw [hd]]
            show (match Ending.returned (Value.tuple #[.int .i64 0, .int .i64 0, .int .i64 0, .int .i64 (e : Int)]), w2 with | _, _ => _)
            by_cases he : e = 92
            · subst he
              clear he0 hd
              go_wp2_with (first
                | ((with_reducible show wpList _ _ _ (⟨_, .index 9 _ _, _, _, _, _⟩ :: _) _ _); refine wpL_valZ (by rfl) (.int .u8 48) (HIX.out _ _ _ _ rfl rfl rfl _) ?_)
                | ((with_reducible show wpList _ _ _ (⟨_, .store 9 _ _, _, _, _, _⟩ :: _) _ _); refine wpL_setV rfl _ _ _ rfl b 0 (.string (sb rest)) rfl rfl rfl rfl _ _ HB2.out (by simp) infoS ?_; intro w3 HB3 F3 HS3)
                | fail)
              go_ret2
              exact fin_wait (by rw [HSQ.out]; exact HCUT.out) HI.out.2.1 HI.out.2.2.1 HZ.out HO2.out HBW.out (HI.out.2.2.2.2.2.trans' HF2.out) F3.out HB3.out
            · have he9 : ((e : Int) == 92) = false := by simp; omega
              have hei : ((e : Int) == 0) = false := by simp; omega
              have hee : (((e : Int) != 0) && ((e : Int) != 92)) = true := by simp; omega
              have he9n : ¬ (e : Int) = 92 := by omega
              have hein : ¬ (e : Int) = 0 := by omega
              have HE := hid he
              clear he he0 hd
              go_wp2_with (first
                | ((with_reducible show wpList _ _ _ (⟨_, .index 9 _ _, _, _, _, _⟩ :: _) _ _); refine wpL_valZ (by rfl) (.int .u8 48) (HIX.out _ _ _ _ rfl rfl rfl _) ?_)
                | ((with_reducible show wpList _ _ _ (⟨_, .store 9 _ _, _, _, _, _⟩ :: _) _ _); refine wpL_setV rfl _ _ _ rfl b 0 (.string ⟨#[]⟩) rfl rfl rfl rfl _ _ HB2.out (by simp) infoS ?_; intro w3 HB3 F3 HS3)
                | ((with_reducible show wpList _ _ _ (⟨_, .store 4 _ _, _, _, _, _⟩ :: _) _ _); refine wpL_setV rfl _ _ _ rfl b 1 (.bool true) rfl rfl rfl rfl _ _ HB3.out (by simp) infoB4 ?_; intro w4 HB4 F4 HS4)
                | fail)
              go_ret2
              exact fin_dead (by rw [HSQ.out]; exact HCUT.out) HI.out.2.1 HI.out.2.2.1 HZ.out HE.out HO2.out HBW.out (HI.out.2.2.2.2.2.trans' HF2.out) (F3.out.trans' F4.out) HB4.out
          | ok p =>
            obtain ⟨tt, cc, h⟩ := p
            obtain ⟨bb, _, _, hc4, hh, _⟩ := hd_inv hd
            have hlp := len_pos cc
            have hh4 : h ≤ 4 := by omega
            have hz : szF rest = if n < h + cc then .error 92 else .ok (h + cc) := by rw [HSZ.out, HTN.out, if_pos rfl, hd]
            rw [show headN rest = (tt, cc, h, 0) by unfold headN; rw [hd]]
            obtain ⟨m, hm⟩ : ∃ m : Nat, m = h + cc := ⟨_, rfl⟩
            have hmi : (h : Int) + (cc : Int) = (m : Int) := by omega
            rw [← hm] at hz
            have hc4i : (cc : Int) ≤ 4000 := by omega
            have hh4i : (h : Int) ≤ 4 := by omega
            clear hd hlp hh hh4 hc4 hm
            show (match Ending.returned (Value.tuple #[.int .i64 (tt : Int), .int .i64 (cc : Int), .int .i64 (h : Int), .int .i64 0]), w2 with | _, _ => _)
            by_cases hlt : n < m
            · have hlti : (n : Int) < (m : Int) := by omega
              rw [if_pos hlt] at hz
              have HZ := hid hz
              clear hz hlt
              go_wp2_with (first
                | ((with_reducible show wpList _ _ _ (⟨_, .index 9 _ _, _, _, _, _⟩ :: _) _ _); refine wpL_valZ (by rfl) (.int .u8 48) (HIX.out _ _ _ _ rfl rfl rfl _) ?_)
                | ((with_reducible show wpList _ _ _ (⟨_, .store 9 _ _, _, _, _, _⟩ :: _) _ _); refine wpL_setV rfl _ _ _ rfl b 0 (.string (sb rest)) rfl rfl rfl rfl _ _ HB2.out (by simp) infoS ?_; intro w3 HB3 F3 HS3)
                | fail)
              go_ret2
              exact fin_wait (by rw [HSQ.out]; exact HCUT.out) HI.out.2.1 HI.out.2.2.1 HZ.out HO2.out HBW.out (HI.out.2.2.2.2.2.trans' HF2.out) F3.out HB3.out
            · have hlti : (m : Int) ≤ (n : Int) := by omega
              rw [if_neg hlt] at hz
              obtain ⟨hm2, hml, -⟩ := sz_ok hz
              have hcr := HI.out.2.2.1
              rw [cut_ok hz] at hcr
              simp only [Prod.mk.injEq] at hcr
              have hkf : k < fs.length := by
                rcases Nat.lt_or_ge k fs.length with h1 | h1
                · exact h1
                · rw [List.drop_eq_nil_iff.2 h1] at hcr; cases hcr.1
              obtain ⟨F, hF⟩ : ∃ F, rest.take m = F := ⟨_, rfl⟩
              obtain ⟨R', hR'⟩ : ∃ R', rest.drop m = R' := ⟨_, rfl⟩
              rw [hF, hR', List.drop_eq_getElem_cons hkf, List.cons.injEq] at hcr
              have HF := hid hF; have HR' := hid hR'; have HM := hid (show 2 ≤ m ∧ m ≤ rest.length from ⟨hm2, hml⟩)
              have HCR := hid (show cut R' = (fs.drop (k + 1), r) by rw [← hcr.1.2, ← hcr.2])
              have HFS2 : Hid (fs.take k ++ [F] = fs.take (k + 1)) := hid (by rw [List.take_succ_eq_append_getElem hkf, hcr.1.1])
              have HKF := hid hkf
              have hki : (k : Int) ≤ 1099511627776 := by have := HFS.out; have := HLS.out; omega
              obtain ⟨SF, hSF⟩ : ∃ SF, sb F = SF := ⟨_, rfl⟩
              have HSF := hid hSF
              clear hz hlt hm2 hml hcr hkf hF hR' hSF
              go_wp2_with (first
                | ((with_reducible show wpList _ _ _ (⟨_, .index 9 _ _, _, _, _, _⟩ :: _) _ _); refine wpL_valZ (by rfl) (.int .u8 48) (HIX.out _ _ _ _ rfl rfl rfl _) ?_)
                | ((with_reducible show wpList _ _ _ (⟨_, .slice 9 _ _ _ _, _, _, _, _⟩ :: _) _ _); refine wpL_valZ (by rfl) (.string SF) (by rw [← HSF.out]; exact exec_to _ _ rfl rest m rfl rfl HM.out.2 F HF.out _) ?_)
                | ((with_reducible show wpList _ _ _ (⟨_, .slice 9 _ _ _ _, _, _, _, _⟩ :: _) _ _); refine wpL_valZ (by rfl) (.string (sb R')) (exec_from _ _ rfl rest m rfl rfl HM.out.2 R' HR'.out _) ?_)
                | ((with_reducible show wpList _ _ _ (⟨_, .buildSlice 22 _ _, _, _, _, _⟩ :: _) _ _); refine wpL_buildOne rfl _ 9 _ rfl is _ rfl HIS.out HZS.out (by rw [HSS.out]; decide) (by rw [HSS.out]; decide) _ [.string SF] rfl rfl (by rw [HSS.out]; rfl) ?_; intro w3 HA3 FA3 SA3)
                | ((with_reducible show wpList _ _ _ (⟨_, .call { callee := .builtin .append, args := _, argTypes := _ }, _, _, _, _⟩ :: _) _ _); refine wpL_append rfl _ _ 22 rfl w.heap.size 9 is _ 1 16 Try.underlying22 HIS.out HZS.out HSS.out HBS.out rfl (by decide) (.slice va k vc) k (strs (fs.take k)) rfl (own_fr2 HO2.out FA3.out (fun _ _ e => e)) (some ⟨w2.heap.size, 0, none⟩) 1 _ [.string SF] rfl rfl (.inr ⟨_, rfl, HA3.out.news⟩) (by intro u hu; simp at hu; subst hu; rfl) (by unfold maxLen; omega) (by omega) (Nat.le_trans (HI.out.2.2.2.2.2.trans' HF2.out).size FA3.out.size) ?_; intro a4 c4 w4 HO4 HG4 HA4)
                | fail)
              go_roundw
              case rel =>
                have hfr : Fr (fun i => w.heap.size ≤ i) w2 w4 := FA3.out.no.trans' ((frown HG4.out).mono fun i e => (own_ge HO2.out i e).1)
                refine ⟨k + 1, R', a4, c4, rfl, rfl, hid ⟨?_, HKF.out, HCR.out, ?_, ?_, ?_⟩⟩
                · have ho := HO4.out
                  rw [← HSF.out] at ho
                  rw [← HFS2.out]
                  simpa [strs] using ho
                · rw [← HR'.out, List.length_drop]
                  have := HI.out.2.2.2.1
                  omega
                · exact HB2.out.fr hfr (by have := HBW.out; omega)
                · exact (HI.out.2.2.2.2.2.trans' HF2.out).trans hfr fun i e => .inr e
              case measure =>
                rw [strLen_sb, strLen_sb, ← HR'.out, List.length_drop]
                have := HM.out
                omega
        · have h48i : ((tn : Int) == 48) = false := by simp; omega
          have h48n : ¬ (tn : Int) = 48 := by omega
          have HZ : Hid (szF rest = .error 100) := hid (by rw [HSZ.out, HTN.out, if_neg h48])
          obtain ⟨⟨x1, x2, x3, x4⟩, hX⟩ : ∃ X, headN rest = X := ⟨_, rfl⟩
          rw [hX]
          clear h48 hX
          show (match Ending.returned (Value.tuple #[.int .i64 (x1 : Int), .int .i64 (x2 : Int), .int .i64 (x3 : Int), .int .i64 (x4 : Int)]), w2 with | _, _ => _)
          go_wp2_with (first
            | ((with_reducible show wpList _ _ _ (⟨_, .index 9 _ _, _, _, _, _⟩ :: _) _ _); refine wpL_valZ (by rfl) (.int .u8 (tn : Int)) (HIX.out _ _ _ _ rfl rfl rfl _) ?_)
            | ((with_reducible show wpList _ _ _ (⟨_, .store 9 _ _, _, _, _, _⟩ :: _) _ _); refine wpL_setV rfl _ _ _ rfl b 0 (.string ⟨#[]⟩) rfl rfl rfl rfl _ _ HB2.out (by simp) infoS ?_; intro w3 HB3 F3 HS3)
            | ((with_reducible show wpList _ _ _ (⟨_, .store 4 _ _, _, _, _, _⟩ :: _) _ _); refine wpL_setV rfl _ _ _ rfl b 1 (.bool true) rfl rfl rfl rfl _ _ HB3.out (by simp) infoB4 ?_; intro w4 HB4 F4 HS4)
            | fail)
          go_ret2
          exact fin_dead (by rw [HSQ.out]; exact HCUT.out) HI.out.2.1 HI.out.2.2.1 HZ.out (by decide) HO2.out HBW.out (HI.out.2.2.2.2.2.trans' HF2.out) (F3.out.trans' F4.out) HB4.out
end Go.Proofs.Ytoikiokcpakokaa.FR
