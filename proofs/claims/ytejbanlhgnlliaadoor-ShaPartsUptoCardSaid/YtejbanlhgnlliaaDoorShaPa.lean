/-
  The law ShaParts.
-/
import Derived.Test.YtejbanlhgnlliaaDoorShaKe
import Derived.Test.YtejbanlhgnlliaaDoorShaAr
namespace Go.Proofs.YtejbanlhgnlliaaDoor.SH
set_option maxRecDepth 100000
open Go.RowKit K AR R

/-- What the first j parts are. -/
def parts (ps : List (List UInt8)) (j : Nat) : List UInt8 := (ps.take j).flatten
theorem parts_next (ps : List (List UInt8)) {j : Nat} (h : j < ps.length) : parts ps j ++ ps[j] = parts ps (j + 1) := by
  unfold parts
  rw [List.take_succ_eq_append_getElem h, List.flatten_append]
  simp
theorem parts_le (ps : List (List UInt8)) (j : Nat) : (parts ps j).length ≤ (ps.map List.length).sum := by
  unfold parts
  rw [List.length_flatten]
  have : (ps.map List.length).sum = ((ps.take j).map List.length).sum + ((ps.drop j).map List.length).sum := by
    rw [← List.sum_append, ← List.map_append, List.take_append_drop]
  omega
theorem part_le {ps : List (List UInt8)} {j : Nat} (h : j < ps.length) : ps[j].length ≤ (ps.map List.length).sum := by
  have h1 := parts_le ps (j + 1)
  rw [← parts_next ps h, List.length_append] at h1
  omega
theorem wpL_appO {ops : Array Oper} {rest : List Oper} {op : Oper} {a : Act} {w : World} {Q : Exit → Act → World → Prop} (hgd : op.guard = none) (s x : Operand) (ho : op.op = .call { callee := .builtin .append, args := #[s, x], argTypes := #[22, 22] })
    {B : Nat} {v : Value} {n : Nat} {l : List UInt8} (hown : w.ownsRow B 5 1 v n (u8s l)) (hv : a.eval s = v) (hB : B ≤ w.heap.size)
    (sp : Option Addr) (m c : Nat) (news : List UInt8) (hx : a.eval x = .slice sp m c) (hl : news.length = m) (hsrc : m = 0 ∨ ∃ ad, sp = some ad ∧ ∀ (j : Nat) (u : Value), (u8s news)[j]? = some u → w.cell? (ad.add j) = some u)
    (k : Nat) (hk : n + m = k) (r : List UInt8) (hr : l ++ news = r) (hb : k ≤ 140737488355328)
    (h : ∀ a' cap' w', Hid (w'.ownsRow B 5 1 (.slice a' k cap') k (u8s r)) → Hid (Fr (fun b => B ≤ b) w w') → wpList Tryd.prog ops Q rest (a.put op.dst (.slice a' k cap')) w') : wpList Tryd.prog ops Q (op :: rest) a w := by
  obtain ⟨i, hi, hz, hs, hbb⟩ := Go.info_parts infoB
  subst hk; subst hr
  refine wpL_append hgd s x 22 ho B 5 i _ 1 1 Tryd.underlying22 hi hz hs hbb rfl (by decide) v n (u8s l) hv hown sp m c (u8s news) hx (by rw [u8s_length, hl, Nat.mul_one]) hsrc (u8s_one _) (by unfold maxLen; omega) (by omega) hB ?_
  intro a' cap' w' p q _
  refine h a' cap' w' (hid (by rw [u8s_append]; exact p.out)) (hid ((frGrown q.out).mono fun b e => own_low hown b e))
set_option maxHeartbeats 8000000 in
theorem shaParts_walk (W : World) (ps : List (List UInt8)) (v : Value) (hg : Gl W) (hx : RowsOf W v ps) (hl : (ps.map List.length).sum + ps.length ≤ 2097152) : Calls Tryd.prog 5 #[v] W fun e w' => e = .returned (.bool true) ∧ Fr No W w' := by
  have HG := hid hg; have HX := hid hx
  obtain ⟨a, n, c, rfl, hpn, -⟩ := hx
  have HPN := hid hpn
  have hni : (n : Int) ≤ 2097152 := by omega
  have HL := hid (show (ps.map List.length).sum ≤ 2097152 by omega)
  clear hg hl hpn
  go_enter Tryd.func5, Tryd.ntmps5
  go_wp2_with fail
  refine (awake_any _ HG.out).mono ?_
  rintro e w1 ⟨rfl, hf1⟩
  have HF1 := hid hf1
  clear hf1
  go_wp2_with fail
  refine (new_any _ (HG.out.no HF1.out)).mono ?_
  rintro e w2 ⟨rfl, hh, hf2⟩
  obtain ⟨hb, hhb⟩ : ∃ b, w1.heap.size = b := ⟨_, rfl⟩
  have hf02 := HF1.out.trans' hf2
  rw [hhb] at hh ⊢
  have HN := hid (show W.heap.size ≤ hb ∧ hb < w2.heap.size ∧ 0 < hb ∧ 1 < hb by
    have := HF1.out.size; have := hh.lt; have := HG.out.size; omega)
  have HI := hid (show w2.ownsRow w2.heap.size 5 1 (.slice none 0 0) 0 (u8s (parts ps 0)) ∧ HashAt w2 hb (parts ps 0) ∧ Gl w2 ∧ Fr No W w2 ∧ w2.heap.size ≤ w2.heap.size from
    ⟨⟨rfl, .inl ⟨rfl, rfl⟩⟩, hh, HG.out.no hf02, hf02, Nat.le_refl _⟩)
  clear HF1 hh hf2 hf02 hhb
  obtain ⟨B, hB⟩ : ∃ B, w2.heap.size = B := ⟨_, rfl⟩
  have HB2 := hid (show B ≤ w2.heap.size by omega)
  rw [hB] at HI HN
  clear hB
  go_wp2_with fail
  go_loopw [5, 6] (fun x i wr => ∃ (j k : Nat) (a' : Option Addr) (c' : Nat), j ≤ 40 ∧ x = .slice a' k c' ∧ i = .int .i64 (j : Int) ∧ (k : Int) ≤ 2097152 ∧ Hid (j ≤ n ∧ (parts ps j).length = k ∧ wr.ownsRow B 5 1 (.slice a' k c') k (u8s (parts ps j)) ∧ HashAt wr hb (parts ps j) ∧ Gl wr ∧ Fr No W wr ∧ B ≤ wr.heap.size)) (fun _ i _ => 40 - (intOf i).toNat)
  case atStart => exact ⟨0, 0, none, 0, by omega, rfl, rfl, by omega, hid ⟨Nat.zero_le _, rfl, HI.out.1, HI.out.2.1, HI.out.2.2.1, HI.out.2.2.2.1, HB2.out⟩⟩
  case round =>
    clear HI
    obtain ⟨j, k, a', c', hj, rfl, rfl, hki, HR⟩ := hrel
    by_cases hlt : j < n ∧ j < 40
    · obtain ⟨h1, h2⟩ := hlt
      have h1i : (j : Int) < (n : Int) := by omega
      have h2i : (j : Int) < 40 := by omega
      obtain ⟨g, o, vi, rfl, hci, hbi⟩ := HX.out.at HR.out.2.2.2.2.2.1 (i := j) (by rw [HPN.out]; exact h1)
      have hgW : g < W.heap.size := by
        obtain ⟨a2, l2, c2, e, e1, e2⟩ := HX.out
        simp only [Value.slice.injEq] at e
        obtain ⟨rfl, rfl, rfl⟩ := e
        obtain ⟨g2, o2, e3, e4, -⟩ := e2.resolve_left (by omega)
        cases e3
        exact e4
      have hnext := parts_next ps (j := j) (by rw [HPN.out]; exact h1)
      have hple := part_le (ps := ps) (j := j) (by rw [HPN.out]; exact h1)
      have hple2 := parts_le ps (j + 1)
      obtain ⟨P, hP⟩ : ∃ P, ps[j]'(by rw [HPN.out]; exact h1) = P := ⟨_, rfl⟩
      rw [hP] at hbi hnext hple
      have HBi := hid hbi
      obtain ⟨ai, ni, cpi, rfl, hPn, -, -⟩ := hbi
      have HPN2 := hid hPn
      have HNX := hid hnext; have HPL := hid (show P.length ≤ 2097152 ∧ (parts ps (j + 1)).length ≤ 2097152 by have := HL.out; omega)
      have hPni : (ni : Int) ≤ 2097152 := by have := HPL.out; omega
      have HCI := hid hci
      have HGW := hid hgW
      clear hnext hple hple2 hP hPn hgW
      go_wp2_with fail
      refine (write_any hb (parts ps j) P _ _ HR.out.2.2.2.1 HBi.out HR.out.2.2.2.2.1 ⟨by have := HN.out; omega, by have := HN.out; omega⟩ (by have := HPL.out; have := HR.out.2.1; omega) (by have := HPL.out; omega)).mono ?_
      rintro e w3 ⟨rfl, hh3, hf3⟩
      rw [HNX.out] at hh3
      have hci3 := hf3.cell hci (fun e => by have := HN.out; have := HGW.out; have : g = hb := e; omega)
      have HR3 := hid (show w3.ownsRow B 5 1 (.slice a' k c') k (u8s (parts ps j)) ∧ HashAt w3 hb (parts ps (j + 1)) ∧ Gl w3 ∧ Fr No W w3 ∧ B ≤ w3.heap.size ∧ BytesIn w3 (fun k => k < W.heap.size) (.slice ai ni cpi) P from
        ⟨own_fr HR.out.2.2.1 hf3 (fun b e => by have := own_low HR.out.2.2.1 b e; have := HN.out; omega), hh3, HR.out.2.2.2.2.1.fr hf3 ⟨by have := HN.out; omega, by have := HN.out; omega⟩, HR.out.2.2.2.2.2.1.trans hf3 fun b e => .inr (by have := HN.out; have : b = hb := e; omega), Nat.le_trans HR.out.2.2.2.2.2.2 hf3.size, HBi.out.fr hf3 fun b e1 e2 e => by have := HN.out; have : b = hb := e; omega⟩)
      have HKJ := hid HR.out.2.1
      clear HR hh3 hf3 hci HCI HBi
      have hki2 : (k : Int) + (ni : Int) ≤ 2097152 := by
        have h1 := congrArg List.length HNX.out
        rw [List.length_append] at h1
        have := HPL.out.2; have := HKJ.out; have := HPN2.out
        omega
      go_wp2_with (first
        | ((with_reducible show wpList _ _ _ ({ dst := _, op := .call { callee := .builtin .append, args := _, argTypes := _ }, type := _, pos := _, after := _, guard := _ } :: _) _ _); refine wpL_appO rfl _ _ rfl HR3.out.1 rfl HR3.out.2.2.2.2.1 ai ni cpi P rfl HPN2.out ((src_of HR3.out.2.2.2.2.2).2) (k + ni) rfl (parts ps (j + 1)) HNX.out (by omega) ?_; intro a4 c4 w4 HO4 HF4)
        | fail)
      have HR4 := hid (show w4.ownsRow B 5 1 (.slice a4 (k + ni) c4) (k + ni) (u8s (parts ps (j + 1))) ∧ HashAt w4 hb (parts ps (j + 1)) ∧ Gl w4 ∧ Fr No W w4 ∧ B ≤ w4.heap.size from
        ⟨HO4.out, HR3.out.2.1.fr HF4.out (by have := HN.out; omega), HR3.out.2.2.1.fr HF4.out ⟨by have := HN.out; omega, by have := HN.out; omega⟩, HR3.out.2.2.2.1.trans HF4.out fun b e => .inr (by have := HN.out; have : B ≤ b := e; omega), Nat.le_trans HR3.out.2.2.2.2.1 HF4.out.size⟩)
      clear HR3 HO4 HF4 hci3
      refine (hsum_any hb (parts ps (j + 1)) _ HR4.out.2.1 HR4.out.2.2.1 (by have := HPL.out.2; omega)).mono ?_
      rintro e w5 ⟨rfl, hf5⟩
      have HR5 := hid (show w5.ownsRow B 5 1 (.slice a4 (k + ni) c4) (k + ni) (u8s (parts ps (j + 1))) ∧ HashAt w5 hb (parts ps (j + 1)) ∧ Gl w5 ∧ Fr No W w5 ∧ B ≤ w5.heap.size from
        ⟨own_fr HR4.out.1 hf5 (fun _ _ e => e), HR4.out.2.1.fr hf5 id, HR4.out.2.2.1.no hf5, HR4.out.2.2.2.1.trans' hf5, Nat.le_trans HR4.out.2.2.2.2 hf5.size⟩)
      clear HR4 hf5
      go_wp2_with (first
        | ((with_reducible show wpList _ _ _ ({ dst := _, op := .alloc 24, type := _, pos := _, after := _, guard := _ } :: _) _ _); refine wpL_alloc rfl _ rfl _ zero32b (bw .u8 (fun _ => 0) 32) rfl ?_; intro w6 HB6 HF6 HS6)
        | ((with_reducible show wpList _ _ _ ({ dst := _, op := .store 24 _ _, type := _, pos := _, after := _, guard := _ } :: _) _ _); refine wpL_whole rfl _ _ _ rfl w5.heap.size (dig (parts ps (j + 1))) 32 rfl rfl _ _ HB6.out info32b ?_; intro w7 HB7 HF7 HS7)
        | fail)
      obtain ⟨b7, hb7⟩ : ∃ x, w5.heap.size = x := ⟨_, rfl⟩
      have hm : Fr No w5 w7 := HF6.out.trans HF7.out fun i e => .inr (by have : i = w5.heap.size := e; omega)
      have HR7 := hid (show w7.ownsRow B 5 1 (.slice a4 (k + ni) c4) (k + ni) (u8s (parts ps (j + 1))) ∧ HashAt w7 hb (parts ps (j + 1)) ∧ Gl w7 ∧ Fr No W w7 ∧ B ≤ w7.heap.size ∧ Blk w7 b7 24 (bw .u8 (dig (parts ps (j + 1))) 32) from
        ⟨own_fr HR5.out.1 hm (fun _ _ e => e), HR5.out.2.1.fr hm id, HR5.out.2.2.1.no hm, HR5.out.2.2.2.1.trans' hm, Nat.le_trans HR5.out.2.2.2.2 hm.size, by rw [← hb7]; exact HB7.out⟩)
      rw [hb7]
      clear HR5 HB6 HF6 HS6 HB7 HF7 HS7 hm hb7
      refine (psum_any (parts ps (j + 1)) _ _ (own_bytes HR7.out.1) HR7.out.2.2.1 (by have := HPL.out.2; omega)).mono ?_
      rintro e w8 ⟨rfl, hf8⟩
      have HR8 := hid (show w8.ownsRow B 5 1 (.slice a4 (k + ni) c4) (k + ni) (u8s (parts ps (j + 1))) ∧ HashAt w8 hb (parts ps (j + 1)) ∧ Gl w8 ∧ Fr No W w8 ∧ B ≤ w8.heap.size ∧ Blk w8 b7 24 (bw .u8 (dig (parts ps (j + 1))) 32) from
        ⟨own_fr HR7.out.1 hf8 (fun _ _ e => e), HR7.out.2.1.fr hf8 id, HR7.out.2.2.1.no hf8, HR7.out.2.2.2.1.trans' hf8, Nat.le_trans HR7.out.2.2.2.2.1 hf8.size, HR7.out.2.2.2.2.2.fr hf8 id⟩)
      clear HR7 hf8
      go_wp2_with (first
        | ((with_reducible show wpList _ _ _ ({ dst := _, op := .alloc 24, type := _, pos := _, after := _, guard := _ } :: _) _ _); refine wpL_alloc rfl _ rfl _ zero32b (bw .u8 (fun _ => 0) 32) rfl ?_; intro w9 HB9 HF9 HS9)
        | ((with_reducible show wpList _ _ _ ({ dst := _, op := .store 24 _ _, type := _, pos := _, after := _, guard := _ } :: _) _ _); refine wpL_whole rfl _ _ _ rfl w8.heap.size (dig (parts ps (j + 1))) 32 rfl rfl _ _ HB9.out info32b ?_; intro w10 HB10 HF10 HS10; have HFm := hid (HF9.out.trans HF10.out fun i e => .inr (by have : i = w8.heap.size := e; omega) : Fr No w8 w10); have HB7' := hid (HR8.out.2.2.2.2.2.fr HFm.out id))
        | ((with_reducible show wpList _ _ _ ({ dst := _, op := .load 24 _, type := _, pos := _, after := _, guard := _ } :: _) _ _); refine wpL_val (by rfl) (ba .u8 (dig (parts ps (j + 1))) 32) (exec_load _ _ rfl b7 0 rfl (bw .u8 (dig (parts ps (j + 1))) 32) _ rfl rfl (by simpa using info32b) _ (blk_whole HB7'.out)) ?_)
        | ((with_reducible show wpList _ _ _ ({ dst := _, op := .load 24 _, type := _, pos := _, after := _, guard := _ } :: _) _ _); refine wpL_val (by rfl) (ba .u8 (dig (parts ps (j + 1))) 32) (exec_load _ _ rfl w8.heap.size 0 rfl (bw .u8 (dig (parts ps (j + 1))) 32) _ rfl rfl (by simpa using info32b) _ (blk_whole HB10.out)) ?_)
        | ((with_reducible show wpList _ _ _ ({ dst := _, op := .binOp .neq 24 _ _ _, type := _, pos := _, after := _, guard := _ } :: _) _ _); refine wpL_val (by rfl) (.bool false) (exec_neq32 _ _ _ rfl (dig (parts ps (j + 1))) rfl rfl _) ?_)
        | fail)
      have HRn := hid (show j + 1 ≤ n ∧ (parts ps (j + 1)).length = k + ni ∧ w10.ownsRow B 5 1 (.slice a4 (k + ni) c4) (k + ni) (u8s (parts ps (j + 1))) ∧ HashAt w10 hb (parts ps (j + 1)) ∧ Gl w10 ∧ Fr No W w10 ∧ B ≤ w10.heap.size from
        ⟨h1, by rw [← HNX.out, List.length_append, HKJ.out, HPN2.out], own_fr HR8.out.1 HFm.out (fun _ _ e => e), HR8.out.2.1.fr HFm.out id, HR8.out.2.2.1.no HFm.out, HR8.out.2.2.2.1.trans' HFm.out, Nat.le_trans HR8.out.2.2.2.2.1 HFm.out.size⟩)
      clear HR8 HB9 HF9 HS9 HB10 HF10 HS10 HFm HB7'
      go_wp2_with fail
      go_roundw
      case rel => exact ⟨j + 1, k + ni, a4, c4, by omega, rfl, by go_num, by omega, HRn⟩
      case measure => simp [intOf]; omega
    · by_cases hjn : (j : Int) < (n : Int)
      · have hj40 : ¬ (j : Int) < 40 := by omega
        go_wp2_with fail
        have HR2 := hid HR.out.2
        clear HR hlt hj
        refine (hsum_any hb (parts ps j) _ HR2.out.2.2.1 HR2.out.2.2.2.1 (by have := HR2.out.1; omega)).mono ?_
        rintro e w5 ⟨rfl, hf5⟩
        have HR5 := hid (show w5.ownsRow B 5 1 (.slice a' k c') k (u8s (parts ps j)) ∧ Gl w5 ∧ Fr No W w5 from
          ⟨own_fr HR2.out.2.1 hf5 (fun _ _ e => e), HR2.out.2.2.2.1.no hf5, HR2.out.2.2.2.2.1.trans' hf5⟩)
        have HKJ := hid HR2.out.1
        clear HR2 hf5
        go_wp2_with (first
          | ((with_reducible show wpList _ _ _ ({ dst := _, op := .alloc 24, type := _, pos := _, after := _, guard := _ } :: _) _ _); refine wpL_alloc rfl _ rfl _ zero32b (bw .u8 (fun _ => 0) 32) rfl ?_; intro w6 HB6 HF6 HS6)
          | ((with_reducible show wpList _ _ _ ({ dst := _, op := .store 24 _ _, type := _, pos := _, after := _, guard := _ } :: _) _ _); refine wpL_whole rfl _ _ _ rfl w5.heap.size (dig (parts ps j)) 32 rfl rfl _ _ HB6.out info32b ?_; intro w7 HB7 HF7 HS7)
          | fail)
        obtain ⟨b7, hb7⟩ : ∃ x, w5.heap.size = x := ⟨_, rfl⟩
        have hm : Fr No w5 w7 := HF6.out.trans HF7.out fun i e => .inr (by have : i = w5.heap.size := e; omega)
        have HR7 := hid (show w7.ownsRow B 5 1 (.slice a' k c') k (u8s (parts ps j)) ∧ Gl w7 ∧ Fr No W w7 ∧ Blk w7 b7 24 (bw .u8 (dig (parts ps j)) 32) from
          ⟨own_fr HR5.out.1 hm (fun _ _ e => e), HR5.out.2.1.no hm, HR5.out.2.2.trans' hm, by rw [← hb7]; exact HB7.out⟩)
        rw [hb7]
        clear HR5 HB6 HF6 HS6 HB7 HF7 HS7 hm hb7
        refine (psum_any (parts ps j) _ _ (own_bytes HR7.out.1) HR7.out.2.1 (by have := HKJ.out; omega)).mono ?_
        rintro e w8 ⟨rfl, hf8⟩
        have HR8 := hid (show Fr No W w8 ∧ Blk w8 b7 24 (bw .u8 (dig (parts ps j)) 32) from ⟨HR7.out.2.2.1.trans' hf8, HR7.out.2.2.2.fr hf8 id⟩)
        clear HR7 hf8
        go_wp2_with (first
          | ((with_reducible show wpList _ _ _ ({ dst := _, op := .alloc 24, type := _, pos := _, after := _, guard := _ } :: _) _ _); refine wpL_alloc rfl _ rfl _ zero32b (bw .u8 (fun _ => 0) 32) rfl ?_; intro w9 HB9 HF9 HS9)
          | ((with_reducible show wpList _ _ _ ({ dst := _, op := .store 24 _ _, type := _, pos := _, after := _, guard := _ } :: _) _ _); refine wpL_whole rfl _ _ _ rfl w8.heap.size (dig (parts ps j)) 32 rfl rfl _ _ HB9.out info32b ?_; intro w10 HB10 HF10 HS10; have HFm := hid (HF9.out.trans HF10.out fun i e => .inr (by have : i = w8.heap.size := e; omega) : Fr No w8 w10); have HB7' := hid (HR8.out.2.fr HFm.out id))
          | ((with_reducible show wpList _ _ _ ({ dst := _, op := .load 24 _, type := _, pos := _, after := _, guard := _ } :: _) _ _); refine wpL_val (by rfl) (ba .u8 (dig (parts ps j)) 32) (exec_load _ _ rfl b7 0 rfl (bw .u8 (dig (parts ps j)) 32) _ rfl rfl (by simpa using info32b) _ (blk_whole HB7'.out)) ?_)
          | ((with_reducible show wpList _ _ _ ({ dst := _, op := .load 24 _, type := _, pos := _, after := _, guard := _ } :: _) _ _); refine wpL_val (by rfl) (ba .u8 (dig (parts ps j)) 32) (exec_load _ _ rfl w8.heap.size 0 rfl (bw .u8 (dig (parts ps j)) 32) _ rfl rfl (by simpa using info32b) _ (blk_whole HB10.out)) ?_)
          | ((with_reducible show wpList _ _ _ ({ dst := _, op := .binOp .eql 24 _ _ _, type := _, pos := _, after := _, guard := _ } :: _) _ _); refine wpL_val (by rfl) (.bool true) (exec_eq32 _ _ _ rfl (dig (parts ps j)) rfl rfl _) ?_)
          | fail)
        go_ret
        exact ⟨rfl, HR8.out.1.trans' HFm.out⟩
      · have hj40 := hid True.intro
        go_wp2_with fail
        have HR2 := hid HR.out.2
        clear HR hlt hj
        refine (hsum_any hb (parts ps j) _ HR2.out.2.2.1 HR2.out.2.2.2.1 (by have := HR2.out.1; omega)).mono ?_
        rintro e w5 ⟨rfl, hf5⟩
        have HR5 := hid (show w5.ownsRow B 5 1 (.slice a' k c') k (u8s (parts ps j)) ∧ Gl w5 ∧ Fr No W w5 from
          ⟨own_fr HR2.out.2.1 hf5 (fun _ _ e => e), HR2.out.2.2.2.1.no hf5, HR2.out.2.2.2.2.1.trans' hf5⟩)
        have HKJ := hid HR2.out.1
        clear HR2 hf5
        go_wp2_with (first
          | ((with_reducible show wpList _ _ _ ({ dst := _, op := .alloc 24, type := _, pos := _, after := _, guard := _ } :: _) _ _); refine wpL_alloc rfl _ rfl _ zero32b (bw .u8 (fun _ => 0) 32) rfl ?_; intro w6 HB6 HF6 HS6)
          | ((with_reducible show wpList _ _ _ ({ dst := _, op := .store 24 _ _, type := _, pos := _, after := _, guard := _ } :: _) _ _); refine wpL_whole rfl _ _ _ rfl w5.heap.size (dig (parts ps j)) 32 rfl rfl _ _ HB6.out info32b ?_; intro w7 HB7 HF7 HS7)
          | fail)
        obtain ⟨b7, hb7⟩ : ∃ x, w5.heap.size = x := ⟨_, rfl⟩
        have hm : Fr No w5 w7 := HF6.out.trans HF7.out fun i e => .inr (by have : i = w5.heap.size := e; omega)
        have HR7 := hid (show w7.ownsRow B 5 1 (.slice a' k c') k (u8s (parts ps j)) ∧ Gl w7 ∧ Fr No W w7 ∧ Blk w7 b7 24 (bw .u8 (dig (parts ps j)) 32) from
          ⟨own_fr HR5.out.1 hm (fun _ _ e => e), HR5.out.2.1.no hm, HR5.out.2.2.trans' hm, by rw [← hb7]; exact HB7.out⟩)
        rw [hb7]
        clear HR5 HB6 HF6 HS6 HB7 HF7 HS7 hm hb7
        refine (psum_any (parts ps j) _ _ (own_bytes HR7.out.1) HR7.out.2.1 (by have := HKJ.out; omega)).mono ?_
        rintro e w8 ⟨rfl, hf8⟩
        have HR8 := hid (show Fr No W w8 ∧ Blk w8 b7 24 (bw .u8 (dig (parts ps j)) 32) from ⟨HR7.out.2.2.1.trans' hf8, HR7.out.2.2.2.fr hf8 id⟩)
        clear HR7 hf8
        go_wp2_with (first
          | ((with_reducible show wpList _ _ _ ({ dst := _, op := .alloc 24, type := _, pos := _, after := _, guard := _ } :: _) _ _); refine wpL_alloc rfl _ rfl _ zero32b (bw .u8 (fun _ => 0) 32) rfl ?_; intro w9 HB9 HF9 HS9)
          | ((with_reducible show wpList _ _ _ ({ dst := _, op := .store 24 _ _, type := _, pos := _, after := _, guard := _ } :: _) _ _); refine wpL_whole rfl _ _ _ rfl w8.heap.size (dig (parts ps j)) 32 rfl rfl _ _ HB9.out info32b ?_; intro w10 HB10 HF10 HS10; have HFm := hid (HF9.out.trans HF10.out fun i e => .inr (by have : i = w8.heap.size := e; omega) : Fr No w8 w10); have HB7' := hid (HR8.out.2.fr HFm.out id))
          | ((with_reducible show wpList _ _ _ ({ dst := _, op := .load 24 _, type := _, pos := _, after := _, guard := _ } :: _) _ _); refine wpL_val (by rfl) (ba .u8 (dig (parts ps j)) 32) (exec_load _ _ rfl b7 0 rfl (bw .u8 (dig (parts ps j)) 32) _ rfl rfl (by simpa using info32b) _ (blk_whole HB7'.out)) ?_)
          | ((with_reducible show wpList _ _ _ ({ dst := _, op := .load 24 _, type := _, pos := _, after := _, guard := _ } :: _) _ _); refine wpL_val (by rfl) (ba .u8 (dig (parts ps j)) 32) (exec_load _ _ rfl w8.heap.size 0 rfl (bw .u8 (dig (parts ps j)) 32) _ rfl rfl (by simpa using info32b) _ (blk_whole HB10.out)) ?_)
          | ((with_reducible show wpList _ _ _ ({ dst := _, op := .binOp .eql 24 _ _ _, type := _, pos := _, after := _, guard := _ } :: _) _ _); refine wpL_val (by rfl) (.bool true) (exec_eq32 _ _ _ rfl (dig (parts ps j)) rfl rfl _) ?_)
          | fail)
        go_ret
        exact ⟨rfl, HR8.out.1.trans' HFm.out⟩
end Go.Proofs.YtejbanlhgnlliaaDoor.SH
