/-
  Part 20 of the proof: StA, StB, StC, StE.
-/
import Derived.Test.YtflfmkokfbgclaaGreatRc14
import Derived.Test.YtflfmkokfbgclaaGreatRc19
import Derived.Lib.AppendStr
import Derived.Test.YtflfmkokfbgclaaGreatRc01
import Derived.Test.YtflfmkokfbgclaaGreatRc02
import Derived.Laws.Strings2
import Derived.Laws.Slices
set_option linter.unusedSimpArgs false
set_option linter.unusedVariables false
namespace Go.Proofs.YtflfmkokfbgclaaGreat.ST
set_option maxRecDepth 100000
open Go.RowKit K

theorem str_cells (s : ByteArray) : Go.Lib.strCells s = u8s s.data.toList := rfl
/-- A string's bytes behind an owned row: the block is the old one or a new one. -/
theorem run_append_str {P : Program} {w : World} (base : Nat) (t u ty e : TypeId) (i : TypeInfo) (ht : P.underlying t = some (.slice e)) (hu : P.underlying u = some .string) (hi : P.info? e = some i) (hz : i.zero = some (.int .u8 0)) (hsize : i.size = 1) (hby : i.bytes = 1)
    (v : Value) (n : Nat) (xs : List Value) (hown : w.ownsRow base e 1 v n xs) (s : ByteArray) (h63 : n + s.size ≤ maxLen) (hbytes : n + s.size ≤ 140737488355328) (hbase : base ≤ w.heap.size) :
    ∃ a c w', (Builtin.append_ #[t, u] ty #[v, .string s]).run P w = .ok (.slice a (n + s.size) c) w' ∧ w'.ownsRow base e 1 (.slice a (n + s.size) c) (n + s.size) (xs ++ u8s s.data.toList) ∧ w.grownBy w' v.ownBlock ∧
      ((Value.slice a (n + s.size) c).ownBlock = v.ownBlock ∨ (Value.slice a (n + s.size) c).ownBlock = some w.heap.size) := by
  obtain ⟨v', w', hr, h2, h3, h4⟩ := Go.Lib.run_append_own_string (P := P) w base t u ty e i ht hu hi hz hsize hby v n xs hown s h63 hbytes hbase
  obtain ⟨a, c, rfl, -, -⟩ := own_form h2
  refine ⟨a, c, w', hr, by rw [← str_cells]; exact h2, h3, ?_⟩
  rcases hown.2 with ⟨rfl, h0⟩ | ⟨g, cap, cur, rfl, hbg, hg, hnc, hcm, hcs, htake⟩
  · by_cases hm : s.size = 0
    · have := h4.2 ⟨rfl, hm⟩
      rw [this]; exact .inl rfl
    · have hx := Go.run_append_nil_string (P := P) (w := w) t u ty e i (.int .u8 0) ht hu hi hz s (by omega) (by unfold maxLen at h63; omega) (by rw [hby]; omega)
      rw [hx] at hr
      simp only [Result.ok.injEq, Value.slice.injEq] at hr
      obtain ⟨⟨rfl, -, -⟩, -⟩ := hr
      exact .inr rfl
  · have hcs1 : cur.size = cap := by simpa using hcs
    by_cases hroom : n + s.size ≤ cap
    · have hx := Go.Lib.run_append_room_string (P := P) w t u ty e i ht hu hi hsize g n cap cur hg s hroom (by rw [hcs1]; exact hroom)
      rw [hx] at hr
      simp only [Result.ok.injEq, Value.slice.injEq] at hr
      obtain ⟨⟨rfl, -, -⟩, -⟩ := hr
      exact .inl rfl
    · have hx := Go.Lib.run_append_grow_string (P := P) w t u ty e i (.int .u8 0) ht hu hi hz ⟨g, 0, none⟩ n cap xs (by rw [hsize]; simpa using hown.1) (hown.cells (g := g) rfl) s (by omega) (by unfold maxLen at h63; omega) (by rw [hby]; exact growslice_fits (by omega) (by omega))
      rw [hx] at hr
      simp only [Result.ok.injEq, Value.slice.injEq] at hr
      obtain ⟨⟨rfl, -, -⟩, -⟩ := hr
      exact .inr rfl
theorem wpL_appendStr {P : Program} {ops : Array Oper} {rest : List Oper} {op : Oper} {a : Act} {w : World} {Q : Exit → Act → World → Prop} (hgd : op.guard = none) (s x : Operand) (t u : TypeId) (ho : op.op = .call { callee := .builtin .append, args := #[s, x], argTypes := #[t, u] })
    (base : Nat) (e : TypeId) (i : TypeInfo) (ht : P.underlying t = some (.slice e)) (hu : P.underlying u = some .string) (hi : P.info? e = some i) (hz : i.zero = some (.int .u8 0)) (hsize : i.size = 1) (hby : i.bytes = 1)
    (v : Value) (n : Nat) (xs : List Value) (hv : a.eval s = v) (hown : w.ownsRow base e 1 v n xs) (str : ByteArray) (hx : a.eval x = .string str) (h63 : n + str.size ≤ maxLen) (hbytes : n + str.size ≤ 140737488355328) (hbase : base ≤ w.heap.size)
    (h : ∀ a' cap' w', Hid (w'.ownsRow base e 1 (.slice a' (n + str.size) cap') (n + str.size) (xs ++ u8s str.data.toList)) → Hid (w.grownBy w' v.ownBlock) → Hid ((Value.slice a' (n + str.size) cap').ownBlock = v.ownBlock ∨ (Value.slice a' (n + str.size) cap').ownBlock = some w.heap.size) →
      wpList P ops Q rest (a.put op.dst (.slice a' (n + str.size) cap')) w') : wpList P ops Q (op :: rest) a w := by
  refine wpList_plain hgd fun K hK => ?_
  obtain ⟨a', c', w', hr, h2, h3, h4⟩ := run_append_str (P := P) (w := w) base t u op.type e i ht hu hi hz hsize hby v n xs hown str h63 hbytes hbase
  unfold Oper.wp execOp
  simp only [ho, resolve, invoke, builtin, Sem.run_bind, Sem.run_pure, Result.andThen_ok, List.map_toArray, List.map_cons, List.map_nil, hv, hx, hr]
  exact hK _ _ (h a' c' w' (hid h2) (hid h3) (hid h4))
end Go.Proofs.YtflfmkokfbgclaaGreat.ST

namespace Go.Proofs.YtflfmkokfbgclaaGreat.ST
set_option maxRecDepth 100000
open Go.RowKit K

def Ch.head (c : Ch) : List UInt8 := [if c.gone then 1 else 0, UInt8.ofNat c.key.size, UInt8.ofNat c.value.size, UInt8.ofNat (c.value.size / 256)]
/-- The bytes of a change. -/
def Ch.bytes (c : Ch) : List UInt8 := c.head ++ c.key.data.toList ++ c.value.data.toList
theorem bytes_length (c : Ch) : c.bytes.length = 4 + c.key.size + c.value.size := by
  unfold Ch.bytes Ch.head
  simp only [List.length_append, List.length_cons, List.length_nil, Array.length_toList]
  have h1 : c.key.data.size = c.key.size := rfl
  have h2 : c.value.data.size = c.value.size := rfl
  omega
/-- A row of bytes that took the old one's place. -/
def Grown (w : World) (base : Nat) (v : Value) (l : List UInt8) (e : Ending) (w' : World) : Prop :=
  ∃ a c, e = .returned (.slice a l.length c) ∧ w'.ownsRow base 5 1 (.slice a l.length c) l.length (u8s l) ∧ Fr (fun k => v.ownBlock = some k) w w' ∧ ∀ g, (Value.slice a l.length c).ownBlock = some g → v.ownBlock = some g ∨ w.heap.size ≤ g
theorem frown {w w' : World} {row : Option Nat} (h : w.grownBy w' row) : Fr (fun k => row = some k) w w' := ⟨h.os, h.tape, h.output, h.size, fun k hk hn => h.block k hk (fun e => hn e.symm)⟩
theorem info5z : (Tryz.prog.info? 5).map (fun i => (i.zero, i.size, i.bytes)) = some (some (.int .u8 0), 1, 1) := by kernel_rfl
theorem build4 (a b c d : Int) (w : World) : (Instr.buildSlice 40 4 #[(0, .int .u8 a), (1, .int .u8 b), (2, .int .u8 c), (3, .int .u8 d)]).run Tryz.prog w = .ok (.slice (some ⟨w.heap.size, 0, none⟩) 4 4) (w.alloc (.cells #[.int .u8 a, .int .u8 b, .int .u8 c, .int .u8 d] 5)) := by kernel_rfl
set_option maxHeartbeats 8000000 in
theorem add_any (base : Nat) (c : Ch) (v : Value) (l : List UInt8) (w : World) (h : w.ownsRow base 5 1 v l.length (u8s l)) (hl : l.length ≤ 1000000) (hk : c.key.size ≤ 64) (hv : c.value.size ≤ 400) (hb : base ≤ w.heap.size) :
    Calls Tryz.prog 26 #[v, c.agg] w (Grown w base v (l ++ c.bytes)) := by
  have H := hid h; have HL := hid hl; have HB := hid hb
  obtain ⟨va, vc, rfl, -, -⟩ := own_form h
  obtain ⟨i5, hi5, hz5, hs5, hb5⟩ := Go.info_parts info5z
  have I5 := hid hi5; have Z5 := hid hz5; have S5 := hid hs5; have B5 := hid hb5
  obtain ⟨key, value, gone⟩ := c
  have hki : (key.size : Int) ≤ 64 := by simp only at hk; omega
  have hvi : (value.size : Int) ≤ 400 := by simp only at hv; omega
  have hbl := bytes_length ⟨key, value, gone⟩
  have HK := hid hk; have HV := hid hv
  show Calls _ _ #[_, .agg #[.string key, .string value, .bool gone]] _ _
  clear h hl hb hi5 hz5 hs5 hb5 hk hv hbl
  have e1 : ((UInt8.ofNat key.size).toNat : Int) = key.size := by
    have := HK.out; simp only at this
    simp [UInt8.toNat_ofNat']; omega
  have e2 : ((UInt8.ofNat value.size).toNat : Int) = (value.size : Int) % 256 := by simp [UInt8.toNat_ofNat']
  have e3 : ((UInt8.ofNat (value.size / 256)).toNat : Int) = (value.size : Int) / 256 := by
    have := HV.out; simp only at this
    simp [UInt8.toNat_ofNat']; omega
  have E1 := hid e1; have E2 := hid e2; have E3 := hid e3
  clear e1 e2 e3
  cases gone with
  | false =>
    have HHd : Hid (u8s (⟨key, value, false⟩ : Ch).head = [.int .u8 0, .int .u8 (key.size : Int), .int .u8 ((value.size : Int) % 256), .int .u8 ((value.size : Int) / 256)]) := hid (by
      unfold Ch.head u8s
      simp only [List.map_cons, List.map_nil, E1.out, E2.out, E3.out]
      rfl)
    have HHl : Hid ((⟨key, value, false⟩ : Ch).head.length = 4) := hid rfl
    go_enter Tryz.func26, Tryz.ntmps26
    go_wp2_with (first
      | ((with_reducible show wpList _ _ _ (⟨_, .box 55 _, _, _, _, _⟩ :: _) _ _); refine wpL_box rfl _ _ rfl _ rfl [.string key, .string value, .bool false] rfl ?_; intro w1 HB1 F1 HS1; have x0 : w1.cell? ⟨w.heap.size, 0, none⟩ = some (.string key) := HB1.out.cell 0; have x1 : w1.cell? ⟨w.heap.size, 1, none⟩ = some (.string value) := HB1.out.cell 1; have x2 : w1.cell? ⟨w.heap.size, 2, none⟩ = some (.bool false) := HB1.out.cell 2)
      | ((with_reducible show wpList _ _ _ (⟨_, .buildSlice 40 _ _, _, _, _, _⟩ :: _) _ _); refine wpL_buildSlice rfl _ 5 4 [(0, .tmp 9), (1, .tmp 13), (2, .tmp 17), (3, .tmp 22)] rfl _ (build4 _ _ _ _ _) ?_; intro w2 HB2 F2 HS2;
          have HB2' : Hid (Blk w2 w1.heap.size 5 (u8s (⟨key, value, false⟩ : Ch).head)) := hid (by rw [HHd.out]; have h := HB2.out; first | exact h | simpa using h);
          have HR2 := hid (own_fr H.out (F1.out.trans' F2.out) (fun _ _ e => e)); have HF2 : Hid (Fr No w w2) := hid (F1.out.trans' F2.out); have HBx2 := hid (HB1.out.fr F2.out id))
      | ((with_reducible show wpList _ _ _ (⟨_, .call { callee := .builtin .append, args := _, argTypes := _ }, _, _, _, _⟩ :: _) _ _); have := HO4; refine wpL_appendStr rfl _ _ 40 9 rfl base 5 i5 Tryz.underlying40 Tryz.underlying9 I5.out Z5.out S5.out B5.out (.slice a4 (l.length + 4 + key.size) c4) _ _ rfl HO4.out value rfl (by have := HL.out; have := HV.out; have := HK.out; unfold maxLen; simp only at *; omega) (by have := HL.out; have := HV.out; have := HK.out; simp only at *; omega) (Nat.le_trans HB.out (Nat.le_trans HF2.out.size (Nat.le_trans (frown HG3.out).size (frown HG4.out).size))) ?_; intro a5 c5 w5 HO5 HG5 HA5)
      | ((with_reducible show wpList _ _ _ (⟨_, .call { callee := .builtin .append, args := _, argTypes := _ }, _, _, _, _⟩ :: _) _ _); have := HO3; refine wpL_appendStr rfl _ _ 40 9 rfl base 5 i5 Tryz.underlying40 Tryz.underlying9 I5.out Z5.out S5.out B5.out (.slice a3 (l.length + 4) c3) _ _ rfl HO3.out key rfl (by have := HL.out; have := HK.out; unfold maxLen; simp only at *; omega) (by have := HL.out; have := HK.out; simp only at *; omega) (Nat.le_trans HB.out (Nat.le_trans HF2.out.size (frown HG3.out).size)) ?_; intro a4 c4 w4 HO4 HG4 HA4;
          have y1 : w4.cell? ⟨w.heap.size, 1, none⟩ = some (.string value) := (HBx3.out.fr (frown HG4.out) (fun e => HNb3.out e)).cell 1)
      | ((with_reducible show wpList _ _ _ (⟨_, .call { callee := .builtin .append, args := _, argTypes := _ }, _, _, _, _⟩ :: _) _ _); refine wpL_append rfl _ _ 40 rfl base 5 i5 _ 1 1 rfl I5.out Z5.out S5.out B5.out rfl (by decide) (.slice va l.length vc) l.length (u8s l) rfl HR2.out (some ⟨w1.heap.size, 0, none⟩) 4 _ (u8s (⟨key, value, false⟩ : Ch).head) rfl (by rw [u8s_length, HHl.out]) (.inr ⟨_, rfl, HB2'.out.news⟩) (u8s_one _) (by have := HL.out; unfold maxLen; omega) (by have := HL.out; omega) (Nat.le_trans HB.out HF2.out.size) ?_; intro a3 c3 w3 HO3 HG3 HA3;
          have HNb : Hid (∀ g, (Value.slice va l.length vc).ownBlock = some g → g < w.heap.size) := hid (fun g e => (H.out.lt g e).2);
          have HBx3 := hid (HBx2.out.fr (frown HG3.out) (fun e => absurd (HNb.out _ e) (Nat.lt_irrefl _)));
          have HNb3 : Hid (¬ (Value.slice a3 (l.length + 4) c3).ownBlock = some w.heap.size) := hid (fun e => by
            rcases HA3.out with e2 | e2
            · rw [e2] at e; exact absurd (HNb.out _ e) (Nat.lt_irrefl _)
            · rw [e2] at e; have h1 := HB1.out.lt; have h2 := F2.out.size; exact absurd (show w2.heap.size = w.heap.size by simpa using e) (by omega));
          have y0 : w3.cell? ⟨w.heap.size, 0, none⟩ = some (.string key) := HBx3.out.cell 0))
    go_ret
    have hlen : (l ++ (⟨key, value, false⟩ : Ch).bytes).length = l.length + 4 + key.size + value.size := by
      rw [List.length_append, bytes_length]
      simp only
      omega
    have hcells : u8s (l ++ (⟨key, value, false⟩ : Ch).bytes) = u8s l ++ u8s (⟨key, value, false⟩ : Ch).head ++ u8s key.data.toList ++ u8s value.data.toList := by
      unfold Ch.bytes
      simp only [u8s, List.map_append, List.append_assoc]
    have N3 : ∀ g, (Value.slice a3 (l.length + 4) c3).ownBlock = some g → (Value.slice va l.length vc).ownBlock = some g ∨ w.heap.size ≤ g := fun g hg => HA3.out.elim (fun e => .inl (by rw [← e]; exact hg)) (fun e => .inr (by
      rw [e] at hg; have h1 := HF2.out.size; have e5 : w2.heap.size = g := by simpa using hg
      omega))
    have N4 : ∀ g, (Value.slice a4 (l.length + 4 + key.size) c4).ownBlock = some g → (Value.slice va l.length vc).ownBlock = some g ∨ w.heap.size ≤ g := fun g hg => HA4.out.elim (fun e => N3 g (by rw [← e]; exact hg)) (fun e => .inr (by
      rw [e] at hg; have h1 := HF2.out.size; have h2 := (frown HG3.out).size; have e5 : w3.heap.size = g := by simpa using hg
      omega))
    have N5 : ∀ g, (Value.slice a5 (l.length + 4 + key.size + value.size) c5).ownBlock = some g → (Value.slice va l.length vc).ownBlock = some g ∨ w.heap.size ≤ g := fun g hg => HA5.out.elim (fun e => N4 g (by rw [← e]; exact hg)) (fun e => .inr (by
      rw [e] at hg; have h1 := HF2.out.size; have h2 := (frown HG3.out).size; have h3 := (frown HG4.out).size; have e5 : w4.heap.size = g := by simpa using hg
      omega))
    have hF : Fr (fun k => (Value.slice va l.length vc).ownBlock = some k) w w5 := ((HF2.out.no.trans' (frown HG3.out)).trans (frown HG4.out) (fun k hk => N3 k hk)).trans (frown HG5.out) (fun k hk => N4 k hk)
    refine ⟨a5, c5, by rw [hlen]; rfl, by rw [hlen, hcells]; exact HO5.out, hF, by rw [hlen]; exact N5⟩
  | true =>
    have HHd : Hid (u8s (⟨key, value, true⟩ : Ch).head = [.int .u8 1, .int .u8 (key.size : Int), .int .u8 ((value.size : Int) % 256), .int .u8 ((value.size : Int) / 256)]) := hid (by
      unfold Ch.head u8s
      simp only [List.map_cons, List.map_nil, E1.out, E2.out, E3.out]
      rfl)
    have HHl : Hid ((⟨key, value, true⟩ : Ch).head.length = 4) := hid rfl
    go_enter Tryz.func26, Tryz.ntmps26
    go_wp2_with (first
      | ((with_reducible show wpList _ _ _ (⟨_, .box 55 _, _, _, _, _⟩ :: _) _ _); refine wpL_box rfl _ _ rfl _ rfl [.string key, .string value, .bool true] rfl ?_; intro w1 HB1 F1 HS1; have x0 : w1.cell? ⟨w.heap.size, 0, none⟩ = some (.string key) := HB1.out.cell 0; have x1 : w1.cell? ⟨w.heap.size, 1, none⟩ = some (.string value) := HB1.out.cell 1; have x2 : w1.cell? ⟨w.heap.size, 2, none⟩ = some (.bool true) := HB1.out.cell 2)
      | ((with_reducible show wpList _ _ _ (⟨_, .buildSlice 40 _ _, _, _, _, _⟩ :: _) _ _); refine wpL_buildSlice rfl _ 5 4 [(0, .tmp 9), (1, .tmp 13), (2, .tmp 17), (3, .tmp 22)] rfl _ (build4 _ _ _ _ _) ?_; intro w2 HB2 F2 HS2;
          have HB2' : Hid (Blk w2 w1.heap.size 5 (u8s (⟨key, value, true⟩ : Ch).head)) := hid (by rw [HHd.out]; have h := HB2.out; first | exact h | simpa using h);
          have HR2 := hid (own_fr H.out (F1.out.trans' F2.out) (fun _ _ e => e)); have HF2 : Hid (Fr No w w2) := hid (F1.out.trans' F2.out); have HBx2 := hid (HB1.out.fr F2.out id))
      | ((with_reducible show wpList _ _ _ (⟨_, .call { callee := .builtin .append, args := _, argTypes := _ }, _, _, _, _⟩ :: _) _ _); have := HO4; refine wpL_appendStr rfl _ _ 40 9 rfl base 5 i5 Tryz.underlying40 Tryz.underlying9 I5.out Z5.out S5.out B5.out (.slice a4 (l.length + 4 + key.size) c4) _ _ rfl HO4.out value rfl (by have := HL.out; have := HV.out; have := HK.out; unfold maxLen; simp only at *; omega) (by have := HL.out; have := HV.out; have := HK.out; simp only at *; omega) (Nat.le_trans HB.out (Nat.le_trans HF2.out.size (Nat.le_trans (frown HG3.out).size (frown HG4.out).size))) ?_; intro a5 c5 w5 HO5 HG5 HA5)
      | ((with_reducible show wpList _ _ _ (⟨_, .call { callee := .builtin .append, args := _, argTypes := _ }, _, _, _, _⟩ :: _) _ _); have := HO3; refine wpL_appendStr rfl _ _ 40 9 rfl base 5 i5 Tryz.underlying40 Tryz.underlying9 I5.out Z5.out S5.out B5.out (.slice a3 (l.length + 4) c3) _ _ rfl HO3.out key rfl (by have := HL.out; have := HK.out; unfold maxLen; simp only at *; omega) (by have := HL.out; have := HK.out; simp only at *; omega) (Nat.le_trans HB.out (Nat.le_trans HF2.out.size (frown HG3.out).size)) ?_; intro a4 c4 w4 HO4 HG4 HA4;
          have y1 : w4.cell? ⟨w.heap.size, 1, none⟩ = some (.string value) := (HBx3.out.fr (frown HG4.out) (fun e => HNb3.out e)).cell 1)
      | ((with_reducible show wpList _ _ _ (⟨_, .call { callee := .builtin .append, args := _, argTypes := _ }, _, _, _, _⟩ :: _) _ _); refine wpL_append rfl _ _ 40 rfl base 5 i5 _ 1 1 rfl I5.out Z5.out S5.out B5.out rfl (by decide) (.slice va l.length vc) l.length (u8s l) rfl HR2.out (some ⟨w1.heap.size, 0, none⟩) 4 _ (u8s (⟨key, value, true⟩ : Ch).head) rfl (by rw [u8s_length, HHl.out]) (.inr ⟨_, rfl, HB2'.out.news⟩) (u8s_one _) (by have := HL.out; unfold maxLen; omega) (by have := HL.out; omega) (Nat.le_trans HB.out HF2.out.size) ?_; intro a3 c3 w3 HO3 HG3 HA3;
          have HNb : Hid (∀ g, (Value.slice va l.length vc).ownBlock = some g → g < w.heap.size) := hid (fun g e => (H.out.lt g e).2);
          have HBx3 := hid (HBx2.out.fr (frown HG3.out) (fun e => absurd (HNb.out _ e) (Nat.lt_irrefl _)));
          have HNb3 : Hid (¬ (Value.slice a3 (l.length + 4) c3).ownBlock = some w.heap.size) := hid (fun e => by
            rcases HA3.out with e2 | e2
            · rw [e2] at e; exact absurd (HNb.out _ e) (Nat.lt_irrefl _)
            · rw [e2] at e; have h1 := HB1.out.lt; have h2 := F2.out.size; exact absurd (show w2.heap.size = w.heap.size by simpa using e) (by omega));
          have y0 : w3.cell? ⟨w.heap.size, 0, none⟩ = some (.string key) := HBx3.out.cell 0))
    go_ret
    have hlen : (l ++ (⟨key, value, true⟩ : Ch).bytes).length = l.length + 4 + key.size + value.size := by
      rw [List.length_append, bytes_length]
      simp only
      omega
    have hcells : u8s (l ++ (⟨key, value, true⟩ : Ch).bytes) = u8s l ++ u8s (⟨key, value, true⟩ : Ch).head ++ u8s key.data.toList ++ u8s value.data.toList := by
      unfold Ch.bytes
      simp only [u8s, List.map_append, List.append_assoc]
    have N3 : ∀ g, (Value.slice a3 (l.length + 4) c3).ownBlock = some g → (Value.slice va l.length vc).ownBlock = some g ∨ w.heap.size ≤ g := fun g hg => HA3.out.elim (fun e => .inl (by rw [← e]; exact hg)) (fun e => .inr (by
      rw [e] at hg; have h1 := HF2.out.size; have e5 : w2.heap.size = g := by simpa using hg
      omega))
    have N4 : ∀ g, (Value.slice a4 (l.length + 4 + key.size) c4).ownBlock = some g → (Value.slice va l.length vc).ownBlock = some g ∨ w.heap.size ≤ g := fun g hg => HA4.out.elim (fun e => N3 g (by rw [← e]; exact hg)) (fun e => .inr (by
      rw [e] at hg; have h1 := HF2.out.size; have h2 := (frown HG3.out).size; have e5 : w3.heap.size = g := by simpa using hg
      omega))
    have N5 : ∀ g, (Value.slice a5 (l.length + 4 + key.size + value.size) c5).ownBlock = some g → (Value.slice va l.length vc).ownBlock = some g ∨ w.heap.size ≤ g := fun g hg => HA5.out.elim (fun e => N4 g (by rw [← e]; exact hg)) (fun e => .inr (by
      rw [e] at hg; have h1 := HF2.out.size; have h2 := (frown HG3.out).size; have h3 := (frown HG4.out).size; have e5 : w4.heap.size = g := by simpa using hg
      omega))
    have hF : Fr (fun k => (Value.slice va l.length vc).ownBlock = some k) w w5 := ((HF2.out.no.trans' (frown HG3.out)).trans (frown HG4.out) (fun k hk => N3 k hk)).trans (frown HG5.out) (fun k hk => N4 k hk)
    refine ⟨a5, c5, by rw [hlen]; rfl, by rw [hlen, hcells]; exact HO5.out, hF, by rw [hlen]; exact N5⟩
end Go.Proofs.YtflfmkokfbgclaaGreat.ST

namespace Go.Proofs.YtflfmkokfbgclaaGreat.ST
set_option maxRecDepth 100000
open Go.RowKit K

/-- A byte of a string, as a number. -/
def byt (s : S) (i : Nat) : Nat := (s.data.toList.getD i 0).toNat
/-- The change that a string begins with, and what follows. -/
def cutS (s : S) : Option (Ch × S) :=
  if s.size < 4 ∨ 1 < byt s 0 ∨ s.size < 4 + byt s 1 + byt s 2 + 256 * byt s 3 then none else
  let c : Ch := ⟨s.extract 4 (4 + byt s 1), s.extract (4 + byt s 1) (4 + byt s 1 + byt s 2 + 256 * byt s 3), decide (byt s 0 = 1)⟩
  if c.may then some (c, s.extract (4 + byt s 1 + byt s 2 + 256 * byt s 3) s.size) else none
def noCh : Ch := ⟨⟨#[]⟩, ⟨#[]⟩, false⟩
def cutV (r : Option (Ch × S)) : Value := match r with
  | some (c, rest) => .tuple #[c.agg, .string rest, .bool true]
  | none => .tuple #[noCh.agg, .string ⟨#[]⟩, .bool false]
theorem byt_lt (s : S) (i : Nat) : byt s i < 256 := UInt8.toNat_lt _
theorem index_str (s : S) (i : Nat) (h : i < s.size) (w : World) : (Instr.index 9 (.string s) (.int .i64 (i : Int))).run Tryz.prog w = .ok (.int .u8 (byt s i : Int)) w := by
  rw [Go.run_index_string (P := Tryz.prog) w 9 s .i64 (i : Int) Tryz.underlying9]
  have h1 : (0 : Int) ≤ (i : Int) ∧ (i : Int) < s.size := ⟨by omega, by omega⟩
  rw [dif_pos h1]
  have h2 : (s[(i : Int).toNat]'(by omega)) = s.data.toList.getD i 0 := by
    have h3 : i < s.data.toList.length := by simpa using h
    rw [List.getD_eq_getElem?_getD, List.getElem?_eq_getElem h3]
    rfl
  rw [h2]; rfl
theorem zeroCh (w : World) : (zeroValue 55).run Tryz.prog w = .ok (.agg #[.string ⟨#[]⟩, .string ⟨#[]⟩, .bool false]) w := by kernel_rfl
theorem infoCh : (Tryz.prog.info? 55).map (·.size) = some 3 := by kernel_rfl
theorem buildCh0 (w : World) : (Instr.build 55 #[]).run Tryz.prog w = .ok (.agg #[.string ⟨#[]⟩, .string ⟨#[]⟩, .bool false]) w := by kernel_rfl
set_option maxHeartbeats 8000000 in
theorem cut_any (s : S) (w : World) (hs : s.size ≤ 140737488351232) : Calls Tryz.prog 29 #[.string s] w fun e w' => e = .returned (cutV (cutS s)) ∧ Fr No w w' := by
  have hsi : (s.size : Int) ≤ 140737488351232 := by omega
  obtain ⟨r, hr⟩ : ∃ r, cutS s = r := ⟨_, rfl⟩
  have HR : Hid (cutS s = r) := hid hr
  have HS := hid hs
  rw [hr]
  clear hr hs
  by_cases h4 : s.size < 4
  · have h4i : (s.size : Int) < 4 := by omega
    have hrn : r = none := by rw [← HR.out]; unfold cutS; rw [if_pos (.inl h4)]
    have HRN := hid hrn
    clear hrn h4
    have hbc := buildCh0
    go_enter Tryz.func29, Tryz.ntmps29
    go_wp2_with (first | ((with_reducible show wpList _ _ _ (⟨_, .alloc 55, _, _, _, _⟩ :: _) _ _); refine wpL_alloc rfl _ rfl _ zeroCh [.string ⟨#[]⟩, .string ⟨#[]⟩, .bool false] rfl ?_; intro w1 HB1 F1 HS1) | ((with_reducible show wpList _ _ _ (⟨_, .store 55 _ _, _, _, _, _⟩ :: _) _ _); refine TR.wpL_storeV rfl _ _ _ rfl w.heap.size 0 (.agg #[.string ⟨#[]⟩, .string ⟨#[]⟩, .bool false]) [.string ⟨#[]⟩, .string ⟨#[]⟩, .bool false] rfl rfl rfl _ _ HB1.out (by simp) infoCh (by intro u hu; simp at hu; rcases hu with rfl | rfl <;> rfl) ?_; intro w2 HB2 F2 HS2; have HB2' : Hid (Blk w2 w.heap.size 55 [.string ⟨#[]⟩, .string ⟨#[]⟩, .bool false]) := hid (by have h := HB2.out; simpa [spl] using h)))
    refine ret_cell3 rfl _ rfl HB2'.out Tryz.underlying55 rfl infoCh rfl ?_
    exact ⟨by rw [HRN.out]; rfl, F1.out.trans F2.out (fun k hk => .inr (Nat.le_of_eq hk.symm))⟩
  have h4i : (4 : Int) ≤ s.size := by omega
  have hget : ∀ i (h : i < s.size), (s[i]'h).toNat = byt s i := fun i h => by
    have h3 : i < s.data.toList.length := by simpa using h
    unfold byt
    rw [List.getD_eq_getElem?_getD, List.getElem?_eq_getElem h3]
    rfl
  have hz0 : (s[0]'(by omega)).toNat = byt s 0 := hget 0 (by omega)
  by_cases hb0 : 1 < byt s 0
  · have hb0i : (1 : Int) < (byt s 0 : Int) := by omega
    have hrn : r = none := by rw [← HR.out]; unfold cutS; rw [if_pos (.inr (.inl hb0))]
    have HRN := hid hrn
    clear hrn hb0 hget
    have hbc := buildCh0
    go_enter Tryz.func29, Tryz.ntmps29
    go_wp2_with (first | ((with_reducible show wpList _ _ _ (⟨_, .alloc 55, _, _, _, _⟩ :: _) _ _); refine wpL_alloc rfl _ rfl _ zeroCh [.string ⟨#[]⟩, .string ⟨#[]⟩, .bool false] rfl ?_; intro w1 HB1 F1 HS1) | ((with_reducible show wpList _ _ _ (⟨_, .store 55 _ _, _, _, _, _⟩ :: _) _ _); refine TR.wpL_storeV rfl _ _ _ rfl w.heap.size 0 (.agg #[.string ⟨#[]⟩, .string ⟨#[]⟩, .bool false]) [.string ⟨#[]⟩, .string ⟨#[]⟩, .bool false] rfl rfl rfl _ _ HB1.out (by simp) infoCh (by intro u hu; simp at hu; rcases hu with rfl | rfl <;> rfl) ?_; intro w2 HB2 F2 HS2; have HB2' : Hid (Blk w2 w.heap.size 55 [.string ⟨#[]⟩, .string ⟨#[]⟩, .bool false]) := hid (by have h := HB2.out; simpa [spl] using h)))
    refine ret_cell3 rfl _ rfl HB2'.out Tryz.underlying55 rfl infoCh rfl ?_
    exact ⟨by rw [HRN.out]; rfl, F1.out.trans F2.out (fun k hk => .inr (Nat.le_of_eq hk.symm))⟩
  have hb0i : (byt s 0 : Int) ≤ 1 := by omega
  have hz1 : (s[1]'(by omega)).toNat = byt s 1 := hget 1 (by omega)
  have hz2 : (s[2]'(by omega)).toNat = byt s 2 := hget 2 (by omega)
  have hz3 : (s[3]'(by omega)).toNat = byt s 3 := hget 3 (by omega)
  have B0 := hid (byt_lt s 0); have B1 := hid (byt_lt s 1); have B2 := hid (byt_lt s 2); have B3 := hid (byt_lt s 3)
  have HC : Hid (r = if s.size < 4 + byt s 1 + byt s 2 + 256 * byt s 3 then none else
      let c : Ch := ⟨s.extract 4 (4 + byt s 1), s.extract (4 + byt s 1) (4 + byt s 1 + byt s 2 + 256 * byt s 3), decide (byt s 0 = 1)⟩
      if c.may then some (c, s.extract (4 + byt s 1 + byt s 2 + 256 * byt s 3) s.size) else none) := hid (by
    rw [← HR.out]; unfold cutS
    by_cases h5 : s.size < 4 + byt s 1 + byt s 2 + 256 * byt s 3
    · rw [if_pos (.inr (.inr h5)), if_pos h5]
    · rw [if_neg (by omega), if_neg h5])
  have X1 := hid (fun w => index_str s 1 (by omega) w); have X2 := hid (fun w => index_str s 2 (by omega) w); have X3 := hid (fun w => index_str s 3 (by omega) w); have X0 := hid (fun w => index_str s 0 (by omega) w)
  obtain ⟨b0, e0⟩ : ∃ b, byt s 0 = b := ⟨_, rfl⟩
  obtain ⟨b1, e1⟩ : ∃ b, byt s 1 = b := ⟨_, rfl⟩
  obtain ⟨b2, e2⟩ : ∃ b, byt s 2 = b := ⟨_, rfl⟩
  obtain ⟨b3, e3⟩ : ∃ b, byt s 3 = b := ⟨_, rfl⟩
  rw [e0] at hz0 hb0i B0 HC X0
  rw [e1] at hz1 B1 HC X1
  rw [e2] at hz2 B2 HC X2
  rw [e3] at hz3 B3 HC X3
  have hb1i : (b1 : Int) < 256 := by have := B1.out; omega
  clear hget e0 e1 e2 e3 hb0
  have hbc := buildCh0
  go_enter Tryz.func29, Tryz.ntmps29
  go_wp2_with (first | ((with_reducible show wpList _ _ _ (⟨_, .alloc 55, _, _, _, _⟩ :: _) _ _); refine wpL_alloc rfl _ rfl _ zeroCh [.string ⟨#[]⟩, .string ⟨#[]⟩, .bool false] rfl ?_; intro w1 HB1 F1 HS1) | ((with_reducible show wpList _ _ _ (⟨_, .store 55 _ _, _, _, _, _⟩ :: _) _ _); refine TR.wpL_storeV rfl _ _ _ rfl w.heap.size 0 (.agg #[.string ⟨#[]⟩, .string ⟨#[]⟩, .bool false]) [.string ⟨#[]⟩, .string ⟨#[]⟩, .bool false] rfl rfl rfl _ _ HB1.out (by simp) infoCh (by intro u hu; simp at hu; rcases hu with rfl | rfl <;> rfl) ?_; intro w2 HB2 F2 HS2; have HB2' : Hid (Blk w2 w.heap.size 55 [.string ⟨#[]⟩, .string ⟨#[]⟩, .bool false]) := hid (by have h := HB2.out; simpa [spl] using h)))
  obtain ⟨n1, hn1⟩ : ∃ n, 4 + b1 = n := ⟨_, rfl⟩
  obtain ⟨n2, hn2⟩ : ∃ n, 4 + b1 + b2 + 256 * b3 = n := ⟨_, rfl⟩
  obtain ⟨n3, hn3⟩ : ∃ n, 4 + b1 + b2 = n := ⟨_, rfl⟩
  obtain ⟨n4, hn4⟩ : ∃ n, 256 * b3 = n := ⟨_, rfl⟩
  have WB2 : Hid (IntKind.i64.wrap (b2 : Int) = (b2 : Int)) := hid (L.wrap_small (by omega) (by have := B2.out; omega))
  have WB3 : Hid (IntKind.i64.wrap (b3 : Int) = (b3 : Int)) := hid (L.wrap_small (by omega) (by have := B3.out; omega))
  have W4 : Hid (IntKind.i64.wrap (4 + (b1 : Int) + (b2 : Int)) = (n3 : Int)) := hid ((L.wrap_small (by omega) (by have := B2.out; omega)).trans (by omega))
  have W9 : Hid (IntKind.i64.wrap ((n3 : Int) + (n4 : Int)) = (n2 : Int)) := hid ((L.wrap_small (by omega) (by have := B2.out; have := B3.out; omega)).trans (by omega))
  have W8 : Hid (IntKind.i64.wrap ((b3 : Int) * 256) = (n4 : Int)) := hid ((L.wrap_small (by omega) (by have := B3.out; omega)).trans (by omega))
  have HN1 := hid hn1; have HN2 := hid hn2; have HN3 := hid hn3; have HN4 := hid hn4
  clear hn1 hn2 hn3 hn4
  have hold : Facts.hold [] w1.drew := Facts.nil_hold _
  refine wpD_region hold (by kernel_rfl) 11 rfl ?_
  (refine wpD_plain 0 (v := ?_) rfl (by kernel_rfl) (by kernel_rfl) (by kernel_rfl) (fun _ _ _ h => h) (by rfl) ?_ (by assumption) ?_; rotate_left; (intro _w; go_simp; try with_reducible rfl); simp only [Act.put, List.setIfInBounds_toArray, List.set_cons_zero, List.set_cons_succ])
  (refine wpD_plain 1 (v := ?_) rfl (by kernel_rfl) (by kernel_rfl) (by kernel_rfl) (fun _ _ _ h => h) (by rfl) ?_ (by assumption) ?_; rotate_left; (intro _w; go_simp; try with_reducible rfl); simp only [Act.put, List.setIfInBounds_toArray, List.set_cons_zero, List.set_cons_succ])
  (refine wpD_plain 2 (v := (.int .u8 (b2 : Int))) rfl (by kernel_rfl) (by kernel_rfl) (by kernel_rfl) (fun _ _ _ h => h) (by rfl) ?_ (by assumption) ?_; (intro _w; go_simp; (first | done | exact hz2 | (intro hh; exfalso; omega))); simp only [Act.put, List.setIfInBounds_toArray, List.set_cons_zero, List.set_cons_succ])
  (refine wpD_plain 3 (v := (.int .i64 (b2 : Int))) rfl (by kernel_rfl) (by kernel_rfl) (by kernel_rfl) (fun _ _ _ h => h) (by rfl) ?_ (by assumption) ?_; (intro _w; go_simp; (first | done | exact WB2.out)); simp only [Act.put, List.setIfInBounds_toArray, List.set_cons_zero, List.set_cons_succ])
  (refine wpD_plain 4 (v := (.int .i64 (n3 : Int))) rfl (by kernel_rfl) (by kernel_rfl) (by kernel_rfl) (fun _ _ _ h => h) (by rfl) ?_ (by assumption) ?_; (intro _w; go_simp; (first | done | exact W4.out)); simp only [Act.put, List.setIfInBounds_toArray, List.set_cons_zero, List.set_cons_succ])
  (refine wpD_plain 5 (v := ?_) rfl (by kernel_rfl) (by kernel_rfl) (by kernel_rfl) (fun _ _ _ h => h) (by rfl) ?_ (by assumption) ?_; rotate_left; (intro _w; go_simp; try with_reducible rfl); simp only [Act.put, List.setIfInBounds_toArray, List.set_cons_zero, List.set_cons_succ])
  (refine wpD_plain 6 (v := (.int .u8 (b3 : Int))) rfl (by kernel_rfl) (by kernel_rfl) (by kernel_rfl) (fun _ _ _ h => h) (by rfl) ?_ (by assumption) ?_; (intro _w; go_simp; (first | done | exact hz3 | (intro hh; exfalso; omega))); simp only [Act.put, List.setIfInBounds_toArray, List.set_cons_zero, List.set_cons_succ])
  (refine wpD_plain 7 (v := (.int .i64 (b3 : Int))) rfl (by kernel_rfl) (by kernel_rfl) (by kernel_rfl) (fun _ _ _ h => h) (by rfl) ?_ (by assumption) ?_; (intro _w; go_simp; (first | done | exact WB3.out)); simp only [Act.put, List.setIfInBounds_toArray, List.set_cons_zero, List.set_cons_succ])
  (refine wpD_plain 8 (v := (.int .i64 (n4 : Int))) rfl (by kernel_rfl) (by kernel_rfl) (by kernel_rfl) (fun _ _ _ h => h) (by rfl) ?_ (by assumption) ?_; (intro _w; go_simp; (first | done | exact W8.out | (have := B3.out; have := HN4.out; omega))); simp only [Act.put, List.setIfInBounds_toArray, List.set_cons_zero, List.set_cons_succ])
  (refine wpD_plain 9 (v := (.int .i64 (n2 : Int))) rfl (by kernel_rfl) (by kernel_rfl) (by kernel_rfl) (fun _ _ _ h => h) (by rfl) ?_ (by assumption) ?_; (intro _w; go_simp; (first | done | exact W9.out)); simp only [Act.put, List.setIfInBounds_toArray, List.set_cons_zero, List.set_cons_succ])
  (refine wpD_plain 10 (v := ?_) rfl (by kernel_rfl) (by kernel_rfl) (by kernel_rfl) (fun _ _ _ h => h) (by rfl) ?_ (by assumption) ?_; rotate_left; (intro _w; go_simp; try with_reducible rfl); simp only [Act.put, List.setIfInBounds_toArray, List.set_cons_zero, List.set_cons_succ])
  clear hold
  refine wpD_done (by kernel_rfl) ?_ _
  try simp only [Act.put, List.setIfInBounds_toArray, List.set_cons_zero, List.set_cons_succ]
  by_cases h5 : s.size < n2
  · have h5i : (s.size : Int) < (n2 : Int) := by omega
    have hrn : r = none := by rw [HC.out, if_pos (by have := HN2.out; omega)]
    have HRN := hid hrn
    have HB1d := HB1
    clear hrn h5
    go_wp2_with (first | ((with_reducible show wpList _ _ _ (⟨_, .store 55 _ _, _, _, _, _⟩ :: _) _ _); refine TR.wpL_storeV rfl _ _ _ rfl w.heap.size 0 (.agg #[.string ⟨#[]⟩, .string ⟨#[]⟩, .bool false]) [.string ⟨#[]⟩, .string ⟨#[]⟩, .bool false] rfl rfl rfl _ _ HB1d.out (by simp) infoCh (by intro u hu; simp at hu; rcases hu with rfl | rfl <;> rfl) ?_; intro w2 HB2 F2 HS2; have HB2' : Hid (Blk w2 w.heap.size 55 [.string ⟨#[]⟩, .string ⟨#[]⟩, .bool false]) := hid (by have h := HB2.out; simpa [spl] using h)))
    refine ret_cell3 rfl _ rfl HB2'.out Tryz.underlying55 rfl infoCh rfl ?_
    exact ⟨by rw [HRN.out]; rfl, (F1.out.drew).trans F2.out (fun k hk => .inr (Nat.le_of_eq (Eq.symm hk)))⟩
  have h5i : (n2 : Int) ≤ (s.size : Int) := by omega
  have hn12 : (n1 : Int) ≤ (n2 : Int) := by have := HN1.out; have := HN2.out; omega
  have hn14 : (4 : Int) ≤ (n1 : Int) := by have := HN1.out; omega
  obtain ⟨ks, hks⟩ : ∃ k : S, s.extract 4 n1 = k := ⟨_, rfl⟩
  obtain ⟨vs, hvs⟩ : ∃ k : S, s.extract n1 n2 = k := ⟨_, rfl⟩
  obtain ⟨rs, hrs⟩ : ∃ k : S, s.extract n2 s.size = k := ⟨_, rfl⟩
  have HKS := hid hks; have HVS := hid hvs; have HRS := hid hrs
  have HCC : Hid (r = if (⟨ks, vs, decide (b0 = 1)⟩ : Ch).may then some (⟨ks, vs, decide (b0 = 1)⟩, rs) else none) := hid (by
    rw [HC.out, if_neg (by have := HN2.out; omega), HN2.out, HN1.out, hks, hvs, hrs])
  have hkl : ks.size ≤ 140737488351232 ∧ vs.size ≤ 140737488351232 := by
    rw [← hks, ← hvs]
    simp
    omega
  have HKL := hid hkl
  have hni : 4 + (b1 : Int) = (n1 : Int) := by have := HN1.out; omega
  have S1 : Hid (∀ w : World, (Instr.slice 9 (.string s) (some (.int .i64 4)) (some (.int .i64 (4 + (b1 : Int)))) none).run Tryz.prog w = .ok (.string ks) w) := hid (fun w => by
    rw [hni]
    have := Go.run_slice_string (P := Tryz.prog) (w := w) 9 s .i64 .i64 4 (n1 : Int) Tryz.underlying9 (by omega) (by omega) (by omega)
    rw [this, ← hks]; rfl)
  have S2 : Hid (∀ w : World, (Instr.slice 9 (.string s) (some (.int .i64 (4 + (b1 : Int)))) (some (.int .i64 (n2 : Int))) none).run Tryz.prog w = .ok (.string vs) w) := hid (fun w => by
    rw [hni]
    have := Go.run_slice_string (P := Tryz.prog) (w := w) 9 s .i64 .i64 (n1 : Int) (n2 : Int) Tryz.underlying9 (by omega) (by omega) (by omega)
    rw [this, ← hvs]; rfl)
  have hn12' : 4 + (b1 : Int) ≤ (n2 : Int) := by omega
  clear hni hn12 hn14
  clear hkl hks hvs hrs h5
  obtain ⟨gb, hgb⟩ : ∃ g, decide (b0 = 1) = g := ⟨_, rfl⟩
  rw [hgb] at HCC
  have HGB : Hid (((b0 : Int) == 1) = gb) := hid (by rw [← hgb]; by_cases h : b0 = 1 <;> simp [h] <;> omega)
  clear hgb
  go_wp2_with fail
  have hold : Facts.hold [] w1.drew.drew := Facts.nil_hold _
  refine wpD_region hold (by kernel_rfl) 12 rfl ?_
  (refine wpD_plain 0 (v := ?_) rfl (by kernel_rfl) (by kernel_rfl) (by kernel_rfl) (fun _ _ _ h => h) (by rfl) ?_ (by assumption) ?_; rotate_left; (intro _w; go_simp; try with_reducible rfl); simp only [Act.put, List.setIfInBounds_toArray, List.set_cons_zero, List.set_cons_succ])
  (refine wpD_plain 1 (v := ?_) rfl (by kernel_rfl) (by kernel_rfl) (by kernel_rfl) (fun _ _ _ h => h) (by rfl) ?_ (by assumption) ?_; rotate_left; (intro _w; go_simp; try with_reducible rfl); simp only [Act.put, List.setIfInBounds_toArray, List.set_cons_zero, List.set_cons_succ])
  (refine wpD_plain 2 (v := (.string ks)) rfl (by kernel_rfl) (by kernel_rfl) (by kernel_rfl) (fun _ _ _ h => h) (by rfl) ?_ (by assumption) ?_; (intro _w; go_simp; (first | done | (rw [S1.out _w]; rfl))); simp only [Act.put, List.setIfInBounds_toArray, List.set_cons_zero, List.set_cons_succ])
  (refine wpD_plain 3 (v := ?_) rfl (by kernel_rfl) (by kernel_rfl) (by kernel_rfl) (fun _ _ _ h => h) (by rfl) ?_ (by assumption) ?_; rotate_left; (intro _w; go_simp; try with_reducible rfl); simp only [Act.put, List.setIfInBounds_toArray, List.set_cons_zero, List.set_cons_succ])
  (refine wpD_plain 4 (v := ?_) rfl (by kernel_rfl) (by kernel_rfl) (by kernel_rfl) (fun _ _ _ h => h) (by rfl) ?_ (by assumption) ?_; rotate_left; (intro _w; go_simp; try with_reducible rfl); simp only [Act.put, List.setIfInBounds_toArray, List.set_cons_zero, List.set_cons_succ])
  (refine wpD_plain 5 (v := ?_) rfl (by kernel_rfl) (by kernel_rfl) (by kernel_rfl) (fun _ _ _ h => h) (by rfl) ?_ (by assumption) ?_; rotate_left; (intro _w; go_simp; try with_reducible rfl); simp only [Act.put, List.setIfInBounds_toArray, List.set_cons_zero, List.set_cons_succ])
  (refine wpD_plain 6 (v := (.string vs)) rfl (by kernel_rfl) (by kernel_rfl) (by kernel_rfl) (fun _ _ _ h => h) (by rfl) ?_ (by assumption) ?_; (intro _w; go_simp; (first | done | (rw [S2.out _w]; rfl))); simp only [Act.put, List.setIfInBounds_toArray, List.set_cons_zero, List.set_cons_succ])
  (refine wpD_plain 7 (v := ?_) rfl (by kernel_rfl) (by kernel_rfl) (by kernel_rfl) (fun _ _ _ h => h) (by rfl) ?_ (by assumption) ?_; rotate_left; (intro _w; go_simp; try with_reducible rfl); simp only [Act.put, List.setIfInBounds_toArray, List.set_cons_zero, List.set_cons_succ])
  (refine wpD_plain 8 (v := (.int .u8 (b0 : Int))) rfl (by kernel_rfl) (by kernel_rfl) (by kernel_rfl) (fun _ _ _ h => h) (by rfl) ?_ (by assumption) ?_; (intro _w; go_simp; skip); simp only [Act.put, List.setIfInBounds_toArray, List.set_cons_zero, List.set_cons_succ])
  (refine wpD_plain 9 (v := (.bool gb)) rfl (by kernel_rfl) (by kernel_rfl) (by kernel_rfl) (fun _ _ _ h => h) (by rfl) ?_ (by assumption) ?_; (intro _w; go_simp; (first | done | exact HGB.out)); simp only [Act.put, List.setIfInBounds_toArray, List.set_cons_zero, List.set_cons_succ])
  (refine wpD_plain 10 (v := (.agg #[.string ks, .string vs, .bool gb])) rfl (by kernel_rfl) (by kernel_rfl) (by kernel_rfl) (fun _ _ _ h => h) (by rfl) ?_ (by assumption) ?_; (intro _w; go_simp; skip); simp only [Act.put, List.setIfInBounds_toArray, List.set_cons_zero, List.set_cons_succ])
  refine wpD_only 11 [] rfl (by kernel_rfl) (by kernel_rfl) (by rfl) (fun K11 hK11 => ?_)
  refine TR.wp_storeV _ _ _ rfl w.heap.size 0 (.agg #[.string ks, .string vs, .bool gb]) [.string ks, .string vs, .bool gb] (by rfl) (by rfl) rfl _ _ HB1.out.drew.drew (by simp) infoCh (by intro u hu; simp at hu; rcases hu with rfl | rfl | rfl <;> rfl) ?_
  intro w3 HB3 F3 HS3
  refine hK11 _ _ (Facts.nil_hold _) ?_
  clear hK11 K11 hold
  simp only [Act.put, List.setIfInBounds_toArray, List.set_cons_zero, List.set_cons_succ]
  refine wpD_done (by kernel_rfl) ?_ _
  have HB3' : Hid (Blk w3 w.heap.size 55 [.string ks, .string vs, .bool gb]) := hid (by have h := HB3.out; simpa [spl] using h)
  have HF3 : Hid (Fr No w w3) := hid ((F1.out.drew.drew).trans F3.out (fun k hk => .inr (Nat.le_of_eq (Eq.symm hk))))
  go_wp2_with ((with_reducible show wpList _ _ _ (⟨_, .load 55 _, _, _, _, _⟩ :: _) _ _); refine wpL_load rfl _ _ rfl w.heap.size 0 rfl [.string ks, .string vs, .bool gb] _ (HB3'.out.range 0 _ rfl) rfl rfl infoCh ?_)
  refine (allowed_any ⟨ks, vs, gb⟩ w3 (by have := HKL.out.1; simp only; omega) (by have := HKL.out.2; simp only; omega)).mono ?_
  rintro e w4 ⟨rfl, f4⟩
  have HF4 := hid f4
  have HB4 := hid (HB3'.out.fr f4 id)
  clear f4
  cases hm : (⟨ks, vs, gb⟩ : Ch).may with
  | false =>
    have hrn : r = none := by rw [HCC.out, hm]; rfl
    have HRN := hid hrn
    clear hrn hm
    go_wp2_with (first | ((with_reducible show wpList _ _ _ (⟨_, .store 55 _ _, _, _, _, _⟩ :: _) _ _); refine TR.wpL_storeV rfl _ _ _ rfl w.heap.size 0 (.agg #[.string ⟨#[]⟩, .string ⟨#[]⟩, .bool false]) [.string ⟨#[]⟩, .string ⟨#[]⟩, .bool false] rfl rfl rfl _ _ HB4.out (by simp) infoCh (by intro u hu; simp at hu; rcases hu with rfl | rfl <;> rfl) ?_; intro w2 HB2 F2 HS2; have HB2' : Hid (Blk w2 w.heap.size 55 [.string ⟨#[]⟩, .string ⟨#[]⟩, .bool false]) := hid (by have h := HB2.out; simpa [spl] using h)))
    refine ret_cell3 rfl _ rfl HB2'.out Tryz.underlying55 rfl infoCh rfl ?_
    exact ⟨by rw [HRN.out]; rfl, (HF3.out.trans' HF4.out).trans F2.out (fun k hk => .inr (Nat.le_of_eq (Eq.symm hk)))⟩
  | true =>
    have hrn : r = some (⟨ks, vs, gb⟩, rs) := by rw [HCC.out, hm]; rfl
    have HRN := hid hrn
    clear hrn hm
    have hrg : w4.rangeAt w.heap.size 0 [.string ks, .string vs, .bool gb] := HB4.out.range 0 _ rfl
    go_wp2_with fail
    have hold : Facts.hold [(0, fun w' => w'.rangeAt w.heap.size 0 [.string ks, .string vs, .bool gb])] w4.drew := Facts.cons_hold hrg (Facts.nil_hold _)
    refine wpD_region hold (by kernel_rfl) 7 rfl ?_
    (refine wpD_take 0 _ rfl (by kernel_rfl) (by kernel_rfl) (by kernel_rfl) (fun _ _ _ h => h) List.mem_cons_self (by rfl) (exec_load _ _ rfl w.heap.size 0 rfl _ _ rfl rfl infoCh) (by assumption) ?_; simp only [Act.put, List.setIfInBounds_toArray, List.set_cons_zero, List.set_cons_succ])
    (refine wpD_plain 1 (v := ?_) rfl (by kernel_rfl) (by kernel_rfl) (by kernel_rfl) (fun _ _ _ h => h) (by rfl) ?_ (by assumption) ?_; rotate_left; (intro _w; go_simp; try with_reducible rfl); simp only [Act.put, List.setIfInBounds_toArray, List.set_cons_zero, List.set_cons_succ])
    (refine wpD_plain 2 (v := ?_) rfl (by kernel_rfl) (by kernel_rfl) (by kernel_rfl) (fun _ _ _ h => h) (by rfl) ?_ (by assumption) ?_; rotate_left; (intro _w; go_simp; try with_reducible rfl); simp only [Act.put, List.setIfInBounds_toArray, List.set_cons_zero, List.set_cons_succ])
    (refine wpD_plain 3 (v := (.string rs)) rfl (by kernel_rfl) (by kernel_rfl) (by kernel_rfl) (fun _ _ _ h => h) (by rfl) ?_ (by assumption) ?_; (intro _w; go_simp; exact HRS.out); simp only [Act.put, List.setIfInBounds_toArray, List.set_cons_zero, List.set_cons_succ])
    refine wpD_only 4 [] rfl (by kernel_rfl) (by kernel_rfl) (by rfl) (fun K4 hK4 => ?_)
    refine TR.wp_storeV _ _ _ rfl w.heap.size 0 (.agg #[.string ks, .string vs, .bool gb]) [.string ks, .string vs, .bool gb] (by rfl) (by rfl) rfl _ _ HB4.out.drew (by simp) infoCh (by intro u hu; simp at hu; rcases hu with rfl | rfl | rfl <;> rfl) ?_
    intro w5 HB5 F5 HS5
    refine hK4 _ _ (Facts.nil_hold _) ?_
    clear hK4 K4 hold
    simp only [Act.put, List.setIfInBounds_toArray, List.set_cons_zero, List.set_cons_succ]
    have hold : Facts.hold [] w5 := Facts.nil_hold _
    (refine wpD_plain 5 (v := ?_) rfl (by kernel_rfl) (by kernel_rfl) (by kernel_rfl) (fun _ _ _ h => h) (by rfl) ?_ (by assumption) ?_; rotate_left; (intro _w; go_simp; try with_reducible rfl); simp only [Act.put, List.setIfInBounds_toArray, List.set_cons_zero, List.set_cons_succ])
    (refine wpD_plain 6 (v := ?_) rfl (by kernel_rfl) (by kernel_rfl) (by kernel_rfl) (fun _ _ _ h => h) (by rfl) ?_ (by assumption) ?_; rotate_left; (intro _w; go_simp; try with_reducible rfl); simp only [Act.put, List.setIfInBounds_toArray, List.set_cons_zero, List.set_cons_succ])
    clear hold
    refine wpD_done (by kernel_rfl) ?_ _
    try simp only [Act.put, List.setIfInBounds_toArray, List.set_cons_zero, List.set_cons_succ]
    have HB5' : Hid (Blk w5 w.heap.size 55 [.string ks, .string vs, .bool gb]) := hid (by have h := HB5.out; simpa [spl] using h)
    go_wp2_with fail
    refine ret_cell3 rfl _ rfl HB5'.out Tryz.underlying55 rfl infoCh rfl ?_
    exact ⟨by rw [HRN.out]; rfl, ((HF3.out.trans' HF4.out).drew).trans F5.out (fun k hk => .inr (Nat.le_of_eq (Eq.symm hk)))⟩
end Go.Proofs.YtflfmkokfbgclaaGreat.ST

namespace Go.Proofs.YtflfmkokfbgclaaGreat.ST
set_option maxRecDepth 100000
open Go.RowKit K

def chs (l : List Ch) : List Value := (l.map Ch.cells).flatten
/-- A list of changes in memory. -/
def ChIn (w : World) (E : Nat → Prop) (v : Value) (l : List Ch) : Prop := ∃ a c, v = .slice a l.length c ∧ (l = [] ∨ ∃ g o, a = some ⟨g, o, none⟩ ∧ E g ∧ g < w.heap.size ∧ w.rangeAt g o (chs l))
theorem ChIn.fr {w w' : World} {E D : Nat → Prop} {v : Value} {l : List Ch} (h : ChIn w E v l) (hf : Fr D w w') (hd : ∀ k, E k → k < w.heap.size → ¬ D k) : ChIn w' E v l := by
  obtain ⟨a, c, e, h⟩ := h
  exact ⟨a, c, e, h.imp id fun ⟨g, o, e, he, hg, hr⟩ => ⟨g, o, e, he, Nat.lt_of_lt_of_le hg hf.size, hf.range hr (hd g he hg)⟩⟩
theorem chs_get : ∀ (l : List Ch) (j : Nat) (x : Ch), l[j]? = some x → ∀ i u, x.cells[i]? = some u → (chs l)[j * 3 + i]? = some u
  | [], _, _, h, _, _, _ => by simp at h
  | y :: r, 0, x, h, i, u, hu => by
    have e : y = x := by simpa using h
    subst e
    have hi : i < y.cells.length := (List.getElem?_eq_some_iff.1 hu).1
    show (y.cells ++ chs r)[0 * 3 + i]? = some u
    rw [List.getElem?_append_left (by omega), show 0 * 3 + i = i by omega]
    exact hu
  | y :: r, j + 1, x, h, i, u, hu => by
    have h2 := chs_get r j x (by simpa using h) i u hu
    show (y.cells ++ chs r)[(j + 1) * 3 + i]? = some u
    have hl : y.cells.length = 3 := rfl
    rw [List.getElem?_append_right (by omega), hl, show (j + 1) * 3 + i - 3 = j * 3 + i by omega]
    exact h2
theorem range_ch {w : World} {g o : Nat} {l : List Ch} (h : w.rangeAt g o (chs l)) {j : Nat} {x : Ch} (hx : l[j]? = some x) : w.rangeAt g (o + j * 3) [.string x.key, .string x.value, .bool x.gone] := fun i u hu => by
  have := h (j * 3 + i) u (chs_get l j x hx i u hu)
  rwa [show o + (j * 3 + i) = o + j * 3 + i by omega] at this
/-- The record of changes. -/
def recS (l : List Ch) : List UInt8 := (l.map Ch.bytes).flatten
def encS (l : List Ch) : Int × List UInt8 :=
  if 32 < l.length then (2, []) else if l.all Ch.may then (if 2000 < (recS l).length then (2, []) else (0, recS l)) else (40, [])
theorem may_sizes {c : Ch} (h : c.may = true) : c.key.size ≤ 64 ∧ c.value.size ≤ 400 ∧ 1 ≤ c.key.size := by
  simp only [Ch.may, Bool.and_eq_true, Bool.not_eq_true', decide_eq_false_iff_not, decide_eq_true_eq] at h
  omega
theorem recS_snoc (l : List Ch) (x : Ch) : recS (l ++ [x]) = recS l ++ x.bytes := by simp [recS]
theorem recS_le : ∀ (l : List Ch), l.all Ch.may = true → (recS l).length ≤ 468 * l.length
  | [], _ => by simp [recS]
  | x :: r, h => by
    simp only [List.all_cons, Bool.and_eq_true] at h
    have h1 := recS_le r h.2
    have h2 := may_sizes h.1
    have h3 := bytes_length x
    show (x.bytes ++ recS r).length ≤ _
    rw [List.length_append, List.length_cons]
    omega
set_option maxHeartbeats 8000000 in
theorem encode_any (v : Value) (l : List Ch) (E : Nat → Prop) (w : World) (h : ChIn w E v l) (hs : ∀ x ∈ l, x.key.size ≤ 140737488351232 ∧ x.value.size ≤ 140737488351232) (hl : l.length ≤ 140737488351232) :
    Calls Tryz.prog 8 #[v] w fun e w' => e = .returned (.tuple #[L.str (encS l).2, .int .i64 (encS l).1]) ∧ Fr No w w' := by
  obtain ⟨a, c, rfl, h⟩ := h
  have H := hid h; have HS := hid hs
  have hli : (l.length : Int) ≤ 140737488351232 := by omega
  obtain ⟨r, hr⟩ : ∃ r, encS l = r := ⟨_, rfl⟩
  have HR := hid hr
  rw [hr]
  clear h hs hl hr
  by_cases h32 : 32 < l.length
  · have h32i : (32 : Int) < l.length := by omega
    have hrn : r = (2, []) := by rw [← HR.out]; unfold encS; rw [if_pos h32]
    have HRN := hid hrn
    clear hrn h32
    go_enter Tryz.func8, Tryz.ntmps8
    go_wp2_with fail
    go_ret2
    rw [HRN.out]
    exact ⟨rfl, Fr.refl _ _⟩
  have h32i : (l.length : Int) ≤ 32 := by omega
  have h32n : l.length ≤ 32 := by omega
  have HN := hid h32n
  have HR2 : Hid (r = if l.all Ch.may then (if 2000 < (recS l).length then (2, []) else (0, recS l)) else (40, [])) := hid (by rw [← HR.out]; unfold encS; rw [if_neg h32])
  clear h32 h32n
  go_enter Tryz.func8, Tryz.ntmps8
  go_wp2_with fail
  go_loopw [4, 12] (fun rv iv wr => ∃ (j : Nat) (ra : Option Addr) (rc : Nat), j ≤ l.length ∧ iv = .int .i64 (j : Int) ∧ rv = .slice ra (recS (l.take j)).length rc ∧ Hid ((l.take j).all Ch.may = true) ∧ Hid (wr.ownsRow w.heap.size 5 1 rv (recS (l.take j)).length (u8s (recS (l.take j)))) ∧ Hid (Fr No w wr)) (fun _ iv _ => l.length - (intOf iv).toNat)
  case atStart => exact ⟨0, none, 0, by omega, rfl, rfl, hid rfl, hid (World.ownsRow_nil _ _ _ _), hid (Fr.refl _ _)⟩
  case round =>
    obtain ⟨j, ra, rc, hj, rfl, rfl, HA, HO, HF⟩ := hrel
    have hle := recS_le _ HA.out
    have htl : (l.take j).length ≤ 32 := by have := List.length_take_le j l; have := HN.out; omega
    have hrl : (recS (l.take j)).length ≤ 14976 := by omega
    have HRL := hid hrl
    have hrli : ((recS (l.take j)).length : Int) ≤ 14976 := by omega
    clear hle htl hrl
    by_cases hlt : j < l.length
    · have hlt' : (j : Int) < (l.length : Int) := by omega
      obtain ⟨x, hx⟩ : ∃ x, l[j]? = some x := ⟨_, List.getElem?_eq_getElem hlt⟩
      have htk : l.take (j + 1) = l.take j ++ [x] := by rw [List.take_add_one, hx]; rfl
      have HTK := hid htk
      have HXM : Hid (x ∈ l) := hid (List.mem_of_getElem? hx)
      obtain ⟨g, o, rfl, HG⟩ : ∃ g o, a = some ⟨g, o, none⟩ ∧ Hid (wr.rangeAt g (o + j * 3) [.string x.key, .string x.value, .bool x.gone]) := by
        rcases H.out with e | ⟨g, o, e, _, _, hr⟩
        · rw [e] at hlt; simp at hlt
        · exact ⟨g, o, e, hid (range_ch (HF.out.range hr id) hx)⟩
      have HONE : Hid (∀ u ∈ [Value.string x.key, .string x.value, .bool x.gone], u.oneCell' = true) := hid (by intro u hu; simp at hu; rcases hu with rfl | rfl | rfl <;> rfl)
      have HTQ : Hid (recS (l.take (j + 1)) = recS (l.take j) ++ x.bytes) := hid (by rw [htk, recS_snoc])
      have HTA : Hid ((l.take (j + 1)).all Ch.may = x.may) := hid (by rw [htk, List.all_append, HA.out]; simp)
      generalize recS (l.take j) = q at HO HRL hrli HTQ ⊢
      clear htk hx
      go_wp2_with (first
        | ((with_reducible show wpList _ _ _ (⟨_, .load 55 _, _, _, _, _⟩ :: _) _ _); have := HBx; refine wpL_load rfl _ _ rfl wr.heap.size 0 rfl [.string x.key, .string x.value, .bool x.gone] _ (HBx.out.range 0 _ rfl) rfl rfl infoCh ?_)
        | ((with_reducible show wpList _ _ _ (⟨_, .load 55 _, _, _, _, _⟩ :: _) _ _); refine wpL_load rfl _ _ rfl g (o + j * 3) rfl [.string x.key, .string x.value, .bool x.gone] _ HG.out rfl rfl infoCh ?_)
        | ((with_reducible show wpList _ _ _ (⟨_, .alloc 55, _, _, _, _⟩ :: _) _ _); refine wpL_alloc rfl _ rfl _ zeroCh [.string ⟨#[]⟩, .string ⟨#[]⟩, .bool false] rfl ?_; intro w4 HB4 F4 HS4)
        | ((with_reducible show wpList _ _ _ (⟨_, .store 55 _ _, _, _, _, _⟩ :: _) _ _); refine TR.wpL_storeV rfl _ _ _ rfl wr.heap.size 0 (.agg #[.string x.key, .string x.value, .bool x.gone]) [.string x.key, .string x.value, .bool x.gone] rfl rfl rfl _ _ HB4.out (by simp) infoCh HONE.out ?_; intro w5 HB5 F5 HS5;
            have HBx : Hid (Blk w5 wr.heap.size 55 [.string x.key, .string x.value, .bool x.gone]) := hid (by have h := HB5.out; simpa [spl] using h);
            have HF5 : Hid (Fr No wr w5) := hid (F4.out.trans F5.out (fun k hk => .inr (Nat.le_of_eq (Eq.symm hk))))))
      have hsz := HS.out x HXM.out
      refine (allowed_any x w5 (by omega) (by omega)).mono ?_
      rintro e w6 ⟨rfl, f6⟩
      have HF6 := hid f6
      clear f6 hsz
      cases hm : x.may with
      | false =>
        have hrn : r = (40, []) := by
          rw [HR2.out, if_neg]
          intro h
          have h1 := List.all_eq_true.1 h x HXM.out
          rw [hm] at h1; cases h1
        have HRN := hid hrn
        clear hrn hm
        go_wp2_with fail
        go_ret2
        rw [HRN.out]
        exact ⟨rfl, (HF.out.trans' HF5.out).trans' HF6.out⟩
      | true =>
        rw [hm] at HTA
        have hms := may_sizes hm
        have HMS := hid hms
        have HBx' := HBx
        clear hm hms HBx
        have HBx := hid (HBx'.out.fr HF6.out id)
        have HO6 : Hid (w6.ownsRow w.heap.size 5 1 (.slice ra q.length rc) q.length (u8s q)) := hid (own_fr HO.out (HF5.out.trans' HF6.out) (fun _ _ e => e))
        go_wp2_with ((with_reducible show wpList _ _ _ (⟨_, .load 55 _, _, _, _, _⟩ :: _) _ _); have := HBx; refine wpL_load rfl _ _ rfl wr.heap.size 0 rfl [.string x.key, .string x.value, .bool x.gone] _ (HBx.out.range 0 _ rfl) rfl rfl infoCh ?_)
        refine (add_any w.heap.size x (.slice ra q.length rc) q w6 HO6.out (by have := HRL.out; omega) HMS.out.1 HMS.out.2.1 (Nat.le_trans HF.out.size (Nat.le_trans HF5.out.size HF6.out.size))).mono ?_
        rintro e w7 ⟨a7, c7, rfl, o7, f7, -⟩
        have HO7 := hid o7
        have HF7 : Hid (Fr No w w7) := hid (((HF.out.trans' HF5.out).trans' HF6.out).trans f7 (fun k hk => .inr (own_low HO6.out k hk)))
        clear o7 f7
        go_wp2_with fail
        refine ⟨⟨j + 1, a7, c7, by omega, by go_num, by rw [HTQ.out, List.length_append], HTA, hid ?_, HF7⟩, by simp [intOf]; omega⟩
        rw [HTQ.out]
        have h := HO7.out
        simpa only [List.length_append] using h
    · have hje : j = l.length := by omega
      have hge : ¬ ((j : Int) < (l.length : Int)) := by omega
      have htl : l.take j = l := by rw [hje, List.take_length]
      rw [htl] at HA HO HRL hrli ⊢
      have HR3 : Hid (r = if 2000 < (recS l).length then (2, []) else (0, recS l)) := hid (by rw [HR2.out, if_pos HA.out])
      clear htl hje hlt
      by_cases h2 : 2000 < (recS l).length
      · have h2i : (2000 : Int) < (recS l).length := by omega
        have hrn : r = (2, []) := by rw [HR3.out, if_pos h2]
        have HRN := hid hrn
        clear hrn h2
        go_wp2_with fail
        go_ret2
        rw [HRN.out]
        exact ⟨rfl, HF.out⟩
      · have h2i : ((recS l).length : Int) ≤ 2000 := by omega
        have hrn : r = (0, recS l) := by rw [HR3.out, if_neg h2]
        have HRN := hid hrn
        clear hrn h2
        go_wp2_with ((with_reducible show wpList _ _ _ (⟨_, .convert _ 9 _, _, _, _, _⟩ :: _) _ _); refine wpL_stringOf rfl 40 9 5 _ rfl _ (fun k => w.heap.size ≤ k) (recS l) rfl (own_bytes HO.out) Tryz.underlying40 Tryz.underlying5 Tryz.underlying9 ?_)
        go_ret2
        rw [HRN.out]
        exact ⟨rfl, HF.out⟩
end Go.Proofs.YtflfmkokfbgclaaGreat.ST
