/-
  Part 2 of the proof: DnB, DnK, DnI, DnU, DnV, DnTie, ScD, ScN.
-/
import Derived.Test.YtgbiicipkbpmeaaGreatDoorFe01
import Derived.Lib.Bytealg
import Derived.Laws.Externs
import Derived.Test.YtgbiicipkbpmeaaGreatDoorCards
import Derived.Test.YtgbiicipkbpmeaaGreatDoorTie
import Derived.WalkKit
import Derived.ProofKit
import Derived.OpenShut
import Derived.Deep.DeepHandedRow
import Derived.RowKitTokens
import Derived.Stop.ErrReads
import Derived.Stop.LaidErr
import Derived.Lib.AtoiAll
import Derived.Lib.ItoaNum
set_option linter.unusedSimpArgs false
set_option linter.unusedVariables false
namespace Go.Proofs.YtgbiicipkbpmeaaGreatDoor.DN
set_option maxRecDepth 100000
open BE
theorem esc_cons (c : UInt8) (r : B) : esc (c :: r) = if sign c || c == 35 || c == 61 || c == 32 then some (c, r) else
  match r with
  | [] => none
  | d :: r' => match hexv c, hexv d with
   | some x, some y => some (16 * x + y, r')
   | _, _ => none := rfl
theorem u8_all (p : UInt8 → Bool) (h : ∀ n : Fin 256, p (UInt8.ofNat n.val) = true) (c : UInt8) : p c = true := by
 have := h ⟨c.toNat, UInt8.toNat_lt c⟩
 simpa using this
theorem rvF_cons (f : Nat) (den : B) (blank : Bool) (c : UInt8) (r : B) : rvF (f + 1) den blank (c :: r) = if c = 44 ∨ c = 43 then (if blank then none else some (den, c :: r)) else
  match one den c r with
  | none => none
  | some x => rvF f (den ++ [x.1]) x.2.1 x.2.2 := rfl
theorem readF_succ (f : Nat) (n : Nm) (step : Rd) (s : B) : readF (f + 1) n step s = (readA s).bind fun x => match x.2 with
  | [] => some (n ++ [step ++ [x.1]])
  | c :: r => if c = 44 then readF f (n ++ [step ++ [x.1]]) [] r else readF f n (step ++ [x.1]) r := rfl
theorem byT_len (a b : Bool) (c : UInt8) : 1 ≤ (byT a b c).length ∧ (byT a b c).length ≤ 3 := by
 unfold byT
 split
 ·simp
 ·split <;> simp
theorem valFrom_len : ∀ (v : B) (a : Bool), v.length ≤ (valFrom a v).length ∧ (valFrom a v).length ≤ 3 * v.length
 | [], a => by simp [valFrom]
 | c :: r, a => by
  have h1 := valFrom_len r false
  have h2 := byT_len a r.isEmpty c
  simp only [valFrom, List.length_append, List.length_cons]
  omega
theorem avaT_len (a : Av) : 1 ≤ (avaT a).length := by simp [avaT]; omega
def noEq (r : Rd) : Prop := ∀ a ∈ r, ∀ c ∈ a.1, c ≠ 61
theorem typ_noEq {t : B} (h : typ t = true) : ∀ c ∈ t, c ≠ 61 ∧ c ≠ 0 := by
 have hk := fun (b : Bool) (c : UInt8) => u8_all (fun c => !(okAt b c) || (!(c == 61) && !(c == 0))) (by cases b <;> decide +kernel) c
 have hk' : ∀ (b : Bool) (c : UInt8), okAt b c = true → c ≠ 61 ∧ c ≠ 0 := fun b c hc => by have := hk b c; simpa [hc] using this
 cases t with
 | nil => intro c hc; cases hc
 | cons x r =>
  simp only [typ, Bool.and_eq_true, List.all_eq_true] at h
  intro c hc
  rcases List.mem_cons.1 hc with rfl | hc
  ·exact hk' _ _ h.2.1
  ·exact hk' _ _ (h.2.2 c hc)
theorem typs_mem : ∀ {r seen : Rd}, typs seen r = true → ∀ a ∈ r, typ a.1 = true
 | [], _, _, _, h => by cases h
 | b :: r, seen, h, a, ha => by
  simp only [typs, Bool.and_eq_true] at h
  rcases List.mem_cons.1 ha with rfl | ha
  ·exact h.1.1
  ·exact typs_mem h.2 a ha
theorem built_step {n : Nm} (h : built n = true) : ∀ r ∈ n, r ≠ [] ∧ r.length ≤ 4 ∧ (∀ a ∈ r, typ a.1 = true) ∧ noEq r := by
 intro r hr
 simp only [built, Bool.and_eq_true, List.all_eq_true] at h
 have h1 := h.2 r hr
 simp only [okStep, Bool.and_eq_true, decide_eq_true_eq] at h1
 have h2 := typs_mem h1.2
 exact ⟨fun e => by subst e; simp at h1, h1.1.2, h2, fun a ha c hc => (typ_noEq (h2 a ha) c hc).1⟩
def ltB : B → B → Bool
 | [], [] => false
 | [], _ :: _ => true
 | _ :: _, [] => false
 | a :: r, b :: s => decide (a < b) || (a == b && ltB r s)
theorem cmp_lt : ∀ a b : B, decide (Lib.compareBytes a b < 0) = ltB a b
 | [], [] => rfl
 | [], _ :: _ => rfl
 | _ :: _, [] => rfl
 | a :: r, b :: s => by
  have ih := cmp_lt r s
  unfold Lib.compareBytes ltB
  by_cases h : a < b
  ·simp [h]
  ·by_cases h2 : b < a
   ·have hne : (a == b) = false := by
     rw [beq_eq_false_iff_ne]
     intro e; subst e
     exact h h2
    simp [h, h2, hne]
   ·have he : a = b := by
     rw [UInt8.lt_iff_toNat_lt] at h h2
     exact UInt8.toNat_inj.1 (by omega)
    subst he
    simp [ih]
theorem ltB_irr : ∀ a : B, ltB a a = false
 | [] => rfl
 | a :: r => by simp [ltB, ltB_irr r]
theorem ltB_trans : ∀ a b c : B, ltB a b = true → ltB b c = true → ltB a c = true
 | [], [], _, h, _ => by cases h
 | [], _ :: _, [], _, h => by cases h
 | [], _ :: _, _ :: _, _, _ => rfl
 | _ :: _, [], _, h, _ => by cases h
 | _ :: _, _ :: _, [], _, h => by cases h
 | a :: r, b :: s, c :: t, h, k => by
  simp only [ltB, Bool.or_eq_true, Bool.and_eq_true, decide_eq_true_eq, beq_iff_eq] at h k ⊢
  rcases h with h | ⟨rfl, h⟩ <;> rcases k with k | ⟨rfl, k⟩
  ·exact .inl (UInt8.lt_trans h k)
  ·exact .inl h
  ·exact .inl k
  ·exact .inr ⟨rfl, ltB_trans r s t h k⟩
theorem ltB_tot : ∀ a b : B, ltB a b = false → ltB b a = false → a = b
 | [], [], _, _ => rfl
 | [], _ :: _, h, _ => by cases h
 | _ :: _, [], _, h => by cases h
 | a :: r, b :: s, h, k => by
  simp only [ltB, Bool.or_eq_false_iff, Bool.and_eq_false_imp, decide_eq_false_iff_not, beq_iff_eq] at h k
  have he : a = b := by
   have h1 := h.1; have k1 := k.1
   rw [UInt8.lt_iff_toNat_lt] at h1 k1
   exact UInt8.toNat_inj.1 (by omega)
  subst he
  rw [ltB_tot r s (h.2 rfl) (k.2 rfl)]
theorem ltB_asymm {a b : B} (h : ltB a b = true) : ltB b a = false := by
 cases k : ltB b a with
 | false => rfl
 | true => have := ltB_trans a b a h k; rw [ltB_irr] at this; cases this
theorem le_trans {a b c : B} (h : ltB b a = false) (k : ltB c b = false) : ltB c a = false := by
 cases j : ltB c a with
 | false => rfl
 | true =>
  cases m : ltB a b with
  | true => rw [ltB_trans c a b j m] at k; cases k
  | false => rw [ltB_tot a b m h] at j; rw [j] at k; cases k
def words : B → B → List B
 | cur, [] => if cur.isEmpty then [] else [cur]
 | cur, c :: r => if c = 32 then (if cur.isEmpty then words [] r else cur :: words [] r) else words (cur ++ [c]) r
def fold (v : B) : B := joinB [32] (words [] (low v))
theorem low_length (s : B) : (low s).length = s.length := by simp [low]
theorem words_run : ∀ (x cur r : B), (∀ c ∈ x, c ≠ 32) → words cur (x ++ r) = words (cur ++ x) r
 | [], cur, r, _ => by simp
 | c :: x, cur, r, h => by
  have hc : c ≠ 32 := h c (by simp)
  rw [List.cons_append]
  conv => lhs; unfold words
  rw [if_neg hc, words_run x _ r (fun d hd => h d (by simp [hd]))]
  simp
theorem words_len : ∀ (s cur : B), (joinB [32] (words cur s)).length ≤ cur.length + s.length
 | [], cur => by
  unfold words
  cases cur <;> simp [joinB]
 | c :: r, cur => by
  unfold words
  split
  ·have h := words_len r []
   cases cur with
   | nil => simp only [List.isEmpty_nil, if_true, List.length_nil, List.length_cons] at h ⊢; omega
   | cons a q =>
    simp only [List.isEmpty_cons, Bool.false_eq_true, if_false]
    cases hw : words [] r with
    | nil => simp [joinB]
    | cons b t =>
     rw [hw] at h
     simp only [joinB, List.length_append, List.length_cons, List.length_nil] at h ⊢
     omega
  ·have h := words_len r (cur ++ [c])
   simp only [List.length_append, List.length_cons, List.length_nil] at h ⊢
   omega
theorem words_count : ∀ (s cur : B), (words cur s).length ≤ s.length + (if cur.isEmpty then 0 else 1)
 | [], cur => by
  unfold words
  cases cur <;> simp
 | c :: r, cur => by
  unfold words
  have h0 := words_count r []
  have h1 := words_count r (cur ++ [c])
  have h2 : (cur ++ [c]).isEmpty = false := by cases cur <;> rfl
  rw [h2] at h1
  simp only [List.isEmpty_nil, if_true, Bool.false_eq_true, if_false] at h0 h1
  split
  ·cases cur with
   | nil => simp; omega
   | cons a q => simp; omega
  ·simp only [List.length_cons]
   omega
theorem fold_len (v : B) : (fold v).length ≤ v.length := by
 have := words_len (low v) []
 rw [low_length] at this
 simpa [fold] using this
def insR (a : Av) : Rd → Rd
 | [] => [a]
 | b :: r => if ltB a.1 b.1 then a :: b :: r else b :: insR a r
def srt (r : Rd) : Rd := r.foldl (fun acc a => insR a acc) []
def foldA (a : Av) : Av := (low a.1, fold a.2)
def normR (r : Rd) : Rd := srt (r.map foldA)
def norm (n : Nm) : Nm := n.map normR
def key (n : Nm) : B := ((norm n).reverse.map fun r => stepT r ++ [0]).flatten
def under (n b : Nm) : Bool := decide (b.length ≤ n.length) && decide (norm (n.drop (n.length - b.length)) = norm b)
theorem insR_mem (a x : Av) : ∀ r : Rd, x ∈ insR a r ↔ x = a ∨ x ∈ r
 | [] => by simp [insR]
 | b :: r => by
  unfold insR
  split
  ·simp
  ·simp only [List.mem_cons, insR_mem a x r]
   constructor <;> rintro (h | h | h) <;> simp [h]
theorem insR_len (a : Av) : ∀ r : Rd, (insR a r).length = r.length + 1
 | [] => rfl
 | b :: r => by
  unfold insR
  split
  ·simp
  ·simp [insR_len a r]
theorem fold_mem (x : Av) : ∀ (r acc : Rd), x ∈ r.foldl (fun acc a => insR a acc) acc ↔ x ∈ acc ∨ x ∈ r
 | [], acc => by simp
 | a :: r, acc => by
  rw [List.foldl_cons, fold_mem x r, insR_mem]
  simp only [List.mem_cons]
  constructor
  ·rintro ((h | h) | h) <;> simp [h]
  ·rintro (h | h | h) <;> simp [h]
theorem srt_mem {x : Av} {r : Rd} : x ∈ srt r ↔ x ∈ r := by simp [srt, fold_mem]
theorem foldl_len : ∀ (r acc : Rd), (r.foldl (fun acc a => insR a acc) acc).length = acc.length + r.length
 | [], acc => by simp
 | a :: r, acc => by
  rw [List.foldl_cons, foldl_len r, insR_len, List.length_cons]
  omega
theorem srt_len (r : Rd) : (srt r).length = r.length := by simp [srt, foldl_len]
def Sd (r : Rd) : Prop := r.Pairwise fun a b => ltB b.1 a.1 = false
theorem insR_sorted (a : Av) : ∀ {r : Rd}, Sd r → Sd (insR a r)
 | [], _ => by simp [insR, Sd]
 | b :: r, h => by
  obtain ⟨h1, h2⟩ := List.pairwise_cons.1 h
  unfold insR
  split
  ·rename_i hlt
   refine List.pairwise_cons.2 ⟨fun x hx => ?_, h⟩
   rcases List.mem_cons.1 hx with rfl | hx
   ·exact ltB_asymm hlt
   ·exact le_trans (ltB_asymm hlt) (h1 x hx)
  ·rename_i hlt
   refine List.pairwise_cons.2 ⟨fun x hx => ?_, insR_sorted a h2⟩
   rcases (insR_mem a x r).1 hx with rfl | hx
   ·simpa using hlt
   ·exact h1 x hx
theorem foldl_sorted : ∀ (r acc : Rd), Sd acc → Sd (r.foldl (fun acc a => insR a acc) acc)
 | [], _, h => h
 | a :: r, _, h => foldl_sorted r _ (insR_sorted a h)
theorem srt_sorted (r : Rd) : Sd (srt r) := foldl_sorted r [] List.Pairwise.nil
theorem norm_length (n : Nm) : (norm n).length = n.length := by simp [norm]
def keyL (L : Nm) : B := (L.map fun r => stepT r ++ [0]).flatten
theorem key_eq (n : Nm) : key n = keyL (norm n).reverse := rfl
end Go.Proofs.YtgbiicipkbpmeaaGreatDoor.DN
namespace Go.Proofs.YtgbiicipkbpmeaaGreatDoor.DN
set_option maxRecDepth 100000
set_option maxHeartbeats 128000000
open Go.RowKit K BE
theorem u8_back (c : UInt8) : ((c.toNat : Int).toNat.toUInt8) = c := by simp
theorem sliteIndexByte (s : B) (c : UInt8) (w : World) : Calls Tryz.prog 242 #[.string (sb s), .int .u8 (c.toNat : Int)] w fun e w' => e = .returned (.int .i64 (Lib.indexByte s c)) ∧ w' = w := by
 obtain ⟨x, hx⟩ : ∃ x : Int, (c.toNat : Int) = x := ⟨_, rfl⟩
 have HX : Hid (Lib.indexByte s c = Lib.indexByte (sb s).data.toList x.toNat.toUInt8) := hid (by rw [← hx, u8_back, sb_list])
 rw [HX.out, hx]
 clear HX hx
 go_enter Tryz.func242, Tryz.ntmps242
 go_wp2
 rw [run_callFunc_extern Tryz.func252 (by kernel_rfl) (by kernel_rfl) (by kernel_rfl) (e := Extern.BytealgIndexByte.indexByte) (by kernel_rfl), Lib.run_indexByteString]
 simp only [Result.andThen]
 rw [Oper.upon_value]
 go_wp2
 go_ret
 exact ⟨rfl, rfl⟩
theorem indexByte_any (s : B) (c : UInt8) (w : World) : Calls Tryz.prog 224 #[.string (sb s), .int .u8 (c.toNat : Int)] w fun e w' => e = .returned (.int .i64 (Lib.indexByte s c)) ∧ w' = w := by
 have H := hid (sliteIndexByte s c w)
 obtain ⟨x, hx⟩ : ∃ x : Int, (c.toNat : Int) = x := ⟨_, rfl⟩
 obtain ⟨y, hy⟩ : ∃ y : Int, Lib.indexByte s c = y := ⟨_, rfl⟩
 rw [hx, hy] at H ⊢
 clear hx hy
 go_enter Tryz.func224, Tryz.ntmps224
 go_wp2_with fail
 refine H.out.mono ?_
 rintro e w1 ⟨rfl, rfl⟩
 go_wp2_with fail
 go_ret
 exact ⟨rfl, rfl⟩
theorem compareString_any (a b : B) (w : World) : Calls Tryz.prog 76 #[.string (sb a), .string (sb b)] w fun e w' => e = .returned (.int .i64 (Lib.compareBytes a b)) ∧ w' = w := by
 have HX : Hid (Lib.compareBytes a b = Lib.compareBytes (sb a).data.toList (sb b).data.toList) := hid (by rw [sb_list, sb_list])
 rw [HX.out]
 clear HX
 go_enter Tryz.func76, Tryz.ntmps76
 go_wp2
 rw [run_callFunc_extern Tryz.func126 (by kernel_rfl) (by kernel_rfl) (by kernel_rfl) (e := Extern.BytealgCompare.compare) (by kernel_rfl), Lib.run_compareString]
 simp only [Result.andThen]
 rw [Oper.upon_value]
 go_wp2
 go_ret
 exact ⟨rfl, rfl⟩
theorem compare_any (a b : B) (w : World) : Calls Tryz.prog 41 #[.string (sb a), .string (sb b)] w fun e w' => e = .returned (.int .i64 (Lib.compareBytes a b)) ∧ w' = w := by
 have H := hid (compareString_any a b w)
 obtain ⟨y, hy⟩ : ∃ y : Int, Lib.compareBytes a b = y := ⟨_, rfl⟩
 rw [hy] at H ⊢
 clear hy
 go_enter Tryz.func41, Tryz.ntmps41
 go_wp2_with fail
 refine H.out.mono ?_
 rintro e w1 ⟨rfl, rfl⟩
 go_wp2_with fail
 go_ret
 exact ⟨rfl, rfl⟩
theorem cut_index : ∀ s : B, (cutEq s = none ∧ Lib.indexByte s 61 = -1) ∨ ∃ (i : Nat) (a b : B), cutEq s = some (a, b) ∧ Lib.indexByte s 61 = i ∧ s = a ++ 61 :: b ∧ a.length = i
 | [] => .inl ⟨rfl, rfl⟩
 | c :: r => by
  by_cases hc : c = 61
  ·subst hc
   exact .inr ⟨0, [], r, by simp [cutEq], by simp [Lib.indexByte], rfl, rfl⟩
  ·rcases cut_index r with ⟨h1, h2⟩ | ⟨i, a, b, h1, h2, h3, h4⟩
   ·left
    refine ⟨by simp [cutEq, hc, h1], ?_⟩
    unfold Lib.indexByte
    rw [h2]
    simp [hc]
   ·right
    refine ⟨i + 1, c :: a, b, by simp [cutEq, hc, h1], ?_, by rw [h3]; rfl, by simp [h4]⟩
    unfold Lib.indexByte
    rw [h2]
    have h5 : ((i : Int) == -1) = false := by rw [beq_eq_false_iff_ne]; omega
    simp [hc, h5]
theorem sliteIndex_eq (s : B) (w : World) : Calls Tryz.prog 219 #[.string (sb s), .string (sb [61])] w fun e w' => e = .returned (.int .i64 (Lib.indexByte s 61)) ∧ w' = w := by
 have H := hid (sliteIndexByte s 61 w)
 have HEQ : Hid (([61] == ByteArray.toList (sb s)) = decide ([61] = s)) := hid (by have := neq_sb [61] s; rw [ByteArray.toList_eq, sb_list] at this; exact this)
 by_cases he : [61] = s
 ·subst he
  have h0 : Lib.indexByte [61] 61 = 0 := rfl
  rw [h0]
  rw [decide_eq_true rfl] at HEQ
  have hq := HEQ.out
  rw [show sb [61] = (⟨#[61]⟩ : ByteArray) from rfl] at hq ⊢
  clear H h0 HEQ
  go_enter Tryz.func219, Tryz.ntmps219
  go_wp2
  go_ret
  exact ⟨rfl, rfl⟩
 ·rw [decide_eq_false he] at HEQ
  have hq := HEQ.out
  obtain ⟨y, hy⟩ : ∃ y : Int, Lib.indexByte s 61 = y := ⟨_, rfl⟩
  rw [hy] at H ⊢
  clear hy he HEQ
  rw [show ((61 : UInt8).toNat : Int) = 61 from rfl] at H
  rw [show sb [61] = (⟨#[61]⟩ : ByteArray) from rfl]
  go_enter Tryz.func219, Tryz.ntmps219
  go_wp2_with fail
  refine H.out.mono ?_
  rintro e w1 ⟨rfl, rfl⟩
  go_wp2_with fail
  go_ret
  exact ⟨rfl, rfl⟩
def cutE (s : B) : Value := match cutEq s with
 | none => .tuple #[.string (sb s), .string (sb []), .bool false]
 | some x => .tuple #[.string (sb x.1), .string (sb x.2), .bool true]
theorem sliteCut (s : B) (hs : Sz s) (w : World) : Calls Tryz.prog 185 #[.string (sb s), .string (sb [61])] w fun e w' => e = .returned (cutE s) ∧ Fr No w w' := by
 have H := hid (sliteIndex_eq s w)
 have hz : (sb [61]).size = 1 := rfl
 have HZ := hid hz
 clear hz
 rcases cut_index s with ⟨h1, h2⟩ | ⟨i, a, b, h1, h2, h3, h4⟩
 ·have HE : Hid (cutE s = .tuple #[.string (sb s), .string ⟨#[]⟩, .bool false]) := hid (by unfold cutE; rw [h1]; rfl)
  rw [h2] at H
  rw [HE.out]
  clear h1 h2 HE
  go_enter Tryz.func185, Tryz.ntmps185
  go_wp2_with fail
  refine H.out.mono ?_
  rintro e w1 ⟨rfl, rfl⟩
  go_wp2_with fail
  refine ret_three rfl rfl ⟨rfl, Fr.refl _ _⟩
 ·have HE : Hid (cutE s = .tuple #[.string (sb a), .string (sb b), .bool true]) := hid (by unfold cutE; rw [h1])
  have hsl : s.length = i + 1 + b.length := by rw [h3, List.length_append, List.length_cons, h4]; omega
  have h5 : s.take i = a := by rw [h3, ← h4, List.take_left]
  have h6 : s.drop (i + 1) = b := by rw [h3, ← h4]; simp
  have hwr : IntKind.i64.wrap ((i : Int) + 1) = (i : Int) + 1 := by unfold Sz at hs; rw [IntKind.wrap_i64]; omega
  have HT := hid h5; have HD := hid h6; have HL := hid hsl
  have hi : (i : Int) ≤ 140737488351232 := by unfold Sz at hs; omega
  have hi0 : (0 : Int) ≤ i := by omega
  have hq1 : decide ((0 : Int) ≤ i) = true := decide_eq_true hi0
  rw [h2] at H
  rw [HE.out]
  clear h1 h2 h3 h4 h5 h6 HE hsl hs
  go_enter Tryz.func185, Tryz.ntmps185
  go_wp2_with fail
  refine H.out.mono ?_
  rintro e w1 ⟨rfl, rfl⟩
  go_wp2_with fail
  have hold : Facts.hold [] w1.drew := Facts.nil_hold _
  refine wpD_region hold (by kernel_rfl) 12 rfl ?_
  (refine K.pl 0 (v := ?_) rfl ?_ ?_; rotate_left; (intro; go_simp; try with_reducible rfl); simp only [K.pu])
  (refine K.pl 1 (v := ?_) rfl ?_ ?_; rotate_left; (intro; go_simp; try with_reducible rfl); simp only [K.pu])
  (refine K.pl 2 (v := (.string (sb a))) rfl ?_ ?_; (intro _w; exact exec_to _ _ rfl s i rfl rfl (by rw [HL.out]; omega) _ HT.out _w); simp only [K.pu])
  (refine K.pl 3 (v := ?_) rfl ?_ ?_; rotate_left; (intro; go_simp; try with_reducible rfl); simp only [K.pu])
  (refine K.pl 4 (v := ?_) rfl ?_ ?_; rotate_left; (intro; go_simp; try with_reducible rfl); simp only [K.pu])
  (refine K.pl 5 (v := ?_) rfl ?_ ?_; rotate_left; (intro; go_simp; try with_reducible rfl); simp only [K.pu])
  (refine K.pl 6 (v := (.int .i64 1)) rfl ?_ ?_; (intro _w; go_simp; rw [HZ.out]; rfl); simp only [K.pu])
  (refine K.pl 7 (v := (.int .i64 ((i : Int) + 1))) rfl ?_ ?_; (intro _w; go_simp; skip); simp only [K.pu])
  (refine K.pl 8 (v := (.string (sb b))) rfl ?_ ?_; (intro _w; exact exec_from _ _ rfl s (i + 1) rfl rfl (by rw [HL.out]; omega) _ HD.out _w); simp only [K.pu])
  (refine K.pl 9 (v := ?_) rfl ?_ ?_; rotate_left; (intro; go_simp; try with_reducible rfl); simp only [K.pu])
  (refine K.pl 10 (v := ?_) rfl ?_ ?_; rotate_left; (intro; go_simp; try with_reducible rfl); simp only [K.pu])
  (refine K.pl 11 (v := ?_) rfl ?_ ?_; rotate_left; (intro; go_simp; try with_reducible rfl); simp only [K.pu])
  clear hold
  refine wpD_done (by kernel_rfl) ?_ _
  go_wp2_with fail
  refine ret_three rfl rfl ⟨rfl, (Fr.refl _ _).drew⟩
theorem cut_any (s : B) (hs : Sz s) (w : World) : Calls Tryz.prog 147 #[.string (sb s), .string (sb [61])] w fun e w' => e = .returned (cutE s) ∧ Fr No w w' := by
 have H := hid (sliteCut s hs w)
 obtain ⟨a, b, c, hy⟩ : ∃ a b c, cutE s = .tuple #[a, b, c] := by
  unfold cutE
  cases cutEq s with
  | none => exact ⟨_, _, _, rfl⟩
  | some x => exact ⟨_, _, _, rfl⟩
 rw [hy] at H ⊢
 clear hy hs
 go_enter Tryz.func147, Tryz.ntmps147
 go_wp2_with fail
 refine H.out.mono ?_
 rintro e w1 ⟨rfl, f1⟩
 have HF := hid f1
 clear f1
 go_wp2_with fail
 refine ret_three rfl rfl ⟨rfl, HF.out⟩
def lw (c : UInt8) : Nat := (c ||| 32).toNat
theorem or_lw (c : UInt8) : bits .or .u8 (c.toNat : Int) 32 = (lw c : Int) := by
 have h : ∀ n : Fin 256, bits .or .u8 (n.val : Int) 32 = ((((UInt8.ofNat n.val) ||| 32).toNat : Nat) : Int) := by decide +kernel
 have := h ⟨c.toNat, UInt8.toNat_lt c⟩
 simpa [lw] using this
theorem lower_any (c : UInt8) (w : World) : Calls Tryz.prog 225 #[.int .u8 (c.toNat : Int)] w fun e w' => e = .returned (.int .u8 (lw c : Int)) ∧ w' = w := by
 have H := hid (or_lw c)
 obtain ⟨x, hx⟩ : ∃ x : Int, (c.toNat : Int) = x := ⟨_, rfl⟩
 rw [hx] at H ⊢
 rw [← H.out]
 clear hx H
 go_enter Tryz.func225, Tryz.ntmps225
 go_wp2
 go_ret
 exact ⟨rfl, rfl⟩
def hexB (c : UInt8) : Bool := (decide (48 ≤ c.toNat ∧ c.toNat ≤ 57) && (hexv c == some (c - 48)) && ((c - 48).toNat == c.toNat - 48)) ||
  (!decide (48 ≤ c.toNat ∧ c.toNat ≤ 57) && decide (97 ≤ lw c ∧ lw c ≤ 102) && (match hexv c with | some d => d.toNat == lw c - 87 | none => false)) ||
  (!decide (48 ≤ c.toNat ∧ c.toNat ≤ 57) && decide (103 ≤ lw c ∧ lw c ≤ 122) && (hexv c == none)) || (!decide (48 ≤ c.toNat ∧ c.toNat ≤ 57) && !decide (97 ≤ lw c ∧ lw c ≤ 122) && (hexv c == none))
theorem hex_facts (c : UInt8) : (48 ≤ c.toNat ∧ c.toNat ≤ 57 ∧ hexv c = some (c - 48) ∧ (c - 48).toNat = c.toNat - 48) ∨
  (¬ (48 ≤ c.toNat ∧ c.toNat ≤ 57) ∧ 97 ≤ lw c ∧ lw c ≤ 102 ∧ ∃ d : UInt8, hexv c = some d ∧ d.toNat = lw c - 87) ∨
  (¬ (48 ≤ c.toNat ∧ c.toNat ≤ 57) ∧ 103 ≤ lw c ∧ lw c ≤ 122 ∧ hexv c = none) ∨ (¬ (48 ≤ c.toNat ∧ c.toNat ≤ 57) ∧ ¬ (97 ≤ lw c ∧ lw c ≤ 122) ∧ hexv c = none) := by
 have h1 : hexB c = true := u8_all hexB (by decide +kernel) c
 unfold hexB at h1
 simp only [Bool.or_eq_true, Bool.and_eq_true, decide_eq_true_eq, Bool.not_eq_true', decide_eq_false_iff_not, beq_iff_eq] at h1
 rcases h1 with ((⟨⟨h1, h2⟩, h3⟩ | ⟨⟨h1, h2⟩, h3⟩) | ⟨⟨h1, h2⟩, h3⟩) | ⟨⟨h1, h2⟩, h3⟩
 ·exact .inl ⟨h1.1, h1.2, h2, h3⟩
 ·right; left
  refine ⟨h1, h2.1, h2.2, ?_⟩
  cases hq : hexv c with
  | none => rw [hq] at h3; cases h3
  | some d => rw [hq] at h3; exact ⟨d, rfl, by simpa using h3⟩
 ·exact .inr (.inr (.inl ⟨h1, h2.1, h2.2, h3⟩))
 ·exact .inr (.inr (.inr ⟨h1, h2, h3⟩))
theorem not95 {c : UInt8} (h : lw c ≤ 122) : c.toNat ≠ 95 := by
 have := u8_all (fun c => !decide (lw c ≤ 122) || !decide (c.toNat = 95)) (by decide +kernel) c
 simpa [h] using this
theorem hexv_lt {c d : UInt8} (h : hexv c = some d) : d.toNat < 16 := by
 have := u8_all (fun c => match hexv c with | some d => decide (d.toNat < 16) | none => true) (by decide +kernel) c
 rw [h] at this
 simpa using this
def hexs : Nat → B → Option Nat
 | n, [] => some n
 | n, c :: r => (hexv c).bind fun d => hexs (16 * n + d.toNat) r
theorem exec_geqI {op : Oper} {a : Act} (x y : Operand) (t u : TypeId) (ho : op.op = .binOp .geq t x y u) (k : IntKind) (m n : Int) (hx : a.eval x = .int k m) (hy : a.eval y = .int k n) (b : Bool) (hb : decide (n ≤ m) = b) (w : World) :
  (execOp a.eval op).run Tryz.prog w = .ok (.value (.bool b)) w := by
 subst hb
 unfold execOp
 simp only [ho, hx, hy]
 simp [go_sem, eqGuard, Result.andThen]
def puR : Option Nat → Value
 | some n => .tuple #[.int .u64 (n : Int), .nilIface]
 | none => .tuple #[.int .u64 0, .iface 213 (.int .i64 2)]
set_option maxRecDepth 100000 in
theorem iparse_any (x y : UInt8) (w : World) : Calls Tryz.prog 196 #[.string (sb [x, y]), .int .i64 16, .int .i64 8] w fun e w' => e = .returned (puR (hexs 0 [x, y])) ∧ Fr No w w' := by
 have hz : (sb [x, y]).size = 2 := rfl
 have hzl : (sb [x, y]).data.toList = [x, y] := rfl
 have hne : ((sb [x, y]).toList == ([] : B)) = false := by rw [ByteArray.toList_eq, hzl]; rfl
 have hnei : (sb [x, y]).toList.isEmpty = false := by rw [ByteArray.toList_eq, hzl]; rfl
 obtain ⟨S, hS⟩ : ∃ S, sb [x, y] = S := ⟨_, rfl⟩
 rw [hS] at hz hzl hne hnei ⊢
 have hszi : (S.size : Int) = 2 := by omega
 have HZL := hid hzl
 clear hzl hS
 obtain ⟨R, hR⟩ : ∃ R, hexs 0 [x, y] = R := ⟨_, rfl⟩
 rw [hR]
 have HR := hid hR
 clear hR
 go_enter Tryz.func196, Tryz.ntmps196
 go_wp2_with (first
  | ((with_reducible refine K.atO (.convert _ 150 _) ?_); refine wpL_bytesOf rfl _ _ _ _ rfl S rfl Tryz.underlying9 Tryz.underlying150 Tryz.underlying5 ?_; intro cp w1 HB1 HF1))
 rw [hz] at *
 clear hz hszi hne hnei
 have HFW := hid HF1.out
 clear HF1
 obtain ⟨g, hg⟩ : ∃ g, w.heap.size = g := ⟨_, rfl⟩
 have hbs := HB1.out
 rw [hg, HZL.out] at hbs
 obtain ⟨a, len, cap, e1, e2, e3, e4⟩ := hbs
 simp only [Value.slice.injEq] at e1
 obtain ⟨rfl, rfl, rfl⟩ := e1
 obtain ⟨g', o', e5, -, hgw, hrg⟩ := e4.resolve_left (by omega)
 simp only [Option.some.injEq, Addr.mk.injEq, and_true] at e5
 obtain ⟨rfl, rfl⟩ := e5
 have HRG := hid hrg
 rw [hg]
 clear e2 e3 e4 hrg HB1 hg
 go_loopw [12, 13, 101] (fun uv nv iv wr => ∃ (i n : Nat), uv = .bool false ∧ nv = .int .u64 n ∧ iv = .int .i64 i ∧ i ≤ 2 ∧ n < 256 ∧ (i = 0 → n = 0) ∧ (i ≤ 1 → n < 16) ∧ Hid (hexs n ([x, y].drop i) = R) ∧ wr = w1) (fun _ _ iv _ => 2 - (intOf iv).toNat)
 case atStart => exact ⟨0, 0, rfl, rfl, rfl, by omega, by omega, by omega, by omega, HR, rfl⟩
 case round =>
  obtain ⟨i, n, rfl, rfl, rfl, hi, hn, hn0', hn2, HX, rfl⟩ := hrel
  by_cases hlt : i < 2
  ·obtain ⟨c, hc⟩ : ∃ c, [x, y][i]? = some c := ⟨_, List.getElem?_eq_getElem (by simpa using hlt)⟩
   have hdrop : [x, y].drop i = c :: [x, y].drop (i + 1) := by
    rw [List.drop_eq_getElem_cons (by simpa using hlt)]
    rw [List.getElem?_eq_getElem (by simpa using hlt)] at hc
    rw [Option.some.inj hc]
   have hX := HX.out
   rw [hdrop] at hX
   have HX2 : Hid ((hexv c).bind (fun d => hexs (16 * n + d.toNat) ([x, y].drop (i + 1))) = R) := hid hX
   have hcell : wr.cell? ⟨g, i, none⟩ = some (.int .u8 (c.toNat : Int)) := by
    have := HRG.out i (.int .u8 (c.toNat : Int)) (by unfold u8s; rw [List.getElem?_map, hc]; rfl)
    rwa [Nat.zero_add] at this
   have hn3 : n < 16 := hn2 (by omega)
   have HLo : Hid (∀ w, Calls Tryz.prog 225 #[.int .u8 (c.toNat : Int)] w fun e w' => e = .returned (.int .u8 (lw c : Int)) ∧ w' = w) := hid (fun w => lower_any c w)
   have hf := hex_facts c
   have hb := lt256 c
   have h95 : lw c ≤ 122 → c.toNat ≠ 95 := not95
   have h96 : c.toNat = 95 → lw c = 127 := fun h => by
    obtain rfl : c = 95 := UInt8.toNat_inj.1 h
    rfl
   obtain ⟨xn, hxn⟩ : ∃ xn, c.toNat = xn := ⟨_, rfl⟩
   obtain ⟨ln, hln⟩ : ∃ ln, lw c = ln := ⟨_, rfl⟩
   rw [hxn] at hcell HLo hf hb h95 h96
   rw [hln] at HLo hf h95 h96
   have hlti : (i : Int) < 2 := by omega
   have hi0 : (0 : Int) ≤ i := by omega
   have hni : (n : Int) < 16 := by omega
   have hn0 : (0 : Int) ≤ n := by omega
   have HN0 := hid hn0'
   clear hX hdrop hc hi hn hn2 HX hxn hln hn0'
   rcases hf with ⟨h1, h2, h3, h4⟩ | ⟨h1, h2, h3, d, h4, h5⟩ | ⟨h1, h2, h3, h4⟩ | ⟨h1, h2, h3⟩
   ·have hx1 : (48 : Int) ≤ xn := by omega
    have hx2 : (xn : Int) ≤ 57 := by omega
    have hd : (c - 48).toNat < 16 := by omega
    have HX3 : Hid (hexs (16 * n + (xn - 48)) ([x, y].drop (i + 1)) = R) := hid (by have := HX2.out; rw [h3] at this; simp only [Option.bind_some] at this; rwa [h4] at this)
    have HCUT := hid (show decide ((1152921504606846976 : Int) ≤ (n : Int)) = false from decide_eq_false (by omega))
    clear h1 h2 h3 h4 HX2 hd
    go_wp2_with (first | ((with_reducible refine K.atO (.binOp .geq 242 _ _ _) ?_); refine wpL_valZ rfl (.bool false) (by exact exec_geqI _ _ _ _ rfl .u64 (n : Int) 1152921504606846976 rfl rfl _ HCUT.out _) ?_))
    refine ⟨⟨i + 1, 16 * n + (xn - 48), rfl, ?_, by go_num, by omega, by omega, by omega, fun h => by have := HN0.out; omega, HX3, trivial⟩, by simp [intOf]; omega⟩
    exact congrArg (Value.int .u64) (by omega)
   ·have hx1 : (97 : Int) ≤ ln := by omega
    have hx2 : (ln : Int) ≤ 102 := by omega
    have hx3 : (ln : Int) ≤ 122 := by omega
    have hd := hexv_lt h4
    have HX3 : Hid (hexs (16 * n + (ln - 87)) ([x, y].drop (i + 1)) = R) := hid (by have := HX2.out; rw [h4] at this; simp only [Option.bind_some] at this; rwa [h5] at this)
    have HCUT := hid (show decide ((1152921504606846976 : Int) ≤ (n : Int)) = false from decide_eq_false (by omega))
    have hn95 : ¬ (xn : Int) = 95 := by have := h95 (by omega); omega
    have hnd : (xn : Int) < 48 ∨ (48 ≤ (xn : Int) ∧ ¬ (xn : Int) ≤ 57) := by omega
    have hrel2 : ∃ (i_1 n_1 : Nat), Value.int IntKind.u64 ((n : Int) * 16 + ((ln : Int) - 97 + 10)) = Value.int IntKind.u64 n_1 ∧ Value.int IntKind.i64 ((i : Int) + 1) = Value.int IntKind.i64 i_1 ∧ i_1 ≤ 2 ∧ n_1 < 256 ∧ (i_1 = 0 → n_1 = 0) ∧ (i_1 ≤ 1 → n_1 < 16) ∧ Hid (hexs n_1 ([x, y].drop i_1) = R) :=
     ⟨i + 1, 16 * n + (ln - 87), congrArg (Value.int .u64) (by omega), by go_num, by omega, by omega, by omega, fun h => by have := HN0.out; omega, HX3⟩
    have HREL := hid hrel2
    clear h1 h2 h3 h4 h5 HX2 hd hrel2 h95 h96
    rcases hnd with hlo | ⟨hlo, hhi⟩
    all_goals
     go_wp2_with fail
     refine (HLo.out _).mono ?_
     rintro e w2 ⟨rfl, rfl⟩
     go_wp2_with fail
     refine (HLo.out _).mono ?_
     rintro e w3 ⟨rfl, rfl⟩
     go_wp2_with fail
     refine (HLo.out _).mono ?_
     rintro e w4 ⟨rfl, rfl⟩
     go_wp2_with (first | ((with_reducible refine K.atO (.binOp .geq 242 _ _ _) ?_); refine wpL_valZ rfl (.bool false) (by exact exec_geqI _ _ _ _ rfl .u64 (n : Int) 1152921504606846976 rfl rfl _ HCUT.out _) ?_))
     refine ⟨?_, by simp [intOf]; omega⟩
     obtain ⟨i1, n1, r1, r2, r3, r4, r5, r6, r7⟩ := HREL.out
     exact ⟨i1, n1, rfl, r1, r2, r3, r4, r5, r6, r7, trivial⟩
   ·have hx1 : (97 : Int) ≤ ln := by omega
    have hx2 : (103 : Int) ≤ ln := by omega
    have hx3 : (ln : Int) ≤ 122 := by omega
    have HRV : Hid (R = none) := hid (by have := HX2.out; rw [h4] at this; exact this.symm)
    have hn95 : ¬ (xn : Int) = 95 := by have := h95 (by omega); omega
    have hnd : (xn : Int) < 48 ∨ (48 ≤ (xn : Int) ∧ ¬ (xn : Int) ≤ 57) := by omega
    clear h1 h2 h3 h4 HX2 h95 h96
    rcases hnd with hlo | ⟨hlo, hhi⟩
    all_goals
     go_wp2_with fail
     refine (HLo.out _).mono ?_
     rintro e w2 ⟨rfl, rfl⟩
     go_wp2_with fail
     refine (HLo.out _).mono ?_
     rintro e w3 ⟨rfl, rfl⟩
     go_wp2_with fail
     refine (HLo.out _).mono ?_
     rintro e w4 ⟨rfl, rfl⟩
     go_wp2_with fail
     rw [HRV.out]
     go_ret2
     exact ⟨rfl, HFW.out⟩
   ·have HRV : Hid (R = none) := hid (by have := HX2.out; rw [h3] at this; exact this.symm)
    have hnd : (xn : Int) < 48 ∨ (48 ≤ (xn : Int) ∧ ¬ (xn : Int) ≤ 57) := by omega
    have hnl : (ln : Int) < 97 ∨ (97 ≤ (ln : Int) ∧ ¬ (ln : Int) ≤ 122) := by omega
    clear h3 HX2 h95
    by_cases h5 : xn = 95
    ·obtain rfl := h96 h5
     subst h5
     have HLo2 : Hid (∀ w, Calls Tryz.prog 225 #[.int .u8 95] w fun e w' => e = .returned (.int .u8 127) ∧ w' = w) := HLo
     clear HLo h1 h2 h96 hnd hnl
     go_wp2_with fail
     refine (HLo2.out _).mono ?_
     rintro e w2 ⟨rfl, rfl⟩
     go_wp2_with fail
     refine (HLo2.out _).mono ?_
     rintro e w3 ⟨rfl, rfl⟩
     go_wp2_with fail
     rw [HRV.out]
     go_ret2
     exact ⟨rfl, HFW.out⟩
    ·have hn95 : ¬ (xn : Int) = 95 := by omega
     clear h1 h2 h96 h5
     rcases hnd with hlo | ⟨hlo, hhi⟩
     all_goals
      rcases hnl with hl1 | ⟨hl1, hl2⟩
      ·go_wp2_with fail
       refine (HLo.out _).mono ?_
       rintro e w2 ⟨rfl, rfl⟩
       go_wp2_with fail
       rw [HRV.out]
       go_ret2
       exact ⟨rfl, HFW.out⟩
      ·go_wp2_with fail
       refine (HLo.out _).mono ?_
       rintro e w2 ⟨rfl, rfl⟩
       go_wp2_with fail
       refine (HLo.out _).mono ?_
       rintro e w3 ⟨rfl, rfl⟩
       go_wp2_with fail
       rw [HRV.out]
       go_ret2
       exact ⟨rfl, HFW.out⟩
  ·obtain rfl : i = 2 := by omega
   have hR := HX.out
   have HRV : Hid (R = some n) := hid (by rw [← hR]; rfl)
   clear hR HX
   go_wp2_with fail
   rw [HRV.out]
   go_ret2
   exact ⟨rfl, HFW.out⟩
def Gl (w : World) : Prop := ∃ t u, w.cell? ⟨1, 0, none⟩ = some (.iface t u)
theorem Gl.fr {D : Nat → Prop} {w w' : World} (h : Gl w) (hf : Fr D w w') (hd : ¬ D 1) : Gl w' := by
 obtain ⟨t, u, h⟩ := h
 exact ⟨t, u, hf.cell h hd⟩
theorem Gl.no {w w' : World} (h : Gl w) (hf : Fr No w w') : Gl w' := h.fr hf id
theorem Gl.lt {w : World} (h : Gl w) : 1 < w.heap.size := by
 obtain ⟨t, u, h⟩ := h
 exact World.block_lt_of_cell? w _ h
section
variable {P : Program} {Q : Exit → Act → World → Prop} {op : Oper} {a : Act} {w : World} {K : Act → World → Prop}
theorem wp_boxD (t : TypeId) (x : Operand) (ho : op.op = .box t x) (v : Value) (hv : a.eval x = v) (cs : List Value) (hcs : v.cells = cs.toArray)
  (h : ∀ w', Hid (Blk w' w.heap.size t cs) → Hid (Fr No w w') → Hid (w'.heap.size = w.heap.size + 1) → K (a.put op.dst (.pointer (some ⟨w.heap.size, 0, none⟩))) w') : op.wp P a w K Q := by
 unfold Oper.wp
 have h1 := h (w.alloc (.cells v.cells t)) (hid (by rw [hcs]; exact Blk.new w t cs)) (hid ((Fr.refl _ _).alloc _)) (hid (by simp))
 simp [execOp, ho, Instr.box, hv, newVar, newRow, Result.andThen]
 exact h1
theorem wp_valD (v : Value) (hy : (execOp a.eval op).run P w = .ok (.value v) w) (h : K (a.put op.dst v) w) : op.wp P a w K Q := by
 unfold Oper.wp
 rw [hy]
 exact h
end
theorem syntaxError_any (f s : B) (hs : Sz s) (w : World) (hG : Gl w) : Calls Tryz.prog 160 #[.string (sb f), .string (sb s)] w fun e w' => (∃ b, e = .returned (.pointer (some ⟨b, 0, none⟩))) ∧ Fr No w w' := by
 obtain ⟨t, u, hc⟩ := hG
 have HC := hid hc
 have HS := hid hs
 clear hs hc
 go_enter Tryz.func160, Tryz.ntmps160
 go_wp2_with fail
 have hold : Facts.hold [(3, fun w' => w'.cell? ⟨1, 0, none⟩ = some (.iface t u))] w.drew := Facts.cons_hold HC.out (Facts.nil_hold _)
 refine wpD_region hold (by kernel_rfl) 7 rfl ?_
 (refine K.pl 0 (v := ?_) rfl ?_ ?_; rotate_left; (intro; go_simp; try with_reducible rfl); simp only [K.pu])
 (refine K.pl 1 (v := ?_) rfl ?_ ?_; rotate_left; (intro; go_simp; try with_reducible rfl); simp only [K.pu])
 clear hold
 refine wpD_two 2 3 [(3, fun w' => w'.cell? ⟨1, 0, none⟩ = some (.iface t u))] [] rfl rfl (by kernel_rfl) (by kernel_rfl) (by kernel_rfl) (by rfl) (by rfl) ?_ ?_
 ·intro K hK
  refine wp_call (.func 197) _ _ rfl 197 [] rfl (fun vs w => by kernel_rfl) [.string (sb s)] (by rfl) ?_
  refine (cloneL_any s w.drew (by have := HS.out; unfold Sz at this; omega)).mono ?_
  rintro e w7 ⟨rfl, f7⟩
  have c7 : w7.cell? ⟨1, 0, none⟩ = some (.iface t u) := f7.cell (show w.drew.cell? _ = _ from HC.out) id
  have HFR := hid ((Fr.refl No w).drew.trans' f7)
  refine ⟨_, rfl, hK _ _ (Facts.cons_hold c7 (Facts.nil_hold _)) ?_⟩
  clear hK K
  ·simp only [K.pu]
   refine K.on 3 [] rfl (fun K3 hK3 => ?_)
   refine wp_valD (.iface t u) (by go_simp) ?_
   refine hK3 _ _ (Facts.nil_hold _) ?_
   clear hK3 K3
   clear c7 f7
   try (simp only [K.pu])
   have hold : Facts.hold [] w7 := Facts.nil_hold _
   (refine K.pl 4 (v := (.agg #[.string (sb f), .string (sb s), .iface t u])) rfl ?_ ?_; (intro _w; go_simp; skip); simp only [K.pu])
   clear hold
   refine K.on 5 [] rfl (fun K5 hK5 => ?_)
   refine wp_boxD _ _ rfl (.agg #[.string (sb f), .string (sb s), .iface t u]) rfl [.string (sb f), .string (sb s), .iface t u] rfl ?_
   intro w8 HB8 HF8 HS8
   refine hK5 _ _ (Facts.nil_hold _) ?_
   clear hK5 K5
   simp only [K.pu]
   have hold : Facts.hold [] w8 := Facts.nil_hold _
   (refine K.pl 6 (v := ?_) rfl ?_ ?_; rotate_left; (intro; go_simp; try with_reducible rfl); simp only [K.pu])
   clear hold
   refine wpD_done (by kernel_rfl) ?_ _
   go_wp2_with fail
   go_ret
   exact ⟨⟨_, rfl⟩, HFR.out.trans' HF8.out⟩
 ·intro K hK
  refine wp_valD (.iface t u) (by have c0 : w.drew.cell? ⟨1, 0, none⟩ = some (.iface t u) := HC.out; go_simp) ?_
  refine hK _ _ (Facts.nil_hold _) ?_
  clear hK K
  simp only [K.pu]
  refine K.on 2 [] rfl (fun K2 hK2 => ?_)
  refine wp_call (.func 197) _ _ rfl 197 [] rfl (fun vs w => by kernel_rfl) [.string (sb s)] (by rfl) ?_
  refine (cloneL_any s w.drew (by have := HS.out; unfold Sz at this; omega)).mono ?_
  rintro e w7 ⟨rfl, f7⟩
  have HFR := hid ((Fr.refl No w).drew.trans' f7)
  refine ⟨_, rfl, hK2 _ _ (Facts.nil_hold _) ?_⟩
  clear hK2 K2
  ·try (simp only [K.pu])
   have hold : Facts.hold [] w7 := Facts.nil_hold _
   (refine K.pl 4 (v := (.agg #[.string (sb f), .string (sb s), .iface t u])) rfl ?_ ?_; (intro _w; go_simp; skip); simp only [K.pu])
   clear hold
   refine K.on 5 [] rfl (fun K5 hK5 => ?_)
   refine wp_boxD _ _ rfl (.agg #[.string (sb f), .string (sb s), .iface t u]) rfl [.string (sb f), .string (sb s), .iface t u] rfl ?_
   intro w8 HB8 HF8 HS8
   refine hK5 _ _ (Facts.nil_hold _) ?_
   clear hK5 K5
   simp only [K.pu]
   have hold : Facts.hold [] w8 := Facts.nil_hold _
   (refine K.pl 6 (v := ?_) rfl ?_ ?_; rotate_left; (intro; go_simp; try with_reducible rfl); simp only [K.pu])
   clear hold
   refine wpD_done (by kernel_rfl) ?_ _
   go_wp2_with fail
   go_ret
   exact ⟨⟨_, rfl⟩, HFR.out.trans' HF8.out⟩
def ToldU (l : B) (e : Ending) : Prop := match hexs 0 l with
 | some n => e = .returned (.tuple #[.int .u64 (n : Int), .nilIface])
 | none => ∃ t u, e = .returned (.tuple #[.int .u64 0, .iface t u])
theorem toError_any (f s : B) (hs : Sz s) (w : World) (hG : Gl w) : Calls Tryz.prog 124 #[.string (sb f), .string (sb s), .int .i64 16, .int .i64 8, .iface 213 (.int .i64 2)] w fun e w' => (∃ t u, e = .returned (.iface t u)) ∧ Fr No w w' := by
 have H := hid (syntaxError_any f s hs w hG)
 clear hs hG
 go_enter Tryz.func124, Tryz.ntmps124
 go_wp2_with (first | ((with_reducible refine K.atO (.binOp .eql 134 _ _ _) ?_); refine wpL_valZ rfl (.bool true) (by kernel_rfl) ?_))
 refine H.out.mono ?_
 rintro e w1 ⟨⟨b, rfl⟩, f1⟩
 have HF := hid f1
 clear f1
 go_wp2_with fail
 go_ret
 exact ⟨⟨_, _, rfl⟩, HF.out⟩
theorem parseUint_any (x y : UInt8) (w : World) (hG : Gl w) : Calls Tryz.prog 246 #[.string (sb [x, y]), .int .i64 16, .int .i64 8] w fun e w' => ToldU [x, y] e ∧ Fr No w w' := by
 have H := hid (iparse_any x y w)
 have HG := hid hG
 have HZ : Hid (Sz [x, y]) := hid (by unfold Sz; simp)
 unfold ToldU
 clear hG
 cases hr : hexs 0 [x, y] with
 | some n =>
  rw [hr] at H
  clear hr
  go_enter Tryz.func246, Tryz.ntmps246
  go_wp2_with fail
  refine H.out.mono ?_
  rintro e w1 ⟨rfl, f1⟩
  have HF := hid f1
  clear f1
  unfold puR
  go_wp2_with fail
  go_ret2
  exact ⟨rfl, HF.out⟩
 | none =>
  rw [hr] at H
  clear hr
  go_enter Tryz.func246, Tryz.ntmps246
  go_wp2_with fail
  refine H.out.mono ?_
  rintro e w1 ⟨rfl, f1⟩
  have HF := hid f1
  clear f1
  unfold puR
  go_wp2_with fail
  refine (toError_any [80, 97, 114, 115, 101, 85, 105, 110, 116] [x, y] HZ.out w1 (HG.out.no HF.out)).mono ?_
  rintro e w2 ⟨⟨t, u, rfl⟩, f2⟩
  have HF2 := hid (HF.out.trans' f2)
  clear f2
  go_wp2_with fail
  go_ret2
  exact ⟨⟨_, _, rfl⟩, HF2.out⟩
end Go.Proofs.YtgbiicipkbpmeaaGreatDoor.DN
namespace Go.Proofs.YtgbiicipkbpmeaaGreatDoor.DN
set_option maxRecDepth 100000
open Go.ChangeShapes Go.WideShapes Go.ChangeAt Go.RowKit K BE
def laid : List (String × DataW Unit) := [("math/bits.deBruijn32tab", Rows.laid_math_bits_deBruijn32tab), ("math/bits.deBruijn64tab", Rows.laid_math_bits_deBruijn64tab), ("internal/strconv.uint64pow10", Rows.laid_internal_strconv_uint64pow10), ("strconv.ErrRange", Rows.laid_strconv_ErrRange), ("strconv.ErrSyntax", Rows.laid_strconv_ErrSyntax)]
theorem gSyn : Tryz.prog.globalNamed "strconv.ErrSyntax" = some 1 := by kernel_rfl
theorem gSynT : (Tryz.prog.globals[1]?).map (·.type) = some 134 := by kernel_rfl
theorem starE : "*" ++ "errors.errorString" = "*errors.errorString" := by decide
theorem rowES (u : TypeId) (h : Tryz.prog.typeName? 3 u = some "*errors.errorString") : u = 269 :=
 typeName_ptr_named (nm := "errors.errorString") (by rw [starE]; kernel_rfl) (by kernel_rfl) (by decide) u (by rw [starE]; exact h)
theorem cES : Tryz.prog.cellsOf 271 = 1 := by kernel_rfl
theorem gl_of {W : World} (h : laidMetH Tryz.prog laid W) : Gl W := by
 have h0 : laidMet Tryz.prog laid W := h
 obtain ⟨a, s, hv, -⟩ := laid_sentinel (r := []) (nm := "*errors.errorString") h0.tail.tail.tail.tail gSyn gSynT Tryz.underlying134 rowES Tryz.underlying269 Tryz.underlying271 rfl rfl Tryz.underlying9 cES cS
 exact ⟨_, _, by simpa using World.var?_cell gSyn hv 0⟩
def cellsD : DataW Unit → Array Value
 | .agg xs => (xs.map fun
  | .lit (.int k n) => Value.int k n
  | _ => undef).toArray
 | _ => #[]
def lay (cs : Array Value) : Obj → Obj
 | .cells _ t frozen => .cells cs t frozen
 | o => o
noncomputable def lowG : Nat := (World.holding Tryz.prog default ⟨#[], #[], []⟩).heap.size
noncomputable def laidWorld (os : Os) : World :=
 let w0 := World.holding Tryz.prog os ⟨#[.cells #[.string (sb [118, 97, 108, 117, 101, 32, 111, 117, 116, 32, 111, 102, 32, 114, 97, 110, 103, 101])] 271, .cells #[.string (sb [105, 110, 118, 97, 108, 105, 100, 32, 115, 121, 110, 116, 97, 120])] 271], #[], []⟩
 { w0 with heap := ((((w0.heap.modify 6 (lay (cellsD Rows.laid_math_bits_deBruijn32tab))).modify 7 (lay (cellsD Rows.laid_math_bits_deBruijn64tab))).modify 3 (lay (cellsD Rows.laid_internal_strconv_uint64pow10))).modify 2 (lay #[.iface 269 (.pointer (some ⟨lowG, 0, none⟩))])).modify 1 (lay #[.iface 269 (.pointer (some ⟨lowG + 1, 0, none⟩))]) }
end Go.Proofs.YtgbiicipkbpmeaaGreatDoor.DN
namespace Go.Proofs.YtgbiicipkbpmeaaGreatDoor.SC
set_option maxRecDepth 100000
open BE DN
structure Ty where
 nm : B
 syn : Int
 one : Bool
 shut : Bool
 sys : Bool
 share : Bool
 deriving DecidableEq
structure Cl where
 nm : B
 kind : Int
 sup : B
 must : List B
 may : List B
 deriving DecidableEq
structure Sch where
 tys : List Ty
 cls : List Cl
abbrev Atr := B × List B
abbrev Ent := List Atr
def fnd (L : List B) (s : B) : Option Nat := L.findIdx? fun n => low n == low s
def Sch.tn (s : Sch) : List B := s.tys.map (·.nm)
def Sch.cn (s : Sch) : List B := s.cls.map (·.nm)
def Sch.tyAt (s : Sch) (n : B) : Option Nat := fnd s.tn n
def Sch.clAt (s : Sch) (n : B) : Option Nat := fnd s.cn n
def newN (seen : List B) (n : B) : Bool := typ n && (fnd seen n).isNone
def rTy : List B → List Ty → Bool
 | _, [] => true
 | seen, t :: r => newN seen t.nm && (decide (1 ≤ t.syn) && decide (t.syn ≤ 5)) && rTy (seen ++ [t.nm]) r
def supOk (seen : List Cl) (c : Cl) : Bool :=
 if c.sup = [] then true else
 match fnd (seen.map (·.nm)) c.sup with
 | none => false
 | some i => match seen[i]? with
  | none => false
  | some d => d.kind == 0 || d.kind == c.kind
def has (tn : List B) (l : List B) : Bool := l.all fun m => (fnd tn m).isSome
def rCl (tn : List B) : List Cl → List Cl → Bool
 | _, [] => true
 | seen, c :: r => newN (seen.map (·.nm)) c.nm && (decide (0 ≤ c.kind) && decide (c.kind ≤ 2)) && supOk seen c && has tn c.must && has tn c.may && rCl tn (seen ++ [c]) r
def oc : B := [111, 98, 106, 101, 99, 116, 99, 108, 97, 115, 115]
def rFirst (t : Ty) : Bool := decide (low t.nm = oc) && (t.syn == 1 && !t.one && !t.shut && !t.sys && !t.share)
def okS (s : Sch) : Bool :=
 decide (1 ≤ s.tys.length) && decide (s.tys.length ≤ 40) && decide (s.cls.length ≤ 20) && ((match s.tys with | [] => false | t :: _ => rFirst t) && rTy [] s.tys && rCl s.tn [] s.cls)
def isD (c : UInt8) : Bool := decide (48 ≤ c.toNat) && decide (c.toNat ≤ 57)
def valD (n : Nat) (l : B) : Nat := l.foldl (fun n c => 10 * n + (c.toNat - 48)) n
def isDs (l : B) : Bool := l.all isD && decide (1 ≤ l.length) && decide (l.length ≤ 9) && decide (l.head? ≠ some 48)
def numV (v : B) : Option Int :=
 if v = [48] then some 0 else
 match v with
 | [] => none
 | c :: r => if c.toNat = 45 then (if isDs r then some (-(valD 0 r : Int)) else none) else (if isDs (c :: r) then some (valD 0 (c :: r) : Int) else none)
def tTrue : B := [116, 114, 117, 101]
def tFalse : B := [102, 97, 108, 115, 101]
def truth (v : B) : Option B := if low v = tTrue then some [84, 82, 85, 69] else if low v = tFalse then some [70, 65, 76, 83, 69] else none
def normV (syn : Int) (v : B) : Option B :=
 if 200 < v.length then none
 else if syn = 1 then (if fold v = [] then none else some (fold v))
 else if syn = 2 then some v
 else if syn = 3 then (numV v).map fun _ => v
 else if syn = 4 then (if (parse v).2 = 0 then some (key (parse v).1) else none)
 else truth v
def normE (s : Sch) (n v : B) : B × Int :=
 match (s.tyAt n).bind fun i => s.tys[i]? with
 | none => ([], 131)
 | some t => match normV t.syn v with
  | none => ([], 132)
  | some x => (x, 0)
def sgn (m n : Int) : Int := if m < n then -1 else if n < m then 1 else 0
def cmpV (syn : Int) (x y : B) : Int := if syn = 3 then sgn ((numV x).getD 0) ((numV y).getD 0) else Lib.compareBytes x y
def synOf (s : Sch) (n : B) : Int := ((s.tyAt n).bind fun i => s.tys[i]?).elim 0 (·.syn)
def cmpE (s : Sch) (n a b : B) : Int × Int :=
 if (normE s n a).2 = 0 then (if (normE s n b).2 = 0 then (cmpV (synOf s n) (normE s n a).1 (normE s n b).1, 0) else (0, (normE s n b).2)) else (0, (normE s n a).2)
def okVals (syn : Int) : List B → List B → Bool
 | _, [] => true
 | seen, v :: r => match normV syn v with
  | none => false
  | some n => !(seen.contains n) && okVals syn (seen ++ [n]) r
def chkVals (t : Ty) (vs : List B) : Int :=
 if vs = [] then 132 else if okVals t.syn [] vs then (if t.one ∧ 1 < vs.length then 136 else 0) else 132
abbrev Set := Nat → Bool
def none_ : Set := fun _ => false
def put (f : Set) (i : Nat) : Set := fun j => f j || decide (j = i)
def puts (f : Set) (l : List Nat) : Set := l.foldl put f
def chkAts (s : Sch) : Set → Ent → Set × Int
 | f, [] => (f, 0)
 | f, a :: r =>
  match s.tyAt a.1 with
  | none => (none_, 131)
  | some i => if f i then (none_, 131) else
   match s.tys[i]? with
   | none => (none_, 131)
   | some t => if chkVals t a.2 = 0 then chkAts s (put f i) r else (none_, chkVals t a.2)
def supAt (s : Sch) (k : Nat) : Option Nat := s.cls[k]?.bind fun c => s.clAt c.sup
def lineF (s : Sch) : Nat → Nat → List Nat
 | 0, k => [k]
 | f + 1, k => k :: match supAt s k with
  | none => []
  | some j => lineF s f j
def line (s : Sch) (k : Nat) : List Nat := lineF s k k
def clStep (s : Sch) (f : Set) (all : Bool) (v : B) : Set × Bool :=
 match (normV 1 v).bind s.clAt with
 | none => (f, false)
 | some k => (puts f (line s k), all)
def clVals (s : Sch) : Set → Bool → List B → Set × Bool
 | f, all, [] => (f, all)
 | f, all, v :: r => clVals s (clStep s f all v).1 (clStep s f all v).2 r
def classesOf (s : Sch) (en : Ent) : Set × Bool :=
 match en.find? fun a => decide (s.tyAt a.1 = some 0) with
 | none => (none_, true)
 | some a => clVals s none_ true a.2
def strs1 (s : Sch) (f : Set) : List Nat := (List.range s.cls.length).filter fun k => f k && decide (s.cls[k]?.map (·.kind) = some 1)
def chain (s : Sch) (f : Set) : Bool :=
 match (strs1 s f).getLast? with
 | none => false
 | some k => (strs1 s f).all fun j => puts none_ (line s k) j
def ats (s : Sch) (l : List B) : List Nat := l.map fun n => (s.tyAt n).getD 0
def mustF (s : Sch) (f : Set) : Nat → Set
 | 0 => none_
 | n + 1 => if f n then puts (mustF s f n) (ats s ((s.cls[n]?.map (·.must)).getD [])) else mustF s f n
def mayF (s : Sch) (f : Set) : Nat → Set
 | 0 => none_
 | n + 1 => if f n then puts (mayF s f n) (ats s ((s.cls[n]?.map (·.may)).getD [])) else mayF s f n
def okMust (s : Sch) (pr f : Set) : Bool := (List.range 40).all fun i => !(mustF s f s.cls.length i && !pr i)
def okMay1 (s : Sch) (pr f : Set) (i : Nat) (t : Ty) : Bool := !(pr i && !t.sys && !decide (i = 0) && !mustF s f s.cls.length i && !mayF s f s.cls.length i)
def okMayF (s : Sch) (pr f : Set) : Nat → List Ty → Bool
 | _, [] => true
 | i, t :: r => okMay1 s pr f i t && okMayF s pr f (i + 1) r
def chkTys (s : Sch) (pr f : Set) : Int := if okMust s pr f then (if okMayF s pr f 0 s.tys then 0 else 135) else 134
def check (s : Sch) (en : Ent) : Int :=
 if (chkAts s none_ en).2 = 0 then
  if (classesOf s en).2 && chain s (classesOf s en).1 then chkTys s (chkAts s none_ en).1 (classesOf s en).1 else 133
 else (chkAts s none_ en).2
def isA (s : Sch) (en : Ent) (c : B) : Bool :=
 match s.clAt c with
 | none => false
 | some k => (classesOf s en).1 k
theorem valD_snoc (n : Nat) (l : B) (c : UInt8) : valD n (l ++ [c]) = 10 * valD n l + (c.toNat - 48) := by simp [valD]
theorem valD_lt : ∀ (l : B) (n : Nat), (∀ c ∈ l, c.toNat ≤ 57) → valD n l < (n + 1) * 10 ^ l.length
 | [], n, _ => by simp [valD]
 | c :: r, n, h => by
  have h1 := h c List.mem_cons_self
  have ih := valD_lt r (10 * n + (c.toNat - 48)) (fun d hd => h d (List.mem_cons_of_mem _ hd))
  have : valD n (c :: r) = valD (10 * n + (c.toNat - 48)) r := rfl
  rw [this, List.length_cons, Nat.pow_succ]
  refine Nat.lt_of_lt_of_le ih ?_
  have h2 : 10 * n + (c.toNat - 48) + 1 ≤ (n + 1) * 10 := by omega
  calc _ ≤ (n + 1) * 10 * 10 ^ r.length := Nat.mul_le_mul_right _ h2
   _ = _ := by rw [Nat.mul_assoc, Nat.mul_comm 10]
theorem isD_of {c : UInt8} (h : isD c = true) : 48 ≤ c.toNat ∧ c.toNat ≤ 57 := by
 simpa [isD] using h
theorem isDs_of {l : B} (h : isDs l = true) : (∀ c ∈ l, 48 ≤ c.toNat ∧ c.toNat ≤ 57) ∧ 1 ≤ l.length ∧ l.length ≤ 9 ∧ l.head? ≠ some 48 := by
 simp only [isDs, Bool.and_eq_true, List.all_eq_true, decide_eq_true_eq] at h
 exact ⟨fun c hc => isD_of (h.1.1.1 c hc), h.1.1.2, h.1.2, h.2⟩
theorem valD_b {l : B} (h : isDs l = true) : valD 0 l ≤ 999999999 := by
 obtain ⟨h1, h2, h3, -⟩ := isDs_of h
 have := valD_lt l 0 (fun c hc => (h1 c hc).2)
 have h4 : 10 ^ l.length ≤ 10 ^ 9 := Nat.pow_le_pow_right (by decide) h3
 have h5 : (10 : Nat) ^ 9 = 1000000000 := by decide
 omega
theorem parse10 : ∀ (l : B) (acc : Nat), (∀ c ∈ l, 48 ≤ c.toNat ∧ c.toNat ≤ 57) → (acc + 1) * 10 ^ l.length ≤ 1000000000 → Lib.parseUint10 acc l = .ok (valD acc l)
 | [], acc, _, _ => rfl
 | c :: r, acc, h, hb => by
  obtain ⟨h1, h2⟩ := h c List.mem_cons_self
  rw [List.length_cons, Nat.pow_succ] at hb
  have hp : 1 ≤ 10 ^ r.length := Nat.one_le_pow _ _ (by decide)
  have hle : (acc + 1) * 10 ≤ 1000000000 := by
   refine Nat.le_trans ?_ hb
   rw [Nat.mul_comm (10 ^ r.length) 10, ← Nat.mul_assoc]
   exact Nat.le_mul_of_pos_right _ hp
  have hb' : (acc * 10 + (c.toNat - 48) + 1) * 10 ^ r.length ≤ 1000000000 := by
   refine Nat.le_trans ?_ hb
   rw [Nat.mul_comm (10 ^ r.length) 10, ← Nat.mul_assoc]
   exact Nat.mul_le_mul_right _ (by omega)
  unfold Lib.parseUint10
  rw [if_pos ⟨h1, h2⟩, if_neg (by omega), if_neg (by omega), parse10 r _ (fun d hd => h d (List.mem_cons_of_mem _ hd)) hb']
  show _ = Lib.NumEnd.ok (valD (10 * acc + (c.toNat - 48)) r)
  rw [Nat.mul_comm acc 10]
theorem mag {l : B} (h : isDs l = true) : Lib.parseMag l = .ok (valD 0 l) := by
 obtain ⟨h1, h2, h3, -⟩ := isDs_of h
 unfold Lib.parseMag
 rw [if_neg (by intro e; subst e; simp at h2)]
 refine parse10 l 0 h1 ?_
 have : 10 ^ l.length ≤ 10 ^ 9 := Nat.pow_le_pow_right (by decide) h3
 have h5 : (10 : Nat) ^ 9 = 1000000000 := by decide
 omega
theorem dgt_of {c : UInt8} {u : Nat} (h : c.toNat = 48 + u) : UInt8.ofNat (48 + u) = c := by rw [← h]; exact UInt8.ofNat_toNat
theorem dec_val : ∀ (n : Nat) (l : B), l.length = n → (∀ c ∈ l, 48 ≤ c.toNat ∧ c.toNat ≤ 57) → 1 ≤ n → l.head? ≠ some 48 → Lib.decDigits (valD 0 l) = l ∧ 0 < valD 0 l
 | 0, _, _, _, h, _ => by omega
 | n + 1, l, hl, hd, _, h0 => by
  obtain ⟨r, c, rfl⟩ : ∃ r c, l = r ++ [c] := ⟨l.dropLast, l.getLast (by intro e; subst e; simp at hl), (List.dropLast_concat_getLast _).symm⟩
  have hc := hd c (by simp)
  have hrl : r.length = n := by simpa using hl
  rw [valD_snoc]
  by_cases hr : r = []
  ·subst hr
   have hne : c.toNat ≠ 48 := fun e => h0 (by simp; exact UInt8.toNat_inj.1 (by rw [e]; rfl))
   have hv : 10 * valD 0 [] + (c.toNat - 48) = c.toNat - 48 := by simp [valD]
   rw [hv]
   refine ⟨?_, by omega⟩
   rw [Lib.decDigits, dif_pos (by omega)]
   exact congrArg (· :: []) (dgt_of (by omega))
  ·have hn : 1 ≤ n := by rw [← hrl]; exact List.length_pos_iff.2 hr
   have hh : r.head? ≠ some 48 := by
    intro e
    apply h0
    cases r with
    | nil => cases e
    | cons a r => simpa using e
   obtain ⟨i1, i2⟩ := dec_val n r hrl (fun d hdm => hd d (by simp [hdm])) hn hh
   refine ⟨?_, by omega⟩
   rw [Lib.decDigits, dif_neg (by omega), show (10 * valD 0 r + (c.toNat - 48)) / 10 = valD 0 r by omega, i1, show (10 * valD 0 r + (c.toNat - 48)) % 10 = c.toNat - 48 by omega, dgt_of (c := c) (by omega)]
theorem dec_is : ∀ (k u : Nat), u < 10 ^ k → 1 ≤ k → (∀ c ∈ Lib.decDigits u, isD c = true) ∧ 1 ≤ (Lib.decDigits u).length ∧ (Lib.decDigits u).length ≤ k ∧ (0 < u → (Lib.decDigits u).head? ≠ some 48)
 | 0, _, _, h => by omega
 | k + 1, u, hu, _ => by
  rw [Lib.decDigits]
  have hdig : ∀ x, x < 10 → isD (UInt8.ofNat (48 + x)) = true := fun x hx => by
   have : (UInt8.ofNat (48 + x)).toNat = 48 + x := by rw [UInt8.toNat_ofNat']; omega
   unfold isD
   rw [this]
   simp
   omega
  have hne : ∀ x, 0 < x → x < 10 → UInt8.ofNat (48 + x) ≠ 48 := fun x h0 hx e => by
   have : (UInt8.ofNat (48 + x)).toNat = 48 + x := by rw [UInt8.toNat_ofNat']; omega
   rw [e] at this
   have e2 : (48 : UInt8).toNat = 48 := rfl
   omega
  split
  ·rename_i h
   refine ⟨fun c hc => ?_, by simp, by simp, fun h0 => ?_⟩
   ·rw [List.mem_singleton] at hc
    subst hc
    exact hdig u h
   ·simpa using hne u h0 h
  ·rename_i h
   have hk : 1 ≤ k := by
    rcases Nat.eq_zero_or_pos k with rfl | hk
    ·simp at hu; omega
    ·exact hk
   obtain ⟨i1, i2, i3, i4⟩ := dec_is k (u / 10) (by rw [Nat.pow_succ] at hu; omega) hk
   refine ⟨fun c hc => ?_, by simp, by simp; exact i3, fun _ => ?_⟩
   ·rcases List.mem_append.1 hc with hc | hc
    ·exact i1 c hc
    ·rw [List.mem_singleton] at hc
     subst hc
     exact hdig _ (Nat.mod_lt _ (by decide))
   ·have := i4 (by omega)
    cases hd : Lib.decDigits (u / 10) with
    | nil => rw [hd] at i2; simp at i2
    | cons a r => rw [hd] at this; simpa using this
theorem dec_ds {u : Nat} (h0 : 0 < u) (hu : u ≤ 999999999) : isDs (Lib.decDigits u) = true := by
 have h5 : (10 : Nat) ^ 9 = 1000000000 := by decide
 obtain ⟨h1, h2, h3, h4⟩ := dec_is 9 u (by rw [h5]; omega) (by decide)
 unfold isDs
 simp only [Bool.and_eq_true, List.all_eq_true, decide_eq_true_eq]
 exact ⟨⟨⟨h1, h2⟩, h3⟩, h4 h0⟩
theorem dec_zero : Lib.decDigits 0 = [48] := by rw [Lib.decDigits]; rfl
theorem num_ok {v : B} {n : Int} (h : Lib.atoiAll v = .ok n) (hi : Lib.itoa n = v) (h1 : -999999999 ≤ n) (h2 : n ≤ 999999999) : numV v = some n := by
 unfold Lib.itoa at hi
 by_cases hn : n < 0
 ·rw [if_pos hn] at hi
  have hds := dec_ds (u := n.natAbs) (by omega) (by omega)
  obtain ⟨hd, hl, -, hh⟩ := isDs_of hds
  obtain ⟨e1, -⟩ := dec_val _ _ rfl hd hl hh
  have hval : valD 0 (Lib.decDigits n.natAbs) = n.natAbs := by
   have ha : Lib.atoiAll v = .ok (-(valD 0 (Lib.decDigits n.natAbs) : Int)) := by
    rw [← hi]
    unfold Lib.atoiAll
    have := valD_b hds
    simp only [show (45 : UInt8).toNat = 45 from rfl, or_true, if_true, mag hds, not_true, false_and, if_false, true_and]
    rw [if_neg (by omega)]
   rw [h] at ha
   injection ha with ha
   omega
  rw [← hi]
  unfold numV
  rw [if_neg (by intro e; cases e)]
  simp only [show (45 : UInt8).toNat = 45 from rfl, if_true, hds, hval]
  congr 1
  omega
 ·rw [if_neg hn] at hi
  by_cases h0 : n = 0
  ·subst h0
   rw [show (0 : Int).toNat = 0 from rfl, dec_zero] at hi
   subst hi
   rfl
  ·have hds := dec_ds (u := n.toNat) (by omega) (by omega)
   obtain ⟨hd, hl, -, hh⟩ := isDs_of hds
   rw [hi] at hds hd hl hh
   cases v with
   | nil => simp at hl
   | cons c r =>
    have hc := hd c List.mem_cons_self
    have hc48 : c ≠ 48 := fun e => hh (by rw [e]; rfl)
    have hval : (valD 0 (c :: r) : Int) = n := by
     have ha : Lib.atoiAll (c :: r) = .ok (valD 0 (c :: r) : Int) := by
      unfold Lib.atoiAll
      have := valD_b hds
      simp only []
      rw [if_neg (by omega), mag hds]
      simp only []
      rw [if_neg (by omega), if_neg (by omega), if_neg (by omega)]
     rw [h] at ha
     injection ha with ha
     exact ha.symm
    unfold numV
    rw [if_neg (by intro e; cases e; exact hc48 rfl)]
    simp only []
    rw [if_neg (by omega), if_pos hds, hval]
theorem num_back {v : B} {n : Int} (h : numV v = some n) : Lib.atoiAll v = .ok n ∧ Lib.itoa n = v ∧ -999999999 ≤ n ∧ n ≤ 999999999 := by
 unfold numV at h
 split at h
 ·rename_i e
  subst e
  cases h
  exact ⟨rfl, by unfold Lib.itoa; rw [if_neg (by decide)]; exact dec_zero, by decide, by decide⟩
 ·split at h
  ·cases h
  ·rename_i c r hne
   split at h
   ·rename_i hc
    split at h
    ·rename_i hds
     cases h
     have hb := valD_b hds
     obtain ⟨hd, hl, -, hh⟩ := isDs_of hds
     obtain ⟨e1, e2⟩ := dec_val _ _ rfl hd hl hh
     have hcc : c = 45 := UInt8.toNat_inj.1 hc
     subst hcc
     refine ⟨?_, ?_, by omega, by omega⟩
     ·unfold Lib.atoiAll
      simp only [show (45 : UInt8).toNat = 45 from rfl, or_true, if_true, mag hds, not_true, false_and, if_false, true_and]
      rw [if_neg (by omega)]
     ·unfold Lib.itoa
      rw [if_pos (by omega), show (-(valD 0 r : Int)).natAbs = valD 0 r by omega, e1]
    ·cases h
   ·rename_i hc
    split at h
    ·rename_i hds
     cases h
     have hb := valD_b hds
     obtain ⟨hd, hl, -, hh⟩ := isDs_of hds
     obtain ⟨e1, e2⟩ := dec_val _ _ rfl hd hl hh
     have hcd := hd c List.mem_cons_self
     refine ⟨?_, ?_, by omega, by omega⟩
     ·unfold Lib.atoiAll
      simp only []
      rw [if_neg (by omega), mag hds]
      simp only []
      rw [if_neg (by omega), if_neg (by omega), if_neg hc]
     ·unfold Lib.itoa
      rw [if_neg (by omega), Int.toNat_natCast, e1]
    ·cases h
end Go.Proofs.YtgbiicipkbpmeaaGreatDoor.SC
