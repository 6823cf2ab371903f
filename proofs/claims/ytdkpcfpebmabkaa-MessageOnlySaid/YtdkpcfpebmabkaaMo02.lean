/-
  Part 2 of the proof: BeI, BeJ, MeD, Tx, MeM, BeK, BeT, BeS.
-/
import Derived.Test.YtdkpcfpebmabkaaMo01
set_option linter.unusedSimpArgs false
set_option linter.unusedVariables false
namespace Go.Proofs.Ytdkpcfpebmabkaa.BE
set_option maxRecDepth 100000
open Go.RowKit K

def byt (n : Int) : UInt8 := UInt8.ofNat (n % 256).toNat
theorem byt_nat (n : Int) : ((byt n).toNat : Int) = n % 256 := by
  unfold byt
  rw [ofNat_lt (by omega)]
  omega
/-- The bytes of a number of at most f + 1 bytes. -/
def intG : Nat → Int → B
  | 0, n => [byt n]
  | f + 1, n => if n = sgn (byt n) then [byt n] else intG f (n / 256) ++ [byt n]
def intS (n : Int) : B := intG 7 n
theorem intG_len : ∀ (f : Nat) (n : Int), 1 ≤ (intG f n).length ∧ (intG f n).length ≤ f + 1
  | 0, n => by simp [intG]
  | f + 1, n => by
    unfold intG
    split
    · simp
    · have := intG_len f (n / 256)
      simp; omega
theorem sgn_byt (n : Int) : sgn (byt n) = if n % 256 < 128 then n % 256 else n % 256 - 256 := by
  have h := byt_nat n
  unfold sgn
  have : ((byt n).toNat < 128) = (n % 256 < 128) := by simp; omega
  by_cases h1 : n % 256 < 128
  · rw [if_pos (by omega), if_pos h1]; exact h
  · rw [if_neg (by omega), if_neg h1, h]
set_option maxHeartbeats 4000000 in
theorem int_any : ∀ (f : Nat) (n : Int) (w : World), f ≤ 7 → -(128 * 256 ^ f) ≤ n → n < 128 * 256 ^ f → (-9223372036854775808 ≤ n ∧ n ≤ 9223372036854775807) → Calls Try.prog 46 #[.int .i64 n] w fun e w' => e = .returned (.string (sb (intG f n))) ∧ Fr No w w' := by
  intro f
  induction f with
  | zero =>
    intro n w _ h1 h2 hb
    have heq : n = sgn (byt n) := by rw [sgn_byt]; split <;> omega
    have HEQ := hid heq
    have hby : BytesIn (w.alloc (.cells #[.int .u8 (n % 256)] 5)) Any (.slice (some ⟨w.heap.size, 0, none⟩) 1 1) [byt n] := bytes_lit w _ _ _ (by simp [u8s, byt_nat]) rfl
    have HBY := hid hby
    have HI : Hid (([byt n] : B)[0]? = some (byt n)) := hid rfl
    clear heq hby
    obtain ⟨bb, hbb⟩ : ∃ bb, byt n = bb := ⟨_, rfl⟩
    rw [hbb] at HEQ HBY HI
    have HBB := hid hbb
    have HG : Hid (intG 0 n = [bb]) := hid (by show [byt n] = [bb]; rw [hbb])
    clear hbb h1 h2
    go_enter Try.func46, Try.ntmps46
    go_wp2_with (first
      | ((with_reducible show wpList _ _ _ (⟨_, .convert _ 9 _, _, _, _, _⟩ :: _) _ _); refine wpL_stringS rfl _ rfl _ Any _ rfl HBY.out ?_)
      | ((with_reducible show wpList _ _ _ (⟨_, .index 9 _ _, _, _, _, _⟩ :: _) _ _); refine wpL_valZ rfl (.int .u8 (bb.toNat : Int)) (exec_idx _ _ rfl [bb] 0 bb HI.out _ rfl rfl rfl _) ?_))
    refine (signed_any bb _).mono ?_
    rintro e w1 ⟨rfl, rfl⟩
    rw [← HEQ.out]
    go_wp2_with fail
    go_ret
    rw [HG.out]
    exact ⟨rfl, (Fr.refl No w).alloc _⟩
  | succ f ih =>
    intro n w hf h1 h2 hb
    have hby : BytesIn (w.alloc (.cells #[.int .u8 (n % 256)] 5)) Any (.slice (some ⟨w.heap.size, 0, none⟩) 1 1) [byt n] := bytes_lit w _ _ _ (by simp [u8s, byt_nat]) rfl
    have HBY := hid hby
    have HI : Hid (([byt n] : B)[0]? = some (byt n)) := hid rfl
    have HIH := hid ih
    have HP := hid (show -(128 * 256 ^ f) ≤ n / 256 ∧ n / 256 < 128 * 256 ^ f by
      rw [Int.pow_succ] at h1 h2
      omega)
    have HG0 : intG (f + 1) n = if n = sgn (byt n) then [byt n] else intG f (n / 256) ++ [byt n] := rfl
    obtain ⟨bb, hbb⟩ : ∃ bb, byt n = bb := ⟨_, rfl⟩
    rw [hbb] at HBY HI HG0
    have HG := hid HG0
    have HFL := hid hf
    have HSG : Hid (-128 ≤ sgn bb ∧ sgn bb ≤ 127) := hid (by unfold sgn; have := lt256 bb; split <;> omega)
    clear hbb h1 h2 hby ih HG0 hf
    obtain ⟨sg, hsg⟩ : ∃ sg, sgn bb = sg := ⟨_, rfl⟩
    rw [hsg] at HG HSG
    have HSE := hid hsg
    clear hsg
    by_cases hq : n = sg
    · have hG : intG (f + 1) n = [bb] := by rw [HG.out, if_pos hq]
      have HGG := hid hG
      have HQ := hid hq
      clear hG hq
      go_enter Try.func46, Try.ntmps46
      go_wp2_with (first
        | ((with_reducible show wpList _ _ _ (⟨_, .convert _ 9 _, _, _, _, _⟩ :: _) _ _); refine wpL_stringS rfl _ rfl _ Any _ rfl HBY.out ?_)
        | ((with_reducible show wpList _ _ _ (⟨_, .index 9 _ _, _, _, _, _⟩ :: _) _ _); refine wpL_valZ rfl (.int .u8 (bb.toNat : Int)) (exec_idx _ _ rfl [bb] 0 bb HI.out _ rfl rfl rfl _) ?_))
      refine (signed_any bb _).mono ?_
      rintro e w1 ⟨rfl, rfl⟩
      rw [HSE.out, ← HQ.out]
      go_wp2_with fail
      go_ret
      rw [HGG.out]
      exact ⟨rfl, (Fr.refl No w).alloc _⟩
    · have hG : intG (f + 1) n = intG f (n / 256) ++ [bb] := by rw [HG.out, if_neg hq]
      have HGG := hid hG
      clear hG
      go_enter Try.func46, Try.ntmps46
      go_wp2_with (first
        | ((with_reducible show wpList _ _ _ (⟨_, .convert _ 9 _, _, _, _, _⟩ :: _) _ _); refine wpL_stringS rfl _ rfl _ Any _ rfl HBY.out ?_)
        | ((with_reducible show wpList _ _ _ (⟨_, .index 9 _ _, _, _, _, _⟩ :: _) _ _); refine wpL_valZ rfl (.int .u8 (bb.toNat : Int)) (exec_idx _ _ rfl [bb] 0 bb HI.out _ rfl rfl rfl _) ?_))
      refine (signed_any bb _).mono ?_
      rintro e w1 ⟨rfl, rfl⟩
      rw [HSE.out]
      go_wp2_with fail
      refine (HIH.out (n / 256) _ (by have := HFL.out; omega) HP.out.1 HP.out.2 (by omega)).mono ?_
      rintro e w2 ⟨rfl, f2⟩
      have hl := (intG_len f (n / 256)).2
      have hfl := HFL.out
      have HF2 := hid (((Fr.refl No w).alloc _).trans' f2)
      obtain ⟨G, hG⟩ : ∃ G, intG f (n / 256) = G := ⟨_, rfl⟩
      rw [hG] at hl ⊢
      have HGE := hid hG
      have HLE := hid (show G.length + [bb].length ≤ 9223372036854775807 by simp; omega)
      clear f2 hG hl
      go_wp2_with ((with_reducible show wpList _ _ _ (⟨_, .binOp .add 9 _ _ _, _, _, _, _⟩ :: _) _ _); refine wpL_valZ rfl (.string (sb (G ++ [bb]))) (exec_addS _ _ _ rfl G [bb] rfl rfl HLE.out _ rfl _) ?_)
      go_ret
      rw [HGG.out, HGE.out]
      exact ⟨rfl, HF2.out⟩
end Go.Proofs.Ytdkpcfpebmabkaa.BE

namespace Go.Proofs.Ytdkpcfpebmabkaa.BE
set_option maxRecDepth 100000
open Go.RowKit K

/-- What Number tells. -/
def numS (s : B) : Int × Bool := match s with
  | [] => (0, false)
  | b :: r => if 4 < s.length then (0, false) else if intS (joinI (sgn b) r) = s then (joinI (sgn b) r, true) else (0, false)

/-! ### Mathematics -/
theorem sgn_lim (b : UInt8) : -128 ≤ sgn b ∧ sgn b < 128 := by unfold sgn; have := lt256 b; split <;> omega
theorem join_lim : ∀ (l : B) (h : Int) (k : Nat), -(k : Int) ≤ h → h < k → -((k : Int) * 256 ^ l.length) ≤ joinI h l ∧ joinI h l < (k : Int) * 256 ^ l.length
  | [], h, k, h1, h2 => by simp [joinI]; omega
  | b :: r, h, k, h1, h2 => by
    have hb := lt256 b
    have := join_lim r (h * 256 + b.toNat) (k * 256) (by push_cast; omega) (by push_cast; omega)
    rw [List.length_cons, Int.pow_succ]
    have e : (k : Int) * (256 ^ r.length * 256) = ((k * 256 : Nat) : Int) * 256 ^ r.length := by
      rw [Int.natCast_mul, Int.mul_assoc, Int.mul_comm (256 ^ r.length) 256]; rfl
    rw [e]
    exact this
end Go.Proofs.Ytdkpcfpebmabkaa.BE

namespace Go.Proofs.Ytdkpcfpebmabkaa.ME
set_option maxRecDepth 100000
open Go.Proofs.Ytdkpcfpebmabkaa.BE

/-- A filter. -/
inductive Fl where
  | mk (kind : Int) (kids : List Fl) (type value first : B) (any : List B) (last : B)
def Fl.kind : Fl → Int | .mk k _ _ _ _ _ _ => k
def Fl.kids : Fl → List Fl | .mk _ k _ _ _ _ _ => k
def Fl.type : Fl → B | .mk _ _ t _ _ _ _ => t
def Fl.value : Fl → B | .mk _ _ _ v _ _ _ => v
def Fl.first : Fl → B | .mk _ _ _ _ f _ _ => f
def Fl.any : Fl → List B | .mk _ _ _ _ _ a _ => a
def Fl.last : Fl → B | .mk _ _ _ _ _ _ l => l
def fl0 : Fl := .mk 0 [] [] [] [] [] []
structure At where
  type : B
  values : List B
structure Mo where
  doing : Int
  attr : At
/-- A message. -/
structure Msg where
  id : Int
  op : Int
  ver : Int
  name : B
  pw : B
  scope : Int
  deref : Int
  size : Int
  time : Int
  typesOnly : Bool
  filter : Fl
  wants : List B
  list : List At
  mods : List Mo
  rdn : B
  dropOld : Bool
  moves : Bool
  sup : B
  type : B
  value : B
  target : Int
  code : Int
  matched : B
  text : B
def msg0 (id op : Int) : Msg := ⟨id, op, 0, [], [], 0, 0, 0, 0, false, fl0, [], [], [], [], false, false, [], [], [], 0, 0, [], []⟩

/-! ### What may be -/
def kidsK (k : Int) : Bool := decide (k = 0) || decide (k = 1) || decide (k = 2)
def valK (k : Int) : Bool := decide (k = 3) || decide (k = 5) || decide (k = 6)
def rightF : Nat → Fl → Bool
  | 0, _ => false
  | d + 1, f => (kidsK f.kind || valK f.kind || decide (f.kind = 4) || decide (f.kind = 7)) &&
      (if kidsK f.kind then f.type.isEmpty && !f.kids.isEmpty && (!decide (f.kind = 2) || decide (f.kids.length = 1)) else f.kids.isEmpty) &&
      (valK f.kind || f.value.isEmpty) && (decide (f.kind = 4) || f.first.isEmpty && f.last.isEmpty && f.any.isEmpty) &&
      !(decide (f.kind = 4) && f.first.isEmpty && f.last.isEmpty && f.any.isEmpty) && f.any.all (fun a => !a.isEmpty) && f.kids.all (rightF d)
def ansO (op : Int) : Bool := decide (op = 97) || decide (op = 101) || decide (op = 103) || decide (op = 105) || decide (op = 107) || decide (op = 109) || decide (op = 111) || decide (op = 120)
def namO (op : Int) : Bool := ansO op || decide (op = 96) || decide (op = 66) || decide (op = 99) || decide (op = 102) || decide (op = 104) || decide (op = 100) || decide (op = 74) || decide (op = 108) || decide (op = 110) || decide (op = 80)
def inI (n a b : Int) : Bool := decide (a ≤ n) && decide (n ≤ b)
def emptyF (f : Fl) : Bool := decide (f.kind = 0) && f.kids.isEmpty && f.type.isEmpty && f.value.isEmpty && f.first.isEmpty && f.any.isEmpty && f.last.isEmpty
def rightM (m : Msg) : Bool :=
  namO m.op && inI m.id 0 2147483647 &&
  (if m.op = 96 then inI m.ver 1 127 else decide (m.ver = 0) && m.pw.isEmpty) &&
  (!(decide (m.op = 66) || decide (m.op = 80) || ansO m.op && !decide (m.op = 120)) || m.name.isEmpty) &&
  (if m.op = 99 then rightF 6 m.filter && inI m.scope 0 2 && inI m.deref 0 3 && inI m.size 0 2147483647 && inI m.time 0 2147483647
    else decide (m.scope = 0) && decide (m.deref = 0) && decide (m.size = 0) && decide (m.time = 0) && !m.typesOnly && emptyF m.filter && m.wants.isEmpty) &&
  (decide (m.op = 104) || decide (m.op = 100) || m.list.isEmpty) && (decide (m.op = 102) || m.mods.isEmpty) &&
  m.mods.all (fun x => inI x.doing 0 2) &&
  (decide (m.op = 108) || m.rdn.isEmpty && !m.dropOld && !m.moves) && (m.moves || m.sup.isEmpty) &&
  (decide (m.op = 110) || m.type.isEmpty && m.value.isEmpty) &&
  (if m.op = 80 then inI m.target 0 2147483647 else decide (m.target = 0)) &&
  (if ansO m.op then inI m.code 0 127 else decide (m.code = 0) && m.matched.isEmpty && m.text.isEmpty)

/-! ### Pieces -/
def txN (s : B) : Nd := .mk 4 s []
def nuN (tag n : Int) : Nd := .mk tag (intS n) []
def trN (b : Bool) : Nd := .mk 1 (if b then [255] else [0]) []
def txsN (tag : Int) (l : List B) : Nd := .mk tag [] (l.map txN)
def atN (a : At) : Nd := .mk 48 [] [txN a.type, txsN 49 a.values]
def moN (x : Mo) : Nd := .mk 48 [] [nuN 10 x.doing, atN x.attr]
def partsN (f : Fl) : List Nd := (if f.first.isEmpty then [] else [.mk 128 f.first []]) ++ f.any.map (fun a => .mk 129 a []) ++ (if f.last.isEmpty then [] else [.mk 130 f.last []])
def pieceF : Nat → Fl → Nd
  | 0, _ => .mk 0 [] []
  | d + 1, f => if kidsK f.kind then .mk (160 + f.kind) [] (f.kids.map (pieceF d))
    else if f.kind = 4 then .mk 164 [] [txN f.type, .mk 48 [] (partsN f)]
    else if f.kind = 7 then .mk 135 f.type []
    else .mk (160 + f.kind) [] [txN f.type, txN f.value]
def opN (m : Msg) : Nd :=
  if m.op = 96 then .mk 96 [] [nuN 2 m.ver, txN m.name, .mk 128 m.pw []]
  else if m.op = 66 then .mk 66 [] []
  else if m.op = 99 then .mk 99 [] [txN m.name, nuN 10 m.scope, nuN 10 m.deref, nuN 2 m.size, nuN 2 m.time, trN m.typesOnly, pieceF 6 m.filter, txsN 48 m.wants]
  else if m.op = 102 then .mk 102 [] [txN m.name, .mk 48 [] (m.mods.map moN)]
  else if m.op = 104 ∨ m.op = 100 then .mk m.op [] [txN m.name, .mk 48 [] (m.list.map atN)]
  else if m.op = 74 then .mk 74 m.name []
  else if m.op = 108 then .mk 108 [] ([txN m.name, txN m.rdn, trN m.dropOld] ++ if m.moves then [.mk 128 m.sup []] else [])
  else if m.op = 110 then .mk 110 [] [txN m.name, .mk 48 [] [txN m.type, txN m.value]]
  else if m.op = 80 then .mk 80 (intS m.target) []
  else .mk m.op [] ([nuN 10 m.code, txN m.matched, txN m.text] ++ if m.op = 120 then [.mk 138 m.name []] else [])
def pieceM (m : Msg) : Nd := .mk 48 [] [nuN 2 m.id, opN m]

/-! ### What a piece might say -/
def nd0 : Nd := .mk 0 [] []
def kidN (n : Nd) (i : Nat) : Nd := n.kids.getD i nd0
def valN (n : Nd) : Int := (numS n.body).1
def bodiesN (n : Nd) : List B := n.kids.map Nd.body
def atOf (n : Nd) : At := ⟨(kidN n 0).body, bodiesN (kidN n 1)⟩
def moOf (n : Nd) : Mo := ⟨valN (kidN n 0), atOf (kidN n 1)⟩
/-- The parts, one behind the other. -/
def partOf (x : B × List B × B) (n : Nd) : B × List B × B := if n.tag = 128 then (n.body, x.2.1, x.2.2) else if n.tag = 130 then (x.1, x.2.1, n.body) else (x.1, x.2.1 ++ [n.body], x.2.2)
def partsOf (l : List Nd) : B × List B × B := l.foldl partOf ([], [], [])
def filterOf : Nat → Nd → Fl
  | 0, _ => fl0
  | d + 1, n => if kidsK (n.tag % 32) then .mk (n.tag % 32) (n.kids.map (filterOf d)) [] [] [] [] []
    else if n.tag % 32 = 7 then .mk 7 [] n.body [] [] [] []
    else if n.tag % 32 = 4 then .mk 4 [] (kidN n 0).body [] (partsOf (kidN n 1).kids).1 (partsOf (kidN n 1).kids).2.1 (partsOf (kidN n 1).kids).2.2
    else .mk (n.tag % 32) [] (kidN n 0).body (kidN n 1).body [] [] []
/-- What Encode tells. -/
def encM (m : Msg) : B × Nat := if rightM m then (encS (pieceM m), errN (pieceM m)) else ([], 110)
/-! ### What was written is read -/
/-! ### Encode and Decode -/
end Go.Proofs.Ytdkpcfpebmabkaa.ME

namespace Go.Proofs.Ytdkpcfpebmabkaa.FR
set_option maxRecDepth 100000
open Go.RowKit K Go.Proofs.Ytdkpcfpebmabkaa.BE

/-- Texts as cells. -/
def strs (L : List B) : List Value := L.map fun l => .string (sb l)
@[simp] theorem strs_length (L : List B) : (strs L).length = L.length := by simp [strs]
/-- The value is a slice of these texts; they lie in a block of E. -/
def TxIn (w : World) (E : Nat → Prop) (v : Value) (L : List B) : Prop :=
  ∃ a len cap, v = .slice a len cap ∧ L.length = len ∧ len ≤ cap ∧ (len = 0 ∨ ∃ g o, a = some ⟨g, o, none⟩ ∧ E g ∧ g < w.heap.size ∧ w.rangeAt g o (strs L))
theorem TxIn.mono {w : World} {E E' : Nat → Prop} {v : Value} {L : List B} (h : TxIn w E v L) (he : ∀ k, E k → E' k) : TxIn w E' v L := by
  obtain ⟨a, len, cap, h1, h2, h0, h3⟩ := h
  exact ⟨a, len, cap, h1, h2, h0, h3.imp id fun ⟨g, o, r1, r2, r3⟩ => ⟨g, o, r1, he g r2, r3⟩⟩
theorem TxIn.fr {w w' : World} {E D : Nat → Prop} {v : Value} {L : List B} (h : TxIn w E v L) (hf : Fr D w w') (hd : ∀ k, E k → k < w.heap.size → ¬ D k) : TxIn w' E v L := by
  obtain ⟨a, len, cap, h1, h2, h0, h3⟩ := h
  exact ⟨a, len, cap, h1, h2, h0, h3.imp id fun ⟨g, o, r1, r2, r3, r4⟩ => ⟨g, o, r1, r2, Nat.lt_of_lt_of_le r3 hf.size, hf.range r4 (hd g r2 r3)⟩⟩
theorem TxIn.no {w w' : World} {E : Nat → Prop} {v : Value} {L : List B} (h : TxIn w E v L) (hf : Fr No w w') : TxIn w' E v L := h.fr hf fun _ _ _ e => e
theorem tx_nil (w : World) (E : Nat → Prop) (a : Option Addr) (c : Nat) : TxIn w E (.slice a 0 c) [] := ⟨a, 0, c, rfl, rfl, Nat.zero_le _, .inl rfl⟩
theorem infoS3 : (Try.prog.info? 9).map (fun i => (i.zero, i.size, i.bytes)) = some (some (.string ⟨#[]⟩), 1, 16) := by kernel_rfl
theorem infoS : (Try.prog.info? 9).map (·.size) = some 1 := by kernel_rfl
theorem infoSs : (Try.prog.info? 23).map (·.size) = some 1 := by kernel_rfl
end Go.Proofs.Ytdkpcfpebmabkaa.FR

namespace Go.Proofs.Ytdkpcfpebmabkaa.ME
set_option maxRecDepth 100000
open Go.RowKit K Go.Proofs.Ytdkpcfpebmabkaa.BE Go.Proofs.Ytdkpcfpebmabkaa.FR

/-- A slice of elements of k cells each; they lie in a block of S. -/
def Sl {α : Type} (k : Nat) (p : α → List Value → Prop) (S : Nat → Prop) (w : World) (v : Value) (xs : List α) : Prop :=
  ∃ a cap, v = .slice a xs.length cap ∧ xs.length ≤ cap ∧ xs.length ≤ 140737488351232 ∧
    (xs = [] ∨ ∃ g o, ∃ L : List (List Value), a = some ⟨g, o, none⟩ ∧ S g ∧ g < w.heap.size ∧ w.rangeAt g o L.flatten ∧ L.length = xs.length ∧ (∀ c ∈ L, c.length = k) ∧ ∀ (j : Nat) (x : α) (c : List Value), xs[j]? = some x → L[j]? = some c → p x c)
theorem Sl.form {α : Type} {k : Nat} {p : α → List Value → Prop} {S : Nat → Prop} {w : World} {v : Value} {xs : List α} (h : Sl k p S w v xs) : ∃ a cap, v = .slice a xs.length cap ∧ xs.length ≤ cap ∧ xs.length ≤ 140737488351232 := by
  obtain ⟨a, cap, h1, h2, h3, -⟩ := h
  exact ⟨a, cap, h1, h2, h3⟩
theorem Sl.get {α : Type} {k : Nat} {p : α → List Value → Prop} {S : Nat → Prop} {w : World} {v : Value} {xs : List α} (h : Sl k p S w v xs) {j : Nat} {x : α} (hx : xs[j]? = some x) :
    ∃ g o cap c, v = .slice (some ⟨g, o, none⟩) xs.length cap ∧ S g ∧ g < w.heap.size ∧ w.rangeAt g (o + j * k) c ∧ c.length = k ∧ p x c := by
  obtain ⟨a, cap, h1, h2, h3, h4⟩ := h
  have hj := (List.getElem?_eq_some_iff.1 hx).1
  have hne : xs ≠ [] := fun e => by subst e; simp at hj
  obtain ⟨g, o, L, rfl, hS, hg, hr, hL, hc, hp⟩ := h4.resolve_left hne
  have hLj : L[j]? = some (L[j]'(by omega)) := List.getElem?_eq_getElem _
  have hfg := flat_get L j _ hc hLj
  have hck := hc _ (List.getElem_mem (by omega : j < L.length))
  refine ⟨g, o, cap, L[j]'(by omega), h1, hS, hg, ?_, hck, hp j x _ hx hLj⟩
  intro i u hi
  have hik : i < k := by rw [← hck]; exact (List.getElem?_eq_some_iff.1 hi).1
  rw [← hfg, List.getElem?_take, if_pos hik, List.getElem?_drop] at hi
  have := hr (j * k + i) u hi
  rwa [← Nat.add_assoc] at this
theorem Sl.fr {α : Type} {k : Nat} {p p' : α → List Value → Prop} {S D : Nat → Prop} {w w' : World} {v : Value} {xs : List α} (h : Sl k p S w v xs) (hf : Fr D w w') (hd : ∀ i, S i → i < w.heap.size → ¬ D i) (hp : ∀ x c, x ∈ xs → p x c → p' x c) : Sl k p' S w' v xs := by
  obtain ⟨a, cap, h1, h2, h3, h4⟩ := h
  refine ⟨a, cap, h1, h2, h3, h4.imp id ?_⟩
  rintro ⟨g, o, L, e, hS, hg, hr, hL, hc, hpp⟩
  exact ⟨g, o, L, e, hS, Nat.lt_of_lt_of_le hg hf.size, hf.range hr (hd g hS hg), hL, hc, fun j x c hx hcj => hp x c (List.mem_of_getElem? hx) (hpp j x c hx hcj)⟩
/-- A list of texts none of which is too long. -/
def Tx (S : Nat → Prop) (w : World) (v : Value) (xs : List B) : Prop := TxIn w S v xs ∧ xs.length ≤ 140737488351232 ∧ ∀ x ∈ xs, x.length ≤ 140737488351232
theorem Tx.fr {S D : Nat → Prop} {w w' : World} {v : Value} {xs : List B} (h : Tx S w v xs) (hf : Fr D w w') (hd : ∀ i, S i → i < w.heap.size → ¬ D i) : Tx S w' v xs := ⟨h.1.fr hf hd, h.2⟩
def I64 (n : Int) : Prop := -9223372036854775808 ≤ n ∧ n ≤ 9223372036854775807
def Sz (s : B) : Prop := s.length ≤ 140737488351232
def AtC (S : Nat → Prop) (w : World) (x : At) (cs : List Value) : Prop := ∃ v, cs = [.string (sb x.type), v] ∧ Sz x.type ∧ Tx S w v x.values
def MoC (S : Nat → Prop) (w : World) (x : Mo) (cs : List Value) : Prop := ∃ v, cs = [.int .i64 x.doing, .string (sb x.attr.type), v] ∧ I64 x.doing ∧ Sz x.attr.type ∧ Tx S w v x.attr.values
def FlC : Nat → (Nat → Prop) → World → Fl → List Value → Prop
  | 0, _, _, _, _ => False
  | M + 1, S, w, f, cs => ∃ vk va, cs = [.int .i64 f.kind, vk, .string (sb f.type), .string (sb f.value), .string (sb f.first), va, .string (sb f.last)] ∧
      I64 f.kind ∧ Sz f.type ∧ Sz f.value ∧ Sz f.first ∧ Sz f.last ∧ Tx S w va f.any ∧ Sl 7 (FlC M S w) S w vk f.kids
/-- A message's cells. -/
def mcs (m : Msg) (vk va vw vl vm : Value) : List Value :=
  [.int .i64 m.id, .int .i64 m.op, .int .i64 m.ver, .string (sb m.name), .string (sb m.pw), .int .i64 m.scope, .int .i64 m.deref, .int .i64 m.size, .int .i64 m.time, .bool m.typesOnly,
   .int .i64 m.filter.kind, vk, .string (sb m.filter.type), .string (sb m.filter.value), .string (sb m.filter.first), va, .string (sb m.filter.last),
   vw, vl, vm, .string (sb m.rdn), .bool m.dropOld, .bool m.moves, .string (sb m.sup), .string (sb m.type), .string (sb m.value), .int .i64 m.target, .int .i64 m.code, .string (sb m.matched), .string (sb m.text)]
structure MsgC (M : Nat) (S : Nat → Prop) (w : World) (m : Msg) (vk va vw vl vm : Value) : Prop where
  ints : I64 m.id ∧ I64 m.op ∧ I64 m.ver ∧ I64 m.scope ∧ I64 m.deref ∧ I64 m.size ∧ I64 m.time ∧ I64 m.target ∧ I64 m.code
  texts : Sz m.name ∧ Sz m.pw ∧ Sz m.rdn ∧ Sz m.sup ∧ Sz m.type ∧ Sz m.value ∧ Sz m.matched ∧ Sz m.text
  filter : FlC M S w m.filter [.int .i64 m.filter.kind, vk, .string (sb m.filter.type), .string (sb m.filter.value), .string (sb m.filter.first), va, .string (sb m.filter.last)]
  wants : Tx S w vw m.wants
  list : Sl 2 (AtC S w) S w vl m.list
  mods : Sl 3 (MoC S w) S w vm m.mods
theorem AtC.fr {S D : Nat → Prop} {w w' : World} {x : At} {cs : List Value} (h : AtC S w x cs) (hf : Fr D w w') (hd : ∀ i, S i → i < w.heap.size → ¬ D i) : AtC S w' x cs := by
  obtain ⟨v, h1, h2, h3⟩ := h
  exact ⟨v, h1, h2, h3.fr hf hd⟩
theorem MoC.fr {S D : Nat → Prop} {w w' : World} {x : Mo} {cs : List Value} (h : MoC S w x cs) (hf : Fr D w w') (hd : ∀ i, S i → i < w.heap.size → ¬ D i) : MoC S w' x cs := by
  obtain ⟨v, h1, h2, h3, h4⟩ := h
  exact ⟨v, h1, h2, h3, h4.fr hf hd⟩
theorem FlC.fr {S D : Nat → Prop} {w w' : World} (hf : Fr D w w') (hd : ∀ i, S i → i < w.heap.size → ¬ D i) : ∀ {M : Nat} {f : Fl} {cs : List Value}, FlC M S w f cs → FlC M S w' f cs
  | 0, _, _, h => h.elim
  | M + 1, f, cs, h => by
    obtain ⟨vk, va, h1, h2, h3, h4, h5, h6, h7, h8⟩ := h
    exact ⟨vk, va, h1, h2, h3, h4, h5, h6, h7.fr hf hd, h8.fr hf hd fun x c _ hx => FlC.fr hf hd hx⟩
theorem MsgC.fr {M : Nat} {S D : Nat → Prop} {w w' : World} {m : Msg} {vk va vw vl vm : Value} (h : MsgC M S w m vk va vw vl vm) (hf : Fr D w w') (hd : ∀ i, S i → i < w.heap.size → ¬ D i) : MsgC M S w' m vk va vw vl vm :=
  ⟨h.ints, h.texts, h.filter.fr hf hd, h.wants.fr hf hd, h.list.fr hf hd fun _ _ _ hx => hx.fr hf hd, h.mods.fr hf hd fun _ _ _ hx => hx.fr hf hd⟩
theorem MsgC.no {M : Nat} {S : Nat → Prop} {w w' : World} {m : Msg} {vk va vw vl vm : Value} (h : MsgC M S w m vk va vw vl vm) (hf : Fr No w w') : MsgC M S w' m vk va vw vl vm := h.fr hf fun _ _ _ e => e
theorem FlC.no {M : Nat} {S : Nat → Prop} {w w' : World} {f : Fl} {cs : List Value} (h : FlC M S w f cs) (hf : Fr No w w') : FlC M S w' f cs := h.fr hf fun _ _ _ e => e
theorem Tx.no {S : Nat → Prop} {w w' : World} {v : Value} {xs : List B} (h : Tx S w v xs) (hf : Fr No w w') : Tx S w' v xs := h.fr hf fun _ _ _ e => e
theorem AtC.no {S : Nat → Prop} {w w' : World} {x : At} {cs : List Value} (h : AtC S w x cs) (hf : Fr No w w') : AtC S w' x cs := h.fr hf fun _ _ _ e => e
theorem MoC.no {S : Nat → Prop} {w w' : World} {x : Mo} {cs : List Value} (h : MoC S w x cs) (hf : Fr No w w') : MoC S w' x cs := h.fr hf fun _ _ _ e => e
theorem Sl.noA {S : Nat → Prop} {w w' : World} {v : Value} {xs : List At} (h : Sl 2 (AtC S w) S w v xs) (hf : Fr No w w') : Sl 2 (AtC S w') S w' v xs := h.fr hf (fun _ _ _ e => e) fun _ _ _ hx => hx.no hf
theorem Sl.noM {S : Nat → Prop} {w w' : World} {v : Value} {xs : List Mo} (h : Sl 3 (MoC S w) S w v xs) (hf : Fr No w w') : Sl 3 (MoC S w') S w' v xs := h.fr hf (fun _ _ _ e => e) fun _ _ _ hx => hx.no hf
theorem Sl.noF {M : Nat} {S : Nat → Prop} {w w' : World} {v : Value} {xs : List Fl} (h : Sl 7 (FlC M S w) S w v xs) (hf : Fr No w w') : Sl 7 (FlC M S w') S w' v xs := h.fr hf (fun _ _ _ e => e) fun _ _ _ hx => hx.no hf
theorem Tx.form {S : Nat → Prop} {w : World} {v : Value} {xs : List B} (h : Tx S w v xs) : ∃ a cap, v = .slice a xs.length cap ∧ xs.length ≤ cap ∧ xs.length ≤ 140737488351232 := by
  obtain ⟨⟨a, len, cap, h1, h2, h3, -⟩, h4, -⟩ := h
  subst h2
  exact ⟨a, cap, h1, h3, h4⟩

theorem infoFl : (Try.prog.info? 25).map (·.size) = some 7 := by kernel_rfl
theorem infoAt : (Try.prog.info? 54).map (·.size) = some 2 := by kernel_rfl
theorem infoMo : (Try.prog.info? 56).map (·.size) = some 3 := by kernel_rfl
theorem infoMsg : (Try.prog.info? 29).map (·.size) = some 30 := by kernel_rfl
end Go.Proofs.Ytdkpcfpebmabkaa.ME

namespace Go.Proofs.Ytdkpcfpebmabkaa.BE
set_option maxRecDepth 100000
open Go.RowKit K

/-- It holds, and nothing but new blocks came; or it fails. -/
def Holds (b : Bool) (c : Nat) (w : World) (e : Ending) (w' : World) : Prop := Fr No w w' ∧ ((b = true ∧ e = .returned (.tuple #[])) ∨ (b = false ∧ e = .panicked [fl c]))
theorem box_kid (c : List Value) (h : c.length = 3) : ∃ x y z, c = [x, y, z] := by
  match c, h with
  | [x, y, z], _ => exact ⟨x, y, z, rfl⟩
theorem all_take {p : Nd → Bool} {l : List Nd} {i : Nat} {x : Nd} (hx : l[i]? = some x) (h : (l.take i).all p = true) (hp : p x = true) : (l.take (i + 1)).all p = true := by
  rw [List.take_add_one, hx]
  simp [h, hp]
theorem all_not {p : Nd → Bool} {l : List Nd} {i : Nat} {x : Nd} (hx : l[i]? = some x) (hp : p x = false) : l.all p = false := by
  rw [List.all_eq_false]
  exact ⟨x, List.mem_of_getElem? hx, by simp [hp]⟩
set_option maxHeartbeats 4000000 in
theorem checkDepth_any : ∀ (m M N : Nat) (n : Nd) (cs : List Value) (w : World), m ≤ 8 → NdAt M (Lo N) w n cs → N ≤ w.heap.size → Calls Try.prog 67 #[.agg cs.toArray, .int .i64 ((9 - m : Nat) : Int)] w (Holds (deep m n) 91 w) := by
  intro m
  induction m with
  | zero =>
    intro M N n cs w _ hn hN
    obtain ⟨x, y, z, hcs⟩ := box_kid cs hn.len
    subst hcs
    go_enter Try.func67, Try.ntmps67
    go_wp2_with (first
      | ((with_reducible show wpList _ _ _ (⟨_, .box 44 _, _, _, _, _⟩ :: _) _ _); refine wpL_box rfl _ _ rfl _ rfl [x, y, z] rfl ?_; intro w1 HB1 F1 HS1)
      | ((with_reducible show wpList _ _ _ (⟨_, .box 3 _, _, _, _, _⟩ :: _) _ _); refine wpL_box rfl _ _ rfl _ rfl [.int .i64 9] rfl ?_; intro w2 HB2 F2 HS2; have c2 : w2.cell? ⟨w1.heap.size, 0, none⟩ = some (.int .i64 9) := HB2.out.cell 0))
    refine (must_any false 91 w2).mono ?_
    rintro e w3 ⟨rfl, h⟩
    rcases h with ⟨h, _⟩ | ⟨_, rfl⟩
    · cases h
    exact ⟨rfl, F1.out.trans' F2.out, .inr ⟨rfl, rfl⟩⟩
  | succ m ih =>
    intro M N n cs w hm hn hN
    obtain ⟨x, y, z, hcs⟩ := box_kid cs hn.len
    subst hcs
    obtain ⟨M, rfl⟩ : ∃ k, M = k + 1 := by
      cases M with
      | zero => exact hn.elim
      | succ k => exact ⟨k, rfl⟩
    have HN := hid hn; have HIH := hid ih; have HNN := hid hN; have HM := hid hm
    have hd : ((9 - (m + 1) : Nat) : Int) = 8 - m := by omega
    have hd8 : (8 - (m : Int)) ≤ 8 := by omega
    have hd0 : 0 ≤ (8 - (m : Int)) := by omega
    rw [hd]
    clear hn ih hN hd hm
    generalize hq : 8 - (m : Int) = q at *
    have HQ := hid hq
    clear hq
    have hmf : ∀ (fn : Fn) (first cap : Array Value) (w : World), (Instr.makeFunc fn first cap).run Try.prog w = .ok (.func fn first cap) w := fun _ _ _ _ => rfl
    go_enter Try.func67, Try.ntmps67
    go_wp2_with (first
      | ((with_reducible show wpList _ _ _ (⟨_, .box 44 _, _, _, _, _⟩ :: _) _ _); refine wpL_box rfl _ _ rfl _ rfl [x, y, z] rfl ?_; intro w1 HB1 F1 HS1)
      | ((with_reducible show wpList _ _ _ (⟨_, .box 3 _, _, _, _, _⟩ :: _) _ _); refine wpL_box rfl _ _ rfl _ rfl [.int .i64 q] rfl ?_; intro w2 HB2 F2 HS2; have c2 : w2.cell? ⟨w1.heap.size, 0, none⟩ = some (.int .i64 q) := HB2.out.cell 0))
    refine (must_any true 91 w2).mono ?_
    rintro e w3 ⟨rfl, h⟩
    rcases h with ⟨_, rfl⟩ | ⟨h, _⟩
    · have HB1' := hid (HB1.out.fr F2.out id)
      go_wp2_with (first
        | ((with_reducible show wpList _ _ _ (⟨_, .load 44 _, _, _, _, _⟩ :: _) _ _); refine wpL_load rfl _ _ rfl w.heap.size 0 rfl [x, y, z] _ (HB1'.out.range 0 _ rfl) rfl rfl infoN ?_))
      have hf2 : Fr No w w3 := F1.out.trans' F2.out
      have HF2 := hid hf2
      refine (children_any M N n [x, y, z] 88 [.pointer (some ⟨w1.heap.size, 0, none⟩)] (fun i w' => Fr No w3 w' ∧ (n.kids.take i).all (deep m) = true) (fun c w' => c = 91 ∧ n.kids.all (deep m) = false ∧ Fr No w3 w') w3 (HN.out.no hf2) (Nat.le_trans HNN.out hf2.size) (fun vs w => by kernel_rfl) ⟨Fr.refl _ _, rfl⟩ (fun i a b h hf => ⟨h.1.trans' hf, h.2⟩) ?_).mono ?_
      · intro i k c wv hx hk hi hs
        have hcv : wv.cell? ⟨w1.heap.size, 0, none⟩ = some (.int .i64 q) := hi.1.cell c2 id
        have HI := hid hi; have HX := hid hx; have HK := hid hk; have HS := hid (show N ≤ wv.heap.size by have := HNN.out; have := hf2.size; omega)
        obtain ⟨x', y', z', hc⟩ := box_kid c hk.len
        subst hc
        have hq1 : q + 1 = ((9 - m : Nat) : Int) := by have := HQ.out; have := HM.out; omega
        have HQ1 := hid hq1
        clear hi hx hk hs hf2 c2 hq1
        show Calls Try.prog _ #[.agg #[x', y', z'], .pointer (some ⟨w1.heap.size, 0, none⟩)] wv _
        go_enter Try.func88, Try.ntmps88
        go_wp2_with (first
          | ((with_reducible show wpList _ _ _ (⟨_, .box 44 _, _, _, _, _⟩ :: _) _ _); refine wpL_box rfl _ _ rfl _ rfl [x', y', z'] rfl ?_; intro v1 HB3 F3 HS3; have c3 : v1.cell? ⟨w1.heap.size, 0, none⟩ = some (.int .i64 q) := F3.out.cell hcv id)
          | ((with_reducible show wpList _ _ _ (⟨_, .load 44 _, _, _, _, _⟩ :: _) _ _); refine wpL_load rfl _ _ rfl wv.heap.size 0 rfl [x', y', z'] _ (HB3.out.range 0 _ rfl) rfl rfl infoN ?_))
        rw [HQ1.out]
        refine (HIH.out M N k [x', y', z'] v1 (by have := HM.out; omega) (HK.out.no F3.out) (Nat.le_trans HS.out F3.out.size)).mono ?_
        rintro e v2 ⟨fv, hv⟩
        have ff : Fr No wv v2 := F3.out.trans' fv
        rcases hv with ⟨hd, rfl⟩ | ⟨hd, rfl⟩
        · go_wp2_with fail
          go_end0
          exact ⟨ff.no, .inl ⟨rfl, HI.out.1.trans' ff, all_take HX.out HI.out.2 hd⟩⟩
        · exact ⟨rfl, ff.no, .inr ⟨_, rfl, rfl, all_not HX.out hd, HI.out.1.trans' ff⟩⟩
      · rintro e v hv
        rcases hv with ⟨rfl, hf, ha⟩ | ⟨c, rfl, rfl, ha, hf⟩
        · go_wp2_with fail
          go_end0
          rw [List.take_length] at ha
          exact ⟨HF2.out.trans' hf, .inl ⟨ha, rfl⟩⟩
        · exact ⟨rfl, HF2.out.trans' hf, .inr ⟨ha, rfl⟩⟩
    · cases h
end Go.Proofs.Ytdkpcfpebmabkaa.BE

namespace Go.Proofs.Ytdkpcfpebmabkaa.BE
set_option maxRecDepth 100000
open Go.RowKit K

theorem sb_empty (l : B) : (sb l).toList.isEmpty = l.isEmpty := by rw [ByteArray.toList_eq, sb_list]
theorem deep_succ {m : Nat} {n : Nd} (h : deep m n = true) : ∃ k, m = k + 1 := by
  cases m with
  | zero => cases h
  | succ k => exact ⟨k, rfl⟩
theorem deep_kid {m : Nat} {n : Nd} (h : deep (m + 1) n = true) {i : Nat} {x : Nd} (hx : n.kids[i]? = some x) : deep m x = true := by
  simp only [deep, List.all_eq_true] at h
  exact h x (List.mem_of_getElem? hx)
theorem NdAt.succ {M : Nat} {S : Nat → Prop} {w : World} {n : Nd} {cs : List Value} (h : NdAt M S w n cs) : ∃ k, M = k + 1 := by
  cases M with
  | zero => exact h.elim
  | succ k => exact ⟨k, rfl⟩
set_option maxHeartbeats 4000000 in
theorem checkTags_any : ∀ (m M N : Nat) (n : Nd) (cs : List Value) (w : World), deep m n = true → NdAt M (Lo N) w n cs → N ≤ w.heap.size → Calls Try.prog 68 #[.agg cs.toArray] w (Holds (shaped m n) 90 w) := by
  intro m
  induction m with
  | zero => intro M N n cs w h; cases h
  | succ m ih =>
    intro M N n cs w hd hn hN
    obtain ⟨a, sc, hcs, htg, hbl, hkl⟩ := hn.head
    obtain ⟨M, rfl⟩ := hn.succ
    have HN := hid hn; have HIH := hid ih; have HNN := hid hN; have HD := hid hd; have HTG := hid htg
    obtain ⟨tg, htge⟩ : ∃ tg, n.tag = tg := ⟨_, rfl⟩
    obtain ⟨bd, hbde⟩ : ∃ bd, n.body = bd := ⟨_, rfl⟩
    obtain ⟨kl, hkle⟩ : ∃ kl, n.kids.length = kl := ⟨_, rfl⟩
    have HT := hid htge; have HB := hid hbde; have HK := hid hkle
    have HSH : Hid (shaped (m + 1) n = (tagB tg && (if conB tg then bd.isEmpty else decide (kl = 0)) && n.kids.all (shaped m))) := hid (by
      have e : n.kids.isEmpty = decide (kl = 0) := by rw [← hkle]; cases n.kids <;> simp
      rw [← htge, ← hbde, ← e]; rfl)
    rw [htge, hbde, hkle] at hcs
    rw [hkle] at hkl
    subst hcs
    have hse := sb_empty bd
    clear hn ih hN hd htg hbl htge hbde hkle
    go_enter Try.func68, Try.ntmps68
    go_wp2_with (first
      | ((with_reducible show wpList _ _ _ (⟨_, .box 44 _, _, _, _, _⟩ :: _) _ _); refine wpL_box rfl _ _ rfl _ rfl [.int .i64 tg, .string (sb bd), .slice a kl sc] rfl ?_; intro w1 HB1 F1 HS1; have c0 : w1.cell? ⟨w.heap.size, 0, none⟩ = some (.int .i64 tg) := HB1.out.cell 0; have c1 : w1.cell? ⟨w.heap.size, 1, none⟩ = some (.string (sb bd)) := HB1.out.cell 1; have c2 : w1.cell? ⟨w.heap.size, 2, none⟩ = some (.slice a kl sc) := HB1.out.cell 2))
    refine (isTag_any tg w1).mono ?_
    rintro e w2 ⟨rfl, rfl⟩
    go_wp2_with fail
    refine (must_any (tagB tg) 90 w2).mono ?_
    rintro e w3 ⟨rfl, ⟨ht, rfl⟩ | ⟨ht, rfl⟩⟩
    · have HTB := hid ht
      clear ht
      go_wp2_with fail
      refine (isCon_any tg HTB.out w3).mono ?_
      rintro e w4 ⟨rfl, rfl⟩
      cases hc : conB tg with
      | true =>
        have HC := hid hc
        clear hc
        go_wp2_with fail
        refine (must_any bd.isEmpty 90 w4).mono ?_
        rintro e w5 ⟨rfl, ⟨hb, rfl⟩ | ⟨hb, rfl⟩⟩
        · have HSB : Hid (bd.isEmpty = true) := hid (by simpa using hb)
          clear hb
          go_wp2_with (first
            | ((with_reducible show wpList _ _ _ (⟨_, .load 44 _, _, _, _, _⟩ :: _) _ _); refine wpL_load rfl _ _ rfl w.heap.size 0 rfl [.int .i64 tg, .string (sb bd), .slice a kl sc] _ (HB1.out.range 0 _ rfl) rfl rfl infoN ?_))
          refine (children_any M N n [.int .i64 tg, .string (sb bd), .slice a kl sc] 68 [] (fun i w' => Fr No w5 w' ∧ (n.kids.take i).all (shaped m) = true) (fun c w' => c = 90 ∧ n.kids.all (shaped m) = false ∧ Fr No w5 w') w5 (HN.out.no F1.out) (Nat.le_trans HNN.out F1.out.size) (fun vs w => by kernel_rfl) ⟨Fr.refl _ _, rfl⟩ (fun i a b h hf => ⟨h.1.trans' hf, h.2⟩) ?_).mono ?_
          · intro i k c wv hx hk hi hs
            refine (HIH.out M N k c wv (deep_kid HD.out hx) hk (by have := HNN.out; have := F1.out.size; omega)).mono ?_
            rintro e v2 ⟨ff, hv⟩
            rcases hv with ⟨hd, rfl⟩ | ⟨hd, rfl⟩
            · exact ⟨ff.no, .inl ⟨rfl, hi.1.trans' ff, all_take hx hi.2 hd⟩⟩
            · exact ⟨ff.no, .inr ⟨_, rfl, rfl, all_not hx hd, hi.1.trans' ff⟩⟩
          · rintro e v hv
            rcases hv with ⟨rfl, hf, ha⟩ | ⟨c, rfl, rfl, ha, hf⟩
            · go_wp2_with fail
              go_end0
              rw [List.take_length] at ha
              exact ⟨F1.out.trans' hf, .inl ⟨by rw [HSH.out, HTB.out, HC.out, ha]; simpa using HSB.out, rfl⟩⟩
            · exact ⟨rfl, F1.out.trans' hf, .inr ⟨by rw [HSH.out, ha]; simp, rfl⟩⟩
        · have hsb : (bd.isEmpty) = false := by simpa using hb
          exact ⟨rfl, F1.out, .inr ⟨by rw [HSH.out, HC.out]; simp at hsb; simp [hsb], rfl⟩⟩
      | false =>
        have HC := hid hc
        clear hc
        go_wp2_with fail
        refine (must_any ((kl : Int) == 0) 90 w4).mono ?_
        rintro e w5 ⟨rfl, ⟨hb, rfl⟩ | ⟨hb, rfl⟩⟩
        · have HSB : Hid (decide (kl = 0) = true) := hid (by simpa using hb)
          clear hb
          go_wp2_with (first
            | ((with_reducible show wpList _ _ _ (⟨_, .load 44 _, _, _, _, _⟩ :: _) _ _); refine wpL_load rfl _ _ rfl w.heap.size 0 rfl [.int .i64 tg, .string (sb bd), .slice a kl sc] _ (HB1.out.range 0 _ rfl) rfl rfl infoN ?_))
          refine (children_any M N n [.int .i64 tg, .string (sb bd), .slice a kl sc] 68 [] (fun i w' => Fr No w5 w' ∧ (n.kids.take i).all (shaped m) = true) (fun c w' => c = 90 ∧ n.kids.all (shaped m) = false ∧ Fr No w5 w') w5 (HN.out.no F1.out) (Nat.le_trans HNN.out F1.out.size) (fun vs w => by kernel_rfl) ⟨Fr.refl _ _, rfl⟩ (fun i a b h hf => ⟨h.1.trans' hf, h.2⟩) ?_).mono ?_
          · intro i k c wv hx hk hi hs
            refine (HIH.out M N k c wv (deep_kid HD.out hx) hk (by have := HNN.out; have := F1.out.size; omega)).mono ?_
            rintro e v2 ⟨ff, hv⟩
            rcases hv with ⟨hd, rfl⟩ | ⟨hd, rfl⟩
            · exact ⟨ff.no, .inl ⟨rfl, hi.1.trans' ff, all_take hx hi.2 hd⟩⟩
            · exact ⟨ff.no, .inr ⟨_, rfl, rfl, all_not hx hd, hi.1.trans' ff⟩⟩
          · rintro e v hv
            rcases hv with ⟨rfl, hf, ha⟩ | ⟨c, rfl, rfl, ha, hf⟩
            · go_wp2_with fail
              go_end0
              rw [List.take_length] at ha
              exact ⟨F1.out.trans' hf, .inl ⟨by rw [HSH.out, HTB.out, HC.out, ha]; simpa using HSB.out, rfl⟩⟩
            · exact ⟨rfl, F1.out.trans' hf, .inr ⟨by rw [HSH.out, ha]; simp, rfl⟩⟩
        · have hsb : (decide (kl = 0)) = false := by simpa using hb
          exact ⟨rfl, F1.out, .inr ⟨by rw [HSH.out, HC.out]; simp at hsb; simp [hsb], rfl⟩⟩
    · exact ⟨rfl, F1.out, .inr ⟨by rw [HSH.out, ht]; rfl, rfl⟩⟩
end Go.Proofs.Ytdkpcfpebmabkaa.BE

namespace Go.Proofs.Ytdkpcfpebmabkaa.BE
set_option maxRecDepth 100000
open Go.RowKit K

def clen : Nat → Nd → Nat
  | 0, _ => 0
  | m + 1, n => (cont m n).length
theorem enc_clen {m : Nat} {n : Nd} (h : deep m n = true) : (enc m n).length = 1 + (lenB (clen m n)).length + clen m n := by
  obtain ⟨k, rfl⟩ := deep_succ h
  exact enc_len k n
/-- The bytes of some. -/
def flen (m : Nat) (l : List Nd) : Nat := (l.map (enc m)).flatten.length
theorem flen_step (m : Nat) {l : List Nd} {i : Nat} {x : Nd} (hx : l[i]? = some x) : flen m (l.take (i + 1)) = flen m (l.take i) + (enc m x).length := by
  unfold flen
  rw [List.take_add_one, hx]
  simp
theorem clen_fits {m : Nat} {n : Nd} (h : deep m n = true) (hf : fits m n = true) : clen m n ≤ 4000 := by
  obtain ⟨k, rfl⟩ := deep_succ h
  simp only [fits, Bool.and_eq_true, decide_eq_true_eq] at hf
  exact hf.2
/-- What contentBytes leaves. -/
def Counts (m : Nat) (n : Nd) (w : World) (e : Ending) (w' : World) : Prop := Fr No w w' ∧ ((fits m n = true ∧ e = .returned (.int .i64 (clen m n))) ∨ (fits m n = false ∧ e = .panicked [fl 2]))
theorem zeroI : ∀ w, (zeroValue 3).run Try.prog w = .ok (.int .i64 0) w := fun _ => by kernel_rfl
theorem infoI : (Try.prog.info? 3).map (·.size) = some 1 := by kernel_rfl
theorem exec_addI {op : Oper} {a : Act} (x y : Operand) (u : TypeId) (ho : op.op = .binOp .add 3 x y u) (p q : Int) (hx : a.eval x = .int .i64 p) (hy : a.eval y = .int .i64 q) (hl : -9223372036854775808 ≤ p + q) (hh : p + q ≤ 9223372036854775807) (w : World) :
    (execOp a.eval op).run Try.prog w = .ok (.value (.int .i64 (p + q))) w := by
  unfold execOp
  simp only [ho, hx, hy]
  simp [go_sem, eqGuard, Result.andThen]
  rw [IntKind.wrap_i64]
  omega
set_option maxHeartbeats 4000000 in
/-- The visitor. -/
theorem cb1_any (m M N : Nat) (b : Nat) (s : Nat) (x : Nd) (c : List Value) (w : World) (hd : deep m x = true) (hx : NdAt M (Lo N) w x c) (hN : N ≤ w.heap.size) (hs : s ≤ 1000000000000000000) (hB : Blk w b 3 [.int .i64 (s : Int)])
    (ih : ∀ (M N : Nat) (n : Nd) (cs : List Value) (w : World), deep m n = true → NdAt M (Lo N) w n cs → N ≤ w.heap.size → Calls Try.prog 42 #[.agg cs.toArray] w (Counts m n w)) :
    Calls Try.prog 69 #[.agg c.toArray, .pointer (some ⟨b, 0, none⟩)] w fun e w' => Fr (fun k => k = b) w w' ∧
      ((fits m x = true ∧ e = .returned (.tuple #[]) ∧ Blk w' b 3 [.int .i64 ((s + (enc m x).length : Nat) : Int)]) ∨ (fits m x = false ∧ e = .panicked [fl 2])) := by
  obtain ⟨x', y', z', hc⟩ := box_kid c hx.len
  subst hc
  have hblt := hB.lt
  have HX := hid hx; have HN := hid hN; have HS := hid hs; have HB := hid hB; have HIH := hid ih; have HD := hid hd; have HBL := hid hblt
  clear hx hN hs hB ih hd hblt
  go_enter Try.func69, Try.ntmps69
  go_wp2_with (first
    | ((with_reducible show wpList _ _ _ (⟨_, .box 44 _, _, _, _, _⟩ :: _) _ _); refine wpL_box rfl _ _ rfl _ rfl [x', y', z'] rfl ?_; intro w1 HB1 F1 HS1)
    | ((with_reducible show wpList _ _ _ (⟨_, .load 44 _, _, _, _, _⟩ :: _) _ _); refine wpL_load rfl _ _ rfl w.heap.size 0 rfl [x', y', z'] _ (HB1.out.range 0 _ rfl) rfl rfl infoN ?_))
  refine (HIH.out M N x [x', y', z'] w1 HD.out (HX.out.no F1.out) (Nat.le_trans HN.out F1.out.size)).mono ?_
  rintro e w2 ⟨f2, ⟨hf, rfl⟩ | ⟨hf, rfl⟩⟩
  · have hcl := clen_fits HD.out hf
    have hec := enc_clen HD.out
    have hlp := len_pos (clen m x)
    have HF2 := hid f2; have HFI := hid hf; have HEC := hid hec
    have hf12 := F1.out.trans' f2
    have c2 : w2.cell? ⟨b, 0, none⟩ = some (.int .i64 (s : Int)) := (HB.out.fr hf12 id).cell 0
    obtain ⟨cl, hcle⟩ : ∃ cl, clen m x = cl := ⟨_, rfl⟩
    rw [hcle] at hcl hlp ⊢
    obtain ⟨ll, hlle⟩ : ∃ ll, (lenB cl).length = ll := ⟨_, rfl⟩
    rw [hlle] at hlp
    have HLL := hid hlle
    have HCL := hid hcle
    clear f2 hf hec hlle hcle
    go_wp2_with fail
    have hold : Facts.hold [(0, fun w' => w'.cell? ⟨b, 0, none⟩ = some (.int .i64 (s : Int)))] w2.drew := Facts.cons_hold c2 (Facts.nil_hold _)
    refine wpD_region hold (by kernel_rfl) 9 rfl ?_
    (refine wpD_take 0 _ rfl (by kernel_rfl) (by kernel_rfl) (by kernel_rfl) (fun _ _ _ h => h) List.mem_cons_self (by rfl) (v := ?_) ?_ (by assumption) ?_; rotate_left; (intro _w _hw; go_simp; try with_reducible rfl); simp only [Act.put, List.setIfInBounds_toArray, List.set_cons_zero, List.set_cons_succ])
    (refine wpD_plain 1 (v := ?_) rfl (by kernel_rfl) (by kernel_rfl) (by kernel_rfl) (fun _ _ _ h => h) (by rfl) ?_ (by assumption) ?_; rotate_left; (intro _w; go_simp; try with_reducible rfl); simp only [Act.put, List.setIfInBounds_toArray, List.set_cons_zero, List.set_cons_succ])
    (refine wpD_plain 5 (v := ?_) rfl (by kernel_rfl) (by kernel_rfl) (by kernel_rfl) (fun _ _ _ h => h) (by rfl) ?_ (by assumption) ?_; rotate_left; (intro _w; go_simp; try with_reducible rfl); simp only [Act.put, List.setIfInBounds_toArray, List.set_cons_zero, List.set_cons_succ])
    clear hold
    refine wpD_only 2 [(0, fun w' => w'.cell? ⟨b, 0, none⟩ = some (.int .i64 (s : Int)))] rfl (by kernel_rfl) (by kernel_rfl) (by rfl) (fun K2 hK2 => ?_)
    refine wp_call (.func 41) _ _ rfl 41 [] rfl (fun vs w => by kernel_rfl) [.int .i64 cl] (by rfl) ?_
    refine (length_any cl (by omega) w2.drew).mono ?_
    rintro e w3 ⟨rfl, f3⟩
    have f3' : Fr No w2 w3 := (Fr.refl No w2).drew.trans' f3
    have hold : Facts.hold [(0, fun w' => w'.cell? ⟨b, 0, none⟩ = some (.int .i64 (s : Int)))] w3 := Facts.cons_hold (f3'.cell c2 id) (Facts.nil_hold _)
    refine ⟨_, rfl, hK2 _ _ hold ?_⟩
    simp only [Act.put, List.setIfInBounds_toArray, List.set_cons_zero, List.set_cons_succ]
    have hlli : (ll : Int) ≤ 3 := by omega
    have hcli : (cl : Int) ≤ 4000 := by omega
    have hsi : (s : Int) ≤ 1000000000000000000 := by have := HS.out; omega
    (refine wpD_plain 3 (v := (.int .i64 (ll : Int))) rfl (by kernel_rfl) (by kernel_rfl) (by kernel_rfl) (fun _ _ _ h => h) (by rfl) ?_ (by assumption) ?_; (intro _w; go_simp; rw [sb_size, HLL.out]); simp only [Act.put, List.setIfInBounds_toArray, List.set_cons_zero, List.set_cons_succ])
    (refine wpD_plain 4 (v := (.int .i64 (1 + (ll : Int)))) rfl (by kernel_rfl) (by kernel_rfl) (by kernel_rfl) (fun _ _ _ h => h) (by rfl) ?_ (by assumption) ?_; (intro _w; exact exec_addI _ _ _ rfl 1 (ll : Int) rfl rfl (by omega) (by omega) _w); simp only [Act.put, List.setIfInBounds_toArray, List.set_cons_zero, List.set_cons_succ])
    (refine wpD_plain 6 (v := (.int .i64 (1 + (ll : Int) + (cl : Int)))) rfl (by kernel_rfl) (by kernel_rfl) (by kernel_rfl) (fun _ _ _ h => h) (by rfl) ?_ (by assumption) ?_; (intro _w; exact exec_addI _ _ _ rfl (1 + (ll : Int)) (cl : Int) rfl rfl (by omega) (by omega) _w); simp only [Act.put, List.setIfInBounds_toArray, List.set_cons_zero, List.set_cons_succ])
    (refine wpD_plain 7 (v := (.int .i64 ((s : Int) + (1 + (ll : Int) + (cl : Int))))) rfl (by kernel_rfl) (by kernel_rfl) (by kernel_rfl) (fun _ _ _ h => h) (by rfl) ?_ (by assumption) ?_; (intro _w; exact exec_addI _ _ _ rfl (s : Int) (1 + (ll : Int) + (cl : Int)) rfl rfl (by omega) (by omega) _w); simp only [Act.put, List.setIfInBounds_toArray, List.set_cons_zero, List.set_cons_succ])
    clear hold
    refine wpD_only 8 [] rfl (by kernel_rfl) (by kernel_rfl) (by rfl) (fun K8 hK8 => ?_)
    have hB3 : Blk w3 b 3 [.int .i64 (s : Int)] := (HB.out.fr hf12 id).fr f3' id
    refine wp_storeV _ _ _ rfl b 0 (.int .i64 ((s : Int) + (1 + (ll : Int) + (cl : Int)))) [.int .i64 ((s : Int) + (1 + (ll : Int) + (cl : Int)))] rfl rfl rfl _ _ hB3 (by simp) infoI (by intro u hu; simp at hu; rcases hu with rfl; rfl) ?_
    intro w4 HB4 F4 HS4
    refine hK8 _ _ (Facts.nil_hold _) ?_
    refine wpD_done (by kernel_rfl) ?_ _
    go_end0
    refine ⟨(Fr.no (hf12.trans' f3')).trans' F4.out, .inl ⟨HFI.out, rfl, ?_⟩⟩
    have h := HB4.out
    have e : ((s + (enc m x).length : Nat) : Int) = (s : Int) + (1 + (ll : Int) + (cl : Int)) := by rw [HEC.out, HCL.out, HLL.out]; omega
    rw [e]
    simpa [spl] using h
  · exact ⟨rfl, (F1.out.trans' f2).no, .inr ⟨hf, rfl⟩⟩
theorem clen_succ (m : Nat) (n : Nd) : clen (m + 1) n = n.body.length + flen m n.kids := by
  show (cont m n).length = _
  unfold cont flen
  rw [List.length_append]
theorem fits_succ (m : Nat) (n : Nd) : fits (m + 1) n = (n.kids.all (fits m) && decide (clen (m + 1) n ≤ 4000)) := rfl
theorem fin_len {m : Nat} {x : Nd} (hd : deep m x = true) (hf : fits m x = true) : (enc m x).length ≤ 4004 := by
  have := enc_clen hd
  have := clen_fits hd hf
  have := len_pos (clen m x)
  omega
set_option maxHeartbeats 4000000 in
theorem cb_any : ∀ (m M N : Nat) (n : Nd) (cs : List Value) (w : World), deep m n = true → NdAt M (Lo N) w n cs → N ≤ w.heap.size → Calls Try.prog 42 #[.agg cs.toArray] w (Counts m n w) := by
  intro m
  induction m with
  | zero => intro M N n cs w h; cases h
  | succ m ih =>
    intro M N n cs w hd hn hN
    obtain ⟨a, sc, hcs, htg, hbl, hkl⟩ := hn.head
    obtain ⟨M, rfl⟩ := hn.succ
    have HN := hid hn; have HIH := hid ih; have HNN := hid hN; have HD := hid hd
    obtain ⟨tg, htge⟩ : ∃ tg, n.tag = tg := ⟨_, rfl⟩
    obtain ⟨kl, hkle⟩ : ∃ kl, n.kids.length = kl := ⟨_, rfl⟩
    obtain ⟨bl, hble⟩ : ∃ bl, n.body.length = bl := ⟨_, rfl⟩
    obtain ⟨bs, hbse⟩ : ∃ bs, sb n.body = bs := ⟨_, rfl⟩
    have hbsz : (bs.size : Int) = bl := by rw [← hbse, sb_size, hble]
    have HK := hid hkle; have HBLE := hid hble
    rw [htge, hkle, hbse] at hcs
    rw [hkle] at hkl
    rw [hble] at hbl
    subst hcs
    have HKL := hid hkl
    clear hn ih hN hd htg htge hkle hble hbse hkl
    have hmf : ∀ (fn : Fn) (first cap : Array Value) (w : World), (Instr.makeFunc fn first cap).run Try.prog w = .ok (.func fn first cap) w := fun _ _ _ _ => rfl
    have hbli : (bl : Int) ≤ 140737488351232 := by omega
    go_enter Try.func42, Try.ntmps42
    go_wp2_with (first
      | ((with_reducible show wpList _ _ _ (⟨_, .box 44 _, _, _, _, _⟩ :: _) _ _); refine wpL_box rfl _ _ rfl _ rfl [.int .i64 tg, .string bs, .slice a kl sc] rfl ?_; intro w1 HB1 F1 HS1; have c1 : w1.cell? ⟨w.heap.size, 1, none⟩ = some (.string bs) := HB1.out.cell 1)
      | ((with_reducible show wpList _ _ _ (⟨_, .alloc 3, _, _, _, _⟩ :: _) _ _); refine wpL_alloc rfl _ rfl _ zeroI [.int .i64 0] rfl ?_; intro w2 HB2 F2 HS2)
      | ((with_reducible show wpList _ _ _ (⟨_, .store 3 _ _, _, _, _, _⟩ :: _) _ _); refine wpL_setV rfl _ _ _ rfl w1.heap.size 0 (.int .i64 (bl : Int)) rfl (by rw [← hbsz]; rfl) rfl rfl _ _ HB2.out (by simp) infoI ?_; intro w3 HB3 F3 HS3;
          have hf13 : Fr No w1 w3 := F2.out.trans F3.out (fun i e => .inr (by have e : i = w1.heap.size := e; omega));
          have HF13 : Hid (Fr No w1 w3) := hid hf13; have HB1' : Hid (Blk w3 w.heap.size 44 [.int .i64 tg, .string bs, .slice a kl sc]) := hid (HB1.out.fr hf13 id); clear hf13)
      | ((with_reducible show wpList _ _ _ (⟨_, .load 44 _, _, _, _, _⟩ :: _) _ _); refine wpL_load rfl _ _ rfl w.heap.size 0 rfl [.int .i64 tg, .string bs, .slice a kl sc] _ (HB1'.out.range 0 _ rfl) rfl rfl infoN ?_))
    have hf3 : Fr No w w3 := F1.out.trans' HF13.out
    have HF3 := hid hf3
    have hb1 : w1.heap.size < w3.heap.size := by have := HS2.out; have := HS3.out; omega
    have HB1L := hid hb1
    have hbN : N ≤ w1.heap.size := Nat.le_trans HNN.out F1.out.size
    have HBN := hid hbN
    refine (children_any M N n [.int .i64 tg, .string bs, .slice a kl sc] 69 [.pointer (some ⟨w1.heap.size, 0, none⟩)]
      (fun i w' => Blk w' w1.heap.size 3 [.int .i64 ((bl + flen m (n.kids.take i) : Nat) : Int)] ∧ Fr (fun k => k = w1.heap.size) w3 w' ∧ (n.kids.take i).all (fits m) = true ∧ flen m (n.kids.take i) ≤ i * 4004)
      (fun c w' => c = 2 ∧ n.kids.all (fits m) = false ∧ Fr (fun k => k = w1.heap.size) w3 w') w3 (HN.out.no hf3) (Nat.le_trans HNN.out hf3.size) (fun vs w => by kernel_rfl)
      ⟨by simpa [flen] using HB3.out, Fr.refl _ _, rfl, by simp [flen]⟩ (fun i a b h hf => ⟨h.1.fr hf id, h.2.1.trans' hf.no, h.2.2.1, h.2.2.2⟩) ?_).mono ?_
    · intro i k c wv hx hk hi hs
      have hik : i < kl := by rw [← HK.out]; exact (List.getElem?_eq_some_iff.1 hx).1
      have hkd := deep_kid HD.out hx
      refine (cb1_any m M N w1.heap.size _ k c wv hkd hk (by omega) (by have := hi.2.2.2; have := HKL.out; omega) hi.1 HIH.out).mono ?_
      rintro e v2 ⟨ff, hv⟩
      have hmay : Fr (May N w3.heap.size) wv v2 := ff.mono (fun j hj => by subst hj; exact ⟨hbN, by omega⟩)
      rcases hv with ⟨hfk, rfl, hB⟩ | ⟨hfk, rfl⟩
      · refine ⟨hmay, .inl ⟨rfl, ?_, hi.2.1.trans' ff, all_take hx hi.2.2.1 hfk, ?_⟩⟩
        · rw [flen_step m hx, ← Nat.add_assoc]; exact hB
        · rw [flen_step m hx]; have := fin_len hkd hfk; have := hi.2.2.2; omega
      · exact ⟨hmay, .inr ⟨_, rfl, rfl, all_not hx hfk, hi.2.1.trans' ff⟩⟩
    · rintro e v hv
      rcases hv with ⟨rfl, hB, hf, ha, hl⟩ | ⟨c, rfl, rfl, ha, hf⟩
      · rw [List.take_length] at hB ha hl
        have hcl : clen (m + 1) n = bl + flen m n.kids := by rw [clen_succ, HBLE.out]
        rw [← hcl] at hB
        have hmx : clen (m + 1) n ≤ 1000000000000000000 := by have := HKL.out; have := HK.out; rw [hcl]; omega
        obtain ⟨cl, hcle⟩ : ∃ cl, clen (m + 1) n = cl := ⟨_, rfl⟩
        rw [hcle] at hB hmx
        have hmxi : (cl : Int) ≤ 1000000000000000000 := by omega
        have c9 : v.cell? ⟨w1.heap.size, 0, none⟩ = some (.int .i64 (cl : Int)) := hB.cell 0
        have HCL := hid hcle; have HA := hid ha
        have hfin : Fr No w v := hf3.trans hf (fun i e => .inr (by have e : i = w1.heap.size := e; have := F1.out.size; omega))
        have HFIN := hid hfin
        clear hcl hcle ha hl hf hB hf3 hfin hb1 hbN hmx
        go_wp2_with fail
        refine (must_any _ 2 v).mono ?_
        rintro e v3 ⟨rfl, ⟨hb, rfl⟩ | ⟨hb, rfl⟩⟩
        · have hb' : cl ≤ 4000 := by simp at hb; omega
          clear hb
          go_wp2_with fail
          go_ret
          refine ⟨HFIN.out, .inl ⟨?_, by rw [HCL.out]; rfl⟩⟩
          rw [fits_succ, HA.out, HCL.out]; simpa using hb'
        · have hb' : ¬ cl ≤ 4000 := by simp at hb; omega
          refine ⟨rfl, HFIN.out, .inr ⟨?_, rfl⟩⟩
          rw [fits_succ, HCL.out]; simp; omega
      · have hfin : Fr No w v := hf3.trans hf (fun i e => .inr (by have e : i = w1.heap.size := e; have := F1.out.size; omega))
        exact ⟨rfl, hfin, .inr ⟨by rw [fits_succ, ha]; rfl, rfl⟩⟩
end Go.Proofs.Ytdkpcfpebmabkaa.BE
