/-
  Part 14 of the proof: FtD, SdU, FtO, FtS, FtK, FtL, ScV.
-/
import Derived.Test.YtgbiicipkbpmeaaGreatDoorFe13
import Derived.Lib.Strings
import Derived.Lib.IndexMore
import Derived.Lib.TrimByte
import Derived.Test.YtgbiicipkbpmeaaGreatDoorFe04
import Derived.Shelf.Strings.Cut
import Derived.Shelf.Strings.Prefix
import Derived.Shelf.Strings.Trim
set_option linter.unusedSimpArgs false
set_option linter.unusedVariables false
namespace Go.Proofs.YtgbiicipkbpmeaaGreatDoor.FT
set_option maxRecDepth 100000
open BE DN SC
inductive Fl where
 | mk (kind : Int) (kids : List Fl) (type value first : B) (any : List B) (last : B)
def Fl.kind : Fl → Int | .mk k _ _ _ _ _ _ => k
def Fl.kids : Fl → List Fl | .mk _ k _ _ _ _ _ => k
def Fl.type : Fl → B | .mk _ _ t _ _ _ _ => t
def Fl.value : Fl → B | .mk _ _ _ v _ _ _ => v
def Fl.first : Fl → B | .mk _ _ _ _ f _ _ => f
def Fl.any : Fl → List B | .mk _ _ _ _ _ a _ => a
def Fl.last : Fl → B | .mk _ _ _ _ _ _ l => l
def fl0 : Fl := .mk 0 [] [] [] [] [] []
def opp (r : Int) : Int := if r = 0 then 1 else if r = 1 then 0 else 2
def truI (b : Bool) : Int := if b then 1 else 0
def joinE (dec : Int) : Int → List Int → Int
 | res, [] => res
 | res, r :: t => if r = dec then dec else joinE dec (if r = 2 then 2 else res) t
def sqF : Bool → B → B
 | _, [] => []
 | b, c :: r => if c = 32 then (if b then sqF true r else 32 :: sqF true r) else c :: sqF false r
def squeeze (s : B) : B := sqF false (low s)
def trimL (s : B) : B := Lib.trimLeftB s 32
def trimR (s : B) : B := Lib.trimRightB s 32
def cutAll : B → List B → Option B
 | r, [] => some r
 | r, p :: t => if (Lib.cut r p).2.2 then cutAll (Lib.cut r p).2.1 t else none
def hasP (text first : B) (any : List B) (last : B) : Bool :=
 Lib.hasPrefix text first && (match cutAll (Lib.trimPrefix text first) any with | none => false | some r => Lib.hasSuffix r last)
def tyN (s : Sch) (n : B) : Option Ty := (s.tyAt n).bind fun i => s.tys[i]?
def hasSyn (s : Sch) (n : B) (L : List Int) : Bool := match tyN s n with | none => false | some t => L.contains t.syn
def attrOf (s : Sch) (en : Ent) (nm : B) : Option Atr := en.find? fun a => match tyN s a.1 with | none => false | some t => decide (t.nm = nm)
def valsOf (s : Sch) (en : Ent) (n : B) : List B := match tyN s n with | none => [] | some t => match attrOf s en t.nm with | none => [] | some a => a.2
def isOrd (kind o : Int) : Bool := if kind = 5 then decide (0 ≤ o) else if kind = 6 then decide (o ≤ 0) else decide (o = 0)
def evPres (s : Sch) (en : Ent) (n : B) : Int := match tyN s n with | none => 2 | some t => truI (attrOf s en t.nm).isSome
def evOrd (s : Sch) (en : Ent) (kind : Int) (n v : B) : Int :=
 if (normE s n v).2 = 0 then truI ((valsOf s en n).any fun x => decide ((cmpE s n x v).2 = 0) && isOrd kind (cmpE s n x v).1) else 2
def evParts (s : Sch) (en : Ent) (n first : B) (any : List B) (last : B) : Int :=
 if hasSyn s n [1] then truI ((valsOf s en n).any fun x => hasP (fold x) (trimL (squeeze first)) (any.map squeeze) (trimR (squeeze last)))
 else truI ((valsOf s en n).any fun x => hasP x first any last)
def leaf (s : Sch) (en : Ent) (f : Fl) : Int :=
 if f.kind = 5 ∨ f.kind = 6 then (if hasSyn s f.type [1, 2, 3] then evOrd s en f.kind f.type f.value else 2)
 else if f.kind = 3 then evOrd s en f.kind f.type f.value
 else if f.kind = 4 then (if hasSyn s f.type [1, 2] then evParts s en f.type f.first f.any f.last else 2)
 else if f.kind = 7 then evPres s en f.type
 else 2
def evF (s : Sch) (en : Ent) : Nat → Fl → Int
 | 0, _ => 2
 | d + 1, f =>
  if f.kind = 0 then joinE 0 1 (f.kids.map (evF s en d))
  else if f.kind = 1 then joinE 1 0 (f.kids.map (evF s en d))
  else if f.kind = 2 then (match f.kids with | [] => 2 | k :: _ => opp (evF s en d k))
  else leaf s en f
def Tri (r : Int) : Prop := r = 0 ∨ r = 1 ∨ r = 2
theorem opp_tri (r : Int) : Tri (opp r) := by
 unfold opp Tri
 split
 ·simp
 ·split <;> simp
theorem tru_tri (b : Bool) : Tri (truI b) := by cases b <;> simp [truI, Tri]
theorem joinE_tri (dec : Int) : ∀ (L : List Int) (res : Int), Tri dec → Tri res → Tri (joinE dec res L)
 | [], _, _, h => h
 | r :: t, res, hd, h => by
  unfold joinE
  split
  ·exact hd
  ·refine joinE_tri dec t _ hd ?_
   split
   ·exact .inr (.inr rfl)
   ·exact h
theorem evOrd_tri (s : Sch) (en : Ent) (k : Int) (n v : B) : Tri (evOrd s en k n v) := by
 unfold evOrd
 split
 ·exact tru_tri _
 ·exact .inr (.inr rfl)
theorem leaf_tri (s : Sch) (en : Ent) (f : Fl) : Tri (leaf s en f) := by
 have h2 : Tri 2 := .inr (.inr rfl)
 unfold leaf
 split
 ·split
  ·exact evOrd_tri _ _ _ _ _
  ·exact h2
 ·split
  ·exact evOrd_tri _ _ _ _ _
  ·split
   ·split
    ·unfold evParts; split <;> exact tru_tri _
    ·exact h2
   ·split
    ·unfold evPres; split
     ·exact h2
     ·exact tru_tri _
    ·exact h2
theorem evF_tri (s : Sch) (en : Ent) : ∀ (d : Nat) (f : Fl), Tri (evF s en d f)
 | 0, _ => .inr (.inr rfl)
 | d + 1, f => by
  unfold evF
  split
  ·exact joinE_tri 0 _ _ (.inl rfl) (.inr (.inl rfl))
  ·split
   ·exact joinE_tri 1 _ _ (.inr (.inl rfl)) (.inl rfl)
   ·split
    ·split
     ·exact .inr (.inr rfl)
     ·exact opp_tri _
    ·exact leaf_tri s en f
end Go.Proofs.YtgbiicipkbpmeaaGreatDoor.FT
namespace Go.Proofs.YtgbiicipkbpmeaaGreatDoor.SC
set_option maxRecDepth 100000
open BE DN
theorem idx_app {α : Type} (p r : List α) (q : α → Bool) : (∃ j, p.findIdx? q = some j ∧ j < p.length ∧ idxI (p ++ r) q = (j : Int)) ∨ (p.findIdx? q = none ∧ (idxI (p ++ r) q = -1 ∨ (p.length : Int) ≤ idxI (p ++ r) q)) := by
 unfold idxI
 rw [List.findIdx?_append]
 cases h : p.findIdx? q with
 | some j =>
  left
  obtain ⟨hl, -⟩ := List.findIdx?_eq_some_iff_getElem.1 h
  exact ⟨j, rfl, hl, rfl⟩
 | none =>
  right
  refine ⟨rfl, ?_⟩
  cases hr : r.findIdx? q with
  | none => left; rfl
  | some k => right; simp only [Option.map_some, Option.none_or]; omega
theorem fnd_ty (X : List Ty) (m : B) : fnd (X.map (·.nm)) m = X.findIdx? fun a => low a.nm == low m := by
 unfold fnd
 rw [List.findIdx?_map]
 rfl
theorem fnd_cl (X : List Cl) (m : B) : fnd (X.map (·.nm)) m = X.findIdx? fun a => low a.nm == low m := by
 unfold fnd
 rw [List.findIdx?_map]
 rfl
theorem new_at {α : Type} (p r : List α) (t : α) (q : α → Bool) (ht : q t = true) : (p.findIdx? q).isNone = decide (idxI (p ++ t :: r) q = (p.length : Int)) := by
 have h0 := idx_app p (t :: r) q
 cases hp : p.findIdx? q with
 | some j =>
  rw [hp] at h0
  rcases h0 with ⟨k, e, hl, h⟩ | ⟨h, -⟩
  ·rw [h, decide_eq_false (by omega)]
   rfl
  ·cases h
 | none =>
  have : idxI (p ++ t :: r) q = (p.length : Int) := by
   unfold idxI
   rw [List.findIdx?_append, hp, List.findIdx?_cons, if_pos ht]
   simp
  rw [this, decide_eq_true rfl]
  rfl
def rT (X : List Ty) (i : Nat) (t : Ty) : Bool := typ t.nm && decide (idxI X (fun a => low a.nm == low t.nm) = (i : Int)) && (decide (1 ≤ t.syn) && decide (t.syn ≤ 5))
def supI (X : List Cl) (i : Nat) (c : Cl) : Bool :=
 if c.sup = [] then true else
 decide (0 ≤ idxI X fun a => low a.nm == low c.sup) && decide ((idxI X fun a => low a.nm == low c.sup) < i) && (match X[(idxI X fun a => low a.nm == low c.sup).toNat]? with | none => false | some d => d.kind == 0 || d.kind == c.kind)
def isIn (X : List Ty) (l : List B) : Bool := l.all fun x => decide (0 ≤ idxI X fun a => low a.nm == low x)
def rC (T : List Ty) (X : List Cl) (i : Nat) (c : Cl) : Bool := typ c.nm && decide (idxI X (fun a => low a.nm == low c.nm) = (i : Int)) && (decide (0 ≤ c.kind) && decide (c.kind ≤ 2)) && isIn T c.must && isIn T c.may && supI X i c
theorem has_in (T : List Ty) (l : List B) : has (T.map (·.nm)) l = isIn T l := by
 unfold has isIn
 refine congrArg (fun f => l.all f) (funext fun m => ?_)
 rw [fnd_ty]
 unfold idxI
 cases T.findIdx? fun a => low a.nm == low m with
 | none => rfl
 | some j => simp
theorem rTy_iff (X : List Ty) : ∀ (r p : List Ty), X = p ++ r → (rTy (p.map (·.nm)) r = true ↔ ∀ j t, r[j]? = some t → rT X (p.length + j) t = true)
 | [], p, _ => ⟨fun _ j t h => by simp at h, fun _ => rfl⟩
 | t :: r, p, h => by
  have ih := rTy_iff X r (p ++ [t]) (by rw [h, List.append_assoc]; rfl)
  rw [List.map_append, List.map_singleton, List.length_append, List.length_singleton] at ih
  have hn : newN (p.map (·.nm)) t.nm = (typ t.nm && decide (idxI X (fun a => low a.nm == low t.nm) = (p.length : Int))) := by
   unfold newN
   rw [fnd_ty, h, new_at p r t (fun a => low a.nm == low t.nm) (beq_self_eq_true _)]
  have e : rTy (p.map (·.nm)) (t :: r) = (rT X p.length t && rTy (p.map (·.nm) ++ [t.nm]) r) := by
   show (newN (p.map (·.nm)) t.nm && (decide (1 ≤ t.syn) && decide (t.syn ≤ 5)) && rTy (p.map (·.nm) ++ [t.nm]) r) = _
   rw [hn]
   rfl
  rw [e, Bool.and_eq_true, ih]
  constructor
  ·rintro ⟨h1, h2⟩ j x hx
   cases j with
   | zero => cases hx; exact h1
   | succ j =>
    have := h2 j x hx
    rwa [show p.length + 1 + j = p.length + (j + 1) by omega] at this
  ·intro hh
   refine ⟨hh 0 t rfl, fun j x hx => ?_⟩
   have := hh (j + 1) x hx
   rwa [show p.length + (j + 1) = p.length + 1 + j by omega] at this
theorem sup_iff (X r p : List Cl) (h : X = p ++ r) (c : Cl) : supOk p c = supI X p.length c := by
 unfold supOk supI
 by_cases h0 : c.sup = []
 ·rw [if_pos h0, if_pos h0]
 ·rw [if_neg h0, if_neg h0, fnd_cl]
  have h1 := idx_app p r (fun a => low a.nm == low c.sup)
  rw [← h] at h1
  cases hp : p.findIdx? fun a => low a.nm == low c.sup with
  | none =>
   rw [hp] at h1
   rcases h1 with ⟨j, e, -⟩ | ⟨-, h1 | h1⟩
   ·cases e
   ·rw [h1, decide_eq_false (by decide)]
    rfl
   ·rw [decide_eq_false (show ¬ (idxI X fun a => low a.nm == low c.sup) < (p.length : Int) by omega), Bool.and_false]
    rfl
  | some j =>
   rw [hp] at h1
   rcases h1 with ⟨k, e, hl, h1⟩ | ⟨e, -⟩
   ·cases e
    rw [h1, decide_eq_true (by omega), decide_eq_true (by omega)]
    have : X[(j : Int).toNat]? = p[j]? := by rw [Int.toNat_natCast, h, List.getElem?_append_left hl]
    rw [this]
    rfl
   ·cases e
theorem rCl_iff (T : List Ty) (X : List Cl) : ∀ (r p : List Cl), X = p ++ r → (rCl (T.map (·.nm)) p r = true ↔ ∀ j t, r[j]? = some t → rC T X (p.length + j) t = true)
 | [], p, _ => ⟨fun _ j t h => by simp at h, fun _ => rfl⟩
 | t :: r, p, h => by
  have ih := rCl_iff T X r (p ++ [t]) (by rw [h, List.append_assoc]; rfl)
  rw [List.length_append, List.length_singleton] at ih
  have hn : newN (p.map (·.nm)) t.nm = (typ t.nm && decide (idxI X (fun a => low a.nm == low t.nm) = (p.length : Int))) := by
   unfold newN
   rw [fnd_cl, h, new_at p r t (fun a => low a.nm == low t.nm) (beq_self_eq_true _)]
  have e : rCl (T.map (·.nm)) p (t :: r) = (rC T X p.length t && rCl (T.map (·.nm)) (p ++ [t]) r) := by
   show (newN (p.map (·.nm)) t.nm && (decide (0 ≤ t.kind) && decide (t.kind ≤ 2)) && supOk p t && has (T.map (·.nm)) t.must && has (T.map (·.nm)) t.may && rCl (T.map (·.nm)) (p ++ [t]) r) = _
   rw [hn, has_in, has_in, sup_iff X (t :: r) p h]
   unfold rC
   generalize typ t.nm = a
   generalize decide (idxI X (fun a => low a.nm == low t.nm) = (p.length : Int)) = b
   generalize (decide (0 ≤ t.kind) && decide (t.kind ≤ 2)) = d
   generalize isIn T t.must = f
   generalize isIn T t.may = g
   generalize supI X p.length t = k
   generalize rCl (T.map (·.nm)) (p ++ [t]) r = l
   revert a b d f g k l
   decide
  rw [e, Bool.and_eq_true, ih]
  constructor
  ·rintro ⟨h1, h2⟩ j x hx
   cases j with
   | zero => cases hx; exact h1
   | succ j =>
    have := h2 j x hx
    rwa [show p.length + 1 + j = p.length + (j + 1) by omega] at this
  ·intro hh
   refine ⟨hh 0 t rfl, fun j x hx => ?_⟩
   have := hh (j + 1) x hx
   rwa [show p.length + (j + 1) = p.length + 1 + j by omega] at this
theorem okS_iff (s : Sch) : okS s = true ↔ (1 ≤ s.tys.length ∧ s.tys.length ≤ 40 ∧ s.cls.length ≤ 20) ∧ (∀ t, s.tys[0]? = some t → rFirst t = true) ∧ (∀ i t, s.tys[i]? = some t → rT s.tys i t = true) ∧ ∀ i c, s.cls[i]? = some c → rC s.tys s.cls i c = true := by
 have h1 := rTy_iff s.tys s.tys [] rfl
 have h2 := rCl_iff s.tys s.cls s.cls [] rfl
 simp only [List.map_nil, List.length_nil, Nat.zero_add] at h1 h2
 unfold okS Sch.tn
 simp only [Bool.and_eq_true, decide_eq_true_eq]
 rw [h1, h2]
 cases ht : s.tys with
 | nil =>
  constructor
  ·rintro ⟨⟨⟨h, -⟩, -⟩, -⟩
   simp at h
  ·rintro ⟨⟨h, -⟩, -⟩
   simp at h
 | cons t r =>
  constructor
  ·rintro ⟨⟨⟨a, b⟩, c⟩, ⟨d, e⟩, f⟩
   exact ⟨⟨a, b, c⟩, fun x hx => by cases hx; exact d, e, f⟩
  ·rintro ⟨⟨a, b, c⟩, d, e, f⟩
   exact ⟨⟨⟨a, b⟩, c⟩, ⟨d t rfl, e⟩, f⟩
end Go.Proofs.YtgbiicipkbpmeaaGreatDoor.SC
namespace Go.Proofs.YtgbiicipkbpmeaaGreatDoor.FT
set_option maxRecDepth 100000
open BE DN SC
theorem tyN_some {s : Sch} {n : B} {t : Ty} (h : tyN s n = some t) : ∃ i, s.tyAt n = some i ∧ s.tys[i]? = some t := by
 unfold tyN at h
 cases hi : s.tyAt n with
 | none => rw [hi] at h; cases h
 | some i => rw [hi, Option.bind_some] at h; exact ⟨i, rfl, h⟩
theorem tyN_of {s : Sch} {n : B} {i : Nat} {t : Ty} (h : s.tyAt n = some i) (ht : s.tys[i]? = some t) : tyN s n = some t := by
 unfold tyN
 rw [h, Option.bind_some, ht]
theorem low_app (a b : B) : low (a ++ b) = low a ++ low b := List.map_append
theorem words_ne : ∀ (t cur : B), words cur (t ++ [46]) ≠ []
 | [], cur => by
  show words cur [46] ≠ []
  unfold words
  rw [if_neg (by decide)]
  unfold words
  rw [if_neg (by simp)]
  exact List.cons_ne_nil _ _
 | c :: r, cur => by
  show words cur (c :: (r ++ [46])) ≠ []
  unfold words
  split
  ·split
   ·exact words_ne r []
   ·exact List.cons_ne_nil _ _
  ·exact words_ne r _
theorem joinB_cons (x : B) {L : List B} (h : L ≠ []) : joinB [32] (x :: L) = x ++ [32] ++ joinB [32] L := by
 cases L with
 | nil => exact absurd rfl h
 | cons b r => rfl
theorem words_sq : ∀ (t : B), (∀ cur : B, cur ≠ [] → joinB [32] (words cur (t ++ [46])) = cur ++ sqF false t ++ [46]) ∧ joinB [32] (words [] (t ++ [46])) = sqF true t ++ [46]
 | [] => by
  refine ⟨fun cur h => ?_, rfl⟩
  show joinB [32] (words cur [46]) = _
  unfold words
  rw [if_neg (by decide)]
  unfold words
  rw [if_neg (by simp)]
  simp [joinB, sqF]
 | c :: r => by
  obtain ⟨h1, h2⟩ := words_sq r
  by_cases hc : c = 32
  ·subst hc
   refine ⟨fun cur h => ?_, ?_⟩
   ·show joinB [32] (words cur (32 :: (r ++ [46]))) = _
    unfold words
    rw [if_pos rfl, if_neg (by simpa using h), joinB_cons cur (words_ne r []), h2]
    simp [sqF]
   ·show joinB [32] (words [] (32 :: (r ++ [46]))) = _
    unfold words
    rw [if_pos rfl, if_pos (show ([] : B).isEmpty = true from rfl), h2]
    simp [sqF]
  ·refine ⟨fun cur h => ?_, ?_⟩
   ·show joinB [32] (words cur (c :: (r ++ [46]))) = _
    unfold words
    rw [if_neg hc, h1 _ (by simp)]
    simp [sqF, hc]
   ·show joinB [32] (words [] (c :: (r ++ [46]))) = _
    unfold words
    rw [if_neg hc, h1 _ (by simp)]
    simp [sqF, hc]
theorem fold_sq (p : B) : fold (46 :: (p ++ [46])) = 46 :: (squeeze p ++ [46]) := by
 have hl : low (46 :: (p ++ [46])) = 46 :: (low p ++ [46]) := by
  show lo 46 :: low (p ++ [46]) = _
  rw [low_app]
  rfl
 unfold fold squeeze
 rw [hl]
 unfold words
 rw [if_neg (by decide), List.nil_append, (words_sq (low p)).1 [46] (by simp)]
 rfl
theorem sq_len : ∀ (b : Bool) (l : B), (sqF b l).length ≤ l.length
 | _, [] => Nat.le_refl _
 | b, d :: r => by
  unfold sqF
  split
  ·split
   ·exact Nat.le_trans (sq_len true r) (Nat.le_succ _)
   ·exact Nat.succ_le_succ (sq_len true r)
  ·exact Nat.succ_le_succ (sq_len false r)
theorem squeeze_len (p : B) : (squeeze p).length ≤ p.length := by
 have := sq_len false (low p)
 rwa [low_length] at this
theorem trimL_len (l : B) : (trimL l).length ≤ l.length := by
 unfold trimL Lib.trimLeftB
 exact (List.dropWhile_sublist _).length_le
theorem trimR_len (l : B) : (trimR l).length ≤ l.length := by
 unfold trimR Lib.trimRightB
 rw [List.length_reverse]
 have := (List.dropWhile_sublist (l := l.reverse) (· == 32)).length_le
 rwa [List.length_reverse] at this
theorem cut_len {s p : B} (h : (Lib.cut s p).2.2 = true) : (Lib.cut s p).2.1.length ≤ s.length := by
 unfold Lib.cut at h ⊢
 split at h
 ·rw [if_pos (by assumption)]
  simp
 ·cases h
end Go.Proofs.YtgbiicipkbpmeaaGreatDoor.FT
namespace Go.Proofs.YtgbiicipkbpmeaaGreatDoor.FT
set_option maxRecDepth 100000
open Go.RowKit K BE DN SC
section
variable {P : Program} {ops : Array Oper} {rest : List Oper} {op : Oper} {a : Act} {w : World} {Q : Exit → Act → World → Prop}
theorem wpL_callF (hgd : op.guard = none) (x : Operand) (args : List Operand) (tys : Array TypeId) (ho : op.op = .call { callee := .value x, args := args.toArray, argTypes := tys }) (f : FuncId) (first cap : List Value) (hx : a.eval x = .func (.func f) first.toArray cap.toArray)
  (hent : ∀ (vs : Array Value) (w : World), (callFunc f vs).run P w = .ok (.enter f vs) w) (vs : List Value) (hvs : first ++ args.map a.eval ++ cap = vs)
  (hc : Calls P f vs.toArray w fun e w' => ∃ v, e = .returned v ∧ wpList P ops Q rest (a.put op.dst v) w') : wpList P ops Q (op :: rest) a w := by
 refine wpList_plain hgd fun _ hK => ?_
 unfold Oper.wp
 have e : (execOp a.eval op).run P w = .ok (.enter f vs.toArray) w := by
  have h1 := hent vs.toArray w
  rw [← hvs] at h1
  simp [execOp, ho, resolve, hx, Deferred.ofValue, invoke]
  rw [← hvs]
  simpa using h1
 rw [e]
 show Calls P f vs.toArray w _
 refine hc.mono ?_
 rintro e w' ⟨v, rfl, h⟩
 exact hK _ _ h
end
def flV (f : Fl) (vk va : Value) : List Value := [.int .i64 f.kind, vk, .string (sb f.type), .string (sb f.value), .string (sb f.first), va, .string (sb f.last)]
def I64 (n : Int) : Prop := -9223372036854775808 ≤ n ∧ n ≤ 9223372036854775807
def Sm (s : B) : Prop := s.length ≤ 4294967000
def FlC : Nat → (Nat → Prop) → World → Fl → List Value → Prop
 | 0, _, _, _, _ => False
 | M + 1, S, w, f, cs => ∃ vk va, cs = flV f vk va ∧ I64 f.kind ∧ Sz f.type ∧ Sz f.value ∧ Sm f.first ∧ Sm f.last ∧ (LsIn S w va f.any ∧ (∀ x ∈ f.any, Sm x) ∧ f.any.length ≤ 4294967000) ∧ Sl 7 (FlC M S w) S w vk f.kids
theorem FlC.fr {S D : Nat → Prop} {w w' : World} (hf : Fr D w w') (hd : ∀ i, S i → i < w.heap.size → ¬ D i) : ∀ {M : Nat} {f : Fl} {cs : List Value}, FlC M S w f cs → FlC M S w' f cs
 | 0, _, _, h => h.elim
 | M + 1, f, cs, h => by
  obtain ⟨vk, va, h1, h2, h3, h4, h5, h6, h7, h8⟩ := h
  exact ⟨vk, va, h1, h2, h3, h4, h5, h6, ⟨h7.1.fr hf hd, h7.2⟩, h8.fr hf hd fun x c _ hx => FlC.fr hf hd hx⟩
theorem FlC.no {M : Nat} {S : Nat → Prop} {w w' : World} {f : Fl} {cs : List Value} (h : FlC M S w f cs) (hf : Fr No w w') : FlC M S w' f cs := h.fr hf fun _ _ _ e => e
theorem FlC.mono {S S' : Nat → Prop} {w : World} (hs : ∀ i, S i → i < w.heap.size → S' i) : ∀ {M : Nat} {f : Fl} {cs : List Value}, FlC M S w f cs → FlC M S' w f cs
 | 0, _, _, h => h.elim
 | M + 1, f, cs, h => by
  obtain ⟨vk, va, h1, h2, h3, h4, h5, h6, h7, h8⟩ := h
  exact ⟨vk, va, h1, h2, h3, h4, h5, h6, ⟨h7.1.mono hs, h7.2⟩, Sl.mono h8 hs fun x c _ hx => FlC.mono hs hx⟩
theorem FlC.up {S : Nat → Prop} {w : World} : ∀ {M : Nat} {f : Fl} {cs : List Value}, FlC M S w f cs → FlC (M + 1) S w f cs
 | 0, _, _, h => h.elim
 | M + 1, f, cs, h => by
  obtain ⟨vk, va, h1, h2, h3, h4, h5, h6, h7, h8⟩ := h
  exact ⟨vk, va, h1, h2, h3, h4, h5, h6, h7, h8.fr (Fr.refl No w) (fun _ _ _ e => e) fun x c _ hx => hx.up⟩
theorem FlC.le {S : Nat → Prop} {w : World} {M N : Nat} {f : Fl} {cs : List Value} (h : FlC M S w f cs) (hMN : M ≤ N) : FlC N S w f cs := by
 induction hMN with
 | refl => exact h
 | step _ ih => exact ih.up
theorem _root_.Go.Proofs.YtgbiicipkbpmeaaGreatDoor.SC.EnIn.no {S : Nat → Prop} {w w' : World} {v : Value} {en : Ent} (h : EnIn S w v en) (hf : Fr No w w') : EnIn S w' v en := h.fr hf fun _ _ _ e => e
theorem infoFl : (Tryz.prog.info? 39).map (·.size) = some 7 := by kernel_rfl
theorem infoSj : (Tryz.prog.info? 93).map (·.size) = some 3 := by kernel_rfl
def Gm (w : World) : Prop := Gs w ∧ ∃ m, w.cell? ⟨0, 0, none⟩ = some (.int .i64 m)
def GM (X : Nat → Prop) : Prop := GX X ∧ X 0
theorem Gm.no {w w' : World} (h : Gm w) (hf : Fr No w w') : Gm w' := ⟨h.1.no hf, h.2.imp fun _ e => hf.cell e id⟩
theorem Gm.bb {X : Nat → Prop} {w w' : World} {b : Nat} (h : Gm w) (hf : Fr (fun k => k = b) w w') (hx : GM X) (hb : ¬ X b) : Gm w' :=
 ⟨h.1.bb hf hx.1 hb, h.2.imp fun _ e => hf.cell e (fun e => hb (by have e : 0 = b := e; rw [← e]; exact hx.2))⟩
theorem Gm.gx {w : World} (h : Gm w) : GM (fun k => k < w.heap.size) := ⟨h.1.gx, World.block_lt_of_cell? w _ h.2.choose_spec⟩
end Go.Proofs.YtgbiicipkbpmeaaGreatDoor.FT
namespace Go.Proofs.YtgbiicipkbpmeaaGreatDoor.FT
set_option maxRecDepth 100000
set_option maxHeartbeats 128000000
open Go.Shelf Go.RowKit K BE DN SC
def lays161_ren : Go.Shelf.Ren := ⟨fun | 161 => 144 | 231 => 177 | 227 => 178 | 233 => 179 | 235 => 180 | 228 => 214 | 197 => 215 | 151 => 216 | 260 => 239 | 152 => 240 | 137 => 224 | 119 => 251 | 224 => 244 | 225 => 243 | 217 => 242 | 266 => 252 | n => n, fun | 9 => 9 | 4 => 4 | 3 => 3 | 5 => 5 | 117 => 230 | 116 => 229 | 0 => 0 | 124 => 233 | 105 => 260 | 21 => 21 | 119 => 282 | 46 => 192 | 139 => 285 | 138 => 284 | n => n, fun | 3 => 4 | 4 => 5 | n => n⟩
theorem lays161 : Go.Proofs.Lays.n161 Tryz.prog lays161_ren := {
 mixed := by kernel_rfl
 f119 := Tryz.func251.trans (congrArg some (by kernel_rfl))
 f137 := Tryz.func224.trans (congrArg some (by kernel_rfl))
 f151 := Tryz.func216.trans (congrArg some (by kernel_rfl))
 f152 := Tryz.func240.trans (congrArg some (by kernel_rfl))
 f161 := Tryz.func144.trans (congrArg some (by kernel_rfl))
 f197 := Tryz.func215.trans (congrArg some (by kernel_rfl))
 f217 := Tryz.func242.trans (congrArg some (by kernel_rfl))
 f224 := Tryz.func244.trans (congrArg some (by kernel_rfl))
 f225 := Tryz.func243.trans (congrArg some (by kernel_rfl))
 f227 := Tryz.func178.trans (congrArg some (by kernel_rfl))
 f228 := Tryz.func214.trans (congrArg some (by kernel_rfl))
 f231 := Tryz.func177.trans (congrArg some (by kernel_rfl))
 f233 := Tryz.func179.trans (congrArg some (by kernel_rfl))
 f235 := Tryz.func180.trans (congrArg some (by kernel_rfl))
 f260 := Tryz.func239.trans (congrArg some (by kernel_rfl))
 f266 := Tryz.func252.trans (congrArg some (by kernel_rfl))
 t0 := Tryz.underlying0
 a0 := Tryz.isAgg0
 z0 := Tryz.sizeOf0
 v0 := Tryz.zeroValue0
 t3 := Tryz.underlying3
 a3 := Tryz.isAgg3
 z3 := Tryz.sizeOf3
 v3 := Tryz.zeroValue3
 t4 := Tryz.underlying4
 a4 := Tryz.isAgg4
 z4 := Tryz.sizeOf4
 v4 := Tryz.zeroValue4
 t5 := Tryz.underlying5
 a5 := Tryz.isAgg5
 z5 := Tryz.sizeOf5
 v5 := Tryz.zeroValue5
 t9 := Tryz.underlying9
 a9 := Tryz.isAgg9
 z9 := Tryz.sizeOf9
 v9 := Tryz.zeroValue9
 t21 := Tryz.underlying21
 a21 := Tryz.isAgg21
 z21 := Tryz.sizeOf21
 v21 := Tryz.zeroValue21
 t46 := Tryz.underlying192
 a46 := Tryz.isAgg192
 z46 := Tryz.sizeOf192
 v46 := Tryz.zeroValue192
 t105 := Tryz.underlying260
 a105 := Tryz.isAgg260
 z105 := Tryz.sizeOf260
 v105 := Tryz.zeroValue260
 t116 := Tryz.underlying229
 a116 := Tryz.isAgg229
 z116 := Tryz.sizeOf229
 t117 := Tryz.underlying230
 a117 := Tryz.isAgg230
 z117 := Tryz.sizeOf230
 v117 := Tryz.zeroValue230
 t119 := Tryz.underlying282
 a119 := Tryz.isAgg282
 z119 := Tryz.sizeOf282
 t124 := Tryz.underlying233
 a124 := Tryz.isAgg233
 z124 := Tryz.sizeOf233
 v124 := Tryz.zeroValue233
 t138 := Tryz.underlying284
 a138 := Tryz.isAgg284
 z138 := Tryz.sizeOf284
 v138 := Tryz.zeroValue284
 t139 := Tryz.underlying285
 a139 := Tryz.isAgg285
 z139 := Tryz.sizeOf285
 v139 := Tryz.zeroValue285
 g3 := by kernel_rfl
 g4 := by kernel_rfl }
def lays162_ren : Go.Shelf.Ren := ⟨fun | 162 => 145 | 232 => 181 | 227 => 178 | 234 => 182 | 236 => 183 | 228 => 214 | 271 => 217 | 151 => 216 | 120 => 241 | 197 => 215 | 152 => 240 | 260 => 239 | 137 => 224 | 119 => 251 | 224 => 244 | 225 => 243 | 217 => 242 | 266 => 252 | n => n, fun | 9 => 9 | 4 => 4 | 3 => 3 | 5 => 5 | 117 => 230 | 116 => 229 | 0 => 0 | 124 => 233 | 21 => 21 | 105 => 260 | 46 => 192 | 119 => 282 | 139 => 285 | 138 => 284 | n => n, fun | 3 => 4 | 4 => 5 | n => n⟩
theorem lays162 : Go.Proofs.Lays.n162 Tryz.prog lays162_ren := {
 mixed := by kernel_rfl
 f119 := Tryz.func251.trans (congrArg some (by kernel_rfl))
 f120 := Tryz.func241.trans (congrArg some (by kernel_rfl))
 f137 := Tryz.func224.trans (congrArg some (by kernel_rfl))
 f151 := Tryz.func216.trans (congrArg some (by kernel_rfl))
 f152 := Tryz.func240.trans (congrArg some (by kernel_rfl))
 f162 := Tryz.func145.trans (congrArg some (by kernel_rfl))
 f197 := Tryz.func215.trans (congrArg some (by kernel_rfl))
 f217 := Tryz.func242.trans (congrArg some (by kernel_rfl))
 f224 := Tryz.func244.trans (congrArg some (by kernel_rfl))
 f225 := Tryz.func243.trans (congrArg some (by kernel_rfl))
 f227 := Tryz.func178.trans (congrArg some (by kernel_rfl))
 f228 := Tryz.func214.trans (congrArg some (by kernel_rfl))
 f232 := Tryz.func181.trans (congrArg some (by kernel_rfl))
 f234 := Tryz.func182.trans (congrArg some (by kernel_rfl))
 f236 := Tryz.func183.trans (congrArg some (by kernel_rfl))
 f260 := Tryz.func239.trans (congrArg some (by kernel_rfl))
 f266 := Tryz.func252.trans (congrArg some (by kernel_rfl))
 f271 := Tryz.func217.trans (congrArg some (by kernel_rfl))
 t0 := Tryz.underlying0
 a0 := Tryz.isAgg0
 z0 := Tryz.sizeOf0
 v0 := Tryz.zeroValue0
 t3 := Tryz.underlying3
 a3 := Tryz.isAgg3
 z3 := Tryz.sizeOf3
 v3 := Tryz.zeroValue3
 t4 := Tryz.underlying4
 a4 := Tryz.isAgg4
 z4 := Tryz.sizeOf4
 v4 := Tryz.zeroValue4
 t5 := Tryz.underlying5
 a5 := Tryz.isAgg5
 z5 := Tryz.sizeOf5
 v5 := Tryz.zeroValue5
 t9 := Tryz.underlying9
 a9 := Tryz.isAgg9
 z9 := Tryz.sizeOf9
 v9 := Tryz.zeroValue9
 t21 := Tryz.underlying21
 a21 := Tryz.isAgg21
 z21 := Tryz.sizeOf21
 v21 := Tryz.zeroValue21
 t46 := Tryz.underlying192
 a46 := Tryz.isAgg192
 z46 := Tryz.sizeOf192
 v46 := Tryz.zeroValue192
 t105 := Tryz.underlying260
 a105 := Tryz.isAgg260
 z105 := Tryz.sizeOf260
 v105 := Tryz.zeroValue260
 t116 := Tryz.underlying229
 a116 := Tryz.isAgg229
 z116 := Tryz.sizeOf229
 t117 := Tryz.underlying230
 a117 := Tryz.isAgg230
 z117 := Tryz.sizeOf230
 v117 := Tryz.zeroValue230
 t119 := Tryz.underlying282
 a119 := Tryz.isAgg282
 z119 := Tryz.sizeOf282
 t124 := Tryz.underlying233
 a124 := Tryz.isAgg233
 z124 := Tryz.sizeOf233
 v124 := Tryz.zeroValue233
 t138 := Tryz.underlying284
 a138 := Tryz.isAgg284
 z138 := Tryz.sizeOf284
 v138 := Tryz.zeroValue284
 t139 := Tryz.underlying285
 a139 := Tryz.isAgg285
 z139 := Tryz.sizeOf285
 v139 := Tryz.zeroValue285
 g3 := by kernel_rfl
 g4 := by kernel_rfl }
def lays145_ren : Go.Shelf.Ren := ⟨fun | 145 => 147 | 220 => 185 | 219 => 219 | 217 => 242 | 225 => 243 | 224 => 244 | 267 => 245 | 266 => 252 | 314 => 253 | n => n, fun | 9 => 9 | 4 => 4 | 59 => 197 | 3 => 3 | 5 => 5 | 46 => 192 | 146 => 286 | 51 => 60 | n => n, fun | 1 => 0 | n => n⟩
theorem lays145 : Go.Proofs.Lays.n145 Tryz.prog lays145_ren := {
 mixed := by kernel_rfl
 f145 := Tryz.func147.trans (congrArg some (by kernel_rfl))
 f217 := Tryz.func242.trans (congrArg some (by kernel_rfl))
 f219 := Tryz.func219.trans (congrArg some (by kernel_rfl))
 f220 := Tryz.func185.trans (congrArg some (by kernel_rfl))
 f224 := Tryz.func244.trans (congrArg some (by kernel_rfl))
 f225 := Tryz.func243.trans (congrArg some (by kernel_rfl))
 f266 := Tryz.func252.trans (congrArg some (by kernel_rfl))
 f267 := Tryz.func245.trans (congrArg some (by kernel_rfl))
 f314 := Tryz.func253.trans (congrArg some (by kernel_rfl))
 t3 := Tryz.underlying3
 a3 := Tryz.isAgg3
 z3 := Tryz.sizeOf3
 v3 := Tryz.zeroValue3
 t4 := Tryz.underlying4
 a4 := Tryz.isAgg4
 z4 := Tryz.sizeOf4
 v4 := Tryz.zeroValue4
 t5 := Tryz.underlying5
 a5 := Tryz.isAgg5
 z5 := Tryz.sizeOf5
 v5 := Tryz.zeroValue5
 t9 := Tryz.underlying9
 a9 := Tryz.isAgg9
 z9 := Tryz.sizeOf9
 v9 := Tryz.zeroValue9
 t46 := Tryz.underlying192
 a46 := Tryz.isAgg192
 z46 := Tryz.sizeOf192
 v46 := Tryz.zeroValue192
 t51 := Tryz.underlying60
 a51 := Tryz.isAgg60
 z51 := Tryz.sizeOf60
 v51 := Tryz.zeroValue60
 t59 := Tryz.underlying197
 a59 := Tryz.isAgg197
 z59 := Tryz.sizeOf197
 v59 := Tryz.zeroValue197
 t146 := Tryz.underlying286
 a146 := Tryz.isAgg286
 z146 := Tryz.sizeOf286
 v146 := Tryz.zeroValue286
 g1 := by kernel_rfl }
def lays206_ren : Go.Shelf.Ren := ⟨fun | 206 => 218 | n => n, fun | 9 => 9 | 4 => 4 | 3 => 3 | n => n, fun | n => n⟩
theorem lays206 : Go.Proofs.Lays.n206 Tryz.prog lays206_ren := {
 mixed := by kernel_rfl
 f206 := Tryz.func218.trans (congrArg some (by kernel_rfl))
 t3 := Tryz.underlying3
 a3 := Tryz.isAgg3
 z3 := Tryz.sizeOf3
 v3 := Tryz.zeroValue3
 t4 := Tryz.underlying4
 a4 := Tryz.isAgg4
 z4 := Tryz.sizeOf4
 v4 := Tryz.zeroValue4
 t9 := Tryz.underlying9
 a9 := Tryz.isAgg9
 z9 := Tryz.sizeOf9
 v9 := Tryz.zeroValue9 }
def lays100_ren : Go.Shelf.Ren := ⟨fun | 100 => 148 | 207 => 186 | n => n, fun | 9 => 9 | 4 => 4 | 3 => 3 | n => n, fun | n => n⟩
theorem lays100 : Go.Proofs.Lays.n100 Tryz.prog lays100_ren := {
 mixed := by kernel_rfl
 f100 := Tryz.func148.trans (congrArg some (by kernel_rfl))
 f207 := Tryz.func186.trans (congrArg some (by kernel_rfl))
 t3 := Tryz.underlying3
 a3 := Tryz.isAgg3
 z3 := Tryz.sizeOf3
 v3 := Tryz.zeroValue3
 t4 := Tryz.underlying4
 a4 := Tryz.isAgg4
 z4 := Tryz.sizeOf4
 v4 := Tryz.zeroValue4
 t9 := Tryz.underlying9
 a9 := Tryz.isAgg9
 z9 := Tryz.sizeOf9
 v9 := Tryz.zeroValue9 }
theorem drewN_fr (w : World) (n : Nat) : Fr No w (w.drewN n) := (Fr.refl _ _).drewN n
theorem trimL_any (s : B) (w : World) : Calls Tryz.prog 144 #[.string (sb s), .string (sb [32])] w fun e w' => e = .returned (.string (sb (trimL s))) ∧ w' = w := by
 have h := Any.strings_TrimLeft_one lays161 (sb s) 32 (by decide) w
 rw [sb_list] at h
 exact h
theorem trimR_any (s : B) (hs : Sz s) (w : World) : Calls Tryz.prog 145 #[.string (sb s), .string (sb [32])] w fun e w' => e = .returned (.string (sb (trimR s))) ∧ w' = w := by
 have h := Any.strings_TrimRight_one lays162 (sb s) 32 (by decide) w (by rw [sb_size]; unfold Sz at hs; omega)
 rw [sb_list] at h
 exact h
theorem hasSuf_any (s p : B) (hs : Sz s) (w : World) : Calls Tryz.prog 148 #[.string (sb s), .string (sb p)] w fun e w' => e = .returned (.bool (Lib.hasSuffix s p)) ∧ w' = w := by
 have h := Any.strings_HasSuffix lays100 (sb s) (sb p) w (by rw [sb_size]; unfold Sz at hs; omega)
 rw [sb_list, sb_list] at h
 exact h
theorem cutX_any (s p : B) (hs : Sm s) (w : World) (hG : Gm w) : Calls Tryz.prog 147 #[.string (sb s), .string (sb p)] w fun e w' => e = .returned (.tuple #[.string (sb (Lib.cut s p).1), .string (sb (Lib.cut s p).2.1), .bool (Lib.cut s p).2.2]) ∧ Fr No w w' := by
 obtain ⟨m, hm⟩ := hG.2
 have h := Any.strings_Cut lays145 (sb s) (sb p) m w (by rw [sb_size]; unfold Sm at hs; omega) hm
 rw [sb_list, sb_list] at h
 refine h.mono ?_
 rintro e w' ⟨rfl, n, rfl⟩
 exact ⟨rfl, drewN_fr w n⟩
theorem sliteHasPre_any (s p : B) (w : World) : Calls Tryz.prog 218 #[.string (sb s), .string (sb p)] w fun e w' => e = .returned (.bool (Lib.hasPrefix s p)) ∧ w' = w := by
 have h := Any.stringslite_HasPrefix lays206 (sb s) (sb p) w
 rw [sb_list, sb_list] at h
 exact h
theorem sliteCutPre_any (s p : B) (hs : Sz s) (w : World) : Calls Tryz.prog 184 #[.string (sb s), .string (sb p)] w fun e w' => e = .returned (.tuple #[.string (sb (Lib.trimPrefix s p)), .bool (Lib.hasPrefix s p)]) ∧ Fr No w w' := by
 have H := hid (sliteHasPre_any s p w)
 cases hb : Lib.hasPrefix s p with
 | false =>
  have HR : Hid (Lib.trimPrefix s p = s) := hid (by unfold Lib.trimPrefix; rw [hb]; rfl)
  rw [hb] at H
  clear hb
  go_enter Tryz.func184, Tryz.ntmps184
  go_wp2_with fail
  refine H.out.mono ?_
  rintro e w' ⟨rfl, rfl⟩
  go_wp2_with fail
  go_ret2
  exact ⟨by rw [HR.out]; rfl, Fr.refl _ _⟩
 | true =>
  have hp : p.length ≤ s.length := (List.isPrefixOf_iff_prefix.1 (show p.isPrefixOf s = true from hb)).length_le
  have HR : Hid (s.drop p.length = Lib.trimPrefix s p) := hid (by unfold Lib.trimPrefix; rw [hb]; rfl)
  rw [hb] at H
  have HP := hid hp
  obtain ⟨S, hS⟩ : ∃ S, sb s = S := ⟨_, rfl⟩
  obtain ⟨Q, hQ⟩ : ∃ Q, sb p = Q := ⟨_, rfl⟩
  obtain ⟨m, hm⟩ : ∃ m, p.length = m := ⟨_, rfl⟩
  have hqz : (Q.size : Int) = m := by rw [← hQ, sb_size, hm]
  have HS := hid hS; have HM := hid hm
  rw [hS, hQ] at H ⊢
  clear hb hp hS hQ hs hm
  go_enter Tryz.func184, Tryz.ntmps184
  go_wp2_with fail
  refine H.out.mono ?_
  rintro e w' ⟨rfl, rfl⟩
  go_wp2_with (first
   | ((with_reducible refine K.atO (.slice 9 _ _ _ _) ?_); refine wpL_valZ rfl (.string (sb (Lib.trimPrefix s p))) (by rw [← HR.out, HM.out]; rw [← HS.out]; exact exec_from _ _ rfl s m rfl (by go_simp) (by rw [← HM.out]; exact HP.out) _ rfl _) ?_))
  go_ret2
  exact ⟨rfl, Fr.refl _ _⟩
theorem cutPre_any (s p : B) (hs : Sz s) (w : World) : Calls Tryz.prog 146 #[.string (sb s), .string (sb p)] w fun e w' => e = .returned (.tuple #[.string (sb (Lib.trimPrefix s p)), .bool (Lib.hasPrefix s p)]) ∧ Fr No w w' := by
 have H := hid (sliteCutPre_any s p hs w)
 clear hs
 go_enter Tryz.func146, Tryz.ntmps146
 go_wp2_with fail
 refine H.out.mono ?_
 rintro e w' ⟨rfl, f⟩
 have HF := hid f
 clear f
 go_wp2_with fail
 go_ret2
 exact ⟨rfl, HF.out⟩
end Go.Proofs.YtgbiicipkbpmeaaGreatDoor.FT
namespace Go.Proofs.YtgbiicipkbpmeaaGreatDoor.SC
set_option maxRecDepth 100000
set_option maxHeartbeats 128000000
open Go.RowKit K BE DN
def Cnt (f : B → Option Int) (seen : List B) : Prop := ∀ x, (f x).getD 0 = if x ∈ seen then 1 else 0
theorem Cnt.step {f : B → Option Int} {seen : List B} {x : B} (h : Cnt f seen) (hx : x ∉ seen) : Cnt (updM f x 1) (seen ++ [x]) := by
 intro y
 unfold updM
 by_cases hy : y = x
 ·subst hy; simp
 ·rw [if_neg hy, h y]
  simp [hy]
theorem LsIn.at_ {S : Nat → Prop} {w : World} {v : Value} {l : List B} (h : LsIn S w v l) {i : Nat} {x : B} (hx : l[i]? = some x) : ∃ g o cap, v = .slice (some ⟨g, o, none⟩) l.length cap ∧ w.cell? ⟨g, o + i, none⟩ = some (.string (sb x)) ∧ Sz x := by
 obtain ⟨g, o, cap, c, e1, -, -, hr, -, hp⟩ := Sl.get h hx
 obtain ⟨rfl, hz⟩ := hp
 refine ⟨g, o, cap, e1, ?_, hz⟩
 have := hr 0 _ rfl
 simpa using this
theorem exec_lookV {op : Oper} {a : Act} {w : World} (x y : Operand) (ho : op.op = .lookup 69 x y false) (b n : Nat) (f : B → Option Int) (hx : a.eval x = .map (some b)) (s : B) (hy : a.eval y = .string (sb s)) (h : MpI w b n f) (hs : Sz s) (c : Int) (hc : (f s).getD 0 = c) :
  (execOp a.eval op).run Tryz.prog w = .ok (.value (.int .i64 c)) w := by
 rw [← hc]
 exact exec_look1 x y ho b n f hx s hy h hs
theorem checkValues_any {S : Nat → Prop} (t : Ty) (v : Value) (vs : List B) (w : World) (h : LsIn S w v vs) (hG : Gs w) :
  Calls Tryz.prog 47 #[.agg (tyV t).toArray, v] w fun e w' => e = .returned (.int .i64 (chkVals t vs)) ∧ Fr No w w' := by
 have HX := hid h; have HG := hid hG
 obtain ⟨a, cp, rfl, hcap, hl⟩ := h.form
 obtain ⟨R, hR⟩ : ∃ R, chkVals t vs = R := ⟨_, rfl⟩
 rw [hR]
 have HR := hid hR
 obtain ⟨n, hn⟩ : ∃ n, vs.length = n := ⟨_, rfl⟩
 have HNN := hid hn
 rw [hn] at HX hcap hl ⊢
 have hni : (n : Int) ≤ 140737488351232 := by omega
 have HL := hid hl
 clear h hG hR hn hcap hl
 by_cases h0 : n = 0
 ·obtain rfl : R = 132 := by
   have h := HR.out
   unfold chkVals at h
   rw [if_pos (List.eq_nil_of_length_eq_zero (by rw [HNN.out]; exact h0))] at h
   exact h.symm
  subst h0
  go_enter Tryz.func47, Tryz.ntmps47
  go_wp2_with (first
   | ((with_reducible refine K.atO (.box 53 _) ?_); refine wpL_box rfl _ _ rfl _ rfl (tyV t) rfl ?_; intro w1 HB1 HF1 HS1))
  go_ret
  exact ⟨rfl, HF1.out⟩
 have h0b : ((n : Int) == 0) = false := by rw [beq_eq_false_iff_ne]; omega
 obtain ⟨O, hO⟩ : ∃ O, okVals t.syn [] vs = O := ⟨_, rfl⟩
 have HO : Hid (okVals t.syn [] (vs.drop 0) = O) := hid hO
 have HR2 : Hid ((if O = true then (if t.one = true ∧ 1 < n then 136 else 0) else (132 : Int)) = R) := hid (by
  have h := HR.out
  unfold chkVals at h
  rw [if_neg (by intro e; rw [e] at HNN; exact h0 HNN.out.symm), hO, HNN.out] at h
  exact h)
 clear hO h0
 go_enter Tryz.func47, Tryz.ntmps47
 go_wp2_with (first
  | ((with_reducible refine K.atO (.box 53 _) ?_); refine wpL_box rfl _ _ rfl _ rfl (tyV t) rfl ?_; intro w1 HB1 HF1 HS1)
  | ((with_reducible refine K.atO (.makeMap _ _) ?_); refine wpL_makeMap rfl _ rfl ?_; intro w2 HM2 HF2 HS2))
 obtain ⟨b, hb⟩ : ∃ b, w.heap.size = b := ⟨_, rfl⟩
 obtain ⟨bm, hbm⟩ : ∃ b, w1.heap.size = b := ⟨_, rfl⟩
 have HBM := hid (show b < bm ∧ bm < w2.heap.size ∧ w.heap.size = b from ⟨by have := HS1.out; omega, by have := HS2.out; omega, hb⟩)
 rw [hb] at HB1 ⊢
 rw [hbm] at HM2 ⊢
 have HB2 := hid (HB1.out.fr HF2.out id)
 have HFR2 := hid (HF1.out.trans' HF2.out)
 clear hb hbm HB1 HF1 HS1 HF2 HS2 h0b
 go_loopw [16] (fun iv wr => ∃ (i : Nat) (f : B → Option Int) (seen : List B), iv = .int .i64 i ∧ i ≤ n ∧ Hid (MpI wr bm i f ∧ Cnt f seen) ∧ Hid (okVals t.syn seen (vs.drop i) = O) ∧ Hid (Blk wr b 53 (tyV t) ∧ Fr No w wr ∧ bm < wr.heap.size)) (fun iv _ => n - (intOf iv).toNat)
 case atStart => exact ⟨0, _, [], rfl, Nat.zero_le _, hid ⟨HM2.out, fun x => by simp⟩, HO, hid ⟨HB2.out, HFR2.out, HBM.out.2.1⟩⟩
 case round =>
  obtain ⟨i, f, seen, rfl, hi, HM, HT, HI⟩ := hrel
  by_cases hlt : i < n
  ·obtain ⟨x, hx⟩ : ∃ x, vs[i]? = some x := ⟨_, List.getElem?_eq_getElem (by rw [HNN.out]; exact hlt)⟩
   have hlti : (i : Int) < n := by omega
   have hi0 : (0 : Int) ≤ i := by omega
   obtain ⟨g, o, cq, e1, hc, hz⟩ := (LsIn.fr (D := No) HX.out HI.out.2.1 (fun _ _ _ e => e)).at_ hx
   rw [HNN.out] at e1
   obtain ⟨rfl, rfl⟩ := K.sj e1
   have HZ := hid hz
   obtain ⟨hdrop, -⟩ := drop_at hx
   have HT2 : Hid ((match normV t.syn x with | none => false | some y => !(seen.contains y) && okVals t.syn (seen ++ [y]) (vs.drop (i + 1))) = O) := hid (by
    have h := HT.out
    rw [hdrop] at h
    exact h)
   have HLT := hid hlt
   have c1 : wr.cell? ⟨b, 1, none⟩ = some (.int .i64 t.syn) := HI.out.1.cell 1
   clear hz hx hdrop HT hi hlt
   go_wp2_with fail
   refine (normOf_any t.syn x HZ.out wr (HG.out.no HI.out.2.1)).mono ?_
   rintro e w3 ⟨⟨y, rfl, hy, hxy⟩, f3⟩
   have HY := hid (show Sz y ∧ ∀ z, normV t.syn x = some z → y = z from ⟨hy, hxy⟩)
   have HF3 := hid f3
   have HM3 := hid (HM.out.1.fr f3 id)
   clear hy hxy f3 c1 hc
   obtain ⟨c, hc⟩ : ∃ c, (f y).getD 0 = c := ⟨_, rfl⟩
   have HC := hid hc
   have hc01 : 0 ≤ c ∧ c ≤ 1 := by
    have := HM.out.2 y
    rw [hc] at this
    split at this <;> omega
   obtain ⟨hc0, hc1⟩ := hc01
   obtain ⟨NO, hNO⟩ : ∃ NO, normV t.syn x = NO := ⟨_, rfl⟩
   have HNO := hid hNO
   obtain ⟨OK, hOK⟩ : ∃ OK, (normV t.syn x).isSome = OK := ⟨_, rfl⟩
   have HOK := hid hOK
   rw [hOK]
   clear hc hNO hOK
   cases OK with
   | false =>
    obtain rfl : O = false := by
     have h := HT2.out
     have h2 := HOK.out
     rw [Option.isSome_eq_false_iff, Option.isNone_iff_eq_none] at h2
     rw [h2] at h
     exact h.symm
    obtain rfl : R = 132 := by have h := HR2.out; simp at h; exact h.symm
    go_wp2_with (first
     | ((with_reducible refine K.atO (.lookup _ _ _ _) ?_); refine wpL_valZ rfl (.int .i64 c) (by rw [← HC.out]; exact exec_look1 _ _ rfl bm i f rfl y rfl HM3.out HY.out.1) ?_)
     | ((with_reducible refine K.atO (.mapUpdate _ _ _ _) ?_); refine wpL_upd rfl _ _ _ rfl bm i f rfl y (c + 1) rfl (by go_simp) HM3.out HY.out.1 (by have := HLT.out; have := HL.out; omega) ?_; intro w4 HM4 HF4))
    go_ret
    have hf := (HI.out.2.1.trans' HF3.out).trans HF4.out (fun k e => .inr (by have e : k = bm := e; have := HBM.out; omega))
    exact ⟨rfl, hf⟩
   | true =>
    obtain ⟨z, hz⟩ := Option.isSome_iff_exists.1 HOK.out
    obtain rfl : y = z := HY.out.2 z hz
    have HT3 : Hid ((!(seen.contains y) && okVals t.syn (seen ++ [y]) (vs.drop (i + 1))) = O) := hid (by have h := HT2.out; rw [hz] at h; exact h)
    clear hz
    by_cases hs : y ∈ seen
    ·obtain rfl : O = false := by have h := HT3.out; rw [List.contains_iff_mem.2 hs] at h; exact h.symm
     obtain rfl : R = 132 := by have h := HR2.out; simp at h; exact h.symm
     obtain rfl : c = 1 := by have := HM.out.2 y; rw [HC.out, if_pos hs] at this; exact this
     clear hs
     go_wp2_with (first
      | ((with_reducible refine K.atO (.lookup _ _ _ _) ?_); (fail_if_success (have := HM4)); refine wpL_valZ rfl (.int .i64 1) (by rw [← HC.out]; exact exec_look1 _ _ rfl bm i f rfl y rfl HM3.out HY.out.1) ?_)
      | ((with_reducible refine K.atO (.mapUpdate _ _ _ _) ?_); refine wpL_upd rfl _ _ _ rfl bm i f rfl y 2 rfl (by go_simp) HM3.out HY.out.1 (by have := HLT.out; have := HL.out; omega) ?_; intro w4 HM4 HF4)
      | ((with_reducible refine K.atO (.lookup _ _ _ _) ?_); refine wpL_valZ rfl (.int .i64 2) (exec_lookV _ _ rfl bm (i + 1) (updM f y 2) rfl y rfl HM4.out HY.out.1 2 (by simp [updM])) ?_))
     go_ret
     have hf := (HI.out.2.1.trans' HF3.out).trans HF4.out (fun k e => .inr (by have e : k = bm := e; have := HBM.out; omega))
     exact ⟨rfl, hf⟩
    ·have HT4 : Hid (okVals t.syn (seen ++ [y]) (vs.drop (i + 1)) = O) := hid (by
      have h := HT3.out
      have hcn : seen.contains y = false := by
       rw [Bool.eq_false_iff]
       intro e
       exact hs (List.contains_iff_mem.1 e)
      rw [hcn] at h
      exact h)
     obtain rfl : c = 0 := by have := HM.out.2 y; rw [HC.out, if_neg hs] at this; exact this
     have HCN := hid (HM.out.2.step hs)
     clear hs
     go_wp2_with (first
      | ((with_reducible refine K.atO (.lookup _ _ _ _) ?_); (fail_if_success (have := HM4)); refine wpL_valZ rfl (.int .i64 0) (by rw [← HC.out]; exact exec_look1 _ _ rfl bm i f rfl y rfl HM3.out HY.out.1) ?_)
      | ((with_reducible refine K.atO (.mapUpdate _ _ _ _) ?_); refine wpL_upd rfl _ _ _ rfl bm i f rfl y 1 rfl (by go_simp) HM3.out HY.out.1 (by have := HLT.out; have := HL.out; omega) ?_; intro w4 HM4 HF4)
      | ((with_reducible refine K.atO (.lookup _ _ _ _) ?_); refine wpL_valZ rfl (.int .i64 1) (exec_lookV _ _ rfl bm (i + 1) (updM f y 1) rfl y rfl HM4.out HY.out.1 1 (by simp [updM])) ?_))
     have HF' : Hid (Fr No w w4 ∧ bm < w4.heap.size) := hid ⟨(HI.out.2.1.trans' HF3.out).trans HF4.out (fun k e => .inr (by have e : k = bm := e; have := HBM.out; omega)), by have := HI.out.2.2; have := HF3.out.size; have := HF4.out.size; omega⟩
     have HB' : Hid (Blk w4 b 53 (tyV t)) := hid ((HI.out.1.fr HF3.out id).fr HF4.out (by show ¬ b = bm; have := HBM.out; omega))
     refine ⟨⟨i + 1, _, _, by go_num, HLT.out, hid ⟨HM4.out, HCN.out⟩, HT4, hid ⟨HB'.out, HF'.out.1, HF'.out.2⟩⟩, ?_⟩
     have := HLT.out
     simp [intOf]; omega
  ·obtain rfl : i = n := by omega
   obtain rfl : O = true := by
    have h := HT.out
    rw [← HNN.out, List.drop_length] at h
    exact h.symm
   have c2 : wr.cell? ⟨b, 2, none⟩ = some (.bool t.one) := HI.out.1.cell 2
   obtain ⟨p, hp⟩ : ∃ p, t.one = p := ⟨_, rfl⟩
   rw [hp] at c2
   have HP := hid hp
   clear hp hi hlt
   have HR3 : Hid ((if p = true ∧ 1 < i then (136 : Int) else 0) = R) := hid (by have h := HR2.out; rw [if_pos rfl, HP.out] at h; exact h)
   cases p with
   | false =>
    obtain rfl : R = 0 := by have h := HR3.out; simp at h; exact h.symm
    go_wp2_with fail
    go_ret
    exact ⟨rfl, HI.out.2.1⟩
   | true =>
    by_cases h1 : 1 < i
    ·obtain rfl : R = 136 := by have h := HR3.out; rw [if_pos ⟨rfl, h1⟩] at h; exact h.symm
     have h1i : decide ((1 : Int) < i) = true := decide_eq_true (by omega)
     clear h1
     go_wp2_with fail
     go_ret
     exact ⟨rfl, HI.out.2.1⟩
    ·obtain rfl : R = 0 := by have h := HR3.out; rw [if_neg (fun e => h1 e.2)] at h; exact h.symm
     have h1i : decide ((1 : Int) < i) = false := decide_eq_false (by omega)
     clear h1
     go_wp2_with fail
     go_ret
     exact ⟨rfl, HI.out.2.1⟩
end Go.Proofs.YtgbiicipkbpmeaaGreatDoor.SC
