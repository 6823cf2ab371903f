/-
  Part 17 of the proof: FtD, SdU, FtO, FtS, FtK, FtL.
-/
import Derived.Test.YtdkkpfeiaaffhaaGreatDoorFa16
import Derived.Lib.Strings
import Derived.Lib.IndexMore
import Derived.Lib.TrimByte
import Derived.Test.YtdkkpfeiaaffhaaGreatDoorFa05
import Derived.Shelf.Strings.Cut
import Derived.Shelf.Strings.Prefix
import Derived.Shelf.Strings.Trim
set_option linter.unusedSimpArgs false
set_option linter.unusedVariables false
namespace Go.Proofs.YtdkkpfeiaaffhaaGreatDoor.FT
set_option maxRecDepth 100000
open Go.Proofs.YtdkkpfeiaaffhaaGreatDoor.BE Go.Proofs.YtdkkpfeiaaffhaaGreatDoor.DN Go.Proofs.YtdkkpfeiaaffhaaGreatDoor.SC

/-- A filter. -/
inductive Fl where
  | mk (kind : Int) (kids : List Fl) (type value first : B) (any : List B) (last : B)
def Fl.kind : Fl → Int | .mk k _ _ _ _ _ _ => k
def Fl.kids : Fl → List Fl | .mk _ k _ _ _ _ _ => k
def Fl.type : Fl → B | .mk _ _ t _ _ _ _ => t
def Fl.value : Fl → B | .mk _ _ _ v _ _ _ => v
def Fl.first : Fl → B | .mk _ _ _ _ f _ _ => f
def Fl.any : Fl → List B | .mk _ _ _ _ _ a _ => a
def Fl.last : Fl → B | .mk _ _ _ _ _ _ l => l
def fl0 : Fl := .mk 0 [] [] [] [] [] []
/-! ### Three values -/
def opp (r : Int) : Int := if r = 0 then 1 else if r = 1 then 0 else 2
def truI (b : Bool) : Int := if b then 1 else 0
/-- One result decides; without it the unknown ones count. -/
def joinE (dec : Int) : Int → List Int → Int
  | res, [] => res
  | res, r :: t => if r = dec then dec else joinE dec (if r = 2 then 2 else res) t
/-! ### Parts -/
/-- Blanks behind a blank are left out. -/
def sqF : Bool → B → B
  | _, [] => []
  | b, c :: r => if c = 32 then (if b then sqF true r else 32 :: sqF true r) else c :: sqF false r
def squeeze (s : B) : B := sqF false (low s)
def trimL (s : B) : B := Lib.trimLeftB s 32
def trimR (s : B) : B := Lib.trimRightB s 32
/-- What the first occurrences leave. -/
def cutAll : B → List B → Option B
  | r, [] => some r
  | r, p :: t => if (Lib.cut r p).2.2 then cutAll (Lib.cut r p).2.1 t else none
def hasP (text first : B) (any : List B) (last : B) : Bool :=
  Lib.hasPrefix text first && (match cutAll (Lib.trimPrefix text first) any with | none => false | some r => Lib.hasSuffix r last)
/-! ### Leaves -/
def tyN (s : Sch) (n : B) : Option Ty := (s.tyAt n).bind fun i => s.tys[i]?
def hasSyn (s : Sch) (n : B) (L : List Int) : Bool := match tyN s n with | none => false | some t => L.contains t.syn
def attrOf (s : Sch) (en : Ent) (nm : B) : Option Atr := en.find? fun a => match tyN s a.1 with | none => false | some t => decide (t.nm = nm)
/-- The values of an entry's attribute of a type. -/
def valsOf (s : Sch) (en : Ent) (n : B) : List B := match tyN s n with | none => [] | some t => match attrOf s en t.nm with | none => [] | some a => a.2
def isOrd (kind o : Int) : Bool := if kind = 5 then decide (0 ≤ o) else if kind = 6 then decide (o ≤ 0) else decide (o = 0)
def evPres (s : Sch) (en : Ent) (n : B) : Int := match tyN s n with | none => 2 | some t => truI (attrOf s en t.nm).isSome
def evOrd (s : Sch) (en : Ent) (kind : Int) (n v : B) : Int :=
  if (normE s n v).2 = 0 then truI ((valsOf s en n).any fun x => decide ((cmpE s n x v).2 = 0) && isOrd kind (cmpE s n x v).1) else 2
def evParts (s : Sch) (en : Ent) (n first : B) (any : List B) (last : B) : Int :=
  if hasSyn s n [1] then truI ((valsOf s en n).any fun x => hasP (fold x) (trimL (squeeze first)) (any.map squeeze) (trimR (squeeze last)))
  else truI ((valsOf s en n).any fun x => hasP x first any last)
def leaf (s : Sch) (en : Ent) (f : Fl) : Int :=
  if f.kind = 5 ∨ f.kind = 6 then (if hasSyn s f.type [1, 2, 3] then evOrd s en f.kind f.type f.value else 2)
  else if f.kind = 3 then evOrd s en f.kind f.type f.value
  else if f.kind = 4 then (if hasSyn s f.type [1, 2] then evParts s en f.type f.first f.any f.last else 2)
  else if f.kind = 7 then evPres s en f.type
  else 2
/-- What a filter comes to, so deep. -/
def evF (s : Sch) (en : Ent) : Nat → Fl → Int
  | 0, _ => 2
  | d + 1, f =>
    if f.kind = 0 then joinE 0 1 (f.kids.map (evF s en d))
    else if f.kind = 1 then joinE 1 0 (f.kids.map (evF s en d))
    else if f.kind = 2 then (match f.kids with | [] => 2 | k :: _ => opp (evF s en d k))
    else leaf s en f
/-! ### Three values are a logic -/
def Tri (r : Int) : Prop := r = 0 ∨ r = 1 ∨ r = 2
theorem opp_tri (r : Int) : Tri (opp r) := by unfold opp Tri; split; · simp
                                              · split <;> simp
theorem tru_tri (b : Bool) : Tri (truI b) := by cases b <;> simp [truI, Tri]
theorem joinE_tri (dec : Int) : ∀ (L : List Int) (res : Int), Tri dec → Tri res → Tri (joinE dec res L)
  | [], _, _, h => h
  | r :: t, res, hd, h => by
    unfold joinE
    split
    · exact hd
    · refine joinE_tri dec t _ hd ?_
      split
      · exact .inr (.inr rfl)
      · exact h
theorem evOrd_tri (s : Sch) (en : Ent) (k : Int) (n v : B) : Tri (evOrd s en k n v) := by
  unfold evOrd
  split
  · exact tru_tri _
  · exact .inr (.inr rfl)
theorem leaf_tri (s : Sch) (en : Ent) (f : Fl) : Tri (leaf s en f) := by
  have h2 : Tri 2 := .inr (.inr rfl)
  unfold leaf
  split
  · split
    · exact evOrd_tri _ _ _ _ _
    · exact h2
  · split
    · exact evOrd_tri _ _ _ _ _
    · split
      · split
        · unfold evParts; split <;> exact tru_tri _
        · exact h2
      · split
        · unfold evPres; split
          · exact h2
          · exact tru_tri _
        · exact h2
theorem evF_tri (s : Sch) (en : Ent) : ∀ (d : Nat) (f : Fl), Tri (evF s en d f)
  | 0, _ => .inr (.inr rfl)
  | d + 1, f => by
    unfold evF
    split
    · exact joinE_tri 0 _ _ (.inl rfl) (.inr (.inl rfl))
    · split
      · exact joinE_tri 1 _ _ (.inr (.inl rfl)) (.inl rfl)
      · split
        · split
          · exact .inr (.inr rfl)
          · exact opp_tri _
        · exact leaf_tri s en f
theorem joinE_eq (dec : Int) (hd : dec ≠ 2) : ∀ (L : List Int) (res : Int), joinE dec res L = if dec ∈ L then dec else if 2 ∈ L then 2 else res
  | [], res => by simp [joinE]
  | r :: t, res => by
    unfold joinE
    by_cases h : r = dec
    · rw [if_pos h, if_pos (show dec ∈ r :: t by rw [h]; exact List.mem_cons_self)]
    · rw [if_neg h, joinE_eq dec hd t]
      have e1 : dec ∈ r :: t ↔ dec ∈ t := ⟨fun hm => (List.mem_cons.1 hm).resolve_left fun e => h e.symm, List.mem_cons_of_mem _⟩
      by_cases h1 : dec ∈ t
      · rw [if_pos h1, if_pos (e1.2 h1)]
      · rw [if_neg h1, if_neg (fun hm => h1 (e1.1 hm))]
        by_cases h2 : r = 2
        · rw [if_pos h2, if_pos (show (2 : Int) ∈ r :: t by rw [h2]; exact List.mem_cons_self)]
          split <;> rfl
        · rw [if_neg h2]
          have e2 : (2 : Int) ∈ r :: t ↔ (2 : Int) ∈ t := ⟨fun hm => (List.mem_cons.1 hm).resolve_left fun e => h2 e.symm, List.mem_cons_of_mem _⟩
          by_cases h3 : (2 : Int) ∈ t
          · rw [if_pos h3, if_pos (e2.2 h3)]
          · rw [if_neg h3, if_neg (fun hm => h3 (e2.1 hm))]
/-- In which order kids stand does not matter, nor whether one stands twice. -/
theorem joinE_back (dec res : Int) (hd : dec ≠ 2) (L : List Int) : joinE dec res L.reverse = joinE dec res L := by
  rw [joinE_eq dec hd, joinE_eq dec hd]
  simp
theorem joinE_twice (dec res : Int) (hd : dec ≠ 2) (L : List Int) : joinE dec res (L ++ L) = joinE dec res L := by
  rw [joinE_eq dec hd, joinE_eq dec hd]
  simp
/-- At most so deep. -/
def shal : Nat → Fl → Bool
  | 0, _ => false
  | d + 1, f => f.kids.all (shal d)
theorem shal_ev (s : Sch) (en : Ent) : ∀ (k d e : Nat) (f : Fl), shal k f = true → k ≤ d → k ≤ e → evF s en d f = evF s en e f
  | 0, _, _, _, h, _, _ => by cases h
  | k + 1, 0, _, _, _, h, _ => by omega
  | k + 1, d + 1, 0, _, _, _, h => by omega
  | k + 1, d + 1, e + 1, f, h, h1, h2 => by
    unfold shal at h
    rw [List.all_eq_true] at h
    have hm : f.kids.map (evF s en d) = f.kids.map (evF s en e) := List.map_congr_left fun x hx => shal_ev s en k d e x (h x hx) (by omega) (by omega)
    unfold evF
    rw [hm]
    cases hk : f.kids with
    | nil => rfl
    | cons x r =>
      have := shal_ev s en k d e x (h x (by rw [hk]; exact List.mem_cons_self)) (by omega) (by omega)
      simp only [this]
theorem nots_ok (a b : Int) (ha : Tri a) (hb : Tri b) : opp (opp a) = a ∧ opp (joinE 0 1 [a, b]) = joinE 1 0 [opp a, opp b] := by
  rcases ha with rfl | rfl | rfl <;> rcases hb with rfl | rfl | rfl <;> decide
end Go.Proofs.YtdkkpfeiaaffhaaGreatDoor.FT

namespace Go.Proofs.YtdkkpfeiaaffhaaGreatDoor.SC
set_option maxRecDepth 100000
open Go.Proofs.YtdkkpfeiaaffhaaGreatDoor.BE Go.Proofs.YtdkkpfeiaaffhaaGreatDoor.DN

theorem idx_app {α : Type} (p r : List α) (q : α → Bool) : (∃ j, p.findIdx? q = some j ∧ j < p.length ∧ idxI (p ++ r) q = (j : Int)) ∨ (p.findIdx? q = none ∧ (idxI (p ++ r) q = -1 ∨ (p.length : Int) ≤ idxI (p ++ r) q)) := by
  unfold idxI
  rw [List.findIdx?_append]
  cases h : p.findIdx? q with
  | some j =>
    left
    obtain ⟨hl, -⟩ := List.findIdx?_eq_some_iff_getElem.1 h
    exact ⟨j, rfl, hl, rfl⟩
  | none =>
    right
    refine ⟨rfl, ?_⟩
    cases hr : r.findIdx? q with
    | none => left; rfl
    | some k => right; simp only [Option.map_some, Option.none_or]; omega
theorem fnd_ty (X : List Ty) (m : B) : fnd (X.map (·.nm)) m = X.findIdx? fun a => low a.nm == low m := by
  unfold fnd
  rw [List.findIdx?_map]
  rfl
theorem fnd_cl (X : List Cl) (m : B) : fnd (X.map (·.nm)) m = X.findIdx? fun a => low a.nm == low m := by
  unfold fnd
  rw [List.findIdx?_map]
  rfl
theorem new_at {α : Type} (p r : List α) (t : α) (q : α → Bool) (ht : q t = true) : (p.findIdx? q).isNone = decide (idxI (p ++ t :: r) q = (p.length : Int)) := by
  have h0 := idx_app p (t :: r) q
  cases hp : p.findIdx? q with
  | some j =>
    rw [hp] at h0
    rcases h0 with ⟨k, e, hl, h⟩ | ⟨h, -⟩
    · rw [h, decide_eq_false (by omega)]
      rfl
    · cases h
  | none =>
    have : idxI (p ++ t :: r) q = (p.length : Int) := by
      unfold idxI
      rw [List.findIdx?_append, hp, List.findIdx?_cons, if_pos ht]
      simp
    rw [this, decide_eq_true rfl]
    rfl
def rT (X : List Ty) (i : Nat) (t : Ty) : Bool := typ t.nm && decide (idxI X (fun a => low a.nm == low t.nm) = (i : Int)) && (decide (1 ≤ t.syn) && decide (t.syn ≤ 5))
def supI (X : List Cl) (i : Nat) (c : Cl) : Bool :=
  if c.sup = [] then true else
  decide (0 ≤ idxI X fun a => low a.nm == low c.sup) && decide ((idxI X fun a => low a.nm == low c.sup) < i) && (match X[(idxI X fun a => low a.nm == low c.sup).toNat]? with | none => false | some d => d.kind == 0 || d.kind == c.kind)
def isIn (X : List Ty) (l : List B) : Bool := l.all fun x => decide (0 ≤ idxI X fun a => low a.nm == low x)
def rC (T : List Ty) (X : List Cl) (i : Nat) (c : Cl) : Bool := typ c.nm && decide (idxI X (fun a => low a.nm == low c.nm) = (i : Int)) && (decide (0 ≤ c.kind) && decide (c.kind ≤ 2)) && isIn T c.must && isIn T c.may && supI X i c
theorem has_in (T : List Ty) (l : List B) : has (T.map (·.nm)) l = isIn T l := by
  unfold has isIn
  refine congrArg (fun f => l.all f) (funext fun m => ?_)
  rw [fnd_ty]
  unfold idxI
  cases T.findIdx? fun a => low a.nm == low m with
  | none => rfl
  | some j => simp
theorem rTy_iff (X : List Ty) : ∀ (r p : List Ty), X = p ++ r → (rTy (p.map (·.nm)) r = true ↔ ∀ j t, r[j]? = some t → rT X (p.length + j) t = true)
  | [], p, _ => ⟨fun _ j t h => by simp at h, fun _ => rfl⟩
  | t :: r, p, h => by
    have ih := rTy_iff X r (p ++ [t]) (by rw [h, List.append_assoc]; rfl)
    rw [List.map_append, List.map_singleton, List.length_append, List.length_singleton] at ih
    have hn : newN (p.map (·.nm)) t.nm = (typ t.nm && decide (idxI X (fun a => low a.nm == low t.nm) = (p.length : Int))) := by
      unfold newN
      rw [fnd_ty, h, new_at p r t (fun a => low a.nm == low t.nm) (beq_self_eq_true _)]
    have e : rTy (p.map (·.nm)) (t :: r) = (rT X p.length t && rTy (p.map (·.nm) ++ [t.nm]) r) := by
      show (newN (p.map (·.nm)) t.nm && (decide (1 ≤ t.syn) && decide (t.syn ≤ 5)) && rTy (p.map (·.nm) ++ [t.nm]) r) = _
      rw [hn]
      rfl
    rw [e, Bool.and_eq_true, ih]
    constructor
    · rintro ⟨h1, h2⟩ j x hx
      cases j with
      | zero => cases hx; exact h1
      | succ j =>
        have := h2 j x hx
        rwa [show p.length + 1 + j = p.length + (j + 1) by omega] at this
    · intro hh
      refine ⟨hh 0 t rfl, fun j x hx => ?_⟩
      have := hh (j + 1) x hx
      rwa [show p.length + (j + 1) = p.length + 1 + j by omega] at this
theorem sup_iff (X r p : List Cl) (h : X = p ++ r) (c : Cl) : supOk p c = supI X p.length c := by
  unfold supOk supI
  by_cases h0 : c.sup = []
  · rw [if_pos h0, if_pos h0]
  · rw [if_neg h0, if_neg h0, fnd_cl]
    have h1 := idx_app p r (fun a => low a.nm == low c.sup)
    rw [← h] at h1
    cases hp : p.findIdx? fun a => low a.nm == low c.sup with
    | none =>
      rw [hp] at h1
      rcases h1 with ⟨j, e, -⟩ | ⟨-, h1 | h1⟩
      · cases e
      · rw [h1, decide_eq_false (by decide)]
        rfl
      · rw [decide_eq_false (show ¬ (idxI X fun a => low a.nm == low c.sup) < (p.length : Int) by omega), Bool.and_false]
        rfl
    | some j =>
      rw [hp] at h1
      rcases h1 with ⟨k, e, hl, h1⟩ | ⟨e, -⟩
      · cases e
        rw [h1, decide_eq_true (by omega), decide_eq_true (by omega)]
        have : X[(j : Int).toNat]? = p[j]? := by rw [Int.toNat_natCast, h, List.getElem?_append_left hl]
        rw [this]
        rfl
      · cases e
theorem rCl_iff (T : List Ty) (X : List Cl) : ∀ (r p : List Cl), X = p ++ r → (rCl (T.map (·.nm)) p r = true ↔ ∀ j t, r[j]? = some t → rC T X (p.length + j) t = true)
  | [], p, _ => ⟨fun _ j t h => by simp at h, fun _ => rfl⟩
  | t :: r, p, h => by
    have ih := rCl_iff T X r (p ++ [t]) (by rw [h, List.append_assoc]; rfl)
    rw [List.length_append, List.length_singleton] at ih
    have hn : newN (p.map (·.nm)) t.nm = (typ t.nm && decide (idxI X (fun a => low a.nm == low t.nm) = (p.length : Int))) := by
      unfold newN
      rw [fnd_cl, h, new_at p r t (fun a => low a.nm == low t.nm) (beq_self_eq_true _)]
    have e : rCl (T.map (·.nm)) p (t :: r) = (rC T X p.length t && rCl (T.map (·.nm)) (p ++ [t]) r) := by
      show (newN (p.map (·.nm)) t.nm && (decide (0 ≤ t.kind) && decide (t.kind ≤ 2)) && supOk p t && has (T.map (·.nm)) t.must && has (T.map (·.nm)) t.may && rCl (T.map (·.nm)) (p ++ [t]) r) = _
      rw [hn, has_in, has_in, sup_iff X (t :: r) p h]
      unfold rC
      generalize typ t.nm = a
      generalize decide (idxI X (fun a => low a.nm == low t.nm) = (p.length : Int)) = b
      generalize (decide (0 ≤ t.kind) && decide (t.kind ≤ 2)) = d
      generalize isIn T t.must = f
      generalize isIn T t.may = g
      generalize supI X p.length t = k
      generalize rCl (T.map (·.nm)) (p ++ [t]) r = l
      revert a b d f g k l
      decide
    rw [e, Bool.and_eq_true, ih]
    constructor
    · rintro ⟨h1, h2⟩ j x hx
      cases j with
      | zero => cases hx; exact h1
      | succ j =>
        have := h2 j x hx
        rwa [show p.length + 1 + j = p.length + (j + 1) by omega] at this
    · intro hh
      refine ⟨hh 0 t rfl, fun j x hx => ?_⟩
      have := hh (j + 1) x hx
      rwa [show p.length + (j + 1) = p.length + 1 + j by omega] at this
/-- Which schemas may be: the bounds, the first type, each type, each class. -/
theorem okS_iff (s : Sch) : okS s = true ↔ (1 ≤ s.tys.length ∧ s.tys.length ≤ 40 ∧ s.cls.length ≤ 20) ∧ (∀ t, s.tys[0]? = some t → rFirst t = true) ∧ (∀ i t, s.tys[i]? = some t → rT s.tys i t = true) ∧ ∀ i c, s.cls[i]? = some c → rC s.tys s.cls i c = true := by
  have h1 := rTy_iff s.tys s.tys [] rfl
  have h2 := rCl_iff s.tys s.cls s.cls [] rfl
  simp only [List.map_nil, List.length_nil, Nat.zero_add] at h1 h2
  unfold okS Sch.tn
  simp only [Bool.and_eq_true, decide_eq_true_eq]
  rw [h1, h2]
  cases ht : s.tys with
  | nil =>
    constructor
    · rintro ⟨⟨⟨h, -⟩, -⟩, -⟩
      simp at h
    · rintro ⟨⟨h, -⟩, -⟩
      simp at h
  | cons t r =>
    constructor
    · rintro ⟨⟨⟨a, b⟩, c⟩, ⟨d, e⟩, f⟩
      exact ⟨⟨a, b, c⟩, fun x hx => by cases hx; exact d, e, f⟩
    · rintro ⟨⟨a, b, c⟩, d, e, f⟩
      exact ⟨⟨⟨a, b⟩, c⟩, ⟨d t rfl, e⟩, f⟩
end Go.Proofs.YtdkkpfeiaaffhaaGreatDoor.SC

namespace Go.Proofs.YtdkkpfeiaaffhaaGreatDoor.FT
set_option maxRecDepth 100000
open Go.Proofs.YtdkkpfeiaaffhaaGreatDoor.BE Go.Proofs.YtdkkpfeiaaffhaaGreatDoor.DN Go.Proofs.YtdkkpfeiaaffhaaGreatDoor.SC

theorem tyN_some {s : Sch} {n : B} {t : Ty} (h : tyN s n = some t) : ∃ i, s.tyAt n = some i ∧ s.tys[i]? = some t := by
  unfold tyN at h
  cases hi : s.tyAt n with
  | none => rw [hi] at h; cases h
  | some i => rw [hi, Option.bind_some] at h; exact ⟨i, rfl, h⟩
theorem tyN_of {s : Sch} {n : B} {i : Nat} {t : Ty} (h : s.tyAt n = some i) (ht : s.tys[i]? = some t) : tyN s n = some t := by
  unfold tyN
  rw [h, Option.bind_some, ht]
/-- A type's name leads to it. -/
theorem rT_at {s : Sch} (hk : okS s = true) {i : Nat} {t : Ty} (h : s.tys[i]? = some t) : s.tyAt t.nm = some i ∧ 1 ≤ t.syn ∧ t.syn ≤ 5 := by
  have h2 := ((okS_iff s).1 hk).2.2.1 i t h
  unfold rT at h2
  simp only [Bool.and_eq_true, decide_eq_true_eq] at h2
  refine ⟨?_, h2.2⟩
  have h3 := h2.1.2
  unfold Sch.tyAt Sch.tn
  rw [fnd_ty]
  unfold idxI at h3
  cases hf : s.tys.findIdx? fun a => low a.nm == low t.nm with
  | none => rw [hf] at h3; exact absurd h3 (by simp only []; omega)
  | some j => rw [hf] at h3; simp only [Int.natCast_inj] at h3; rw [h3]
/-- Of an entry that Check lets be, an attribute is the one of its type. -/
theorem attrOf_at {s : Sch} (hk : okS s = true) {en : Ent} (hc : check s en = 0) {k : Nat} {a : Atr} (ha : en[k]? = some a) : ∃ t, tyN s a.1 = some t ∧ attrOf s en t.nm = some a ∧ chkVals t a.2 = 0 := by
  obtain ⟨h1, -⟩ := check_iff.1 hc
  obtain ⟨g1, g2, -⟩ := (chkAts_iff s en none_).1 h1
  obtain ⟨i, t, e1, e2, e3⟩ := g1 a (List.mem_of_getElem? ha)
  refine ⟨t, tyN_of e1 e2, ?_, e3⟩
  obtain ⟨hl, hx⟩ := List.getElem?_eq_some_iff.1 ha
  have hsp : en = en.take k ++ a :: en.drop (k + 1) := by rw [← hx, List.getElem_cons_drop, List.take_append_drop]
  unfold attrOf
  rw [hsp]
  refine find_mid _ _ _ _ (by rw [tyN_of e1 e2]; simp) fun x hx => ?_
  cases hxt : tyN s x.1 with
  | none => rfl
  | some t' =>
    simp only [decide_eq_false_iff_not]
    intro hn
    obtain ⟨j, f1, f2⟩ := tyN_some hxt
    have hj := (rT_at hk f2).1
    have hi := (rT_at hk e2).1
    rw [hn, hi] at hj
    cases hj
    have hpos : pos s en = pos s (en.take k) ++ i :: pos s (en.drop (k + 1)) := by
      conv => lhs; rw [hsp]
      simp [pos, e1]
    rw [hpos, List.nodup_append] at g2
    exact g2.2.2 i (List.mem_filterMap.2 ⟨x, hx, f1⟩) i List.mem_cons_self rfl
theorem okVals_mem (syn : Int) : ∀ (l seen : List B) (v : B), okVals syn seen l = true → v ∈ l → ∃ x, normV syn v = some x
  | [], _, _, _, h => by cases h
  | u :: r, seen, v, h, hv => by
    unfold okVals at h
    cases hu : normV syn u with
    | none => rw [hu] at h; cases h
    | some y =>
      rw [hu] at h
      rcases List.mem_cons.1 hv with rfl | hv
      · exact ⟨y, hu⟩
      · exact okVals_mem syn r _ v (Bool.and_eq_true_iff.1 h).2 hv
theorem normE_of {s : Sch} {n v x : B} {t : Ty} (h : tyN s n = some t) (hx : normV t.syn v = some x) : normE s n v = (x, 0) := by
  unfold tyN at h
  unfold normE
  rw [h]
  simp only [hx]
theorem cmp_self {s : Sch} {n v : B} (h : (normE s n v).2 = 0) : cmpE s n v v = (0, 0) := by
  rw [cmpE_of h h, cmpV_self]
theorem evOrd_own {s : Sch} {en : Ent} {n v : B} (kind : Int) (h : (normE s n v).2 = 0) (hv : v ∈ valsOf s en n) : evOrd s en kind n v = 1 := by
  unfold evOrd
  rw [if_pos h]
  have : ((valsOf s en n).any fun x => decide ((cmpE s n x v).2 = 0) && isOrd kind (cmpE s n x v).1) = true := by
    rw [List.any_eq_true]
    refine ⟨v, hv, ?_⟩
    rw [cmp_self h]
    unfold isOrd
    simp
  rw [this]
  rfl
theorem own_ok {s : Sch} (hk : okS s = true) {en : Ent} (hc : check s en = 0) {k j : Nat} {a : Atr} {v : B} (ha : en[k]? = some a) (hv : a.2[j]? = some v) :
    ∃ t, tyN s a.1 = some t ∧ leaf s en (.mk 3 [] a.1 v [] [] []) = 1 ∧ leaf s en (.mk 5 [] a.1 v [] [] []) = (if 3 < t.syn then 2 else 1) ∧ leaf s en (.mk 6 [] a.1 v [] [] []) = (if 3 < t.syn then 2 else 1) ∧ leaf s en (.mk 7 [] a.1 [] [] [] []) = 1 := by
  obtain ⟨t, h1, h2, h3⟩ := attrOf_at hk hc ha
  have hm := List.mem_of_getElem? hv
  obtain ⟨x, hx⟩ : ∃ x, normV t.syn v = some x := by
    unfold chkVals at h3
    split at h3
    · cases h3
    · split at h3
      · rename_i hok
        exact okVals_mem _ _ _ _ hok hm
      · cases h3
  have hn : (normE s a.1 v).2 = 0 := by rw [normE_of h1 hx]
  have hvs : v ∈ valsOf s en a.1 := by
    unfold valsOf
    rw [h1]
    simp only [h2]
    exact hm
  obtain ⟨i, -, hti⟩ := tyN_some h1
  obtain ⟨-, s1, s5⟩ := rT_at hk hti
  have hsyn : hasSyn s a.1 [1, 2, 3] = decide (t.syn ≤ 3) := by
    unfold hasSyn
    rw [h1]
    simp only [List.contains_eq_mem, List.mem_cons, List.not_mem_nil, or_false]
    exact decide_eq_decide.2 (by omega)
  refine ⟨t, h1, ?_, ?_, ?_, ?_⟩
  · show evOrd s en 3 a.1 v = 1
    exact evOrd_own 3 hn hvs
  · show (if hasSyn s a.1 [1, 2, 3] then evOrd s en 5 a.1 v else 2) = _
    rw [hsyn, evOrd_own 5 hn hvs]
    by_cases h : t.syn ≤ 3
    · rw [decide_eq_true h, if_pos rfl, if_neg (by omega)]
    · rw [decide_eq_false h, if_neg (by decide), if_pos (by omega)]
  · show (if hasSyn s a.1 [1, 2, 3] then evOrd s en 6 a.1 v else 2) = _
    rw [hsyn, evOrd_own 6 hn hvs]
    by_cases h : t.syn ≤ 3
    · rw [decide_eq_true h, if_pos rfl, if_neg (by omega)]
    · rw [decide_eq_false h, if_neg (by decide), if_pos (by omega)]
  · show evPres s en a.1 = 1
    unfold evPres
    rw [h1]
    simp only [h2]
    rfl
/-! ### Parts -/
theorem sq_none : ∀ (b : Bool) (l : B), (∀ c ∈ l, c ≠ 32) → sqF b l = l
  | _, [], _ => rfl
  | b, c :: r, h => by
    unfold sqF
    rw [if_neg (h c List.mem_cons_self), sq_none false r fun d hd => h d (List.mem_cons_of_mem _ hd)]
theorem lo_32 (c : UInt8) (h : c ≠ 32) : lo c ≠ 32 := by
  have := u8_all (fun c => c == 32 || lo c != 32) (by decide +kernel) c
  simpa [h] using this
theorem low_no {l : B} (h : ∀ c ∈ l, c ≠ 32) : ∀ c ∈ low l, c ≠ 32 := by
  intro c hc
  obtain ⟨d, hd, rfl⟩ := List.mem_map.1 hc
  exact lo_32 d (h d hd)
theorem squeeze_no {l : B} (h : ∀ c ∈ l, c ≠ 32) : squeeze l = low l := sq_none false _ (low_no h)
theorem trimL_no {l : B} (h : ∀ c ∈ l, c ≠ 32) : trimL l = l := by
  unfold trimL Lib.trimLeftB
  cases l with
  | nil => rfl
  | cons c r =>
    rw [List.dropWhile_cons_of_neg]
    have := h c List.mem_cons_self
    simpa using this
theorem trimR_no {l : B} (h : ∀ c ∈ l, c ≠ 32) : trimR l = l := by
  have := trimL_no (l := l.reverse) fun c hc => h c (List.mem_reverse.1 hc)
  unfold trimL Lib.trimLeftB at this
  unfold trimR Lib.trimRightB
  rw [this, List.reverse_reverse]
theorem fold_no {l : B} (h : ∀ c ∈ l, c ≠ 32) : fold l = low l := by
  unfold fold
  have h1 := words_run (low l) [] [] (low_no h)
  rw [List.append_nil] at h1
  rw [h1, List.nil_append]
  unfold words
  cases low l with
  | nil => rfl
  | cons c r => rfl
theorem cut_head (m l : B) : Lib.cut (m ++ l) m = ([], l, true) := by
  have h : Lib.index (m ++ l) m = 0 := by
    have := Lib.index_first (s := m ++ l) (sub := m) (i := 0) (Nat.zero_le _) (by unfold Lib.occAt; simp) (fun j hj => by omega)
    exact this
  unfold Lib.cut
  rw [h]
  simp
theorem hasP_own (x m l : B) : hasP (x ++ (m ++ l)) x [m] l = true ∧ hasP (x ++ (m ++ l)) x [m] (l ++ [1]) = false := by
  have h1 : Lib.hasPrefix (x ++ (m ++ l)) x = true := by unfold Lib.hasPrefix; simp
  have h2 : Lib.trimPrefix (x ++ (m ++ l)) x = m ++ l := by unfold Lib.trimPrefix; rw [h1]; simp
  have h3 : cutAll (m ++ l) [m] = some l := by unfold cutAll; rw [cut_head]; simp [cutAll]
  refine ⟨?_, ?_⟩
  · unfold hasP
    rw [h1, h2, h3]
    simp [Lib.hasSuffix]
  · unfold hasP
    rw [h1, h2, h3]
    simp only [Bool.true_and, Lib.hasSuffix]
    rw [Bool.eq_false_iff]
    intro h
    have := (List.isSuffixOf_iff_suffix.1 h).length_le
    simp at this
    omega
theorem cut_three (v : B) (i j : Nat) (h : i ≤ j) : v = v.take i ++ ((v.drop i).take (j - i) ++ v.drop j) := by
  have e : v.drop j = (v.drop i).drop (j - i) := by rw [List.drop_drop]; congr 1; omega
  rw [e, List.take_append_drop, List.take_append_drop]
/-- The filter by a value's own parts, with something behind. -/
def ownF (n v : B) (i j : Nat) (z : B) : Fl := .mk 4 [] n [] (v.take i) [(v.drop i).take (j - i)] (v.drop j ++ z)
theorem low_app (a b : B) : low (a ++ b) = low a ++ low b := List.map_append
theorem parts_ok {s : Sch} {n v : B} {t : Ty} (hk : okS s = true) (h1 : tyN s n = some t) (h2 : t.syn ≤ 2) (hv : ∀ c ∈ v, c ≠ 32) (i j : Nat) (hij : i ≤ j) :
    leaf s [(n, [v])] (ownF n v i j []) = 1 ∧ leaf s [(n, [v])] (ownF n v i j [1]) = 0 := by
  obtain ⟨q, -, hti⟩ := tyN_some h1
  obtain ⟨-, s1, -⟩ := rT_at hk hti
  have hs2 : hasSyn s n [1, 2] = true := by
    unfold hasSyn
    rw [h1]
    simp only [List.contains_eq_mem, List.mem_cons, List.not_mem_nil, or_false, decide_eq_true_eq]
    omega
  have hs1 : hasSyn s n [1] = decide (t.syn = 1) := by
    unfold hasSyn
    rw [h1]
    simp only [List.contains_eq_mem, List.mem_cons, List.not_mem_nil, or_false]
  have hat : attrOf s [(n, [v])] t.nm = some (n, [v]) := by
    unfold attrOf
    rw [List.find?_cons_of_pos]
    simp only [h1]
    simp
  have hvs : valsOf s [(n, [v])] n = [v] := by
    unfold valsOf
    rw [h1]
    simp only [hat]
  have hl : ∀ z, leaf s [(n, [v])] (ownF n v i j z) = evParts s [(n, [v])] n (v.take i) [(v.drop i).take (j - i)] (v.drop j ++ z) := fun z => by
    show (if hasSyn s n [1, 2] then _ else _) = _
    rw [hs2, if_pos rfl]
    rfl
  rw [hl, hl]
  have hA : ∀ c ∈ v.take i, c ≠ 32 := fun c hc => hv c (List.mem_of_mem_take hc)
  have hM : ∀ c ∈ (v.drop i).take (j - i), c ≠ 32 := fun c hc => hv c (List.mem_of_mem_drop (List.mem_of_mem_take hc))
  have hL : ∀ c ∈ v.drop j, c ≠ 32 := fun c hc => hv c (List.mem_of_mem_drop hc)
  have hL1 : ∀ c ∈ v.drop j ++ [1], c ≠ 32 := fun c hc => by
    rcases List.mem_append.1 hc with h | h
    · exact hL c h
    · rw [List.mem_singleton.1 h]; decide
  have hlo : low ([1] : B) = [1] := by decide
  have hv3 := cut_three v i j hij
  generalize v.take i = x at hA hv3 ⊢
  generalize (v.drop i).take (j - i) = m at hM hv3 ⊢
  generalize v.drop j = l at hL hL1 hv3 ⊢
  unfold evParts
  rw [hs1, hvs]
  by_cases h : t.syn = 1
  · rw [decide_eq_true h, if_pos rfl, if_pos rfl]
    simp only [List.any_cons, List.any_nil, Bool.or_false, List.map_cons, List.map_nil, List.append_nil]
    rw [fold_no hv, squeeze_no hA, squeeze_no hM, squeeze_no hL, squeeze_no hL1, trimL_no (low_no hA), trimR_no (low_no hL), trimR_no (low_no hL1)]
    have hf : low v = low x ++ (low m ++ low l) := by rw [hv3, low_app, low_app]
    obtain ⟨g1, g2⟩ := hasP_own (low x) (low m) (low l)
    rw [hf, low_app, hlo, g1, g2]
    exact ⟨rfl, rfl⟩
  · rw [decide_eq_false h, if_neg (by decide), if_neg (by decide)]
    simp only [List.any_cons, List.any_nil, Bool.or_false, List.append_nil]
    obtain ⟨g1, g2⟩ := hasP_own x m l
    rw [hv3, g1, g2]
    exact ⟨rfl, rfl⟩
end Go.Proofs.YtdkkpfeiaaffhaaGreatDoor.FT

namespace Go.Proofs.YtdkkpfeiaaffhaaGreatDoor.FT
set_option maxRecDepth 100000
open Go.Proofs.YtdkkpfeiaaffhaaGreatDoor.BE Go.Proofs.YtdkkpfeiaaffhaaGreatDoor.DN Go.Proofs.YtdkkpfeiaaffhaaGreatDoor.SC

theorem words_ne : ∀ (t cur : B), words cur (t ++ [46]) ≠ []
  | [], cur => by
    show words cur [46] ≠ []
    unfold words
    rw [if_neg (by decide)]
    unfold words
    rw [if_neg (by simp)]
    exact List.cons_ne_nil _ _
  | c :: r, cur => by
    show words cur (c :: (r ++ [46])) ≠ []
    unfold words
    split
    · split
      · exact words_ne r []
      · exact List.cons_ne_nil _ _
    · exact words_ne r _
theorem joinB_cons (x : B) {L : List B} (h : L ≠ []) : joinB [32] (x :: L) = x ++ [32] ++ joinB [32] L := by
  cases L with
  | nil => exact absurd rfl h
  | cons b r => rfl
theorem words_sq : ∀ (t : B), (∀ cur : B, cur ≠ [] → joinB [32] (words cur (t ++ [46])) = cur ++ sqF false t ++ [46]) ∧ joinB [32] (words [] (t ++ [46])) = sqF true t ++ [46]
  | [] => by
    refine ⟨fun cur h => ?_, rfl⟩
    show joinB [32] (words cur [46]) = _
    unfold words
    rw [if_neg (by decide)]
    unfold words
    rw [if_neg (by simp)]
    simp [joinB, sqF]
  | c :: r => by
    obtain ⟨h1, h2⟩ := words_sq r
    by_cases hc : c = 32
    · subst hc
      refine ⟨fun cur h => ?_, ?_⟩
      · show joinB [32] (words cur (32 :: (r ++ [46]))) = _
        unfold words
        rw [if_pos rfl, if_neg (by simpa using h), joinB_cons cur (words_ne r []), h2]
        simp [sqF]
      · show joinB [32] (words [] (32 :: (r ++ [46]))) = _
        unfold words
        rw [if_pos rfl, if_pos (show ([] : B).isEmpty = true from rfl), h2]
        simp [sqF]
    · refine ⟨fun cur h => ?_, ?_⟩
      · show joinB [32] (words cur (c :: (r ++ [46]))) = _
        unfold words
        rw [if_neg hc, h1 _ (by simp)]
        simp [sqF, hc]
      · show joinB [32] (words [] (c :: (r ++ [46]))) = _
        unfold words
        rw [if_neg hc, h1 _ (by simp)]
        simp [sqF, hc]
theorem fold_sq (p : B) : fold (46 :: (p ++ [46])) = 46 :: (squeeze p ++ [46]) := by
  have hl : low (46 :: (p ++ [46])) = 46 :: (low p ++ [46]) := by
    show lo 46 :: low (p ++ [46]) = _
    rw [low_app]
    rfl
  unfold fold squeeze
  rw [hl]
  unfold words
  rw [if_neg (by decide), List.nil_append, (words_sq (low p)).1 [46] (by simp)]
  rfl
theorem sq_all : ∀ (b : Bool) (l : B), ∀ c ∈ sqF b l, c ∈ l
  | _, [], c, h => h
  | b, d :: r, c, h => by
    unfold sqF at h
    split at h
    · split at h
      · exact List.mem_cons_of_mem _ (sq_all true r c h)
      · rename_i h32 _
        rcases List.mem_cons.1 h with e | h
        · rw [e, ← h32]; exact List.mem_cons_self
        · exact List.mem_cons_of_mem _ (sq_all true r c h)
    · rcases List.mem_cons.1 h with e | h
      · rw [e]; exact List.mem_cons_self
      · exact List.mem_cons_of_mem _ (sq_all false r c h)
theorem sq_len : ∀ (b : Bool) (l : B), (sqF b l).length ≤ l.length
  | _, [] => Nat.le_refl _
  | b, d :: r => by
    unfold sqF
    split
    · split
      · exact Nat.le_trans (sq_len true r) (Nat.le_succ _)
      · exact Nat.succ_le_succ (sq_len true r)
    · exact Nat.succ_le_succ (sq_len false r)
theorem squeeze_len (p : B) : (squeeze p).length ≤ p.length := by
  have := sq_len false (low p)
  rwa [low_length] at this
theorem sq_sq : ∀ (b : Bool) (l : B), sqF b (sqF b l) = sqF b l
  | _, [] => rfl
  | b, d :: r => by
    by_cases h : d = 32
    · subst h
      cases b with
      | true => rw [show sqF true (32 :: r) = sqF true r by simp [sqF]]; exact sq_sq true r
      | false => rw [show sqF false (32 :: r) = 32 :: sqF true r by simp [sqF], show sqF false (32 :: sqF true r) = 32 :: sqF true (sqF true r) by simp [sqF], sq_sq true r]
    · rw [show sqF b (d :: r) = d :: sqF false r by simp [sqF, h], show sqF b (d :: sqF false r) = d :: sqF false (sqF false r) by simp [sqF, h], sq_sq false r]
theorem squeeze_squeeze (p : B) : squeeze (squeeze p) = squeeze p := by
  have h : low (squeeze p) = squeeze p := low_self fun c hc => low_all p c (sq_all false _ c hc)
  have h2 : squeeze (squeeze p) = sqF false (low (squeeze p)) := rfl
  rw [h2, h]
  exact sq_sq false (low p)
theorem trimL_len (l : B) : (trimL l).length ≤ l.length := by
  unfold trimL Lib.trimLeftB
  exact (List.dropWhile_sublist _).length_le
theorem trimR_len (l : B) : (trimR l).length ≤ l.length := by
  unfold trimR Lib.trimRightB
  rw [List.length_reverse]
  have := (List.dropWhile_sublist (l := l.reverse) (· == 32)).length_le
  rwa [List.length_reverse] at this
theorem cut_len {s p : B} (h : (Lib.cut s p).2.2 = true) : (Lib.cut s p).2.1.length ≤ s.length := by
  unfold Lib.cut at h ⊢
  split at h
  · rw [if_pos (by assumption)]
    simp
  · cases h
end Go.Proofs.YtdkkpfeiaaffhaaGreatDoor.FT

namespace Go.Proofs.YtdkkpfeiaaffhaaGreatDoor.FT
set_option maxRecDepth 100000
open Go.RowKit K Go.Proofs.YtdkkpfeiaaffhaaGreatDoor.BE Go.Proofs.YtdkkpfeiaaffhaaGreatDoor.DN Go.Proofs.YtdkkpfeiaaffhaaGreatDoor.SC

section
variable {P : Program} {ops : Array Oper} {rest : List Oper} {op : Oper} {a : Act} {w : World} {Q : Exit → Act → World → Prop}
theorem wpL_callF (hgd : op.guard = none) (x : Operand) (args : List Operand) (tys : Array TypeId) (ho : op.op = .call { callee := .value x, args := args.toArray, argTypes := tys }) (f : FuncId) (first cap : List Value) (hx : a.eval x = .func (.func f) first.toArray cap.toArray)
    (hent : ∀ (vs : Array Value) (w : World), (callFunc f vs).run P w = .ok (.enter f vs) w) (vs : List Value) (hvs : first ++ args.map a.eval ++ cap = vs)
    (hc : Calls P f vs.toArray w fun e w' => ∃ v, e = .returned v ∧ wpList P ops Q rest (a.put op.dst v) w') : wpList P ops Q (op :: rest) a w := by
  refine wpList_plain hgd fun _ hK => ?_
  unfold Oper.wp
  have e : (execOp a.eval op).run P w = .ok (.enter f vs.toArray) w := by
    have h1 := hent vs.toArray w
    rw [← hvs] at h1
    simp [execOp, ho, resolve, hx, Deferred.ofValue, invoke]
    rw [← hvs]
    simpa using h1
  rw [e]
  show Calls P f vs.toArray w _
  refine hc.mono ?_
  rintro e w' ⟨v, rfl, h⟩
  exact hK _ _ h
end
/-! ### Filters in memory -/
def flV (f : Fl) (vk va : Value) : List Value := [.int .i64 f.kind, vk, .string (sb f.type), .string (sb f.value), .string (sb f.first), va, .string (sb f.last)]
def I64 (n : Int) : Prop := -9223372036854775808 ≤ n ∧ n ≤ 9223372036854775807
/-- A text that may be folded. -/
def Sm (s : B) : Prop := s.length ≤ 4294967000
def FlC : Nat → (Nat → Prop) → World → Fl → List Value → Prop
  | 0, _, _, _, _ => False
  | M + 1, S, w, f, cs => ∃ vk va, cs = flV f vk va ∧ I64 f.kind ∧ Sz f.type ∧ Sz f.value ∧ Sm f.first ∧ Sm f.last ∧ (LsIn S w va f.any ∧ (∀ x ∈ f.any, Sm x) ∧ f.any.length ≤ 4294967000) ∧ Sl 7 (FlC M S w) S w vk f.kids
theorem FlC.fr {S D : Nat → Prop} {w w' : World} (hf : Fr D w w') (hd : ∀ i, S i → i < w.heap.size → ¬ D i) : ∀ {M : Nat} {f : Fl} {cs : List Value}, FlC M S w f cs → FlC M S w' f cs
  | 0, _, _, h => h.elim
  | M + 1, f, cs, h => by
    obtain ⟨vk, va, h1, h2, h3, h4, h5, h6, h7, h8⟩ := h
    exact ⟨vk, va, h1, h2, h3, h4, h5, h6, ⟨h7.1.fr hf hd, h7.2⟩, h8.fr hf hd fun x c _ hx => FlC.fr hf hd hx⟩
theorem FlC.no {M : Nat} {S : Nat → Prop} {w w' : World} {f : Fl} {cs : List Value} (h : FlC M S w f cs) (hf : Fr No w w') : FlC M S w' f cs := h.fr hf fun _ _ _ e => e
theorem FlC.mono {S S' : Nat → Prop} {w : World} (hs : ∀ i, S i → i < w.heap.size → S' i) : ∀ {M : Nat} {f : Fl} {cs : List Value}, FlC M S w f cs → FlC M S' w f cs
  | 0, _, _, h => h.elim
  | M + 1, f, cs, h => by
    obtain ⟨vk, va, h1, h2, h3, h4, h5, h6, h7, h8⟩ := h
    exact ⟨vk, va, h1, h2, h3, h4, h5, h6, ⟨h7.1.mono hs, h7.2⟩, Sl.mono h8 hs fun x c _ hx => FlC.mono hs hx⟩
theorem FlC.up {S : Nat → Prop} {w : World} : ∀ {M : Nat} {f : Fl} {cs : List Value}, FlC M S w f cs → FlC (M + 1) S w f cs
  | 0, _, _, h => h.elim
  | M + 1, f, cs, h => by
    obtain ⟨vk, va, h1, h2, h3, h4, h5, h6, h7, h8⟩ := h
    exact ⟨vk, va, h1, h2, h3, h4, h5, h6, h7, h8.fr (Fr.refl No w) (fun _ _ _ e => e) fun x c _ hx => hx.up⟩
theorem FlC.le {S : Nat → Prop} {w : World} {M N : Nat} {f : Fl} {cs : List Value} (h : FlC M S w f cs) (hMN : M ≤ N) : FlC N S w f cs := by
  induction hMN with
  | refl => exact h
  | step _ ih => exact ih.up
theorem _root_.Go.Proofs.YtdkkpfeiaaffhaaGreatDoor.SC.EnIn.no {S : Nat → Prop} {w w' : World} {v : Value} {en : Ent} (h : EnIn S w v en) (hf : Fr No w w') : EnIn S w' v en := h.fr hf fun _ _ _ e => e
theorem infoFl : (Tryz.prog.info? 46).map (·.size) = some 7 := by kernel_rfl
theorem infoSj : (Tryz.prog.info? 113).map (·.size) = some 3 := by kernel_rfl
/-- What the functions ask of the package-level variables: also that the library's bound of short texts is a number. -/
def Gm (w : World) : Prop := Gs w ∧ ∃ m, w.cell? ⟨0, 0, none⟩ = some (.int .i64 m)
def GM (X : Nat → Prop) : Prop := GX X ∧ X 0
theorem Gm.no {w w' : World} (h : Gm w) (hf : Fr No w w') : Gm w' := ⟨h.1.no hf, h.2.imp fun _ e => hf.cell e id⟩
theorem Gm.bb {X : Nat → Prop} {w w' : World} {b : Nat} (h : Gm w) (hf : Fr (fun k => k = b) w w') (hx : GM X) (hb : ¬ X b) : Gm w' :=
  ⟨h.1.bb hf hx.1 hb, h.2.imp fun _ e => hf.cell e (fun e => hb (by have e : 0 = b := e; rw [← e]; exact hx.2))⟩
theorem Gm.gx {w : World} (h : Gm w) : GM (fun k => k < w.heap.size) := ⟨h.1.gx, World.block_lt_of_cell? w _ h.2.choose_spec⟩
end Go.Proofs.YtdkkpfeiaaffhaaGreatDoor.FT

namespace Go.Proofs.YtdkkpfeiaaffhaaGreatDoor.FT
set_option maxRecDepth 100000
open Go.Shelf Go.RowKit K Go.Proofs.YtdkkpfeiaaffhaaGreatDoor.BE Go.Proofs.YtdkkpfeiaaffhaaGreatDoor.DN Go.Proofs.YtdkkpfeiaaffhaaGreatDoor.SC

def lays161_ren : Go.Shelf.Ren := ⟨fun | 161 => 174 | 231 => 207 | 227 => 208 | 233 => 209 | 235 => 210 | 228 => 237 | 197 => 238 | 151 => 239 | 260 => 256 | 152 => 257 | 137 => 221 | 119 => 264 | 224 => 260 | 225 => 259 | 217 => 246 | 266 => 263 | n => n, fun | 9 => 9 | 4 => 4 | 3 => 3 | 5 => 5 | 117 => 259 | 116 => 258 | 0 => 0 | 124 => 262 | 105 => 281 | 21 => 21 | 119 => 293 | 46 => 194 | 139 => 296 | 138 => 295 | n => n, fun | 3 => 6 | 4 => 7 | n => n⟩
theorem lays161 : Go.Proofs.Lays.n161 Tryz.prog lays161_ren := {
  mixed := by kernel_rfl
  f119 := Tryz.func264.trans (congrArg some (by kernel_rfl))
  f137 := Tryz.func221.trans (congrArg some (by kernel_rfl))
  f151 := Tryz.func239.trans (congrArg some (by kernel_rfl))
  f152 := Tryz.func257.trans (congrArg some (by kernel_rfl))
  f161 := Tryz.func174.trans (congrArg some (by kernel_rfl))
  f197 := Tryz.func238.trans (congrArg some (by kernel_rfl))
  f217 := Tryz.func246.trans (congrArg some (by kernel_rfl))
  f224 := Tryz.func260.trans (congrArg some (by kernel_rfl))
  f225 := Tryz.func259.trans (congrArg some (by kernel_rfl))
  f227 := Tryz.func208.trans (congrArg some (by kernel_rfl))
  f228 := Tryz.func237.trans (congrArg some (by kernel_rfl))
  f231 := Tryz.func207.trans (congrArg some (by kernel_rfl))
  f233 := Tryz.func209.trans (congrArg some (by kernel_rfl))
  f235 := Tryz.func210.trans (congrArg some (by kernel_rfl))
  f260 := Tryz.func256.trans (congrArg some (by kernel_rfl))
  f266 := Tryz.func263.trans (congrArg some (by kernel_rfl))
  t0 := Tryz.underlying0
  a0 := Tryz.isAgg0
  z0 := Tryz.sizeOf0
  v0 := Tryz.zeroValue0
  t3 := Tryz.underlying3
  a3 := Tryz.isAgg3
  z3 := Tryz.sizeOf3
  v3 := Tryz.zeroValue3
  t4 := Tryz.underlying4
  a4 := Tryz.isAgg4
  z4 := Tryz.sizeOf4
  v4 := Tryz.zeroValue4
  t5 := Tryz.underlying5
  a5 := Tryz.isAgg5
  z5 := Tryz.sizeOf5
  v5 := Tryz.zeroValue5
  t9 := Tryz.underlying9
  a9 := Tryz.isAgg9
  z9 := Tryz.sizeOf9
  v9 := Tryz.zeroValue9
  t21 := Tryz.underlying21
  a21 := Tryz.isAgg21
  z21 := Tryz.sizeOf21
  v21 := Tryz.zeroValue21
  t46 := Tryz.underlying194
  a46 := Tryz.isAgg194
  z46 := Tryz.sizeOf194
  v46 := Tryz.zeroValue194
  t105 := Tryz.underlying281
  a105 := Tryz.isAgg281
  z105 := Tryz.sizeOf281
  v105 := Tryz.zeroValue281
  t116 := Tryz.underlying258
  a116 := Tryz.isAgg258
  z116 := Tryz.sizeOf258
  t117 := Tryz.underlying259
  a117 := Tryz.isAgg259
  z117 := Tryz.sizeOf259
  v117 := Tryz.zeroValue259
  t119 := Tryz.underlying293
  a119 := Tryz.isAgg293
  z119 := Tryz.sizeOf293
  t124 := Tryz.underlying262
  a124 := Tryz.isAgg262
  z124 := Tryz.sizeOf262
  v124 := Tryz.zeroValue262
  t138 := Tryz.underlying295
  a138 := Tryz.isAgg295
  z138 := Tryz.sizeOf295
  v138 := Tryz.zeroValue295
  t139 := Tryz.underlying296
  a139 := Tryz.isAgg296
  z139 := Tryz.sizeOf296
  v139 := Tryz.zeroValue296
  g3 := by kernel_rfl
  g4 := by kernel_rfl }
def lays162_ren : Go.Shelf.Ren := ⟨fun | 162 => 175 | 232 => 211 | 227 => 208 | 234 => 212 | 236 => 213 | 228 => 237 | 271 => 240 | 151 => 239 | 120 => 258 | 197 => 238 | 152 => 257 | 260 => 256 | 137 => 221 | 119 => 264 | 224 => 260 | 225 => 259 | 217 => 246 | 266 => 263 | n => n, fun | 9 => 9 | 4 => 4 | 3 => 3 | 5 => 5 | 117 => 259 | 116 => 258 | 0 => 0 | 124 => 262 | 21 => 21 | 105 => 281 | 46 => 194 | 119 => 293 | 139 => 296 | 138 => 295 | n => n, fun | 3 => 6 | 4 => 7 | n => n⟩
theorem lays162 : Go.Proofs.Lays.n162 Tryz.prog lays162_ren := {
  mixed := by kernel_rfl
  f119 := Tryz.func264.trans (congrArg some (by kernel_rfl))
  f120 := Tryz.func258.trans (congrArg some (by kernel_rfl))
  f137 := Tryz.func221.trans (congrArg some (by kernel_rfl))
  f151 := Tryz.func239.trans (congrArg some (by kernel_rfl))
  f152 := Tryz.func257.trans (congrArg some (by kernel_rfl))
  f162 := Tryz.func175.trans (congrArg some (by kernel_rfl))
  f197 := Tryz.func238.trans (congrArg some (by kernel_rfl))
  f217 := Tryz.func246.trans (congrArg some (by kernel_rfl))
  f224 := Tryz.func260.trans (congrArg some (by kernel_rfl))
  f225 := Tryz.func259.trans (congrArg some (by kernel_rfl))
  f227 := Tryz.func208.trans (congrArg some (by kernel_rfl))
  f228 := Tryz.func237.trans (congrArg some (by kernel_rfl))
  f232 := Tryz.func211.trans (congrArg some (by kernel_rfl))
  f234 := Tryz.func212.trans (congrArg some (by kernel_rfl))
  f236 := Tryz.func213.trans (congrArg some (by kernel_rfl))
  f260 := Tryz.func256.trans (congrArg some (by kernel_rfl))
  f266 := Tryz.func263.trans (congrArg some (by kernel_rfl))
  f271 := Tryz.func240.trans (congrArg some (by kernel_rfl))
  t0 := Tryz.underlying0
  a0 := Tryz.isAgg0
  z0 := Tryz.sizeOf0
  v0 := Tryz.zeroValue0
  t3 := Tryz.underlying3
  a3 := Tryz.isAgg3
  z3 := Tryz.sizeOf3
  v3 := Tryz.zeroValue3
  t4 := Tryz.underlying4
  a4 := Tryz.isAgg4
  z4 := Tryz.sizeOf4
  v4 := Tryz.zeroValue4
  t5 := Tryz.underlying5
  a5 := Tryz.isAgg5
  z5 := Tryz.sizeOf5
  v5 := Tryz.zeroValue5
  t9 := Tryz.underlying9
  a9 := Tryz.isAgg9
  z9 := Tryz.sizeOf9
  v9 := Tryz.zeroValue9
  t21 := Tryz.underlying21
  a21 := Tryz.isAgg21
  z21 := Tryz.sizeOf21
  v21 := Tryz.zeroValue21
  t46 := Tryz.underlying194
  a46 := Tryz.isAgg194
  z46 := Tryz.sizeOf194
  v46 := Tryz.zeroValue194
  t105 := Tryz.underlying281
  a105 := Tryz.isAgg281
  z105 := Tryz.sizeOf281
  v105 := Tryz.zeroValue281
  t116 := Tryz.underlying258
  a116 := Tryz.isAgg258
  z116 := Tryz.sizeOf258
  t117 := Tryz.underlying259
  a117 := Tryz.isAgg259
  z117 := Tryz.sizeOf259
  v117 := Tryz.zeroValue259
  t119 := Tryz.underlying293
  a119 := Tryz.isAgg293
  z119 := Tryz.sizeOf293
  t124 := Tryz.underlying262
  a124 := Tryz.isAgg262
  z124 := Tryz.sizeOf262
  v124 := Tryz.zeroValue262
  t138 := Tryz.underlying295
  a138 := Tryz.isAgg295
  z138 := Tryz.sizeOf295
  v138 := Tryz.zeroValue295
  t139 := Tryz.underlying296
  a139 := Tryz.isAgg296
  z139 := Tryz.sizeOf296
  v139 := Tryz.zeroValue296
  g3 := by kernel_rfl
  g4 := by kernel_rfl }
def lays145_ren : Go.Shelf.Ren := ⟨fun | 145 => 177 | 220 => 215 | 219 => 242 | 217 => 246 | 225 => 259 | 224 => 260 | 267 => 261 | 266 => 263 | 314 => 265 | n => n, fun | 9 => 9 | 4 => 4 | 59 => 228 | 3 => 3 | 5 => 5 | 46 => 194 | 146 => 297 | 51 => 76 | n => n, fun | 1 => 0 | n => n⟩
theorem lays145 : Go.Proofs.Lays.n145 Tryz.prog lays145_ren := {
  mixed := by kernel_rfl
  f145 := Tryz.func177.trans (congrArg some (by kernel_rfl))
  f217 := Tryz.func246.trans (congrArg some (by kernel_rfl))
  f219 := Tryz.func242.trans (congrArg some (by kernel_rfl))
  f220 := Tryz.func215.trans (congrArg some (by kernel_rfl))
  f224 := Tryz.func260.trans (congrArg some (by kernel_rfl))
  f225 := Tryz.func259.trans (congrArg some (by kernel_rfl))
  f266 := Tryz.func263.trans (congrArg some (by kernel_rfl))
  f267 := Tryz.func261.trans (congrArg some (by kernel_rfl))
  f314 := Tryz.func265.trans (congrArg some (by kernel_rfl))
  t3 := Tryz.underlying3
  a3 := Tryz.isAgg3
  z3 := Tryz.sizeOf3
  v3 := Tryz.zeroValue3
  t4 := Tryz.underlying4
  a4 := Tryz.isAgg4
  z4 := Tryz.sizeOf4
  v4 := Tryz.zeroValue4
  t5 := Tryz.underlying5
  a5 := Tryz.isAgg5
  z5 := Tryz.sizeOf5
  v5 := Tryz.zeroValue5
  t9 := Tryz.underlying9
  a9 := Tryz.isAgg9
  z9 := Tryz.sizeOf9
  v9 := Tryz.zeroValue9
  t46 := Tryz.underlying194
  a46 := Tryz.isAgg194
  z46 := Tryz.sizeOf194
  v46 := Tryz.zeroValue194
  t51 := Tryz.underlying76
  a51 := Tryz.isAgg76
  z51 := Tryz.sizeOf76
  v51 := Tryz.zeroValue76
  t59 := Tryz.underlying228
  a59 := Tryz.isAgg228
  z59 := Tryz.sizeOf228
  v59 := Tryz.zeroValue228
  t146 := Tryz.underlying297
  a146 := Tryz.isAgg297
  z146 := Tryz.sizeOf297
  v146 := Tryz.zeroValue297
  g1 := by kernel_rfl }
def lays206_ren : Go.Shelf.Ren := ⟨fun | 206 => 241 | n => n, fun | 9 => 9 | 4 => 4 | 3 => 3 | n => n, fun | n => n⟩
theorem lays206 : Go.Proofs.Lays.n206 Tryz.prog lays206_ren := {
  mixed := by kernel_rfl
  f206 := Tryz.func241.trans (congrArg some (by kernel_rfl))
  t3 := Tryz.underlying3
  a3 := Tryz.isAgg3
  z3 := Tryz.sizeOf3
  v3 := Tryz.zeroValue3
  t4 := Tryz.underlying4
  a4 := Tryz.isAgg4
  z4 := Tryz.sizeOf4
  v4 := Tryz.zeroValue4
  t9 := Tryz.underlying9
  a9 := Tryz.isAgg9
  z9 := Tryz.sizeOf9
  v9 := Tryz.zeroValue9 }
def lays100_ren : Go.Shelf.Ren := ⟨fun | 100 => 178 | 207 => 216 | n => n, fun | 9 => 9 | 4 => 4 | 3 => 3 | n => n, fun | n => n⟩
theorem lays100 : Go.Proofs.Lays.n100 Tryz.prog lays100_ren := {
  mixed := by kernel_rfl
  f100 := Tryz.func178.trans (congrArg some (by kernel_rfl))
  f207 := Tryz.func216.trans (congrArg some (by kernel_rfl))
  t3 := Tryz.underlying3
  a3 := Tryz.isAgg3
  z3 := Tryz.sizeOf3
  v3 := Tryz.zeroValue3
  t4 := Tryz.underlying4
  a4 := Tryz.isAgg4
  z4 := Tryz.sizeOf4
  v4 := Tryz.zeroValue4
  t9 := Tryz.underlying9
  a9 := Tryz.isAgg9
  z9 := Tryz.sizeOf9
  v9 := Tryz.zeroValue9 }
theorem drewN_fr (w : World) (n : Nat) : Fr No w (w.drewN n) := (Fr.refl _ _).drewN n
theorem trimL_any (s : B) (w : World) : Calls Tryz.prog 174 #[.string (sb s), .string (sb [32])] w fun e w' => e = .returned (.string (sb (trimL s))) ∧ w' = w := by
  have h := Any.strings_TrimLeft_one lays161 (sb s) 32 (by decide) w
  rw [sb_list] at h
  exact h
theorem trimR_any (s : B) (hs : Sz s) (w : World) : Calls Tryz.prog 175 #[.string (sb s), .string (sb [32])] w fun e w' => e = .returned (.string (sb (trimR s))) ∧ w' = w := by
  have h := Any.strings_TrimRight_one lays162 (sb s) 32 (by decide) w (by rw [sb_size]; unfold Sz at hs; omega)
  rw [sb_list] at h
  exact h
theorem hasSuf_any (s p : B) (hs : Sz s) (w : World) : Calls Tryz.prog 178 #[.string (sb s), .string (sb p)] w fun e w' => e = .returned (.bool (Lib.hasSuffix s p)) ∧ w' = w := by
  have h := Any.strings_HasSuffix lays100 (sb s) (sb p) w (by rw [sb_size]; unfold Sz at hs; omega)
  rw [sb_list, sb_list] at h
  exact h
theorem cutX_any (s p : B) (hs : Sm s) (w : World) (hG : Gm w) : Calls Tryz.prog 177 #[.string (sb s), .string (sb p)] w fun e w' => e = .returned (.tuple #[.string (sb (Lib.cut s p).1), .string (sb (Lib.cut s p).2.1), .bool (Lib.cut s p).2.2]) ∧ Fr No w w' := by
  obtain ⟨m, hm⟩ := hG.2
  have h := Any.strings_Cut lays145 (sb s) (sb p) m w (by rw [sb_size]; unfold Sm at hs; omega) hm
  rw [sb_list, sb_list] at h
  refine h.mono ?_
  rintro e w' ⟨rfl, n, rfl⟩
  exact ⟨rfl, drewN_fr w n⟩
theorem sliteHasPre_any (s p : B) (w : World) : Calls Tryz.prog 241 #[.string (sb s), .string (sb p)] w fun e w' => e = .returned (.bool (Lib.hasPrefix s p)) ∧ w' = w := by
  have h := Any.stringslite_HasPrefix lays206 (sb s) (sb p) w
  rw [sb_list, sb_list] at h
  exact h
set_option maxHeartbeats 2000000 in
theorem sliteCutPre_any (s p : B) (hs : Sz s) (w : World) : Calls Tryz.prog 214 #[.string (sb s), .string (sb p)] w fun e w' => e = .returned (.tuple #[.string (sb (Lib.trimPrefix s p)), .bool (Lib.hasPrefix s p)]) ∧ Fr No w w' := by
  have H := hid (sliteHasPre_any s p w)
  cases hb : Lib.hasPrefix s p with
  | false =>
    have HR : Hid (Lib.trimPrefix s p = s) := hid (by unfold Lib.trimPrefix; rw [hb]; rfl)
    rw [hb] at H
    clear hb
    go_enter Tryz.func214, Tryz.ntmps214
    go_wp2_with fail
    refine H.out.mono ?_
    rintro e w' ⟨rfl, rfl⟩
    go_wp2_with fail
    go_ret2
    exact ⟨by rw [HR.out]; rfl, Fr.refl _ _⟩
  | true =>
    have hp : p.length ≤ s.length := (List.isPrefixOf_iff_prefix.1 (show p.isPrefixOf s = true from hb)).length_le
    have HR : Hid (s.drop p.length = Lib.trimPrefix s p) := hid (by unfold Lib.trimPrefix; rw [hb]; rfl)
    rw [hb] at H
    have HP := hid hp
    obtain ⟨S, hS⟩ : ∃ S, sb s = S := ⟨_, rfl⟩
    obtain ⟨Q, hQ⟩ : ∃ Q, sb p = Q := ⟨_, rfl⟩
    obtain ⟨m, hm⟩ : ∃ m, p.length = m := ⟨_, rfl⟩
    have hqz : (Q.size : Int) = m := by rw [← hQ, sb_size, hm]
    have HS := hid hS; have HM := hid hm
    rw [hS, hQ] at H ⊢
    clear hb hp hS hQ hs hm
    go_enter Tryz.func214, Tryz.ntmps214
    go_wp2_with fail
    refine H.out.mono ?_
    rintro e w' ⟨rfl, rfl⟩
    go_wp2_with (first
      | ((with_reducible refine K.atO (.slice 9 _ _ _ _) ?_); refine wpL_valZ rfl (.string (sb (Lib.trimPrefix s p))) (by rw [← HR.out, HM.out]; rw [← HS.out]; exact exec_from _ _ rfl s m rfl (by go_simp) (by rw [← HM.out]; exact HP.out) _ rfl _) ?_)
      | fail)
    go_ret2
    exact ⟨rfl, Fr.refl _ _⟩
theorem cutPre_any (s p : B) (hs : Sz s) (w : World) : Calls Tryz.prog 176 #[.string (sb s), .string (sb p)] w fun e w' => e = .returned (.tuple #[.string (sb (Lib.trimPrefix s p)), .bool (Lib.hasPrefix s p)]) ∧ Fr No w w' := by
  have H := hid (sliteCutPre_any s p hs w)
  clear hs
  go_enter Tryz.func176, Tryz.ntmps176
  go_wp2_with fail
  refine H.out.mono ?_
  rintro e w' ⟨rfl, f⟩
  have HF := hid f
  clear f
  go_wp2_with fail
  go_ret2
  exact ⟨rfl, HF.out⟩
end Go.Proofs.YtdkkpfeiaaffhaaGreatDoor.FT
