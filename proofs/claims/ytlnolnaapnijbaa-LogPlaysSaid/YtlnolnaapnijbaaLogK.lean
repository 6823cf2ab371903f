/-
  awake, as data: the chapter's examples.
-/
import Derived.Test.YtlnolnaapnijbaaLogO
namespace Go.Proofs.Ytlnolnaapnijbaa.L
set_option maxRecDepth 100000
open Go.RowKit K

def k0 : Int × U × Option (Lg × List (List UInt8)) := (U.new 8).opens 0 8 1
def ab : List UInt8 := [97, 98]
def hundred : List UInt8 := List.replicate 100 0
def k1 : Int × U × Lg := k0.2.1.append ⟨0, 8, 1, 1, 1⟩ ab
def k2 : Int × U × Lg := k1.2.1.append k1.2.2 hundred
def k3 : Int × U := k2.2.1.flush
def k4 : Int × U × Lg := k3.2.append k2.2.2 [99]
def k5 : U := (k4.2.1.crash []).2
def k6 : Int × U × Option (Lg × List (List UInt8)) := k5.opens 0 8 1
def k7 : Int × U × Lg := k6.2.1.append ⟨0, 8, 1, 2, 5⟩ [100]
def k8 : Int × U × Lg := k7.2.1.append k7.2.2 [101]
def k9 : U := (k8.2.1.crash [false, true]).2
def k10 : Int × U × Option (Lg × List (List UInt8)) := k9.opens 0 8 1
def k11 : Int × U × Option (Lg × List (List UInt8)) := k10.2.1.opens 0 8 2
def lgEq (a b : Lg) : Bool := a.first == b.first && a.count == b.count && a.epoch == b.epoch && a.life == b.life && a.next == b.next
theorem lg_eq {a b : Lg} (h : lgEq a b = true) : a = b := by
  simp only [lgEq, Bool.and_eq_true, beq_iff_eq] at h
  cases a; cases b; simp_all
def okB (k : Int × U × Option (Lg × List (List UInt8))) (g : Lg) (L : List (List UInt8)) : Bool := match k with
  | (e, _, some (h, M)) => decide (e = 0) && lgEq h g && decide (M = L)
  | _ => false
theorem ok_b {k : Int × U × Option (Lg × List (List UInt8))} {g : Lg} {L : List (List UInt8)} (h : okB k g L = true) : k = (0, k.2.1, some (g, L)) := by
  obtain ⟨e, u, o⟩ := k
  cases o with
  | none => simp [okB] at h
  | some p =>
    obtain ⟨h', M⟩ := p
    simp only [okB, Bool.and_eq_true, decide_eq_true_eq] at h
    obtain ⟨⟨rfl, h2⟩, rfl⟩ := h
    rw [lg_eq h2]
theorem e0 : okB k0 ⟨0, 8, 1, 1, 1⟩ [] = true := by decide +kernel
theorem e1 : k1.1 = 0 := by decide +kernel
theorem e2 : (decide (k2.1 = 0) && lgEq k2.2.2 ⟨0, 8, 1, 1, 5⟩) = true := by decide +kernel
theorem e3 : k3.1 = 0 := by decide +kernel
theorem e4 : k4.1 = 0 := by decide +kernel
theorem e6 : okB k6 ⟨0, 8, 1, 2, 5⟩ [ab, hundred] = true := by decide +kernel
theorem e7 : k7.1 = 0 := by decide +kernel
theorem e8 : k8.1 = 0 := by decide +kernel
theorem e10 : okB k10 ⟨0, 8, 1, 3, 5⟩ [ab, hundred] = true := by decide +kernel
theorem e11 : okB k11 ⟨0, 8, 2, 4, 1⟩ [] = true := by decide +kernel
end Go.Proofs.Ytlnolnaapnijbaa.L
