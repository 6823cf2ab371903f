/-
  The laws: the chapter's examples.
-/
import Derived.Test.YtlnolnaapnijbaaTrTf
namespace Go.Proofs.Ytlnolnaapnijbaa.TR
set_option maxRecDepth 100000
open Go.RowKit K

theorem aw1 : has ⟨#[98]⟩ [] = false ∧ put ⟨#[98]⟩ ⟨#[49]⟩ [] = [(⟨#[98]⟩, ⟨#[49]⟩)] := ⟨rfl, rfl⟩
theorem lab : lt ⟨#[97]⟩ ⟨#[98]⟩ = true := by kernel_rfl
theorem lba : lt ⟨#[98]⟩ ⟨#[97]⟩ = false := by kernel_rfl
theorem lbb : lt ⟨#[98]⟩ ⟨#[98]⟩ = false := by kernel_rfl
theorem aw2 : has ⟨#[97]⟩ [(⟨#[98]⟩, ⟨#[49]⟩)] = false ∧ put ⟨#[97]⟩ ⟨#[50]⟩ [(⟨#[98]⟩, ⟨#[49]⟩)] = [(⟨#[97]⟩, ⟨#[50]⟩), (⟨#[98]⟩, ⟨#[49]⟩)] := ⟨by kernel_rfl, by kernel_rfl⟩
theorem aw3 : has ⟨#[98]⟩ [(⟨#[97]⟩, ⟨#[50]⟩), (⟨#[98]⟩, ⟨#[49]⟩)] = true ∧ put ⟨#[98]⟩ ⟨#[51]⟩ [(⟨#[97]⟩, ⟨#[50]⟩), (⟨#[98]⟩, ⟨#[49]⟩)] = [(⟨#[97]⟩, ⟨#[50]⟩), (⟨#[98]⟩, ⟨#[51]⟩)] := ⟨by kernel_rfl, by kernel_rfl⟩
theorem aw4 : scanS ⟨#[97, 97]⟩ ⟨#[]⟩ 9 [(⟨#[97]⟩, ⟨#[50]⟩), (⟨#[98]⟩, ⟨#[51]⟩)] = [(⟨#[98]⟩, ⟨#[51]⟩)] := by kernel_rfl
theorem aw5 : has ⟨#[97]⟩ [(⟨#[97]⟩, ⟨#[50]⟩), (⟨#[98]⟩, ⟨#[51]⟩)] = true ∧ del ⟨#[97]⟩ [(⟨#[97]⟩, ⟨#[50]⟩), (⟨#[98]⟩, ⟨#[51]⟩)] = [(⟨#[98]⟩, ⟨#[51]⟩)] := ⟨by kernel_rfl, by kernel_rfl⟩
theorem aw6 : has ⟨#[97]⟩ [(⟨#[98]⟩, ⟨#[51]⟩)] = false ∧ del ⟨#[97]⟩ [(⟨#[98]⟩, ⟨#[51]⟩)] = [(⟨#[98]⟩, ⟨#[51]⟩)] := ⟨by kernel_rfl, by kernel_rfl⟩
theorem aw7 : get ⟨#[98]⟩ [(⟨#[98]⟩, ⟨#[51]⟩)] = some ⟨#[51]⟩ ∧ get ⟨#[97]⟩ [(⟨#[98]⟩, ⟨#[51]⟩)] = none := ⟨by kernel_rfl, by kernel_rfl⟩
set_option maxHeartbeats 8000000 in
theorem awake_any (w : World) : Calls Try.prog 12 #[] w fun e w' => e = .returned (.bool true) ∧ Fr No w w' := by
  go_enter Try.func12, Try.ntmps12
  go_wp2_with fail
  refine (new_any w).mono ?_
  rintro e w1 ⟨b, T1, rfl, t1⟩
  have HT1 := hid t1
  clear t1
  go_wp2_with fail
  refine (HT1.out.put (by simp) _ _).mono ?_
  rintro e w2 ⟨rfl, T2, t2, -, -⟩
  rw [aw1.1]
  have HT2 := hid (aw1.2 ▸ t2)
  clear t2
  go_wp2_with fail
  refine (HT2.out.put (by simp) _ _).mono ?_
  rintro e w3 ⟨rfl, T3, t3, -, -⟩
  rw [aw2.1]
  have HT3 := hid (aw2.2 ▸ t3)
  clear t3
  go_wp2_with fail
  refine (HT3.out.put (by simp) _ _).mono ?_
  rintro e w4 ⟨rfl, T4, t4, -, -⟩
  rw [aw3.1]
  have HT4 := hid (aw3.2 ▸ t4)
  clear t4
  go_wp2_with fail
  refine (HT4.out.all (by simp)).mono ?_
  rintro e w5 ⟨pv, rfl, p5, t5, -⟩
  obtain ⟨a5, c5, rfl, p5⟩ := p5
  obtain ⟨g5, rfl, r5, l5, m5⟩ : ∃ g, a5 = some ⟨g, 0, none⟩ ∧ w5.rangeAt g 0 (pcs _) ∧ w4.heap.size ≤ g ∧ g < w5.heap.size := p5.elim (fun e => by cases e) id
  have HT5 := hid t5; have HR5 := hid (And.intro r5 (And.intro l5 m5))
  clear t5 r5 l5 m5 p5
  go_wp2_with fail
  refine (HT5.out.scan (by simp) _ _ _).mono ?_
  rintro e w6 ⟨pv, rfl, p6, t6, f6⟩
  rw [aw4] at p6
  obtain ⟨a6, c6, rfl, p6⟩ := p6
  obtain ⟨g6, rfl, r6, l6, m6⟩ : ∃ g, a6 = some ⟨g, 0, none⟩ ∧ w6.rangeAt g 0 (pcs _) ∧ w5.heap.size ≤ g ∧ g < w6.heap.size := p6.elim (fun e => by cases e) id
  have HT6 := hid t6; have HR6 := hid (And.intro r6 (And.intro l6 m6)); have HF6 := hid f6
  clear t6 r6 l6 m6 p6 f6
  go_wp2_with fail
  refine (HT6.out.del (by simp) _).mono ?_
  rintro e w7 ⟨rfl, T7, t7, f7, g7⟩
  rw [aw5.1]
  have HT7 := hid (aw5.2 ▸ t7); have HF7 := hid f7; have HG7 := hid g7
  clear t7 f7 g7
  go_wp2_with fail
  refine (HT7.out.del (by simp) _).mono ?_
  rintro e w8 ⟨rfl, T8, t8, f8, g8⟩
  rw [aw6.1]
  have HT8 := hid (aw6.2 ▸ t8); have HF8 := hid f8
  clear t8 f8 g8
  go_wp2_with fail
  refine (HT8.out.len).mono ?_
  rintro e w9 ⟨rfl, rfl⟩
  go_wp2_with fail
  refine (HT8.out.get (by simp) _).mono ?_
  rintro e w10 ⟨rfl, t10, f10⟩
  rw [aw7.1]
  have HT10 := hid t10; have HF10 := hid f10
  clear t10 f10
  unfold getV
  go_wp2_with fail
  refine (HT10.out.get (by simp) _).mono ?_
  rintro e w11 ⟨rfl, t11, f11⟩
  rw [aw7.2]
  have HT11 := hid t11; have HF11 := hid f11
  clear t11 f11
  unfold getV
  have hn7 : ∀ g, w4.heap.size ≤ g → ¬ T4.fp g := fun g h1 h2 => by have := HT4.out.at_.lt g h2; omega
  have hz5 : w4.heap.size ≤ w5.heap.size := by have := HR5.out.2; omega
  have hz6 : w5.heap.size ≤ w6.heap.size := HF6.out.size
  have hn8 : ∀ g, w4.heap.size ≤ g → g < w6.heap.size → ¬ T7.fp g := fun g h1 h2 h3 => (HG7.out g h3).elim (hn7 g h1) (fun e => by omega)
  have R5 : w11.rangeAt g5 0 (pcs [(⟨#[97]⟩, ⟨#[50]⟩), (⟨#[98]⟩, ⟨#[51]⟩)]) := by
    obtain ⟨r, l, m⟩ := HR5.out
    have x6 := HF6.out.range r id
    have x7 := HF7.out.range x6 (hn7 _ l)
    have x8 := HF8.out.range x7 (hn8 _ l (by omega))
    exact HF11.out.range (HF10.out.range x8 id) id
  have R6 : w11.rangeAt g6 0 (pcs [(⟨#[98]⟩, ⟨#[51]⟩)]) := by
    obtain ⟨r, l, m⟩ := HR6.out
    have x7 := HF7.out.range r (hn7 _ (by omega))
    have x8 := HF8.out.range x7 (hn8 _ (by omega) m)
    exact HF11.out.range (HF10.out.range x8 id) id
  have c0 : w11.cell? ⟨g5, 0, none⟩ = some (.string ⟨#[97]⟩) := R5 0 _ rfl
  have c1 : w11.cell? ⟨g5, 1, none⟩ = some (.string ⟨#[50]⟩) := R5 1 _ rfl
  have c2 : w11.cell? ⟨g5, 2, none⟩ = some (.string ⟨#[98]⟩) := R5 2 _ rfl
  have c3 : w11.cell? ⟨g5, 3, none⟩ = some (.string ⟨#[51]⟩) := R5 3 _ rfl
  have d0 : w11.cell? ⟨g6, 0, none⟩ = some (.string ⟨#[98]⟩) := R6 0 _ rfl
  clear hn7 hz5 hz6 hn8 R5 R6
  go_wp2_with fail
  go_ret
  exact ⟨rfl, HT11.out.fr⟩
end Go.Proofs.Ytlnolnaapnijbaa.TR
