/-
  LogPlays: both disks and both logs, as they stand; both are opened.
-/
import Derived.Test.YtlnolnaapnijbaaLogN
import Derived.Test.YtlnolnaapnijbaaLogRo
namespace Go.Proofs.Ytlnolnaapnijbaa.L
set_option maxRecDepth 100000
open Go.RowKit K

abbrev pt (b : Nat) : Value := .pointer (some ⟨b, 0, none⟩)
structure Du (W w : World) (bx bd be : Nat) (Z Y : Nat → Prop) (a b : U) (lv mv : Value) (fs cn : Int) (ep : Nat) : Prop where
  blk : Blk w bx 36 [pt bd, lv, pt be, mv, .int .i64 fs, .int .i64 cn, .int .u32 (ep : Int)]
  d : Dk w bd Z a
  e : Rk w be Y b
  zy : ∀ k, Z k → ¬ Y k
  xz : ¬ Z bx
  xy : ¬ Y bx
  fr : Fr No W w
  zw : ∀ k, Z k → W.heap.size ≤ k
  yw : ∀ k, Y k → W.heap.size ≤ k
  xw : W.heap.size ≤ bx
structure Dl (W w : World) (bx bd be : Nat) (Z Y : Nat → Prop) (a b : U) (bg bm : Nat) (ga gb : Lg) : Prop where
  gl : Blk w bg 109 (lgCells bd ga)
  ml : Blk w bm 93 (lgCells be gb)
  gz : ¬ Z bg
  gy : ¬ Y bg
  mz : ¬ Z bm
  my : ¬ Y bm
  gm : bg ≠ bm
  gx : bg ≠ bx
  mx : bm ≠ bx
  gw : W.heap.size ≤ bg
  mw : W.heap.size ≤ bm
  go : ga.Ok a.L.length
  mo : gb.Ok b.L.length
section
variable {W w w' : World} {bx bd be : Nat} {Z Y Z' Y' V : Nat → Prop} {a b a' b' : U} {lv mv : Value} {fs cn : Int} {ep : Nat} {bg bm : Nat} {ga gb ga' gb' : Lg}
theorem Du.no (h : Du W w bx bd be Z Y a b lv mv fs cn ep) (f : Fr No w w') : Du W w' bx bd be Z Y a b lv mv fs cn ep :=
  ⟨h.blk.fr f id, D.Rep.no h.d f, D.Rep.no h.e f, h.zy, h.xz, h.xy, h.fr.trans' f, h.zw, h.yw, h.xw⟩
theorem Dl.no (h : Dl W w bx bd be Z Y a b bg bm ga gb) (f : Fr No w w') : Dl W w' bx bd be Z Y a b bg bm ga gb :=
  ⟨h.gl.fr f id, h.ml.fr f id, h.gz, h.gy, h.mz, h.my, h.gm, h.gx, h.mx, h.gw, h.mw, h.go, h.mo⟩
theorem Du.ofD (h : Du W w bx bd be Z Y a b lv mv fs cn ep) (d' : Dk w' bd Z' a') (f : Fr V w w') (g : Grows w Z Z') (hD : ∀ k, V k → W.heap.size ≤ k ∧ ¬ Y k ∧ k ≠ bx) : Du W w' bx bd be Z' Y a' b lv mv fs cn ep :=
  ⟨h.blk.fr f (fun e => (hD _ e).2.2 rfl), d', D.Rep.fr h.e f (fun k hk e => (hD k e).2.1 hk), fun k hk hy => (g k hk).elim (fun e => h.zy k e hy) (fun e => by have := h.e.lt k hy; omega),
    fun e => (g _ e).elim h.xz (fun e => by have := h.blk.lt; omega), h.xy, h.fr.trans f (fun k hk => .inr (hD k hk).1), fun k hk => (g k hk).elim (h.zw k) (fun e => Nat.le_trans h.fr.size e), h.yw, h.xw⟩
theorem Du.ofE (h : Du W w bx bd be Z Y a b lv mv fs cn ep) (e' : Rk w' be Y' b') (f : Fr V w w') (g : Grows w Y Y') (hD : ∀ k, V k → W.heap.size ≤ k ∧ ¬ Z k ∧ k ≠ bx) : Du W w' bx bd be Z Y' a b' lv mv fs cn ep :=
  ⟨h.blk.fr f (fun e => (hD _ e).2.2 rfl), D.Rep.fr h.d f (fun k hk e => (hD k e).2.1 hk), e', fun k hk hy => (g k hy).elim (fun e => h.zy k hk e) (fun e => by have := h.d.lt k hk; omega),
    h.xz, fun e => (g _ e).elim h.xy (fun e => by have := h.blk.lt; omega), h.fr.trans f (fun k hk => .inr (hD k hk).1), h.zw, fun k hk => (g k hk).elim (h.yw k) (fun e => Nat.le_trans h.fr.size e), h.xw⟩
theorem Du.zD (h : Du W w bx bd be Z Y a b lv mv fs cn ep) : ∀ k, Z k → W.heap.size ≤ k ∧ ¬ Y k ∧ k ≠ bx := fun k hk => ⟨h.zw k hk, h.zy k hk, fun e => h.xz (by rw [← e]; exact hk)⟩
theorem Du.yD (h : Du W w bx bd be Z Y a b lv mv fs cn ep) : ∀ k, Y k → W.heap.size ≤ k ∧ ¬ Z k ∧ k ≠ bx := fun k hk => ⟨h.yw k hk, fun e => h.zy k e hk, fun e => h.xy (by rw [← e]; exact hk)⟩
theorem Dl.ofD (h : Dl W w bx bd be Z Y a b bg bm ga gb) (f : Fr Z w w') (g : Grows w Z Z') (hl : a'.L.length = a.L.length) : Dl W w' bx bd be Z' Y a' b bg bm ga gb :=
  ⟨h.gl.fr f h.gz, h.ml.fr f h.mz, fun e => (g _ e).elim h.gz (fun e => by have := h.gl.lt; omega), h.gy, fun e => (g _ e).elim h.mz (fun e => by have := h.ml.lt; omega), h.my, h.gm, h.gx, h.mx, h.gw, h.mw, by rw [hl]; exact h.go, h.mo⟩
theorem Dl.ofE (h : Dl W w bx bd be Z Y a b bg bm ga gb) (f : Fr Y w w') (g : Grows w Y Y') (hl : b'.L.length = b.L.length) : Dl W w' bx bd be Z Y' a b' bg bm ga gb :=
  ⟨h.gl.fr f h.gy, h.ml.fr f h.my, h.gz, fun e => (g _ e).elim h.gy (fun e => by have := h.gl.lt; omega), h.mz, fun e => (g _ e).elim h.my (fun e => by have := h.ml.lt; omega), h.gm, h.gx, h.mx, h.gw, h.mw, h.go, by rw [hl]; exact h.mo⟩
theorem Du.at_ (h : Du W w bx bd be Z Y a b lv mv fs cn ep) (l : Dl W w bx bd be Z Y a b bg bm ga gb) : At w bg bd Z ga a := ⟨h.d, l.gl, l.gz, l.go⟩
theorem Du.atR (h : Du W w bx bd be Z Y a b lv mv fs cn ep) (l : Dl W w bx bd be Z Y a b bg bm ga gb) : AtR w bm be Y gb b := ⟨h.e, l.ml, l.my, l.mo⟩
theorem Dl.ofAt (h : Dl W w bx bd be Z Y a b bg bm ga gb) (t : At w' bg bd Z' ga' a') (f : Fr (fun k => Z k ∨ k = bg) w w') (g : Grows w Z Z') : Dl W w' bx bd be Z' Y a' b bg bm ga' gb :=
  ⟨t.2.1, h.ml.fr f (fun e => e.elim h.mz (fun e => h.gm e.symm)), t.2.2.1, h.gy, fun e => (g _ e).elim h.mz (fun e => by have := h.ml.lt; omega), h.my, h.gm, h.gx, h.mx, h.gw, h.mw, t.2.2.2, h.mo⟩
theorem Dl.ofAtR (h : Dl W w bx bd be Z Y a b bg bm ga gb) (t : AtR w' bm be Y' gb' b') (f : Fr (fun k => Y k ∨ k = bm) w w') (g : Grows w Y Y') : Dl W w' bx bd be Z Y' a b' bg bm ga gb' :=
  ⟨h.gl.fr f (fun e => e.elim h.gy (fun e => h.gm e)), t.2.1, h.gz, fun e => (g _ e).elim h.gy (fun e => by have := h.gl.lt; omega), h.mz, t.2.2.1, h.gm, h.gx, h.mx, h.gw, h.mw, h.go, t.2.2.2⟩
theorem Du.set2 {W w : World} {bx bd be : Nat} {Z Y : Nat → Prop} {a b : U} {lv mv : Value} {fs cn : Int} {ep : Nat} (h : Du W w bx bd be Z Y a b lv mv fs cn ep) (l m : Value) : Du W ((w.setCell ⟨bx, 1, none⟩ l).setCell ⟨bx, 3, none⟩ m) bx bd be Z Y a b l m fs cn ep := by
  have f : Fr (fun k => k = bx) w ((w.setCell ⟨bx, 1, none⟩ l).setCell ⟨bx, 3, none⟩ m) := ((Fr.refl (fun k => k = bx) w).setCell ⟨bx, 1, none⟩ l (.inl rfl)).setCell ⟨bx, 3, none⟩ m (.inl rfl)
  exact ⟨(h.blk.set 1 l).set 3 m, D.Rep.fr h.d f (fun k hk e => h.xz (by rw [← e]; exact hk)), D.Rep.fr h.e f (fun k hk e => h.xy (by rw [← e]; exact hk)), h.zy, h.xz, h.xy, h.fr.trans f (fun k e => .inr (by rw [e]; exact h.xw)), h.zw, h.yw, h.xw⟩
theorem Dl.set2 {W w : World} {bx bd be : Nat} {Z Y : Nat → Prop} {a b : U} {bg bm : Nat} {ga gb : Lg} (h : Dl W w bx bd be Z Y a b bg bm ga gb) (l m : Value) : Dl W ((w.setCell ⟨bx, 1, none⟩ l).setCell ⟨bx, 3, none⟩ m) bx bd be Z Y a b bg bm ga gb := by
  have f : Fr (fun k => k = bx) w ((w.setCell ⟨bx, 1, none⟩ l).setCell ⟨bx, 3, none⟩ m) := ((Fr.refl (fun k => k = bx) w).setCell ⟨bx, 1, none⟩ l (.inl rfl)).setCell ⟨bx, 3, none⟩ m (.inl rfl)
  exact ⟨h.gl.fr f h.gx, h.ml.fr f h.mx, h.gz, h.gy, h.mz, h.my, h.gm, h.gx, h.mx, h.gw, h.mw, h.go, h.mo⟩
/-- Both stand alike. -/
def Alike (W w : World) (bx bd be : Nat) (fs cn : Int) (ep N M : Nat) : Prop :=
  ∃ Z Y a lv mv, Du W w bx bd be Z Y a a lv mv fs cn ep ∧ ((lv = .pointer none ∧ mv = .pointer none) ∨ ∃ bg bm g, lv = pt bg ∧ mv = pt bm ∧ Dl W w bx bd be Z Y a a bg bm g g) ∧ a.L.length = N ∧ a.P.length ≤ M
def opn (a : U) (fs cn : Int) (ep : Nat) : Int × U × Option (Lg × List (List UInt8)) := if fs < 0 ∨ cn < 2 ∨ (a.L.length : Int) < fs + cn then (1, a, none) else a.opens fs.toNat cn.toNat ep
theorem opens_len2 (u : U) (first count e : Nat) : (u.opens first count e).2.1.L.length = u.L.length ∧ (u.opens first count e).2.1.P.length ≤ u.P.length + 1 := by
  have hb : (u.begin first).2.1.L.length = u.L.length ∧ (u.begin first).2.1.P.length ≤ u.P.length + 1 := by
    unfold U.begin
    by_cases h1 : u.up = false
    · rw [if_pos h1]; exact ⟨rfl, Nat.le_succ _⟩
    · rw [if_neg h1]
      by_cases h2 : headLife (look (u.sec first)) = 4294967295
      · simp [h2]
      · simp only [if_neg h2]
        have hw := write_P u (first : Int) (made 0 (headLife (look (u.sec first)) + 1) 0 4 0 zeros48)
        have hl := write_L u (first : Int) (made 0 (headLife (look (u.sec first)) + 1) 0 4 0 zeros48)
        generalize u.write (first : Int) (made 0 (headLife (look (u.sec first)) + 1) 0 4 0 zeros48) = q at hw hl ⊢
        by_cases h3 : q.1 ≠ 0
        · rw [if_pos h3]; exact ⟨by rw [hl], hw⟩
        · rw [if_neg h3]
          refine ⟨by rw [flush_L, hl], ?_⟩
          have : q.2.flush.2.P.length ≤ q.2.P.length := by
            unfold U.flush
            (repeat' split) <;> simp
          exact Nat.le_trans this hw
  unfold U.opens
  by_cases h1 : (u.begin first).1 ≠ 0
  · simp only [if_pos h1]; exact hb
  · simp only [if_neg h1]; exact hb
theorem opn_len (a : U) (fs cn : Int) (ep : Nat) : (opn a fs cn ep).2.1.L.length = a.L.length ∧ (opn a fs cn ep).2.1.P.length ≤ a.P.length + 1 := by
  unfold opn
  split
  · exact ⟨rfl, Nat.le_succ _⟩
  · exact opens_len2 _ _ _ _
theorem scan_len {h : Nat} {V : Nat → Option Pc} : ∀ (n p : Nat) (c : Sc), (scan h V n p c).1.length ≤ c.recs.length + n
  | 0, _, _ => Nat.le_refl _
  | n + 1, p, c => by
    unfold scan
    cases V p with
    | none => simp only; omega
    | some x =>
      simp only
      split
      · have h1 := scan_len (h := h) (V := V) n (p + 1) (c.step p x)
        have h2 : (c.step p x).recs.length ≤ c.recs.length + 1 := by
          unfold Sc.step
          split <;> simp
        omega
      · simp only; omega
theorem opn_recs {a : U} {fs cn : Int} {ep : Nat} {r1 : Int} {r2 : U} {g : Lg} {recs : List (List UInt8)} (h : opn a fs cn ep = (r1, r2, some (g, recs))) : recs.length ≤ a.L.length := by
  unfold opn at h
  by_cases hb : fs < 0 ∨ cn < 2 ∨ (a.L.length : Int) < fs + cn
  · rw [if_pos hb] at h; simp at h
  · rw [if_neg hb] at h
    unfold U.opens at h
    by_cases h1 : (a.begin fs.toNat).1 ≠ 0
    · simp only [if_pos h1] at h; simp at h
    · simp only [if_neg h1, Prod.mk.injEq, Option.some.injEq] at h
      have h2 := scan_len (h := (a.begin fs.toNat).2.2) (V := (a.begin fs.toNat).2.1.view fs.toNat ep) (cn.toNat - 1) 1 sc0
      have h3 : (scan (a.begin fs.toNat).2.2 ((a.begin fs.toNat).2.1.view fs.toNat ep) (cn.toNat - 1) 1 sc0).1 = recs := h.2.2.2
      rw [h3] at h2
      have h4 : sc0.recs.length = 0 := rfl
      omega
theorem opn_fs {a : U} {fs cn : Int} {ep : Nat} {r1 : Int} {r2 : U} {p : Lg × List (List UInt8)} (h : opn a fs cn ep = (r1, r2, some p)) (hl : a.L.length ≤ 4096) : ¬ (fs < 0 ∨ 4096 < fs) := by
  unfold opn at h
  by_cases hb : fs < 0 ∨ cn < 2 ∨ (a.L.length : Int) < fs + cn
  · rw [if_pos hb] at h; simp at h
  · omega
theorem dopen_all (h : Dk w bd Z a) (fs cn : Int) (h9 : fs ≤ 9223372036854775807) (he : ep < 4294967296) (hp : a.P.length < 1000000) :
    Calls Try.prog 22 #[pt bd, .int .i64 fs, .int .i64 cn, .int .u32 (ep : Int)] w (Opened w bd Z (opn a fs cn ep)) := by
  unfold opn
  by_cases hb : fs < 0 ∨ cn < 2 ∨ (a.L.length : Int) < fs + cn
  · rw [if_pos hb]
    refine (open_bad fs cn ep h h9 hb).mono ?_
    rintro e w' ⟨rfl, rfl⟩
    exact ⟨Z, Fr.refl _ _, Grows.refl _ _, rfl, h⟩
  · rw [if_neg hb]
    have e1 : fs = (fs.toNat : Int) := by omega
    have e2 : cn = (cn.toNat : Int) := by omega
    have := open_any fs.toNat cn.toNat ep h (by omega) (by omega) he hp
    rwa [← e1, ← e2] at this
theorem ropen_all (h : Rk w be Y b) (fs cn : Int) (h9 : fs ≤ 9223372036854775807) (he : ep < 4294967296) (hp : b.P.length < 1000000) :
    Calls Try.prog 29 #[pt be, .int .i64 fs, .int .i64 cn, .int .u32 (ep : Int)] w (OpenedR w be Y (opn b fs cn ep)) := by
  unfold opn
  by_cases hb : fs < 0 ∨ cn < 2 ∨ (b.L.length : Int) < fs + cn
  · rw [if_pos hb]
    refine (ropen_bad fs cn ep h h9 hb).mono ?_
    rintro e w' ⟨rfl, rfl⟩
    exact ⟨Y, Fr.refl _ _, Grows.refl _ _, rfl, h⟩
  · rw [if_neg hb]
    have e1 : fs = (fs.toNat : Int) := by omega
    have e2 : cn = (cn.toNat : Int) := by omega
    have := ropen_any fs.toNat cn.toNat ep h (by omega) (by omega) he hp
    rwa [← e1, ← e2] at this
end
theorem hentOpen (vs : Array Value) (w : World) : (callFunc 22 vs).run Try.prog w = .ok (.enter 22 vs) w := by kernel_rfl
theorem hentROpen (vs : Array Value) (w : World) : (callFunc 29 vs).run Try.prog w = .ok (.enter 29 vs) w := by kernel_rfl
set_option maxHeartbeats 8000000 in
theorem opened_any (W w : World) (bx bd be : Nat) (Z Y : Nat → Prop) (a : U) (lv mv : Value) (fs cn : Int) (ep : Nat) (h : Du W w bx bd be Z Y a a lv mv fs cn ep) (h9 : fs ≤ 9223372036854775807) (he : ep < 4294967296) (hp : a.P.length < 900000) :
    Calls Try.prog 9 #[pt bx] w fun e w' => e = .returned (.bool true) ∧ Alike W w' bx bd be fs cn ep a.L.length (a.P.length + 1) ∧ (fs < 0 ∨ 4096 < fs → w'.cell? ⟨bx, 1, none⟩ = some (.pointer none)) := by
  have H := hid h; have H9 := hid h9; have HE := hid he; have HP := hid hp
  have HLN := hid (opn_len a fs cn ep)
  obtain ⟨r, hr⟩ : ∃ r, opn a fs cn ep = r := ⟨_, rfl⟩
  have HR := hid hr
  rw [hr] at HLN
  have x0 : w.cell? ⟨bx, 0, none⟩ = some (pt bd) := h.blk.cell 0
  have x4 : w.cell? ⟨bx, 4, none⟩ = some (.int .i64 fs) := h.blk.cell 4
  have x5 : w.cell? ⟨bx, 5, none⟩ = some (.int .i64 cn) := h.blk.cell 5
  have x6 : w.cell? ⟨bx, 6, none⟩ = some (.int .u32 (ep : Int)) := h.blk.cell 6
  clear h h9 he hp hr
  go_enter Try.func9, Try.ntmps9
  go_wp2_with fail
  have hold : Facts.hold [(3, fun w' => w'.cell? ⟨bx, 0, none⟩ = some (pt bd)), (7, fun w' => w'.cell? ⟨bx, 4, none⟩ = some (.int .i64 fs)), (11, fun w' => w'.cell? ⟨bx, 5, none⟩ = some (.int .i64 cn)), (15, fun w' => w'.cell? ⟨bx, 6, none⟩ = some (.int .u32 (ep : Int)))] w.drew := Facts.cons_hold x0 (Facts.cons_hold x4 (Facts.cons_hold x5 (Facts.cons_hold x6 (Facts.nil_hold _))))
  refine wpD_region hold (by kernel_rfl) 24 rfl ?_
  (refine wpD_plain 0 (v := ?_) rfl (by kernel_rfl) (by kernel_rfl) (by kernel_rfl) (fun _ _ _ h => h) (by rfl) ?_ (by assumption) ?_; rotate_left; (intro _w; go_simp; try with_reducible rfl); simp only [Act.put, List.setIfInBounds_toArray, List.set_cons_zero, List.set_cons_succ])
  (refine wpD_plain 1 (v := ?_) rfl (by kernel_rfl) (by kernel_rfl) (by kernel_rfl) (fun _ _ _ h => h) (by rfl) ?_ (by assumption) ?_; rotate_left; (intro _w; go_simp; try with_reducible rfl); simp only [Act.put, List.setIfInBounds_toArray, List.set_cons_zero, List.set_cons_succ])
  (refine wpD_plain 2 (v := ?_) rfl (by kernel_rfl) (by kernel_rfl) (by kernel_rfl) (fun _ _ _ h => h) (by rfl) ?_ (by assumption) ?_; rotate_left; (intro _w; go_simp; try with_reducible rfl); simp only [Act.put, List.setIfInBounds_toArray, List.set_cons_zero, List.set_cons_succ])
  (refine wpD_take 3 _ rfl (by kernel_rfl) (by kernel_rfl) (by kernel_rfl) (fun _ _ _ h => h) List.mem_cons_self (by rfl) (v := ?_) ?_ (by assumption) ?_; rotate_left; (intro _w _hw; go_simp; try with_reducible rfl); simp only [Act.put, List.setIfInBounds_toArray, List.set_cons_zero, List.set_cons_succ])
  (refine wpD_plain 4 (v := ?_) rfl (by kernel_rfl) (by kernel_rfl) (by kernel_rfl) (fun _ _ _ h => h) (by rfl) ?_ (by assumption) ?_; rotate_left; (intro _w; go_simp; try with_reducible rfl); simp only [Act.put, List.setIfInBounds_toArray, List.set_cons_zero, List.set_cons_succ])
  (refine wpD_plain 5 (v := ?_) rfl (by kernel_rfl) (by kernel_rfl) (by kernel_rfl) (fun _ _ _ h => h) (by rfl) ?_ (by assumption) ?_; rotate_left; (intro _w; go_simp; try with_reducible rfl); simp only [Act.put, List.setIfInBounds_toArray, List.set_cons_zero, List.set_cons_succ])
  (refine wpD_plain 6 (v := ?_) rfl (by kernel_rfl) (by kernel_rfl) (by kernel_rfl) (fun _ _ _ h => h) (by rfl) ?_ (by assumption) ?_; rotate_left; (intro _w; go_simp; try with_reducible rfl); simp only [Act.put, List.setIfInBounds_toArray, List.set_cons_zero, List.set_cons_succ])
  (refine wpD_take 7 _ rfl (by kernel_rfl) (by kernel_rfl) (by kernel_rfl) (fun _ _ _ h => h) (List.mem_cons_of_mem _ List.mem_cons_self) (by rfl) (v := ?_) ?_ (by assumption) ?_; rotate_left; (intro _w _hw; go_simp; try with_reducible rfl); simp only [Act.put, List.setIfInBounds_toArray, List.set_cons_zero, List.set_cons_succ])
  (refine wpD_plain 8 (v := ?_) rfl (by kernel_rfl) (by kernel_rfl) (by kernel_rfl) (fun _ _ _ h => h) (by rfl) ?_ (by assumption) ?_; rotate_left; (intro _w; go_simp; try with_reducible rfl); simp only [Act.put, List.setIfInBounds_toArray, List.set_cons_zero, List.set_cons_succ])
  (refine wpD_plain 9 (v := ?_) rfl (by kernel_rfl) (by kernel_rfl) (by kernel_rfl) (fun _ _ _ h => h) (by rfl) ?_ (by assumption) ?_; rotate_left; (intro _w; go_simp; try with_reducible rfl); simp only [Act.put, List.setIfInBounds_toArray, List.set_cons_zero, List.set_cons_succ])
  (refine wpD_plain 10 (v := ?_) rfl (by kernel_rfl) (by kernel_rfl) (by kernel_rfl) (fun _ _ _ h => h) (by rfl) ?_ (by assumption) ?_; rotate_left; (intro _w; go_simp; try with_reducible rfl); simp only [Act.put, List.setIfInBounds_toArray, List.set_cons_zero, List.set_cons_succ])
  (refine wpD_take 11 _ rfl (by kernel_rfl) (by kernel_rfl) (by kernel_rfl) (fun _ _ _ h => h) (List.mem_cons_of_mem _ (List.mem_cons_of_mem _ List.mem_cons_self)) (by rfl) (v := ?_) ?_ (by assumption) ?_; rotate_left; (intro _w _hw; go_simp; try with_reducible rfl); simp only [Act.put, List.setIfInBounds_toArray, List.set_cons_zero, List.set_cons_succ])
  (refine wpD_plain 12 (v := ?_) rfl (by kernel_rfl) (by kernel_rfl) (by kernel_rfl) (fun _ _ _ h => h) (by rfl) ?_ (by assumption) ?_; rotate_left; (intro _w; go_simp; try with_reducible rfl); simp only [Act.put, List.setIfInBounds_toArray, List.set_cons_zero, List.set_cons_succ])
  (refine wpD_plain 13 (v := ?_) rfl (by kernel_rfl) (by kernel_rfl) (by kernel_rfl) (fun _ _ _ h => h) (by rfl) ?_ (by assumption) ?_; rotate_left; (intro _w; go_simp; try with_reducible rfl); simp only [Act.put, List.setIfInBounds_toArray, List.set_cons_zero, List.set_cons_succ])
  (refine wpD_plain 14 (v := ?_) rfl (by kernel_rfl) (by kernel_rfl) (by kernel_rfl) (fun _ _ _ h => h) (by rfl) ?_ (by assumption) ?_; rotate_left; (intro _w; go_simp; try with_reducible rfl); simp only [Act.put, List.setIfInBounds_toArray, List.set_cons_zero, List.set_cons_succ])
  (refine wpD_take 15 _ rfl (by kernel_rfl) (by kernel_rfl) (by kernel_rfl) (fun _ _ _ h => h) (List.mem_cons_of_mem _ (List.mem_cons_of_mem _ (List.mem_cons_of_mem _ List.mem_cons_self))) (by rfl) (v := ?_) ?_ (by assumption) ?_; rotate_left; (intro _w _hw; go_simp; try with_reducible rfl); simp only [Act.put, List.setIfInBounds_toArray, List.set_cons_zero, List.set_cons_succ])
  refine wpD_only 16 [] rfl (by kernel_rfl) (by kernel_rfl) (by rfl) (fun K16 hK16 => ?_)
  refine wp_call (.func 22) _ _ rfl 22 [] rfl hentOpen [pt bd, .int .i64 fs, .int .i64 cn, .int .u32 (ep : Int)] (by rfl) ?_
  refine (dopen_all (w := w.drew) (D.Rep.no H.out.d (Fr.refl No w).drew) fs cn H9.out HE.out (by have := HP.out; omega)).mono ?_
  rw [HR.out]
  rintro e w1 ⟨Z1, f1, g1, hm⟩
  have hd1 : Dk w1 bd Z1 r.2.1 := by
    cases ho : r.2.2 with
    | none => rw [ho] at hm; exact hm.2
    | some p => rw [ho] at hm; obtain ⟨bg, v, -, -, ht, -⟩ := hm; exact ht.1
  have HD1 := hid ((H.out.no (Fr.refl No w).drew).ofD hd1 f1 g1 H.out.zD)
  have G1 := hid g1; have F1 := hid f1
  have y2 : w1.cell? ⟨bx, 2, none⟩ = some (pt be) := HD1.out.blk.cell 2
  have y4 : w1.cell? ⟨bx, 4, none⟩ = some (.int .i64 fs) := HD1.out.blk.cell 4
  have y5 : w1.cell? ⟨bx, 5, none⟩ = some (.int .i64 cn) := HD1.out.blk.cell 5
  have y6 : w1.cell? ⟨bx, 6, none⟩ = some (.int .u32 (ep : Int)) := HD1.out.blk.cell 6
  clear x0 x4 x5 x6 hold hd1 f1 g1
  obtain ⟨r1, r2, r3⟩ := r
  cases r3 with
  | none =>
    obtain ⟨rfl, -⟩ := hm
    refine ⟨_, rfl, ?_⟩
    refine hK16 _ _ (Facts.nil_hold _) ?_
    clear hK16 K16
    simp only [Act.put, List.setIfInBounds_toArray, List.set_cons_zero, List.set_cons_succ]
    have hold : Facts.hold [] w1 := Facts.nil_hold _
    (refine wpD_plain 17 (v := ?_) rfl (by kernel_rfl) (by kernel_rfl) (by kernel_rfl) (fun _ _ _ h => h) (by rfl) ?_ (by assumption) ?_; rotate_left; (intro _w; go_simp; try with_reducible rfl); simp only [Act.put, List.setIfInBounds_toArray, List.set_cons_zero, List.set_cons_succ])
    (refine wpD_plain 18 (v := ?_) rfl (by kernel_rfl) (by kernel_rfl) (by kernel_rfl) (fun _ _ _ h => h) (by rfl) ?_ (by assumption) ?_; rotate_left; (intro _w; go_simp; try with_reducible rfl); simp only [Act.put, List.setIfInBounds_toArray, List.set_cons_zero, List.set_cons_succ])
    (refine wpD_plain 19 (v := ?_) rfl (by kernel_rfl) (by kernel_rfl) (by kernel_rfl) (fun _ _ _ h => h) (by rfl) ?_ (by assumption) ?_; rotate_left; (intro _w; go_simp; try with_reducible rfl); simp only [Act.put, List.setIfInBounds_toArray, List.set_cons_zero, List.set_cons_succ])
    (refine wpD_plain 20 (v := ?_) rfl (by kernel_rfl) (by kernel_rfl) (by kernel_rfl) (fun _ _ _ h => h) (by rfl) ?_ (by assumption) ?_; rotate_left; (intro _w; go_simp; try with_reducible rfl); simp only [Act.put, List.setIfInBounds_toArray, List.set_cons_zero, List.set_cons_succ])
    (refine wpD_plain 21 (v := ?_) rfl (by kernel_rfl) (by kernel_rfl) (by kernel_rfl) (fun _ _ _ h => h) (by rfl) ?_ (by assumption) ?_; rotate_left; (intro _w; go_simp; try with_reducible rfl); simp only [Act.put, List.setIfInBounds_toArray, List.set_cons_zero, List.set_cons_succ])
    (refine wpD_plain 22 (v := ?_) rfl (by kernel_rfl) (by kernel_rfl) (by kernel_rfl) (fun _ _ _ h => h) (by rfl) ?_ (by assumption) ?_; rotate_left; (intro _w; go_simp; try with_reducible rfl); simp only [Act.put, List.setIfInBounds_toArray, List.set_cons_zero, List.set_cons_succ])
    (refine wpD_plain 23 (v := ?_) rfl (by kernel_rfl) (by kernel_rfl) (by kernel_rfl) (fun _ _ _ h => h) (by rfl) ?_ (by assumption) ?_; rotate_left; (intro _w; go_simp; try with_reducible rfl); simp only [Act.put, List.setIfInBounds_toArray, List.set_cons_zero, List.set_cons_succ])
    clear hold
    refine wpD_done (by kernel_rfl) ?_ _
    try simp only [Act.put, List.setIfInBounds_toArray, List.set_cons_zero, List.set_cons_succ]
    go_wp2_with fail
    have hold : Facts.hold [(3, fun w' => w'.cell? ⟨bx, 2, none⟩ = some (pt be)), (7, fun w' => w'.cell? ⟨bx, 4, none⟩ = some (.int .i64 fs)), (11, fun w' => w'.cell? ⟨bx, 5, none⟩ = some (.int .i64 cn)), (15, fun w' => w'.cell? ⟨bx, 6, none⟩ = some (.int .u32 (ep : Int)))] w1.drew := Facts.cons_hold y2 (Facts.cons_hold y4 (Facts.cons_hold y5 (Facts.cons_hold y6 (Facts.nil_hold _))))
    refine wpD_region hold (by kernel_rfl) 24 rfl ?_
    (refine wpD_plain 0 (v := ?_) rfl (by kernel_rfl) (by kernel_rfl) (by kernel_rfl) (fun _ _ _ h => h) (by rfl) ?_ (by assumption) ?_; rotate_left; (intro _w; go_simp; try with_reducible rfl); simp only [Act.put, List.setIfInBounds_toArray, List.set_cons_zero, List.set_cons_succ])
    (refine wpD_plain 1 (v := ?_) rfl (by kernel_rfl) (by kernel_rfl) (by kernel_rfl) (fun _ _ _ h => h) (by rfl) ?_ (by assumption) ?_; rotate_left; (intro _w; go_simp; try with_reducible rfl); simp only [Act.put, List.setIfInBounds_toArray, List.set_cons_zero, List.set_cons_succ])
    (refine wpD_plain 2 (v := ?_) rfl (by kernel_rfl) (by kernel_rfl) (by kernel_rfl) (fun _ _ _ h => h) (by rfl) ?_ (by assumption) ?_; rotate_left; (intro _w; go_simp; try with_reducible rfl); simp only [Act.put, List.setIfInBounds_toArray, List.set_cons_zero, List.set_cons_succ])
    (refine wpD_take 3 _ rfl (by kernel_rfl) (by kernel_rfl) (by kernel_rfl) (fun _ _ _ h => h) List.mem_cons_self (by rfl) (v := ?_) ?_ (by assumption) ?_; rotate_left; (intro _w _hw; go_simp; try with_reducible rfl); simp only [Act.put, List.setIfInBounds_toArray, List.set_cons_zero, List.set_cons_succ])
    (refine wpD_plain 4 (v := ?_) rfl (by kernel_rfl) (by kernel_rfl) (by kernel_rfl) (fun _ _ _ h => h) (by rfl) ?_ (by assumption) ?_; rotate_left; (intro _w; go_simp; try with_reducible rfl); simp only [Act.put, List.setIfInBounds_toArray, List.set_cons_zero, List.set_cons_succ])
    (refine wpD_plain 5 (v := ?_) rfl (by kernel_rfl) (by kernel_rfl) (by kernel_rfl) (fun _ _ _ h => h) (by rfl) ?_ (by assumption) ?_; rotate_left; (intro _w; go_simp; try with_reducible rfl); simp only [Act.put, List.setIfInBounds_toArray, List.set_cons_zero, List.set_cons_succ])
    (refine wpD_plain 6 (v := ?_) rfl (by kernel_rfl) (by kernel_rfl) (by kernel_rfl) (fun _ _ _ h => h) (by rfl) ?_ (by assumption) ?_; rotate_left; (intro _w; go_simp; try with_reducible rfl); simp only [Act.put, List.setIfInBounds_toArray, List.set_cons_zero, List.set_cons_succ])
    (refine wpD_take 7 _ rfl (by kernel_rfl) (by kernel_rfl) (by kernel_rfl) (fun _ _ _ h => h) (List.mem_cons_of_mem _ List.mem_cons_self) (by rfl) (v := ?_) ?_ (by assumption) ?_; rotate_left; (intro _w _hw; go_simp; try with_reducible rfl); simp only [Act.put, List.setIfInBounds_toArray, List.set_cons_zero, List.set_cons_succ])
    (refine wpD_plain 8 (v := ?_) rfl (by kernel_rfl) (by kernel_rfl) (by kernel_rfl) (fun _ _ _ h => h) (by rfl) ?_ (by assumption) ?_; rotate_left; (intro _w; go_simp; try with_reducible rfl); simp only [Act.put, List.setIfInBounds_toArray, List.set_cons_zero, List.set_cons_succ])
    (refine wpD_plain 9 (v := ?_) rfl (by kernel_rfl) (by kernel_rfl) (by kernel_rfl) (fun _ _ _ h => h) (by rfl) ?_ (by assumption) ?_; rotate_left; (intro _w; go_simp; try with_reducible rfl); simp only [Act.put, List.setIfInBounds_toArray, List.set_cons_zero, List.set_cons_succ])
    (refine wpD_plain 10 (v := ?_) rfl (by kernel_rfl) (by kernel_rfl) (by kernel_rfl) (fun _ _ _ h => h) (by rfl) ?_ (by assumption) ?_; rotate_left; (intro _w; go_simp; try with_reducible rfl); simp only [Act.put, List.setIfInBounds_toArray, List.set_cons_zero, List.set_cons_succ])
    (refine wpD_take 11 _ rfl (by kernel_rfl) (by kernel_rfl) (by kernel_rfl) (fun _ _ _ h => h) (List.mem_cons_of_mem _ (List.mem_cons_of_mem _ List.mem_cons_self)) (by rfl) (v := ?_) ?_ (by assumption) ?_; rotate_left; (intro _w _hw; go_simp; try with_reducible rfl); simp only [Act.put, List.setIfInBounds_toArray, List.set_cons_zero, List.set_cons_succ])
    (refine wpD_plain 12 (v := ?_) rfl (by kernel_rfl) (by kernel_rfl) (by kernel_rfl) (fun _ _ _ h => h) (by rfl) ?_ (by assumption) ?_; rotate_left; (intro _w; go_simp; try with_reducible rfl); simp only [Act.put, List.setIfInBounds_toArray, List.set_cons_zero, List.set_cons_succ])
    (refine wpD_plain 13 (v := ?_) rfl (by kernel_rfl) (by kernel_rfl) (by kernel_rfl) (fun _ _ _ h => h) (by rfl) ?_ (by assumption) ?_; rotate_left; (intro _w; go_simp; try with_reducible rfl); simp only [Act.put, List.setIfInBounds_toArray, List.set_cons_zero, List.set_cons_succ])
    (refine wpD_plain 14 (v := ?_) rfl (by kernel_rfl) (by kernel_rfl) (by kernel_rfl) (fun _ _ _ h => h) (by rfl) ?_ (by assumption) ?_; rotate_left; (intro _w; go_simp; try with_reducible rfl); simp only [Act.put, List.setIfInBounds_toArray, List.set_cons_zero, List.set_cons_succ])
    (refine wpD_take 15 _ rfl (by kernel_rfl) (by kernel_rfl) (by kernel_rfl) (fun _ _ _ h => h) (List.mem_cons_of_mem _ (List.mem_cons_of_mem _ (List.mem_cons_of_mem _ List.mem_cons_self))) (by rfl) (v := ?_) ?_ (by assumption) ?_; rotate_left; (intro _w _hw; go_simp; try with_reducible rfl); simp only [Act.put, List.setIfInBounds_toArray, List.set_cons_zero, List.set_cons_succ])
    refine wpD_only 16 [] rfl (by kernel_rfl) (by kernel_rfl) (by rfl) (fun K16 hK16 => ?_)
    refine wp_call (.func 29) _ _ rfl 29 [] rfl hentROpen [pt be, .int .i64 fs, .int .i64 cn, .int .u32 (ep : Int)] (by rfl) ?_
    refine (ropen_all (w := w1.drew) (D.Rep.no HD1.out.e (Fr.refl No w1).drew) fs cn H9.out HE.out (by have := HP.out; omega)).mono ?_
    rw [HR.out]
    rintro e w2 ⟨Y2, f2, g2, hm⟩
    have hm2 : e = .returned (.tuple #[.pointer none, .slice none 0 0, .int .i64 r1]) ∧ Rk w2 be Y2 r2 := hm
    obtain ⟨rfl, he2⟩ := hm2
    have HD2 := hid ((HD1.out.no (Fr.refl No w1).drew).ofE he2 f2 g2 HD1.out.yD)
    clear hm he2 f2 g2 y2 y4 y5 y6 hold
    refine ⟨_, rfl, ?_⟩
    refine hK16 _ _ (Facts.nil_hold _) ?_
    clear hK16 K16
    simp only [Act.put, List.setIfInBounds_toArray, List.set_cons_zero, List.set_cons_succ]
    have hold : Facts.hold [] w2 := Facts.nil_hold _
    (refine wpD_plain 17 (v := ?_) rfl (by kernel_rfl) (by kernel_rfl) (by kernel_rfl) (fun _ _ _ h => h) (by rfl) ?_ (by assumption) ?_; rotate_left; (intro _w; go_simp; try with_reducible rfl); simp only [Act.put, List.setIfInBounds_toArray, List.set_cons_zero, List.set_cons_succ])
    (refine wpD_plain 18 (v := ?_) rfl (by kernel_rfl) (by kernel_rfl) (by kernel_rfl) (fun _ _ _ h => h) (by rfl) ?_ (by assumption) ?_; rotate_left; (intro _w; go_simp; try with_reducible rfl); simp only [Act.put, List.setIfInBounds_toArray, List.set_cons_zero, List.set_cons_succ])
    (refine wpD_plain 19 (v := ?_) rfl (by kernel_rfl) (by kernel_rfl) (by kernel_rfl) (fun _ _ _ h => h) (by rfl) ?_ (by assumption) ?_; rotate_left; (intro _w; go_simp; try with_reducible rfl); simp only [Act.put, List.setIfInBounds_toArray, List.set_cons_zero, List.set_cons_succ])
    (refine wpD_plain 20 (v := ?_) rfl (by kernel_rfl) (by kernel_rfl) (by kernel_rfl) (fun _ _ _ h => h) (by rfl) ?_ (by assumption) ?_; rotate_left; (intro _w; go_simp; try with_reducible rfl); simp only [Act.put, List.setIfInBounds_toArray, List.set_cons_zero, List.set_cons_succ])
    (refine wpD_plain 21 (v := ?_) rfl (by kernel_rfl) (by kernel_rfl) (by kernel_rfl) (fun _ _ _ h => h) (by rfl) ?_ (by assumption) ?_; rotate_left; (intro _w; go_simp; try with_reducible rfl); simp only [Act.put, List.setIfInBounds_toArray, List.set_cons_zero, List.set_cons_succ])
    (refine wpD_plain 22 (v := ?_) rfl (by kernel_rfl) (by kernel_rfl) (by kernel_rfl) (fun _ _ _ h => h) (by rfl) ?_ (by assumption) ?_; rotate_left; (intro _w; go_simp; try with_reducible rfl); simp only [Act.put, List.setIfInBounds_toArray, List.set_cons_zero, List.set_cons_succ])
    (refine wpD_plain 23 (v := ?_) rfl (by kernel_rfl) (by kernel_rfl) (by kernel_rfl) (fun _ _ _ h => h) (by rfl) ?_ (by assumption) ?_; rotate_left; (intro _w; go_simp; try with_reducible rfl); simp only [Act.put, List.setIfInBounds_toArray, List.set_cons_zero, List.set_cons_succ])
    clear hold
    refine wpD_done (by kernel_rfl) ?_ _
    try simp only [Act.put, List.setIfInBounds_toArray, List.set_cons_zero, List.set_cons_succ]
    go_wp2_with fail
    refine (texts_any (.slice none 0 0) (.slice none 0 0) [] [] (fun _ => False) (fun _ => False) w2 (texts_nil _ _ _ _) (texts_nil _ _ _ _) (by decide)).mono ?_
    rintro e w3 ⟨rfl, f3⟩
    have HD3 := hid (HD2.out.no f3)
    have hdec : decide (([] : List (List UInt8)) = []) = true := by simp
    rw [hdec]
    clear f3 hdec
    have z1 : w3.cell? ⟨bx, 1, none⟩ = some lv := HD3.out.blk.cell 1
    have z3 : w3.cell? ⟨bx, 3, none⟩ = some mv := HD3.out.blk.cell 3
    have q1 : w3.frozen? ⟨bx, 1, none⟩ = false := HD3.out.blk.frozen 1
    have q3 : w3.frozen? ⟨bx, 3, none⟩ = false := HD3.out.blk.frozen 3
    go_wp2_with fail
    go_ret
    exact ⟨rfl, ⟨Z1, Y2, r2, .pointer none, .pointer none, HD3.out.set2 _ _, .inl ⟨rfl, rfl⟩, HLN.out.1, HLN.out.2⟩, fun _ => (HD3.out.set2 (.pointer none) (.pointer none)).blk.cell 1⟩
  | some p =>
    obtain ⟨g, recs⟩ := p
    obtain ⟨bg, v1, rfl, hbg, ht1, hx1⟩ := hm
    have HBG : Hid (w.heap.size ≤ bg) := hid hbg
    have HT1 := hid ht1
    have HX1 := hid hx1
    obtain ⟨va, vl, vc, rfl⟩ : ∃ a l c, v1 = .slice a l c := by obtain ⟨a, l, c, e, _⟩ := hx1; exact ⟨a, l, c, e⟩
    clear hbg ht1 hx1
    refine ⟨_, rfl, ?_⟩
    refine hK16 _ _ (Facts.nil_hold _) ?_
    clear hK16 K16
    simp only [Act.put, List.setIfInBounds_toArray, List.set_cons_zero, List.set_cons_succ]
    have hold : Facts.hold [] w1 := Facts.nil_hold _
    (refine wpD_plain 17 (v := ?_) rfl (by kernel_rfl) (by kernel_rfl) (by kernel_rfl) (fun _ _ _ h => h) (by rfl) ?_ (by assumption) ?_; rotate_left; (intro _w; go_simp; try with_reducible rfl); simp only [Act.put, List.setIfInBounds_toArray, List.set_cons_zero, List.set_cons_succ])
    (refine wpD_plain 18 (v := ?_) rfl (by kernel_rfl) (by kernel_rfl) (by kernel_rfl) (fun _ _ _ h => h) (by rfl) ?_ (by assumption) ?_; rotate_left; (intro _w; go_simp; try with_reducible rfl); simp only [Act.put, List.setIfInBounds_toArray, List.set_cons_zero, List.set_cons_succ])
    (refine wpD_plain 19 (v := ?_) rfl (by kernel_rfl) (by kernel_rfl) (by kernel_rfl) (fun _ _ _ h => h) (by rfl) ?_ (by assumption) ?_; rotate_left; (intro _w; go_simp; try with_reducible rfl); simp only [Act.put, List.setIfInBounds_toArray, List.set_cons_zero, List.set_cons_succ])
    (refine wpD_plain 20 (v := ?_) rfl (by kernel_rfl) (by kernel_rfl) (by kernel_rfl) (fun _ _ _ h => h) (by rfl) ?_ (by assumption) ?_; rotate_left; (intro _w; go_simp; try with_reducible rfl); simp only [Act.put, List.setIfInBounds_toArray, List.set_cons_zero, List.set_cons_succ])
    (refine wpD_plain 21 (v := ?_) rfl (by kernel_rfl) (by kernel_rfl) (by kernel_rfl) (fun _ _ _ h => h) (by rfl) ?_ (by assumption) ?_; rotate_left; (intro _w; go_simp; try with_reducible rfl); simp only [Act.put, List.setIfInBounds_toArray, List.set_cons_zero, List.set_cons_succ])
    (refine wpD_plain 22 (v := ?_) rfl (by kernel_rfl) (by kernel_rfl) (by kernel_rfl) (fun _ _ _ h => h) (by rfl) ?_ (by assumption) ?_; rotate_left; (intro _w; go_simp; try with_reducible rfl); simp only [Act.put, List.setIfInBounds_toArray, List.set_cons_zero, List.set_cons_succ])
    (refine wpD_plain 23 (v := ?_) rfl (by kernel_rfl) (by kernel_rfl) (by kernel_rfl) (fun _ _ _ h => h) (by rfl) ?_ (by assumption) ?_; rotate_left; (intro _w; go_simp; try with_reducible rfl); simp only [Act.put, List.setIfInBounds_toArray, List.set_cons_zero, List.set_cons_succ])
    clear hold
    refine wpD_done (by kernel_rfl) ?_ _
    try simp only [Act.put, List.setIfInBounds_toArray, List.set_cons_zero, List.set_cons_succ]
    go_wp2_with fail
    have hold : Facts.hold [(3, fun w' => w'.cell? ⟨bx, 2, none⟩ = some (pt be)), (7, fun w' => w'.cell? ⟨bx, 4, none⟩ = some (.int .i64 fs)), (11, fun w' => w'.cell? ⟨bx, 5, none⟩ = some (.int .i64 cn)), (15, fun w' => w'.cell? ⟨bx, 6, none⟩ = some (.int .u32 (ep : Int)))] w1.drew := Facts.cons_hold y2 (Facts.cons_hold y4 (Facts.cons_hold y5 (Facts.cons_hold y6 (Facts.nil_hold _))))
    refine wpD_region hold (by kernel_rfl) 24 rfl ?_
    (refine wpD_plain 0 (v := ?_) rfl (by kernel_rfl) (by kernel_rfl) (by kernel_rfl) (fun _ _ _ h => h) (by rfl) ?_ (by assumption) ?_; rotate_left; (intro _w; go_simp; try with_reducible rfl); simp only [Act.put, List.setIfInBounds_toArray, List.set_cons_zero, List.set_cons_succ])
    (refine wpD_plain 1 (v := ?_) rfl (by kernel_rfl) (by kernel_rfl) (by kernel_rfl) (fun _ _ _ h => h) (by rfl) ?_ (by assumption) ?_; rotate_left; (intro _w; go_simp; try with_reducible rfl); simp only [Act.put, List.setIfInBounds_toArray, List.set_cons_zero, List.set_cons_succ])
    (refine wpD_plain 2 (v := ?_) rfl (by kernel_rfl) (by kernel_rfl) (by kernel_rfl) (fun _ _ _ h => h) (by rfl) ?_ (by assumption) ?_; rotate_left; (intro _w; go_simp; try with_reducible rfl); simp only [Act.put, List.setIfInBounds_toArray, List.set_cons_zero, List.set_cons_succ])
    (refine wpD_take 3 _ rfl (by kernel_rfl) (by kernel_rfl) (by kernel_rfl) (fun _ _ _ h => h) List.mem_cons_self (by rfl) (v := ?_) ?_ (by assumption) ?_; rotate_left; (intro _w _hw; go_simp; try with_reducible rfl); simp only [Act.put, List.setIfInBounds_toArray, List.set_cons_zero, List.set_cons_succ])
    (refine wpD_plain 4 (v := ?_) rfl (by kernel_rfl) (by kernel_rfl) (by kernel_rfl) (fun _ _ _ h => h) (by rfl) ?_ (by assumption) ?_; rotate_left; (intro _w; go_simp; try with_reducible rfl); simp only [Act.put, List.setIfInBounds_toArray, List.set_cons_zero, List.set_cons_succ])
    (refine wpD_plain 5 (v := ?_) rfl (by kernel_rfl) (by kernel_rfl) (by kernel_rfl) (fun _ _ _ h => h) (by rfl) ?_ (by assumption) ?_; rotate_left; (intro _w; go_simp; try with_reducible rfl); simp only [Act.put, List.setIfInBounds_toArray, List.set_cons_zero, List.set_cons_succ])
    (refine wpD_plain 6 (v := ?_) rfl (by kernel_rfl) (by kernel_rfl) (by kernel_rfl) (fun _ _ _ h => h) (by rfl) ?_ (by assumption) ?_; rotate_left; (intro _w; go_simp; try with_reducible rfl); simp only [Act.put, List.setIfInBounds_toArray, List.set_cons_zero, List.set_cons_succ])
    (refine wpD_take 7 _ rfl (by kernel_rfl) (by kernel_rfl) (by kernel_rfl) (fun _ _ _ h => h) (List.mem_cons_of_mem _ List.mem_cons_self) (by rfl) (v := ?_) ?_ (by assumption) ?_; rotate_left; (intro _w _hw; go_simp; try with_reducible rfl); simp only [Act.put, List.setIfInBounds_toArray, List.set_cons_zero, List.set_cons_succ])
    (refine wpD_plain 8 (v := ?_) rfl (by kernel_rfl) (by kernel_rfl) (by kernel_rfl) (fun _ _ _ h => h) (by rfl) ?_ (by assumption) ?_; rotate_left; (intro _w; go_simp; try with_reducible rfl); simp only [Act.put, List.setIfInBounds_toArray, List.set_cons_zero, List.set_cons_succ])
    (refine wpD_plain 9 (v := ?_) rfl (by kernel_rfl) (by kernel_rfl) (by kernel_rfl) (fun _ _ _ h => h) (by rfl) ?_ (by assumption) ?_; rotate_left; (intro _w; go_simp; try with_reducible rfl); simp only [Act.put, List.setIfInBounds_toArray, List.set_cons_zero, List.set_cons_succ])
    (refine wpD_plain 10 (v := ?_) rfl (by kernel_rfl) (by kernel_rfl) (by kernel_rfl) (fun _ _ _ h => h) (by rfl) ?_ (by assumption) ?_; rotate_left; (intro _w; go_simp; try with_reducible rfl); simp only [Act.put, List.setIfInBounds_toArray, List.set_cons_zero, List.set_cons_succ])
    (refine wpD_take 11 _ rfl (by kernel_rfl) (by kernel_rfl) (by kernel_rfl) (fun _ _ _ h => h) (List.mem_cons_of_mem _ (List.mem_cons_of_mem _ List.mem_cons_self)) (by rfl) (v := ?_) ?_ (by assumption) ?_; rotate_left; (intro _w _hw; go_simp; try with_reducible rfl); simp only [Act.put, List.setIfInBounds_toArray, List.set_cons_zero, List.set_cons_succ])
    (refine wpD_plain 12 (v := ?_) rfl (by kernel_rfl) (by kernel_rfl) (by kernel_rfl) (fun _ _ _ h => h) (by rfl) ?_ (by assumption) ?_; rotate_left; (intro _w; go_simp; try with_reducible rfl); simp only [Act.put, List.setIfInBounds_toArray, List.set_cons_zero, List.set_cons_succ])
    (refine wpD_plain 13 (v := ?_) rfl (by kernel_rfl) (by kernel_rfl) (by kernel_rfl) (fun _ _ _ h => h) (by rfl) ?_ (by assumption) ?_; rotate_left; (intro _w; go_simp; try with_reducible rfl); simp only [Act.put, List.setIfInBounds_toArray, List.set_cons_zero, List.set_cons_succ])
    (refine wpD_plain 14 (v := ?_) rfl (by kernel_rfl) (by kernel_rfl) (by kernel_rfl) (fun _ _ _ h => h) (by rfl) ?_ (by assumption) ?_; rotate_left; (intro _w; go_simp; try with_reducible rfl); simp only [Act.put, List.setIfInBounds_toArray, List.set_cons_zero, List.set_cons_succ])
    (refine wpD_take 15 _ rfl (by kernel_rfl) (by kernel_rfl) (by kernel_rfl) (fun _ _ _ h => h) (List.mem_cons_of_mem _ (List.mem_cons_of_mem _ (List.mem_cons_of_mem _ List.mem_cons_self))) (by rfl) (v := ?_) ?_ (by assumption) ?_; rotate_left; (intro _w _hw; go_simp; try with_reducible rfl); simp only [Act.put, List.setIfInBounds_toArray, List.set_cons_zero, List.set_cons_succ])
    refine wpD_only 16 [] rfl (by kernel_rfl) (by kernel_rfl) (by rfl) (fun K16 hK16 => ?_)
    refine wp_call (.func 29) _ _ rfl 29 [] rfl hentROpen [pt be, .int .i64 fs, .int .i64 cn, .int .u32 (ep : Int)] (by rfl) ?_
    refine (ropen_all (w := w1.drew) (D.Rep.no HD1.out.e (Fr.refl No w1).drew) fs cn H9.out HE.out (by have := HP.out; omega)).mono ?_
    rw [HR.out]
    rintro e w2 ⟨Y2, f2, g2, hm⟩
    have hm2 : ∃ bm v, e = .returned (.tuple #[.pointer (some ⟨bm, 0, none⟩), v, .int .i64 0]) ∧ w1.drew.heap.size ≤ bm ∧ AtR w2 bm be Y2 g r2 ∧ TextsIn w2 (fun k => w1.drew.heap.size ≤ k ∧ ¬ Y2 k ∧ k ≠ bm) v recs := hm
    obtain ⟨bm, v2, rfl, hbm, ht2, hx2⟩ := hm2
    have HD2 := hid ((HD1.out.no (Fr.refl No w1).drew).ofE ht2.1 f2 g2 HD1.out.yD)
    have HDL : Hid (Dl W w2 bx bd be Z1 Y2 r2 r2 bg bm g g) := hid (by
      have hW := H.out.fr.size
      have hg1 : bg < w1.heap.size := HT1.out.2.1.lt
      have hyb : ¬ Y bg := fun e => by have := H.out.e.lt bg e; have := HBG.out; omega
      have hbm1 : w1.heap.size ≤ bm := hbm
      have hx0 : bx < w.heap.size := H.out.blk.lt
      have h01 : w.heap.size ≤ w1.heap.size := F1.out.size
      refine ⟨HT1.out.2.1.fr (Fr.trans' (b := w1.drew) (Fr.refl Y w1).drew f2) hyb, ht2.2.1, HT1.out.2.2.1, fun e => (g2 _ e).elim hyb (fun e => by have e2 : w1.heap.size ≤ bg := e; omega), fun e => by have := HD1.out.d.lt bm e; omega, ht2.2.2.1, by omega, by have := HBG.out; omega, by omega, by have := HBG.out; omega, by omega, HT1.out.2.2.2, ht2.2.2.2⟩)
    have HTX : Hid (TextsIn w2 (fun _ => True) (.slice va vl vc) recs) := hid ((HX1.out.fr (Fr.trans' (b := w1.drew) (Fr.refl Y w1).drew f2) (fun k hk hk2 e => by have := H.out.e.lt k e; have := hk.1; have e3 : w.drew.heap.size = w.heap.size := rfl; omega)).mono (fun _ _ => trivial))
    have HTY := hid hx2
    obtain ⟨va2, vl2, vc2, rfl⟩ : ∃ a l c, v2 = .slice a l c := by obtain ⟨a, l, c, e, _⟩ := hx2; exact ⟨a, l, c, e⟩
    have hrl : recs.length ≤ 9223372036854775807 := by
      have h1 := opn_recs HR.out
      have h2 := H.out.d.ok.n1
      simp [U.st] at h2
      omega
    have HRL := hid hrl
    clear hm hbm ht2 hx2 f2 g2 y2 y4 y5 y6 hold hrl
    refine ⟨_, rfl, ?_⟩
    refine hK16 _ _ (Facts.nil_hold _) ?_
    clear hK16 K16
    simp only [Act.put, List.setIfInBounds_toArray, List.set_cons_zero, List.set_cons_succ]
    have hold : Facts.hold [] w2 := Facts.nil_hold _
    (refine wpD_plain 17 (v := ?_) rfl (by kernel_rfl) (by kernel_rfl) (by kernel_rfl) (fun _ _ _ h => h) (by rfl) ?_ (by assumption) ?_; rotate_left; (intro _w; go_simp; try with_reducible rfl); simp only [Act.put, List.setIfInBounds_toArray, List.set_cons_zero, List.set_cons_succ])
    (refine wpD_plain 18 (v := ?_) rfl (by kernel_rfl) (by kernel_rfl) (by kernel_rfl) (fun _ _ _ h => h) (by rfl) ?_ (by assumption) ?_; rotate_left; (intro _w; go_simp; try with_reducible rfl); simp only [Act.put, List.setIfInBounds_toArray, List.set_cons_zero, List.set_cons_succ])
    (refine wpD_plain 19 (v := ?_) rfl (by kernel_rfl) (by kernel_rfl) (by kernel_rfl) (fun _ _ _ h => h) (by rfl) ?_ (by assumption) ?_; rotate_left; (intro _w; go_simp; try with_reducible rfl); simp only [Act.put, List.setIfInBounds_toArray, List.set_cons_zero, List.set_cons_succ])
    (refine wpD_plain 20 (v := ?_) rfl (by kernel_rfl) (by kernel_rfl) (by kernel_rfl) (fun _ _ _ h => h) (by rfl) ?_ (by assumption) ?_; rotate_left; (intro _w; go_simp; try with_reducible rfl); simp only [Act.put, List.setIfInBounds_toArray, List.set_cons_zero, List.set_cons_succ])
    (refine wpD_plain 21 (v := ?_) rfl (by kernel_rfl) (by kernel_rfl) (by kernel_rfl) (fun _ _ _ h => h) (by rfl) ?_ (by assumption) ?_; rotate_left; (intro _w; go_simp; try with_reducible rfl); simp only [Act.put, List.setIfInBounds_toArray, List.set_cons_zero, List.set_cons_succ])
    (refine wpD_plain 22 (v := ?_) rfl (by kernel_rfl) (by kernel_rfl) (by kernel_rfl) (fun _ _ _ h => h) (by rfl) ?_ (by assumption) ?_; rotate_left; (intro _w; go_simp; try with_reducible rfl); simp only [Act.put, List.setIfInBounds_toArray, List.set_cons_zero, List.set_cons_succ])
    (refine wpD_plain 23 (v := ?_) rfl (by kernel_rfl) (by kernel_rfl) (by kernel_rfl) (fun _ _ _ h => h) (by rfl) ?_ (by assumption) ?_; rotate_left; (intro _w; go_simp; try with_reducible rfl); simp only [Act.put, List.setIfInBounds_toArray, List.set_cons_zero, List.set_cons_succ])
    clear hold
    refine wpD_done (by kernel_rfl) ?_ _
    try simp only [Act.put, List.setIfInBounds_toArray, List.set_cons_zero, List.set_cons_succ]
    go_wp2_with fail
    refine (texts_any _ _ recs recs _ _ w2 HTX.out HTY.out HRL.out).mono ?_
    rintro e w3 ⟨rfl, f3⟩
    have HD3 := hid (HD2.out.no f3); have HL3 := hid (HDL.out.no f3)
    have hdec : decide (recs = recs) = true := by simp
    rw [hdec]
    clear f3 hdec
    have z1 : w3.cell? ⟨bx, 1, none⟩ = some lv := HD3.out.blk.cell 1
    have z3 : w3.cell? ⟨bx, 3, none⟩ = some mv := HD3.out.blk.cell 3
    have q1 : w3.frozen? ⟨bx, 1, none⟩ = false := HD3.out.blk.frozen 1
    have q3 : w3.frozen? ⟨bx, 3, none⟩ = false := HD3.out.blk.frozen 3
    go_wp2_with fail
    go_ret
    exact ⟨rfl, ⟨Z1, Y2, r2, pt bg, pt bm, HD3.out.set2 _ _, .inr ⟨bg, bm, g, rfl, rfl, HL3.out.set2 _ _⟩, HLN.out.1, HLN.out.2⟩, fun hbad => absurd hbad (opn_fs HR.out (by have h2 := H.out.d.ok.n1; simp [U.st] at h2; omega))⟩
end Go.Proofs.Ytlnolnaapnijbaa.L
