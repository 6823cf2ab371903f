/-
  Part 19 of the proof: LogL.
-/
import Derived.Test.YtflfmkokfbgclaaGreatRc18
set_option linter.unusedSimpArgs false
set_option linter.unusedVariables false
namespace Go.Proofs.YtflfmkokfbgclaaGreat.L
set_option maxRecDepth 100000
open Go.RowKit K

def str (l : List UInt8) : Value := .string ⟨l.toArray⟩
def strs (L : List (List UInt8)) : List Value := L.map str
@[simp] theorem strs_length (L : List (List UInt8)) : (strs L).length = L.length := by simp [strs]
/-- The value is a slice of these texts; they lie in a block of E. -/
def TextsIn (w : World) (E : Nat → Prop) (v : Value) (L : List (List UInt8)) : Prop :=
  ∃ a len cap, v = .slice a len cap ∧ L.length = len ∧ len ≤ cap ∧ (len = 0 ∨ ∃ g o, a = some ⟨g, o, none⟩ ∧ E g ∧ g < w.heap.size ∧ w.rangeAt g o (strs L))
theorem TextsIn.mono {w : World} {E E' : Nat → Prop} {v : Value} {L : List (List UInt8)} (h : TextsIn w E v L) (he : ∀ k, E k → E' k) : TextsIn w E' v L := by
  obtain ⟨a, len, cap, h1, h2, h0, h3⟩ := h
  exact ⟨a, len, cap, h1, h2, h0, h3.imp id fun ⟨g, o, r1, r2, r3⟩ => ⟨g, o, r1, he g r2, r3⟩⟩
theorem TextsIn.fr {w w' : World} {E D : Nat → Prop} {v : Value} {L : List (List UInt8)} (h : TextsIn w E v L) (hf : Fr D w w') (hd : ∀ k, E k → k < w.heap.size → ¬ D k) : TextsIn w' E v L := by
  obtain ⟨a, len, cap, h1, h2, h0, h3⟩ := h
  exact ⟨a, len, cap, h1, h2, h0, h3.imp id fun ⟨g, o, r1, r2, r3, r4⟩ => ⟨g, o, r1, r2, Nat.lt_of_lt_of_le r3 hf.size, hf.range r4 (hd g r2 r3)⟩⟩
theorem texts_nil (w : World) (E : Nat → Prop) (a : Option Addr) (c : Nat) : TextsIn w E (.slice a 0 c) [] := ⟨a, 0, c, rfl, rfl, Nat.zero_le _, .inl rfl⟩
theorem own_texts {w : World} {base : Nat} {e : TypeId} {v : Value} {n : Nat} {L : List (List UInt8)} (h : w.ownsRow base e 1 v n (strs L)) : TextsIn w (fun k => base ≤ k) v L := by
  have hn : L.length = n := by have := h.1; rw [strs_length, Nat.mul_one] at this; exact this
  rcases h.2 with ⟨rfl, h0⟩ | ⟨g, cap, cur, rfl, hb, hg, h1, h2, h3, h4⟩
  · have : L = [] := by
      have h00 : n = 0 := h0
      rw [h00] at hn
      exact List.eq_nil_of_length_eq_zero hn
    subst this
    exact texts_nil _ _ _ _
  · subst hn
    refine ⟨_, _, _, rfl, rfl, h1, .inr ⟨g, 0, rfl, hb, (Array.getElem?_eq_some_iff.1 hg).1, ?_⟩⟩
    exact Blk.range (t := e) (cs := cur.toList) (by simpa [Blk] using hg) 0 _ (by rw [List.drop_zero, strs_length, ← Nat.mul_one L.length]; exact h4)

def pc (s : Sec) : Pc := ⟨s.life, decide (s.kind % 2 = 1), decide (s.kind / 2 = 1), s.bytes.take s.size⟩
theorem scan_go {g : Lg} {h : Nat} {V : Nat → Option Pc} {n p : Nat} {c : Sc} {s : Sec} (hV : V p = piece g.epoch p s) (hg : g.life = h + 1) (hr : s.right = true) (hp : s.place = p) (hc : cont g s (!c.ins) c.last = true) :
    scan h V (n + 1) p c = scan h V n (p + 1) (c.step p (pc s)) ∧ s.size ≤ 48 ∧ s.kind ≤ 3 ∧ s.life ≤ h := by
  simp only [cont, Bool.and_eq_true, decide_eq_true_eq, Bool.or_eq_true, beq_iff_eq] at hc
  obtain ⟨⟨⟨⟨⟨⟨⟨h1, h2⟩, h3⟩, h4⟩, h5⟩, h6⟩, h7⟩, h8⟩ := hc
  have e : piece g.epoch p s = some (pc s) := if_pos ⟨hr, h1, hp, h3, h4, h8⟩
  refine ⟨?_, h3, h4, by omega⟩
  rw [scan, hV, e]
  have hf : c.fits h (pc s) = true := by
    have hlh : s.life ≤ h := by omega
    unfold Sc.fits pc
    cases hi : c.ins
    · rw [hi] at h5
      simp [hlh, h6, ← h5]
    · rw [hi] at h5 h7
      have h7' : s.life = c.last := by simpa using h7
      simp [h7', ← h5]
      omega
  simp only [hf, if_true]
theorem scan_stop {g : Lg} {h : Nat} {V : Nat → Option Pc} {n p : Nat} {c : Sc} {s : Sec} (hV : V p = piece g.epoch p s) (hg : g.life = h + 1) (hc : s.right = true → s.place = p → cont g s (!c.ins) c.last = false) :
    scan h V (n + 1) p c = (c.recs, c.next) := by
  rw [scan, hV]
  by_cases hx : s.right = true ∧ s.epoch = g.epoch ∧ s.place = p ∧ s.size ≤ 48 ∧ s.kind ≤ 3 ∧ (s.kind / 2 = 1 ∨ s.size = 48)
  · have e : piece g.epoch p s = some (pc s) := if_pos hx
    rw [e]
    have hc' := hc hx.1 hx.2.2.1
    have hf : c.fits h (pc s) = false := by
      rw [Bool.eq_false_iff]
      intro hf
      rw [Bool.eq_false_iff] at hc'
      apply hc'
      unfold Sc.fits pc at hf
      unfold cont
      cases hi : c.ins
      · simp [hi] at hf ⊢
        have h1 := hf.1.1
        simp [hx.2.1, hx.2.2.2.1, hx.2.2.2.2.1, hf.1.2, hf.2, hx.2.2.2.2.2]
        omega
      · simp [hi] at hf ⊢
        have h1 := hf.1.1
        simp [hx.2.1, hx.2.2.2.1, hx.2.2.2.2.1, hf.1.2, hf.2, hx.2.2.2.2.2]
        omega
    simp [hf]
  · have e : piece g.epoch p s = none := if_neg hx
    rw [e]
/-- Behind n sectors: how the parts stand. -/
structure Sc.Ok (c : Sc) (p : Nat) : Prop where
  ins : c.ins = false ↔ p = c.next
  part : c.ins = false → c.part = []
  len : c.part.length ≤ 48 * p
  recs : c.recs.length + 1 ≤ c.next
  next : 1 ≤ c.next
  le : c.next ≤ p
  last : c.last < 4294967296

def lenV : Value → Nat
  | .slice _ l _ => l
  | _ => 0
theorem info9z : (Tryz.prog.info? 9).map (fun i => (i.zero, i.size, i.bytes)) = some (some (.string ⟨#[]⟩), 1, 16) := by kernel_rfl
theorem info5z : (Tryz.prog.info? 5).map (fun i => (i.zero, i.size, i.bytes)) = some (some (.int .u8 0), 1, 1) := by kernel_rfl
theorem own_lt {w : World} {base : Nat} {e : TypeId} {size : Nat} {v : Value} {n : Nat} {xs : List Value} (h : w.ownsRow base e size v n xs) (k : Nat) (hk : v.ownBlock = some k) : k < w.heap.size := by
  rcases h.2 with ⟨rfl, _⟩ | ⟨g', cap, cur, rfl, hb, hg, _⟩
  · cases hk
  · cases hk; exact (Array.getElem?_eq_some_iff.1 hg).1
theorem frown {w w' : World} {row : Option Nat} (h : w.grownBy w' row) : Fr (fun k => row = some k) w w' := ⟨h.os, h.tape, h.output, h.size, fun k hk hn => h.block k hk (fun e => hn e.symm)⟩
theorem cont_next (g : Lg) (n : Nat) (s : Sec) (b : Bool) (l : Nat) : cont { g with next := n } s b l = cont g s b l := rfl
theorem hentCont (vs : Array Value) (w : World) : (callFunc 110 vs).run Tryz.prog w = .ok (.enter 110 vs) w := by kernel_rfl

set_option maxHeartbeats 8000000 in
theorem load_any (w : World) (bg bd : Nat) (Z : Nat → Prop) (g : Lg) (u : U) (h : At w bg bd Z g u) (hu : u.up = true) (h0 : Nat) (hg : g.life = h0 + 1) (hn : g.next = 1) :
    Calls Tryz.prog 94 #[.pointer (some ⟨bg, 0, none⟩)] w fun e w' =>
      ∃ v, e = .returned (.tuple #[v, .int .i64 0]) ∧ TextsIn w' (fun k => w.heap.size ≤ k) v (u.load g.first g.count g.epoch h0).1 ∧
        At w' bg bd Z { g with next := (u.load g.first g.count g.epoch h0).2 } u ∧ Fr (fun k => k = bg) w w' := by
  generalize hR : u.load g.first g.count g.epoch h0 = R
  have hL := h.lens
  have hfit := h.2.2.2.fit
  have hc2 := h.2.2.2.c2
  have hcn : g.count ≤ 4096 := by omega
  have hci : (g.count : Int) ≤ 4096 := by omega
  have HA0 := hid h
  have HRR : Hid (scan h0 (u.view g.first g.epoch) (g.count - 1) 1 sc0 = R) := hid hR
  have HG := hid hg
  have HFit := hid hfit
  have HLi := hid h.2.2.2.li
  obtain ⟨i9, hi9, hz9, hs9, hb9⟩ := info_parts info9z
  have I9 := hid hi9; have Z9 := hid hz9; have S9 := hid hs9; have B9 := hid hb9
  obtain ⟨i5, hi5, hz5, hs5, hb5⟩ := info_parts info5z
  have I5 := hid hi5; have Z5 := hid hz5; have S5 := hid hs5; have B5 := hid hb5
  clear h hg hR hfit hL hi9 hz9 hs9 hb9 hi5 hz5 hs5 hb5
  go_enter Tryz.func94, Tryz.ntmps94
  go_wp2_with fail
  go_step3
  go_wp2_with fail
  go_step3
  go_wp2_with fail
  go_loopw [4, 5] (fun rv lf wr => ∃ (c : Sc) (a : Option Addr) (cap : Nat), rv = .slice a c.recs.length cap ∧ lf = .int .u32 (c.last : Int) ∧ Hid (c.ins = false) ∧ Hid (c.Ok c.next) ∧ c.next ≤ g.count ∧ 1 ≤ c.next ∧ c.recs.length + 1 ≤ c.next ∧
      Hid (scan h0 (u.view g.first g.epoch) (g.count - c.next) c.next c = R) ∧ Hid (wr.ownsRow w.heap.size 9 1 rv c.recs.length (strs c.recs)) ∧
      Hid (At wr bg bd Z { g with next := c.next } u) ∧ Hid (Fr (fun k => k = bg) w wr)) (fun rv _ _ => g.count - lenV rv)
  case atStart =>
    exact ⟨sc0, none, 0, rfl, rfl, hid rfl, hid ⟨by simp [sc0], fun _ => rfl, by simp [sc0], by simp [sc0], by simp [sc0], by simp [sc0], by simp [sc0]⟩, by simp [sc0]; omega, by simp [sc0], by simp [sc0], HRR, hid (World.ownsRow_nil _ _ _ _), hid (by
      have := HA0.out
      rwa [show ({ g with next := sc0.next } : Lg) = g by cases g; simp [sc0] at hn ⊢; exact hn.symm]), hid (Fr.refl _ _)⟩
  case round =>
    obtain ⟨c0, a0, cap0, rfl, rfl, HI0, HOk0, hnc, hn1, hrn, HS0, HOwn0, HAt0, HFr0⟩ := hrel
    have cn : wr.cell? ⟨bg, 5, none⟩ = some (.int .i64 c0.next) := HAt0.out.2.1.cell 5
    go_wp2_with fail
    go_loopw [4, 5, 6, 7] (fun rv lf pv pl wr' => ∃ (c : Sc) (a : Option Addr) (cap : Nat) (pa : Option Addr) (pcap p : Nat), rv = .slice a c.recs.length cap ∧ lf = .int .u32 (c.last : Int) ∧ pv = .slice pa c.part.length pcap ∧ pl = .int .i64 (p : Int) ∧
        Hid (c.recs = c0.recs) ∧ Hid (c.next = c0.next) ∧ c0.next ≤ p ∧ p ≤ g.count ∧ Hid (c.Ok p) ∧
        Hid (scan h0 (u.view g.first g.epoch) (g.count - p) p c = R) ∧ Hid (wr'.ownsRow w.heap.size 9 1 rv c.recs.length (strs c.recs)) ∧ Hid (wr'.ownsRow w.heap.size 5 1 pv c.part.length (u8s c.part)) ∧
        Hid (∀ k, (Value.slice a c.recs.length cap).ownBlock = some k → (Value.slice pa c.part.length pcap).ownBlock ≠ some k) ∧
        Hid (At wr' bg bd Z { g with next := c0.next } u) ∧ Hid (Fr (fun k => k = bg) w wr')) (fun _ _ _ pl _ => g.count - (intOf pl).toNat)
    case atStart =>
      exact ⟨c0, a0, cap0, none, 0, c0.next, rfl, rfl, by rw [HOk0.out.part HI0.out]; rfl, rfl, hid rfl, hid rfl, Nat.le_refl _, hnc, HOk0, HS0, HOwn0, hid (by rw [HOk0.out.part HI0.out]; exact World.ownsRow_nil _ _ _ _), hid (fun k _ => by rw [HOk0.out.part HI0.out]; simp [Value.ownBlock]), HAt0, HFr0⟩
    case round =>
      obtain ⟨c, a, cap, pa, pcap, p, rfl, rfl, rfl, rfl, hrecs, hnext, hp1, hp2, HOk, HS, HOwn, HPart, HDis, HAt, HFr⟩ := hrel
      have cnt : wr.cell? ⟨bg, 2, none⟩ = some (.int .i64 g.count) := HAt.out.2.1.cell 2
      have HFIN : Hid (∀ w', Fr No wr w' → R = (c.recs, c.next) → TextsIn w' (fun k => w.heap.size ≤ k) (.slice a c.recs.length cap) R.1 ∧ At w' bg bd Z { g with next := R.2 } u ∧ Fr (fun k => k = bg) w w') := hid (fun w' hf he => by
        rw [he]
        refine ⟨?_, ?_, HFr.out.trans' hf.no⟩
        · exact own_texts (own_fr HOwn.out hf (fun _ _ e => e))
        · rw [hnext.out]
          exact HAt.out.no hf)
      by_cases hlt : p < g.count
      · have hlti : (p : Int) < g.count := by omega
        have hsec : g.first + p < u.L.length := by have := HFit.out; omega
        have HR := hid (read_up wr bg bd Z { g with next := c0.next } u p HAt.out hsec hu)
        have HSok := hid (look_sec_ok HAt.out.1 hsec)
        have HV : Hid (u.view g.first g.epoch p = piece g.epoch p (look (u.sec (g.first + p)))) := hid rfl
        simp only at HR
        generalize look (u.sec (g.first + p)) = s at HR HSok HV
        have HSl : Hid ((secCells s).length = 53) := hid (by rw [sec_len, HSok.out.by48])
        have HL := hid HOk.out.last
        have hkd : (s.kind : Int) ≤ 255 := by have := HSok.out.kd; omega
        have hpd : (s.place : Int) ≤ 65535 := by have := HSok.out.pl; omega
        have hzd : (s.size : Int) ≤ 255 := by have := HSok.out.sz; omega
        clear hsec
        go_wp2_with fail
        refine HR.out.mono ?_
        rintro e w1 ⟨rfl, hf⟩
        have HF1 := hid hf; clear hf
        go_wp2_with (first
          | ((with_reducible show wpList _ _ _ (⟨_, .alloc 148, _, _, _, _⟩ :: _) _ _); refine wpL_alloc rfl _ rfl _ zero87 (secCells noSec) rfl ?_; intro w2 HB2 HF2 HS2)
          | ((with_reducible show wpList _ _ _ (⟨_, .store 148 _ _, _, _, _, _⟩ :: _) _ _); refine wpL_store rfl _ _ _ rfl w1.heap.size 0 (secCells s) rfl rfl _ _ HB2.out (by rw [HSl.out]; decide) (by rw [info87, HSl.out]) (sec_one _) ?_; intro w3 HB3 HF3 HS3))
        have HN3 : Hid (Fr No wr w3) := hid ((HF1.out.trans' HF2.out).trans HF3.out (fun k hk => .inr (by rw [hk]; exact HF1.out.size)))
        have HB3' : Hid (Blk w3 w1.heap.size 148 (secCells s)) := hid (by have := HB3.out; rwa [spl_all (by rw [HSl.out]; rfl)] at this)
        have hb1 : wr.heap.size ≤ w1.heap.size := HF1.out.size
        have HB1 := hid hb1
        clear HB2 HF2 HS2 HB3 HF3 HS3 HF1 hb1 cnt
        have d2 : w3.cell? ⟨w1.heap.size, 2, none⟩ = some (.int .i64 s.place) := HB3'.out.cell 2
        have dr : w3.rangeAt w1.heap.size 0 (secCells s) := HB3'.out.range 0 _ (by rw [List.drop_zero, List.take_length])
        have c5 : w3.cell? ⟨bg, 5, none⟩ = some (.int .i64 c0.next) := HN3.out.cell (HAt.out.2.1.cell 5) id
        have hold : Facts.hold [(4, fun w' => w'.cell? ⟨w1.heap.size, 2, none⟩ = some (.int .i64 s.place)), (10, fun w' => w'.rangeAt w1.heap.size 0 (secCells s)), (15, fun w' => w'.cell? ⟨bg, 5, none⟩ = some (.int .i64 c0.next))] w3.drew := Facts.cons_hold d2 (Facts.cons_hold dr (Facts.cons_hold c5 (Facts.nil_hold _)))
        have HSs : Hid (g.count - p = (g.count - (p + 1)) + 1) := hid (by omega)
        by_cases hr : s.right = true
        · by_cases hpl : s.place = p
          · cases hgo : cont g s (!c.ins) c.last with
            | true =>
              have HST := hid (scan_go (n := g.count - (p + 1)) (c := c) HV.out HG.out hr hpl hgo)
              have HBE : Hid (((p : Int) == (c0.next : Int)) = !c.ins) := hid (by
                have h1 := HOk.out.ins
                rw [hnext.out] at h1
                cases hi : c.ins
                · have := h1.1 hi; simp [this]
                · have h2 : ¬ p = c0.next := fun e => by have := h1.2 e; rw [hi] at this; cases this
                  simp; omega)
              have hpi : (s.place : Int) = (p : Int) := by omega
              have HPI := hid hpi
              have HCo := hid (continues_any w3.drew bg bd Z { g with next := c0.next } u s (!c.ins) c.last (HAt.out.no HN3.out.drew) HSok.out HL.out)
              rw [cont_next, hgo] at HCo
              rw [hr]
              clear hpi hpl hgo
              refine wpD_region hold (by kernel_rfl) 21 rfl ?_
              (refine wpD_plain 0 (v := ?_) rfl (by kernel_rfl) (by kernel_rfl) (by kernel_rfl) (fun _ _ _ h => h) (by rfl) ?_ (by assumption) ?_; rotate_left; (intro _w; go_simp; try with_reducible rfl); simp only [Act.put, List.setIfInBounds_toArray, List.set_cons_zero, List.set_cons_succ])
              (refine wpD_plain 1 (v := ?_) rfl (by kernel_rfl) (by kernel_rfl) (by kernel_rfl) (fun _ _ _ h => h) (by rfl) ?_ (by assumption) ?_; rotate_left; (intro _w; go_simp; try with_reducible rfl); simp only [Act.put, List.setIfInBounds_toArray, List.set_cons_zero, List.set_cons_succ])
              (refine wpD_plain 2 (v := ?_) rfl (by kernel_rfl) (by kernel_rfl) (by kernel_rfl) (fun _ _ _ h => h) (by rfl) ?_ (by assumption) ?_; rotate_left; (intro _w; go_simp; try with_reducible rfl); simp only [Act.put, List.setIfInBounds_toArray, List.set_cons_zero, List.set_cons_succ])
              (refine wpD_plain 3 (v := ?_) rfl (by kernel_rfl) (by kernel_rfl) (by kernel_rfl) (fun _ _ _ h => h) (by rfl) ?_ (by assumption) ?_; rotate_left; (intro _w; go_simp; try with_reducible rfl); simp only [Act.put, List.setIfInBounds_toArray, List.set_cons_zero, List.set_cons_succ])
              (refine wpD_take 4 _ rfl (by kernel_rfl) (by kernel_rfl) (by kernel_rfl) (fun _ _ _ h => h) List.mem_cons_self (by rfl) (v := ?_) ?_ (by assumption) ?_; rotate_left; (intro _w _hw; go_simp; try with_reducible rfl); simp only [Act.put, List.setIfInBounds_toArray, List.set_cons_zero, List.set_cons_succ])
              (refine wpD_plain 5 (v := ?_) rfl (by kernel_rfl) (by kernel_rfl) (by kernel_rfl) (fun _ _ _ h => h) (by rfl) ?_ (by assumption) ?_; rotate_left; (intro _w; go_simp; try with_reducible rfl); simp only [Act.put, List.setIfInBounds_toArray, List.set_cons_zero, List.set_cons_succ])
              (refine wpD_plain 6 (v := (.bool false)) rfl (by kernel_rfl) (by kernel_rfl) (by kernel_rfl) (fun _ _ _ h => h) (by rfl) ?_ (by assumption) ?_; (intro _w; go_simp; exact HPI.out); simp only [Act.put, List.setIfInBounds_toArray, List.set_cons_zero, List.set_cons_succ])
              (refine wpD_plain 7 (v := ?_) rfl (by kernel_rfl) (by kernel_rfl) (by kernel_rfl) (fun _ _ _ h => h) (by rfl) ?_ (by assumption) ?_; rotate_left; (intro _w; go_simp; try with_reducible rfl); simp only [Act.put, List.setIfInBounds_toArray, List.set_cons_zero, List.set_cons_succ])
              (refine wpD_plain 8 (v := ?_) rfl (by kernel_rfl) (by kernel_rfl) (by kernel_rfl) (fun _ _ _ h => h) (by rfl) ?_ (by assumption) ?_; rotate_left; (intro _w; go_simp; try with_reducible rfl); simp only [Act.put, List.setIfInBounds_toArray, List.set_cons_zero, List.set_cons_succ])
              (refine wpD_plain 9 (v := ?_) rfl (by kernel_rfl) (by kernel_rfl) (by kernel_rfl) (fun _ _ _ h => h) (by rfl) ?_ (by assumption) ?_; rotate_left; (intro _w; go_simp; try with_reducible rfl); simp only [Act.put, List.setIfInBounds_toArray, List.set_cons_zero, List.set_cons_succ])
              (refine wpD_take 10 _ rfl (by kernel_rfl) (by kernel_rfl) (by kernel_rfl) (fun _ _ _ h => h) (List.mem_cons_of_mem _ List.mem_cons_self) (by rfl) (exec_load _ _ rfl w1.heap.size 0 rfl _ _ rfl rfl (by rw [info87, HSl.out])) (by assumption) ?_; simp only [Act.put, List.setIfInBounds_toArray, List.set_cons_zero, List.set_cons_succ])
              (refine wpD_plain 11 (v := ?_) rfl (by kernel_rfl) (by kernel_rfl) (by kernel_rfl) (fun _ _ _ h => h) (by rfl) ?_ (by assumption) ?_; rotate_left; (intro _w; go_simp; try with_reducible rfl); simp only [Act.put, List.setIfInBounds_toArray, List.set_cons_zero, List.set_cons_succ])
              (refine wpD_plain 12 (v := ?_) rfl (by kernel_rfl) (by kernel_rfl) (by kernel_rfl) (fun _ _ _ h => h) (by rfl) ?_ (by assumption) ?_; rotate_left; (intro _w; go_simp; try with_reducible rfl); simp only [Act.put, List.setIfInBounds_toArray, List.set_cons_zero, List.set_cons_succ])
              (refine wpD_plain 13 (v := ?_) rfl (by kernel_rfl) (by kernel_rfl) (by kernel_rfl) (fun _ _ _ h => h) (by rfl) ?_ (by assumption) ?_; rotate_left; (intro _w; go_simp; try with_reducible rfl); simp only [Act.put, List.setIfInBounds_toArray, List.set_cons_zero, List.set_cons_succ])
              (refine wpD_plain 14 (v := ?_) rfl (by kernel_rfl) (by kernel_rfl) (by kernel_rfl) (fun _ _ _ h => h) (by rfl) ?_ (by assumption) ?_; rotate_left; (intro _w; go_simp; try with_reducible rfl); simp only [Act.put, List.setIfInBounds_toArray, List.set_cons_zero, List.set_cons_succ])
              (refine wpD_take 15 _ rfl (by kernel_rfl) (by kernel_rfl) (by kernel_rfl) (fun _ _ _ h => h) (List.mem_cons_of_mem _ (List.mem_cons_of_mem _ List.mem_cons_self)) (by rfl) (v := ?_) ?_ (by assumption) ?_; rotate_left; (intro _w _hw; go_simp; try with_reducible rfl); simp only [Act.put, List.setIfInBounds_toArray, List.set_cons_zero, List.set_cons_succ])
              (refine wpD_plain 16 (v := (.bool (!c.ins))) rfl (by kernel_rfl) (by kernel_rfl) (by kernel_rfl) (fun _ _ _ h => h) (by rfl) ?_ (by assumption) ?_; (intro _w; go_simp; exact HBE.out); simp only [Act.put, List.setIfInBounds_toArray, List.set_cons_zero, List.set_cons_succ])
              (refine wpD_plain 17 (v := ?_) rfl (by kernel_rfl) (by kernel_rfl) (by kernel_rfl) (fun _ _ _ h => h) (by rfl) ?_ (by assumption) ?_; rotate_left; (intro _w; go_simp; try with_reducible rfl); simp only [Act.put, List.setIfInBounds_toArray, List.set_cons_zero, List.set_cons_succ])
              refine wpD_only 18 [(4, fun w' => w'.cell? ⟨w1.heap.size, 2, none⟩ = some (.int .i64 s.place)), (15, fun w' => w'.cell? ⟨bg, 5, none⟩ = some (.int .i64 c0.next))] rfl (by kernel_rfl) (by kernel_rfl) (by rfl) (fun K18 hK18 => ?_)
              refine wp_call (.func 110) _ _ rfl 110 [] rfl hentCont [.pointer (some ⟨bg, 0, none⟩), .agg (secCells s).toArray, .bool (!c.ins), .int .u32 (c.last : Int)] (by rfl) ?_
              refine HCo.out.mono ?_
              rintro e w4 ⟨rfl, hf⟩
              have HF4 : Hid (Fr No wr w4) := hid (HN3.out.drew.trans' hf)
              have HF34 : Hid (Fr No w3 w4) := hid (Fr.trans' (b := w3.drew) (Fr.refl No w3).drew hf)
              clear hf hold
              have hold : Facts.hold [(4, fun w' => w'.cell? ⟨w1.heap.size, 2, none⟩ = some (.int .i64 s.place)), (15, fun w' => w'.cell? ⟨bg, 5, none⟩ = some (.int .i64 c0.next))] w4 := Facts.cons_hold (HF34.out.cell d2 id) (Facts.cons_hold (HF34.out.cell c5 id) (Facts.nil_hold _))
              refine ⟨_, rfl, hK18 _ _ hold ?_⟩
              clear hK18 K18
              simp only [Act.put, List.setIfInBounds_toArray, List.set_cons_zero, List.set_cons_succ]
              (refine wpD_plain 19 (v := ?_) rfl (by kernel_rfl) (by kernel_rfl) (by kernel_rfl) (fun _ _ _ h => h) (by rfl) ?_ (by assumption) ?_; rotate_left; (intro _w; go_simp; try with_reducible rfl); simp only [Act.put, List.setIfInBounds_toArray, List.set_cons_zero, List.set_cons_succ])
              (refine wpD_plain 20 (v := ?_) rfl (by kernel_rfl) (by kernel_rfl) (by kernel_rfl) (fun _ _ _ h => h) (by rfl) ?_ (by assumption) ?_; rotate_left; (intro _w; go_simp; try with_reducible rfl); simp only [Act.put, List.setIfInBounds_toArray, List.set_cons_zero, List.set_cons_succ])
              refine wpD_done (by kernel_rfl) ?_ _
              clear hold d2 dr c5
              obtain ⟨hst, hz48, hk3, hlh⟩ := HST.out
              have d1 : w4.cell? ⟨w1.heap.size, 1, none⟩ = some (.int .u32 s.life) := HF34.out.cell (HB3'.out.cell 1) id
              have d3 : w4.cell? ⟨w1.heap.size, 3, none⟩ = some (.int .i64 s.kind) := HF34.out.cell (HB3'.out.cell 3) id
              have d4 : w4.cell? ⟨w1.heap.size, 4, none⟩ = some (.int .i64 s.size) := HF34.out.cell (HB3'.out.cell 4) id
              have HB4 : Hid (Blk w4 w1.heap.size 148 (secCells s)) := hid (HB3'.out.fr HF34.out id)
              have HO4 := hid (own_fr HOwn.out HF4.out (fun _ _ e => e))
              have HP4 := hid (own_fr HPart.out HF4.out (fun _ _ e => e))
              have HA4 := hid (HAt.out.no HF4.out)
              have hz48i : (s.size : Int) ≤ 48 := by omega
              have a2 := and_two hk3
              have HTk : Hid ((s.bytes.take s.size).length = s.size) := hid (by rw [List.length_take, HSok.out.by48]; omega)
              have HPl := hid HOk.out.len
              have HSt := hid hst
              have hpl2 : (p : Int) ≤ 4096 := by omega
              have HB0 : Hid (w.heap.size ≤ wr.heap.size) := hid HFr.out.size
              have HLow := hid (own_low HPart.out)
              have HLowR := hid (own_low HOwn.out)
              have HDo := hid (fun k (hk : (Value.slice a c.recs.length cap).ownBlock = some k) => own_lt HO4.out k hk)
              have HZl := hid HA0.out.1.lt
              have HBl := hid HA0.out.2.1.lt
              have HKd := hid hk3
              clear hst hk3 hlh
              have HPlt := hid (own_lt HPart.out)
              have HBS : Hid (¬ (Value.slice pa c.part.length pcap).ownBlock = some w1.heap.size) := hid (fun hk => by have := HPlt.out _ hk; have := HB1.out; omega)
              have RN : Hid (c.recs.length + 1 ≤ c.next ∧ c.next ≤ p ∧ p ≤ 4096) := hid ⟨HOk.out.recs, HOk.out.le, by omega⟩
              have N1 : Hid (c.recs.length + 1 ≤ maxLen) := hid (by have := RN.out; unfold maxLen; omega)
              have N2 : Hid ((c.recs.length + 1) * 16 ≤ 140737488355328) := hid (by have := RN.out; omega)
              have A1 : Hid ((u8s (s.bytes.take s.size)).length = s.size * 1) := hid (by rw [u8s_length, HTk.out, Nat.mul_one])
              have A2 : Hid (s.size = 0 ∨ ∃ ad, some (⟨w1.heap.size, 5, none⟩ : Addr) = some ad ∧ ∀ (j : Nat) (u : Value), (u8s (s.bytes.take s.size))[j]? = some u → w4.cell? (ad.add j) = some u) := hid (.inr ⟨_, rfl, range_loads (HB4.out.range 5 _ (by
                have e1 : (secCells s).drop 5 = u8s s.bytes := rfl
                rw [e1, u8s_length, HTk.out]
                simp only [u8s, List.map_take]))⟩)
              have A3 : Hid (c.part.length + s.size ≤ maxLen) := hid (by have := HPl.out; unfold maxLen; omega)
              have A4 : Hid ((c.part.length + s.size) * 1 ≤ 140737488355328) := hid (by have := HPl.out; omega)
              have A5 : Hid (w.heap.size ≤ w4.heap.size) := hid (Nat.le_trans HB0.out HF4.out.size)
              by_cases hlst : s.kind / 2 = 1
              · have k1 : ((s.kind / 2 * 2 : Nat) : Int) = 2 := by rw [hlst]; rfl
                rw [k1] at a2
                have HStep : Hid (c.step p (pc s) = ⟨c.recs ++ [c.part ++ s.bytes.take s.size], [], s.life, false, p + 1⟩) := hid (by simp [Sc.step, pc, hlst])
                clear hlst k1
                go_wp2_with (first
                  | ((with_reducible show wpList _ _ _ (⟨_, .call { callee := .builtin .append, args := _, argTypes := _ }, _, _, _, _⟩ :: _) _ _); refine wpL_append rfl _ _ 40 rfl w.heap.size 5 i5 _ 1 1 rfl I5.out Z5.out S5.out B5.out rfl (by decide) _ c.part.length (u8s c.part) rfl HP4.out (some ⟨w1.heap.size, 5, none⟩) s.size 48 (u8s (s.bytes.take s.size)) rfl A1.out A2.out (u8s_one _) A3.out A4.out A5.out ?_; intro a5 cap5 w5 HO5 HG5 HA5;
                      have HF5 : Hid (Fr (fun k => (Value.slice pa c.part.length pcap).ownBlock = some k) w4 w5) := hid (frown HG5.out);
                      have e3 : w5.cell? ⟨w1.heap.size, 3, none⟩ = some (.int .i64 s.kind) := HF5.out.cell d3 (fun hk => HBS.out hk);
                      have HAt5 : Hid (At w5 bg bd Z { g with next := c0.next } u) := hid (HA4.out.fr HF5.out (fun k hk e => by have := HZl.out k hk; have := HLow.out k e; omega) (fun e => by have := HBl.out; have := HLow.out bg e; omega));
                      have HR5 : Hid (w5.ownsRow w.heap.size 9 1 (.slice a c.recs.length cap) c.recs.length (strs c.recs)) := hid (own_fr HO4.out HF5.out (fun k hk => HDis.out k hk)))
                  | ((with_reducible show wpList _ _ _ (⟨_, .convert _ 9 _, _, _, _, _⟩ :: _) _ _); refine wpL_stringOf rfl 40 9 5 _ rfl _ (fun k => w.heap.size ≤ k) (c.part ++ s.bytes.take s.size) rfl (by have := HO5.out; rw [← u8s_append] at this; exact own_bytes this) Tryz.underlying40 Tryz.underlying5 Tryz.underlying9 ?_)
                  | ((with_reducible show wpList _ _ _ (⟨_, .buildSlice 118 _ _, _, _, _, _⟩ :: _) _ _); refine wpL_buildOne rfl _ 9 _ rfl i9 _ rfl I9.out Z9.out (by rw [S9.out]; decide) (by rw [S9.out]; decide) _ [str (c.part ++ s.bytes.take s.size)] rfl rfl (by rw [S9.out]; rfl) ?_; intro w6 HB6 HF6 HS6;
                      have HR6 := hid (own_fr HR5.out HF6.out (fun _ _ e => e)))
                  | ((with_reducible show wpList _ _ _ (⟨_, .call { callee := .builtin .append, args := _, argTypes := _ }, _, _, _, _⟩ :: _) _ _); refine wpL_append rfl _ _ 118 rfl w.heap.size 9 i9 _ 1 16 rfl I9.out Z9.out S9.out B9.out rfl (by decide) _ c.recs.length (strs c.recs) rfl HR6.out (some ⟨w5.heap.size, 0, none⟩) 1 1 [str (c.part ++ s.bytes.take s.size)] rfl rfl (.inr ⟨_, rfl, range_loads (HB6.out.range 0 _ rfl)⟩) (by intro v hv; simp at hv; subst hv; rfl) N1.out N2.out (Nat.le_trans A5.out (Nat.le_trans HF5.out.size HF6.out.size)) ?_; intro a7 cap7 w7 HO7 HG7 HA7;
                      have HF7 : Hid (Fr (fun k => (Value.slice a c.recs.length cap).ownBlock = some k) w6 w7) := hid (frown HG7.out);
                      have HAt7 : Hid (At w7 bg bd Z { g with next := c0.next } u) := hid ((HAt5.out.no HF6.out).fr HF7.out (fun k hk e => by have := HZl.out k hk; have := HLowR.out k e; omega) (fun e => by have := HBl.out; have := HLowR.out bg e; omega));
                      have c7 : w7.cell? ⟨bg, 5, none⟩ = some (.int .i64 c0.next) := HAt7.out.2.1.cell 5;
                      have f7 : w7.frozen? ⟨bg, 5, none⟩ = false := HAt7.out.2.1.frozen 5))
                rw [show ((p : Int) + 1) = ((p + 1 : Nat) : Int) from rfl]
                have hlen7 : (c.recs ++ [c.part ++ s.bytes.take s.size]).length = c.recs.length + 1 := by simp
                have hstr7 : strs (c.recs ++ [c.part ++ s.bytes.take s.size]) = strs c.recs ++ [str (c.part ++ s.bytes.take s.size)] := by simp [strs]
                have hrn7 := RN.out
                refine ⟨⟨⟨c.recs ++ [c.part ++ s.bytes.take s.size], [], s.life, false, p + 1⟩, a7, cap7, by rw [hlen7], rfl, hid rfl, hid ⟨by simp, fun _ => rfl, by simp, by simp only [hlen7]; omega, by simp only; omega, Nat.le_refl _, HSok.out.li⟩, by simp only; omega, by simp only; omega, by simp only [hlen7]; omega, hid ?_, hid ?_, hid ?_, hid ?_⟩, ?_⟩
                · have e1 := HS.out
                  rw [HSs.out, HSt.out, HStep.out] at e1
                  exact e1
                · simp only [hlen7, hstr7]
                  exact own_fr HO7.out ((Fr.refl (fun k => k = bg) w7).setCell _ _ (.inl rfl)) (fun k hk e => by have := own_low HO7.out k hk; have := HBl.out; omega)
                · exact HAt7.out.setNext (p + 1) (by omega) (by simp only; omega)
                · exact ((((HFr.out.trans' HF4.out.no).trans HF5.out (fun k hk => .inr (HLow.out k hk))).trans' HF6.out.no).trans HF7.out (fun k hk => .inr (HLowR.out k hk))).setCell _ _ (.inl rfl)
                · have e2 := hrecs.out
                  simp only [lenV, ← e2]
                  omega
              · have k1 : ((s.kind / 2 * 2 : Nat) : Int) = 0 := by have := HKd.out; rw [show s.kind / 2 = 0 by omega]; rfl
                rw [k1] at a2
                have HStep : Hid (c.step p (pc s) = { c with part := c.part ++ s.bytes.take s.size, last := s.life, ins := true }) := hid (by simp [Sc.step, pc, hlst])
                clear hlst k1
                go_wp2_with (first
                  | ((with_reducible show wpList _ _ _ (⟨_, .call { callee := .builtin .append, args := _, argTypes := _ }, _, _, _, _⟩ :: _) _ _); refine wpL_append rfl _ _ 40 rfl w.heap.size 5 i5 _ 1 1 rfl I5.out Z5.out S5.out B5.out rfl (by decide) _ c.part.length (u8s c.part) rfl HP4.out (some ⟨w1.heap.size, 5, none⟩) s.size 48 (u8s (s.bytes.take s.size)) rfl A1.out A2.out (u8s_one _) A3.out A4.out A5.out ?_; intro a5 cap5 w5 HO5 HG5 HA5;
                      have HF5 : Hid (Fr (fun k => (Value.slice pa c.part.length pcap).ownBlock = some k) w4 w5) := hid (frown HG5.out);
                      have e3 : w5.cell? ⟨w1.heap.size, 3, none⟩ = some (.int .i64 s.kind) := HF5.out.cell d3 (fun hk => HBS.out hk);
                      have HAt5 : Hid (At w5 bg bd Z { g with next := c0.next } u) := hid (HA4.out.fr HF5.out (fun k hk e => by have := HZl.out k hk; have := HLow.out k e; omega) (fun e => by have := HBl.out; have := HLow.out bg e; omega));
                      have HR5 : Hid (w5.ownsRow w.heap.size 9 1 (.slice a c.recs.length cap) c.recs.length (strs c.recs)) := hid (own_fr HO4.out HF5.out (fun k hk => HDis.out k hk))))
                have hrn7 := RN.out
                have hplen := HPl.out
                have htk := HTk.out
                refine ⟨⟨{ c with part := c.part ++ s.bytes.take s.size, last := s.life, ins := true }, a, cap, a5, cap5, p + 1, rfl, rfl, by simp only [List.length_append, htk], by go_num, hid hrecs.out, hid hnext.out, by omega, by omega, hid ⟨by simp only [Bool.true_eq_false, false_iff]; omega, fun e => by simp at e, by simp only [List.length_append, htk]; omega, HOk.out.recs, HOk.out.next, by simp only; omega, HSok.out.li⟩, hid ?_, hid ?_, hid ?_, hid ?_, HAt5, hid ?_⟩, by simp [intOf]; omega⟩
                · have e1 := HS.out
                  rw [HSs.out, HSt.out, HStep.out] at e1
                  exact e1
                · exact HR5.out
                · have e1 := HO5.out
                  rw [← u8s_append] at e1
                  simp only [List.length_append, htk]
                  exact e1
                · intro k hk e
                  have e0 : (Value.slice a5 (c.part.length + s.size) cap5).ownBlock = some k := by
                    simp only [List.length_append, htk] at e
                    exact e
                  rcases HA5.out with e1 | e1
                  · rw [e1] at e0
                    exact HDis.out k hk e0
                  · rw [e1] at e0
                    cases e0
                    exact Nat.lt_irrefl _ (HDo.out _ hk)
                · exact (HFr.out.trans' HF4.out.no).trans HF5.out (fun k hk => .inr (HLow.out k hk))
            | false =>
              have HST := hid (scan_stop (n := g.count - (p + 1)) (c := c) HV.out HG.out (fun _ _ => hgo))
              have HBE : Hid (((p : Int) == (c0.next : Int)) = !c.ins) := hid (by
                have h1 := HOk.out.ins
                rw [hnext.out] at h1
                cases hi : c.ins
                · have := h1.1 hi; simp [this]
                · have h2 : ¬ p = c0.next := fun e => by have := h1.2 e; rw [hi] at this; cases this
                  simp; omega)
              have hpi : (s.place : Int) = (p : Int) := by omega
              have HPI := hid hpi
              have HCo := hid (continues_any w3.drew bg bd Z { g with next := c0.next } u s (!c.ins) c.last (HAt.out.no HN3.out.drew) HSok.out HL.out)
              rw [cont_next, hgo] at HCo
              rw [hr]
              clear hpi hpl hgo
              refine wpD_region hold (by kernel_rfl) 21 rfl ?_
              (refine wpD_plain 0 (v := ?_) rfl (by kernel_rfl) (by kernel_rfl) (by kernel_rfl) (fun _ _ _ h => h) (by rfl) ?_ (by assumption) ?_; rotate_left; (intro _w; go_simp; try with_reducible rfl); simp only [Act.put, List.setIfInBounds_toArray, List.set_cons_zero, List.set_cons_succ])
              (refine wpD_plain 1 (v := ?_) rfl (by kernel_rfl) (by kernel_rfl) (by kernel_rfl) (fun _ _ _ h => h) (by rfl) ?_ (by assumption) ?_; rotate_left; (intro _w; go_simp; try with_reducible rfl); simp only [Act.put, List.setIfInBounds_toArray, List.set_cons_zero, List.set_cons_succ])
              (refine wpD_plain 2 (v := ?_) rfl (by kernel_rfl) (by kernel_rfl) (by kernel_rfl) (fun _ _ _ h => h) (by rfl) ?_ (by assumption) ?_; rotate_left; (intro _w; go_simp; try with_reducible rfl); simp only [Act.put, List.setIfInBounds_toArray, List.set_cons_zero, List.set_cons_succ])
              (refine wpD_plain 3 (v := ?_) rfl (by kernel_rfl) (by kernel_rfl) (by kernel_rfl) (fun _ _ _ h => h) (by rfl) ?_ (by assumption) ?_; rotate_left; (intro _w; go_simp; try with_reducible rfl); simp only [Act.put, List.setIfInBounds_toArray, List.set_cons_zero, List.set_cons_succ])
              (refine wpD_take 4 _ rfl (by kernel_rfl) (by kernel_rfl) (by kernel_rfl) (fun _ _ _ h => h) List.mem_cons_self (by rfl) (v := ?_) ?_ (by assumption) ?_; rotate_left; (intro _w _hw; go_simp; try with_reducible rfl); simp only [Act.put, List.setIfInBounds_toArray, List.set_cons_zero, List.set_cons_succ])
              (refine wpD_plain 5 (v := ?_) rfl (by kernel_rfl) (by kernel_rfl) (by kernel_rfl) (fun _ _ _ h => h) (by rfl) ?_ (by assumption) ?_; rotate_left; (intro _w; go_simp; try with_reducible rfl); simp only [Act.put, List.setIfInBounds_toArray, List.set_cons_zero, List.set_cons_succ])
              (refine wpD_plain 6 (v := (.bool false)) rfl (by kernel_rfl) (by kernel_rfl) (by kernel_rfl) (fun _ _ _ h => h) (by rfl) ?_ (by assumption) ?_; (intro _w; go_simp; exact HPI.out); simp only [Act.put, List.setIfInBounds_toArray, List.set_cons_zero, List.set_cons_succ])
              (refine wpD_plain 7 (v := ?_) rfl (by kernel_rfl) (by kernel_rfl) (by kernel_rfl) (fun _ _ _ h => h) (by rfl) ?_ (by assumption) ?_; rotate_left; (intro _w; go_simp; try with_reducible rfl); simp only [Act.put, List.setIfInBounds_toArray, List.set_cons_zero, List.set_cons_succ])
              (refine wpD_plain 8 (v := ?_) rfl (by kernel_rfl) (by kernel_rfl) (by kernel_rfl) (fun _ _ _ h => h) (by rfl) ?_ (by assumption) ?_; rotate_left; (intro _w; go_simp; try with_reducible rfl); simp only [Act.put, List.setIfInBounds_toArray, List.set_cons_zero, List.set_cons_succ])
              (refine wpD_plain 9 (v := ?_) rfl (by kernel_rfl) (by kernel_rfl) (by kernel_rfl) (fun _ _ _ h => h) (by rfl) ?_ (by assumption) ?_; rotate_left; (intro _w; go_simp; try with_reducible rfl); simp only [Act.put, List.setIfInBounds_toArray, List.set_cons_zero, List.set_cons_succ])
              (refine wpD_take 10 _ rfl (by kernel_rfl) (by kernel_rfl) (by kernel_rfl) (fun _ _ _ h => h) (List.mem_cons_of_mem _ List.mem_cons_self) (by rfl) (exec_load _ _ rfl w1.heap.size 0 rfl _ _ rfl rfl (by rw [info87, HSl.out])) (by assumption) ?_; simp only [Act.put, List.setIfInBounds_toArray, List.set_cons_zero, List.set_cons_succ])
              (refine wpD_plain 11 (v := ?_) rfl (by kernel_rfl) (by kernel_rfl) (by kernel_rfl) (fun _ _ _ h => h) (by rfl) ?_ (by assumption) ?_; rotate_left; (intro _w; go_simp; try with_reducible rfl); simp only [Act.put, List.setIfInBounds_toArray, List.set_cons_zero, List.set_cons_succ])
              (refine wpD_plain 12 (v := ?_) rfl (by kernel_rfl) (by kernel_rfl) (by kernel_rfl) (fun _ _ _ h => h) (by rfl) ?_ (by assumption) ?_; rotate_left; (intro _w; go_simp; try with_reducible rfl); simp only [Act.put, List.setIfInBounds_toArray, List.set_cons_zero, List.set_cons_succ])
              (refine wpD_plain 13 (v := ?_) rfl (by kernel_rfl) (by kernel_rfl) (by kernel_rfl) (fun _ _ _ h => h) (by rfl) ?_ (by assumption) ?_; rotate_left; (intro _w; go_simp; try with_reducible rfl); simp only [Act.put, List.setIfInBounds_toArray, List.set_cons_zero, List.set_cons_succ])
              (refine wpD_plain 14 (v := ?_) rfl (by kernel_rfl) (by kernel_rfl) (by kernel_rfl) (fun _ _ _ h => h) (by rfl) ?_ (by assumption) ?_; rotate_left; (intro _w; go_simp; try with_reducible rfl); simp only [Act.put, List.setIfInBounds_toArray, List.set_cons_zero, List.set_cons_succ])
              (refine wpD_take 15 _ rfl (by kernel_rfl) (by kernel_rfl) (by kernel_rfl) (fun _ _ _ h => h) (List.mem_cons_of_mem _ (List.mem_cons_of_mem _ List.mem_cons_self)) (by rfl) (v := ?_) ?_ (by assumption) ?_; rotate_left; (intro _w _hw; go_simp; try with_reducible rfl); simp only [Act.put, List.setIfInBounds_toArray, List.set_cons_zero, List.set_cons_succ])
              (refine wpD_plain 16 (v := (.bool (!c.ins))) rfl (by kernel_rfl) (by kernel_rfl) (by kernel_rfl) (fun _ _ _ h => h) (by rfl) ?_ (by assumption) ?_; (intro _w; go_simp; exact HBE.out); simp only [Act.put, List.setIfInBounds_toArray, List.set_cons_zero, List.set_cons_succ])
              (refine wpD_plain 17 (v := ?_) rfl (by kernel_rfl) (by kernel_rfl) (by kernel_rfl) (fun _ _ _ h => h) (by rfl) ?_ (by assumption) ?_; rotate_left; (intro _w; go_simp; try with_reducible rfl); simp only [Act.put, List.setIfInBounds_toArray, List.set_cons_zero, List.set_cons_succ])
              refine wpD_only 18 [(4, fun w' => w'.cell? ⟨w1.heap.size, 2, none⟩ = some (.int .i64 s.place)), (15, fun w' => w'.cell? ⟨bg, 5, none⟩ = some (.int .i64 c0.next))] rfl (by kernel_rfl) (by kernel_rfl) (by rfl) (fun K18 hK18 => ?_)
              refine wp_call (.func 110) _ _ rfl 110 [] rfl hentCont [.pointer (some ⟨bg, 0, none⟩), .agg (secCells s).toArray, .bool (!c.ins), .int .u32 (c.last : Int)] (by rfl) ?_
              refine HCo.out.mono ?_
              rintro e w4 ⟨rfl, hf⟩
              have HF4 : Hid (Fr No wr w4) := hid (HN3.out.drew.trans' hf)
              have HF34 : Hid (Fr No w3 w4) := hid (Fr.trans' (b := w3.drew) (Fr.refl No w3).drew hf)
              clear hf hold
              have hold : Facts.hold [(4, fun w' => w'.cell? ⟨w1.heap.size, 2, none⟩ = some (.int .i64 s.place)), (15, fun w' => w'.cell? ⟨bg, 5, none⟩ = some (.int .i64 c0.next))] w4 := Facts.cons_hold (HF34.out.cell d2 id) (Facts.cons_hold (HF34.out.cell c5 id) (Facts.nil_hold _))
              refine ⟨_, rfl, hK18 _ _ hold ?_⟩
              clear hK18 K18
              simp only [Act.put, List.setIfInBounds_toArray, List.set_cons_zero, List.set_cons_succ]
              (refine wpD_plain 19 (v := ?_) rfl (by kernel_rfl) (by kernel_rfl) (by kernel_rfl) (fun _ _ _ h => h) (by rfl) ?_ (by assumption) ?_; rotate_left; (intro _w; go_simp; try with_reducible rfl); simp only [Act.put, List.setIfInBounds_toArray, List.set_cons_zero, List.set_cons_succ])
              (refine wpD_plain 20 (v := ?_) rfl (by kernel_rfl) (by kernel_rfl) (by kernel_rfl) (fun _ _ _ h => h) (by rfl) ?_ (by assumption) ?_; rotate_left; (intro _w; go_simp; try with_reducible rfl); simp only [Act.put, List.setIfInBounds_toArray, List.set_cons_zero, List.set_cons_succ])
              refine wpD_done (by kernel_rfl) ?_ _
              clear hold d2 dr c5
              go_wp2_with fail
              rw [Exit.noGoto_ret]
              go_ret2
              have hRe : R = (c.recs, c.next) := by
                have := HS.out
                rw [HSs.out] at this
                exact this.symm.trans HST.out
              exact ⟨_, rfl, HFIN.out _ HF4.out hRe⟩
          · have hne : ¬ ((s.place : Int) = (p : Int)) := by omega
            have HNE := hid hne
            have HST := hid (scan_stop (n := g.count - (p + 1)) (c := c) HV.out HG.out (fun _ e => absurd e hpl))
            rw [hr]
            clear hne hpl
            refine wpD_region hold (by kernel_rfl) 21 rfl ?_
            (refine wpD_plain 0 (v := ?_) rfl (by kernel_rfl) (by kernel_rfl) (by kernel_rfl) (fun _ _ _ h => h) (by rfl) ?_ (by assumption) ?_; rotate_left; (intro _w; go_simp; try with_reducible rfl); simp only [Act.put, List.setIfInBounds_toArray, List.set_cons_zero, List.set_cons_succ])
            (refine wpD_plain 1 (v := ?_) rfl (by kernel_rfl) (by kernel_rfl) (by kernel_rfl) (fun _ _ _ h => h) (by rfl) ?_ (by assumption) ?_; rotate_left; (intro _w; go_simp; try with_reducible rfl); simp only [Act.put, List.setIfInBounds_toArray, List.set_cons_zero, List.set_cons_succ])
            (refine wpD_plain 2 (v := ?_) rfl (by kernel_rfl) (by kernel_rfl) (by kernel_rfl) (fun _ _ _ h => h) (by rfl) ?_ (by assumption) ?_; rotate_left; (intro _w; go_simp; try with_reducible rfl); simp only [Act.put, List.setIfInBounds_toArray, List.set_cons_zero, List.set_cons_succ])
            (refine wpD_plain 3 (v := ?_) rfl (by kernel_rfl) (by kernel_rfl) (by kernel_rfl) (fun _ _ _ h => h) (by rfl) ?_ (by assumption) ?_; rotate_left; (intro _w; go_simp; try with_reducible rfl); simp only [Act.put, List.setIfInBounds_toArray, List.set_cons_zero, List.set_cons_succ])
            (refine wpD_take 4 _ rfl (by kernel_rfl) (by kernel_rfl) (by kernel_rfl) (fun _ _ _ h => h) List.mem_cons_self (by rfl) (v := ?_) ?_ (by assumption) ?_; rotate_left; (intro _w _hw; go_simp; try with_reducible rfl); simp only [Act.put, List.setIfInBounds_toArray, List.set_cons_zero, List.set_cons_succ])
            (refine wpD_plain 5 (v := ?_) rfl (by kernel_rfl) (by kernel_rfl) (by kernel_rfl) (fun _ _ _ h => h) (by rfl) ?_ (by assumption) ?_; rotate_left; (intro _w; go_simp; try with_reducible rfl); simp only [Act.put, List.setIfInBounds_toArray, List.set_cons_zero, List.set_cons_succ])
            (refine wpD_plain 6 (v := (.bool true)) rfl (by kernel_rfl) (by kernel_rfl) (by kernel_rfl) (fun _ _ _ h => h) (by rfl) ?_ (by assumption) ?_; (intro _w; go_simp; exact HNE.out); simp only [Act.put, List.setIfInBounds_toArray, List.set_cons_zero, List.set_cons_succ])
            (refine wpD_plain 7 (v := ?_) rfl (by kernel_rfl) (by kernel_rfl) (by kernel_rfl) (fun _ _ _ h => h) (by rfl) ?_ (by assumption) ?_; rotate_left; (intro _w; go_simp; try with_reducible rfl); simp only [Act.put, List.setIfInBounds_toArray, List.set_cons_zero, List.set_cons_succ])
            (refine wpD_plain 8 (v := ?_) rfl (by kernel_rfl) (by kernel_rfl) (by kernel_rfl) (fun _ _ _ h => h) (by rfl) ?_ (by assumption) ?_; rotate_left; (intro _w; go_simp; try with_reducible rfl); simp only [Act.put, List.setIfInBounds_toArray, List.set_cons_zero, List.set_cons_succ])
            (refine wpD_skip 9 rfl (by kernel_rfl) (by kernel_rfl) (by kernel_rfl) (fun _ _ _ h => h) (by rfl) (by assumption) ?_; simp only [Act.put, List.setIfInBounds_toArray, List.set_cons_zero, List.set_cons_succ])
            (refine wpD_skip 10 rfl (by kernel_rfl) (by kernel_rfl) (by kernel_rfl) (fun _ _ _ h => h) (by rfl) (by assumption) ?_; simp only [Act.put, List.setIfInBounds_toArray, List.set_cons_zero, List.set_cons_succ])
            (refine wpD_skip 11 rfl (by kernel_rfl) (by kernel_rfl) (by kernel_rfl) (fun _ _ _ h => h) (by rfl) (by assumption) ?_; simp only [Act.put, List.setIfInBounds_toArray, List.set_cons_zero, List.set_cons_succ])
            (refine wpD_skip 12 rfl (by kernel_rfl) (by kernel_rfl) (by kernel_rfl) (fun _ _ _ h => h) (by rfl) (by assumption) ?_; simp only [Act.put, List.setIfInBounds_toArray, List.set_cons_zero, List.set_cons_succ])
            (refine wpD_skip 13 rfl (by kernel_rfl) (by kernel_rfl) (by kernel_rfl) (fun _ _ _ h => h) (by rfl) (by assumption) ?_; simp only [Act.put, List.setIfInBounds_toArray, List.set_cons_zero, List.set_cons_succ])
            (refine wpD_skip 14 rfl (by kernel_rfl) (by kernel_rfl) (by kernel_rfl) (fun _ _ _ h => h) (by rfl) (by assumption) ?_; simp only [Act.put, List.setIfInBounds_toArray, List.set_cons_zero, List.set_cons_succ])
            (refine wpD_skip 15 rfl (by kernel_rfl) (by kernel_rfl) (by kernel_rfl) (fun _ _ _ h => h) (by rfl) (by assumption) ?_; simp only [Act.put, List.setIfInBounds_toArray, List.set_cons_zero, List.set_cons_succ])
            (refine wpD_skip 16 rfl (by kernel_rfl) (by kernel_rfl) (by kernel_rfl) (fun _ _ _ h => h) (by rfl) (by assumption) ?_; simp only [Act.put, List.setIfInBounds_toArray, List.set_cons_zero, List.set_cons_succ])
            (refine wpD_skip 17 rfl (by kernel_rfl) (by kernel_rfl) (by kernel_rfl) (fun _ _ _ h => h) (by rfl) (by assumption) ?_; simp only [Act.put, List.setIfInBounds_toArray, List.set_cons_zero, List.set_cons_succ])
            (refine wpD_skip 18 rfl (by kernel_rfl) (by kernel_rfl) (by kernel_rfl) (fun _ _ _ h => h) (by rfl) (by assumption) ?_; simp only [Act.put, List.setIfInBounds_toArray, List.set_cons_zero, List.set_cons_succ])
            (refine wpD_skip 19 rfl (by kernel_rfl) (by kernel_rfl) (by kernel_rfl) (fun _ _ _ h => h) (by rfl) (by assumption) ?_; simp only [Act.put, List.setIfInBounds_toArray, List.set_cons_zero, List.set_cons_succ])
            (refine wpD_plain 20 (v := ?_) rfl (by kernel_rfl) (by kernel_rfl) (by kernel_rfl) (fun _ _ _ h => h) (by rfl) ?_ (by assumption) ?_; rotate_left; (intro _w; go_simp; try with_reducible rfl); simp only [Act.put, List.setIfInBounds_toArray, List.set_cons_zero, List.set_cons_succ])
            refine wpD_done (by kernel_rfl) ?_ _
            clear hold
            go_wp2_with fail
            rw [Exit.noGoto_ret]
            go_ret2
            have hRe : R = (c.recs, c.next) := by
              have := HS.out
              rw [HSs.out] at this
              exact this.symm.trans HST.out
            exact ⟨_, rfl, HFIN.out _ HN3.out.drew hRe⟩
        · have HST := hid (scan_stop (n := g.count - (p + 1)) (c := c) HV.out HG.out (fun e _ => absurd e hr))
          have hrf : s.right = false := by simpa using hr
          rw [hrf]
          clear hr
          refine wpD_region hold (by kernel_rfl) 21 rfl ?_
          (refine wpD_plain 0 (v := ?_) rfl (by kernel_rfl) (by kernel_rfl) (by kernel_rfl) (fun _ _ _ h => h) (by rfl) ?_ (by assumption) ?_; rotate_left; (intro _w; go_simp; try with_reducible rfl); simp only [Act.put, List.setIfInBounds_toArray, List.set_cons_zero, List.set_cons_succ])
          (refine wpD_plain 1 (v := ?_) rfl (by kernel_rfl) (by kernel_rfl) (by kernel_rfl) (fun _ _ _ h => h) (by rfl) ?_ (by assumption) ?_; rotate_left; (intro _w; go_simp; try with_reducible rfl); simp only [Act.put, List.setIfInBounds_toArray, List.set_cons_zero, List.set_cons_succ])
          (refine wpD_plain 2 (v := ?_) rfl (by kernel_rfl) (by kernel_rfl) (by kernel_rfl) (fun _ _ _ h => h) (by rfl) ?_ (by assumption) ?_; rotate_left; (intro _w; go_simp; try with_reducible rfl); simp only [Act.put, List.setIfInBounds_toArray, List.set_cons_zero, List.set_cons_succ])
          (refine wpD_skip 3 rfl (by kernel_rfl) (by kernel_rfl) (by kernel_rfl) (fun _ _ _ h => h) (by rfl) (by assumption) ?_; simp only [Act.put, List.setIfInBounds_toArray, List.set_cons_zero, List.set_cons_succ])
          (refine wpD_skip 4 rfl (by kernel_rfl) (by kernel_rfl) (by kernel_rfl) (fun _ _ _ h => h) (by rfl) (by assumption) ?_; simp only [Act.put, List.setIfInBounds_toArray, List.set_cons_zero, List.set_cons_succ])
          (refine wpD_skip 5 rfl (by kernel_rfl) (by kernel_rfl) (by kernel_rfl) (fun _ _ _ h => h) (by rfl) (by assumption) ?_; simp only [Act.put, List.setIfInBounds_toArray, List.set_cons_zero, List.set_cons_succ])
          (refine wpD_skip 6 rfl (by kernel_rfl) (by kernel_rfl) (by kernel_rfl) (fun _ _ _ h => h) (by rfl) (by assumption) ?_; simp only [Act.put, List.setIfInBounds_toArray, List.set_cons_zero, List.set_cons_succ])
          (refine wpD_plain 7 (v := ?_) rfl (by kernel_rfl) (by kernel_rfl) (by kernel_rfl) (fun _ _ _ h => h) (by rfl) ?_ (by assumption) ?_; rotate_left; (intro _w; go_simp; try with_reducible rfl); simp only [Act.put, List.setIfInBounds_toArray, List.set_cons_zero, List.set_cons_succ])
          (refine wpD_plain 8 (v := ?_) rfl (by kernel_rfl) (by kernel_rfl) (by kernel_rfl) (fun _ _ _ h => h) (by rfl) ?_ (by assumption) ?_; rotate_left; (intro _w; go_simp; try with_reducible rfl); simp only [Act.put, List.setIfInBounds_toArray, List.set_cons_zero, List.set_cons_succ])
          (refine wpD_skip 9 rfl (by kernel_rfl) (by kernel_rfl) (by kernel_rfl) (fun _ _ _ h => h) (by rfl) (by assumption) ?_; simp only [Act.put, List.setIfInBounds_toArray, List.set_cons_zero, List.set_cons_succ])
          (refine wpD_skip 10 rfl (by kernel_rfl) (by kernel_rfl) (by kernel_rfl) (fun _ _ _ h => h) (by rfl) (by assumption) ?_; simp only [Act.put, List.setIfInBounds_toArray, List.set_cons_zero, List.set_cons_succ])
          (refine wpD_skip 11 rfl (by kernel_rfl) (by kernel_rfl) (by kernel_rfl) (fun _ _ _ h => h) (by rfl) (by assumption) ?_; simp only [Act.put, List.setIfInBounds_toArray, List.set_cons_zero, List.set_cons_succ])
          (refine wpD_skip 12 rfl (by kernel_rfl) (by kernel_rfl) (by kernel_rfl) (fun _ _ _ h => h) (by rfl) (by assumption) ?_; simp only [Act.put, List.setIfInBounds_toArray, List.set_cons_zero, List.set_cons_succ])
          (refine wpD_skip 13 rfl (by kernel_rfl) (by kernel_rfl) (by kernel_rfl) (fun _ _ _ h => h) (by rfl) (by assumption) ?_; simp only [Act.put, List.setIfInBounds_toArray, List.set_cons_zero, List.set_cons_succ])
          (refine wpD_skip 14 rfl (by kernel_rfl) (by kernel_rfl) (by kernel_rfl) (fun _ _ _ h => h) (by rfl) (by assumption) ?_; simp only [Act.put, List.setIfInBounds_toArray, List.set_cons_zero, List.set_cons_succ])
          (refine wpD_skip 15 rfl (by kernel_rfl) (by kernel_rfl) (by kernel_rfl) (fun _ _ _ h => h) (by rfl) (by assumption) ?_; simp only [Act.put, List.setIfInBounds_toArray, List.set_cons_zero, List.set_cons_succ])
          (refine wpD_skip 16 rfl (by kernel_rfl) (by kernel_rfl) (by kernel_rfl) (fun _ _ _ h => h) (by rfl) (by assumption) ?_; simp only [Act.put, List.setIfInBounds_toArray, List.set_cons_zero, List.set_cons_succ])
          (refine wpD_skip 17 rfl (by kernel_rfl) (by kernel_rfl) (by kernel_rfl) (fun _ _ _ h => h) (by rfl) (by assumption) ?_; simp only [Act.put, List.setIfInBounds_toArray, List.set_cons_zero, List.set_cons_succ])
          (refine wpD_skip 18 rfl (by kernel_rfl) (by kernel_rfl) (by kernel_rfl) (fun _ _ _ h => h) (by rfl) (by assumption) ?_; simp only [Act.put, List.setIfInBounds_toArray, List.set_cons_zero, List.set_cons_succ])
          (refine wpD_skip 19 rfl (by kernel_rfl) (by kernel_rfl) (by kernel_rfl) (fun _ _ _ h => h) (by rfl) (by assumption) ?_; simp only [Act.put, List.setIfInBounds_toArray, List.set_cons_zero, List.set_cons_succ])
          (refine wpD_plain 20 (v := ?_) rfl (by kernel_rfl) (by kernel_rfl) (by kernel_rfl) (fun _ _ _ h => h) (by rfl) ?_ (by assumption) ?_; rotate_left; (intro _w; go_simp; try with_reducible rfl); simp only [Act.put, List.setIfInBounds_toArray, List.set_cons_zero, List.set_cons_succ])
          refine wpD_done (by kernel_rfl) ?_ _
          clear hold
          go_wp2_with fail
          rw [Exit.noGoto_ret]
          go_ret2
          have hRe : R = (c.recs, c.next) := by
            have := HS.out
            rw [HSs.out] at this
            exact this.symm.trans HST.out
          exact ⟨_, rfl, HFIN.out _ HN3.out.drew hRe⟩
      · have hge : p = g.count := by omega
        have HST : Hid (R = (c.recs, c.next)) := hid (by
          have := HS.out
          rw [hge, Nat.sub_self] at this
          exact this.symm)
        have hlt' : decide ((p : Int) < g.count) = false := by simp; omega
        have hlt2 : decide (p < g.count) = false := by simp; omega
        have HGE := hid hge
        clear hge hlt
        go_wp2_with fail
        rw [Exit.noGoto_ret]
        go_ret2
        exact ⟨_, rfl, HFIN.out _ (Fr.refl _ _) HST.out⟩
end Go.Proofs.YtflfmkokfbgclaaGreat.L
