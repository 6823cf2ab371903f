/-
  Package disk: reading.
-/
import Derived.Test.YtlnolnaapnijbaaDisk
namespace Go.Proofs.Ytlnolnaapnijbaa.D
set_option maxRecDepth 100000
open Go.RowKit K

/-- The value is a slice of these bytes; they lie in a block of E. -/
def BytesIn (w : World) (E : Nat → Prop) (v : Value) (bs : List Int) : Prop :=
  ∃ a len cap, v = .slice a len cap ∧ bs.length = len ∧ len ≤ cap ∧ (len = 0 ∨ ∃ g o, a = some ⟨g, o, none⟩ ∧ E g ∧ g < w.heap.size ∧ w.rangeAt g o (u8s bs))
theorem BytesIn.mono {w : World} {E E' : Nat → Prop} {v : Value} {bs : List Int} (h : BytesIn w E v bs) (he : ∀ k, E k → E' k) : BytesIn w E' v bs := by
  obtain ⟨a, len, cap, h1, h2, h0, h3⟩ := h
  exact ⟨a, len, cap, h1, h2, h0, h3.imp id fun ⟨g, o, r1, r2, r3⟩ => ⟨g, o, r1, he g r2, r3⟩⟩
theorem BytesIn.fr {w w' : World} {E D : Nat → Prop} {v : Value} {bs : List Int} (h : BytesIn w E v bs) (hf : Fr D w w') (hd : ∀ k, E k → k < w.heap.size → ¬ D k) : BytesIn w' E v bs := by
  obtain ⟨a, len, cap, h1, h2, h0, h3⟩ := h
  exact ⟨a, len, cap, h1, h2, h0, h3.imp id fun ⟨g, o, r1, r2, r3, r4⟩ => ⟨g, o, r1, r2, Nat.lt_of_lt_of_le r3 hf.size, hf.range r4 (hd g r2 r3)⟩⟩
/-- What is new in w. -/
def New (w : World) : Nat → Prop := fun k => w.heap.size ≤ k

theorem u8s_one (l : List Int) : ∀ v ∈ u8s l, v.oneCell' = true := by
  intro v hv; obtain ⟨n, _, rfl⟩ := List.mem_map.1 hv; rfl
theorem info8 : (Try.prog.info? 5).map (·.size) = some 1 := by kernel_rfl
theorem info74 : (Try.prog.info? 117).map (·.size) = some 64 := by kernel_rfl
def zero64 : List Value := List.replicate 64 (.int .u8 0)
set_option maxRecDepth 100000 in
theorem make64 (w : World) : (Instr.makeSlice 66 (.int .i64 64) (.int .i64 64)).run Try.prog w = .ok (.slice (some ⟨w.heap.size, 0, none⟩) 64 64) (w.alloc (.cells zero64.toArray 5)) := by kernel_rfl

theorem bytesOf_any (bs : List Int) (w : World) (hl : bs.length = 64) : Calls Try.prog 121 #[.agg (u8s bs).toArray] w fun e w' =>
    ∃ v, e = .returned v ∧ BytesIn w' (New w) v bs ∧ Fr No w w' := by
  have mk := make64
  have Hl := hid hl; clear hl
  have B0 : Blk (w.alloc (.cells (u8s bs).toArray 117)) w.heap.size 117 (u8s bs) := Blk.new _ _ _
  have B1 := B0.alloc (.cells zero64.toArray 5)
  have B2 : Blk ((w.alloc (.cells (u8s bs).toArray 117)).alloc (.cells zero64.toArray 5)) (w.heap.size + 1) 5 zero64 := by
    have := Blk.new (w.alloc (.cells (u8s bs).toArray 117)) 5 zero64
    simpa using this
  have HB1 := hid B1
  have HB2 := hid B2
  clear B0 B1 B2
  go_enter Try.func121, Try.ntmps121
  go_wp2_with ((with_reducible show wpList _ _ _ ({ dst := _, op := .call { callee := .builtin .copy, args := _, argTypes := _ }, type := _, pos := _, after := _, guard := _ } :: _) _ _); refine wpL_copy rfl _ _ _ _ rfl 5 rfl info8 _ _ _ _ _ _ _ rfl rfl (u8s bs) ?_ ?_ ?_ (u8s_one bs) ?_)
  · simp [Hl.out]
  · exact .inr ⟨_, rfl, range_loads (HB1.out.range 0 _ (by rw [List.drop_zero, List.take_length]))⟩
  · exact HB2.out.there 0 _ (by simp [Hl.out, zero64])
  · go_ret
    refine ⟨_, rfl, ⟨_, 64, 64, rfl, Hl.out, Nat.le_refl _, .inr ⟨_, 0, rfl, ?_, by simp, ?_⟩⟩, ?_⟩
    · simp [New]
    · refine (HB2.out.sets (u8s bs) 0 (by simp [Hl.out, zero64])).range 0 _ ?_
      have h64 : (u8s bs).length = 64 := by simp [Hl.out]
      have : spl zero64 0 (u8s bs) = u8s bs := by simp [spl, h64, zero64]
      rw [this, List.drop_zero, List.take_length]
    · exact (((Fr.refl No w).alloc _).alloc _).setCells _ _ _ (.inr (by omega))

theorem getU8 {L : List (List Int)} (h : ∀ l ∈ L, l.length = 64) {i : Nat} {l : List Int} (hi : L[i]? = some l) : ((rowsL L).drop (i * 64)).take (u8s l).length = u8s l := by
  have hl : l ∈ L := List.mem_of_getElem? hi
  rw [u8s_length, h l hl]
  exact flat_get (m := 64) _ i _ (by simpa using h) (by simp [hi])

/-- A sector as it was last written. -/
def now (P : List (Nat × List Int)) (n : Nat) (l : List Int) : List Int := P.foldl (fun b p => if p.1 = n then p.2 else b) l
theorem now_none (P : List (Nat × List Int)) (n : Nat) (l : List Int) (h : ∀ (j : Nat) (p : Nat × List Int), P[j]? = some p → p.1 ≠ n) : now P n l = l := by
  induction P generalizing l with
  | nil => rfl
  | cons a r ih =>
    have ha : a.1 ≠ n := h 0 a (by simp)
    simp only [now, List.foldl_cons, if_neg ha]
    exact ih l (fun j p hj => h (j + 1) p (by simpa using hj))
theorem now_last (P : List (Nat × List Int)) (n k : Nat) (l : List Int) (p : Nat × List Int) (hk : P[k]? = some p) (hp : p.1 = n) (h : ∀ (j : Nat) (q : Nat × List Int), k < j → P[j]? = some q → q.1 ≠ n) : now P n l = p.2 := by
  have hlt := (List.getElem?_eq_some_iff.1 hk).1
  have e : P = P.take k ++ p :: P.drop (k + 1) := by
    obtain ⟨_, rfl⟩ := List.getElem?_eq_some_iff.1 hk
    rw [List.getElem_cons_drop, List.take_append_drop]
  have := now_none (P.drop (k + 1)) n p.2 (fun j q hj => h (k + 1 + j) q (by omega) (by rw [List.getElem?_drop] at hj; exact hj))
  rw [e]
  simp only [now, List.foldl_append, List.foldl_cons, if_pos hp]
  exact this
theorem now_64 (P : List (Nat × List Int)) (n : Nat) (l : List Int) (hl : l.length = 64) (h : ∀ p ∈ P, p.2.length = 64) : (now P n l).length = 64 := by
  induction P generalizing l with
  | nil => exact hl
  | cons a r ih =>
    simp only [now, List.foldl_cons]
    refine ih _ ?_ (fun p hp => h p (by simp [hp]))
    split
    · exact h a (by simp)
    · exact hl
section
variable {w : World} {bd : Nat} {D : Nat → Prop} {s : St}
/-- A sector as it lasts, as the walk reads it: the cells. -/
theorem sec_range {td tl tp : TypeId} {f : Bool → Bool} (h : Rep td tl tp f w bd D s) {bl : Nat} (hc : ∀ pv, w.cell? ⟨bd, 0, none⟩ = some pv → pv = .slice (some ⟨bl, 0, none⟩) s.L.length s.L.length) {i : Nat} {l : List Int} (hi : s.L[i]? = some l) :
    w.rangeAt bl (i * 64) (u8s l) := by
  obtain ⟨ok, bl', pv, h1, h2, h3, h4, h5, h6, h7, h8⟩ := h
  have e : bl' = bl := by have := hc _ (h1.cell 0); simpa using this
  subst e
  exact h2.range _ _ (getU8 ok.sec hi)

/-- What Lasting answers: the bytes, and the error. -/
def St.lasting (s : St) (n : Int) : List Int × Int := if 0 ≤ n then (match s.L[n.toNat]? with | some l => (l, 0) | none => ([], 11)) else ([], 11)
/-- What Read answers. -/
def St.read (s : St) (n : Int) : List Int × Int :=
  if s.up = false then ([], 10) else if 0 ≤ n then (match s.L[n.toNat]? with | some l => (now s.P n.toNat l, 0) | none => ([], 11)) else ([], 11)
/-- An answer of bytes and an error, in new memory. -/
def Ans (w : World) (r : List Int × Int) (e : Ending) (w' : World) : Prop := ∃ v, e = .returned (.tuple #[v, .int .i64 r.2]) ∧ BytesIn w' (New w) v r.1 ∧ Fr No w w'
theorem bytes_nil (w : World) (E : Nat → Prop) : BytesIn w E (.slice none 0 0) [] := ⟨none, 0, 0, rfl, rfl, Nat.le_refl _, .inl rfl⟩
theorem St.read_no {s : St} {n : Int} (hu : s.up = true) (hn : ¬ (0 ≤ n ∧ n < s.L.length)) : s.read n = ([], 11) := by
  unfold St.read
  rw [if_neg (by simp [hu])]
  split
  · rw [List.getElem?_eq_none (by omega)]
  · rfl
theorem St.lasting_no {s : St} {n : Int} (hn : ¬ (0 ≤ n ∧ n < s.L.length)) : s.lasting n = ([], 11) := by
  unfold St.lasting
  split
  · rw [List.getElem?_eq_none (by omega)]
  · rfl

theorem own_range {w : World} {t : TypeId} {g cap : Nat} {P : List (Nat × List Int)} {base : Nat} (h : w.ownsRow base t 65 (.slice (some ⟨g, 0, none⟩) P.length cap) P.length (rowsP P)) (hp : ∀ p ∈ P, p.2.length = 64) {k : Nat} {p : Nat × List Int} (hk : P[k]? = some p) :
    w.cell? ⟨g, k * 65, none⟩ = some (.int .i64 p.1) ∧ w.rangeAt g (k * 65 + 1) (u8s p.2) := by
  have hc := h.cells (g := g) rfl
  have hg := flat_get (m := 65) (P.map fun p => Value.int .i64 (p.1 : Int) :: u8s p.2) k (.int .i64 p.1 :: u8s p.2) (by intro l hl; obtain ⟨p, hp', rfl⟩ := List.mem_map.1 hl; simp [hp p hp']) (by simp [hk])
  have hp64 := hp p (List.mem_of_getElem? hk)
  have key : ∀ j v, (Value.int .i64 (p.1 : Int) :: u8s p.2)[j]? = some v → w.cell? ⟨g, k * 65 + j, none⟩ = some v := by
    intro j v hj
    have hlt : j < 65 := by have := (List.getElem?_eq_some_iff.1 hj).1; simpa [hp64] using this
    rw [← hg, List.getElem?_take, if_pos hlt, List.getElem?_drop] at hj
    have := hc _ v hj
    rwa [Addr.add_mid, Nat.zero_add] at this
  exact ⟨key 0 _ rfl, fun j v hj => by have := key (j + 1) v (by simpa using hj); rwa [show k * 65 + (j + 1) = k * 65 + 1 + j by omega] at this⟩

theorem zero74 (w : World) : (zeroValue 117).run Try.prog w = .ok (.agg zero64.toArray) w := by kernel_rfl

set_option maxRecDepth 100000 in
theorem written_any (i : Nat) (l : List Int) (h : At w bd D s) (hi : s.L[i]? = some l) : Calls Try.prog 122 #[.pointer (some ⟨bd, 0, none⟩), .int .i64 i] w fun e w' =>
    e = .returned (.agg (u8s (now s.P i l)).toArray) ∧ Fr No w w' := by
  have hm := h.ok.n1
  have hlt : i < s.L.length := (List.getElem?_eq_some_iff.1 hi).1
  have h' := h
  obtain ⟨ok, bl, pv, h1, h2, h3, h4, h5, h6, h7, h8⟩ := h'
  have c0 : w.cell? ⟨bd, 0, none⟩ = some _ := h1.cell 0
  have c1 : w.cell? ⟨bd, 1, none⟩ = some pv := h1.cell 1
  have hb := h1.lt
  have hr := h2.range _ _ (getU8 ok.sec hi)
  have h64 := ok.sec l (List.mem_of_getElem? hi)
  have p64 : ∀ p ∈ s.P, p.2.length = 64 := fun p hp => (ok.pnd p hp).2
  have HL := hid hi
  clear hi
  rcases h3.2 with ⟨rfl, hn⟩ | ⟨g, cap, cur, rfl, hx1, hx2, hl1, hl2, hx3⟩
  · have hp0 : s.P = [] := List.length_eq_zero_iff.1 hn
    rw [hp0]
    have HR := hid hr
    have H64 := hid h64
    clear h h1 h2 h3 h5 hr h64 ok h4 h6 h7 h8 p64 hn hp0
    go_enter Try.func122, Try.ntmps122
    go_wp2_with ((with_reducible show wpList _ _ _ ({ dst := _, op := .alloc 117, type := _, pos := _, after := _, guard := _ } :: _) _ _); refine wpL_alloc rfl _ rfl _ zero74 zero64 rfl ?_; intro w1 HB HF HS; replace c0 := HF.out.cell c0 id; replace c1 := HF.out.cell c1 id)
    go_loop [5] (fun v => v = .int .i64 (-1)) (fun _ => 0)
    case atStart => rfl
    case round =>
      obtain rfl := hrel
      go_wp2_with (first
        | ((with_reducible show wpList _ _ _ ({ dst := _, op := .load 117 _, type := _, pos := _, after := _, guard := _ } :: _) _ _); refine wpL_load rfl _ _ rfl bl (i * 64) rfl (u8s l) _ (HF.out.range HR.out id) rfl rfl (by rw [u8s_length, H64.out]; exact info74) ?_)
        | ((with_reducible show wpList _ _ _ ({ dst := _, op := .store 117 _ _, type := _, pos := _, after := _, guard := _ } :: _) _ _); refine wpL_store rfl _ _ _ rfl w.heap.size 0 (u8s l) rfl rfl _ _ HB.out (by simp [H64.out, zero64]) (by rw [u8s_length, H64.out]; exact info74) (u8s_one l) ?_; intro w2 HB2 HF2 HS2))
      have e : spl zero64 0 (u8s l) = u8s l := by
        have : (u8s l).length = 64 := by simp [H64.out]
        simp [spl, this, zero64]
      have HB3 := HB2.out
      rw [e] at HB3
      refine ret_cell rfl _ rfl HB3 rfl rfl (by rw [u8s_length, H64.out]; exact info74) rfl ?_
      exact ⟨rfl, HF.out.trans HF2.out (fun k hk => .inr (by rw [hk]; exact Nat.le_refl _))⟩
  · have hpl : s.P.length ≤ maxLen := Nat.le_trans hl1 hl2
    unfold maxLen at hpl
    have HR := hid hr
    have H3 := hid h3
    have H64 := hid h64
    have P64 := hid p64
    clear h h1 h2 h3 h5 hr hl2 h64 hx1 hx2 hx3 ok h4 h6 h7 h8 p64
    go_enter Try.func122, Try.ntmps122
    go_wp2_with ((with_reducible show wpList _ _ _ ({ dst := _, op := .alloc 117, type := _, pos := _, after := _, guard := _ } :: _) _ _); refine wpL_alloc rfl _ rfl _ zero74 zero64 rfl ?_; intro w1 HB HF HS; replace c0 := HF.out.cell c0 id; replace c1 := HF.out.cell c1 id)
    go_loop [5] (fun v => ∃ k : Nat, k ≤ s.P.length ∧ v = .int .i64 ((k : Int) - 1) ∧ ∀ (j : Nat) (q : Nat × List Int), k ≤ j → s.P[j]? = some q → q.1 ≠ i) (fun v => (intOf v + 1).toNat)
    case atStart => exact ⟨s.P.length, Nat.le_refl _, by go_num, fun j q hj hq => by have := (List.getElem?_eq_some_iff.1 hq).1; omega⟩
    case round =>
      obtain ⟨k, hk, rfl, hno⟩ := hrel
      have HN := hid hno; clear hno
      by_cases hk0 : k = 0
      · subst hk0
        go_wp2_with (first
          | ((with_reducible show wpList _ _ _ ({ dst := _, op := .load 117 _, type := _, pos := _, after := _, guard := _ } :: _) _ _); refine wpL_load rfl _ _ rfl bl (i * 64) rfl (u8s l) _ (HF.out.range HR.out id) rfl rfl (by rw [u8s_length, H64.out]; exact info74) ?_)
          | ((with_reducible show wpList _ _ _ ({ dst := _, op := .store 117 _ _, type := _, pos := _, after := _, guard := _ } :: _) _ _); refine wpL_store rfl _ _ _ rfl w.heap.size 0 (u8s l) rfl rfl _ _ HB.out (by simp [H64.out, zero64]) (by rw [u8s_length, H64.out]; exact info74) (u8s_one l) ?_; intro w2 HB2 HF2 HS2))
        have e : spl zero64 0 (u8s l) = u8s l := by
          have : (u8s l).length = 64 := by simp [H64.out]
          simp [spl, this, zero64]
        have HB3 := HB2.out
        rw [e] at HB3
        refine ret_cell rfl _ rfl HB3 rfl rfl (by rw [u8s_length, H64.out]; exact info74) rfl ?_
        rw [now_none _ _ _ (fun j q => HN.out j q (by omega))]
        exact ⟨rfl, HF.out.trans HF2.out (fun k hk => .inr (by rw [hk]; exact Nat.le_refl _))⟩
      · obtain ⟨m, rfl⟩ := Nat.exists_eq_succ_of_ne_zero hk0
        obtain ⟨p, hp⟩ : ∃ p, s.P[m]? = some p := ⟨s.P[m], List.getElem?_eq_getElem (by omega)⟩
        obtain ⟨cp, rp⟩ := own_range H3.out P64.out hp
        have hp64 := P64.out p (List.mem_of_getElem? hp)
        replace cp := HF.out.cell cp id
        have RP := hid (HF.out.range rp id)
        have HP := hid hp
        have HP64 := hid hp64
        clear rp hp hp64
        have hml : m < s.P.length := by omega
        have hm0 : (0 : Int) ≤ m := by omega
        rw [show ((m.succ : Nat) : Int) - 1 = m by omega]
        clear hk0
        by_cases hpi : p.1 = i
        · have t1 : ((p.1 : Int) == (i : Int)) = true := by simp [hpi]
          have HI := hid hpi; clear hpi
          go_wp2_with (first
            | ((with_reducible show wpList _ _ _ ({ dst := _, op := .load 117 _, type := _, pos := _, after := _, guard := _ } :: _) _ _); refine wpL_load rfl _ _ rfl g (m * 65 + 1) rfl (u8s p.2) _ RP.out rfl rfl (by rw [u8s_length, HP64.out]; exact info74) ?_)
            | ((with_reducible show wpList _ _ _ ({ dst := _, op := .store 117 _ _, type := _, pos := _, after := _, guard := _ } :: _) _ _); refine wpL_store rfl _ _ _ rfl w.heap.size 0 (u8s p.2) rfl rfl _ _ HB.out (by simp [HP64.out, zero64]) (by rw [u8s_length, HP64.out]; exact info74) (u8s_one p.2) ?_; intro w2 HB2 HF2 HS2))
          have e : spl zero64 0 (u8s p.2) = u8s p.2 := by
            have : (u8s p.2).length = 64 := by simp [HP64.out]
            simp [spl, this, zero64]
          have HB3 := HB2.out
          rw [e] at HB3
          refine ret_cell rfl _ rfl HB3 rfl rfl (by rw [u8s_length, HP64.out]; exact info74) rfl ?_
          rw [now_last s.P i m l p HP.out HI.out (fun j q hj => HN.out j q (by omega))]
          exact ⟨rfl, HF.out.trans HF2.out (fun k hk => .inr (by rw [hk]; exact Nat.le_refl _))⟩
        · have t1 : ((p.1 : Int) == (i : Int)) = false := by simp; omega
          have HI := hid hpi; clear hpi
          go_wp2
          go_round
          case rel =>
            refine ⟨m, by omega, by go_num, fun j q hj hq => ?_⟩
            by_cases e : j = m
            · subst e; rw [HP.out] at hq; cases hq; exact HI.out
            · exact HN.out j q (by omega) hq
          case measure => simp [intOf]

theorem read_any (n : Int) (h : At w bd D s) : Calls Try.prog 109 #[.pointer (some ⟨bd, 0, none⟩), .int .i64 n] w (Ans w (s.read n)) := by
  obtain ⟨bl, pv, c0, c1, c2, c3⟩ := h.cells
  simp only [id] at c2
  cases hu : s.up with
  | false =>
    have e1 : s.read n = ([], 10) := by simp [St.read, hu]
    rw [e1]
    rw [hu] at c2
    clear h hu e1
    go_enter Try.func109, Try.ntmps109
    go_wp2
    go_ret2
    exact ⟨_, rfl, bytes_nil _ _, Fr.refl _ _⟩
  | true =>
    rw [hu] at c2
    have hh := has_any n h
    by_cases hn : 0 ≤ n ∧ n < s.L.length
    · rw [decide_eq_true hn] at hh
      obtain ⟨i, rfl⟩ := Int.eq_ofNat_of_zero_le hn.1
      obtain ⟨l, hl⟩ : ∃ l, s.L[i]? = some l := ⟨s.L[i]'(by omega), List.getElem?_eq_getElem (by omega)⟩
      have e1 : s.read i = (now s.P i l, 0) := by simp [St.read, hl, hu]
      rw [e1]
      have hw := written_any i l h hl
      have h64 : (now s.P i l).length = 64 := now_64 _ _ _ (h.ok.sec l (List.mem_of_getElem? hl)) (fun p hp => (h.ok.pnd p hp).2)
      have HH := hid hh
      have HW := hid hw
      have H64 := hid h64
      clear h hu hh hn hl e1 hw h64
      go_enter Try.func109, Try.ntmps109
      go_wp2_with (first
        | (go_at_call 67; refine HH.out.mono ?_; rintro e w' ⟨rfl, rfl⟩)
        | (go_at_call 122; refine HW.out.mono ?_; rintro e w1 ⟨rfl, hf1⟩; have HF1 := hid hf1; clear hf1)
        | (go_at_call 121; refine (bytesOf_any _ _ H64.out).mono ?_; rintro e w2 ⟨v, rfl, hv, hf⟩; have HF2 := hid hf; have HV := hid hv; clear hf hv))
      go_ret2
      refine ⟨v, rfl, ?_, HF1.out.trans' HF2.out⟩
      exact HV.out.mono fun k hk => Nat.le_trans HF1.out.size hk
    · rw [decide_eq_false hn] at hh
      rw [St.read_no hu hn]
      have HH := hid hh
      clear h hu hh hn
      go_enter Try.func109, Try.ntmps109
      go_wp2_with (go_at_call 67; refine HH.out.mono ?_; rintro e w' ⟨rfl, rfl⟩)
      go_ret2
      exact ⟨_, rfl, bytes_nil _ _, Fr.refl _ _⟩
end
end Go.Proofs.Ytlnolnaapnijbaa.D
