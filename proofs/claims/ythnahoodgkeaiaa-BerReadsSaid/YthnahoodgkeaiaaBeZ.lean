/-
  Package ber: read.
-/
import Derived.Test.YthnahoodgkeaiaaBeY
set_option linter.unusedVariables false
set_option linter.unusedSimpArgs false
namespace Go.Proofs.Ythnahoodgkeaiaa.BE
set_option maxRecDepth 100000
open Go.RowKit K

theorem len_le {m : Nat} : ∀ (ks : List Nd), (∀ x ∈ ks, 1 ≤ (enc m x).length) → ks.length ≤ (ks.map (enc m)).flatten.length
  | [], _ => Nat.zero_le _
  | x :: r, h => by
    rw [List.map_cons, List.flatten_cons, List.length_append, List.length_cons]
    have := h x (by simp)
    have := len_le r (fun y hy => h y (by simp [hy]))
    omega
theorem own_range {w : World} {base : Nat} {e : TypeId} {size : Nat} {v : Value} {n : Nat} {xs : List Value} (h : w.ownsRow base e size v n xs) :
    (v = .slice none 0 0 ∧ n = 0) ∨ ∃ g cap, v = .slice (some ⟨g, 0, none⟩) n cap ∧ base ≤ g ∧ g < w.heap.size ∧ w.rangeAt g 0 xs := by
  rcases h.2 with h0 | ⟨g, cap, cur, rfl, hb, hg, h1, h2, h3, h4⟩
  · exact .inl h0
  · refine .inr ⟨g, cap, rfl, hb, (Array.getElem?_eq_some_iff.1 hg).1, ?_⟩
    exact Blk.range (t := e) (cs := cur.toList) (by simpa [Blk] using hg) 0 _ (by rw [List.drop_zero, h.1]; exact h4)
theorem KS.nd {m base bn : Nat} {t : Int} {ks : List Nd} {v : Value} {L : List (List Value)} {w : World} (h : KS m base bn t ks v L w) {N : Nat} (hN : N ≤ base) (ht : 0 ≤ t ∧ t ≤ 255) (hk : ks.length ≤ 140737488351232) :
    NdAt (m + 1) (Since N) w (.mk t [] ks) [.int .i64 t, .string ⟨#[]⟩, v] := by
  rcases own_range h.r with ⟨rfl, h0⟩ | ⟨g, cap, rfl, hb, hg, hr⟩
  · have hks : ks = [] := List.eq_nil_of_length_eq_zero h0
    subst hks
    exact ⟨none, 0, rfl, by show _ ≤ t ∧ t ≤ _; omega, Nat.zero_le _, Nat.zero_le _, .inl rfl⟩
  · exact ⟨some ⟨g, 0, none⟩, cap, rfl, by show _ ≤ t ∧ t ≤ _; omega, Nat.zero_le _, hk, .inr ⟨g, 0, L, rfl, Nat.le_trans hN hb, hg, hr, h.l, fun j x c hx hc => NdAt.mono (fun k _ hs => Nat.le_trans hN hs.1) (h.k j x c hx hc)⟩⟩
theorem leaf_nd (m N : Nat) (w : World) (t : Int) (b : B) (ht : 0 ≤ t ∧ t ≤ 255) (hb : b.length ≤ 140737488351232) : NdAt (m + 1) (Since N) w (.mk t b []) [.int .i64 t, .string (sb b), .slice none 0 0] :=
  ⟨none, 0, rfl, by show _ ≤ t ∧ t ≤ _; omega, hb, Nat.zero_le _, .inl rfl⟩
theorem KS.self {m base bn : Nat} {t : Int} {ks : List Nd} {v : Value} {L : List (List Value)} {w w' : World} (h : KS m base bn t ks v L w) (hbn : bn < base) (hB : Blk w' bn 24 [.int .i64 t, .string ⟨#[]⟩, v]) (hf : Fr (fun k => k = bn) w w') : KS m base bn t ks v L w' :=
  ⟨hB, own_fr h.r hf (fun k hk e => by have := own_low h.r k hk; have e : k = bn := e; omega), h.l, fun j x c hx hc => NdAt.fr hf (fun k hk _ e => by have e : k = bn := e; have := hk.1; omega) (h.k j x c hx hc)⟩
theorem kids_len {m : Nat} {c : B} {ks : List Nd} (h : kidsG (rd m) c.length c = .ok ks) : ks.length ≤ c.length := by
  obtain ⟨h1, h2⟩ := kids_inv _ _ _ (rd_inv m) h
  have := len_le (m := m) ks (fun x hx => by
    obtain ⟨k, hk⟩ := deep_succ (h2 x hx).1
    subst hk
    have := enc_len k x
    omega)
  rwa [h1] at this
/-- What is read behind a head. -/
def rdT (m : Nat) (s : B) (t c h : Nat) : Except Nat (Nd × Nat) :=
  if s.length < h + c then .error 92
  else if conB t then match kidsG (rd m) ((s.drop h).take c).length ((s.drop h).take c) with
    | .error e => .error (if e = 92 then 90 else e)
    | .ok ks => .ok (.mk t [] ks, h + c)
  else .ok (.mk t ((s.drop h).take c) [], h + c)
theorem rd_succ {m : Nat} {s : B} {t c h : Nat} (hh : hdS s = .ok (t, c, h)) : rd (m + 1) s = rdT m s t c h := by
  unfold rd
  rw [hh]
  rfl
set_option maxHeartbeats 8000000 in
theorem read_any : ∀ (m : Nat), m ≤ 8 → ReadOk m := by
  intro m
  induction m with
  | zero =>
    intro _ s w hs
    obtain ⟨ss, hss⟩ : ∃ ss, sb s = ss := ⟨_, rfl⟩
    rw [hss]
    clear hs hss
    go_enter Try.func31, Try.ntmps31
    go_wp2_with ((with_reducible show wpList _ _ _ (⟨_, .alloc 24, _, _, _, _⟩ :: _) _ _); refine wpL_alloc rfl _ rfl _ zeroN [.int .i64 0, .string ⟨#[]⟩, .slice none 0 0] rfl ?_; intro w1 HB1 F1 HS1)
    refine (must_any false 91 w1).mono ?_
    rintro e w2 ⟨rfl, ⟨h, _⟩ | ⟨_, rfl⟩⟩
    · cases h
    exact ⟨rfl, F1.out, rfl⟩
  | succ m ih =>
    intro hm s w hs
    have HIH := hid (ih (by omega)); have HSL := hid hs
    have hd : ((9 - (m + 1) : Nat) : Int) = 8 - m := by omega
    have hd8 : (8 - (m : Int)) ≤ 8 := by omega
    have hd0 : 0 ≤ (8 - (m : Int)) := by omega
    rw [hd]
    obtain ⟨q, hq⟩ : ∃ q, 8 - (m : Int) = q := ⟨_, rfl⟩
    rw [hq] at hd8 hd0 ⊢
    have HQ := hid (show q + 1 = ((9 - m : Nat) : Int) by omega)
    have hsz : ((sb s).size : Int) = s.length := by rw [sb_size]
    obtain ⟨sl, hsl⟩ : ∃ sl, s.length = sl := ⟨_, rfl⟩
    rw [hsl] at hsz hs
    have HSE := hid hsl
    have hsli : (sl : Int) ≤ 281474976710656 := by omega
    clear ih hm hd hq hsl hs
    have hmf : ∀ (fn : Fn) (first cap : Array Value) (w : World), (Instr.makeFunc fn first cap).run Try.prog w = .ok (.func fn first cap) w := fun _ _ _ _ => rfl
    go_enter Try.func31, Try.ntmps31
    go_wp2_with ((with_reducible show wpList _ _ _ (⟨_, .alloc 24, _, _, _, _⟩ :: _) _ _); refine wpL_alloc rfl _ rfl _ zeroN [.int .i64 0, .string ⟨#[]⟩, .slice none 0 0] rfl ?_; intro w1 HB1 F1 HS1)
    refine (must_any true 91 w1).mono ?_
    rintro e w2 ⟨rfl, ⟨_, rfl⟩ | ⟨h, _⟩⟩
    rotate_left
    · cases h
    go_wp2_with fail
    refine (readHead_any s HSL.out w2).mono ?_
    rintro e w3 ⟨f3, h3⟩
    have HF3 := hid (F1.out.trans' f3)
    have HB3 := hid (HB1.out.fr f3 id)
    clear f3 HB1
    cases hh : hdS s with
    | error k =>
      rw [hh] at h3
      simp only at h3
      subst h3
      refine ⟨rfl, HF3.out, ?_⟩
      have e : rd (m + 1) s = .error k := by unfold rd; rw [hh]
      rw [e]
    | ok p =>
      obtain ⟨t, c, h⟩ := p
      rw [hh] at h3
      simp only at h3
      subst h3
      obtain ⟨b, htb, htag, hc4, hhl, r, hsr⟩ := hd_inv hh
      have hlp := len_pos c
      have ht255 := lt256 b
      rw [← htb] at ht255 htag
      have HH := hid hh; have HTG := hid htag
      have hrd := rd_succ (m := m) hh
      have HRD := hid hrd
      have hh4 : h ≤ 4 := by omega
      clear hsr htb htag hhl hlp hh hrd
      have hci : (c : Int) ≤ 4000 := by omega
      have hhi : (h : Int) ≤ 4 := by omega
      go_wp2_with fail
      refine (must_any _ 92 w3).mono ?_
      rintro e w4 ⟨rfl, ⟨hb, rfl⟩ | ⟨hb, rfl⟩⟩
      rotate_left
      · refine ⟨rfl, HF3.out, ?_⟩
        have hlt := of_decide_eq_false hb
        rw [HRD.out]
        unfold rdT
        rw [if_pos (by rw [HSE.out]; omega)]
      have hle := of_decide_eq_true hb
      have hlen : h + c ≤ sl := by omega
      have HLEN := hid hlen
      clear hb hle
      go_wp2_with (first
        | ((with_reducible show wpList _ _ _ (⟨_, .store 3 _ _, _, _, _, _⟩ :: _) _ _); refine wpL_setV rfl _ _ _ rfl w.heap.size 0 (.int .i64 (t : Int)) rfl rfl rfl rfl _ _ HB3.out (by simp) infoI ?_; intro w5 HB5 F5 HS5))
      refine (isCon_any t HTG.out w5).mono ?_
      rintro e w6 ⟨rfl, rfl⟩
      have hnl : ¬ s.length < h + c := by rw [HSE.out]; omega
      have HNL := hid hnl
      obtain ⟨bd, hbd⟩ : ∃ bd, (s.drop h).take c = bd := ⟨_, rfl⟩
      have hbl : bd.length = c := by rw [← hbd, List.length_take, List.length_drop, HSE.out]; omega
      have HBD := hid hbd; have HBDL := hid hbl
      have f6 : Fr No w w6 := HF3.out.trans F5.out (fun i e => .inr (by have e : i = w.heap.size := e; omega))
      have HF6 := hid f6
      clear hnl hbd hbl f6
      cases hcn : conB t with
      | false =>
        have HCN := hid hcn
        clear hcn
        go_wp2_with (first
          | ((with_reducible show wpList _ _ _ (⟨_, .slice 9 _ _ _ _, _, _, _, _⟩ :: _) _ _); refine wpL_valZ rfl (.string (sb bd)) (exec_two _ _ _ rfl s h (h + c) rfl rfl (by push_cast; rfl) (by omega) (by have := HSE.out; omega) _ (by rw [Nat.add_sub_cancel_left]; exact HBD.out) _) ?_)
          | ((with_reducible show wpList _ _ _ (⟨_, .store 9 _ _, _, _, _, _⟩ :: _) _ _); refine wpL_setV rfl _ _ _ rfl w.heap.size 1 (.string (sb bd)) rfl rfl rfl rfl _ _ HB5.out (by simp) infoStr ?_; intro w7 HB7 F7 HS7)
          | ((with_reducible show wpList _ _ _ (⟨_, .load 24 _, _, _, _, _⟩ :: _) _ _); refine wpL_load rfl _ _ rfl w.heap.size 0 rfl [.int .i64 (t : Int), .string (sb bd), .slice none 0 0] _ (HB7.out.range 0 _ rfl) rfl rfl infoN ?_)
          | ((with_reducible show wpList _ _ _ (⟨_, .store 24 _ _, _, _, _, _⟩ :: _) _ _); refine wpL_storeV rfl _ _ _ rfl w.heap.size 0 (.agg #[.int .i64 (t : Int), .string (sb bd), .slice none 0 0]) [.int .i64 (t : Int), .string (sb bd), .slice none 0 0] rfl rfl rfl _ _ HB7.out (by simp) infoN (by intro u hu; simp at hu; rcases hu with rfl | rfl | rfl <;> rfl) ?_; intro w8 HB8 F8 HS8))
        have hb8 : Blk w8 w.heap.size 24 [.int .i64 (t : Int), .string (sb bd), .slice none 0 0] := by have h := HB8.out; rwa [spl_all (by simp)] at h
        refine ret_cell2 rfl _ rfl hb8 rfl rfl (by simpa using infoN) rfl ?_
        refine ⟨(HF6.out.trans F7.out (fun i e => .inr (by have e : i = w.heap.size := e; omega))).trans F8.out (fun i e => .inr (by have e : i = w.heap.size := e; omega)), ?_⟩
        rw [HRD.out]
        unfold rdT
        rw [if_neg HNL.out, if_neg (by rw [HCN.out]; simp), HBD.out]
        exact ⟨_, by simp, leaf_nd m _ _ _ _ (by omega) (by have := HBDL.out; omega)⟩
      | true =>
        have HCN := hid hcn
        clear hcn
        go_wp2_with (first
          | ((with_reducible show wpList _ _ _ (⟨_, .slice 9 _ _ _ _, _, _, _, _⟩ :: _) _ _); refine wpL_valZ rfl (.string (sb bd)) (exec_two _ _ _ rfl s h (h + c) rfl rfl (by push_cast; rfl) (by omega) (by have := HSE.out; omega) _ (by rw [Nat.add_sub_cancel_left]; exact HBD.out) _) ?_))
        rw [HQ.out]
        refine (readKids_any m w.heap.size t bd w6 HIH.out HB5.out (by rw [HBDL.out]; exact hc4)).mono ?_
        rintro e w7 ⟨f7, hk⟩
        have HF7 := hid f7
        clear f7
        cases hkg : kidsG (rd m) bd.length bd with
        | error k =>
          rw [hkg] at hk
          simp only at hk
          subst hk
          refine ⟨rfl, HF6.out.trans HF7.out (fun i e => .inr (by have e : i = w.heap.size := e; omega)), ?_⟩
          rw [HRD.out]
          unfold rdT
          rw [if_neg HNL.out, if_pos HCN.out, HBD.out, hkg]
        | ok ks =>
          rw [hkg] at hk
          simp only at hk
          obtain ⟨rfl, v, L, base, hbase, hKS⟩ := hk
          have hklen := kids_len hkg
          have HKG := hid hkg; have HKS := hid hKS; have HBA := hid (show w.heap.size < base by have := HB5.out.lt; omega)
          have HKLEN := hid (show ks.length ≤ 140737488351232 by have := HBDL.out; omega)
          obtain ⟨v1, v2, hv12, -, -⟩ := own_form hKS.r
          have HV := hid hv12
          clear hkg hKS hbase hklen hv12
          go_wp2_with (first
            | ((with_reducible show wpList _ _ _ (⟨_, .load 24 _, _, _, _, _⟩ :: _) _ _); refine wpL_load rfl _ _ rfl w.heap.size 0 rfl [.int .i64 (t : Int), .string ⟨#[]⟩, v] _ (HKS.out.b.range 0 _ rfl) rfl rfl infoN ?_)
            | ((with_reducible show wpList _ _ _ (⟨_, .store 24 _ _, _, _, _, _⟩ :: _) _ _); refine wpL_storeV rfl _ _ _ rfl w.heap.size 0 (.agg #[.int .i64 (t : Int), .string ⟨#[]⟩, v]) [.int .i64 (t : Int), .string ⟨#[]⟩, v] rfl rfl rfl _ _ HKS.out.b (by simp) infoN (by intro u hu; simp at hu; rcases hu with rfl | rfl | rfl; rfl; rfl; rw [HV.out]; rfl) ?_; intro w8 HB8 F8 HS8))
          have hb8 : Blk w8 w.heap.size 24 [.int .i64 (t : Int), .string ⟨#[]⟩, v] := by have h := HB8.out; rwa [spl_all (by simp)] at h
          refine ret_cell2 rfl _ rfl hb8 rfl rfl (by simpa using infoN) rfl ?_
          refine ⟨(HF6.out.trans HF7.out (fun i e => .inr (by have e : i = w.heap.size := e; omega))).trans F8.out (fun i e => .inr (by have e : i = w.heap.size := e; omega)), ?_⟩
          rw [HRD.out]
          unfold rdT
          rw [if_neg HNL.out, if_pos HCN.out, HBD.out, HKG.out]
          exact ⟨_, by simp, (HKS.out.self HBA.out hb8 F8.out).nd (Nat.le_of_lt HBA.out) (by omega) HKLEN.out⟩
end Go.Proofs.Ythnahoodgkeaiaa.BE
