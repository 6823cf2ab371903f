/-
  The document's log: numbers, sectors.
-/
import Derived.Test.YtlnolnaapnijbaaLogAc
import Derived.Test.YtlnolnaapnijbaaRefT
namespace Go.Proofs.Ytlnolnaapnijbaa.L
set_option maxRecDepth 100000
open Go.RowKit K

theorem rnumber_any (fr k : Nat) (l : List UInt8) (a : Option Addr) (cap : Nat) (w : World) (hr : S.At w a l) (h : fr + k ≤ l.length) (hl : l.length ≤ 64) (hk : k ≤ 4) :
    Calls Try.prog 92 #[.slice a l.length cap, .int .i64 fr, .int .i64 k] w fun e w' => e = .returned (.int .u32 (nm ((l.drop fr).take k) : Nat)) ∧ w = w' := by
  have HR := hid hr; have HL := hid hl
  have hfk : (fr : Int) + k ≤ 64 := by omega
  have hki : (k : Int) ≤ 4 := by omega
  clear hr hl
  go_enter Try.func92, Try.ntmps92
  go_wp2_with fail
  go_loop [7, 8] (fun m i => ∃ j : Nat, j ≤ k ∧ i = .int .i64 ((k : Int) - 1 - j) ∧ m = .int .u32 ((nm ((l.drop (fr + (k - j))).take j) : Nat) : Int)) (fun _ i => (intOf i + 1).toNat)
  case atStart => exact ⟨0, by omega, by go_num, by simp [nm]⟩
  case round =>
    obtain ⟨j, hj, rfl, rfl⟩ := hrel
    by_cases hlt : j < k
    · have hi : fr + (k - (j + 1)) < l.length := by have := HL.out; omega
      obtain ⟨g, o, rfl, hcell⟩ := HR.out _ hi
      have HS := hid (nm_step (j := j) hi)
      rw [show fr + (k - (j + 1)) + 1 = fr + (k - j) by omega] at HS
      have hlt2 := nm_lt ((l.drop (fr + (k - j))).take j)
      have hlen : ((l.drop (fr + (k - j))).take j).length ≤ 3 := by simp; omega
      have hm : nm ((l.drop (fr + (k - j))).take j) < 16777216 := Nat.lt_of_lt_of_le hlt2 (Nat.le_trans (Nat.pow_le_pow_right (by decide) hlen) (by decide))
      have hcl := l[fr + (k - (j + 1))].toNat_lt
      generalize nm ((l.drop (fr + (k - j))).take j) = m at hm HS ⊢
      generalize l[fr + (k - (j + 1))].toNat = c at hcl hcell HS ⊢
      rw [show (k : Int) - 1 - j = ((k - (j + 1) : Nat) : Int) by omega]
      generalize hidx : k - (j + 1) = idx at hcell HS hi ⊢
      have hL : (fr : Int) + idx < l.length := by omega
      have hL2 : (idx : Int) ≤ 4 := by omega
      have hL3 : (fr : Int) ≤ 64 := by omega
      clear hlt2 hlen HR
      go_wp2_with fail
      refine ⟨⟨j + 1, by omega, by go_num, ?_⟩, by simp [intOf]; try omega⟩
      rw [show fr + (k - (j + 1)) = fr + idx by omega, HS.out]
      congr 1
      omega
    · have hjk : j = k := by omega
      subst hjk
      go_wp2
      go_ret
      exact ⟨by simp, rfl⟩
theorem info5y : (Try.prog.info? 5).map (fun i => (i.zero, i.size, i.bytes)) = some (some (.int .u8 0), 1, 1) := by kernel_rfl
theorem rputs_any (k n : Nat) (w : World) (hk : k ≤ 4) (hn : n < 4294967296) :
    Calls Try.prog 69 #[.int .u32 n, .int .i64 k] w fun e w' => ∃ a c, e = .returned (.slice a k c) ∧ w'.ownsRow w.heap.size 5 1 (.slice a k c) k (u8s (le k n)) ∧ Fr No w w' := by
  have hki : (k : Int) ≤ 4 := by omega
  obtain ⟨i5, hi5, hz5, hs5, hb5⟩ := info_parts info5y
  have I5 := hid hi5; have Z5 := hid hz5; have S5 := hid hs5; have B5 := hid hb5
  have HN := hid hn
  clear hi5 hz5 hs5 hb5 hn
  go_enter Try.func69, Try.ntmps69
  go_wp2_with fail
  go_loopw [0, 5, 6] (fun m v i wr => ∃ (j : Nat) (a : Option Addr) (c : Nat), j ≤ k ∧ i = .int .i64 j ∧ m = .int .u32 ((n / 256 ^ j : Nat) : Int) ∧ v = .slice a j c ∧ Hid (wr.ownsRow w.heap.size 5 1 (.slice a j c) j (u8s (le j n))) ∧ Hid (Fr No w wr)) (fun _ _ i _ => k - (intOf i).toNat)
  case atStart => exact ⟨0, none, 0, by omega, rfl, by simp, rfl, hid (World.ownsRow_nil _ _ _ _), hid (Fr.refl _ _)⟩
  case round =>
    obtain ⟨j, a, c, hj, rfl, rfl, rfl, HO, HF⟩ := hrel
    by_cases hlt : j < k
    · have hd : n / 256 ^ j ≤ 4294967295 := Nat.le_trans (Nat.div_le_self _ _) (by have := HN.out; omega)
      have HD : Hid (n / 256 ^ (j + 1) = n / 256 ^ j / 256) := hid (by rw [Nat.pow_succ, Nat.div_div_eq_div_mul])
      have HS : Hid (le (j + 1) n = le j n ++ [UInt8.ofNat (n / 256 ^ j)]) := hid (le_snoc j n)
      have hj4 : (j : Int) ≤ 4 := by omega
      generalize n / 256 ^ j = m at hd HD HS ⊢
      have HZ := hid HF.out.size
      go_wp2_with (first
        | ((with_reducible show wpList _ _ _ ({ dst := _, op := .buildSlice 66 _ _, type := _, pos := _, after := _, guard := _ } :: _) _ _); refine wpL_buildOne rfl _ 5 _ rfl i5 _ rfl I5.out Z5.out (by rw [S5.out]; decide) (by rw [S5.out]; decide) _ [.int .u8 ((m : Int) % 256)] rfl rfl (by rw [S5.out]; rfl) ?_; intro w7 HB7 HF7 HS7; have HO7 := hid (own_fr HO.out HF7.out (fun _ _ e => e)))
        | ((with_reducible show wpList _ _ _ ({ dst := _, op := .call { callee := .builtin .append, args := _, argTypes := _ }, type := _, pos := _, after := _, guard := _ } :: _) _ _); refine wpL_append rfl _ _ 66 rfl w.heap.size 5 i5 _ 1 1 rfl I5.out Z5.out S5.out B5.out rfl (by decide) _ j (u8s (le j n)) rfl HO7.out (some ⟨wr.heap.size, 0, none⟩) 1 1 [.int .u8 ((m : Int) % 256)] rfl rfl (.inr ⟨_, rfl, range_loads (HB7.out.range 0 _ rfl)⟩) (by intro v hv; simp at hv; subst hv; rfl) (by unfold maxLen; omega) (by omega) (Nat.le_trans HZ.out HF7.out.size) ?_; intro a8 cap8 w8 HO8 HG8 HA8))
      refine ⟨⟨j + 1, a8, cap8, by omega, by go_num, by rw [HD.out]; go_num, rfl, hid ?_, hid ((HF.out.trans' HF7.out).trans (frown HG8.out) (fun b e => .inr (own_low HO.out b e)))⟩, by simp [intOf]; omega⟩
      have h8 := HO8.out
      rw [u8_of_u32] at h8
      rw [HS.out, u8s_append]
      exact h8
    · obtain rfl : j = k := by omega
      go_wp2
      go_ret
      exact ⟨_, _, rfl, HO.out, HF.out⟩
theorem own_mono {w : World} {base base' : Nat} {e : TypeId} {size n : Nat} {v : Value} {xs : List Value} (h : w.ownsRow base e size v n xs) (hb : base' ≤ base) : w.ownsRow base' e size v n xs := by
  refine ⟨h.1, h.2.imp id fun ⟨g, cap, cur, h1, h2, h3⟩ => ⟨g, cap, cur, h1, by omega, h3⟩⟩
theorem own_srcs {w : World} {base : Nat} {e : TypeId} {a : Option Addr} {cap n : Nat} {L : List Value} (h : w.ownsRow base e 1 (.slice a n cap) n L) : n = 0 ∨ ∃ ad, a = some ad ∧ ∀ (j : Nat) (u : Value), L[j]? = some u → w.cell? (ad.add j) = some u := by
  rcases h.2 with ⟨e1, h0⟩ | ⟨g, cap', cur, e1, hb, hg, h1, h2, h3, h4⟩
  · exact .inl h0
  · simp only [Value.slice.injEq] at e1
    obtain ⟨rfl, _, rfl⟩ := e1
    refine .inr ⟨_, rfl, range_loads ?_⟩
    exact Blk.range (t := e) (cs := cur.toList) (by simpa [Blk] using hg) 0 _ (by rw [List.drop_zero]; have := h.1; rw [this]; exact h4)
theorem bytes_srcs {w : World} {E : Nat → Prop} {v : Value} {b : List UInt8} (h : BytesIn w E v b) : ∃ a c, v = .slice a b.length c ∧ b.length ≤ c ∧ (b.length = 0 ∨ ∃ ad, a = some ad ∧ ∀ (j : Nat) (u : Value), (u8s b)[j]? = some u → w.cell? (ad.add j) = some u) := by
  obtain ⟨a, len, cap, rfl, rfl, h0, h3⟩ := h
  exact ⟨a, cap, rfl, h0, h3.imp id fun ⟨g, o, h4, _, _, h5⟩ => ⟨_, h4, range_loads h5⟩⟩
theorem bytes_src2 {w : World} {E : Nat → Prop} {a : Option Addr} {n c : Nat} {b : List UInt8} (h : BytesIn w E (.slice a n c) b) : n = 0 ∨ ∃ ad, a = some ad ∧ ∀ (j : Nat) (u : Value), (u8s b)[j]? = some u → w.cell? (ad.add j) = some u := by
  obtain ⟨a', len, cap, e1, rfl, h0, h3⟩ := h
  simp only [Value.slice.injEq] at e1
  obtain ⟨rfl, rfl, rfl⟩ := e1
  exact h3.imp id fun ⟨g, o, h4, _, _, h5⟩ => ⟨_, h4, range_loads h5⟩
theorem own_trans {w0 w w' : World} {e : TypeId} {size n : Nat} {v : Value} {xs : List Value} (h : Fr No w0 w) (ho : w.ownsRow w0.heap.size e size v n xs) (hg : w.grownBy w' v.ownBlock) : Fr No w0 w' := h.trans (frown hg) (fun b e => .inr (own_low ho b e))
theorem own_cast {w : World} {base : Nat} {e : TypeId} {size n : Nat} {a : Option Addr} {c : Nat} {xs : List Value} (m : Nat) (ys : List Value) (h : w.ownsRow base e size (.slice a n c) n xs) (hn : n = m) (hx : xs = ys) : w.ownsRow base e size (.slice a m c) m ys := by
  subst hn; subst hx; exact h
theorem u8s_int (f : Int) : [Value.int .u8 (f % 256)] = u8s [UInt8.ofNat ((f % 256).toNat)] := by
  simp only [u8s, List.map_cons, List.map_nil, ofNat_toNat]
  congr 2
  omega
theorem u8s_nat {n : Nat} (h : n < 256) : [Value.int .u8 (n : Int)] = u8s [UInt8.ofNat n] := by
  simp only [u8s, List.map_cons, List.map_nil, ofNat_toNat]
  congr 2
  omega
def sliceLen : Value → Nat
  | .slice _ n _ => n
  | _ => 0
theorem rmade_any (e l p : Nat) (f : Int) (v : Value) (b : List UInt8) (E : Nat → Prop) (w : World) (he : e < 4294967296) (hl : l < 4294967296) (hp : p < 65536) (hv : BytesIn w E v b) (hb : b.length ≤ 48) :
    Calls Try.prog 38 #[.int .u32 e, .int .u32 l, .int .i64 p, .int .i64 f, v] w fun en w' => ∃ a c, en = .returned (.slice a 64 c) ∧ w'.ownsRow w.heap.size 5 1 (.slice a 64 c) 64 (u8s (made e l p ((f % 256).toNat) b.length (pad48 b))) ∧ Fr No w w' := by
  obtain ⟨i5, hi5, hz5, hs5, hb5⟩ := info_parts info5y
  have I5 := hid hi5; have Z5 := hid hz5; have S5 := hid hs5; have B5 := hid hb5
  obtain ⟨av, cv, rfl, hlc, hsrc⟩ := bytes_srcs hv
  have HV := hid hv; have HSrc := hid hsrc; have HB := hid hb; have HE := hid he; have HLi := hid hl; have HP := hid hp
  have hbi : (b.length : Int) ≤ 48 := by omega
  have hpi : (p : Int) < 65536 := by omega
  clear hi5 hz5 hs5 hb5 hv hsrc he hl hp
  go_enter Try.func38, Try.ntmps38
  go_wp2_with fail
  refine (rputs_any 4 e w (by decide) HE.out).mono ?_
  rintro en w1 ⟨a1, c1, rfl, h1, hf1⟩
  have HO1 := hid h1; have HF1 := hid hf1
  clear h1 hf1
  go_wp2_with fail
  refine (rputs_any 4 l w1 (by decide) HLi.out).mono ?_
  rintro en w2 ⟨a2, c2, rfl, h1, hf1⟩
  have HO2 := hid (own_fr HO1.out hf1 (fun _ _ e => e)); have HS2 := hid (own_srcs h1); have HF2 := hid (HF1.out.trans' hf1)
  clear h1 hf1
  go_wp2_with ((with_reducible show wpList _ _ _ ({ dst := _, op := .call { callee := .builtin .append, args := _, argTypes := _ }, type := _, pos := _, after := _, guard := _ } :: _) _ _); refine wpL_append rfl _ _ 66 rfl w.heap.size 5 i5 _ 1 1 rfl I5.out Z5.out S5.out B5.out rfl (by decide) _ 4 (u8s (le 4 e)) rfl HO2.out a2 4 c2 (u8s (le 4 l)) rfl rfl HS2.out (u8s_one _) (by decide) (by decide) HF2.out.size ?_; intro a3 c3 w3 HO3 HG3 HA3)
  have HF3 := hid (own_trans HF2.out HO2.out HG3.out)
  refine (rputs_any 2 p w3 (by decide) (by have := HP.out; omega)).mono ?_
  rintro en w4 ⟨a4, c4, rfl, h1, hf1⟩
  have HO4 := hid (own_fr HO3.out hf1 (fun _ _ e => e)); have HS4 := hid (own_srcs h1); have HF4 := hid (HF3.out.trans' hf1)
  clear h1 hf1
  go_wp2_with (first
    | ((with_reducible show wpList _ _ _ ({ dst := _, op := .call { callee := .builtin .append, args := _, argTypes := _ }, type := _, pos := _, after := _, guard := _ } :: _) _ _); have := HO9; refine wpL_append rfl _ _ 66 rfl w.heap.size 5 i5 _ 1 1 rfl I5.out Z5.out S5.out B5.out rfl (by decide) _ 12 (u8s (le 4 e ++ le 4 l ++ le 2 p ++ [UInt8.ofNat ((f % 256).toNat)] ++ [UInt8.ofNat b.length])) rfl HO9.out av b.length cv (u8s b) rfl (by simp [u8s]) (bytes_src2 (HV.out.no HF9.out)) (u8s_one _) (by unfold maxLen; omega) (by omega) HF9.out.size ?_; intro a10 c10 w10 HO10 HG10 HA10; have HF10 := hid (own_trans HF9.out HO9.out HG10.out); have HO10 := hid (own_cast (12 + b.length) (u8s (le 4 e ++ le 4 l ++ le 2 p ++ [UInt8.ofNat ((f % 256).toNat)] ++ [UInt8.ofNat b.length] ++ b)) HO10.out rfl (by rw [← u8s_append])))
    | ((with_reducible show wpList _ _ _ ({ dst := _, op := .call { callee := .builtin .append, args := _, argTypes := _ }, type := _, pos := _, after := _, guard := _ } :: _) _ _); have := HO8; refine wpL_append rfl _ _ 66 rfl w.heap.size 5 i5 _ 1 1 rfl I5.out Z5.out S5.out B5.out rfl (by decide) _ 11 (u8s (le 4 e ++ le 4 l ++ le 2 p ++ [UInt8.ofNat ((f % 256).toNat)])) rfl HO8.out (some ⟨w7.heap.size, 0, none⟩) 1 1 [.int .u8 (b.length : Int)] rfl rfl (.inr ⟨_, rfl, range_loads (HB8.out.range 0 _ rfl)⟩) (by intro v hv; simp at hv; subst hv; rfl) (by decide) (by decide) HF8.out.size ?_; intro a9 c9 w9 HO9 HG9 HA9; have HF9 := hid (own_trans HF8.out HO8.out HG9.out); have HO9 := hid (own_cast 12 (u8s (le 4 e ++ le 4 l ++ le 2 p ++ [UInt8.ofNat ((f % 256).toNat)] ++ [UInt8.ofNat b.length])) HO9.out rfl (by rw [u8s_nat (by omega), ← u8s_append])))
    | ((with_reducible show wpList _ _ _ ({ dst := _, op := .buildSlice 66 _ _, type := _, pos := _, after := _, guard := _ } :: _) _ _); have := HO7; refine wpL_buildOne rfl _ 5 _ rfl i5 _ rfl I5.out Z5.out (by rw [S5.out]; decide) (by rw [S5.out]; decide) _ [.int .u8 (b.length : Int)] rfl rfl (by rw [S5.out]; rfl) ?_; intro w8 HB8 HN8 HS8; have HO8 := hid (own_fr HO7.out HN8.out (fun _ _ e => e)); have HF8 := hid (HF7.out.trans' HN8.out))
    | ((with_reducible show wpList _ _ _ ({ dst := _, op := .call { callee := .builtin .append, args := _, argTypes := _ }, type := _, pos := _, after := _, guard := _ } :: _) _ _); have := HO6; refine wpL_append rfl _ _ 66 rfl w.heap.size 5 i5 _ 1 1 rfl I5.out Z5.out S5.out B5.out rfl (by decide) _ 10 (u8s (le 4 e ++ le 4 l ++ le 2 p)) rfl HO6.out (some ⟨w5.heap.size, 0, none⟩) 1 1 [.int .u8 (f % 256)] rfl rfl (.inr ⟨_, rfl, range_loads (HB6.out.range 0 _ rfl)⟩) (by intro v hv; simp at hv; subst hv; rfl) (by decide) (by decide) HF6.out.size ?_; intro a7 c7 w7 HO7 HG7 HA7; have HF7 := hid (own_trans HF6.out HO6.out HG7.out); have HO7 := hid (own_cast 11 (u8s (le 4 e ++ le 4 l ++ le 2 p ++ [UInt8.ofNat ((f % 256).toNat)])) HO7.out rfl (by rw [u8s_int, ← u8s_append])))
    | ((with_reducible show wpList _ _ _ ({ dst := _, op := .buildSlice 66 _ _, type := _, pos := _, after := _, guard := _ } :: _) _ _); have := HO5; refine wpL_buildOne rfl _ 5 _ rfl i5 _ rfl I5.out Z5.out (by rw [S5.out]; decide) (by rw [S5.out]; decide) _ [.int .u8 (f % 256)] rfl rfl (by rw [S5.out]; rfl) ?_; intro w6 HB6 HN6 HS6; have HO6 := hid (own_fr HO5.out HN6.out (fun _ _ e => e)); have HF6 := hid (HF5.out.trans' HN6.out))
    | ((with_reducible show wpList _ _ _ ({ dst := _, op := .call { callee := .builtin .append, args := _, argTypes := _ }, type := _, pos := _, after := _, guard := _ } :: _) _ _); refine wpL_append rfl _ _ 66 rfl w.heap.size 5 i5 _ 1 1 rfl I5.out Z5.out S5.out B5.out rfl (by decide) _ 8 (u8s (le 4 e) ++ u8s (le 4 l)) rfl HO4.out a4 2 c4 (u8s (le 2 p)) rfl rfl HS4.out (u8s_one _) (by decide) (by decide) HF4.out.size ?_; intro a5 c5 w5 HO5 HG5 HA5; have HF5 := hid (own_trans HF4.out HO4.out HG5.out); have HO5 := hid (own_cast 10 (u8s (le 4 e ++ le 4 l ++ le 2 p)) HO5.out rfl (by simp only [u8s_append]))))
  have hXl : (le 4 e ++ le 4 l ++ le 2 p ++ [UInt8.ofNat ((f % 256).toNat)] ++ [UInt8.ofNat b.length] ++ b).length = 12 + b.length := by simp; omega
  have hXr : (le 4 e ++ le 4 l ++ le 2 p ++ [UInt8.ofNat ((f % 256).toNat)] ++ [UInt8.ofNat b.length] ++ b) ++ List.replicate (48 - b.length) 0 = rest e l p ((f % 256).toNat) b.length (pad48 b) := by simp [rest, pad48, le]
  generalize (le 4 e ++ le 4 l ++ le 2 p ++ [UInt8.ofNat ((f % 256).toNat)] ++ [UInt8.ofNat b.length] ++ b) = X at HO10 hXl hXr
  have HXl := hid hXl; have HXr := hid hXr
  clear hXl hXr
  have hb0 : (0 : Int) ≤ b.length := by omega
  go_loopw [11] (fun v wr => ∃ (n : Nat) (a : Option Addr) (c : Nat), n ≤ 60 ∧ 12 + b.length ≤ n ∧ v = .slice a n c ∧ Hid (wr.ownsRow w.heap.size 5 1 (.slice a n c) n (u8s (X ++ List.replicate (n - (12 + b.length)) 0))) ∧ Hid (Fr No w wr)) (fun v _ => 60 - sliceLen v)
  case atStart => exact ⟨12 + b.length, a10, c10, by omega, Nat.le_refl _, rfl, hid (by rw [Nat.sub_self]; simpa using HO10.out), HF10⟩
  case round =>
    obtain ⟨n, a, c, hn60, hn12, rfl, HO, HF⟩ := hrel
    by_cases hlt : n < 60
    · have hni : (n : Int) < 60 := by omega
      go_wp2_with (first
        | ((with_reducible show wpList _ _ _ ({ dst := _, op := .buildSlice 66 _ _, type := _, pos := _, after := _, guard := _ } :: _) _ _); refine wpL_buildOne rfl _ 5 _ rfl i5 _ rfl I5.out Z5.out (by rw [S5.out]; decide) (by rw [S5.out]; decide) _ [.int .u8 0] rfl rfl (by rw [S5.out]; rfl) ?_; intro w11 HB11 HN11 HS11; have HO11 := hid (own_fr HO.out HN11.out (fun _ _ e => e)); have HF11 := hid (HF.out.trans' HN11.out))
        | ((with_reducible show wpList _ _ _ ({ dst := _, op := .call { callee := .builtin .append, args := _, argTypes := _ }, type := _, pos := _, after := _, guard := _ } :: _) _ _); refine wpL_append rfl _ _ 66 rfl w.heap.size 5 i5 _ 1 1 rfl I5.out Z5.out S5.out B5.out rfl (by decide) _ n (u8s (X ++ List.replicate (n - (12 + b.length)) 0)) rfl HO11.out (some ⟨wr.heap.size, 0, none⟩) 1 1 [.int .u8 0] rfl rfl (.inr ⟨_, rfl, range_loads (HB11.out.range 0 _ rfl)⟩) (by intro v hv; simp at hv; subst hv; rfl) (by unfold maxLen; omega) (by omega) HF11.out.size ?_; intro a12 c12 w12 HO12 HG12 HA12; have HF12 := hid (own_trans HF11.out HO11.out HG12.out)))
      refine ⟨⟨n + 1, a12, c12, by omega, by omega, rfl, hid ?_, HF12⟩, by simp [sliceLen]; omega⟩
      refine own_cast (n + 1) _ HO12.out rfl ?_
      rw [show n + 1 - (12 + b.length) = (n - (12 + b.length)) + 1 by omega, List.replicate_succ', ← List.append_assoc, u8s_append (X ++ _)]
      rfl
    · obtain rfl : n = 60 := by omega
      have HO60 := hid (own_cast 60 (u8s (rest e l p ((f % 256).toNat) b.length (pad48 b))) HO.out rfl (by rw [show 60 - (12 + b.length) = 48 - b.length by omega, HXr.out]))
      clear HO
      generalize hR : rest e l p ((f % 256).toNat) b.length (pad48 b) = R at HO60
      have HR : Hid (R.length = 60) := hid (by rw [← hR, rest_length, pad48_length HB.out])
      have HRe := hid hR
      clear hR
      go_wp2_with fail
      have hsum := S.rsum_any R (.slice a 60 c) wr (own_bytes HO60.out) (by rw [HR.out]; decide)
      refine hsum.mono ?_
      clear hsum
      rintro en w13 ⟨rfl, rfl⟩
      have hs32 : S.add 0 R < 4294967296 := S.add_lt (by decide) _
      have HS32 := hid hs32
      clear hs32
      go_wp2_with fail
      refine (rputs_any 4 (S.add 0 R) wr (by decide) HS32.out).mono ?_
      rintro en w14 ⟨a14, c14, rfl, h1, hf1⟩
      have HO14 := hid (own_mono h1 HF.out.size); have HF14 := hid (HF.out.trans' hf1); have HS14 := hid (own_srcs (own_fr HO60.out hf1 (fun _ _ e => e)))
      clear h1 hf1
      go_wp2_with ((with_reducible show wpList _ _ _ ({ dst := _, op := .call { callee := .builtin .append, args := _, argTypes := _ }, type := _, pos := _, after := _, guard := _ } :: _) _ _); refine wpL_append rfl _ _ 66 rfl w.heap.size 5 i5 _ 1 1 rfl I5.out Z5.out S5.out B5.out rfl (by decide) _ 4 (u8s (le 4 (S.add 0 R))) rfl HO14.out a 60 c (u8s R) rfl (by simp [u8s]; exact HR.out) HS14.out (u8s_one _) (by decide) (by decide) HF14.out.size ?_; intro a15 c15 w15 HO15 HG15 HA15; have HF15 := hid (own_trans HF14.out HO14.out HG15.out))
      go_ret
      refine ⟨a15, c15, rfl, own_cast 64 _ HO15.out rfl ?_, HF15.out⟩
      rw [← u8s_append]
      unfold made
      rw [HRe.out]
end Go.Proofs.Ytlnolnaapnijbaa.L
