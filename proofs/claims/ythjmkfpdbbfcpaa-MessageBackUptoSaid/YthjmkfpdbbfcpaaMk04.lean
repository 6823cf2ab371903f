/-
  Part 4 of the proof: BeV, BeE, BeH, BeQ.
-/
import Derived.Test.YthjmkfpdbbfcpaaMk03
import Derived.Test.YthjmkfpdbbfcpaaMk02
import Derived.Test.YthjmkfpdbbfcpaaMk00
set_option linter.unusedSimpArgs false
set_option linter.unusedVariables false
namespace Go.Proofs.Ythjmkfpdbbfcpaa.BE
set_option maxRecDepth 100000
open Go.RowKit K

theorem infozB : (Try.prog.info? 5).map (fun i => (i.zero, i.size, i.bytes)) = some (some (.int .u8 0), 1, 1) := by kernel_rfl
theorem infoSl : (Try.prog.info? 58).map (·.size) = some 1 := by kernel_rfl
/-- A row of bytes that lies in no block below base. -/
def Row (base : Nat) (w : World) (v : Value) (l : B) : Prop := w.ownsRow base 5 1 v l.length (u8s l)
/-- What write leaves: l ahead of it, its own bytes behind. -/
def Wrote (base : Nat) (v : Value) (l : B) (w : World) (e : Ending) (w' : World) : Prop :=
  ∃ v', e = .returned v' ∧ Row base w' v' l ∧ Fr (fun k => v.ownBlock = some k) w w' ∧ ∀ g, v'.ownBlock = some g → v.ownBlock = some g ∨ w.heap.size ≤ g
theorem u8_tag {t : Int} (h : tagB t = true) : (Value.int .u8 (t % 256)) = .int .u8 ((UInt8.ofNat t.toNat).toNat : Int) := by
  rw [tag_back h]
  simp [tagB] at h
  congr 1
  omega
/-- The variables of a write: the row so far, the element. -/
structure WS (base : Nat) (w : World) (v : Value) (bb nb : Nat) (cs : List Value) (vc : Value) (l : B) (wx : World) : Prop where
  b : Blk wx bb 58 [vc]
  n : Blk wx nb 44 cs
  r : wx.ownsRow base 5 1 vc l.length (u8s l)
  f : Fr (fun k => v.ownBlock = some k) w wx
  o : ∀ g, vc.ownBlock = some g → v.ownBlock = some g ∨ w.heap.size ≤ g
  e : ∀ g, vc.ownBlock = some g → g ≠ bb ∧ g ≠ nb
  hb : w.heap.size ≤ bb
  hn : w.heap.size ≤ nb
  ne : bb ≠ nb
theorem WS.no {base : Nat} {w : World} {v : Value} {bb nb : Nat} {cs : List Value} {vc : Value} {l : B} {wx wy : World} (h : WS base w v bb nb cs vc l wx) (f : Fr No wx wy) : WS base w v bb nb cs vc l wy :=
  ⟨h.b.fr f id, h.n.fr f id, own_fr h.r f (fun _ _ e => e), h.f.trans' f.no, h.o, h.e, h.hb, h.hn, h.ne⟩
theorem WS.app {base : Nat} {w : World} {v : Value} {bb nb : Nat} {cs : List Value} {vc : Value} {l : B} {wx wy wz : World} (h : WS base w v bb nb cs vc l wx) {v' : Value} {l' : B} (f : Fr (fun k => vc.ownBlock = some k) wx wy)
    (hr : wy.ownsRow base 5 1 v' l'.length (u8s l')) (ho : ∀ g, v'.ownBlock = some g → vc.ownBlock = some g ∨ wx.heap.size ≤ g) (hB : Blk wz bb 58 [v']) (f2 : Fr (fun k => k = bb) wy wz) : WS base w v bb nb cs v' l' wz := by
  have hbl := h.b.lt
  have hnl := h.n.lt
  have hne : ∀ g, v'.ownBlock = some g → g ≠ bb ∧ g ≠ nb := fun g hg => by
    rcases ho g hg with hg | hg
    · exact h.e g hg
    · exact ⟨by omega, by omega⟩
  refine ⟨hB, (h.n.fr f (fun e => (h.e nb e).2 rfl)).fr f2 (fun e => h.ne e.symm), own_fr hr f2 (fun k hk e => (hne k hk).1 e), (h.f.trans f (fun k hk => h.o k hk)).trans f2 (fun k hk => .inr (by have e : k = bb := hk; have := h.hb; omega)), fun g hg => ?_, hne, h.hb, h.hn, h.ne⟩
  rcases ho g hg with hg | hg
  · exact h.o g hg
  · exact .inr (Nat.le_trans h.f.size hg)
theorem or_own {v' vc : Value} {n : Nat} (h : v'.ownBlock = vc.ownBlock ∨ v'.ownBlock = some n) : ∀ g, v'.ownBlock = some g → vc.ownBlock = some g ∨ n ≤ g := fun g hg => by
  rcases h with h | h
  · exact .inl (h ▸ hg)
  · rw [h] at hg; cases hg; exact .inr (Nat.le_refl _)
set_option maxHeartbeats 4000000 in
/-- The visitor. -/
theorem write1_any (m M N base : Nat) (w : World) (v : Value) (bb nb : Nat) (cs : List Value) (vc : Value) (l : B) (k : Nd) (c : List Value) (wv : World) (hW : WS base w v bb nb cs vc l wv) (hd : deep m k = true) (hsh : shaped m k = true) (hf : fits m k = true) (hk : NdAt M (Lo N) wv k c) (hNb : N ≤ base) (hbs : base ≤ wv.heap.size) (hlen : l.length + (enc m k).length ≤ 100000)
    (ih : ∀ (M N base : Nat) (n : Nd) (cs : List Value) (v : Value) (l : B) (w : World), deep m n = true → shaped m n = true → fits m n = true → NdAt M (Lo N) w n cs → N ≤ base → base ≤ w.heap.size → Row base w v l → l.length + (enc m n).length ≤ 100000 →
      Calls Try.prog 22 #[v, .agg cs.toArray] w (Wrote base v (l ++ enc m n) w)) :
    Calls Try.prog 44 #[.agg c.toArray, .pointer (some ⟨bb, 0, none⟩)] wv fun e w' => e = .returned (.tuple #[]) ∧ ∃ v', WS base w v bb nb cs v' (l ++ enc m k) w' ∧ Fr (fun j => vc.ownBlock = some j ∨ j = bb) wv w' ∧ ∀ g, v'.ownBlock = some g → vc.ownBlock = some g ∨ wv.heap.size ≤ g := by
  obtain ⟨x', y', z', hc⟩ := box_kid c hk.len
  obtain ⟨a, cp, rfl, -, -⟩ := own_form hW.r
  subst hc
  have HW := hid hW; have HD := hid hd; have HSH := hid hsh; have HF := hid hf; have HK := hid hk; have HNB := hid hNb; have HBS := hid hbs; have HL := hid hlen; have HIH := hid ih
  obtain ⟨ln, hln⟩ : ∃ ln, l.length = ln := ⟨_, rfl⟩
  have HLN := hid hln
  rw [hln] at HW ⊢
  clear hW hd hsh hf hk hNb hbs hlen ih hln
  go_enter Try.func44, Try.ntmps44
  go_wp2_with (first
    | ((with_reducible refine K.atO (.box 44 _) ?_); refine wpL_box rfl _ _ rfl _ rfl [x', y', z'] rfl ?_; intro w1 HB1 F1 HS1; have HW1 := hid (HW.out.no F1.out); have c0 : w1.cell? ⟨bb, 0, none⟩ = some (.slice a ln cp) := HW1.out.b.cell 0)
    | ((with_reducible refine K.atO (.load 44 _) ?_); refine wpL_load rfl _ _ rfl wv.heap.size 0 rfl [x', y', z'] _ (HB1.out.range 0 _ rfl) rfl rfl infoN ?_))
  refine (HIH.out M N base k [x', y', z'] (.slice a ln cp) l w1 HD.out HSH.out HF.out (HK.out.no F1.out) HNB.out (Nat.le_trans HBS.out F1.out.size) HW1.out.r HL.out).mono ?_
  rintro e w2 ⟨v', rfl, hr2, f2, ho2⟩
  obtain ⟨a', cp', rfl, -, -⟩ := own_form hr2
  have HR2 := hid hr2; have HF2 := hid f2; have HO2 := hid ho2
  have HB2 : Hid (Blk w2 bb 58 [.slice a ln cp]) := hid (HW1.out.b.fr f2 (fun e => (HW1.out.e _ e).1 rfl))
  clear hr2 f2 ho2 c0
  obtain ⟨l', hl'⟩ : ∃ l', l ++ enc m k = l' := ⟨_, rfl⟩
  rw [hl'] at HR2 HO2 ⊢
  have HLE := hid hl'
  obtain ⟨ln', hln'⟩ : ∃ ln', l'.length = ln' := ⟨_, rfl⟩
  have HLN' := hid hln'
  rw [hln'] at HR2 HO2 ⊢
  clear hl' hln'
  go_wp2_with ((with_reducible refine K.atO (.store 58 _ _) ?_); refine wpL_setV rfl _ _ _ rfl bb 0 (.slice a' ln' cp') rfl rfl rfl rfl _ _ HB2.out (by simp) infoSl ?_; intro w3 HB3 F3 HS3)
  go_end0
  refine ⟨rfl, _, by rw [HLE.out]; exact HW1.out.app HF2.out (by have h := HR2.out; unfold Row at h; rw [HLN'.out] at h ⊢; exact h) HO2.out HB3.out F3.out, ?_, fun g hg => ?_⟩
  · exact ((Fr.no F1.out).trans' (HF2.out.mono fun j hj => .inl hj)).trans' (F3.out.mono fun j hj => .inr hj)
  · rcases HO2.out g hg with h | h
    · exact .inl h
    · exact .inr (Nat.le_trans F1.out.size h)
set_option maxHeartbeats 8000000 in
theorem write_any : ∀ (m M N base : Nat) (n : Nd) (cs : List Value) (v : Value) (l : B) (w : World), deep m n = true → shaped m n = true → fits m n = true → NdAt M (Lo N) w n cs → N ≤ base → base ≤ w.heap.size → Row base w v l → l.length + (enc m n).length ≤ 100000 →
    Calls Try.prog 22 #[v, .agg cs.toArray] w (Wrote base v (l ++ enc m n) w) := by
  intro m
  induction m with
  | zero => intro M N base n cs v l w h; cases h
  | succ m ih =>
    intro M N base n cs v l w hd hsh hf hn hNb hbs hr hlen
    obtain ⟨a, sc, hcs, htg, hbl, hkl⟩ := hn.head
    obtain ⟨M, rfl⟩ := hn.succ
    obtain ⟨va, vc, rfl, -, -⟩ := own_form hr
    obtain ⟨ic, hic, hzc, hsc, hbc⟩ := Go.info_parts infozB
    have IC := hid hic; have ZC := hid hzc; have SC := hid hsc; have BC := hid hbc
    have HN := hid hn; have HIH := hid ih; have HNB := hid hNb; have HD := hid hd; have HSH := hid hsh; have HF := hid hf; have HR := hid hr; have HL := hid hlen; have HBS := hid hbs
    obtain ⟨tg, htge⟩ : ∃ tg, n.tag = tg := ⟨_, rfl⟩
    obtain ⟨kl, hkle⟩ : ∃ kl, n.kids.length = kl := ⟨_, rfl⟩
    obtain ⟨bs, hbse⟩ : ∃ bs, sb n.body = bs := ⟨_, rfl⟩
    have HK := hid hkle; have HBE := hid hbse; have HTE := hid htge
    have htb : tagB tg = true := by simp only [shaped, Bool.and_eq_true] at hsh; rw [← htge]; exact hsh.1.1
    have HTB := hid htb
    rw [htge, hkle, hbse] at hcs
    subst hcs
    obtain ⟨ln, hln⟩ : ∃ ln, l.length = ln := ⟨_, rfl⟩
    rw [hln]
    have HLN := hid hln
    have HRL : Hid (w.ownsRow base 5 1 (.slice va ln vc) l.length (u8s l)) := hid (by rw [← hln]; exact hr)
    have hlni : ln ≤ 100000 := by omega
    clear hn ih hNb hd hsh hf hr hlen htg htge hkle hbse hkl hbl hic hzc hsc hbc htb hbs hln
    have hmf : ∀ (fn : Fn) (first cap : Array Value) (w : World), (Instr.makeFunc fn first cap).run Try.prog w = .ok (.func fn first cap) w := fun _ _ _ _ => rfl
    have h1s : ∀ u ∈ [Value.int .u8 ((UInt8.ofNat tg.toNat).toNat : Int)], u.oneCell' = true := by intro u hu; simp at hu; rcases hu with rfl; rfl
    have H1S := hid h1s
    clear h1s
    go_enter Try.func22, Try.ntmps22
    go_wp2_with (first
      | ((with_reducible refine K.atO (.box 58 _) ?_); refine wpL_box rfl _ _ rfl _ rfl [.slice va ln vc] rfl ?_; intro w1 HB1 F1 HS1)
      | ((with_reducible refine K.atO (.box 44 _) ?_); refine wpL_box rfl _ _ rfl _ rfl [.int .i64 tg, .string bs, .slice a kl sc] rfl ?_; intro w2 HB2 F2 HS2;
          have hb1 : Blk w2 w.heap.size 58 [.slice va ln vc] := HB1.out.fr F2.out id; have c0 : w2.cell? ⟨w.heap.size, 0, none⟩ = some (.slice va ln vc) := hb1.cell 0; have c1 : w2.cell? ⟨w1.heap.size, 0, none⟩ = some (.int .i64 tg) := HB2.out.cell 0;
          have HW2 : Hid (WS base w (.slice va ln vc) w.heap.size w1.heap.size [.int .i64 tg, .string bs, .slice a kl sc] (.slice va ln vc) l w2) := hid ⟨hb1, HB2.out, (own_fr HRL.out (F1.out.trans' F2.out) (fun _ _ e => e)), (F1.out.trans' F2.out).no, fun g hg => .inl hg, fun g hg => (by have := own_ge HRL.out g hg; have := F1.out.size; omega), Nat.le_refl _, F1.out.size, by have := HS1.out; omega⟩; clear hb1)
      | ((with_reducible refine K.atO (.buildSlice 58 _ _) ?_); refine wpL_buildOne rfl _ 5 _ rfl ic _ rfl IC.out ZC.out (by rw [SC.out]; decide) (by rw [SC.out]; decide) _ [.int .u8 ((UInt8.ofNat tg.toNat).toNat : Int)] (by exact u8_tag HTB.out) rfl (by rw [SC.out]; rfl) ?_; intro w6 HB6 F6 HS6;
                have HW6 : Hid (WS base w (.slice va ln vc) w.heap.size w1.heap.size [.int .i64 tg, .string bs, .slice a kl sc] (.slice va ln vc) l w6) := hid (HW2.out.no F6.out);
                have HO6 : Hid (w6.ownsRow base 5 1 (.slice va ln vc) ln (u8s l)) := hid (by have h := HW6.out.r; rwa [HLN.out] at h))
      | ((with_reducible refine K.atO (.call { callee := .builtin .append, args := _, argTypes := _ }) ?_); refine wpL_append rfl _ _ 58 rfl base 5 ic _ 1 1 rfl IC.out ZC.out SC.out BC.out rfl (by decide) (.slice va ln vc) ln (u8s l) rfl HO6.out (some ⟨w2.heap.size, 0, none⟩) 1 _ [.int .u8 ((UInt8.ofNat tg.toNat).toNat : Int)] rfl rfl (.inr ⟨_, rfl, HB6.out.news⟩) H1S.out (by unfold maxLen; omega) (by omega) (Nat.le_trans HBS.out HW6.out.f.size) ?_; intro a7 c7 w7 HO7 HG7 HA7;
                have HB7 : Hid (Blk w7 w.heap.size 58 [.slice va ln vc]) := hid (HW6.out.b.fr (frown HG7.out) (fun e => (HW6.out.e _ e).1 rfl)))
      | ((with_reducible refine K.atO (.store 58 _ _) ?_); refine wpL_setV rfl _ _ _ rfl w.heap.size 0 (.slice a7 (ln + 1) c7) rfl rfl rfl rfl _ _ HB7.out (by simp) infoSl ?_; intro w8 HB8 F8 HS8;
                have HW8 : Hid (WS base w (.slice va ln vc) w.heap.size w1.heap.size [.int .i64 tg, .string bs, .slice a kl sc] (.slice a7 (ln + 1) c7) (l ++ [UInt8.ofNat tg.toNat]) w8) := hid (HW6.out.app (frown HG7.out) (by have h := HO7.out; simpa [u8s_append, u8s, HLN.out] using h) (or_own HA7.out) HB8.out F8.out)))
    have hfk : clen (m + 1) n ≤ 4000 := clen_fits HD.out HF.out
    have hlp := len_pos (clen (m + 1) n)
    obtain ⟨cl, hcle⟩ : ∃ cl, clen (m + 1) n = cl := ⟨_, rfl⟩
    rw [hcle] at hfk hlp
    have HCL := hid hcle
    obtain ⟨l1, hl1⟩ : ∃ l1, l ++ [UInt8.ofNat tg.toNat] = l1 := ⟨_, rfl⟩
    have hW8 := HW8.out
    rw [hl1] at hW8
    have hll1 : l1.length = ln + 1 := by rw [← hl1, List.length_append, HLN.out]; rfl
    have HL1 := hid hl1; have HLL1 := hid hll1; have HW := hid hW8
    have HFK := hid hfk; have HLP := hid hlp
    have k0 : w8.cell? ⟨w.heap.size, 0, none⟩ = some (.slice a7 (ln + 1) c7) := hW8.b.cell 0
    have k1 : w8.rangeAt w1.heap.size 0 [.int .i64 tg, .string bs, .slice a kl sc] := hW8.n.range 0 _ rfl
    have HB : Hid (base ≤ w8.heap.size) := hid (Nat.le_trans HBS.out hW8.f.size)
    have HN8 : Hid (NdAt (M + 1) (Lo N) w8 n [.int .i64 tg, .string bs, .slice a kl sc]) := hid (NdAt.fr hW8.f (fun k hk hl e => by have h1 : k < N := hk; have := own_low HRL.out k e; have := HNB.out; omega) HN.out)
    clear hcle hl1 hll1 HW8 HB8 F8 HS8 HB7 HO7 HG7 HA7 HO6 HW6 HB6 F6 HS6 HW2 HB2 F2 HS2 HB1 c0 c1 hfk hlp hW8
    go_wp2_with fail
    have hold : Facts.hold [(0, fun w' => w'.cell? ⟨w.heap.size, 0, none⟩ = some (.slice a7 (ln + 1) c7)), (1, fun w' => w'.rangeAt w1.heap.size 0 [.int .i64 tg, .string bs, .slice a kl sc])] w8.drew := Facts.cons_hold k0 (Facts.cons_hold k1 (Facts.nil_hold _))
    refine wpD_region hold (by kernel_rfl) 6 rfl ?_
    (refine wpD_take 0 _ rfl (by kernel_rfl) (by kernel_rfl) (by kernel_rfl) (fun _ _ _ h => h) List.mem_cons_self (by rfl) (v := ?_) ?_ (by assumption) ?_; rotate_left; (intro _w _hw; go_simp; try with_reducible rfl); simp only [Act.put, K.put3])
    (refine wpD_take 1 _ rfl (by kernel_rfl) (by kernel_rfl) (by kernel_rfl) (fun _ _ _ h => h) (List.mem_cons_of_mem _ List.mem_cons_self) (by rfl) (exec_load _ _ rfl w1.heap.size 0 rfl _ _ rfl rfl infoN) (by assumption) ?_; simp only [Act.put, K.put3])
    clear hold
    refine wpD_only 2 [(0, fun w' => w'.cell? ⟨w.heap.size, 0, none⟩ = some (.slice a7 (ln + 1) c7))] rfl (by kernel_rfl) (by kernel_rfl) (by rfl) (fun K2 hK2 => ?_)
    refine wp_call (.func 42) _ _ rfl 42 [] rfl (fun vs w => by kernel_rfl) [.agg #[.int .i64 tg, .string bs, .slice a kl sc]] (by rfl) ?_
    refine (cb_any (m + 1) (M + 1) N n [.int .i64 tg, .string bs, .slice a kl sc] w8.drew HD.out (HN8.out.no (Fr.refl No w8).drew) (Nat.le_trans HNB.out HB.out)).mono ?_
    rintro e w9 ⟨f9, h9⟩
    obtain rfl : e = .returned (.int .i64 (clen (m + 1) n)) := by
      rcases h9 with ⟨_, h⟩ | ⟨hff, _⟩
      · exact h
      · rw [HF.out] at hff; cases hff
    clear h9
    have f89 : Fr No w8 w9 := (Fr.refl No w8).drew.trans' f9
    have hold : Facts.hold [(0, fun w' => w'.cell? ⟨w.heap.size, 0, none⟩ = some (.slice a7 (ln + 1) c7))] w9 := Facts.cons_hold (f89.cell k0 id) (Facts.nil_hold _)
    rw [HCL.out]
    refine ⟨_, rfl, hK2 _ _ hold ?_⟩
    clear hold hK2 K2
    simp only [Act.put, K.put3]
    refine wpD_only 3 [(0, fun w' => w'.cell? ⟨w.heap.size, 0, none⟩ = some (.slice a7 (ln + 1) c7))] rfl (by kernel_rfl) (by kernel_rfl) (by rfl) (fun K3 hK3 => ?_)
    refine wp_call (.func 41) _ _ rfl 41 [] rfl (fun vs w => by kernel_rfl) [.int .i64 cl] (by rfl) ?_
    refine (length_any cl (by have := HFK.out; omega) w9).mono ?_
    rintro e w10 ⟨rfl, f10⟩
    have f8 : Fr No w8 w10 := f89.trans' f10
    have hold : Facts.hold [(0, fun w' => w'.cell? ⟨w.heap.size, 0, none⟩ = some (.slice a7 (ln + 1) c7))] w10 := Facts.cons_hold (f8.cell k0 id) (Facts.nil_hold _)
    refine ⟨_, rfl, hK3 _ _ hold ?_⟩
    clear hold hK3 K3
    simp only [Act.put, K.put3]
    have hW10 := HW.out.no f8
    have hr10 := hW10.r
    rw [HLL1.out] at hr10
    have hsz : (sb (lenB cl)).size = (lenB cl).length := sb_size _
    refine wpD_only 4 [] rfl (by kernel_rfl) (by kernel_rfl) (by rfl) (fun K4 hK4 => ?_)
    refine wp_appendStr _ _ 58 9 rfl base 5 ic Try.underlying58 Try.underlying9 IC.out ZC.out SC.out BC.out (.slice a7 (ln + 1) c7) (ln + 1) (u8s l1) rfl hr10 (sb (lenB cl)) rfl (by unfold maxLen; rw [hsz]; have := HLP.out; omega) (by rw [hsz]; have := HLP.out; omega) (Nat.le_trans HB.out f8.size) ?_
    intro a11 c11 w11 HO11 HG11 HA11
    refine hK4 _ _ (Facts.nil_hold _) ?_
    clear hK4 K4
    simp only [Act.put, K.put3]
    have hB11 : Blk w11 w.heap.size 58 [.slice a7 (ln + 1) c7] := hW10.b.fr (frown HG11.out) (fun e => (hW10.e _ e).1 rfl)
    refine wpD_only 5 [] rfl (by kernel_rfl) (by kernel_rfl) (by rfl) (fun K5 hK5 => ?_)
    refine wp_storeV _ _ _ rfl w.heap.size 0 (.slice a11 (ln + 1 + (sb (lenB cl)).size) c11) [.slice a11 (ln + 1 + (sb (lenB cl)).size) c11] rfl rfl rfl _ _ hB11 (by simp) infoSl (by intro u hu; simp at hu; rcases hu with rfl; rfl) ?_
    intro w12 HB12 F12 HS12
    refine hK5 _ _ (Facts.nil_hold _) ?_
    refine wpD_done (by kernel_rfl) ?_ _
    clear hK5 K5
    have hW12 := hW10.app (frown HG11.out) (l' := l1 ++ lenB cl) (by have h := HO11.out; rw [sb_list, ← u8s_append] at h; rw [List.length_append, HLL1.out, ← hsz]; exact h) (or_own HA11.out) (by simpa [spl] using HB12.out) F12.out
    obtain ⟨p2, hp2⟩ : ∃ p2, ln + 1 + (sb (lenB cl)).size = p2 := ⟨_, rfl⟩
    have hp2l : p2 ≤ ln + 4 := by rw [hsz] at hp2; have := HLP.out; omega
    rw [hp2] at hW12 ⊢
    obtain ⟨l2, hl2⟩ : ∃ l2, l1 ++ lenB cl = l2 := ⟨_, rfl⟩
    rw [hl2] at hW12
    have hll2 : l2.length = p2 := by rw [← hl2, List.length_append, HLL1.out, ← hsz]; exact hp2
    have HL2 := hid hl2; have HLL2 := hid hll2; have HW12 := hid hW12
    have d0 : w12.cell? ⟨w.heap.size, 0, none⟩ = some (.slice a11 p2 c11) := hW12.b.cell 0
    have d1 : w12.cell? ⟨w1.heap.size, 1, none⟩ = some (.string bs) := hW12.n.cell 1
    have HN12 : Hid (NdAt (M + 1) (Lo N) w12 n [.int .i64 tg, .string bs, .slice a kl sc]) := hid (NdAt.fr hW12.f (fun k hk hl e => by have h1 : k < N := hk; have := own_low HRL.out k e; have := HNB.out; omega) HN.out)
    have hbsz : bs.size ≤ 4000 := by
      have h1 := clen_succ m n
      rw [HCL.out] at h1
      have := HFK.out
      rw [← HBE.out, sb_size]; omega
    have HBSZ := hid hbsz
    have HB12' : Hid (base ≤ w12.heap.size) := hid (Nat.le_trans HBS.out hW12.f.size)
    clear hp2 hl2 hll2 hW12 HO11 HG11 HA11 hB11 HB12 F12 HS12 hW10 hr10 k0 k1 hsz f8 f10 f89 f9 hbsz
    go_wp2_with (first
      | ((with_reducible refine K.atO (.call { callee := .builtin .append, args := _, argTypes := _ }) ?_); refine wpL_appendStr rfl _ _ 58 9 rfl base 5 ic Try.underlying58 Try.underlying9 IC.out ZC.out SC.out BC.out (.slice a11 p2 c11) p2 (u8s l2) rfl (by have h := HW12.out.r; rwa [HLL2.out] at h) bs rfl (by unfold maxLen; have := HBSZ.out; omega) (by have := HBSZ.out; omega) HB12'.out ?_; intro a13 c13 w13 HO13 HG13 HA13;
          have HB13 : Hid (Blk w13 w.heap.size 58 [.slice a11 p2 c11]) := hid (HW12.out.b.fr (frown HG13.out) (fun e => (HW12.out.e _ e).1 rfl)))
      | ((with_reducible refine K.atO (.store 58 _ _) ?_); refine wpL_setV rfl _ _ _ rfl w.heap.size 0 (.slice a13 (p2 + bs.size) c13) rfl rfl rfl rfl _ _ HB13.out (by simp) infoSl ?_; intro w14 HB14 F14 HS14;
          have HW14 : Hid (WS base w (.slice va ln vc) w.heap.size w1.heap.size [.int .i64 tg, .string bs, .slice a kl sc] (.slice a13 (p2 + bs.size) c13) (l2 ++ n.body) w14) := hid (HW12.out.app (frown HG13.out) (by have h := HO13.out; rw [← HBE.out, sb_list, ← u8s_append, sb_size] at h; rw [List.length_append, HLL2.out, ← HBE.out, sb_size]; exact h) (or_own HA13.out) HB14.out F14.out))
      | ((with_reducible refine K.atO (.load 44 _) ?_); refine wpL_load rfl _ _ rfl w1.heap.size 0 rfl [.int .i64 tg, .string bs, .slice a kl sc] _ (HW14.out.n.range 0 _ rfl) rfl rfl infoN ?_))
    obtain ⟨l3, hl3⟩ : ∃ l3, l2 ++ n.body = l3 := ⟨_, rfl⟩
    have hW14 := HW14.out
    rw [hl3] at hW14
    have HW := hid hW14
    have HL3 := hid hl3
    obtain ⟨vv, hvv⟩ : ∃ vv, (Value.slice a13 (p2 + bs.size) c13) = vv := ⟨_, rfl⟩
    rw [hvv] at hW14
    have HW' := hid hW14
    have hall : n.kids.all (shaped m) = true ∧ n.kids.all (fits m) = true := by
      have h1 := HSH.out; have h2 := HF.out
      simp only [shaped, Bool.and_eq_true] at h1
      simp only [fits, Bool.and_eq_true] at h2
      exact ⟨h1.2, h2.1⟩
    have HALL := hid hall
    have hbL : w.heap.size < w14.heap.size := hW14.b.lt
    have hbw : base ≤ w.heap.size := HBS.out
    have htot : l ++ enc (m + 1) n = l3 ++ (n.kids.map (enc m)).flatten := by
      have e1 : (cont m n).length = cl := HCL.out
      rw [enc_succ, e1, HTE.out, ← HL3.out, ← HL2.out, ← HL1.out]
      unfold cont
      simp
    have HTOT := hid htot
    have hlt2 : l3.length + flen m n.kids ≤ 100000 := by
      have h := HL.out
      rw [← List.length_append, htot, List.length_append] at h
      exact h
    have HLT2 := hid hlt2
    have HN14 : Hid (NdAt (M + 1) (Lo N) w14 n [.int .i64 tg, .string bs, .slice a kl sc]) := hid (NdAt.fr hW14.f (fun k hk hl e => by have h1 : k < N := hk; have := own_low HRL.out k e; have := HNB.out; omega) HN.out)
    refine (children_any M N n [.int .i64 tg, .string bs, .slice a kl sc] 44 [.pointer (some ⟨w.heap.size, 0, none⟩)]
      (fun i w' => ∃ vc', WS base w (.slice va ln vc) w.heap.size w1.heap.size [.int .i64 tg, .string bs, .slice a kl sc] vc' (l3 ++ ((n.kids.take i).map (enc m)).flatten) w' ∧ (∀ g, vc'.ownBlock = some g → g ≠ w14.heap.size))
      (fun _ _ => False) w14 HN14.out (Nat.le_trans HNB.out (by omega)) (fun vs w => by kernel_rfl)
      ⟨vv, by simpa using hW14, fun g hg => by have := own_ge hW14.r g hg; omega⟩ (fun i a b ⟨v', h, h2⟩ hf => ⟨v', h.no hf, h2⟩) ?_).mono ?_
    · intro i k c wv hx hk hi hs
      obtain ⟨vc', hWv, hne⟩ := hi
      have hkd := deep_kid HD.out hx
      have hks := List.all_eq_true.1 HALL.out.1 k (List.mem_of_getElem? hx)
      have hkf := List.all_eq_true.1 HALL.out.2 k (List.mem_of_getElem? hx)
      have hst := flen_step m hx
      have hle : flen m (n.kids.take (i + 1)) ≤ flen m n.kids := by
        unfold flen
        have e : n.kids = n.kids.take (i + 1) ++ n.kids.drop (i + 1) := (List.take_append_drop _ _).symm
        have h := congrArg (fun l => ((l.map (enc m)).flatten).length) e
        simp only [List.map_append, List.flatten_append, List.length_append] at h
        omega
      refine (write1_any m M N base w _ _ _ _ vc' _ k c wv hWv hkd hks hkf hk HNB.out (Nat.le_trans hbw hWv.f.size) (by
        rw [List.length_append]
        have h1 : ((n.kids.take i).map (enc m)).flatten.length = flen m (n.kids.take i) := rfl
        have := HLT2.out
        omega) HIH.out).mono ?_
      rintro e v2 ⟨rfl, v', hW', hf', ho'⟩
      refine ⟨hf'.mono (fun j hj => ?_), .inl ⟨rfl, v', ?_, fun g hg => ?_⟩⟩
      · rcases hj with hj | hj
        · have := (own_ge hWv.r j hj).1; exact ⟨Nat.le_trans HNB.out this, hne j hj⟩
        · subst hj; exact ⟨Nat.le_trans HNB.out hbw, by omega⟩
      · have e : l3 ++ ((n.kids.take (i + 1)).map (enc m)).flatten = l3 ++ ((n.kids.take i).map (enc m)).flatten ++ enc m k := by
          rw [List.take_add_one, hx]; simp
        rw [e]; exact hW'
      · rcases ho' g hg with h | h
        · exact hne g h
        · omega
    · rintro e v hv
      rcases hv with ⟨rfl, vc', hWv, _⟩ | ⟨c, _, hb⟩
      · rw [List.take_length, ← HTOT.out] at hWv
        have k0 : v.cell? ⟨w.heap.size, 0, none⟩ = some vc' := hWv.b.cell 0
        obtain ⟨a', cp', rfl, -, -⟩ := own_form hWv.r
        obtain ⟨lt, hlt⟩ : ∃ lt, (l ++ enc (m + 1) n).length = lt := ⟨_, rfl⟩
        rw [hlt] at hWv k0
        have HWV := hid hWv
        clear hWv hlt
        go_wp2_with fail
        go_ret
        exact ⟨_, rfl, HWV.out.r, HWV.out.f, HWV.out.o⟩
      · exact hb.elim
end Go.Proofs.Ythjmkfpdbbfcpaa.BE

namespace Go.Proofs.Ythjmkfpdbbfcpaa.BE
set_option maxRecDepth 100000
open Go.RowKit K

/-- What check leaves. -/
def Checks (n : Nd) (w : World) (e : Ending) (w' : World) : Prop := Fr No w w' ∧ ((errN n = 0 ∧ e = .returned (.tuple #[])) ∨ (errN n ≠ 0 ∧ e = .panicked [fl (errN n)]))
set_option maxHeartbeats 2000000 in
theorem check_any (M N : Nat) (n : Nd) (cs : List Value) (w : World) (hn : NdAt M (Lo N) w n cs) (hN : N ≤ w.heap.size) : Calls Try.prog 40 #[.agg cs.toArray] w (Checks n w) := by
  obtain ⟨x, y, z, hcs⟩ := box_kid cs hn.len
  subst hcs
  have HN := hid hn; have HNN := hid hN
  clear hn hN
  go_enter Try.func40, Try.ntmps40
  go_wp2_with (first
    | ((with_reducible refine K.atO (.box 44 _) ?_); refine wpL_box rfl _ _ rfl _ rfl [x, y, z] rfl ?_; intro w1 HB1 F1 HS1)
    | ((with_reducible refine K.atO (.load 44 _) ?_); refine wpL_load rfl _ _ rfl w.heap.size 0 rfl [x, y, z] _ (HB1.out.range 0 _ rfl) rfl rfl infoN ?_))
  refine (checkDepth_any 8 M N n [x, y, z] w1 (Nat.le_refl _) (HN.out.no F1.out) (Nat.le_trans HNN.out F1.out.size)).mono ?_
  rintro e w2 ⟨f2, ⟨hd, rfl⟩ | ⟨hd, rfl⟩⟩
  · have HD := hid hd
    have hf := F1.out.trans' f2
    have HF := hid hf
    have HB2 := hid (HB1.out.fr f2 id)
    clear hd f2 hf
    go_wp2_with ((with_reducible refine K.atO (.load 44 _) ?_); refine wpL_load rfl _ _ rfl w.heap.size 0 rfl [x, y, z] _ (HB2.out.range 0 _ rfl) rfl rfl infoN ?_)
    refine (checkTags_any 8 M N n [x, y, z] w2 HD.out (HN.out.no HF.out) (Nat.le_trans HNN.out HF.out.size)).mono ?_
    rintro e w3 ⟨f3, ⟨hs, rfl⟩ | ⟨hs, rfl⟩⟩
    · have HS := hid hs
      have hf := HF.out.trans' f3
      have HF3 := hid hf
      have HB3 := hid (HB2.out.fr f3 id)
      clear hs f3 hf
      go_wp2_with ((with_reducible refine K.atO (.load 44 _) ?_); refine wpL_load rfl _ _ rfl w.heap.size 0 rfl [x, y, z] _ (HB3.out.range 0 _ rfl) rfl rfl infoN ?_)
      refine (cb_any 8 M N n [x, y, z] w3 HD.out (HN.out.no HF3.out) (Nat.le_trans HNN.out HF3.out.size)).mono ?_
      rintro e w4 ⟨f4, ⟨ht, rfl⟩ | ⟨ht, rfl⟩⟩
      · go_wp2_with fail
        go_end0
        exact ⟨HF3.out.trans' f4, .inl ⟨err_zero.2 ⟨HD.out, HS.out, ht⟩, rfl⟩⟩
      · have he : errN n = 2 := by unfold errN; rw [if_neg (by rw [HD.out]; simp), if_neg (by rw [HS.out]; simp), if_pos ht]
        exact ⟨rfl, HF3.out.trans' f4, .inr ⟨by rw [he]; decide, by rw [he]⟩⟩
    · have he : errN n = 90 := by unfold errN; rw [if_neg (by rw [HD.out]; simp), if_pos hs]
      exact ⟨rfl, HF.out.trans' f3, .inr ⟨by rw [he]; decide, by rw [he]⟩⟩
  · have he : errN n = 91 := by unfold errN; rw [if_pos hd]
    exact ⟨rfl, F1.out.trans' f2, .inr ⟨by rw [he]; decide, by rw [he]⟩⟩
/-- What Right's closure leaves. -/
def RightP (n : Nd) (o : Option Nat) (w w' : World) : Prop := Fr No w w' ∧ o.getD 0 = errN n
set_option maxHeartbeats 2000000 in
theorem right_any (M N : Nat) (n : Nd) (cs : List Value) (w : World) (hn : NdAt M (Lo N) w n cs) (hN : N ≤ w.heap.size) : Calls Try.prog 21 #[.agg cs.toArray] w fun e w' => e = .returned (.int .i64 (errN n)) ∧ Fr No w w' := by
  obtain ⟨x, y, z, hcs⟩ := box_kid cs hn.len
  subst hcs
  have HN := hid hn; have HNN := hid hN
  clear hn hN
  have hmf : ∀ (fn : Fn) (first cap : Array Value) (w : World), (Instr.makeFunc fn first cap).run Try.prog w = .ok (.func fn first cap) w := fun _ _ _ _ => rfl
  go_enter Try.func21, Try.ntmps21
  go_wp2_with ((with_reducible refine K.atO (.box 44 _) ?_); refine wpL_box rfl _ _ rfl _ rfl [x, y, z] rfl ?_; intro w1 HB1 F1 HS1)
  refine (caught_any 39 [.pointer (some ⟨w.heap.size, 0, none⟩)] (RightP n) No w1 id (fun vs w => by kernel_rfl) (fun o a b h => h.1) ?_).mono ?_
  · intro v0 f0 hs0
    have HB0 : Hid (Blk v0 w.heap.size 44 [x, y, z]) := hid (HB1.out.fr f0 id)
    have HF0 := hid f0
    clear f0 hs0
    show Calls Try.prog _ #[.pointer (some ⟨w.heap.size, 0, none⟩)] v0 _
    go_enter Try.func39, Try.ntmps39
    go_wp2_with ((with_reducible refine K.atO (.load 44 _) ?_); refine wpL_load rfl _ _ rfl w.heap.size 0 rfl [x, y, z] _ (HB0.out.range 0 _ rfl) rfl rfl infoN ?_)
    refine (check_any M N n [x, y, z] v0 (HN.out.no (F1.out.trans' HF0.out)) (Nat.le_trans HNN.out (F1.out.trans' HF0.out).size)).mono ?_
    rintro e v1 ⟨f1, ⟨he, rfl⟩ | ⟨he, rfl⟩⟩
    · go_wp2_with fail
      go_end0
      exact .inl ⟨rfl, f1, he.symm⟩
    · exact ⟨rfl, .inr ⟨_, rfl, f1, rfl⟩⟩
  · rintro e w2 ⟨o, a, b, rfl, fa, hs, hp, fb⟩
    have hf : Fr No w w2 := ((F1.out.trans' fa).trans' hp.1).trans fb (fun i e => .inr (by have e : i = w1.heap.size := e; have := F1.out.size; omega))
    rw [hp.2]
    have HF := hid hf
    clear fa hs hp fb hf
    go_wp2_with fail
    go_ret
    exact ⟨rfl, HF.out⟩
set_option maxHeartbeats 2000000 in
theorem encode_any (M N : Nat) (n : Nd) (cs : List Value) (w : World) (hn : NdAt M (Lo N) w n cs) (hN : N ≤ w.heap.size) : Calls Try.prog 12 #[.agg cs.toArray] w fun e w' => e = .returned (.tuple #[.string (sb (encS n)), .int .i64 (errN n)]) ∧ Fr No w w' := by
  obtain ⟨x, y, z, hcs⟩ := box_kid cs hn.len
  subst hcs
  have HN := hid hn; have HNN := hid hN
  clear hn hN
  obtain ⟨es, hes⟩ : ∃ es, encS n = es := ⟨_, rfl⟩
  obtain ⟨er, her⟩ : ∃ er, errN n = er := ⟨_, rfl⟩
  rw [hes, her]
  have HES := hid hes; have HER := hid her
  clear hes her
  go_enter Try.func12, Try.ntmps12
  go_wp2_with (first
    | ((with_reducible refine K.atO (.box 44 _) ?_); refine wpL_box rfl _ _ rfl _ rfl [x, y, z] rfl ?_; intro w1 HB1 F1 HS1)
    | ((with_reducible refine K.atO (.load 44 _) ?_); refine wpL_load rfl _ _ rfl w.heap.size 0 rfl [x, y, z] _ (HB1.out.range 0 _ rfl) rfl rfl infoN ?_))
  refine (right_any M N n [x, y, z] w1 (HN.out.no F1.out) (Nat.le_trans HNN.out F1.out.size)).mono ?_
  rintro e w2 ⟨rfl, f2⟩
  have HF2 := hid (F1.out.trans' f2)
  have HB2 := hid (HB1.out.fr f2 id)
  clear f2
  rw [HER.out]
  by_cases he : er = 0
  · obtain ⟨hd, hs, ht⟩ := err_zero.1 (HER.out.trans he)
    have HD := hid hd; have HS := hid hs; have HT := hid ht
    have HE8 : Hid (es = enc 8 n) := hid (by rw [← HES.out]; unfold encS; rw [if_pos (HER.out.trans he)])
    subst he
    have HL := hid (enc8_len ht)
    clear hd hs ht
    go_wp2_with ((with_reducible refine K.atO (.load 44 _) ?_); refine wpL_load rfl _ _ rfl w.heap.size 0 rfl [x, y, z] _ (HB2.out.range 0 _ rfl) rfl rfl infoN ?_)
    refine (write_any 8 M N w2.heap.size n [x, y, z] (.slice none 0 0) [] w2 HD.out HS.out HT.out (HN.out.no HF2.out) (Nat.le_trans HNN.out HF2.out.size) (Nat.le_refl _) (World.ownsRow_nil _ _ _ _) (by have := HL.out; simp; omega)).mono ?_
    rintro e w3 ⟨v', rfl, hr, f3, ho⟩
    rw [List.nil_append] at hr
    have HBy : Hid (BytesIn w3 (fun k => w2.heap.size ≤ k) v' (enc 8 n)) := hid (own_bytes hr)
    have hfin : Fr No w w3 := HF2.out.trans f3 (fun i e => by cases e)
    have HFIN := hid hfin
    obtain ⟨a', cp', rfl, -, -⟩ := own_form hr
    obtain ⟨lt, hlt⟩ : ∃ lt, (enc 8 n).length = lt := ⟨_, rfl⟩
    rw [hlt] at HBy ⊢
    clear hr f3 ho hfin hlt
    go_wp2_with ((with_reducible refine K.atO (.convert _ 9 _) ?_); refine wpL_stringS rfl _ rfl _ _ _ rfl HBy.out ?_)
    go_ret2
    rw [HE8.out]
    exact ⟨rfl, HFIN.out⟩
  · have HE8 : Hid (es = []) := hid (by rw [← HES.out]; unfold encS; rw [if_neg (fun h => he (HER.out.symm.trans h))])
    have hei : ¬ (er : Int) = 0 := by omega
    clear he
    go_wp2_with fail
    go_ret2
    rw [HE8.out]
    exact ⟨rfl, HF2.out⟩
end Go.Proofs.Ythjmkfpdbbfcpaa.BE

namespace Go.Proofs.Ythjmkfpdbbfcpaa.BE
set_option maxRecDepth 100000
open Go.RowKit K

theorem sb_empty' (l : B) : (sb l).toList.isEmpty = l.isEmpty := by rw [ByteArray.toList_eq, sb_list]
/-- What readHead leaves. -/
def Heads (s : B) (w : World) (e : Ending) (w' : World) : Prop := Fr No w w' ∧ match hdS s with
  | .error k => e = .panicked [fl k]
  | .ok (t, c, h) => e = .returned (.tuple #[.int .i64 (t : Int), .int .i64 (c : Int), .int .i64 (h : Int)])
/-- A head by its tag, the next byte and those behind. -/
def hdL (tn ln : Nat) (q : B) : Except Nat (Nat × Nat × Nat) :=
  if ln < 128 then .ok (tn, ln, 2)
  else if ln = 129 then match q with
    | [] => .error 92
    | a :: _ => if a.toNat < 128 then .error 90 else .ok (tn, a.toNat, 3)
  else if ln = 130 then match q with
    | a :: b :: _ => if 256 * a.toNat + b.toNat < 256 then .error 90 else if 4000 < 256 * a.toNat + b.toNat then .error 2 else .ok (tn, 256 * a.toNat + b.toNat, 4)
    | _ => .error 92
  else .error 90
theorem hdS_two {t l : UInt8} (q : B) (ht : tagB t.toNat = true) : hdS (t :: l :: q) = hdL t.toNat l.toNat q := by
  simp only [hdS]
  rw [if_neg (by rw [ht]; simp)]
  rfl
set_option maxHeartbeats 16000000 in
theorem readHead_any (s : B) (hs : s.length ≤ 281474976710656) (w : World) : Calls Try.prog 50 #[.string (sb s)] w (Heads s w) := by
  match s, hs with
  | [], hs =>
    have hse : (sb []).toList.isEmpty = true := by rw [sb_empty']; rfl
    obtain ⟨q, hq⟩ : ∃ q, sb [] = q := ⟨_, rfl⟩
    rw [hq] at hse ⊢
    go_enter Try.func50, Try.ntmps50
    go_wp2_with fail
    refine (must_any false 92 w).mono ?_
    rintro e w1 ⟨rfl, ⟨h, _⟩ | ⟨_, rfl⟩⟩
    · cases h
    · exact ⟨rfl, Fr.refl _ _, rfl⟩
  | t :: r, hs =>
    have hse : (sb (t :: r)).toList.isEmpty = false := by rw [sb_empty']; rfl
    have hsz := sb_size (t :: r)
    obtain ⟨n, hn⟩ : ∃ n, (t :: r).length = n := ⟨_, rfl⟩
    have hnr : n = r.length + 1 := by rw [← hn]; rfl
    rw [hn] at hs hsz
    have hszi : ((sb (t :: r)).size : Int) = n := by omega
    have h0 : (t :: r)[0]? = some t := rfl
    obtain ⟨S, hS⟩ : ∃ S, t :: r = S := ⟨_, rfl⟩
    have HSS := hid hS
    rw [hS] at hse hszi h0 hn ⊢
    have H0 := hid h0; have HNN := hid hn; have HNR := hid hnr
    obtain ⟨tn, htn⟩ : ∃ tn, t.toNat = tn := ⟨_, rfl⟩
    have htl := lt256 t
    rw [htn] at htl
    have HTN := hid htn
    clear hS h0 hn hsz hnr htn
    go_enter Try.func50, Try.ntmps50
    go_wp2_with fail
    refine (must_any true 92 w).mono ?_
    rintro e w1 ⟨rfl, ⟨_, rfl⟩ | ⟨h, _⟩⟩
    rotate_left
    · cases h
    go_wp2_with ((with_reducible refine K.atO (.index 9 _ _) ?_); refine wpL_valZ rfl (.int .u8 (tn : Int)) (by rw [← HTN.out]; exact exec_idx _ _ rfl S 0 t H0.out _ rfl rfl rfl _) ?_)
    refine (isTag_any (tn : Int) w1).mono ?_
    rintro e w2 ⟨rfl, rfl⟩
    go_wp2_with fail
    refine (must_any (tagB tn) 90 w2).mono ?_
    rintro e w3 ⟨rfl, ⟨ht, rfl⟩ | ⟨ht, rfl⟩⟩
    rotate_left
    · refine ⟨rfl, Fr.refl _ _, ?_⟩
      rw [← HSS.out]
      simp only [hdS]
      rw [HTN.out, if_pos ht]
    have HT := hid ht
    clear ht hse
    by_cases hn1 : n = 1
    · obtain rfl : r = [] := List.eq_nil_of_length_eq_zero (by have := HNR.out; omega)
      subst hn1
      have hsz1 : ((sb S).size : Int) = 1 := hszi
      go_wp2_with fail
      refine (must_any false 92 w3).mono ?_
      rintro e w4 ⟨rfl, ⟨h, _⟩ | ⟨_, rfl⟩⟩
      · cases h
      refine ⟨rfl, Fr.refl _ _, ?_⟩
      rw [← HSS.out]
      simp only [hdS]
      rw [HTN.out, if_neg (by rw [HT.out]; simp)]
    obtain ⟨l, q, rfl⟩ : ∃ l q, r = l :: q := by
      cases r with
      | nil => exact absurd HNR.out (by simpa using hn1)
      | cons l q => exact ⟨l, q, rfl⟩
    have hni : (1 : Int) < n := by have := HNR.out; simp at this; omega
    go_wp2_with fail
    refine (must_any true 92 w3).mono ?_
    rintro e w4 ⟨rfl, ⟨_, rfl⟩ | ⟨h, _⟩⟩
    rotate_left
    · cases h
    have H1 : Hid (S[1]? = some l) := hid (by rw [← HSS.out]; rfl)
    obtain ⟨ln, hln⟩ : ∃ ln, l.toNat = ln := ⟨_, rfl⟩
    have hll := lt256 l
    rw [hln] at hll
    have HLN := hid hln
    clear hn1 hln
    have HDS : Hid (hdS S = hdL tn ln q) := hid (by
      rw [← HSS.out, ← HTN.out, ← HLN.out]
      exact hdS_two q (by rw [HTN.out]; exact HT.out))
    by_cases hl8 : ln < 128
    · have hlt : (ln : Int) < 128 := by omega
      go_wp2_with ((with_reducible refine K.atO (.index 9 _ _) ?_); refine wpL_valZ rfl (.int .u8 (ln : Int)) (by rw [← HLN.out]; exact exec_idx _ _ rfl S 1 l H1.out _ rfl rfl rfl _) ?_)
      refine (must_any _ 90 w4).mono ?_
      rintro e w5 ⟨rfl, ⟨_, rfl⟩ | ⟨hb, rfl⟩⟩
      rotate_left
      · exfalso
        simp at hb
        omega
      go_wp2_with fail
      have hold : Facts.hold [] w5.drew := Facts.nil_hold _
      refine wpD_region hold (by kernel_rfl) 7 rfl ?_
      (refine wpD_plain 0 (v := ?_) rfl (by kernel_rfl) (by kernel_rfl) (by kernel_rfl) (fun _ _ _ h => h) (by rfl) ?_ (by assumption) ?_; rotate_left; (intro _w; go_simp; try with_reducible rfl); simp only [Act.put, K.put3])
      (refine wpD_plain 1 (v := ?_) rfl (by kernel_rfl) (by kernel_rfl) (by kernel_rfl) (fun _ _ _ h => h) (by rfl) ?_ (by assumption) ?_; rotate_left; (intro _w; go_simp; try with_reducible rfl); simp only [Act.put, K.put3])
      (refine wpD_plain 3 (v := ?_) rfl (by kernel_rfl) (by kernel_rfl) (by kernel_rfl) (fun _ _ _ h => h) (by rfl) ?_ (by assumption) ?_; rotate_left; (intro _w; go_simp; try with_reducible rfl); simp only [Act.put, K.put3])
      (refine wpD_plain 2 (v := (.string (sb ([l])))) rfl (by kernel_rfl) (by kernel_rfl) (by kernel_rfl) (fun _ _ _ h => h) (by rfl) ?_ (by assumption) ?_; (intro _w; exact exec_two _ _ _ rfl S 1 2 rfl rfl rfl (by omega) (by rw [HNN.out]; omega) _ (by rw [← HSS.out]; rfl) _w); simp only [Act.put, K.put3])
      clear hold
      refine wpD_only 4 [] rfl (by kernel_rfl) (by kernel_rfl) (by rfl) (fun K4 hK4 => ?_)
      refine wp_call (.func 41) _ _ rfl 41 [] rfl (fun vs w => by kernel_rfl) [.int .i64 (ln : Int)] (by rfl) ?_
      refine (length_any ln (by omega) w5.drew).mono ?_
      rintro e w7 ⟨rfl, f7⟩
      have hf7 : Fr No w5 w7 := (Fr.refl No w5).drew.trans' f7
      refine ⟨_, rfl, hK4 _ _ (Facts.nil_hold _) ?_⟩
      clear hK4 K4
      simp only [Act.put, K.put3]
      have hold : Facts.hold [] w7 := Facts.nil_hold _
      (refine wpD_plain 5 (v := (.bool (decide ([l] = lenB ln)))) rfl (by kernel_rfl) (by kernel_rfl) (by kernel_rfl) (fun _ _ _ h => h) (by rfl) ?_ (by assumption) ?_; (intro _w; exact exec_eqS _ _ _ rfl _ _ rfl rfl _w); simp only [Act.put, K.put3])
      clear hold
      refine wpD_only 6 [] rfl (by kernel_rfl) (by kernel_rfl) (by rfl) (fun K6 hK6 => ?_)
      refine wp_callP (.func 49) _ _ rfl 49 [] rfl (fun vs w => by kernel_rfl) [.bool (decide ([l] = lenB ln)), .int .i64 90] (by rfl) ?_
      refine (must_any _ 90 w7).mono ?_
      rintro e w8 ⟨rfl, ⟨hb, rfl⟩ | ⟨hb, rfl⟩⟩
      rotate_left
      · refine .inr ⟨_, rfl, rfl, hf7, ?_⟩
        have e : lenB ln = [l] := by unfold lenB; rw [if_pos hl8, ← HLN.out, ofNat_toNat]
        rw [e] at hb
        simp at hb
      refine .inl ⟨_, rfl, hK6 _ _ (Facts.nil_hold _) ?_⟩
      clear hK6 K6
      simp only [Act.put, K.put3]
      refine wpD_done (by kernel_rfl) ?_ _
      have HBB := hid (of_decide_eq_true hb)
      clear hb
      go_wp2_with fail
      refine (must_any _ 2 w8).mono ?_
      rintro e w9 ⟨rfl, ⟨hb, rfl⟩ | ⟨hb, rfl⟩⟩
      rotate_left
      · refine ⟨rfl, hf7, ?_⟩
        have h := of_decide_eq_false hb
        omega
      have HB4 := hid (of_decide_eq_true hb)
      clear hb
      go_wp2_with fail
      refine ret_three rfl rfl ⟨hf7, ?_⟩
      rw [HDS.out]
      simp only [hdL]
      rw [if_pos hl8]
      rfl
    · by_cases hlb : ln = 129 ∨ ln = 130
      · have hln : 129 ≤ ln ∧ ln ≤ 130 := by omega
        have hlt : ¬ (ln : Int) = 128 := by omega
        have hlt2 : (ln : Int) ≤ 130 := by omega
        have hlt3 : (128 : Int) < ln := by omega
        go_wp2_with ((with_reducible refine K.atO (.index 9 _ _) ?_); refine wpL_valZ rfl (.int .u8 (ln : Int)) (by rw [← HLN.out]; exact exec_idx _ _ rfl S 1 l H1.out _ rfl rfl rfl _) ?_)
        refine (must_any _ 90 w4).mono ?_
        rintro e w5 ⟨rfl, ⟨_, rfl⟩ | ⟨hb, rfl⟩⟩
        rotate_left
        · exfalso
          simp at hb
          omega
        have hhd : (2 : Int) + ((ln : Int) - 128) = ((ln - 126 : Nat) : Int) := by omega
        obtain ⟨h, hh⟩ : ∃ h, ln - 126 = h := ⟨_, rfl⟩
        rw [hh] at hhd
        have hh3 : 3 ≤ h ∧ h ≤ 4 := by omega
        have HH := hid hh
        have HHD := hid hhd
        clear hh hhd
        go_wp2_with fail
        rw [HHD.out]
        refine (must_any _ 92 w5).mono ?_
        rintro e w6 ⟨rfl, ⟨hb, rfl⟩ | ⟨hb, rfl⟩⟩
        rotate_left
        · have hlt9 : n < h := by have := of_decide_eq_false hb; omega
          refine ⟨rfl, Fr.refl _ _, ?_⟩
          rw [HDS.out]
          unfold hdL
          rw [if_neg hl8]
          have h1 := HNR.out
          have h2 := HH.out
          by_cases he : ln = 129
          · rw [if_pos he]
            cases q with
            | nil => rfl
            | cons a q' => simp at h1; omega
          · rw [if_neg he, if_pos (by omega)]
            match q, h1 with
            | [], _ => rfl
            | [_], _ => rfl
            | a :: b :: q', h1 => simp at h1; omega
        have hnh : h ≤ n := by have := of_decide_eq_true hb; omega
        have HNH := hid hnh
        clear hb
        rcases hlb with hlb | hlb
        · have HE := hid hlb
          clear hlb
          obtain ⟨a, q', rfl⟩ : ∃ a q', q = a :: q' := by
            have h1 := HNR.out
            have h2 := HH.out
            have h3 := HE.out
            cases q with
            | nil => simp at h1; omega
            | cons a q' => exact ⟨a, q', rfl⟩
          have hj : joinI 0 [a] = ((a.toNat : Nat) : Int) := by simp [joinI]
          have hal := lt256 a
          obtain ⟨cn, hcn⟩ : ∃ cn, a.toNat = cn := ⟨_, rfl⟩
          have hcl : cn ≤ 65535 := by omega
          have hcli : (cn : Int) ≤ 65535 := by omega
          rw [hcn] at hj
          have HCN := hid hcn
          have HJ := hid hj
          have h34 : h = 3 := by have := HH.out; have := HE.out; omega
          subst h34
          clear hcn hj
          go_wp2_with ((with_reducible refine K.atO (.slice 9 _ _ _ _) ?_); refine wpL_valZ rfl (.string (sb [a])) (exec_two _ _ _ rfl S 2 3 rfl rfl (by first | rfl | (show Value.int .i64 _ = _; rw [HHD.out])) (by omega) (by rw [HNN.out]; omega) _ (by rw [← HSS.out]; rfl) _) ?_)
          refine (joined_any 0 [a] (by omega) (by simp) w6).mono ?_
          rintro e w10 ⟨rfl, rfl⟩
          rw [HJ.out]
          go_wp2_with fail
          have hold : Facts.hold [] w10.drew := Facts.nil_hold _
          refine wpD_region hold (by kernel_rfl) 7 rfl ?_
          (refine wpD_plain 0 (v := ?_) rfl (by kernel_rfl) (by kernel_rfl) (by kernel_rfl) (fun _ _ _ h => h) (by rfl) ?_ (by assumption) ?_; rotate_left; (intro _w; go_simp; try with_reducible rfl); simp only [Act.put, K.put3])
          (refine wpD_plain 1 (v := ?_) rfl (by kernel_rfl) (by kernel_rfl) (by kernel_rfl) (fun _ _ _ h => h) (by rfl) ?_ (by assumption) ?_; rotate_left; (intro _w; go_simp; try with_reducible rfl); simp only [Act.put, K.put3])
          (refine wpD_plain 3 (v := ?_) rfl (by kernel_rfl) (by kernel_rfl) (by kernel_rfl) (fun _ _ _ h => h) (by rfl) ?_ (by assumption) ?_; rotate_left; (intro _w; go_simp; try with_reducible rfl); simp only [Act.put, K.put3])
          (refine wpD_plain 2 (v := (.string (sb (l :: [a])))) rfl (by kernel_rfl) (by kernel_rfl) (by kernel_rfl) (fun _ _ _ h => h) (by rfl) ?_ (by assumption) ?_; (intro _w; exact exec_two _ _ _ rfl S 1 3 rfl rfl rfl (by omega) (by rw [HNN.out]; omega) _ (by rw [← HSS.out]; rfl) _w); simp only [Act.put, K.put3])
          clear hold
          refine wpD_only 4 [] rfl (by kernel_rfl) (by kernel_rfl) (by rfl) (fun K4 hK4 => ?_)
          refine wp_call (.func 41) _ _ rfl 41 [] rfl (fun vs w => by kernel_rfl) [.int .i64 (cn : Int)] (by rfl) ?_
          refine (length_any cn (by omega) w10.drew).mono ?_
          rintro e w7 ⟨rfl, f7⟩
          have hf7 : Fr No w10 w7 := (Fr.refl No w10).drew.trans' f7
          refine ⟨_, rfl, hK4 _ _ (Facts.nil_hold _) ?_⟩
          clear hK4 K4
          simp only [Act.put, K.put3]
          have hold : Facts.hold [] w7 := Facts.nil_hold _
          (refine wpD_plain 5 (v := (.bool (decide (l :: [a] = lenB cn)))) rfl (by kernel_rfl) (by kernel_rfl) (by kernel_rfl) (fun _ _ _ h => h) (by rfl) ?_ (by assumption) ?_; (intro _w; exact exec_eqS _ _ _ rfl _ _ rfl rfl _w); simp only [Act.put, K.put3])
          clear hold
          refine wpD_only 6 [] rfl (by kernel_rfl) (by kernel_rfl) (by rfl) (fun K6 hK6 => ?_)
          refine wp_callP (.func 49) _ _ rfl 49 [] rfl (fun vs w => by kernel_rfl) [.bool (decide (l :: [a] = lenB cn)), .int .i64 90] (by rfl) ?_
          refine (must_any _ 90 w7).mono ?_
          rintro e w8 ⟨rfl, ⟨hb, rfl⟩ | ⟨hb, rfl⟩⟩
          rotate_left
          · refine .inr ⟨_, rfl, rfl, hf7, ?_⟩
            rw [HDS.out]
            unfold hdL
            rw [if_neg hl8, if_pos HE.out]
            simp only
            have hlt9 : a.toNat < 128 := by
              rcases Nat.lt_or_ge a.toNat 128 with hx | hx
              · exact hx
              · exfalso
                have el : l = 129 := UInt8.toNat_inj.1 (by rw [HLN.out, HE.out]; rfl)
                apply of_decide_eq_false hb
                unfold lenB
                rw [← HCN.out, if_neg (by omega), if_pos hal, ofNat_toNat, el]
            rw [if_pos hlt9]
          refine .inl ⟨_, rfl, hK6 _ _ (Facts.nil_hold _) ?_⟩
          clear hK6 K6
          simp only [Act.put, K.put3]
          refine wpD_done (by kernel_rfl) ?_ _
          have HBB := hid (of_decide_eq_true hb)
          clear hb
          go_wp2_with fail
          refine (must_any _ 2 w8).mono ?_
          rintro e w9 ⟨rfl, ⟨hb, rfl⟩ | ⟨hb, rfl⟩⟩
          rotate_left
          · refine ⟨rfl, hf7, ?_⟩
            exfalso
            have h := of_decide_eq_false hb
            have := HCN.out
            omega
          have HB4 := hid (of_decide_eq_true hb)
          clear hb
          go_wp2_with fail
          refine ret_three rfl rfl ⟨hf7, ?_⟩
          rw [HDS.out]
          unfold hdL
          rw [if_neg hl8, if_pos HE.out]
          simp only
          have hge : ¬ a.toNat < 128 := by
            intro hx
            have h := HBB.out
            unfold lenB at h
            rw [← HCN.out, if_pos hx] at h
            simp at h
          rw [if_neg hge, HCN.out]
          rfl
        · have HE := hid hlb
          clear hlb
          obtain ⟨a, b, q', rfl⟩ : ∃ a b q', q = a :: b :: q' := by
            have h1 := HNR.out
            have h2 := HH.out
            have h3 := HE.out
            match q, h1 with
            | [], h1 => simp at h1; omega
            | [_], h1 => simp at h1; omega
            | a :: b :: q', _ => exact ⟨a, b, q', rfl⟩
          have hj : joinI 0 [a, b] = ((256 * a.toNat + b.toNat : Nat) : Int) := by simp [joinI]; omega
          have hal := lt256 a
          have hbl := lt256 b
          obtain ⟨cn, hcn⟩ : ∃ cn, 256 * a.toNat + b.toNat = cn := ⟨_, rfl⟩
          have hcl : cn ≤ 65535 := by omega
          have hcli : (cn : Int) ≤ 65535 := by omega
          rw [hcn] at hj
          have HCN := hid hcn
          have HJ := hid hj
          have h34 : h = 4 := by have := HH.out; have := HE.out; omega
          subst h34
          clear hcn hj
          go_wp2_with ((with_reducible refine K.atO (.slice 9 _ _ _ _) ?_); refine wpL_valZ rfl (.string (sb [a, b])) (exec_two _ _ _ rfl S 2 4 rfl rfl (by first | rfl | (show Value.int .i64 _ = _; rw [HHD.out])) (by omega) (by rw [HNN.out]; omega) _ (by rw [← HSS.out]; rfl) _) ?_)
          refine (joined_any 0 [a, b] (by omega) (by simp) w6).mono ?_
          rintro e w10 ⟨rfl, rfl⟩
          rw [HJ.out]
          go_wp2_with fail
          have hold : Facts.hold [] w10.drew := Facts.nil_hold _
          refine wpD_region hold (by kernel_rfl) 7 rfl ?_
          (refine wpD_plain 0 (v := ?_) rfl (by kernel_rfl) (by kernel_rfl) (by kernel_rfl) (fun _ _ _ h => h) (by rfl) ?_ (by assumption) ?_; rotate_left; (intro _w; go_simp; try with_reducible rfl); simp only [Act.put, K.put3])
          (refine wpD_plain 1 (v := ?_) rfl (by kernel_rfl) (by kernel_rfl) (by kernel_rfl) (fun _ _ _ h => h) (by rfl) ?_ (by assumption) ?_; rotate_left; (intro _w; go_simp; try with_reducible rfl); simp only [Act.put, K.put3])
          (refine wpD_plain 3 (v := ?_) rfl (by kernel_rfl) (by kernel_rfl) (by kernel_rfl) (fun _ _ _ h => h) (by rfl) ?_ (by assumption) ?_; rotate_left; (intro _w; go_simp; try with_reducible rfl); simp only [Act.put, K.put3])
          (refine wpD_plain 2 (v := (.string (sb (l :: [a, b])))) rfl (by kernel_rfl) (by kernel_rfl) (by kernel_rfl) (fun _ _ _ h => h) (by rfl) ?_ (by assumption) ?_; (intro _w; exact exec_two _ _ _ rfl S 1 4 rfl rfl rfl (by omega) (by rw [HNN.out]; omega) _ (by rw [← HSS.out]; rfl) _w); simp only [Act.put, K.put3])
          clear hold
          refine wpD_only 4 [] rfl (by kernel_rfl) (by kernel_rfl) (by rfl) (fun K4 hK4 => ?_)
          refine wp_call (.func 41) _ _ rfl 41 [] rfl (fun vs w => by kernel_rfl) [.int .i64 (cn : Int)] (by rfl) ?_
          refine (length_any cn (by omega) w10.drew).mono ?_
          rintro e w7 ⟨rfl, f7⟩
          have hf7 : Fr No w10 w7 := (Fr.refl No w10).drew.trans' f7
          refine ⟨_, rfl, hK4 _ _ (Facts.nil_hold _) ?_⟩
          clear hK4 K4
          simp only [Act.put, K.put3]
          have hold : Facts.hold [] w7 := Facts.nil_hold _
          (refine wpD_plain 5 (v := (.bool (decide (l :: [a, b] = lenB cn)))) rfl (by kernel_rfl) (by kernel_rfl) (by kernel_rfl) (fun _ _ _ h => h) (by rfl) ?_ (by assumption) ?_; (intro _w; exact exec_eqS _ _ _ rfl _ _ rfl rfl _w); simp only [Act.put, K.put3])
          clear hold
          refine wpD_only 6 [] rfl (by kernel_rfl) (by kernel_rfl) (by rfl) (fun K6 hK6 => ?_)
          refine wp_callP (.func 49) _ _ rfl 49 [] rfl (fun vs w => by kernel_rfl) [.bool (decide (l :: [a, b] = lenB cn)), .int .i64 90] (by rfl) ?_
          refine (must_any _ 90 w7).mono ?_
          rintro e w8 ⟨rfl, ⟨hb, rfl⟩ | ⟨hb, rfl⟩⟩
          rotate_left
          · refine .inr ⟨_, rfl, rfl, hf7, ?_⟩
            rw [HDS.out]
            unfold hdL
            rw [if_neg hl8, if_neg (by rw [HE.out]; decide), if_pos HE.out]
            simp only
            have hlt9 : 256 * a.toNat + b.toNat < 256 := by
              rcases Nat.lt_or_ge (256 * a.toNat + b.toNat) 256 with hx | hx
              · exact hx
              · exfalso
                have el : l = 130 := UInt8.toNat_inj.1 (by rw [HLN.out, HE.out]; rfl)
                apply of_decide_eq_false hb
                unfold lenB
                rw [← HCN.out, if_neg (by omega), if_neg (by omega), show (256 * a.toNat + b.toNat) / 256 = a.toNat by omega, show (256 * a.toNat + b.toNat) % 256 = b.toNat by omega, ofNat_toNat, ofNat_toNat, el]
            rw [if_pos hlt9]
          refine .inl ⟨_, rfl, hK6 _ _ (Facts.nil_hold _) ?_⟩
          clear hK6 K6
          simp only [Act.put, K.put3]
          refine wpD_done (by kernel_rfl) ?_ _
          have HBB := hid (of_decide_eq_true hb)
          clear hb
          go_wp2_with fail
          refine (must_any _ 2 w8).mono ?_
          rintro e w9 ⟨rfl, ⟨hb, rfl⟩ | ⟨hb, rfl⟩⟩
          rotate_left
          · refine ⟨rfl, hf7, ?_⟩
            have h := of_decide_eq_false hb
            rw [HDS.out]
            unfold hdL
            rw [if_neg hl8, if_neg (by rw [HE.out]; decide), if_pos HE.out]
            simp only
            rw [HCN.out, if_neg (by omega), if_pos (by omega)]
          have HB4 := hid (of_decide_eq_true hb)
          clear hb
          go_wp2_with fail
          refine ret_three rfl rfl ⟨hf7, ?_⟩
          rw [HDS.out]
          unfold hdL
          rw [if_neg hl8, if_neg (by rw [HE.out]; decide), if_pos HE.out]
          simp only
          have hge : ¬ cn < 256 := by
            intro hx
            have h := HBB.out
            unfold lenB at h
            by_cases hy : cn < 128
            · rw [if_pos hy] at h; simp at h
            · rw [if_neg hy, if_pos hx] at h; simp at h
          have hle : ¬ 4000 < cn := by have := HB4.out; omega
          rw [HCN.out, if_neg hge, if_neg hle]
          rfl
      · have hd : hdL tn ln q = .error 90 := by
          unfold hdL
          rw [if_neg hl8, if_neg (fun h => hlb (.inl h)), if_neg (fun h => hlb (.inr h))]
        have HD := hid hd
        clear hd
        by_cases h128 : (ln : Int) = 128
        · go_wp2_with ((with_reducible refine K.atO (.index 9 _ _) ?_); refine wpL_valZ rfl (.int .u8 (ln : Int)) (by rw [← HLN.out]; exact exec_idx _ _ rfl S 1 l H1.out _ rfl rfl rfl _) ?_)
          refine (must_any false 90 w4).mono ?_
          rintro e w5 ⟨rfl, ⟨hb, _⟩ | ⟨hb, rfl⟩⟩
          · cases hb
          · refine ⟨rfl, Fr.refl _ _, ?_⟩
            rw [HDS.out, HD.out]
        · have h130 : ¬ (ln : Int) ≤ 130 := by omega
          go_wp2_with ((with_reducible refine K.atO (.index 9 _ _) ?_); refine wpL_valZ rfl (.int .u8 (ln : Int)) (by rw [← HLN.out]; exact exec_idx _ _ rfl S 1 l H1.out _ rfl rfl rfl _) ?_)
          refine (must_any _ 90 w4).mono ?_
          rintro e w5 ⟨rfl, ⟨hb, _⟩ | ⟨hb, rfl⟩⟩
          · exfalso
            simp at hb
            omega
          · refine ⟨rfl, Fr.refl _ _, ?_⟩
            rw [HDS.out, HD.out]
end Go.Proofs.Ythjmkfpdbbfcpaa.BE

namespace Go.Proofs.Ythjmkfpdbbfcpaa.BE
set_option maxRecDepth 100000

theorem hd_err {s : B} {e : Nat} (h : hdS s = .error e) : e ≠ 0 := by
  match s, h with
  | [], h => cases h; decide
  | [b], h =>
    simp only [hdS] at h
    split at h <;> (cases h; decide)
  | b :: l :: q, h =>
    simp only [hdS] at h
    split at h
    · cases h; decide
    · split at h
      · cases h
      · split at h
        · split at h
          · cases h; decide
          · split at h <;> cases h
            decide
        · split at h
          · split at h
            · split at h
              · cases h; decide
              · split at h <;> cases h
                decide
            · cases h; decide
          · cases h; decide
theorem kids_err {f : B → Except Nat (Nd × Nat)} (hf : ∀ s e, f s = .error e → e ≠ 0) (hu : ∀ s n u, f s = .ok (n, u) → 2 ≤ u ∧ u ≤ s.length) : ∀ (k : Nat) (s : B) (e : Nat), s.length ≤ k → kidsG f k s = .error e → e ≠ 0
  | 0, s, e, hs, h => by
    have : s = [] := List.eq_nil_of_length_eq_zero (by omega)
    subst this
    cases h
  | k + 1, s, e, hs, h => by
    unfold kidsG at h
    split at h
    · cases h
    · split at h
      · rename_i e' he
        cases h
        exact hf _ _ he
      · rename_i n u hr
        obtain ⟨h2, h3⟩ := hu _ _ _ hr
        split at h
        · rename_i e' hk
          cases h
          exact kids_err hf hu k _ _ (by rw [List.length_drop]; omega) hk
        · cases h
theorem rd_err : ∀ (m : Nat) (s : B) (e : Nat), rd m s = .error e → e ≠ 0
  | 0, s, e, h => by cases h; decide
  | m + 1, s, e, h => by
    unfold rd at h
    split at h
    · rename_i e' he
      cases h
      exact hd_err he
    · split at h
      · cases h; decide
      · split at h
        · split at h
          · rename_i e' hk
            have := kids_err (rd_err m) (fun s n u hr => ⟨(rd_inv m s n u hr).2.2.2.2.1, (rd_inv m s n u hr).2.2.2.2.2⟩) _ _ _ (Nat.le_refl _) hk
            cases h
            split
            · decide
            · exact this
          · cases h
        · cases h
/-- Some ahead of those that come. -/
def mapK (acc : List Nd) : Except Nat (List Nd) → Except Nat (List Nd)
  | .ok ns => .ok (acc ++ ns)
  | .error e => .error e
theorem mapK_nil (r : Except Nat (List Nd)) : mapK [] r = r := by cases r <;> rfl
theorem mapK_done (acc : List Nd) (f : B → Except Nat (Nd × Nat)) (k : Nat) : mapK acc (kidsG f k []) = .ok acc := by
  cases k <;> simp [kidsG, mapK]
theorem mapK_err (acc : List Nd) (f : B → Except Nat (Nd × Nat)) {k : Nat} {r : B} {e : Nat} (hr : r ≠ []) (hk : r.length ≤ k) (h : f r = .error e) : mapK acc (kidsG f k r) = .error e := by
  cases k with
  | zero => exact absurd (List.eq_nil_of_length_eq_zero (by omega)) hr
  | succ k =>
    unfold kidsG
    rw [if_neg hr, h]
    rfl
theorem mapK_step (acc : List Nd) (f : B → Except Nat (Nd × Nat)) {k : Nat} {r : B} {n : Nd} {u : Nat} (hr : r ≠ []) (hk : r.length ≤ k) (h : f r = .ok (n, u)) : ∃ j, k = j + 1 ∧ mapK acc (kidsG f k r) = mapK (acc ++ [n]) (kidsG f j (r.drop u)) := by
  cases k with
  | zero => exact absurd (List.eq_nil_of_length_eq_zero (by omega)) hr
  | succ k =>
    refine ⟨k, rfl, ?_⟩
    conv => lhs; unfold kidsG
    rw [if_neg hr, h]
    simp only
    cases hx : kidsG f k (r.drop u) with
    | error e => rfl
    | ok ns => simp [mapK]
end Go.Proofs.Ythjmkfpdbbfcpaa.BE
