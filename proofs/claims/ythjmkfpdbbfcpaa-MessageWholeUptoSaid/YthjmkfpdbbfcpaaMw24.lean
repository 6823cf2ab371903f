/-
  Part 24 of the proof: BeA, MqD, MqW.
-/
import Derived.Test.YthjmkfpdbbfcpaaMw23
import Derived.Test.YthjmkfpdbbfcpaaMw15
import Derived.Test.YthjmkfpdbbfcpaaMw19
set_option linter.unusedSimpArgs false
set_option linter.unusedVariables false
namespace Go.Proofs.Ythjmkfpdbbfcpaa.BE
set_option maxRecDepth 100000
open Go.RowKit K

/-- No element. -/
def noNd : Nd := .mk 0 [] []
/-- What Decode tells: the element, the number of its bytes, the error. -/
def decN (s : B) : Nd × Nat × Nat := match rd 8 s with
  | .error k => (noNd, 0, k)
  | .ok (n, u) => (n, u, 0)
def Decodes (s : B) (w : World) (e : Ending) (w' : World) : Prop := Fr No w w' ∧ ∃ cs, e = .returned (.tuple #[.agg cs.toArray, .int .i64 ((decN s).2.1 : Int), .int .i64 ((decN s).2.2 : Int)]) ∧ NdAt 8 (Since w.heap.size) w' (decN s).1 cs
def zN : List Value := [.int .i64 0, .string ⟨#[]⟩, .slice none 0 0]
def DecP (s : B) (pn pu : Nat) (o : Option Nat) (w1 w2 : World) : Prop := Fr (fun k => k = pn ∨ k = pu) w1 w2 ∧ o.getD 0 = (decN s).2.2 ∧ ∃ cs, Blk w2 pn 44 cs ∧ Blk w2 pu 3 [.int .i64 ((decN s).2.1 : Int)] ∧ NdAt 8 (Since w1.heap.size) w2 (decN s).1 cs
theorem no_nd (w : World) (N : Nat) : NdAt 8 (Since N) w noNd zN := leaf_nd 7 N w 0 [] (by omega) (by simp)
/-- Three results, of which the first two lie in memory. -/
theorem ret_cct {P : Program} {a : Act} {w : World} {fn : Func} {R : Ending → World → Prop} {p q r : Tmp} {ty ti : TypeId} {b c : Nat} {t t2 : TypeId} {cs : List Value} {x : Int} (hr : fn.results = #[.cell p ty, .cell q ti, .tmp r]) (d : TypeDesc) (hp : a.tmps.getD p undef = .pointer (some ⟨b, 0, none⟩)) (hB : Blk w b t cs)
    (hq : a.tmps.getD q undef = .pointer (some ⟨c, 0, none⟩)) (hC : Blk w c t2 [.int .i64 x]) (hui : P.underlying ti = some (.int .i64)) (hii : (P.info? ti).map (·.size) = some 1)
    (hu : P.underlying ty = some d) (hd : (match d with | .struct _ | .array _ _ => true | _ => false) = true) (hi : (P.info? ty).map (·.size) = some cs.length) (hdf : a.defers = [])
    (h : R (.returned (.tuple #[.agg cs.toArray, .int .i64 x, a.tmps.getD r undef])) w) : bodyPost P fn R .ret a w := by
  refine bodyPost_ret ?_ hdf h
  have hp' : a.tmps[p]?.getD undef = .pointer (some ⟨b, 0, none⟩) := by simpa using hp
  have hq' : a.tmps[q]?.getD undef = .pointer (some ⟨c, 0, none⟩) := by simpa using hq
  have hc := hC.cell 0
  simp only [List.getElem?_cons_zero] at hc
  simp [results, hr, hp', hq', asAddr, run_loadVar_row w b t ty cs.toArray (0, 0) d hB hu hd (by simpa using hi)]
  simp [loadVar, isAgg, run_underlying hui, hc, go_sem]
set_option maxHeartbeats 4000000 in
theorem decode_any (s : B) (w : World) (hs : s.length ≤ 281474976710656) : Calls Try.prog 14 #[.string (sb s)] w (Decodes s w) := by
  have HS := hid hs
  obtain ⟨ss, hss⟩ : ∃ ss, sb s = ss := ⟨_, rfl⟩
  rw [hss]
  have HSS := hid hss
  clear hs hss
  have hmf : ∀ (fn : Fn) (first cap : Array Value) (w : World), (Instr.makeFunc fn first cap).run Try.prog w = .ok (.func fn first cap) w := fun _ _ _ _ => rfl
  go_enter Try.func14, Try.ntmps14
  go_wp2_with (first
    | ((with_reducible refine K.atO (.box 9 _) ?_); refine wpL_box rfl _ _ rfl _ rfl [.string ss] rfl ?_; intro w1 HB1 F1 HS1)
    | ((with_reducible refine K.atO (.alloc 44) ?_); refine wpL_alloc rfl _ rfl _ zeroN zN rfl ?_; intro w2 HB2 F2 HS2)
    | ((with_reducible refine K.atO (.alloc 3) ?_); refine wpL_alloc rfl _ rfl _ zeroI [.int .i64 0] rfl ?_; intro w3 HB3 F3 HS3))
  have f13 := F2.out.trans' F3.out
  have hf3 : Fr No w w3 := F1.out.trans' f13
  have hs1 := HS1.out; have hs2 := HS2.out; have hs3 := HS3.out
  refine (caught_any 27 [.pointer (some ⟨w.heap.size, 0, none⟩), .pointer (some ⟨w1.heap.size, 0, none⟩), .pointer (some ⟨w2.heap.size, 0, none⟩)] (DecP s w1.heap.size w2.heap.size) (fun k => k = w1.heap.size ∨ k = w2.heap.size) w3 (by omega) (fun vs w => by kernel_rfl) (fun o a b h => h.1) ?_).mono ?_
  · intro v0 f0 hs0
    have hb1 : Blk v0 w.heap.size 9 [.string ss] := (HB1.out.fr f13 id).fr f0 id
    have HBn : Hid (Blk v0 w1.heap.size 44 zN) := hid ((HB2.out.fr F3.out id).fr f0 id)
    have HBu : Hid (Blk v0 w2.heap.size 3 [.int .i64 0]) := hid (HB3.out.fr f0 id)
    have c1 : v0.cell? ⟨w.heap.size, 0, none⟩ = some (.string ss) := hb1.cell 0
    have HZ := hid (show w1.heap.size ≠ w2.heap.size ∧ w1.heap.size < v0.heap.size ∧ w2.heap.size < v0.heap.size by omega)
    clear hb1 f0 hs0 f13 hf3 hs1 hs2 hs3
    show Calls Try.prog _ #[.pointer (some ⟨w.heap.size, 0, none⟩), .pointer (some ⟨w1.heap.size, 0, none⟩), .pointer (some ⟨w2.heap.size, 0, none⟩)] v0 _
    go_enter Try.func27, Try.ntmps27
    go_wp2_with fail
    rw [← HSS.out]
    refine (read_any 8 (Nat.le_refl _) s v0 HS.out).mono ?_
    rintro e v1 ⟨f1, hm⟩
    have HF1 := hid f1
    have HBn1 := hid (HBn.out.fr f1 id); have HBu1 := hid (HBu.out.fr f1 id)
    cases hr : rd 8 s with
    | error k =>
      rw [hr] at hm
      simp only at hm
      subst hm
      have hde : decN s = (noNd, 0, k) := by unfold decN; rw [hr]
      refine ⟨rfl, .inr ⟨k, rfl, f1.no, by rw [hde]; rfl, zN, HBn1.out, by rw [hde]; exact HBu1.out, by rw [hde]; exact no_nd _ _⟩⟩
    | ok p =>
      obtain ⟨n, u⟩ := p
      rw [hr] at hm
      simp only at hm
      obtain ⟨cs, rfl, hn⟩ := hm
      obtain ⟨x, y, z, hcs⟩ := box_kid cs hn.len
      subst hcs
      have hde : decN s = (n, u, 0) := by unfold decN; rw [hr]
      have HDE := hid hde; have HN := hid hn
      clear hr hn hde f1 c1
      go_wp2_with (first
        | ((with_reducible refine K.atO (.store 44 _ _) ?_); refine wpL_storeV rfl _ _ _ rfl w1.heap.size 0 (.agg #[x, y, z]) [x, y, z] rfl rfl rfl _ _ HBn1.out (by simp [zN]) infoN (by intro u hu; exact HN.out.one u hu) ?_; intro v2 HB4 F4 HS4;
            have HBu2 : Hid (Blk v2 w2.heap.size 3 [.int .i64 0]) := hid (HBu1.out.fr F4.out (fun e => HZ.out.1 e.symm)))
        | ((with_reducible refine K.atO (.store 3 _ _) ?_); refine wpL_setV rfl _ _ _ rfl w2.heap.size 0 (.int .i64 (u : Int)) rfl rfl rfl rfl _ _ HBu2.out (by simp) infoI ?_; intro v3 HB5 F5 HS5))
      go_end0
      have hb4 : Blk v2 w1.heap.size 44 [x, y, z] := by have h := HB4.out; rwa [spl_all (by simp [zN])] at h
      refine .inl ⟨rfl, (HF1.out.no.trans' (F4.out.mono fun k hk => .inl hk)).trans' (F5.out.mono fun k hk => .inr hk), by rw [HDE.out]; rfl, [x, y, z], hb4.fr F5.out (fun e => HZ.out.1 e), by rw [HDE.out]; exact HB5.out, ?_⟩
      rw [HDE.out]
      refine NdAt.fr F5.out (fun k hk _ e => ?_) (NdAt.fr F4.out (fun k hk _ e => ?_) HN.out)
      · have h : v0.heap.size ≤ k := hk; have e : k = w2.heap.size := e; have := HZ.out; omega
      · have h : v0.heap.size ≤ k := hk; have e : k = w1.heap.size := e; have := HZ.out; omega
  · rintro e w6 ⟨o, w4, w5, rfl, f4, hs4, ⟨f5, hoe, cs, hbn, hbu, hn⟩, f6⟩
    obtain ⟨x, y, z, hcs⟩ := box_kid cs hn.len
    subst hcs
    have hpn : Blk w6 w1.heap.size 44 [x, y, z] := hbn.fr f6 (fun e => by have e : w1.heap.size = w3.heap.size := e; omega)
    have hpu : Blk w6 w2.heap.size 3 [.int .i64 ((decN s).2.1 : Int)] := hbu.fr f6 (fun e => by have e : w2.heap.size = w3.heap.size := e; omega)
    have hn6 : NdAt 8 (Since w4.heap.size) w6 (decN s).1 [x, y, z] := NdAt.fr f6 (fun k hk _ e => by have h : w4.heap.size ≤ k := hk; have e : k = w3.heap.size := e; omega) hn
    have hff : Fr No w w6 := ((hf3.trans' f4).trans f5 (fun k hk => .inr (by have := F1.out.size; have h : k = w1.heap.size ∨ k = w2.heap.size := hk; omega))).trans f6 (fun k hk => .inr (by have e : k = w3.heap.size := hk; have := hf3.size; omega))
    have HPN := hid hpn; have HPU := hid hpu; have HN6 := hid hn6; have HFF := hid hff
    have HW4 := hid (show w.heap.size ≤ w4.heap.size ∧ w1.heap.size ≠ w2.heap.size ∧ w1.heap.size < w4.heap.size ∧ w2.heap.size < w4.heap.size by have := hf3.size; omega)
    have HLT := hid (show w.heap.size ≤ w1.heap.size ∧ w.heap.size ≤ w2.heap.size by omega)
    rw [hoe]
    obtain ⟨er, her⟩ : ∃ er, (decN s).2.2 = er := ⟨_, rfl⟩
    obtain ⟨us, hus⟩ : ∃ us, (decN s).2.1 = us := ⟨_, rfl⟩
    rw [hus] at HPU
    rw [her]
    have HER := hid her; have HUS := hid hus
    clear f4 hs4 f5 hoe hbn hbu hn f6 hpn hpu hn6 hff f13 hf3 hs1 hs2 hs3 HB1 HB2 HB3 her hus
    have k2 : w6.rangeAt w1.heap.size 0 [x, y, z] := HPN.out.range 0 _ rfl
    have k3 : w6.cell? ⟨w2.heap.size, 0, none⟩ = some (.int .i64 (us : Int)) := HPU.out.cell 0
    show (match Ending.returned (.int .i64 (er : Int)), w6 with | _, _ => _)
    go_wp2_with fail
    have hold : Facts.hold [(0, fun w' => w'.rangeAt w1.heap.size 0 [x, y, z]), (1, fun w' => w'.cell? ⟨w2.heap.size, 0, none⟩ = some (.int .i64 (us : Int)))] w6.drew := Facts.cons_hold k2 (Facts.cons_hold k3 (Facts.nil_hold _))
    refine wpD_region hold (by kernel_rfl) 6 rfl ?_
    (refine wpD_take 0 _ rfl (by kernel_rfl) (by kernel_rfl) (by kernel_rfl) (fun _ _ _ h => h) List.mem_cons_self (by rfl) (exec_load _ _ rfl w1.heap.size 0 rfl _ _ rfl rfl infoN) (by assumption) ?_; simp only [Act.put, K.put3])
    (refine wpD_take 1 _ rfl (by kernel_rfl) (by kernel_rfl) (by kernel_rfl) (fun _ _ _ h => h) (List.mem_cons_of_mem _ List.mem_cons_self) (by rfl) (v := ?_) ?_ (by assumption) ?_; rotate_left; (intro _w _hw; go_simp; try with_reducible rfl); simp only [Act.put, K.put3])
    (refine wpD_plain 2 (v := ?_) rfl (by kernel_rfl) (by kernel_rfl) (by kernel_rfl) (fun _ _ _ h => h) (by rfl) ?_ (by assumption) ?_; rotate_left; (intro _w; go_simp; try with_reducible rfl); simp only [Act.put, K.put3])
    clear hold
    have h1s : ∀ u ∈ [x, y, z], u.oneCell' = true := HN6.out.one
    refine wpD_only 3 [(1, fun w' => w'.cell? ⟨w2.heap.size, 0, none⟩ = some (.int .i64 (us : Int)))] rfl (by kernel_rfl) (by kernel_rfl) (by rfl) (fun K3 hK3 => ?_)
    refine wp_storeV _ _ _ rfl w1.heap.size 0 (.agg #[x, y, z]) [x, y, z] rfl rfl rfl _ _ HPN.out (by simp) infoN h1s ?_
    intro w7 HB7 F7 HS7
    have f7 : Fr (fun k => k = w1.heap.size) w6 w7 := (Fr.refl _ w6).drew.trans' F7.out
    have hb7 : Blk w7 w1.heap.size 44 [x, y, z] := by have h := HB7.out; rwa [spl_all (by simp)] at h
    have hu7 : Blk w7 w2.heap.size 3 [.int .i64 (us : Int)] := HPU.out.fr f7 (fun e => HW4.out.2.1 e.symm)
    refine hK3 _ _ (Facts.cons_hold (hu7.cell 0) (Facts.nil_hold _)) ?_
    clear hK3 K3
    simp only [Act.put, K.put3]
    refine wpD_only 4 [] rfl (by kernel_rfl) (by kernel_rfl) (by rfl) (fun K4 hK4 => ?_)
    refine wp_storeV _ _ _ rfl w2.heap.size 0 (.int .i64 (us : Int)) [.int .i64 (us : Int)] rfl rfl rfl _ _ hu7 (by simp) infoI (by intro u hu; simp at hu; rcases hu with rfl; rfl) ?_
    intro w8 HB8 F8 HS8
    refine hK4 _ _ (Facts.nil_hold _) ?_
    clear hK4 K4
    simp only [Act.put, K.put3]
    have hb8 : Blk w8 w1.heap.size 44 [x, y, z] := hb7.fr F8.out (fun e => HW4.out.2.1 e)
    have hu8 : Blk w8 w2.heap.size 3 [.int .i64 (us : Int)] := by simpa [spl] using HB8.out
    have hold : Facts.hold [] w8 := Facts.nil_hold _
    (refine wpD_plain 5 (v := ?_) rfl (by kernel_rfl) (by kernel_rfl) (by kernel_rfl) (fun _ _ _ h => h) (by rfl) ?_ (by assumption) ?_; rotate_left; (intro _w; go_simp; try with_reducible rfl); simp only [Act.put, K.put3])
    clear hold
    refine wpD_done (by kernel_rfl) ?_ _
    go_wp2_with fail
    refine ret_cct rfl _ rfl hb8 rfl hu8 Try.underlying3 infoI rfl rfl (by simpa using infoN) rfl ?_
    have hlt := HLT.out
    have hf8 : Fr No w w8 := (HFF.out.trans f7 (fun k hk => .inr (by have e : k = w1.heap.size := hk; omega))).trans F8.out (fun k hk => .inr (by have e : k = w2.heap.size := hk; omega))
    refine ⟨hf8, [x, y, z], by rw [HER.out, HUS.out]; rfl, ?_⟩
    have hw4 := HW4.out
    refine NdAt.mono (fun k _ hk => Nat.le_trans hw4.1 hk) (NdAt.fr F8.out (fun k hk _ e => ?_) (NdAt.fr f7 (fun k hk _ e => ?_) HN6.out))
    · have h : w4.heap.size ≤ k := hk; have e : k = w2.heap.size := e; omega
    · have h : w4.heap.size ≤ k := hk; have e : k = w1.heap.size := e; omega
end Go.Proofs.Ythjmkfpdbbfcpaa.BE

namespace Go.Proofs.Ythjmkfpdbbfcpaa.ME
set_option maxRecDepth 100000
open Go.RowKit K Go.Proofs.Ythjmkfpdbbfcpaa.BE Go.Proofs.Ythjmkfpdbbfcpaa.FR

/-- What Decode tells. -/
def decP (s : B) : Msg × Nat := match decR s with
  | some m => (m, 0)
  | none => (msg0 0 0, 110)
def DecM (s : B) (w : World) (e : Ending) (w' : World) : Prop := ∃ vk va vw vl vm, e = .returned (.tuple #[.agg (mcs (decP s).1 vk va vw vl vm).toArray, .int .i64 ((decP s).2 : Int)]) ∧ MsgC 6 (Since w.heap.size) w' (decP s).1 vk va vw vl vm ∧ Fr No w w'
theorem msgc0 (S : Nat → Prop) (w : World) : MsgC 6 S w (msg0 0 0) (.slice none 0 0) (.slice none 0 0) (.slice none 0 0) (.slice none 0 0) (.slice none 0 0) :=
  ⟨⟨⟨by decide, by decide⟩, ⟨by decide, by decide⟩, ⟨by decide, by decide⟩, ⟨by decide, by decide⟩, ⟨by decide, by decide⟩, ⟨by decide, by decide⟩, ⟨by decide, by decide⟩, ⟨by decide, by decide⟩, ⟨by decide, by decide⟩⟩, ⟨(by show (0 : Nat) ≤ _; omega), (by show (0 : Nat) ≤ _; omega), (by show (0 : Nat) ≤ _; omega), (by show (0 : Nat) ≤ _; omega), (by show (0 : Nat) ≤ _; omega), (by show (0 : Nat) ≤ _; omega), (by show (0 : Nat) ≤ _; omega), (by show (0 : Nat) ≤ _; omega)⟩, ⟨_, _, rfl, ⟨by decide, by decide⟩, (by show (0 : Nat) ≤ _; omega), (by show (0 : Nat) ≤ _; omega), (by show (0 : Nat) ≤ _; omega), (by show (0 : Nat) ≤ _; omega), tx_none _ _, ⟨none, 0, rfl, Nat.le_refl _, by show (0 : Nat) ≤ _; omega, .inl rfl⟩⟩, tx_none _ _, ⟨none, 0, rfl, Nat.le_refl _, by show (0 : Nat) ≤ _; omega, .inl rfl⟩, ⟨none, 0, rfl, Nat.le_refl _, by show (0 : Nat) ≤ _; omega, .inl rfl⟩⟩
set_option maxHeartbeats 16000000 in
theorem pdecode_bad (s : B) (w : World) (hs : s.length ≤ 281474976710656) (k : Nat) (hr : rd 8 s = .error k) : Calls Try.prog 9 #[.string (sb s)] w (DecM s w) := by
  have hd : decP s = (msg0 0 0, 110) := by unfold decP decR; rw [hr]
  have hk : decN s = (noNd, 0, k) := by unfold decN; rw [hr]
  have hk0 := rd_err 8 s k hr
  have HD := hid hd
  have HC : Hid (∀ w', Calls Try.prog 14 #[.string (sb s)] w' (Decodes s w')) := hid (fun w' => decode_any s w' hs)
  have HK := hid hk
  have g1 : ((k : Int) == 0) = false := by simpa using hk0
  obtain ⟨S, hS⟩ : ∃ S, sb s = S := ⟨_, rfl⟩
  rw [hS] at HC ⊢
  clear hd hk hk0 hr hS hs
  go_enter Try.func9, Try.ntmps9
  go_wp2_with (first
    | ((with_reducible refine K.atO (.alloc 29) ?_); refine wpL_alloc rfl _ rfl _ zeroMsg [.int .i64 0, .int .i64 0, .int .i64 0, .string ⟨#[]⟩, .string ⟨#[]⟩, .int .i64 0, .int .i64 0, .int .i64 0, .int .i64 0, .bool false, .int .i64 0, .slice none 0 0, .string ⟨#[]⟩, .string ⟨#[]⟩, .string ⟨#[]⟩, .slice none 0 0, .string ⟨#[]⟩, .slice none 0 0, .slice none 0 0, .slice none 0 0, .string ⟨#[]⟩, .bool false, .bool false, .string ⟨#[]⟩, .string ⟨#[]⟩, .string ⟨#[]⟩, .int .i64 0, .int .i64 0, .string ⟨#[]⟩, .string ⟨#[]⟩] rfl ?_; intro w1 HB1 F1 HS1)
    | fail)
  refine (HC.out w1).mono ?_
  rintro e w2 ⟨f2, cs, rfl, hnd⟩
  rw [HK.out] at hnd ⊢
  have HB2 := hid (HB1.out.fr f2 id); have HF2 := hid (F1.out.trans' f2)
  obtain ⟨a, c, rfl, -, -, -⟩ := hnd.head
  have HL := hid (show w1.heap.size ≤ w2.heap.size from f2.size)
  clear f2 hnd
  show (match Ending.returned (Value.tuple #[.agg #[.int .i64 0, .string (sb []), .slice a 0 c], .int .i64 0, .int .i64 (k : Int)]), w2 with | _, _ => _)
  go_wp2_with (first
    | ((with_reducible refine K.atO (.alloc 44) ?_); refine wpL_alloc rfl _ rfl _ zeroN [.int .i64 0, .string ⟨#[]⟩, .slice none 0 0] rfl ?_; intro w3 HB3 F3 HS3)
    | ((with_reducible refine K.atO (.store 44 _ _) ?_); refine wpL_storeV rfl _ _ _ rfl w2.heap.size 0 (.agg #[.int .i64 0, .string (sb []), .slice a 0 c]) [.int .i64 0, .string (sb []), .slice a 0 c] rfl rfl rfl _ _ HB3.out (by simp) infoN (by intro u hu; simp at hu; rcases hu with rfl | rfl | rfl <;> rfl) ?_; intro w4 HB4 F4 HS4)
    | ((with_reducible refine K.atO (.store 29 _ _) ?_); refine wpL_storeV rfl _ _ _ rfl w.heap.size 0 (.agg #[.int .i64 0, .int .i64 0, .int .i64 0, .string ⟨#[]⟩, .string ⟨#[]⟩, .int .i64 0, .int .i64 0, .int .i64 0, .int .i64 0, .bool false, .int .i64 0, .slice none 0 0, .string ⟨#[]⟩, .string ⟨#[]⟩, .string ⟨#[]⟩, .slice none 0 0, .string ⟨#[]⟩, .slice none 0 0, .slice none 0 0, .slice none 0 0, .string ⟨#[]⟩, .bool false, .bool false, .string ⟨#[]⟩, .string ⟨#[]⟩, .string ⟨#[]⟩, .int .i64 0, .int .i64 0, .string ⟨#[]⟩, .string ⟨#[]⟩]) [.int .i64 0, .int .i64 0, .int .i64 0, .string ⟨#[]⟩, .string ⟨#[]⟩, .int .i64 0, .int .i64 0, .int .i64 0, .int .i64 0, .bool false, .int .i64 0, .slice none 0 0, .string ⟨#[]⟩, .string ⟨#[]⟩, .string ⟨#[]⟩, .slice none 0 0, .string ⟨#[]⟩, .slice none 0 0, .slice none 0 0, .slice none 0 0, .string ⟨#[]⟩, .bool false, .bool false, .string ⟨#[]⟩, .string ⟨#[]⟩, .string ⟨#[]⟩, .int .i64 0, .int .i64 0, .string ⟨#[]⟩, .string ⟨#[]⟩] rfl rfl rfl _ _ ((HB2.out.fr F3.out id).fr F4.out (fun e => by have e : w.heap.size = w2.heap.size := e; have := HS1.out; have := HL.out; omega)) (by simp) infoMsg (by intro u hu; simp at hu; rcases hu with rfl | rfl | rfl | rfl | rfl | rfl | rfl | rfl | rfl | rfl | rfl | rfl | rfl | rfl | rfl | rfl | rfl | rfl | rfl | rfl | rfl | rfl | rfl | rfl | rfl | rfl | rfl | rfl | rfl | rfl <;> rfl) ?_; intro wz HBz Fz HSz)
    | fail)
  refine ret_cell2 rfl _ rfl HBz.out rfl rfl infoMsg rfl ?_
  refine ⟨.slice none 0 0, .slice none 0 0, .slice none 0 0, .slice none 0 0, .slice none 0 0, by rw [HD.out]; rfl, by rw [HD.out]; exact msgc0 _ _, ?_⟩
  exact ((HF2.out.trans' F3.out).trans F4.out fun k e => .inr (by have e : k = w2.heap.size := e; have := HF2.out.size; omega)).trans Fz.out fun k e => .inr (by have e : k = w.heap.size := e; omega)
set_option maxHeartbeats 16000000 in
theorem pdecode_err (s : B) (w : World) (hs : s.length ≤ 281474976710656) (n : Nd) (u : Nat) (hr : rd 8 s = .ok (n, u)) (t : B) (k : Nat) (he : encM (readM n) = (t, k)) (hk0 : k ≠ 0) : Calls Try.prog 9 #[.string (sb s)] w (DecM s w) := by
  have hd : decP s = (msg0 0 0, 110) := by unfold decP decR; rw [hr]; simp only [he]; rw [if_neg (fun h => hk0 (congrArg Prod.snd h))]
  have g1 : ((k : Int) == 0) = false := by simpa using hk0
  have g2 : ((k : Int) != 0) = true := by simpa using hk0
  have g3 : ¬ (k : Int) = 0 := by omega
  have g4 : (k == 0) = false := by simpa using hk0
  have HD := hid hd
  have HC : Hid (∀ w', Calls Try.prog 14 #[.string (sb s)] w' (Decodes s w')) := hid (fun w' => decode_any s w' hs)
  have hk : decN s = (n, u, 0) := by unfold decN; rw [hr]
  have HK := hid hk
  obtain ⟨i1, i2, i3, -, -, -⟩ := rd_inv 8 s n u hr
  have HOK := hid (okF_of i1 i2 i3); have HWB := hid (wb_read (okB_of i1 i2 i3))
  obtain ⟨RM, hRM⟩ : ∃ x, readM n = x := ⟨_, rfl⟩
  rw [hRM] at HWB he
  have HRM := hid hRM; have HEN := hid he
  clear hd hk hr hs i1 i2 i3 hRM he
  go_enter Try.func9, Try.ntmps9
  go_wp2_with (first
    | ((with_reducible refine K.atO (.alloc 29) ?_); refine wpL_alloc rfl _ rfl _ zeroMsg [.int .i64 0, .int .i64 0, .int .i64 0, .string ⟨#[]⟩, .string ⟨#[]⟩, .int .i64 0, .int .i64 0, .int .i64 0, .int .i64 0, .bool false, .int .i64 0, .slice none 0 0, .string ⟨#[]⟩, .string ⟨#[]⟩, .string ⟨#[]⟩, .slice none 0 0, .string ⟨#[]⟩, .slice none 0 0, .slice none 0 0, .slice none 0 0, .string ⟨#[]⟩, .bool false, .bool false, .string ⟨#[]⟩, .string ⟨#[]⟩, .string ⟨#[]⟩, .int .i64 0, .int .i64 0, .string ⟨#[]⟩, .string ⟨#[]⟩] rfl ?_; intro w1 HB1 F1 HS1)
    | fail)
  refine (HC.out w1).mono ?_
  rintro e w2 ⟨f2, cs, rfl, hnd⟩
  rw [HK.out] at hnd ⊢
  have HB2 := hid (HB1.out.fr f2 id); have HF2 := hid (F1.out.trans' f2)
  have HL := hid (show w1.heap.size ≤ w2.heap.size from f2.size)
  obtain ⟨a, c, rfl, -, -, -⟩ := hnd.head
  have HN := hid hnd
  clear f2 hnd HC
  generalize sb n.body = SB at HN ⊢
  generalize n.tag = tg at HN ⊢
  generalize n.kids.length = kl at HN ⊢
  show (match Ending.returned (Value.tuple #[.agg #[.int .i64 tg, .string SB, .slice a kl c], .int .i64 (u : Int), .int .i64 0]), w2 with | _, _ => _)
  go_wp2_with (first
    | ((with_reducible refine K.atO (.alloc 44) ?_); refine wpL_alloc rfl _ rfl _ zeroN [.int .i64 0, .string ⟨#[]⟩, .slice none 0 0] rfl ?_; intro w3 HB3 F3 HS3)
    | ((with_reducible refine K.atO (.store 44 _ _) ?_); refine wpL_storeV rfl _ _ _ rfl w2.heap.size 0 (.agg #[.int .i64 tg, .string SB, .slice a kl c]) [.int .i64 tg, .string SB, .slice a kl c] rfl rfl rfl _ _ HB3.out (by simp) infoN (by intro u hu; simp at hu; rcases hu with rfl | rfl | rfl <;> rfl) ?_; intro w4 HB4 F4 HS4)
    | ((with_reducible refine K.atO (.load 44 _) ?_); refine wpL_load rfl _ _ rfl w2.heap.size 0 rfl [.int .i64 tg, .string SB, .slice a kl c] _ (HB4.out.range 0 _ rfl) rfl rfl infoN ?_)
    | fail)
  have f24 : Fr No w2 w4 := F3.out.trans F4.out fun k e => .inr (by have e : k = w2.heap.size := e; omega)
  have HB24 := hid (HB2.out.fr f24 id); have HF24 := hid (HF2.out.trans' f24)
  refine (pread_any _ n [.int .i64 tg, .string SB, .slice a kl c] w4 (HN.out.no f24) HOK.out).mono ?_
  rintro e w5 ⟨vk, va, vw, vl, vm, rfl, hm, f5⟩
  rw [HRM.out] at hm ⊢
  have HM := hid hm
  have HB5 := hid (HB24.out.fr f5 id); have HF5 := hid (HF24.out.trans' f5)
  have HL4 := hid (show w.heap.size < w4.heap.size by have := HS1.out; have := HL.out; have := f24.size; omega)
  have HONE := hid (mcs_one hm)
  have HLEN := hid (show (Try.prog.info? 29).map (·.size) = some (mcs RM vk va vw vl vm).length from infoMsg)
  have HEC : Hid (∀ w', Fr No w5 w' → Calls Try.prog 8 #[.agg (mcs RM vk va vw vl vm).toArray] w' fun e w'' => e = .returned (.tuple #[.string (sb (encM RM).1), .int .i64 ((encM RM).2 : Int)]) ∧ Fr No w' w'') := hid (fun w' hf => pencode_any 6 _ RM vk va vw vl vm w' (hm.no hf) HWB.out)
  obtain ⟨C, hC⟩ : ∃ C, mcs RM vk va vw vl vm = C := ⟨_, rfl⟩
  have HCL : Hid (C.length = 30) := hid (by rw [← hC]; rfl)
  rw [hC] at HONE HLEN HEC ⊢
  have HCC := hid hC
  clear hm f5 f24 hC HB1 F1 HB2 HF2 HB3 F3 HS3 HB4 F4 HS4 HB24 HF24
  go_wp2_with (first
    | ((with_reducible refine K.atO (.alloc 29) ?_); refine wpL_alloc rfl _ rfl _ zeroMsg [.int .i64 0, .int .i64 0, .int .i64 0, .string ⟨#[]⟩, .string ⟨#[]⟩, .int .i64 0, .int .i64 0, .int .i64 0, .int .i64 0, .bool false, .int .i64 0, .slice none 0 0, .string ⟨#[]⟩, .string ⟨#[]⟩, .string ⟨#[]⟩, .slice none 0 0, .string ⟨#[]⟩, .slice none 0 0, .slice none 0 0, .slice none 0 0, .string ⟨#[]⟩, .bool false, .bool false, .string ⟨#[]⟩, .string ⟨#[]⟩, .string ⟨#[]⟩, .int .i64 0, .int .i64 0, .string ⟨#[]⟩, .string ⟨#[]⟩] rfl ?_; intro w6 HB6 F6 HS6)
    | ((with_reducible refine K.atO (.store 29 _ _) ?_); refine wpL_storeV rfl _ _ _ rfl w5.heap.size 0 (.agg C.toArray) C rfl rfl rfl _ _ HB6.out (by rw [HCL.out]; simp) HLEN.out HONE.out ?_; intro w7 HB7 F7 HS7; have HBC : Hid (Blk w7 w5.heap.size 29 C) := hid (by have h := HB7.out; rwa [spl_all (by rw [HCL.out]; simp)] at h))
    | ((with_reducible refine K.atO (.load 29 _) ?_); refine wpL_load rfl _ _ rfl w5.heap.size 0 rfl C _ (HBC.out.range 0 _ (by rw [List.drop_zero, List.take_length])) rfl rfl HLEN.out ?_)
    | fail)
  have f57 : Fr No w5 w7 := F6.out.trans F7.out fun k e => .inr (by have e : k = w5.heap.size := e; omega)
  have HB57 := hid (HB5.out.fr f57 id); have HF57 := hid (HF5.out.trans' f57); have HM7 := hid (HM.out.no f57)
  refine (HEC.out w7 f57).mono ?_
  rintro e w8 ⟨rfl, f8⟩
  rw [HEN.out]
  have HB8 := hid (HB57.out.fr f8 id); have HF8 := hid (HF57.out.trans' f8); have HM8 := hid (HM7.out.no f8); have HBC8 := hid (HBC.out.fr f8 id)
  have HL5 := hid (show w.heap.size < w5.heap.size from HB5.out.lt)
  clear f57 f8 HB6 F6 HS6 HB7 F7 HS7 HBC HB57 HF57 HM7 HEC HB5
  go_wp2_with (first
    | ((with_reducible refine K.atO (.store 29 _ _) ?_); refine wpL_storeV rfl _ _ _ rfl w.heap.size 0 (.agg #[.int .i64 0, .int .i64 0, .int .i64 0, .string ⟨#[]⟩, .string ⟨#[]⟩, .int .i64 0, .int .i64 0, .int .i64 0, .int .i64 0, .bool false, .int .i64 0, .slice none 0 0, .string ⟨#[]⟩, .string ⟨#[]⟩, .string ⟨#[]⟩, .slice none 0 0, .string ⟨#[]⟩, .slice none 0 0, .slice none 0 0, .slice none 0 0, .string ⟨#[]⟩, .bool false, .bool false, .string ⟨#[]⟩, .string ⟨#[]⟩, .string ⟨#[]⟩, .int .i64 0, .int .i64 0, .string ⟨#[]⟩, .string ⟨#[]⟩]) [.int .i64 0, .int .i64 0, .int .i64 0, .string ⟨#[]⟩, .string ⟨#[]⟩, .int .i64 0, .int .i64 0, .int .i64 0, .int .i64 0, .bool false, .int .i64 0, .slice none 0 0, .string ⟨#[]⟩, .string ⟨#[]⟩, .string ⟨#[]⟩, .slice none 0 0, .string ⟨#[]⟩, .slice none 0 0, .slice none 0 0, .slice none 0 0, .string ⟨#[]⟩, .bool false, .bool false, .string ⟨#[]⟩, .string ⟨#[]⟩, .string ⟨#[]⟩, .int .i64 0, .int .i64 0, .string ⟨#[]⟩, .string ⟨#[]⟩] rfl rfl rfl _ _ HB8.out (by simp) infoMsg (by intro u hu; simp at hu; rcases hu with rfl | rfl | rfl | rfl | rfl | rfl | rfl | rfl | rfl | rfl | rfl | rfl | rfl | rfl | rfl | rfl | rfl | rfl | rfl | rfl | rfl | rfl | rfl | rfl | rfl | rfl | rfl | rfl | rfl | rfl <;> rfl) ?_; intro wz HBz Fz HSz)
    | fail)
  refine ret_cell2 rfl _ rfl HBz.out rfl rfl infoMsg rfl ?_
  exact ⟨.slice none 0 0, .slice none 0 0, .slice none 0 0, .slice none 0 0, .slice none 0 0, by rw [HD.out]; rfl, by rw [HD.out]; exact msgc0 _ _, HF8.out.trans Fz.out fun k e => .inr (by have e : k = w.heap.size := e; omega)⟩
set_option maxHeartbeats 16000000 in
theorem pdecode_other (s : B) (w : World) (hs : s.length ≤ 281474976710656) (n : Nd) (u : Nat) (hr : rd 8 s = .ok (n, u)) (t : B) (he : encM (readM n) = (t, 0)) (ht : ¬ t = s) : Calls Try.prog 9 #[.string (sb s)] w (DecM s w) := by
  have hd : decP s = (msg0 0 0, 110) := by unfold decP decR; rw [hr]; simp only [he]; rw [if_neg (fun h => ht (congrArg Prod.fst h))]
  have HT := hid ht
  clear ht
  have HD := hid hd
  have HC : Hid (∀ w', Calls Try.prog 14 #[.string (sb s)] w' (Decodes s w')) := hid (fun w' => decode_any s w' hs)
  have hk : decN s = (n, u, 0) := by unfold decN; rw [hr]
  have HK := hid hk
  obtain ⟨i1, i2, i3, -, -, -⟩ := rd_inv 8 s n u hr
  have HOK := hid (okF_of i1 i2 i3); have HWB := hid (wb_read (okB_of i1 i2 i3))
  obtain ⟨RM, hRM⟩ : ∃ x, readM n = x := ⟨_, rfl⟩
  rw [hRM] at HWB he
  have HRM := hid hRM; have HEN := hid he
  clear hd hk hr hs i1 i2 i3 hRM he
  go_enter Try.func9, Try.ntmps9
  go_wp2_with (first
    | ((with_reducible refine K.atO (.alloc 29) ?_); refine wpL_alloc rfl _ rfl _ zeroMsg [.int .i64 0, .int .i64 0, .int .i64 0, .string ⟨#[]⟩, .string ⟨#[]⟩, .int .i64 0, .int .i64 0, .int .i64 0, .int .i64 0, .bool false, .int .i64 0, .slice none 0 0, .string ⟨#[]⟩, .string ⟨#[]⟩, .string ⟨#[]⟩, .slice none 0 0, .string ⟨#[]⟩, .slice none 0 0, .slice none 0 0, .slice none 0 0, .string ⟨#[]⟩, .bool false, .bool false, .string ⟨#[]⟩, .string ⟨#[]⟩, .string ⟨#[]⟩, .int .i64 0, .int .i64 0, .string ⟨#[]⟩, .string ⟨#[]⟩] rfl ?_; intro w1 HB1 F1 HS1)
    | fail)
  refine (HC.out w1).mono ?_
  rintro e w2 ⟨f2, cs, rfl, hnd⟩
  rw [HK.out] at hnd ⊢
  have HB2 := hid (HB1.out.fr f2 id); have HF2 := hid (F1.out.trans' f2)
  have HL := hid (show w1.heap.size ≤ w2.heap.size from f2.size)
  obtain ⟨a, c, rfl, -, -, -⟩ := hnd.head
  have HN := hid hnd
  clear f2 hnd HC
  generalize sb n.body = SB at HN ⊢
  generalize n.tag = tg at HN ⊢
  generalize n.kids.length = kl at HN ⊢
  show (match Ending.returned (Value.tuple #[.agg #[.int .i64 tg, .string SB, .slice a kl c], .int .i64 (u : Int), .int .i64 0]), w2 with | _, _ => _)
  go_wp2_with (first
    | ((with_reducible refine K.atO (.alloc 44) ?_); refine wpL_alloc rfl _ rfl _ zeroN [.int .i64 0, .string ⟨#[]⟩, .slice none 0 0] rfl ?_; intro w3 HB3 F3 HS3)
    | ((with_reducible refine K.atO (.store 44 _ _) ?_); refine wpL_storeV rfl _ _ _ rfl w2.heap.size 0 (.agg #[.int .i64 tg, .string SB, .slice a kl c]) [.int .i64 tg, .string SB, .slice a kl c] rfl rfl rfl _ _ HB3.out (by simp) infoN (by intro u hu; simp at hu; rcases hu with rfl | rfl | rfl <;> rfl) ?_; intro w4 HB4 F4 HS4)
    | ((with_reducible refine K.atO (.load 44 _) ?_); refine wpL_load rfl _ _ rfl w2.heap.size 0 rfl [.int .i64 tg, .string SB, .slice a kl c] _ (HB4.out.range 0 _ rfl) rfl rfl infoN ?_)
    | fail)
  have f24 : Fr No w2 w4 := F3.out.trans F4.out fun k e => .inr (by have e : k = w2.heap.size := e; omega)
  have HB24 := hid (HB2.out.fr f24 id); have HF24 := hid (HF2.out.trans' f24)
  refine (pread_any _ n [.int .i64 tg, .string SB, .slice a kl c] w4 (HN.out.no f24) HOK.out).mono ?_
  rintro e w5 ⟨vk, va, vw, vl, vm, rfl, hm, f5⟩
  rw [HRM.out] at hm ⊢
  have HM := hid hm
  have HB5 := hid (HB24.out.fr f5 id); have HF5 := hid (HF24.out.trans' f5)
  have HL4 := hid (show w.heap.size < w4.heap.size by have := HS1.out; have := HL.out; have := f24.size; omega)
  have HONE := hid (mcs_one hm)
  have HLEN := hid (show (Try.prog.info? 29).map (·.size) = some (mcs RM vk va vw vl vm).length from infoMsg)
  have HEC : Hid (∀ w', Fr No w5 w' → Calls Try.prog 8 #[.agg (mcs RM vk va vw vl vm).toArray] w' fun e w'' => e = .returned (.tuple #[.string (sb (encM RM).1), .int .i64 ((encM RM).2 : Int)]) ∧ Fr No w' w'') := hid (fun w' hf => pencode_any 6 _ RM vk va vw vl vm w' (hm.no hf) HWB.out)
  obtain ⟨C, hC⟩ : ∃ C, mcs RM vk va vw vl vm = C := ⟨_, rfl⟩
  have HCL : Hid (C.length = 30) := hid (by rw [← hC]; rfl)
  rw [hC] at HONE HLEN HEC ⊢
  have HCC := hid hC
  clear hm f5 f24 hC HB1 F1 HB2 HF2 HB3 F3 HS3 HB4 F4 HS4 HB24 HF24
  go_wp2_with (first
    | ((with_reducible refine K.atO (.alloc 29) ?_); refine wpL_alloc rfl _ rfl _ zeroMsg [.int .i64 0, .int .i64 0, .int .i64 0, .string ⟨#[]⟩, .string ⟨#[]⟩, .int .i64 0, .int .i64 0, .int .i64 0, .int .i64 0, .bool false, .int .i64 0, .slice none 0 0, .string ⟨#[]⟩, .string ⟨#[]⟩, .string ⟨#[]⟩, .slice none 0 0, .string ⟨#[]⟩, .slice none 0 0, .slice none 0 0, .slice none 0 0, .string ⟨#[]⟩, .bool false, .bool false, .string ⟨#[]⟩, .string ⟨#[]⟩, .string ⟨#[]⟩, .int .i64 0, .int .i64 0, .string ⟨#[]⟩, .string ⟨#[]⟩] rfl ?_; intro w6 HB6 F6 HS6)
    | ((with_reducible refine K.atO (.store 29 _ _) ?_); refine wpL_storeV rfl _ _ _ rfl w5.heap.size 0 (.agg C.toArray) C rfl rfl rfl _ _ HB6.out (by rw [HCL.out]; simp) HLEN.out HONE.out ?_; intro w7 HB7 F7 HS7; have HBC : Hid (Blk w7 w5.heap.size 29 C) := hid (by have h := HB7.out; rwa [spl_all (by rw [HCL.out]; simp)] at h))
    | ((with_reducible refine K.atO (.load 29 _) ?_); refine wpL_load rfl _ _ rfl w5.heap.size 0 rfl C _ (HBC.out.range 0 _ (by rw [List.drop_zero, List.take_length])) rfl rfl HLEN.out ?_)
    | fail)
  have f57 : Fr No w5 w7 := F6.out.trans F7.out fun k e => .inr (by have e : k = w5.heap.size := e; omega)
  have HB57 := hid (HB5.out.fr f57 id); have HF57 := hid (HF5.out.trans' f57); have HM7 := hid (HM.out.no f57)
  refine (HEC.out w7 f57).mono ?_
  rintro e w8 ⟨rfl, f8⟩
  rw [HEN.out]
  have HB8 := hid (HB57.out.fr f8 id); have HF8 := hid (HF57.out.trans' f8); have HM8 := hid (HM7.out.no f8); have HBC8 := hid (HBC.out.fr f8 id)
  have HL5 := hid (show w.heap.size < w5.heap.size from HB5.out.lt)
  clear f57 f8 HB6 F6 HS6 HB7 F7 HS7 HBC HB57 HF57 HM7 HEC HB5
  go_wp2_with (first
    | ((with_reducible refine K.atO (.binOp .neq 9 _ _ _) ?_); refine wpL_valZ (by rfl) (.bool true) ((exec_neS _ _ _ rfl t s rfl rfl _).trans (by simp [HT.out])) ?_)
    | ((with_reducible refine K.atO (.store 29 _ _) ?_); refine wpL_storeV rfl _ _ _ rfl w.heap.size 0 (.agg #[.int .i64 0, .int .i64 0, .int .i64 0, .string ⟨#[]⟩, .string ⟨#[]⟩, .int .i64 0, .int .i64 0, .int .i64 0, .int .i64 0, .bool false, .int .i64 0, .slice none 0 0, .string ⟨#[]⟩, .string ⟨#[]⟩, .string ⟨#[]⟩, .slice none 0 0, .string ⟨#[]⟩, .slice none 0 0, .slice none 0 0, .slice none 0 0, .string ⟨#[]⟩, .bool false, .bool false, .string ⟨#[]⟩, .string ⟨#[]⟩, .string ⟨#[]⟩, .int .i64 0, .int .i64 0, .string ⟨#[]⟩, .string ⟨#[]⟩]) [.int .i64 0, .int .i64 0, .int .i64 0, .string ⟨#[]⟩, .string ⟨#[]⟩, .int .i64 0, .int .i64 0, .int .i64 0, .int .i64 0, .bool false, .int .i64 0, .slice none 0 0, .string ⟨#[]⟩, .string ⟨#[]⟩, .string ⟨#[]⟩, .slice none 0 0, .string ⟨#[]⟩, .slice none 0 0, .slice none 0 0, .slice none 0 0, .string ⟨#[]⟩, .bool false, .bool false, .string ⟨#[]⟩, .string ⟨#[]⟩, .string ⟨#[]⟩, .int .i64 0, .int .i64 0, .string ⟨#[]⟩, .string ⟨#[]⟩] rfl rfl rfl _ _ HB8.out (by simp) infoMsg (by intro u hu; simp at hu; rcases hu with rfl | rfl | rfl | rfl | rfl | rfl | rfl | rfl | rfl | rfl | rfl | rfl | rfl | rfl | rfl | rfl | rfl | rfl | rfl | rfl | rfl | rfl | rfl | rfl | rfl | rfl | rfl | rfl | rfl | rfl <;> rfl) ?_; intro wz HBz Fz HSz)
    | fail)
  refine ret_cell2 rfl _ rfl HBz.out rfl rfl infoMsg rfl ?_
  exact ⟨.slice none 0 0, .slice none 0 0, .slice none 0 0, .slice none 0 0, .slice none 0 0, by rw [HD.out]; rfl, by rw [HD.out]; exact msgc0 _ _, HF8.out.trans Fz.out fun k e => .inr (by have e : k = w.heap.size := e; omega)⟩
set_option maxHeartbeats 16000000 in
theorem pdecode_good (s : B) (w : World) (hs : s.length ≤ 281474976710656) (n : Nd) (u : Nat) (hr : rd 8 s = .ok (n, u)) (he : encM (readM n) = (s, 0)) : Calls Try.prog 9 #[.string (sb s)] w (DecM s w) := by
  have hd : decP s = (readM n, 0) := by unfold decP decR; rw [hr]; simp [he]
  have HD := hid hd
  have HC : Hid (∀ w', Calls Try.prog 14 #[.string (sb s)] w' (Decodes s w')) := hid (fun w' => decode_any s w' hs)
  have hk : decN s = (n, u, 0) := by unfold decN; rw [hr]
  have HK := hid hk
  obtain ⟨i1, i2, i3, -, -, -⟩ := rd_inv 8 s n u hr
  have HOK := hid (okF_of i1 i2 i3); have HWB := hid (wb_read (okB_of i1 i2 i3))
  obtain ⟨RM, hRM⟩ : ∃ x, readM n = x := ⟨_, rfl⟩
  rw [hRM] at HWB he
  have HRM := hid hRM; have HEN := hid he
  clear hd hk hr hs i1 i2 i3 hRM he
  go_enter Try.func9, Try.ntmps9
  go_wp2_with (first
    | ((with_reducible refine K.atO (.alloc 29) ?_); refine wpL_alloc rfl _ rfl _ zeroMsg [.int .i64 0, .int .i64 0, .int .i64 0, .string ⟨#[]⟩, .string ⟨#[]⟩, .int .i64 0, .int .i64 0, .int .i64 0, .int .i64 0, .bool false, .int .i64 0, .slice none 0 0, .string ⟨#[]⟩, .string ⟨#[]⟩, .string ⟨#[]⟩, .slice none 0 0, .string ⟨#[]⟩, .slice none 0 0, .slice none 0 0, .slice none 0 0, .string ⟨#[]⟩, .bool false, .bool false, .string ⟨#[]⟩, .string ⟨#[]⟩, .string ⟨#[]⟩, .int .i64 0, .int .i64 0, .string ⟨#[]⟩, .string ⟨#[]⟩] rfl ?_; intro w1 HB1 F1 HS1)
    | fail)
  refine (HC.out w1).mono ?_
  rintro e w2 ⟨f2, cs, rfl, hnd⟩
  rw [HK.out] at hnd ⊢
  have HB2 := hid (HB1.out.fr f2 id); have HF2 := hid (F1.out.trans' f2)
  have HL := hid (show w1.heap.size ≤ w2.heap.size from f2.size)
  obtain ⟨a, c, rfl, -, -, -⟩ := hnd.head
  have HN := hid hnd
  clear f2 hnd HC
  generalize sb n.body = SB at HN ⊢
  generalize n.tag = tg at HN ⊢
  generalize n.kids.length = kl at HN ⊢
  show (match Ending.returned (Value.tuple #[.agg #[.int .i64 tg, .string SB, .slice a kl c], .int .i64 (u : Int), .int .i64 0]), w2 with | _, _ => _)
  go_wp2_with (first
    | ((with_reducible refine K.atO (.alloc 44) ?_); refine wpL_alloc rfl _ rfl _ zeroN [.int .i64 0, .string ⟨#[]⟩, .slice none 0 0] rfl ?_; intro w3 HB3 F3 HS3)
    | ((with_reducible refine K.atO (.store 44 _ _) ?_); refine wpL_storeV rfl _ _ _ rfl w2.heap.size 0 (.agg #[.int .i64 tg, .string SB, .slice a kl c]) [.int .i64 tg, .string SB, .slice a kl c] rfl rfl rfl _ _ HB3.out (by simp) infoN (by intro u hu; simp at hu; rcases hu with rfl | rfl | rfl <;> rfl) ?_; intro w4 HB4 F4 HS4)
    | ((with_reducible refine K.atO (.load 44 _) ?_); refine wpL_load rfl _ _ rfl w2.heap.size 0 rfl [.int .i64 tg, .string SB, .slice a kl c] _ (HB4.out.range 0 _ rfl) rfl rfl infoN ?_)
    | fail)
  have f24 : Fr No w2 w4 := F3.out.trans F4.out fun k e => .inr (by have e : k = w2.heap.size := e; omega)
  have HB24 := hid (HB2.out.fr f24 id); have HF24 := hid (HF2.out.trans' f24)
  refine (pread_any _ n [.int .i64 tg, .string SB, .slice a kl c] w4 (HN.out.no f24) HOK.out).mono ?_
  rintro e w5 ⟨vk, va, vw, vl, vm, rfl, hm, f5⟩
  rw [HRM.out] at hm ⊢
  have HM := hid hm
  have HB5 := hid (HB24.out.fr f5 id); have HF5 := hid (HF24.out.trans' f5)
  have HL4 := hid (show w.heap.size < w4.heap.size by have := HS1.out; have := HL.out; have := f24.size; omega)
  have HONE := hid (mcs_one hm)
  have HLEN := hid (show (Try.prog.info? 29).map (·.size) = some (mcs RM vk va vw vl vm).length from infoMsg)
  have HEC : Hid (∀ w', Fr No w5 w' → Calls Try.prog 8 #[.agg (mcs RM vk va vw vl vm).toArray] w' fun e w'' => e = .returned (.tuple #[.string (sb (encM RM).1), .int .i64 ((encM RM).2 : Int)]) ∧ Fr No w' w'') := hid (fun w' hf => pencode_any 6 _ RM vk va vw vl vm w' (hm.no hf) HWB.out)
  obtain ⟨C, hC⟩ : ∃ C, mcs RM vk va vw vl vm = C := ⟨_, rfl⟩
  have HCL : Hid (C.length = 30) := hid (by rw [← hC]; rfl)
  rw [hC] at HONE HLEN HEC ⊢
  have HCC := hid hC
  clear hm f5 f24 hC HB1 F1 HB2 HF2 HB3 F3 HS3 HB4 F4 HS4 HB24 HF24
  go_wp2_with (first
    | ((with_reducible refine K.atO (.alloc 29) ?_); refine wpL_alloc rfl _ rfl _ zeroMsg [.int .i64 0, .int .i64 0, .int .i64 0, .string ⟨#[]⟩, .string ⟨#[]⟩, .int .i64 0, .int .i64 0, .int .i64 0, .int .i64 0, .bool false, .int .i64 0, .slice none 0 0, .string ⟨#[]⟩, .string ⟨#[]⟩, .string ⟨#[]⟩, .slice none 0 0, .string ⟨#[]⟩, .slice none 0 0, .slice none 0 0, .slice none 0 0, .string ⟨#[]⟩, .bool false, .bool false, .string ⟨#[]⟩, .string ⟨#[]⟩, .string ⟨#[]⟩, .int .i64 0, .int .i64 0, .string ⟨#[]⟩, .string ⟨#[]⟩] rfl ?_; intro w6 HB6 F6 HS6)
    | ((with_reducible refine K.atO (.store 29 _ _) ?_); refine wpL_storeV rfl _ _ _ rfl w5.heap.size 0 (.agg C.toArray) C rfl rfl rfl _ _ HB6.out (by rw [HCL.out]; simp) HLEN.out HONE.out ?_; intro w7 HB7 F7 HS7; have HBC : Hid (Blk w7 w5.heap.size 29 C) := hid (by have h := HB7.out; rwa [spl_all (by rw [HCL.out]; simp)] at h))
    | ((with_reducible refine K.atO (.load 29 _) ?_); refine wpL_load rfl _ _ rfl w5.heap.size 0 rfl C _ (HBC.out.range 0 _ (by rw [List.drop_zero, List.take_length])) rfl rfl HLEN.out ?_)
    | fail)
  have f57 : Fr No w5 w7 := F6.out.trans F7.out fun k e => .inr (by have e : k = w5.heap.size := e; omega)
  have HB57 := hid (HB5.out.fr f57 id); have HF57 := hid (HF5.out.trans' f57); have HM7 := hid (HM.out.no f57)
  refine (HEC.out w7 f57).mono ?_
  rintro e w8 ⟨rfl, f8⟩
  rw [HEN.out]
  have HB8 := hid (HB57.out.fr f8 id); have HF8 := hid (HF57.out.trans' f8); have HM8 := hid (HM7.out.no f8); have HBC8 := hid (HBC.out.fr f8 id)
  have HL5 := hid (show w.heap.size < w5.heap.size from HB5.out.lt)
  clear f57 f8 HB6 F6 HS6 HB7 F7 HS7 HBC HB57 HF57 HM7 HEC HB5
  go_wp2_with (first
    | ((with_reducible refine K.atO (.binOp .neq 9 _ _ _) ?_); refine wpL_valZ (by rfl) (.bool false) ((exec_neS _ _ _ rfl s s rfl rfl _).trans (by simp)) ?_)
    | ((with_reducible refine K.atO (.load 29 _) ?_); refine wpL_load rfl _ _ rfl w5.heap.size 0 rfl C _ (HBC8.out.range 0 _ (by rw [List.drop_zero, List.take_length])) rfl rfl HLEN.out ?_)
    | ((with_reducible refine K.atO (.store 29 _ _) ?_); refine wpL_storeV rfl _ _ _ rfl w.heap.size 0 (.agg C.toArray) C rfl rfl rfl _ _ HB8.out (by rw [HCL.out]; simp) HLEN.out HONE.out ?_; intro wz HBz Fz HSz)
    | fail)
  have hbz : Blk wz w.heap.size 29 C := by
    have h := HBz.out
    rwa [spl_all (by rw [HCL.out]; rfl)] at h
  refine ret_cell2 rfl _ rfl hbz rfl rfl HLEN.out rfl ?_
  have hd2 := HD.out
  rw [HRM.out] at hd2
  refine ⟨vk, va, vw, vl, vm, by rw [hd2, ← HCC.out]; rfl, ?_, HF8.out.trans Fz.out fun k e => .inr (by have e : k = w.heap.size := e; omega)⟩
  rw [hd2]
  exact (HM8.out.fr Fz.out (fun k hk _ e => by have h : w4.heap.size ≤ k := hk; have e : k = w.heap.size := e; have := HL4.out; omega)).monoS (fun k _ hk => Nat.le_trans (Nat.le_of_lt HL4.out) hk)
theorem pdecode_any (s : B) (w : World) (hs : s.length ≤ 281474976710656) : Calls Try.prog 9 #[.string (sb s)] w (DecM s w) := by
  cases hr : rd 8 s with
  | error k => exact pdecode_bad s w hs k hr
  | ok p =>
    obtain ⟨n, u⟩ := p
    obtain ⟨t, k, he⟩ : ∃ t k, encM (readM n) = (t, k) := ⟨_, _, rfl⟩
    by_cases hk : k = 0
    · subst hk
      by_cases ht : t = s
      · subst ht; exact pdecode_good _ w hs n u hr he
      · exact pdecode_other s w hs n u hr t he ht
    · exact pdecode_err s w hs n u hr t k he hk
end Go.Proofs.Ythjmkfpdbbfcpaa.ME

namespace Go.Proofs.Ythjmkfpdbbfcpaa.ME
set_option maxRecDepth 100000
open Go.RowKit K Go.Proofs.Ythjmkfpdbbfcpaa.BE Go.Proofs.Ythjmkfpdbbfcpaa.FR

theorem msgcL (S : Nat → Prop) (w : World) (m : Msg) (hi : I64 m.id ∧ I64 m.op ∧ I64 m.ver ∧ I64 m.scope ∧ I64 m.deref ∧ I64 m.size ∧ I64 m.time ∧ I64 m.target ∧ I64 m.code) (ht : Sz m.name ∧ Sz m.pw ∧ Sz m.rdn ∧ Sz m.sup ∧ Sz m.type ∧ Sz m.value ∧ Sz m.matched ∧ Sz m.text)
    (hf : m.filter = fl0) (hw : m.wants = []) (hl : m.list = []) (hm : m.mods = []) : MsgC 6 S w m (.slice none 0 0) (.slice none 0 0) (.slice none 0 0) (.slice none 0 0) (.slice none 0 0) := by
  refine ⟨hi, ht, ?_, ?_, ?_, ?_⟩
  · rw [hf]
    exact ⟨_, _, rfl, ⟨by decide, by decide⟩, (by show (0 : Nat) ≤ _; omega), (by show (0 : Nat) ≤ _; omega), (by show (0 : Nat) ≤ _; omega), (by show (0 : Nat) ≤ _; omega), tx_none _ _, ⟨none, 0, rfl, Nat.le_refl _, by show (0 : Nat) ≤ _; omega, .inl rfl⟩⟩
  · rw [hw]; exact tx_none _ _
  · rw [hl]; exact ⟨none, 0, rfl, Nat.le_refl _, by show (0 : Nat) ≤ _; omega, .inl rfl⟩
  · rw [hm]; exact ⟨none, 0, rfl, Nat.le_refl _, by show (0 : Nat) ≤ _; omega, .inl rfl⟩
def exA : Msg := msg0 1 66
theorem exA_enc : encM exA = ([48, 5, 2, 1, 1, 66, 0], 0) := by decide +kernel
theorem exA_wb : WB exA := ⟨flb_nil 6 0, Nat.zero_le _, ⟨Nat.zero_le _, fun x hx => by cases hx⟩, ⟨Nat.zero_le _, fun x hx => by cases hx⟩⟩
theorem exA_c (S : Nat → Prop) (w : World) : MsgC 6 S w exA (.slice none 0 0) (.slice none 0 0) (.slice none 0 0) (.slice none 0 0) (.slice none 0 0) := msgcL S w exA ⟨(by unfold I64; decide +kernel), (by unfold I64; decide +kernel), (by unfold I64; decide +kernel), (by unfold I64; decide +kernel), (by unfold I64; decide +kernel), (by unfold I64; decide +kernel), (by unfold I64; decide +kernel), (by unfold I64; decide +kernel), (by unfold I64; decide +kernel)⟩ ⟨(by show List.length _ ≤ _; decide), (by show List.length _ ≤ _; decide), (by show List.length _ ≤ _; decide), (by show List.length _ ≤ _; decide), (by show List.length _ ≤ _; decide), (by show List.length _ ≤ _; decide), (by show List.length _ ≤ _; decide), (by show List.length _ ≤ _; decide)⟩ rfl rfl rfl rfl
def exB : Msg := { msg0 3 96 with ver := 3, name := [98], pw := [99] }
theorem exB_enc : encM exB = ([48, 14, 2, 1, 3, 96, 9, 2, 1, 3, 4, 1, 98, 128, 1, 99], 0) := by decide +kernel
theorem exB_wb : WB exB := ⟨flb_nil 6 0, Nat.zero_le _, ⟨Nat.zero_le _, fun x hx => by cases hx⟩, ⟨Nat.zero_le _, fun x hx => by cases hx⟩⟩
theorem exB_c (S : Nat → Prop) (w : World) : MsgC 6 S w exB (.slice none 0 0) (.slice none 0 0) (.slice none 0 0) (.slice none 0 0) (.slice none 0 0) := msgcL S w exB ⟨(by unfold I64; decide +kernel), (by unfold I64; decide +kernel), (by unfold I64; decide +kernel), (by unfold I64; decide +kernel), (by unfold I64; decide +kernel), (by unfold I64; decide +kernel), (by unfold I64; decide +kernel), (by unfold I64; decide +kernel), (by unfold I64; decide +kernel)⟩ ⟨(by show List.length _ ≤ _; decide), (by show List.length _ ≤ _; decide), (by show List.length _ ≤ _; decide), (by show List.length _ ≤ _; decide), (by show List.length _ ≤ _; decide), (by show List.length _ ≤ _; decide), (by show List.length _ ≤ _; decide), (by show List.length _ ≤ _; decide)⟩ rfl rfl rfl rfl
def exC : Msg := { msg0 4 107 with code := 32 }
theorem exC_enc : encM exC = ([48, 12, 2, 1, 4, 107, 7, 10, 1, 32, 4, 0, 4, 0], 0) := by decide +kernel
theorem exC_wb : WB exC := ⟨flb_nil 6 0, Nat.zero_le _, ⟨Nat.zero_le _, fun x hx => by cases hx⟩, ⟨Nat.zero_le _, fun x hx => by cases hx⟩⟩
theorem exC_c (S : Nat → Prop) (w : World) : MsgC 6 S w exC (.slice none 0 0) (.slice none 0 0) (.slice none 0 0) (.slice none 0 0) (.slice none 0 0) := msgcL S w exC ⟨(by unfold I64; decide +kernel), (by unfold I64; decide +kernel), (by unfold I64; decide +kernel), (by unfold I64; decide +kernel), (by unfold I64; decide +kernel), (by unfold I64; decide +kernel), (by unfold I64; decide +kernel), (by unfold I64; decide +kernel), (by unfold I64; decide +kernel)⟩ ⟨(by show List.length _ ≤ _; decide), (by show List.length _ ≤ _; decide), (by show List.length _ ≤ _; decide), (by show List.length _ ≤ _; decide), (by show List.length _ ≤ _; decide), (by show List.length _ ≤ _; decide), (by show List.length _ ≤ _; decide), (by show List.length _ ≤ _; decide)⟩ rfl rfl rfl rfl
def exD : Msg := { msg0 1 74 with pw := [120] }
theorem exD_enc : encM exD = ([], 110) := by decide +kernel
theorem exD_wb : WB exD := ⟨flb_nil 6 0, Nat.zero_le _, ⟨Nat.zero_le _, fun x hx => by cases hx⟩, ⟨Nat.zero_le _, fun x hx => by cases hx⟩⟩
theorem exD_c (S : Nat → Prop) (w : World) : MsgC 6 S w exD (.slice none 0 0) (.slice none 0 0) (.slice none 0 0) (.slice none 0 0) (.slice none 0 0) := msgcL S w exD ⟨(by unfold I64; decide +kernel), (by unfold I64; decide +kernel), (by unfold I64; decide +kernel), (by unfold I64; decide +kernel), (by unfold I64; decide +kernel), (by unfold I64; decide +kernel), (by unfold I64; decide +kernel), (by unfold I64; decide +kernel), (by unfold I64; decide +kernel)⟩ ⟨(by show List.length _ ≤ _; decide), (by show List.length _ ≤ _; decide), (by show List.length _ ≤ _; decide), (by show List.length _ ≤ _; decide), (by show List.length _ ≤ _; decide), (by show List.length _ ≤ _; decide), (by show List.length _ ≤ _; decide), (by show List.length _ ≤ _; decide)⟩ rfl rfl rfl rfl
theorem exE : decP [48, 5, 2, 1, 1, 66, 1] = (msg0 0 0, 110) := by kernel_rfl
theorem exF : decP [48, 6, 2, 1, 2, 74, 1, 97] = ({ msg0 2 74 with name := [97] }, 0) := by kernel_rfl
set_option maxHeartbeats 16000000 in
theorem awake_any (w : World) : Calls Try.prog 7 #[] w fun e w' => e = .returned (.bool true) ∧ Fr No w w' := by
  go_enter Try.func7, Try.ntmps7
  go_wp2_with fail
  refine (pencode_any 6 Any exA (.slice none 0 0) (.slice none 0 0) (.slice none 0 0) (.slice none 0 0) (.slice none 0 0) w (exA_c _ _) exA_wb).mono ?_
  rintro e w1 ⟨rfl, f1⟩
  rw [exA_enc]
  have F1 := hid f1
  clear f1
  go_wp2_with fail
  refine (pencode_any 6 Any exB (.slice none 0 0) (.slice none 0 0) (.slice none 0 0) (.slice none 0 0) (.slice none 0 0) w1 (exB_c _ _) exB_wb).mono ?_
  rintro e w2 ⟨rfl, f2⟩
  rw [exB_enc]
  have F2 := hid (F1.out.trans' f2)
  clear f2
  go_wp2_with fail
  refine (pencode_any 6 Any exC (.slice none 0 0) (.slice none 0 0) (.slice none 0 0) (.slice none 0 0) (.slice none 0 0) w2 (exC_c _ _) exC_wb).mono ?_
  rintro e w3 ⟨rfl, f3⟩
  rw [exC_enc]
  have F3 := hid (F2.out.trans' f3)
  clear f3
  go_wp2_with fail
  refine (pencode_any 6 Any exD (.slice none 0 0) (.slice none 0 0) (.slice none 0 0) (.slice none 0 0) (.slice none 0 0) w3 (exD_c _ _) exD_wb).mono ?_
  rintro e w4 ⟨rfl, f4⟩
  rw [exD_enc]
  have F4 := hid (F3.out.trans' f4)
  clear f4
  go_wp2_with fail
  refine (pdecode_any [48, 5, 2, 1, 1, 66, 1] w4 (by decide)).mono ?_
  rintro e d5 ⟨vk1, va1, vw1, vl1, vm1, rfl, hm5, f5⟩
  rw [exE] at hm5 ⊢
  have HM5 := hid (mcs_one hm5)
  have F5 := hid (F4.out.trans' f5)
  clear f5 hm5
  show (match Ending.returned (Value.tuple #[.agg #[.int .i64 0, .int .i64 0, .int .i64 0, .string ⟨#[]⟩, .string ⟨#[]⟩, .int .i64 0, .int .i64 0, .int .i64 0, .int .i64 0, .bool false, .int .i64 0, vk1, .string ⟨#[]⟩, .string ⟨#[]⟩, .string ⟨#[]⟩, va1, .string ⟨#[]⟩, vw1, vl1, vm1, .string ⟨#[]⟩, .bool false, .bool false, .string ⟨#[]⟩, .string ⟨#[]⟩, .string ⟨#[]⟩, .int .i64 0, .int .i64 0, .string ⟨#[]⟩, .string ⟨#[]⟩], .int .i64 110]), d5 with | _, _ => _)
  go_wp2_with (first
    | ((with_reducible refine K.atO (.alloc 29) ?_); (fail_if_success (have := HA5)); refine wpL_alloc rfl _ rfl _ zeroMsg [.int .i64 0, .int .i64 0, .int .i64 0, .string ⟨#[]⟩, .string ⟨#[]⟩, .int .i64 0, .int .i64 0, .int .i64 0, .int .i64 0, .bool false, .int .i64 0, .slice none 0 0, .string ⟨#[]⟩, .string ⟨#[]⟩, .string ⟨#[]⟩, .slice none 0 0, .string ⟨#[]⟩, .slice none 0 0, .slice none 0 0, .slice none 0 0, .string ⟨#[]⟩, .bool false, .bool false, .string ⟨#[]⟩, .string ⟨#[]⟩, .string ⟨#[]⟩, .int .i64 0, .int .i64 0, .string ⟨#[]⟩, .string ⟨#[]⟩] rfl ?_; intro a5 HA5 FA5 SA5)
    | ((with_reducible refine K.atO (.store 29 _ _) ?_); (have := HA5); refine wpL_storeV rfl _ _ _ rfl d5.heap.size 0 (.agg #[.int .i64 0, .int .i64 0, .int .i64 0, .string ⟨#[]⟩, .string ⟨#[]⟩, .int .i64 0, .int .i64 0, .int .i64 0, .int .i64 0, .bool false, .int .i64 0, vk1, .string ⟨#[]⟩, .string ⟨#[]⟩, .string ⟨#[]⟩, va1, .string ⟨#[]⟩, vw1, vl1, vm1, .string ⟨#[]⟩, .bool false, .bool false, .string ⟨#[]⟩, .string ⟨#[]⟩, .string ⟨#[]⟩, .int .i64 0, .int .i64 0, .string ⟨#[]⟩, .string ⟨#[]⟩]) [.int .i64 0, .int .i64 0, .int .i64 0, .string ⟨#[]⟩, .string ⟨#[]⟩, .int .i64 0, .int .i64 0, .int .i64 0, .int .i64 0, .bool false, .int .i64 0, vk1, .string ⟨#[]⟩, .string ⟨#[]⟩, .string ⟨#[]⟩, va1, .string ⟨#[]⟩, vw1, vl1, vm1, .string ⟨#[]⟩, .bool false, .bool false, .string ⟨#[]⟩, .string ⟨#[]⟩, .string ⟨#[]⟩, .int .i64 0, .int .i64 0, .string ⟨#[]⟩, .string ⟨#[]⟩] rfl rfl rfl _ _ HA5.out (by simp) infoMsg (by intro u hu; exact HM5.out u hu) ?_; intro b5 HB5 FB5 SB5;
        have G5 : Hid (Fr No d5 b5) := hid (FA5.out.trans FB5.out (fun i e => .inr (by have e : i = d5.heap.size := e; omega))); refine Hid.out ?_)
    | fail)
  have FF5 := hid (F5.out.trans' G5.out)
  have HX5 : Hid (Blk b5 d5.heap.size 29 [.int .i64 0, .int .i64 0, .int .i64 0, .string ⟨#[]⟩, .string ⟨#[]⟩, .int .i64 0, .int .i64 0, .int .i64 0, .int .i64 0, .bool false, .int .i64 0, vk1, .string ⟨#[]⟩, .string ⟨#[]⟩, .string ⟨#[]⟩, va1, .string ⟨#[]⟩, vw1, vl1, vm1, .string ⟨#[]⟩, .bool false, .bool false, .string ⟨#[]⟩, .string ⟨#[]⟩, .string ⟨#[]⟩, .int .i64 0, .int .i64 0, .string ⟨#[]⟩, .string ⟨#[]⟩]) := hid HB5.out
  clear HA5 FA5 SA5 HB5 FB5 SB5 G5
  refine hid ?_
  go_wp2_with fail
  refine (pdecode_any [48, 6, 2, 1, 2, 74, 1, 97] b5 (by decide)).mono ?_
  rintro e d6 ⟨vk2, va2, vw2, vl2, vm2, rfl, hm6, f6⟩
  rw [exF] at hm6 ⊢
  have HM6 := hid (mcs_one hm6)
  have HX56 := hid (HX5.out.fr f6 id)
  have HL6 := hid (show d5.heap.size < d6.heap.size from Nat.lt_of_lt_of_le HX5.out.lt f6.size)
  have F6 := hid (FF5.out.trans' f6)
  clear f6 hm6
  show (match Ending.returned (Value.tuple #[.agg #[.int .i64 2, .int .i64 74, .int .i64 0, .string (sb [97]), .string ⟨#[]⟩, .int .i64 0, .int .i64 0, .int .i64 0, .int .i64 0, .bool false, .int .i64 0, vk2, .string ⟨#[]⟩, .string ⟨#[]⟩, .string ⟨#[]⟩, va2, .string ⟨#[]⟩, vw2, vl2, vm2, .string ⟨#[]⟩, .bool false, .bool false, .string ⟨#[]⟩, .string ⟨#[]⟩, .string ⟨#[]⟩, .int .i64 0, .int .i64 0, .string ⟨#[]⟩, .string ⟨#[]⟩], .int .i64 0]), d6 with | _, _ => _)
  go_wp2_with (first
    | ((with_reducible refine K.atO (.alloc 29) ?_); (fail_if_success (have := HA6)); refine wpL_alloc rfl _ rfl _ zeroMsg [.int .i64 0, .int .i64 0, .int .i64 0, .string ⟨#[]⟩, .string ⟨#[]⟩, .int .i64 0, .int .i64 0, .int .i64 0, .int .i64 0, .bool false, .int .i64 0, .slice none 0 0, .string ⟨#[]⟩, .string ⟨#[]⟩, .string ⟨#[]⟩, .slice none 0 0, .string ⟨#[]⟩, .slice none 0 0, .slice none 0 0, .slice none 0 0, .string ⟨#[]⟩, .bool false, .bool false, .string ⟨#[]⟩, .string ⟨#[]⟩, .string ⟨#[]⟩, .int .i64 0, .int .i64 0, .string ⟨#[]⟩, .string ⟨#[]⟩] rfl ?_; intro a6 HA6 FA6 SA6)
    | ((with_reducible refine K.atO (.store 29 _ _) ?_); (have := HA6); refine wpL_storeV rfl _ _ _ rfl d6.heap.size 0 (.agg #[.int .i64 2, .int .i64 74, .int .i64 0, .string (sb [97]), .string ⟨#[]⟩, .int .i64 0, .int .i64 0, .int .i64 0, .int .i64 0, .bool false, .int .i64 0, vk2, .string ⟨#[]⟩, .string ⟨#[]⟩, .string ⟨#[]⟩, va2, .string ⟨#[]⟩, vw2, vl2, vm2, .string ⟨#[]⟩, .bool false, .bool false, .string ⟨#[]⟩, .string ⟨#[]⟩, .string ⟨#[]⟩, .int .i64 0, .int .i64 0, .string ⟨#[]⟩, .string ⟨#[]⟩]) [.int .i64 2, .int .i64 74, .int .i64 0, .string (sb [97]), .string ⟨#[]⟩, .int .i64 0, .int .i64 0, .int .i64 0, .int .i64 0, .bool false, .int .i64 0, vk2, .string ⟨#[]⟩, .string ⟨#[]⟩, .string ⟨#[]⟩, va2, .string ⟨#[]⟩, vw2, vl2, vm2, .string ⟨#[]⟩, .bool false, .bool false, .string ⟨#[]⟩, .string ⟨#[]⟩, .string ⟨#[]⟩, .int .i64 0, .int .i64 0, .string ⟨#[]⟩, .string ⟨#[]⟩] rfl rfl rfl _ _ HA6.out (by simp) infoMsg (by intro u hu; exact HM6.out u hu) ?_; intro b6 HB6 FB6 SB6;
        have G6 : Hid (Fr No d6 b6) := hid (FA6.out.trans FB6.out (fun i e => .inr (by have e : i = d6.heap.size := e; omega))); refine Hid.out ?_)
    | fail)
  have FF6 := hid (F6.out.trans' G6.out)
  have HX6 : Hid (Blk b6 d6.heap.size 29 [.int .i64 2, .int .i64 74, .int .i64 0, .string (sb [97]), .string ⟨#[]⟩, .int .i64 0, .int .i64 0, .int .i64 0, .int .i64 0, .bool false, .int .i64 0, vk2, .string ⟨#[]⟩, .string ⟨#[]⟩, .string ⟨#[]⟩, va2, .string ⟨#[]⟩, vw2, vl2, vm2, .string ⟨#[]⟩, .bool false, .bool false, .string ⟨#[]⟩, .string ⟨#[]⟩, .string ⟨#[]⟩, .int .i64 0, .int .i64 0, .string ⟨#[]⟩, .string ⟨#[]⟩]) := hid HB6.out
  have HX5b := hid (HX56.out.fr G6.out id)
  have c0 : b6.cell? ⟨d5.heap.size, 0, none⟩ = some (.int .i64 0) := HX5b.out.cell 0
  have e0 : b6.cell? ⟨d6.heap.size, 0, none⟩ = some (.int .i64 2) := HX6.out.cell 0
  have e1 : b6.cell? ⟨d6.heap.size, 1, none⟩ = some (.int .i64 74) := HX6.out.cell 1
  have e3 : b6.cell? ⟨d6.heap.size, 3, none⟩ = some (.string (sb [97])) := HX6.out.cell 3
  clear HA6 FA6 SA6 HB6 FB6 SB6 G6
  refine hid ?_
  go_wp2_with (first
    | ((with_reducible refine K.atO (.binOp .eql 9 _ _ _) ?_); refine wpL_valZ (by rfl) (.bool true) ((exec_eqS _ _ _ rfl [48, 5, 2, 1, 1, 66, 0] [48, 5, 2, 1, 1, 66, 0] rfl rfl _).trans (by simp)) ?_)
    | ((with_reducible refine K.atO (.binOp .eql 9 _ _ _) ?_); refine wpL_valZ (by rfl) (.bool true) ((exec_eqS _ _ _ rfl [48, 14, 2, 1, 3, 96, 9, 2, 1, 3, 4, 1, 98, 128, 1, 99] [48, 14, 2, 1, 3, 96, 9, 2, 1, 3, 4, 1, 98, 128, 1, 99] rfl rfl _).trans (by simp)) ?_)
    | ((with_reducible refine K.atO (.binOp .eql 9 _ _ _) ?_); refine wpL_valZ (by rfl) (.bool true) ((exec_eqS _ _ _ rfl [48, 12, 2, 1, 4, 107, 7, 10, 1, 32, 4, 0, 4, 0] [48, 12, 2, 1, 4, 107, 7, 10, 1, 32, 4, 0, 4, 0] rfl rfl _).trans (by simp)) ?_)
    | ((with_reducible refine K.atO (.binOp .eql 9 _ _ _) ?_); refine wpL_valZ (by rfl) (.bool true) ((exec_eqS _ _ _ rfl [97] [97] rfl rfl _).trans (by simp)) ?_)
    | fail)
  go_ret
  exact ⟨rfl, FF6.out⟩
end Go.Proofs.Ythjmkfpdbbfcpaa.ME
