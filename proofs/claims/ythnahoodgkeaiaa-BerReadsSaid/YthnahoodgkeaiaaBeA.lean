/-
  Package ber: Decode and Head.
-/
import Derived.Test.YthnahoodgkeaiaaBeZ
set_option linter.unusedVariables false
set_option linter.unusedSimpArgs false
namespace Go.Proofs.Ythnahoodgkeaiaa.BE
set_option maxRecDepth 100000
open Go.RowKit K

/-- No element. -/
def noNd : Nd := .mk 0 [] []
/-- What Decode tells: the element, the number of its bytes, the error. -/
def decN (s : B) : Nd × Nat × Nat := match rd 8 s with
  | .error k => (noNd, 0, k)
  | .ok (n, u) => (n, u, 0)
def Decodes (s : B) (w : World) (e : Ending) (w' : World) : Prop := Fr No w w' ∧ ∃ cs, e = .returned (.tuple #[.agg cs.toArray, .int .i64 ((decN s).2.1 : Int), .int .i64 ((decN s).2.2 : Int)]) ∧ NdAt 8 (Since w.heap.size) w' (decN s).1 cs
def zN : List Value := [.int .i64 0, .string ⟨#[]⟩, .slice none 0 0]
def DecP (s : B) (pn pu : Nat) (o : Option Nat) (w1 w2 : World) : Prop := Fr (fun k => k = pn ∨ k = pu) w1 w2 ∧ o.getD 0 = (decN s).2.2 ∧ ∃ cs, Blk w2 pn 24 cs ∧ Blk w2 pu 3 [.int .i64 ((decN s).2.1 : Int)] ∧ NdAt 8 (Since w1.heap.size) w2 (decN s).1 cs
theorem no_nd (w : World) (N : Nat) : NdAt 8 (Since N) w noNd zN := leaf_nd 7 N w 0 [] (by omega) (by simp)
/-- Three results, of which the first two lie in memory. -/
theorem ret_cct {P : Program} {a : Act} {w : World} {fn : Func} {R : Ending → World → Prop} {p q r : Tmp} {ty ti : TypeId} {b c : Nat} {t t2 : TypeId} {cs : List Value} {x : Int} (hr : fn.results = #[.cell p ty, .cell q ti, .tmp r]) (d : TypeDesc) (hp : a.tmps.getD p undef = .pointer (some ⟨b, 0, none⟩)) (hB : Blk w b t cs)
    (hq : a.tmps.getD q undef = .pointer (some ⟨c, 0, none⟩)) (hC : Blk w c t2 [.int .i64 x]) (hui : P.underlying ti = some (.int .i64)) (hii : (P.info? ti).map (·.size) = some 1)
    (hu : P.underlying ty = some d) (hd : (match d with | .struct _ | .array _ _ => true | _ => false) = true) (hi : (P.info? ty).map (·.size) = some cs.length) (hdf : a.defers = [])
    (h : R (.returned (.tuple #[.agg cs.toArray, .int .i64 x, a.tmps.getD r undef])) w) : bodyPost P fn R .ret a w := by
  refine bodyPost_ret ?_ hdf h
  have hp' : a.tmps[p]?.getD undef = .pointer (some ⟨b, 0, none⟩) := by simpa using hp
  have hq' : a.tmps[q]?.getD undef = .pointer (some ⟨c, 0, none⟩) := by simpa using hq
  have hc := hC.cell 0
  simp only [List.getElem?_cons_zero] at hc
  simp [results, hr, hp', hq', asAddr, run_loadVar_row w b t ty cs.toArray (0, 0) d hB hu hd (by simpa using hi)]
  simp [loadVar, isAgg, run_underlying hui, hc, go_sem]
set_option maxHeartbeats 4000000 in
theorem decode_any (s : B) (w : World) (hs : s.length ≤ 281474976710656) : Calls Try.prog 15 #[.string (sb s)] w (Decodes s w) := by
  have HS := hid hs
  obtain ⟨ss, hss⟩ : ∃ ss, sb s = ss := ⟨_, rfl⟩
  rw [hss]
  have HSS := hid hss
  clear hs hss
  have hmf : ∀ (fn : Fn) (first cap : Array Value) (w : World), (Instr.makeFunc fn first cap).run Try.prog w = .ok (.func fn first cap) w := fun _ _ _ _ => rfl
  go_enter Try.func15, Try.ntmps15
  go_wp2_with (first
    | ((with_reducible show wpList _ _ _ (⟨_, .box 9 _, _, _, _, _⟩ :: _) _ _); refine wpL_box rfl _ _ rfl _ rfl [.string ss] rfl ?_; intro w1 HB1 F1 HS1)
    | ((with_reducible show wpList _ _ _ (⟨_, .alloc 24, _, _, _, _⟩ :: _) _ _); refine wpL_alloc rfl _ rfl _ zeroN zN rfl ?_; intro w2 HB2 F2 HS2)
    | ((with_reducible show wpList _ _ _ (⟨_, .alloc 3, _, _, _, _⟩ :: _) _ _); refine wpL_alloc rfl _ rfl _ zeroI [.int .i64 0] rfl ?_; intro w3 HB3 F3 HS3))
  have f13 := F2.out.trans' F3.out
  have hf3 : Fr No w w3 := F1.out.trans' f13
  have hs1 := HS1.out; have hs2 := HS2.out; have hs3 := HS3.out
  refine (caught_any 30 [.pointer (some ⟨w.heap.size, 0, none⟩), .pointer (some ⟨w1.heap.size, 0, none⟩), .pointer (some ⟨w2.heap.size, 0, none⟩)] (DecP s w1.heap.size w2.heap.size) (fun k => k = w1.heap.size ∨ k = w2.heap.size) w3 (by omega) (fun vs w => by kernel_rfl) (fun o a b h => h.1) ?_).mono ?_
  · intro v0 f0 hs0
    have hb1 : Blk v0 w.heap.size 9 [.string ss] := (HB1.out.fr f13 id).fr f0 id
    have HBn : Hid (Blk v0 w1.heap.size 24 zN) := hid ((HB2.out.fr F3.out id).fr f0 id)
    have HBu : Hid (Blk v0 w2.heap.size 3 [.int .i64 0]) := hid (HB3.out.fr f0 id)
    have c1 : v0.cell? ⟨w.heap.size, 0, none⟩ = some (.string ss) := hb1.cell 0
    have HZ := hid (show w1.heap.size ≠ w2.heap.size ∧ w1.heap.size < v0.heap.size ∧ w2.heap.size < v0.heap.size by omega)
    clear hb1 f0 hs0 f13 hf3 hs1 hs2 hs3
    show Calls Try.prog _ #[.pointer (some ⟨w.heap.size, 0, none⟩), .pointer (some ⟨w1.heap.size, 0, none⟩), .pointer (some ⟨w2.heap.size, 0, none⟩)] v0 _
    go_enter Try.func30, Try.ntmps30
    go_wp2_with fail
    rw [← HSS.out]
    refine (read_any 8 (Nat.le_refl _) s v0 HS.out).mono ?_
    rintro e v1 ⟨f1, hm⟩
    have HF1 := hid f1
    have HBn1 := hid (HBn.out.fr f1 id); have HBu1 := hid (HBu.out.fr f1 id)
    cases hr : rd 8 s with
    | error k =>
      rw [hr] at hm
      simp only at hm
      subst hm
      have hde : decN s = (noNd, 0, k) := by unfold decN; rw [hr]
      refine ⟨rfl, .inr ⟨k, rfl, f1.no, by rw [hde]; rfl, zN, HBn1.out, by rw [hde]; exact HBu1.out, by rw [hde]; exact no_nd _ _⟩⟩
    | ok p =>
      obtain ⟨n, u⟩ := p
      rw [hr] at hm
      simp only at hm
      obtain ⟨cs, rfl, hn⟩ := hm
      obtain ⟨x, y, z, hcs⟩ := box_kid cs hn.len
      subst hcs
      have hde : decN s = (n, u, 0) := by unfold decN; rw [hr]
      have HDE := hid hde; have HN := hid hn
      clear hr hn hde f1 c1
      go_wp2_with (first
        | ((with_reducible show wpList _ _ _ (⟨_, .store 24 _ _, _, _, _, _⟩ :: _) _ _); refine wpL_storeV rfl _ _ _ rfl w1.heap.size 0 (.agg #[x, y, z]) [x, y, z] rfl rfl rfl _ _ HBn1.out (by simp [zN]) infoN (by intro u hu; exact HN.out.one u hu) ?_; intro v2 HB4 F4 HS4;
            have HBu2 : Hid (Blk v2 w2.heap.size 3 [.int .i64 0]) := hid (HBu1.out.fr F4.out (fun e => HZ.out.1 e.symm)))
        | ((with_reducible show wpList _ _ _ (⟨_, .store 3 _ _, _, _, _, _⟩ :: _) _ _); refine wpL_setV rfl _ _ _ rfl w2.heap.size 0 (.int .i64 (u : Int)) rfl rfl rfl rfl _ _ HBu2.out (by simp) infoI ?_; intro v3 HB5 F5 HS5))
      go_end0
      have hb4 : Blk v2 w1.heap.size 24 [x, y, z] := by have h := HB4.out; rwa [spl_all (by simp [zN])] at h
      refine .inl ⟨rfl, (HF1.out.no.trans' (F4.out.mono fun k hk => .inl hk)).trans' (F5.out.mono fun k hk => .inr hk), by rw [HDE.out]; rfl, [x, y, z], hb4.fr F5.out (fun e => HZ.out.1 e), by rw [HDE.out]; exact HB5.out, ?_⟩
      rw [HDE.out]
      refine NdAt.fr F5.out (fun k hk _ e => ?_) (NdAt.fr F4.out (fun k hk _ e => ?_) HN.out)
      · have h : v0.heap.size ≤ k := hk; have e : k = w2.heap.size := e; have := HZ.out; omega
      · have h : v0.heap.size ≤ k := hk; have e : k = w1.heap.size := e; have := HZ.out; omega
  · rintro e w6 ⟨o, w4, w5, rfl, f4, hs4, ⟨f5, hoe, cs, hbn, hbu, hn⟩, f6⟩
    obtain ⟨x, y, z, hcs⟩ := box_kid cs hn.len
    subst hcs
    have hpn : Blk w6 w1.heap.size 24 [x, y, z] := hbn.fr f6 (fun e => by have e : w1.heap.size = w3.heap.size := e; omega)
    have hpu : Blk w6 w2.heap.size 3 [.int .i64 ((decN s).2.1 : Int)] := hbu.fr f6 (fun e => by have e : w2.heap.size = w3.heap.size := e; omega)
    have hn6 : NdAt 8 (Since w4.heap.size) w6 (decN s).1 [x, y, z] := NdAt.fr f6 (fun k hk _ e => by have h : w4.heap.size ≤ k := hk; have e : k = w3.heap.size := e; omega) hn
    have hff : Fr No w w6 := ((hf3.trans' f4).trans f5 (fun k hk => .inr (by have := F1.out.size; have h : k = w1.heap.size ∨ k = w2.heap.size := hk; omega))).trans f6 (fun k hk => .inr (by have e : k = w3.heap.size := hk; have := hf3.size; omega))
    have HPN := hid hpn; have HPU := hid hpu; have HN6 := hid hn6; have HFF := hid hff
    have HW4 := hid (show w.heap.size ≤ w4.heap.size ∧ w1.heap.size ≠ w2.heap.size ∧ w1.heap.size < w4.heap.size ∧ w2.heap.size < w4.heap.size by have := hf3.size; omega)
    have HLT := hid (show w.heap.size ≤ w1.heap.size ∧ w.heap.size ≤ w2.heap.size by omega)
    rw [hoe]
    obtain ⟨er, her⟩ : ∃ er, (decN s).2.2 = er := ⟨_, rfl⟩
    obtain ⟨us, hus⟩ : ∃ us, (decN s).2.1 = us := ⟨_, rfl⟩
    rw [hus] at HPU
    rw [her]
    have HER := hid her; have HUS := hid hus
    clear f4 hs4 f5 hoe hbn hbu hn f6 hpn hpu hn6 hff f13 hf3 hs1 hs2 hs3 HB1 HB2 HB3 her hus
    have k2 : w6.rangeAt w1.heap.size 0 [x, y, z] := HPN.out.range 0 _ rfl
    have k3 : w6.cell? ⟨w2.heap.size, 0, none⟩ = some (.int .i64 (us : Int)) := HPU.out.cell 0
    show (match Ending.returned (.int .i64 (er : Int)), w6 with | _, _ => _)
    go_wp2_with fail
    have hold : Facts.hold [(0, fun w' => w'.rangeAt w1.heap.size 0 [x, y, z]), (1, fun w' => w'.cell? ⟨w2.heap.size, 0, none⟩ = some (.int .i64 (us : Int)))] w6.drew := Facts.cons_hold k2 (Facts.cons_hold k3 (Facts.nil_hold _))
    refine wpD_region hold (by kernel_rfl) 6 rfl ?_
    (refine wpD_take 0 _ rfl (by kernel_rfl) (by kernel_rfl) (by kernel_rfl) (fun _ _ _ h => h) List.mem_cons_self (by rfl) (exec_load _ _ rfl w1.heap.size 0 rfl _ _ rfl rfl infoN) (by assumption) ?_; simp only [Act.put, List.setIfInBounds_toArray, List.set_cons_zero, List.set_cons_succ])
    (refine wpD_take 1 _ rfl (by kernel_rfl) (by kernel_rfl) (by kernel_rfl) (fun _ _ _ h => h) (List.mem_cons_of_mem _ List.mem_cons_self) (by rfl) (v := ?_) ?_ (by assumption) ?_; rotate_left; (intro _w _hw; go_simp; try with_reducible rfl); simp only [Act.put, List.setIfInBounds_toArray, List.set_cons_zero, List.set_cons_succ])
    (refine wpD_plain 2 (v := ?_) rfl (by kernel_rfl) (by kernel_rfl) (by kernel_rfl) (fun _ _ _ h => h) (by rfl) ?_ (by assumption) ?_; rotate_left; (intro _w; go_simp; try with_reducible rfl); simp only [Act.put, List.setIfInBounds_toArray, List.set_cons_zero, List.set_cons_succ])
    clear hold
    have h1s : ∀ u ∈ [x, y, z], u.oneCell' = true := HN6.out.one
    refine wpD_only 3 [(1, fun w' => w'.cell? ⟨w2.heap.size, 0, none⟩ = some (.int .i64 (us : Int)))] rfl (by kernel_rfl) (by kernel_rfl) (by rfl) (fun K3 hK3 => ?_)
    refine wp_storeV _ _ _ rfl w1.heap.size 0 (.agg #[x, y, z]) [x, y, z] rfl rfl rfl _ _ HPN.out (by simp) infoN h1s ?_
    intro w7 HB7 F7 HS7
    have f7 : Fr (fun k => k = w1.heap.size) w6 w7 := (Fr.refl _ w6).drew.trans' F7.out
    have hb7 : Blk w7 w1.heap.size 24 [x, y, z] := by have h := HB7.out; rwa [spl_all (by simp)] at h
    have hu7 : Blk w7 w2.heap.size 3 [.int .i64 (us : Int)] := HPU.out.fr f7 (fun e => HW4.out.2.1 e.symm)
    refine hK3 _ _ (Facts.cons_hold (hu7.cell 0) (Facts.nil_hold _)) ?_
    clear hK3 K3
    simp only [Act.put, List.setIfInBounds_toArray, List.set_cons_zero, List.set_cons_succ]
    refine wpD_only 4 [] rfl (by kernel_rfl) (by kernel_rfl) (by rfl) (fun K4 hK4 => ?_)
    refine wp_storeV _ _ _ rfl w2.heap.size 0 (.int .i64 (us : Int)) [.int .i64 (us : Int)] rfl rfl rfl _ _ hu7 (by simp) infoI (by intro u hu; simp at hu; rcases hu with rfl; rfl) ?_
    intro w8 HB8 F8 HS8
    refine hK4 _ _ (Facts.nil_hold _) ?_
    clear hK4 K4
    simp only [Act.put, List.setIfInBounds_toArray, List.set_cons_zero, List.set_cons_succ]
    have hb8 : Blk w8 w1.heap.size 24 [x, y, z] := hb7.fr F8.out (fun e => HW4.out.2.1 e)
    have hu8 : Blk w8 w2.heap.size 3 [.int .i64 (us : Int)] := by simpa [spl] using HB8.out
    have hold : Facts.hold [] w8 := Facts.nil_hold _
    (refine wpD_plain 5 (v := ?_) rfl (by kernel_rfl) (by kernel_rfl) (by kernel_rfl) (fun _ _ _ h => h) (by rfl) ?_ (by assumption) ?_; rotate_left; (intro _w; go_simp; try with_reducible rfl); simp only [Act.put, List.setIfInBounds_toArray, List.set_cons_zero, List.set_cons_succ])
    clear hold
    refine wpD_done (by kernel_rfl) ?_ _
    go_wp2_with fail
    refine ret_cct rfl _ rfl hb8 rfl hu8 Try.underlying3 infoI rfl rfl (by simpa using infoN) rfl ?_
    have hlt := HLT.out
    have hf8 : Fr No w w8 := (HFF.out.trans f7 (fun k hk => .inr (by have e : k = w1.heap.size := hk; omega))).trans F8.out (fun k hk => .inr (by have e : k = w2.heap.size := hk; omega))
    refine ⟨hf8, [x, y, z], by rw [HER.out, HUS.out]; rfl, ?_⟩
    have hw4 := HW4.out
    refine NdAt.mono (fun k _ hk => Nat.le_trans hw4.1 hk) (NdAt.fr F8.out (fun k hk _ e => ?_) (NdAt.fr f7 (fun k hk _ e => ?_) HN6.out))
    · have h : w4.heap.size ≤ k := hk; have e : k = w2.heap.size := e; omega
    · have h : w4.heap.size ≤ k := hk; have e : k = w1.heap.size := e; omega
end Go.Proofs.Ythnahoodgkeaiaa.BE
