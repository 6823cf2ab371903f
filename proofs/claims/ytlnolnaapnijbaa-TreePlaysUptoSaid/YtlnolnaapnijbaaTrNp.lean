/-
  A node whose contents take 2 cells (palatine/tree.part): size, insert, remove.
-/
import Derived.Test.YtlnolnaapnijbaaTrMs
import Derived.Test.YtlnolnaapnijbaaTrMp
namespace Go.Proofs.Ytlnolnaapnijbaa.TR
set_option maxRecDepth 100000
open Go.RowKit K

theorem size_p (w : World) (b : Nat) (kv cv : Value) (ks : List S) (cs : List Value) (h : NdAt w 141 103 2 b kv cv ks cs) :
    Calls Try.prog 101 #[.pointer (some ⟨b, 0, none⟩)] w fun e w' => e = .returned (.int .i64 ks.length) ∧ w = w' := by
  obtain ⟨a, c, rfl, -, -⟩ := own_form h.rk
  have c0 : w.cell? ⟨b, 0, none⟩ = some (.slice a ks.length c) := h.blk.cell 0
  clear h
  generalize ks.length = n at *
  go_enter Try.func101, Try.ntmps101
  go_wp2
  go_ret
  exact ⟨rfl, rfl⟩

theorem info_nd_p : (Try.prog.info? 62).map (·.size) = some 1 ∧ (Try.prog.info? 139).map (·.size) = some 1 := ⟨by kernel_rfl, by kernel_rfl⟩
theorem cells_one {v : Value} (h : v.oneCell' = true) : v.cells = [v].toArray := by cases v <;> first | rfl | cases h
set_option maxHeartbeats 1000000 in
theorem remove_p (w : World) (b i j : Nat) (kv cv : Value) (ks : List S) (cs : List Value) (h : NdAt w 141 103 2 b kv cv ks cs) (hij : i ≤ j) (hj : j ≤ ks.length) (hn : ks.length ≤ 8796093022208) :
    Calls Try.prog 103 #[.pointer (some ⟨b, 0, none⟩), .int .i64 i, .int .i64 j] w fun e w' => e = .returned (.tuple #[]) ∧ NdPost w 141 103 2 b kv cv (ks.take i ++ ks.drop j) (cs.take (i * 2) ++ cs.drop (j * 2)) w' := by
  have hl : (ks.take i ++ ks.drop j).length = ks.length - (j - i) := by simp; omega
  have e1 : sv (ks.take i ++ ks.drop j) = (sv ks).take (i * 1) ++ (sv ks).drop (j * 1) := by simp [sv, List.map_take, List.map_drop]
  have E1 := hid e1; have HL := hid hl
  clear e1 hl
  have H := hid h
  have c0 : w.cell? ⟨b, 0, none⟩ = some kv := h.blk.cell 0
  clear h
  have HJ := hid hj; have HN := hid hn; have HI := hid hij
  clear hj hn hij
  go_enter Try.func103, Try.ntmps103
  go_wp2_with fail
  refine (delete_s w kv ks.length i j (sv ks) H.out.rk HI.out HJ.out HN.out (sv_one _)).mono ?_
  rintro e w1 ⟨kv', rfl, o1, f1, g1⟩
  have F1 := hid f1
  have G1 := hid g1
  have O1 : Hid (w1.ownsRow 0 9 1 kv' (ks.take i ++ ks.drop j).length (sv (ks.take i ++ ks.drop j))) := hid (by rw [HL.out, E1.out]; exact o1)
  clear o1 f1 g1
  have HB1 : Hid (Blk w1 b 141 [kv, cv]) := hid (H.out.blk.fr F1.out H.out.n1)
  go_wp2_with ((with_reducible show wpList _ _ _ ({ dst := _, op := .store 62 _ _, type := _, pos := _, after := _, guard := _ } :: _) _ _); refine wpL_storeV rfl _ _ _ rfl b 0 kv' [kv'] rfl rfl (cells_one (own_one O1.out)) _ _ HB1.out (by simp) info_nd_p.1 (by intro u hu; simp at hu; subst hu; exact own_one O1.out) ?_; intro w2 HB2 F2 HS2; have c1 : w2.cell? ⟨b, 1, none⟩ = some cv := HB2.out.cell 1)
  have R2 : Hid (w2.ownsRow 0 103 2 cv ks.length cs) := hid (own_fr (own_fr H.out.rc F1.out (fun g hg e => H.out.n3 g e hg)) F2.out (fun g hg (e : g = b) => H.out.n2 (by rw [hg, e])))
  refine (delete_p w2 cv ks.length i j cs R2.out HI.out HJ.out HN.out H.out.one).mono ?_
  rintro e w3 ⟨cv', rfl, o3, f3, g3⟩
  have F3 := hid f3
  have G3 := hid g3
  have O3 : Hid (w3.ownsRow 0 103 2 cv' (ks.take i ++ ks.drop j).length (cs.take (i * 2) ++ cs.drop (j * 2))) := hid (by rw [HL.out]; exact o3)
  clear o3 f3 g3
  have HB3 : Hid (Blk w3 b 141 [kv', cv]) := hid (Blk.fr (by have := HB2.out; simpa [spl] using this) F3.out H.out.n2)
  go_wp2_with ((with_reducible show wpList _ _ _ ({ dst := _, op := .store 139 _ _, type := _, pos := _, after := _, guard := _ } :: _) _ _); refine wpL_storeV rfl _ _ _ rfl b 1 cv' [cv'] rfl rfl (cells_one (own_one O3.out)) _ _ HB3.out (by simp) info_nd_p.2 (by intro u hu; simp at hu; subst hu; exact own_one O3.out) ?_; intro w4 HB4 F4 HS4)
  have HON : Hid (∀ u ∈ cs.take (i * 2) ++ cs.drop (j * 2), u.oneCell' = true) := hid (fun u hu => (List.mem_append.1 hu).elim (fun h => H.out.one u (List.mem_of_mem_take h)) (fun h => H.out.one u (List.mem_of_mem_drop h)))
  refine bodyPost_end (v := .tuple #[]) (by simp [results, Try.results103]) rfl ⟨rfl, ?_⟩
  have P := nd_turn H.out F1.out O1.out G1.out F2.out F3.out O3.out G3.out F4.out (by have := HB4.out; simpa [spl] using this) HON.out
  first | exact P | (simp only [Nat.mul_one] at P; exact P)

set_option maxHeartbeats 1000000 in
theorem insert_nd_p (w : World) (b i : Nat) (kv cv : Value) (ks : List S) (cs x : List Value) (s : S) (c : Value) (hc : c.cells = x.toArray) (hx : x.length = 2) (h1 : ∀ u ∈ x, u.oneCell' = true)
    (hcc : ∃ p q : Value, c = .agg #[p, q] ∧ p.oneCell' = true ∧ q.oneCell' = true)
    (h : NdAt w 141 103 2 b kv cv ks cs) (hi : i ≤ ks.length) (hn : ks.length + 1 ≤ 8796093022208) :
    Calls Try.prog 85 #[.pointer (some ⟨b, 0, none⟩), .int .i64 i, .string s, c] w fun e w' => e = .returned (.tuple #[]) ∧ NdPost w 141 103 2 b kv cv (ks.take i ++ s :: ks.drop i) (cs.take (i * 2) ++ x ++ cs.drop (i * 2)) w' := by
  have hl : (ks.take i ++ s :: ks.drop i).length = ks.length + 1 := by simp; omega
  have e1 : sv (ks.take i ++ s :: ks.drop i) = (sv ks).take (i * 1) ++ [.string s] ++ (sv ks).drop (i * 1) := by simp [sv, List.map_take, List.map_drop]
  have E1 := hid e1; have HL := hid hl; have HX := hid hx; have H1 := hid h1; have HC := hid hc
  clear e1 hl hx h1 hc
  have H := hid h
  have c0 : w.cell? ⟨b, 0, none⟩ = some kv := h.blk.cell 0
  clear h
  obtain ⟨i9, I9, Z9, S9, B9⟩ := infoz_s
  have J9 := hid I9; have Y9 := hid Z9; have X9 := hid S9
  clear I9 Z9 S9 B9
  obtain ⟨ie, Ie, Ze, Se, Be⟩ := infoz_p
  have Je := hid Ie; have Ye := hid Ze; have Xe := hid Se
  clear Ie Ze Se Be
  have HN := hid hn; have HI := hid hi
  clear hn hi
  obtain ⟨p, q, rfl, hp, hq⟩ := hcc
  go_enter Try.func85, Try.ntmps85
  go_wp2_with (first
    | ((with_reducible show wpList _ _ _ ({ dst := _, op := .box 103 _, type := _, pos := _, after := _, guard := _ } :: _) _ _); refine wpL_box rfl _ _ rfl (.agg #[p, q]) rfl x HC.out ?_; intro w0 HB0 F0 HS0; have c0' : w0.cell? ⟨b, 0, none⟩ = some kv := F0.out.cell c0 id)
    | ((with_reducible show wpList _ _ _ ({ dst := _, op := .buildSlice 62 _ _, type := _, pos := _, after := _, guard := _ } :: _) _ _); refine wpL_buildOne rfl _ 9 _ rfl i9 _ rfl J9.out Y9.out (by rw [X9.out]; decide) (by rw [X9.out]; decide) _ [.string s] rfl rfl (by rw [X9.out]; rfl) ?_; intro wa HBa Fa HSa))
  have hlt : kv.ownBlock ≠ some w0.heap.size := fun e => by have := own_lt H.out.rk _ e; have := F0.out.size; omega
  refine (insert_s wa kv ks.length i (sv ks) [.string s] w0.heap.size (own_fr (own_fr H.out.rk F0.out (fun _ _ e => e)) Fa.out (fun _ _ e => e)) HI.out HBa.out rfl (by intro u hu; simp at hu; subst hu; rfl) (sv_one _) hlt HN.out).mono ?_
  rintro e w1 ⟨kv', rfl, o1, f1, g1⟩
  have F1 : Hid (Fr (Ob kv) w w1) := hid ((F0.out.no.trans' Fa.out.no).trans' f1)
  have G1 : Hid (∀ g, kv'.ownBlock = some g → kv.ownBlock = some g ∨ w.heap.size ≤ g) := hid (fun g hg => (g1 g hg).imp id (fun e => by have := F0.out.size; have := Fa.out.size; omega))
  have O1 : Hid (w1.ownsRow 0 9 1 kv' (ks.take i ++ s :: ks.drop i).length (sv (ks.take i ++ s :: ks.drop i))) := hid (by rw [HL.out, E1.out]; exact o1)
  have HX1 : Hid (Blk w1 w.heap.size 103 x) := hid ((HB0.out.fr Fa.out id).fr f1 (fun e => by have e' : kv.ownBlock = some w.heap.size := e; have := own_lt H.out.rk _ e'; omega))
  clear o1 f1 g1
  have HB1 : Hid (Blk w1 b 141 [kv, cv]) := hid (H.out.blk.fr F1.out H.out.n1)
  go_wp2_with (first
    | ((with_reducible show wpList _ _ _ ({ dst := _, op := .store 62 _ _, type := _, pos := _, after := _, guard := _ } :: _) _ _); refine wpL_storeV rfl _ _ _ rfl b 0 kv' [kv'] rfl rfl (cells_one (own_one O1.out)) _ _ HB1.out (by simp) info_nd_p.1 (by intro u hu; simp at hu; subst hu; exact own_one O1.out) ?_; intro w2 HB2 F2 HS2; have c1 : w2.cell? ⟨b, 1, none⟩ = some cv := HB2.out.cell 1))
  have R2 : Hid (w2.ownsRow 0 103 2 cv ks.length cs) := hid (own_fr (own_fr H.out.rc F1.out (fun g hg e => H.out.n3 g e hg)) F2.out (fun g hg (e : g = b) => H.out.n2 (by rw [hg, e])))
  have HX2 : Hid (Blk w2 w.heap.size 103 x) := hid (HX1.out.fr F2.out (fun e => by have e' : w.heap.size = b := e; have := H.out.blk.lt; omega))
  simp only [Act.put, List.setIfInBounds_toArray, List.set_cons_zero, List.set_cons_succ]
  refine wpD_region (R := [(4, fun w' => w'.cell? ⟨b, 1, none⟩ = some cv), (6, fun w' => w'.rangeAt w.heap.size 0 [p, q])]) (Facts.cons_hold (w := w2.drew) c1 (Facts.cons_hold (HX2.out.drew.range 0 [p, q] (by have := HC.out; simp [Value.cells] at this; subst this; rfl)) (Facts.nil_hold _))) (by kernel_rfl) 12 rfl ?_
  have hold := Facts.cons_hold (k := 4) (S := fun w' => w'.cell? ⟨b, 1, none⟩ = some cv) (w := w2.drew) c1 (Facts.cons_hold (k := 6) (S := fun w' => w'.rangeAt w.heap.size 0 [p, q]) (HX2.out.drew.range 0 [p, q] (by have := HC.out; simp [Value.cells] at this; subst this; rfl)) (Facts.nil_hold _))
  (refine wpD_plain 0 (v := ?_) rfl (by kernel_rfl) (by kernel_rfl) (by kernel_rfl) (fun _ _ _ h => h) (by rfl) ?_ (by assumption) ?_; rotate_left; (intro _w; go_simp; try with_reducible rfl); simp only [Act.put, List.setIfInBounds_toArray, List.set_cons_zero, List.set_cons_succ])
  (refine wpD_plain 1 (v := ?_) rfl (by kernel_rfl) (by kernel_rfl) (by kernel_rfl) (fun _ _ _ h => h) (by rfl) ?_ (by assumption) ?_; rotate_left; (intro _w; go_simp; try with_reducible rfl); simp only [Act.put, List.setIfInBounds_toArray, List.set_cons_zero, List.set_cons_succ])
  (refine wpD_plain 2 (v := ?_) rfl (by kernel_rfl) (by kernel_rfl) (by kernel_rfl) (fun _ _ _ h => h) (by rfl) ?_ (by assumption) ?_; rotate_left; (intro _w; go_simp; try with_reducible rfl); simp only [Act.put, List.setIfInBounds_toArray, List.set_cons_zero, List.set_cons_succ])
  (refine wpD_plain 3 (v := ?_) rfl (by kernel_rfl) (by kernel_rfl) (by kernel_rfl) (fun _ _ _ h => h) (by rfl) ?_ (by assumption) ?_; rotate_left; (intro _w; go_simp; try with_reducible rfl); simp only [Act.put, List.setIfInBounds_toArray, List.set_cons_zero, List.set_cons_succ])
  (refine wpD_take 4 _ rfl (by kernel_rfl) (by kernel_rfl) (by kernel_rfl) (fun _ _ _ h => h) List.mem_cons_self (by rfl) (v := ?_) ?_ (by assumption) ?_; rotate_left; (intro _w _hw; go_simp; try with_reducible rfl); simp only [Act.put, List.setIfInBounds_toArray, List.set_cons_zero, List.set_cons_succ])
  (refine wpD_plain 5 (v := ?_) rfl (by kernel_rfl) (by kernel_rfl) (by kernel_rfl) (fun _ _ _ h => h) (by rfl) ?_ (by assumption) ?_; rotate_left; (intro _w; go_simp; try with_reducible rfl); simp only [Act.put, List.setIfInBounds_toArray, List.set_cons_zero, List.set_cons_succ])
  (refine wpD_take 6 _ rfl (by kernel_rfl) (by kernel_rfl) (by kernel_rfl) (fun _ _ _ h => h) (List.mem_cons_of_mem _ List.mem_cons_self) (by rfl) (exec_load _ _ rfl w.heap.size 0 rfl _ _ rfl rfl info_p) (by assumption) ?_; simp only [Act.put, List.setIfInBounds_toArray, List.set_cons_zero, List.set_cons_succ])
  clear hold
  refine wpD_only 7 [(4, fun w' => w'.cell? ⟨b, 1, none⟩ = some cv)] rfl (by kernel_rfl) (by kernel_rfl) (by rfl) (fun K7 hK7 => ?_)
  refine wp_buildOne 139 103 _ rfl ie _ rfl Je.out Ye.out (by rw [Xe.out]; decide) (by rw [Xe.out]; decide) _ x rfl HC.out (by rw [Xe.out]; exact HX.out) ?_
  intro w2b HBb Fb HSb
  replace Fb : Hid (Fr No w2 w2b) := hid ((Fr.refl No w2).drew.trans' Fb.out)
  refine hK7 _ _ (Facts.cons_hold (Fb.out.cell c1 id) (Facts.nil_hold _)) ?_
  simp only [Act.put, List.setIfInBounds_toArray, List.set_cons_zero, List.set_cons_succ]
  clear hK7 K7
  refine wpD_only 8 [] rfl (by kernel_rfl) (by kernel_rfl) (by rfl) (fun K8 hK8 => ?_)
  refine wp_call (.func 108) _ _ rfl 108 [] rfl (fun vs w => by kernel_rfl) [cv, .int .i64 i, .slice (some ⟨w2.drew.heap.size, 0, none⟩) 1 1] (by rfl) ?_
  have hlt2 : cv.ownBlock ≠ some w2.heap.size := fun e => by have := own_lt R2.out _ e; omega
  refine (insert_p w2b cv ks.length i cs x w2.heap.size (own_fr R2.out Fb.out (fun _ _ e => e)) HI.out HBb.out HX.out H1.out H.out.one hlt2 HN.out).mono ?_
  rintro e w3 ⟨cv', rfl, o3, f3, g3⟩
  have F3 : Hid (Fr (Ob cv) w2 w3) := hid (Fb.out.no.trans' f3)
  have G3 : Hid (∀ g, cv'.ownBlock = some g → cv.ownBlock = some g ∨ w2.heap.size ≤ g) := hid (fun g hg => (g3 g hg).imp id (fun e => by have := Fb.out.size; omega))
  have O3 : Hid (w3.ownsRow 0 103 2 cv' (ks.take i ++ s :: ks.drop i).length (cs.take (i * 2) ++ x ++ cs.drop (i * 2))) := hid (by rw [HL.out]; exact o3)
  clear o3 f3 g3
  have HB3 : Hid (Blk w3 b 141 [kv', cv]) := hid (Blk.fr (by have := HB2.out; simpa [spl] using this) F3.out H.out.n2)
  have HON : Hid (∀ u ∈ cs.take (i * 2) ++ x ++ cs.drop (i * 2), u.oneCell' = true) := hid (fun u hu => (List.mem_append.1 hu).elim (fun h => (List.mem_append.1 h).elim (fun h => H.out.one u (List.mem_of_mem_take h)) (H1.out u)) (fun h => H.out.one u (List.mem_of_mem_drop h)))
  refine ⟨_, rfl, hK8 _ _ (Facts.nil_hold _) ?_⟩
  simp only [Act.put, List.setIfInBounds_toArray, List.set_cons_zero, List.set_cons_succ]
  clear hK8 K8
  have hold := Facts.nil_hold w3
  (refine wpD_plain 9 (v := ?_) rfl (by kernel_rfl) (by kernel_rfl) (by kernel_rfl) (fun _ _ _ h => h) (by rfl) ?_ (by assumption) ?_; rotate_left; (intro _w; go_simp; try with_reducible rfl); simp only [Act.put, List.setIfInBounds_toArray, List.set_cons_zero, List.set_cons_succ])
  (refine wpD_plain 10 (v := ?_) rfl (by kernel_rfl) (by kernel_rfl) (by kernel_rfl) (fun _ _ _ h => h) (by rfl) ?_ (by assumption) ?_; rotate_left; (intro _w; go_simp; try with_reducible rfl); simp only [Act.put, List.setIfInBounds_toArray, List.set_cons_zero, List.set_cons_succ])
  clear hold
  refine wpD_only 11 [] rfl (by kernel_rfl) (by kernel_rfl) (by rfl) (fun K11 hK11 => ?_)
  refine wp_storeV _ _ _ rfl b 1 cv' [cv'] rfl rfl (cells_one (own_one O3.out)) _ _ HB3.out (by simp) info_nd_p.2 (by intro u hu; simp at hu; subst hu; exact own_one O3.out) ?_
  intro w4 HB4 F4 HS4
  refine hK11 _ _ (Facts.nil_hold _) ?_
  clear hK11 K11
  refine wpD_done (by kernel_rfl) ?_ _
  simp only [Act.put, List.setIfInBounds_toArray, List.set_cons_zero, List.set_cons_succ]
  go_wp2
  refine bodyPost_end (v := .tuple #[]) (by simp [results, Try.results85]) rfl ⟨rfl, ?_⟩
  have P := nd_turn H.out F1.out O1.out G1.out F2.out F3.out O3.out G3.out F4.out (by have := HB4.out; simpa [spl] using this) HON.out
  first | exact P | (simp only [Nat.mul_one, List.append_assoc] at P ⊢; exact P)
end Go.Proofs.Ytlnolnaapnijbaa.TR
