/-
  Package ber: Right and Encode.
-/
import Derived.Test.YtoikiokcpakokaaBeV
set_option linter.unusedVariables false
set_option linter.unusedSimpArgs false
namespace Go.Proofs.Ytoikiokcpakokaa.BE
set_option maxRecDepth 100000
open Go.RowKit K

/-- What check leaves. -/
def Checks (n : Nd) (w : World) (e : Ending) (w' : World) : Prop := Fr No w w' ∧ ((errN n = 0 ∧ e = .returned (.tuple #[])) ∨ (errN n ≠ 0 ∧ e = .panicked [fl (errN n)]))
set_option maxHeartbeats 2000000 in
theorem check_any (M N : Nat) (n : Nd) (cs : List Value) (w : World) (hn : NdAt M (Lo N) w n cs) (hN : N ≤ w.heap.size) : Calls Try.prog 26 #[.agg cs.toArray] w (Checks n w) := by
  obtain ⟨x, y, z, hcs⟩ := box_kid cs hn.len
  subst hcs
  have HN := hid hn; have HNN := hid hN
  clear hn hN
  go_enter Try.func26, Try.ntmps26
  go_wp2_with (first
    | ((with_reducible show wpList _ _ _ (⟨_, .box 40 _, _, _, _, _⟩ :: _) _ _); refine wpL_box rfl _ _ rfl _ rfl [x, y, z] rfl ?_; intro w1 HB1 F1 HS1)
    | ((with_reducible show wpList _ _ _ (⟨_, .load 40 _, _, _, _, _⟩ :: _) _ _); refine wpL_load rfl _ _ rfl w.heap.size 0 rfl [x, y, z] _ (HB1.out.range 0 _ rfl) rfl rfl infoN ?_))
  refine (checkDepth_any 8 M N n [x, y, z] w1 (Nat.le_refl _) (HN.out.no F1.out) (Nat.le_trans HNN.out F1.out.size)).mono ?_
  rintro e w2 ⟨f2, ⟨hd, rfl⟩ | ⟨hd, rfl⟩⟩
  · have HD := hid hd
    have hf := F1.out.trans' f2
    have HF := hid hf
    have HB2 := hid (HB1.out.fr f2 id)
    clear hd f2 hf
    go_wp2_with ((with_reducible show wpList _ _ _ (⟨_, .load 40 _, _, _, _, _⟩ :: _) _ _); refine wpL_load rfl _ _ rfl w.heap.size 0 rfl [x, y, z] _ (HB2.out.range 0 _ rfl) rfl rfl infoN ?_)
    refine (checkTags_any 8 M N n [x, y, z] w2 HD.out (HN.out.no HF.out) (Nat.le_trans HNN.out HF.out.size)).mono ?_
    rintro e w3 ⟨f3, ⟨hs, rfl⟩ | ⟨hs, rfl⟩⟩
    · have HS := hid hs
      have hf := HF.out.trans' f3
      have HF3 := hid hf
      have HB3 := hid (HB2.out.fr f3 id)
      clear hs f3 hf
      go_wp2_with ((with_reducible show wpList _ _ _ (⟨_, .load 40 _, _, _, _, _⟩ :: _) _ _); refine wpL_load rfl _ _ rfl w.heap.size 0 rfl [x, y, z] _ (HB3.out.range 0 _ rfl) rfl rfl infoN ?_)
      refine (cb_any 8 M N n [x, y, z] w3 HD.out (HN.out.no HF3.out) (Nat.le_trans HNN.out HF3.out.size)).mono ?_
      rintro e w4 ⟨f4, ⟨ht, rfl⟩ | ⟨ht, rfl⟩⟩
      · go_wp2_with fail
        go_end0
        exact ⟨HF3.out.trans' f4, .inl ⟨err_zero.2 ⟨HD.out, HS.out, ht⟩, rfl⟩⟩
      · have he : errN n = 2 := by unfold errN; rw [if_neg (by rw [HD.out]; simp), if_neg (by rw [HS.out]; simp), if_pos ht]
        exact ⟨rfl, HF3.out.trans' f4, .inr ⟨by rw [he]; decide, by rw [he]⟩⟩
    · have he : errN n = 90 := by unfold errN; rw [if_neg (by rw [HD.out]; simp), if_pos hs]
      exact ⟨rfl, HF.out.trans' f3, .inr ⟨by rw [he]; decide, by rw [he]⟩⟩
  · have he : errN n = 91 := by unfold errN; rw [if_pos hd]
    exact ⟨rfl, F1.out.trans' f2, .inr ⟨by rw [he]; decide, by rw [he]⟩⟩
/-- What Right's closure leaves. -/
def RightP (n : Nd) (o : Option Nat) (w w' : World) : Prop := Fr No w w' ∧ o.getD 0 = errN n
set_option maxHeartbeats 2000000 in
theorem right_any (M N : Nat) (n : Nd) (cs : List Value) (w : World) (hn : NdAt M (Lo N) w n cs) (hN : N ≤ w.heap.size) : Calls Try.prog 18 #[.agg cs.toArray] w fun e w' => e = .returned (.int .i64 (errN n)) ∧ Fr No w w' := by
  obtain ⟨x, y, z, hcs⟩ := box_kid cs hn.len
  subst hcs
  have HN := hid hn; have HNN := hid hN
  clear hn hN
  have hmf : ∀ (fn : Fn) (first cap : Array Value) (w : World), (Instr.makeFunc fn first cap).run Try.prog w = .ok (.func fn first cap) w := fun _ _ _ _ => rfl
  go_enter Try.func18, Try.ntmps18
  go_wp2_with ((with_reducible show wpList _ _ _ (⟨_, .box 40 _, _, _, _, _⟩ :: _) _ _); refine wpL_box rfl _ _ rfl _ rfl [x, y, z] rfl ?_; intro w1 HB1 F1 HS1)
  refine (caught_any 25 [.pointer (some ⟨w.heap.size, 0, none⟩)] (RightP n) No w1 id (fun vs w => by kernel_rfl) (fun o a b h => h.1) ?_).mono ?_
  · intro v0 f0 hs0
    have HB0 : Hid (Blk v0 w.heap.size 40 [x, y, z]) := hid (HB1.out.fr f0 id)
    have HF0 := hid f0
    clear f0 hs0
    show Calls Try.prog _ #[.pointer (some ⟨w.heap.size, 0, none⟩)] v0 _
    go_enter Try.func25, Try.ntmps25
    go_wp2_with ((with_reducible show wpList _ _ _ (⟨_, .load 40 _, _, _, _, _⟩ :: _) _ _); refine wpL_load rfl _ _ rfl w.heap.size 0 rfl [x, y, z] _ (HB0.out.range 0 _ rfl) rfl rfl infoN ?_)
    refine (check_any M N n [x, y, z] v0 (HN.out.no (F1.out.trans' HF0.out)) (Nat.le_trans HNN.out (F1.out.trans' HF0.out).size)).mono ?_
    rintro e v1 ⟨f1, ⟨he, rfl⟩ | ⟨he, rfl⟩⟩
    · go_wp2_with fail
      go_end0
      exact .inl ⟨rfl, f1, he.symm⟩
    · exact ⟨rfl, .inr ⟨_, rfl, f1, rfl⟩⟩
  · rintro e w2 ⟨o, a, b, rfl, fa, hs, hp, fb⟩
    have hf : Fr No w w2 := ((F1.out.trans' fa).trans' hp.1).trans fb (fun i e => .inr (by have e : i = w1.heap.size := e; have := F1.out.size; omega))
    rw [hp.2]
    have HF := hid hf
    clear fa hs hp fb hf
    go_wp2_with fail
    go_ret
    exact ⟨rfl, HF.out⟩
set_option maxHeartbeats 2000000 in
theorem encode_any (M N : Nat) (n : Nd) (cs : List Value) (w : World) (hn : NdAt M (Lo N) w n cs) (hN : N ≤ w.heap.size) : Calls Try.prog 14 #[.agg cs.toArray] w fun e w' => e = .returned (.tuple #[.string (sb (encS n)), .int .i64 (errN n)]) ∧ Fr No w w' := by
  obtain ⟨x, y, z, hcs⟩ := box_kid cs hn.len
  subst hcs
  have HN := hid hn; have HNN := hid hN
  clear hn hN
  obtain ⟨es, hes⟩ : ∃ es, encS n = es := ⟨_, rfl⟩
  obtain ⟨er, her⟩ : ∃ er, errN n = er := ⟨_, rfl⟩
  rw [hes, her]
  have HES := hid hes; have HER := hid her
  clear hes her
  go_enter Try.func14, Try.ntmps14
  go_wp2_with (first
    | ((with_reducible show wpList _ _ _ (⟨_, .box 40 _, _, _, _, _⟩ :: _) _ _); refine wpL_box rfl _ _ rfl _ rfl [x, y, z] rfl ?_; intro w1 HB1 F1 HS1)
    | ((with_reducible show wpList _ _ _ (⟨_, .load 40 _, _, _, _, _⟩ :: _) _ _); refine wpL_load rfl _ _ rfl w.heap.size 0 rfl [x, y, z] _ (HB1.out.range 0 _ rfl) rfl rfl infoN ?_))
  refine (right_any M N n [x, y, z] w1 (HN.out.no F1.out) (Nat.le_trans HNN.out F1.out.size)).mono ?_
  rintro e w2 ⟨rfl, f2⟩
  have HF2 := hid (F1.out.trans' f2)
  have HB2 := hid (HB1.out.fr f2 id)
  clear f2
  rw [HER.out]
  by_cases he : er = 0
  · obtain ⟨hd, hs, ht⟩ := err_zero.1 (HER.out.trans he)
    have HD := hid hd; have HS := hid hs; have HT := hid ht
    have HE8 : Hid (es = enc 8 n) := hid (by rw [← HES.out]; unfold encS; rw [if_pos (HER.out.trans he)])
    subst he
    have HL := hid (enc8_len ht)
    clear hd hs ht
    go_wp2_with ((with_reducible show wpList _ _ _ (⟨_, .load 40 _, _, _, _, _⟩ :: _) _ _); refine wpL_load rfl _ _ rfl w.heap.size 0 rfl [x, y, z] _ (HB2.out.range 0 _ rfl) rfl rfl infoN ?_)
    refine (write_any 8 M N w2.heap.size n [x, y, z] (.slice none 0 0) [] w2 HD.out HS.out HT.out (HN.out.no HF2.out) (Nat.le_trans HNN.out HF2.out.size) (Nat.le_refl _) (World.ownsRow_nil _ _ _ _) (by have := HL.out; simp; omega)).mono ?_
    rintro e w3 ⟨v', rfl, hr, f3, ho⟩
    rw [List.nil_append] at hr
    have HBy : Hid (BytesIn w3 (fun k => w2.heap.size ≤ k) v' (enc 8 n)) := hid (own_bytes hr)
    have hfin : Fr No w w3 := HF2.out.trans f3 (fun i e => by cases e)
    have HFIN := hid hfin
    obtain ⟨a', cp', rfl, -, -⟩ := own_form hr
    obtain ⟨lt, hlt⟩ : ∃ lt, (enc 8 n).length = lt := ⟨_, rfl⟩
    rw [hlt] at HBy ⊢
    clear hr f3 ho hfin hlt
    go_wp2_with ((with_reducible show wpList _ _ _ (⟨_, .convert _ 9 _, _, _, _, _⟩ :: _) _ _); refine wpL_stringS rfl _ rfl _ _ _ rfl HBy.out ?_)
    go_ret2
    rw [HE8.out]
    exact ⟨rfl, HFIN.out⟩
  · have HE8 : Hid (es = []) := hid (by rw [← HES.out]; unfold encS; rw [if_neg (fun h => he (HER.out.symm.trans h))])
    have hei : ¬ (er : Int) = 0 := by omega
    clear he
    go_wp2_with fail
    go_ret2
    rw [HE8.out]
    exact ⟨rfl, HF2.out⟩
end Go.Proofs.Ytoikiokcpakokaa.BE
