/-
  Package ber: whether each element has what its tag lets it have.
-/
import Derived.Test.YtoikiokcpakokaaBeK
set_option linter.unusedVariables false
set_option linter.unusedSimpArgs false
namespace Go.Proofs.Ytoikiokcpakokaa.BE
set_option maxRecDepth 100000
open Go.RowKit K

theorem sb_empty (l : B) : (sb l).toList.isEmpty = l.isEmpty := by rw [ByteArray.toList_eq, sb_list]
theorem deep_succ {m : Nat} {n : Nd} (h : deep m n = true) : ∃ k, m = k + 1 := by
  cases m with
  | zero => cases h
  | succ k => exact ⟨k, rfl⟩
theorem deep_kid {m : Nat} {n : Nd} (h : deep (m + 1) n = true) {i : Nat} {x : Nd} (hx : n.kids[i]? = some x) : deep m x = true := by
  simp only [deep, List.all_eq_true] at h
  exact h x (List.mem_of_getElem? hx)
theorem NdAt.succ {M : Nat} {S : Nat → Prop} {w : World} {n : Nd} {cs : List Value} (h : NdAt M S w n cs) : ∃ k, M = k + 1 := by
  cases M with
  | zero => exact h.elim
  | succ k => exact ⟨k, rfl⟩
set_option maxHeartbeats 4000000 in
theorem checkTags_any : ∀ (m M N : Nat) (n : Nd) (cs : List Value) (w : World), deep m n = true → NdAt M (Lo N) w n cs → N ≤ w.heap.size → Calls Try.prog 34 #[.agg cs.toArray] w (Holds (shaped m n) 90 w) := by
  intro m
  induction m with
  | zero => intro M N n cs w h; cases h
  | succ m ih =>
    intro M N n cs w hd hn hN
    obtain ⟨a, sc, hcs, htg, hbl, hkl⟩ := hn.head
    obtain ⟨M, rfl⟩ := hn.succ
    have HN := hid hn; have HIH := hid ih; have HNN := hid hN; have HD := hid hd; have HTG := hid htg
    obtain ⟨tg, htge⟩ : ∃ tg, n.tag = tg := ⟨_, rfl⟩
    obtain ⟨bd, hbde⟩ : ∃ bd, n.body = bd := ⟨_, rfl⟩
    obtain ⟨kl, hkle⟩ : ∃ kl, n.kids.length = kl := ⟨_, rfl⟩
    have HT := hid htge; have HB := hid hbde; have HK := hid hkle
    have HSH : Hid (shaped (m + 1) n = (tagB tg && (if conB tg then bd.isEmpty else decide (kl = 0)) && n.kids.all (shaped m))) := hid (by
      have e : n.kids.isEmpty = decide (kl = 0) := by rw [← hkle]; cases n.kids <;> simp
      rw [← htge, ← hbde, ← e]; rfl)
    rw [htge, hbde, hkle] at hcs
    rw [hkle] at hkl
    subst hcs
    have hse := sb_empty bd
    clear hn ih hN hd htg hbl htge hbde hkle
    go_enter Try.func34, Try.ntmps34
    go_wp2_with (first
      | ((with_reducible show wpList _ _ _ (⟨_, .box 40 _, _, _, _, _⟩ :: _) _ _); refine wpL_box rfl _ _ rfl _ rfl [.int .i64 tg, .string (sb bd), .slice a kl sc] rfl ?_; intro w1 HB1 F1 HS1; have c0 : w1.cell? ⟨w.heap.size, 0, none⟩ = some (.int .i64 tg) := HB1.out.cell 0; have c1 : w1.cell? ⟨w.heap.size, 1, none⟩ = some (.string (sb bd)) := HB1.out.cell 1; have c2 : w1.cell? ⟨w.heap.size, 2, none⟩ = some (.slice a kl sc) := HB1.out.cell 2))
    refine (isTag_any tg w1).mono ?_
    rintro e w2 ⟨rfl, rfl⟩
    go_wp2_with fail
    refine (must_any (tagB tg) 90 w2).mono ?_
    rintro e w3 ⟨rfl, ⟨ht, rfl⟩ | ⟨ht, rfl⟩⟩
    · have HTB := hid ht
      clear ht
      go_wp2_with fail
      refine (isCon_any tg HTB.out w3).mono ?_
      rintro e w4 ⟨rfl, rfl⟩
      cases hc : conB tg with
      | true =>
        have HC := hid hc
        clear hc
        go_wp2_with fail
        refine (must_any bd.isEmpty 90 w4).mono ?_
        rintro e w5 ⟨rfl, ⟨hb, rfl⟩ | ⟨hb, rfl⟩⟩
        · have HSB : Hid (bd.isEmpty = true) := hid (by simpa using hb)
          clear hb
          go_wp2_with (first
            | ((with_reducible show wpList _ _ _ (⟨_, .load 40 _, _, _, _, _⟩ :: _) _ _); refine wpL_load rfl _ _ rfl w.heap.size 0 rfl [.int .i64 tg, .string (sb bd), .slice a kl sc] _ (HB1.out.range 0 _ rfl) rfl rfl infoN ?_))
          refine (children_any M N n [.int .i64 tg, .string (sb bd), .slice a kl sc] 34 [] (fun i w' => Fr No w5 w' ∧ (n.kids.take i).all (shaped m) = true) (fun c w' => c = 90 ∧ n.kids.all (shaped m) = false ∧ Fr No w5 w') w5 (HN.out.no F1.out) (Nat.le_trans HNN.out F1.out.size) (fun vs w => by kernel_rfl) ⟨Fr.refl _ _, rfl⟩ (fun i a b h hf => ⟨h.1.trans' hf, h.2⟩) ?_).mono ?_
          · intro i k c wv hx hk hi hs
            refine (HIH.out M N k c wv (deep_kid HD.out hx) hk (by have := HNN.out; have := F1.out.size; omega)).mono ?_
            rintro e v2 ⟨ff, hv⟩
            rcases hv with ⟨hd, rfl⟩ | ⟨hd, rfl⟩
            · exact ⟨ff.no, .inl ⟨rfl, hi.1.trans' ff, all_take hx hi.2 hd⟩⟩
            · exact ⟨ff.no, .inr ⟨_, rfl, rfl, all_not hx hd, hi.1.trans' ff⟩⟩
          · rintro e v hv
            rcases hv with ⟨rfl, hf, ha⟩ | ⟨c, rfl, rfl, ha, hf⟩
            · go_wp2_with fail
              go_end0
              rw [List.take_length] at ha
              exact ⟨F1.out.trans' hf, .inl ⟨by rw [HSH.out, HTB.out, HC.out, ha]; simpa using HSB.out, rfl⟩⟩
            · exact ⟨rfl, F1.out.trans' hf, .inr ⟨by rw [HSH.out, ha]; simp, rfl⟩⟩
        · have hsb : (bd.isEmpty) = false := by simpa using hb
          exact ⟨rfl, F1.out, .inr ⟨by rw [HSH.out, HC.out]; simp at hsb; simp [hsb], rfl⟩⟩
      | false =>
        have HC := hid hc
        clear hc
        go_wp2_with fail
        refine (must_any ((kl : Int) == 0) 90 w4).mono ?_
        rintro e w5 ⟨rfl, ⟨hb, rfl⟩ | ⟨hb, rfl⟩⟩
        · have HSB : Hid (decide (kl = 0) = true) := hid (by simpa using hb)
          clear hb
          go_wp2_with (first
            | ((with_reducible show wpList _ _ _ (⟨_, .load 40 _, _, _, _, _⟩ :: _) _ _); refine wpL_load rfl _ _ rfl w.heap.size 0 rfl [.int .i64 tg, .string (sb bd), .slice a kl sc] _ (HB1.out.range 0 _ rfl) rfl rfl infoN ?_))
          refine (children_any M N n [.int .i64 tg, .string (sb bd), .slice a kl sc] 34 [] (fun i w' => Fr No w5 w' ∧ (n.kids.take i).all (shaped m) = true) (fun c w' => c = 90 ∧ n.kids.all (shaped m) = false ∧ Fr No w5 w') w5 (HN.out.no F1.out) (Nat.le_trans HNN.out F1.out.size) (fun vs w => by kernel_rfl) ⟨Fr.refl _ _, rfl⟩ (fun i a b h hf => ⟨h.1.trans' hf, h.2⟩) ?_).mono ?_
          · intro i k c wv hx hk hi hs
            refine (HIH.out M N k c wv (deep_kid HD.out hx) hk (by have := HNN.out; have := F1.out.size; omega)).mono ?_
            rintro e v2 ⟨ff, hv⟩
            rcases hv with ⟨hd, rfl⟩ | ⟨hd, rfl⟩
            · exact ⟨ff.no, .inl ⟨rfl, hi.1.trans' ff, all_take hx hi.2 hd⟩⟩
            · exact ⟨ff.no, .inr ⟨_, rfl, rfl, all_not hx hd, hi.1.trans' ff⟩⟩
          · rintro e v hv
            rcases hv with ⟨rfl, hf, ha⟩ | ⟨c, rfl, rfl, ha, hf⟩
            · go_wp2_with fail
              go_end0
              rw [List.take_length] at ha
              exact ⟨F1.out.trans' hf, .inl ⟨by rw [HSH.out, HTB.out, HC.out, ha]; simpa using HSB.out, rfl⟩⟩
            · exact ⟨rfl, F1.out.trans' hf, .inr ⟨by rw [HSH.out, ha]; simp, rfl⟩⟩
        · have hsb : (decide (kl = 0)) = false := by simpa using hb
          exact ⟨rfl, F1.out, .inr ⟨by rw [HSH.out, HC.out]; simp at hsb; simp [hsb], rfl⟩⟩
    · exact ⟨rfl, F1.out, .inr ⟨by rw [HSH.out, ht]; rfl, rfl⟩⟩
end Go.Proofs.Ytoikiokcpakokaa.BE
