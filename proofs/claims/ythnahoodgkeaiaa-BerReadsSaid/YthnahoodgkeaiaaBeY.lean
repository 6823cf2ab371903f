/-
  Package ber: readChildren, read, Decode, Head.
-/
import Derived.Test.YthnahoodgkeaiaaBeU
set_option linter.unusedVariables false
set_option linter.unusedSimpArgs false
namespace Go.Proofs.Ythnahoodgkeaiaa.BE
set_option maxRecDepth 100000
open Go.RowKit K

/-- What readChildren leaves. -/
def Kids (m bn : Nat) (t : Int) (c : B) (w : World) (e : Ending) (w' : World) : Prop := Fr (fun k => k = bn) w w' ∧ match kidsG (rd m) c.length c with
  | .error k => e = .panicked [fl (if k = 92 then 90 else k)]
  | .ok ks => e = .returned (.tuple #[]) ∧ ∃ v L base, w.heap.size ≤ base ∧ KS m base bn t ks v L w'
theorem kids_ne {m : Nat} {c : B} {k : Nat} (h : kidsG (rd m) c.length c = .error k) : k ≠ 0 :=
  kids_err (rd_err m) (fun s n u hr => ⟨(rd_inv m s n u hr).2.2.2.2.1, (rd_inv m s n u hr).2.2.2.2.2⟩) _ _ _ (Nat.le_refl _) h
set_option maxHeartbeats 4000000 in
theorem readKids_any (m bn : Nat) (t : Int) (c : B) (w : World) (ih : ReadOk m) (hB : Blk w bn 24 [.int .i64 t, .string ⟨#[]⟩, .slice none 0 0]) (hc : c.length ≤ 4000) :
    Calls Try.prog 47 #[.string (sb c), .int .i64 ((9 - m : Nat) : Int), vis bn] w (Kids m bn t c w) := by
  have hbl := hB.lt
  have HIH := hid ih; have HB := hid hB; have HC := hid hc; have HBL := hid hbl
  obtain ⟨dd, hdd⟩ : ∃ dd : Int, ((9 - m : Nat) : Int) = dd := ⟨_, rfl⟩
  have HDD := hid hdd
  obtain ⟨cs, hcs⟩ : ∃ cs, sb c = cs := ⟨_, rfl⟩
  have HCS := hid hcs
  rw [hdd, hcs]
  clear ih hB hc hbl hdd hcs
  have hmf : ∀ (fn : Fn) (first cap : Array Value) (w : World), (Instr.makeFunc fn first cap).run Try.prog w = .ok (.func fn first cap) w := fun _ _ _ _ => rfl
  go_enter Try.func47, Try.ntmps47
  go_wp2_with (first
    | ((with_reducible show wpList _ _ _ (⟨_, .box 9 _, _, _, _, _⟩ :: _) _ _); refine wpL_box rfl _ _ rfl _ rfl [.string cs] rfl ?_; intro w1 HB1 F1 HS1)
    | ((with_reducible show wpList _ _ _ (⟨_, .box 3 _, _, _, _, _⟩ :: _) _ _); refine wpL_box rfl _ _ rfl _ rfl [.int .i64 dd] rfl ?_; intro w2 HB2 F2 HS2)
    | ((with_reducible show wpList _ _ _ (⟨_, .box 49 _, _, _, _, _⟩ :: _) _ _); refine wpL_box rfl _ _ rfl _ rfl [vis bn] rfl ?_; intro w3 HB3 F3 HS3))
  have f13 := F2.out.trans' F3.out
  have hf3 : Fr No w w3 := F1.out.trans' f13
  have hs1 := HS1.out; have hs2 := HS2.out; have hs3 := HS3.out; have hbl := HBL.out
  refine (caught_any 52 [.pointer (some ⟨w.heap.size, 0, none⟩), .pointer (some ⟨w1.heap.size, 0, none⟩), .pointer (some ⟨w2.heap.size, 0, none⟩)] (KidsP m bn w.heap.size t c) (fun k => k = w.heap.size ∨ k = bn) w3 (by omega) (fun vs w => by kernel_rfl) (fun o a b h => h.1) ?_).mono ?_
  · intro v0 f0 hs0
    exact rc1_any m bn w.heap.size w1.heap.size w2.heap.size t c v0 HIH.out (by rw [HCS.out]; exact (HB1.out.fr f13 id).fr f0 id) (by rw [HDD.out]; exact (HB2.out.fr F3.out id).fr f0 id) (HB3.out.fr f0 id) ((HB.out.fr hf3 id).fr f0 id) (by omega) (by omega) (by omega) (by omega) (by omega) HC.out
  · rintro e w6 ⟨o, w4, w5, rfl, f4, hs4, hp, f6⟩
    have hfall : Fr (fun k => k = bn) w w6 := ((((hf3.trans' f4).no (D := fun k => k = bn)).trans hp.1 (fun k hk => hk.elim (fun e => .inr (by omega)) (fun e => .inl e))).trans f6 (fun k hk => .inr (by have e : k = w3.heap.size := hk; have := hf3.size; omega)))
    have HFA := hid hfall
    have HP := hid hp.2
    have hsz4 : w.heap.size ≤ w4.heap.size := by omega
    have HS4 := hid hsz4
    have hse : ∀ k, k = w3.heap.size → k < w4.heap.size ∧ k ≠ bn := fun k hk => by omega
    have HSE := hid hse; have HF6 := hid f6
    clear hfall hsz4 hse f6 hp hs4 f4 f13 hf3 hs1 hs2 hs3 hbl
    cases o with
    | none =>
      obtain ⟨ks, v, L, hks, hK⟩ := HP.out
      have HKS := hid hks
      have HKK := hid (hK.fr HF6.out (fun k hk => HSE.out k hk))
      clear HP hks hK
      show (match Ending.returned (.int .i64 0), w6 with | _, _ => _)
      go_wp2_with fail
      refine (must_any true 90 w6).mono ?_
      rintro e w7 ⟨rfl, ⟨_, rfl⟩ | ⟨h, _⟩⟩
      rotate_left
      · cases h
      go_wp2_with fail
      refine (must_any true 0 w7).mono ?_
      rintro e w8 ⟨rfl, ⟨_, rfl⟩ | ⟨h, _⟩⟩
      rotate_left
      · cases h
      go_wp2_with fail
      go_end0
      refine ⟨HFA.out, ?_⟩
      rw [HKS.out]
      exact ⟨rfl, v, L, w4.heap.size, HS4.out, HKK.out⟩
    | some k =>
      have hk : kidsG (rd m) c.length c = .error k := HP.out
      have hne := kids_ne hk
      have HK := hid hk
      show (match Ending.returned (.int .i64 (k : Int)), w6 with | _, _ => _)
      clear HP hk
      by_cases h92 : k = 92
      · subst h92
        clear hne
        go_wp2_with fail
        refine (must_any false 90 w6).mono ?_
        rintro e w7 ⟨rfl, ⟨h, _⟩ | ⟨_, rfl⟩⟩
        · cases h
        refine ⟨rfl, HFA.out, ?_⟩
        rw [HK.out]
        rfl
      · have h92i : ((k : Int) == 92) = false := by simp; omega
        have hnei : ((k : Int) == 0) = false := by simp; omega
        have H92 := hid h92
        clear hne h92
        go_wp2_with fail
        refine (must_any _ 90 w6).mono ?_
        rintro e w7 ⟨rfl, ⟨_, rfl⟩ | ⟨h, _⟩⟩
        rotate_left
        · exfalso; simp at h; have := H92.out; omega
        go_wp2_with fail
        refine (must_any false k w7).mono ?_
        rintro e w8 ⟨rfl, ⟨h, _⟩ | ⟨_, rfl⟩⟩
        · cases h
        refine ⟨rfl, HFA.out, ?_⟩
        rw [HK.out]
        simp only
        rw [if_neg H92.out]
end Go.Proofs.Ythnahoodgkeaiaa.BE
