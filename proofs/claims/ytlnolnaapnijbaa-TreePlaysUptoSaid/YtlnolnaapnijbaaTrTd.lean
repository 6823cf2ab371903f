/-
  The tree: Scan, All.
-/
import Derived.Test.YtlnolnaapnijbaaTrTc
namespace Go.Proofs.Ytlnolnaapnijbaa.TR
set_option maxRecDepth 100000
open Go.RowKit K

/-- What a scan tells. -/
def scanS (fr to : S) (most : Int) (l : L) : L := if most < 1 then [] else (runS to most [] (ge fr l)).2
/-- New pairs. -/
def NewP (w : World) (l : L) (e : Ending) (w' : World) : Prop := ∃ pv, e = .returned pv ∧ w'.ownsRow w.heap.size 51 2 pv l.length (pcs l) ∧ Fr No w w'
theorem zero_prs (w : World) : (zeroValue 42).run Try.prog w = .ok (.slice none 0 0) w := by kernel_rfl
set_option maxHeartbeats 8000000 in
theorem tscan_any (w : World) (T : TD) (l : L) (fr to : S) (most : Int) (h : TrAt w T l) (hn : l.length ≤ 4398046511104) : Calls Try.prog 43 #[T.v, .string fr, .string to, .int .i64 most] w (NewP w (scanS fr to most l)) := by
  have H := hid h
  have HN := hid hn
  have mf := hmf
  clear h hn
  show Calls Try.prog _ #[.pointer (some ⟨T.b, 0, none⟩), .string fr, .string to, .int .i64 most] w _
  by_cases hm : most < 1
  · go_enter Try.func43, Try.ntmps43
    go_wp2_with (first
      | ((with_reducible show wpList _ _ _ ({ dst := _, op := .box 9 _, type := _, pos := _, after := _, guard := _ } :: _) _ _); refine wpL_box rfl _ _ rfl _ rfl [.string to] rfl ?_; intro w1 HB1 F1 HS1)
      | ((with_reducible show wpList _ _ _ ({ dst := _, op := .box 3 _, type := _, pos := _, after := _, guard := _ } :: _) _ _); refine wpL_box rfl _ _ rfl _ rfl [.int .i64 most] rfl ?_; intro w2 HB2 F2 HS2; have c2 : w2.cell? ⟨w1.heap.size, 0, none⟩ = some (.int .i64 most) := HB2.out.cell 0))
    go_ret
    have hs : scanS fr to most l = [] := by unfold scanS; rw [if_pos hm]
    rw [hs]
    exact ⟨_, rfl, ⟨rfl, .inl ⟨rfl, rfl⟩⟩, F1.out.trans' F2.out⟩
  · have HNM := hid hm
    go_enter Try.func43, Try.ntmps43
    go_wp2_with (first
      | ((with_reducible show wpList _ _ _ ({ dst := _, op := .box 9 _, type := _, pos := _, after := _, guard := _ } :: _) _ _); refine wpL_box rfl _ _ rfl _ rfl [.string to] rfl ?_; intro w1 HB1 F1 HS1)
      | ((with_reducible show wpList _ _ _ ({ dst := _, op := .box 3 _, type := _, pos := _, after := _, guard := _ } :: _) _ _); refine wpL_box rfl _ _ rfl _ rfl [.int .i64 most] rfl ?_; intro w2 HB2 F2 HS2; have c2 : w2.cell? ⟨w1.heap.size, 0, none⟩ = some (.int .i64 most) := HB2.out.cell 0)
      | ((with_reducible show wpList _ _ _ ({ dst := _, op := .alloc 42, type := _, pos := _, after := _, guard := _ } :: _) _ _); refine wpL_alloc rfl _ rfl _ zero_prs [.slice none 0 0] rfl ?_; intro w3 HB3 F3 HS3)
      | ((with_reducible show wpList _ _ _ ({ dst := _, op := .load 103 _, type := _, pos := _, after := _, guard := _ } :: _) _ _); refine wpL_load rfl _ _ rfl T.b 0 rfl (ptr T.d T.t) _ (((F1.out.trans' F2.out).trans' F3.out).range H.out.rg id) rfl rfl (by rw [ptr_length]; exact info_p) ?_))
    have HF3 : Hid (Fr No w w3) := hid ((F1.out.trans' F2.out).trans' F3.out)
    have HS : Hid (w.heap.size < w1.heap.size ∧ w1.heap.size < w2.heap.size ∧ w2.heap.size < w3.heap.size) := hid ⟨HB1.out.lt, HB2.out.lt, HB3.out.lt⟩
    have hps : PS w.heap.size w.heap.size w2.heap.size w1.heap.size to most [] (.slice none 0 0) w3 := by
      obtain ⟨s1, s2, s3⟩ := HS.out
      exact ⟨(HB1.out.fr F2.out id).fr F3.out id, HB2.out.fr F3.out id, HB3.out, ⟨rfl, .inl ⟨rfl, rfl⟩⟩, (by intro g hg; cases hg), by omega, by omega, by omega, by omega, by omega⟩
    have hgl := ge_le fr l
    have hfl : flat T.d T.t = l := H.out.fl
    refine (each_any T.d w.heap.size T.t w.heap.size w2.heap.size w1.heap.size to fr most [] (.slice none 0 0) w3 (H.out.rep.no HF3.out) (H.out.fine HN.out) (fun g hg => H.out.lt g (.inr hg)) hps (by rw [hfl]; have := HN.out; simpa using this)).mono ?_
    rintro e w4 ⟨rfl, pv, hp, hf, hg⟩
    rw [hfl] at hp ⊢
    have HP := hid hp
    have HF4 : Hid (Fr No w w4) := hid (HF3.out.trans hf (fun k hk => by
      obtain ⟨s1, s2, s3⟩ := HS.out
      rcases hk with e | e
      · exact .inr (by omega)
      · cases e))
    have c4 : w4.cell? ⟨w2.heap.size, 0, none⟩ = some pv := hp.p.cell 0
    clear hps hgl hfl hp hf hg c2
    go_wp2
    go_ret
    have hs : scanS fr to most l = (runS to most [] (ge fr l)).2 := by unfold scanS; rw [if_neg (by have := HNM.out; omega)]
    rw [hs]
    exact ⟨_, rfl, HP.out.r, HF4.out⟩
set_option maxHeartbeats 4000000 in
theorem tall_any (w : World) (T : TD) (l : L) (h : TrAt w T l) (hn : l.length ≤ 4398046511104) : Calls Try.prog 20 #[T.v] w (NewP w (scanS ⟨#[]⟩ ⟨#[]⟩ l.length l)) := by
  have H := hid h
  have HN := hid hn
  have c2 := h.ln
  clear h hn
  show Calls Try.prog _ #[.pointer (some ⟨T.b, 0, none⟩)] w _
  go_enter Try.func20, Try.ntmps20
  go_wp2_with fail
  refine (tscan_any w T l ⟨#[]⟩ ⟨#[]⟩ l.length H.out HN.out).mono ?_
  rintro e w2 ⟨pv, rfl, hr, hf⟩
  go_wp2
  go_ret
  exact ⟨_, rfl, hr, hf⟩
/-- A scan without bounds tells all. -/
theorem runS_all (l acc : L) (n : Nat) (h : acc.length + l.length ≤ n) : (runS ⟨#[]⟩ n acc l).2 = acc ++ l := by
  induction l generalizing acc with
  | nil => simp [runS]
  | cons x r ih =>
    have hs : stopB ⟨#[]⟩ x.1 = false := by simp [stopB]
    simp only [runS, hs]
    simp only [List.length_cons] at h
    cases r with
    | nil =>
      simp only [runS]
      rw [if_neg (by simp)]
      split <;> rfl
    | cons y r =>
      simp only [List.length_cons] at h
      rw [if_neg (by simp), if_pos (by omega), ih (acc ++ [x]) (by simp; omega)]
      simp
theorem ge_all (l : L) : ge ⟨#[]⟩ l = l := by
  unfold ge
  rw [List.filter_eq_self]
  intro x _
  simp [lt_empty]
theorem scan_all (l : L) : scanS ⟨#[]⟩ ⟨#[]⟩ l.length l = l := by
  unfold scanS
  rw [ge_all]
  cases l with
  | nil => rfl
  | cons x r =>
    rw [if_neg (by simp only [List.length_cons]; omega)]
    have := runS_all (x :: r) [] (x :: r).length (by simp)
    rw [this]; rfl
theorem tall_l (w : World) (T : TD) (l : L) (h : TrAt w T l) (hn : l.length ≤ 4398046511104) : Calls Try.prog 20 #[T.v] w (NewP w l) := by
  have := tall_any w T l h hn
  rwa [scan_all] at this
end Go.Proofs.Ytlnolnaapnijbaa.TR
