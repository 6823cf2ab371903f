/-
  Parts: size, join, cut.
-/
import Derived.Test.YtlnolnaapnijbaaTrR
namespace Go.Proofs.Ytlnolnaapnijbaa.TR
set_option maxRecDepth 100000
open Go.RowKit K

@[simp] theorem keys_length {d : Nat} (l : List (S × Kid d)) : (keys l).length = l.length := by simp [keys]
theorem psize_any : ∀ (d : Nat) (w : World) (t : PT d), Rep w d t → Calls Try.prog 83 #[val d t] w fun e w' => e = .returned (.int .i64 t.l.length) ∧ Fr No w w'
  | 0, w, t, h => by
    have H := hid h
    clear h
    show Calls Try.prog _ #[.agg #[.pointer (some ⟨t.b, 0, none⟩), .pointer none]] w _
    go_enter Try.func83, Try.ntmps83
    go_wp2_with ((with_reducible show wpList _ _ _ ({ dst := _, op := .box 103 _, type := _, pos := _, after := _, guard := _ } :: _) _ _); refine wpL_box rfl _ _ rfl _ rfl [.pointer (some ⟨t.b, 0, none⟩), .pointer none] rfl ?_; intro w1 HB1 F1 HS1; have c0 : w1.cell? ⟨w.heap.size, 0, none⟩ = some (.pointer (some ⟨t.b, 0, none⟩)) := HB1.out.cell 0)
    refine (size_s w1 t.b _ _ (keys t.l) (cells t.l) (H.out.nd.fr F1.out (fun _ _ e => e))).mono ?_
    rintro e w2 ⟨rfl, rfl⟩
    go_wp2
    go_ret
    exact ⟨rfl, F1.out⟩
  | d + 1, w, t, h => by
    have H := hid h
    clear h
    show Calls Try.prog _ #[.agg #[.pointer none, .pointer (some ⟨t.b, 0, none⟩)]] w _
    go_enter Try.func83, Try.ntmps83
    go_wp2_with ((with_reducible show wpList _ _ _ ({ dst := _, op := .box 103 _, type := _, pos := _, after := _, guard := _ } :: _) _ _); refine wpL_box rfl _ _ rfl _ rfl [.pointer none, .pointer (some ⟨t.b, 0, none⟩)] rfl ?_; intro w1 HB1 F1 HS1; have c0 : w1.cell? ⟨w.heap.size, 0, none⟩ = some (.pointer none) := HB1.out.cell 0; have c1 : w1.cell? ⟨w.heap.size, 1, none⟩ = some (.pointer (some ⟨t.b, 0, none⟩)) := HB1.out.cell 1)
    refine (size_p w1 t.b _ _ (keys t.l) (cells t.l) (H.out.nd.fr F1.out (fun _ _ e => e))).mono ?_
    rintro e w2 ⟨rfl, rfl⟩
    go_wp2
    go_ret
    exact ⟨rfl, F1.out⟩

/-- Two parts are joined. -/
def Joined (d : Nat) (w : World) (t u : PT d) (w' : World) (t' : PT d) : Prop :=
  t'.l = t.l ++ u.l ∧ t'.b = t.b ∧ Rep w' d t' ∧ Fr (own t) w w' ∧ ∀ g, fp d t' g → fp d t g ∨ fp d u g ∨ w.heap.size ≤ g
theorem joined_of {d : Nat} {w0 w w' : World} {t u : PT d} (h0 : Fr No w0 w) (ht : Rep w d t) (hu : Rep w d u) (hd : Dj (fp d t) (fp d u)) (hp : NdPost w (ndT d) (elT d) (elk d) t.b t.k t.c (keys t.l ++ keys u.l) (cells t.l ++ cells u.l) w') : ∃ t' : PT d, Joined d w0 t u w' t' := by
  rw [← keys_append, ← cells_append] at hp
  obtain ⟨t', e1, e2, h1, h2, h3⟩ := rep_node hp ⟨fun x hx => (List.mem_append.1 hx).elim (ht.kids.rep x) (hu.kids.rep x), List.pairwise_append.2 ⟨ht.kids.apart, hu.kids.apart, fun a ha b hb g hg hg' => hd g (.inr ⟨a, ha, hg⟩) (.inr ⟨b, hb, hg'⟩)⟩, fun x hx => (List.mem_append.1 hx).elim (ht.kids.off x) (fun hx g hg hg' => hd g (.inl hg) (.inr ⟨x, hx, hg'⟩))⟩
  refine ⟨t', e1, e2, h1, h0.no.trans' h2, fun g hg => ?_⟩
  rcases hg with hg | ⟨x, hx, hg⟩
  · exact (h3 g hg).elim (fun e => .inl (.inl e)) (fun e => .inr (.inr (Nat.le_trans h0.size e)))
  · rw [e1] at hx
    exact (List.mem_append.1 hx).elim (fun e => .inl (.inr ⟨x, e, hg⟩)) (fun e => .inr (.inl (.inr ⟨x, e, hg⟩)))
theorem own_fp {d : Nat} {t : PT d} {g : Nat} (h : own t g) : fp d t g := .inl h
theorem pjoin_any : ∀ (d : Nat) (w : World) (t u : PT d), Rep w d t → Rep w d u → Dj (fp d t) (fp d u) → t.l.length + u.l.length ≤ 8796093022208 →
    Calls Try.prog 97 #[val d t, val d u] w fun e w' => e = .returned (.tuple #[]) ∧ ∃ t' : PT d, Joined d w t u w' t'
  | 0, w, t, u, ht, hu, hd, hn => by
    have HT := hid ht; have HU := hid hu; have HD := hid hd; have HN := hid hn
    clear ht hu hd hn
    show Calls Try.prog _ #[.agg #[.pointer (some ⟨t.b, 0, none⟩), .pointer none], .agg #[.pointer (some ⟨u.b, 0, none⟩), .pointer none]] w _
    go_enter Try.func97, Try.ntmps97
    go_wp2_with (first
      | ((with_reducible show wpList _ _ _ ({ dst := _, op := .box 103 _, type := _, pos := _, after := _, guard := _ } :: _) _ _); have := HB1; refine wpL_box rfl _ _ rfl _ rfl [.pointer (some ⟨u.b, 0, none⟩), .pointer none] rfl ?_; intro w2 HB2 F2 HS2; have c0 : w2.cell? ⟨w.heap.size, 0, none⟩ = some (.pointer (some ⟨t.b, 0, none⟩)) := (HB1.out.fr F2.out id).cell 0; have c2 : w2.cell? ⟨w1.heap.size, 0, none⟩ = some (.pointer (some ⟨u.b, 0, none⟩)) := HB2.out.cell 0)
      | ((with_reducible show wpList _ _ _ ({ dst := _, op := .box 103 _, type := _, pos := _, after := _, guard := _ } :: _) _ _); refine wpL_box rfl _ _ rfl _ rfl [.pointer (some ⟨t.b, 0, none⟩), .pointer none] rfl ?_; intro w1 HB1 F1 HS1))
    have HF : Hid (Fr No w w2) := hid (F1.out.trans' F2.out)
    have HT2 : Hid (Rep w2 0 t) := hid (HT.out.no HF.out)
    have HU2 : Hid (Rep w2 0 u) := hid (HU.out.no HF.out)
    refine (join_s w2 t.b u.b _ _ _ _ (keys t.l) (keys u.l) (cells t.l) (cells u.l) HT2.out.nd HU2.out.nd (fun g h1 h2 => HD.out g (own_fp h1) (own_fp h2)) (by rw [keys_length, keys_length]; exact HN.out)).mono ?_
    rintro e w3 ⟨rfl, hp⟩
    have HP := hid hp
    clear hp
    go_wp2
    refine bodyPost_end (v := .tuple #[]) (by simp [results, Try.results97]) rfl ⟨rfl, ?_⟩
    exact joined_of HF.out HT2.out HU2.out HD.out HP.out
  | d + 1, w, t, u, ht, hu, hd, hn => by
    have HT := hid ht; have HU := hid hu; have HD := hid hd; have HN := hid hn
    clear ht hu hd hn
    show Calls Try.prog _ #[.agg #[.pointer none, .pointer (some ⟨t.b, 0, none⟩)], .agg #[.pointer none, .pointer (some ⟨u.b, 0, none⟩)]] w _
    go_enter Try.func97, Try.ntmps97
    go_wp2_with (first
      | ((with_reducible show wpList _ _ _ ({ dst := _, op := .box 103 _, type := _, pos := _, after := _, guard := _ } :: _) _ _); have := HB1; refine wpL_box rfl _ _ rfl _ rfl [.pointer none, .pointer (some ⟨u.b, 0, none⟩)] rfl ?_; intro w2 HB2 F2 HS2; have c0 : w2.cell? ⟨w.heap.size, 0, none⟩ = some (.pointer none) := (HB1.out.fr F2.out id).cell 0; have c1 : w2.cell? ⟨w.heap.size, 1, none⟩ = some (.pointer (some ⟨t.b, 0, none⟩)) := (HB1.out.fr F2.out id).cell 1; have c2 : w2.cell? ⟨w1.heap.size, 1, none⟩ = some (.pointer (some ⟨u.b, 0, none⟩)) := HB2.out.cell 1)
      | ((with_reducible show wpList _ _ _ ({ dst := _, op := .box 103 _, type := _, pos := _, after := _, guard := _ } :: _) _ _); refine wpL_box rfl _ _ rfl _ rfl [.pointer none, .pointer (some ⟨t.b, 0, none⟩)] rfl ?_; intro w1 HB1 F1 HS1))
    have HF : Hid (Fr No w w2) := hid (F1.out.trans' F2.out)
    have HT2 : Hid (Rep w2 (d + 1) t) := hid (HT.out.no HF.out)
    have HU2 : Hid (Rep w2 (d + 1) u) := hid (HU.out.no HF.out)
    refine (join_p w2 t.b u.b _ _ _ _ (keys t.l) (keys u.l) (cells t.l) (cells u.l) HT2.out.nd HU2.out.nd (fun g h1 h2 => HD.out g (own_fp h1) (own_fp h2)) (by rw [keys_length, keys_length]; exact HN.out)).mono ?_
    rintro e w3 ⟨rfl, hp⟩
    have HP := hid hp
    clear hp
    go_wp2
    refine bodyPost_end (v := .tuple #[]) (by simp [results, Try.results97]) rfl ⟨rfl, ?_⟩
    exact joined_of HF.out HT2.out HU2.out HD.out HP.out
end Go.Proofs.Ytlnolnaapnijbaa.TR
