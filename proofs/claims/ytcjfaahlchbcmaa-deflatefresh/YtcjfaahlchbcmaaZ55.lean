/- Deflate. -/
import Derived.Test.YtcjfaahlchbcmaaZ50
import Derived.Test.YtcjfaahlchbcmaaZ52
import Derived.Test.YtcjfaahlchbcmaaZ54
import Derived.Test.YtcjfaahlchbcmaaZ18
namespace Go.Proofs.Ytcjfaahlchbcmaa
open Go.RowKit Go.BigFrame
set_option linter.unusedVariables false
set_option linter.unusedSimpArgs false

theorem WayOk.up {N M : Nat} {w : World} {v : Value} {hd : List Bt} {l1 l2 : List Int} (h : WayOk N w v hd l1 l2) (hm : N ≤ M) : WayOk M w v hd l1 l2 := by
  obtain ⟨vh, g1, g2, e, ⟨a, c, e1, e2, e3⟩, h1, h2, r1, r2⟩ := h
  refine ⟨vh, g1, g2, e, ⟨a, c, e1, e2, fun k hk => ?_⟩, by omega, by omega, r1, r2⟩
  obtain ⟨b, o, x1, x2, x3⟩ := e3 k hk
  exact ⟨b, o, x1, by omega, x3⟩
theorem may_bd {x : Bt} (h : Gf.may x = true) : 0 ≤ x.2 ∧ x.2 ≤ 100 := by
  unfold Gf.may at h
  rw [decide_eq_true_eq] at h
  omega
/-- A way's contracts. -/
theorem wayK (w : World) (hd : List Bt) (l1 l2 : List Int) (T : List Tok) (hl1 : 257 ≤ l1.length ∧ l1.length ≤ 288) (hl2 : l2.length ≤ 30) (hin : ∀ t ∈ T, t.2.1 ≠ 0 → (lenS t.2.1.toNat).1 < l1.length ∧ (nthF 2 (t.2.2.toNat - 1)).1 < l2.length) (hhd : hd.length ≤ 100000) (hT : T.length ≤ 65536) (hok : ∀ t ∈ T, TokOk t) (hO : ∀ x ∈ telF hd l1 l2 T, Gf.may x = true) :
    WayK w T ((bsz (telF hd l1 l2 T) + 7) / 8) (telF hd l1 l2 T) (fun w' u => WayOk w'.heap.size w' u hd l1 l2) where
  three w1 u h := by
    obtain ⟨vh, g1, g2, rfl, ⟨a, c, rfl, _⟩, _⟩ := h
    exact ⟨_, _, _, _, _, _, _, _, _, rfl⟩
  keep w1 w2 u h hb := (h.keep (Nat.le_refl _) hb).up hb.size
  size w1 u v h o := size_is w1.heap.size w1 u v hd l1 l2 T hl1 hl2 hin hhd hT hok (Nat.le_refl _) h o.toks fun x hx => may_bd (hO x hx)
  write w1 u v h o := write_is w1.heap.size w1 u v hd l1 l2 T hl1 hl2 hin hhd hT hok (Nat.le_refl _) h o.toks hO
theorem tell_len (K : List Wd) : ∀ W : List Wd, ((W.map (tellW K)).flatten).length = 2 * W.length
  | [] => rfl
  | t :: r => by
    rw [List.map_cons, List.flatten_cons, List.length_append, tell_len K r]
    simp [tellW]; omega
theorem hdO_len {T : List Tok} (hT : T.length ≤ 65536) : (hdO T).length ≤ 100000 := by
  have OL := ownLens hT
  have hr := rowO_bd OL
  have hw := wdG_bd (rowO T) hr (rowO T).length 0
  have hln := rowO_len OL
  have h1 : (wdF (rowO T)).length ≤ 40000 := by have := hw.1; have := OL.sn; have := OL.dn; show (wdG (rowO T) (rowO T).length 0).length ≤ _; omega
  have ht := tn_bd (wdF (rowO T))
  unfold hdO splF
  simp only [List.length_append, List.length_cons, List.length_nil, List.length_map, List.length_take]
  rw [tell_len]
  omega
theorem mat_ok (l : List UInt8) : ∀ t ∈ matF l, TokOk t := fun t ht => matG_ok l _ _ t ht
theorem mat_len (l : List UInt8) : (matF l).length ≤ l.length := matG_len l _ _
/-- The bits of the fixed way, of a block's own way. -/
def dF (l : List UInt8) : List Bt := telF [(3, 3)] fixS fixD (matF l)
def dO (l : List UInt8) : List Bt := telF (hdO (matF l)) (oS (matF l)) (oD (matF l)) (matF l)
def zF (l : List UInt8) : Int := (bsz (dF l) + 7) / 8
def zO (l : List UInt8) : Int := (bsz (dO l) + 7) / 8
theorem deflate_is (w : World) (vb : Value) (l : List UInt8) (hl : l.length ≤ 65536) (hb : InB w.heap.size w vb l) :
    Calls Try.prog 13 #[vb] w fun e w' => ∃ u E, e = .returned (.tuple #[u, .int .i64 E]) ∧ DefR w.heap.size w' (stoF l) (if zO l < zF l then zO l else zF l) (if zO l < zF l then dO l else dF l) u E ∧ Below w.heap.size w w' := by
  have hT : (matF l).length ≤ 65536 := Nat.le_trans (mat_len l) hl
  have OL := ownLens hT
  have hs : stoE l = 0 := if_neg (by omega)
  refine deflate_walk w vb (matF l) (stoF l) (zF l) (zO l) (dF l) (dO l) (fun w' u => WayOk w'.heap.size w' u [(3, 3)] fixS fixD) (fun w' u => WayOk w'.heap.size w' u (hdO (matF l)) (oS (matF l)) (oD (matF l))) (sto_len l) (match_any w vb l hl hb.bts) ?_ (fun w1 => fixedWay_is w1) (fun w1 v o => ownWay_is w1 v (matF l) hT (mat_ok l) o.toks) ?_ ?_
  · intro w1 b1
    have := stored_any vb l (by omega) w1 ((hb.below b1 (Nat.le_refl _)).up b1.size)
    rwa [hs] at this
  · exact wayK w _ _ _ _ (by rw [fxS_len]; decide) (by rw [fxD_len]; decide) (fix_in (mat_ok l)) (by simp) hT (mat_ok l) (fix_may (mat_ok l))
  · exact wayK w _ _ _ _ (by have := OL.sol; have := OL.sn; omega) (by have := OL.dol; have := OL.dn; omega) (own_in hT (mat_ok l)) (hdO_len hT) hT (mat_ok l) (own_may hT (mat_ok l))
set_option maxRecDepth 100000 in
set_option maxHeartbeats 8000000 in
theorem deflate_long (w : World) (vb : Value) (l : List UInt8) (hl : 65536 < l.length) (hm : l.length ≤ 140737488355328) (hb : InB w.heap.size w vb l) :
    Calls Try.prog 13 #[vb] w fun e w' => e = .returned (.tuple #[.slice none 0 0, .int .i64 4]) ∧ w' = w := by
  obtain ⟨a, c, rfl, hc⟩ := hb.slice
  have HM := Box'.mk (match_long w a l.length c hl hm)
  clear hb hl hm hc
  generalize l.length = n at *
  go_enter Try.func13, Try.ntmps13
  go_wp2_with fail
  refine HM.out.mono ?_
  rintro e w1 ⟨rfl, rfl⟩
  clear HM
  go_wp2_with fail
  go_ret2
  exact ⟨rfl, rfl⟩
theorem row_own {N : Nat} {w : World} {g n : Nat} {d : List UInt8} (h : Row w g 5 (ag d)) (hN : N ≤ g) (hn : d.length = n) (hm : n ≤ 100000) : OwnB N w (.slice (some ⟨g, 0, none⟩) n n) d := by
  subst hn
  refine ⟨by simp, .inr ⟨g, d.length, ag d, rfl, hN, h, Nat.le_refl _, Nat.le_trans hm (by decide), by simp [ag], ?_⟩⟩
  rw [Nat.mul_one, ag]
  simp only [List.toList_toArray]
  rw [List.take_of_length_le (by simp)]
theorem wid_le {D : List (Nat × Int)} (h : Gf.cntE D = 0) : Gf.wid D ≤ 65536 := by
  unfold Gf.cntE at h
  unfold Gf.wid
  split at h
  · split at h
    · omega
    · simp at h
  · simp at h
theorem DefR.own {N : Nat} {w' : World} {S : List UInt8} {s : Int} {D : List (Nat × Int)} {u : Value} {E : Int} (h : DefR N w' S s D u E) (hS : S.length ≤ 100000) : ∃ d, OwnB N w' u d ∧ d.length ≤ 100000 := by
  rcases h with ⟨_, _, h⟩ | ⟨_, _, w1, h1, ⟨h2, g, rfl, hg, hr⟩ | ⟨_, rfl⟩⟩
  · exact ⟨S, h, hS⟩
  · have hw := wid_le h2
    exact ⟨_, row_own hr (Nat.le_trans h1 hg) (Gf.byt_len _ _) (by omega), by rw [Gf.byt_len]; omega⟩
  · exact ⟨[], OwnB.nil _ _, by simp⟩
theorem deflate_any (w : World) (vb : Value) (l : List UInt8) (hm : l.length ≤ 140737488355328) (hb : InB w.heap.size w vb l) :
    Calls Try.prog 13 #[vb] w fun e w' => ∃ u E d, e = .returned (.tuple #[u, .int .i64 E]) ∧ OwnB w.heap.size w' u d ∧ d.length ≤ 100000 ∧ Below w.heap.size w w' := by
  by_cases hl : l.length ≤ 65536
  · refine (deflate_is w vb l hl hb).mono fun e w' ⟨u, E, he, hr, b⟩ => ?_
    obtain ⟨d, h1, h2⟩ := hr.own (sto_len l)
    exact ⟨u, E, d, he, h1, h2, b⟩
  · refine (deflate_long w vb l (by omega) hm hb).mono fun e w' ⟨he, hw⟩ => ?_
    subst hw
    exact ⟨_, _, [], he, OwnB.nil _ _, by simp, Below.refl _ _⟩
theorem fresh_any (w : World) (vb : Value) (l : List UInt8) (hl : l.length ≤ 140737488351232) (hb : InB w.heap.size w vb l) :
    Calls Try.prog 6 #[vb] w fun e w' => e = .returned (.bool true) ∧ Below w.heap.size w w' :=
  fresh_walk w vb l hl hb fun w1 v h => deflate_any w1 v l (by omega) h
end Go.Proofs.Ytcjfaahlchbcmaa
