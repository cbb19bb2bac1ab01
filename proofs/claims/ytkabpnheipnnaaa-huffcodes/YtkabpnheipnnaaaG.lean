/- The walk of HuffCodes. -/
import Derived.Test.YtkabpnheipnnaaaZb
namespace Go.Proofs.Ytkabpnheipnnaaa
open Go.RowKit Go.BigFrame

/-- What the codes of lengths are, none where they may not be. -/
def cdo (l : List Int) : List (Nat × Int) := if Gf.chkE l = 0 then cds l l.length else []
theorem cdo_len (l : List Int) : (cdo l).length ≤ l.length := by
  unfold cdo; split
  · rw [cds_len]; exact Nat.le_refl _
  · exact Nat.zero_le _
theorem Prs.nil (N : Nat) (w : World) : Prs N w (.slice none 0 0) [] := ⟨none, 0, rfl, Nat.le_refl _, .inl rfl⟩
theorem Coded.prs {w w' : World} {l : List Int} {u : Value} (h : Coded w w' l u) : Prs w'.heap.size w' u (cdo l) := by
  rcases h with ⟨e, g, rfl, _, r⟩ | ⟨e, rfl⟩
  · rw [show cdo l = cds l l.length from if_pos e]
    exact r.prs (cds_len l _)
  · rw [show cdo l = [] from if_neg e]
    exact Prs.nil _ _

set_option maxRecDepth 100000 in
set_option maxHeartbeats 4000000 in
theorem huffcodes_any (v vb : Value) (l : List Int) (b : List UInt8) (at' : Int) (hl : l.length ≤ 17592186044416) (hb : b.length ≤ 140737488355328) (hp : at' ≤ 9223372036854775807) (w : World) (h : Ints w.heap.size w v l) (hB : Bts (· < w.heap.size) w vb b) :
    Calls Try.prog 3 #[v, vb, .int .i64 at'] w fun e w' => e = .returned (.bool true) ∧ Below w.heap.size w w' := by
  have upB : ∀ {W : World}, Below w.heap.size w W → Bts (· < W.heap.size) W vb b := fun hb' => hB.keep fun b hs => ⟨Nat.lt_of_lt_of_le hs hb'.size, hb'.block b hs⟩
  have h1 := codes_any v l hl w h
  have h2 : ∀ {W : World}, Below w.heap.size w W → _ := fun {W} hb' => refCodes_any v l hl W (h.on hb')
  have h3 : ∀ {W : World}, Below w.heap.size w W → _ := fun {W} hb' => weight_any v l hl W (h.on hb')
  have h4 : ∀ {W : World}, Below w.heap.size w W → _ := fun {W} hb' => refWeight_any v l hl W (h.on hb')
  have h5 : ∀ {W : World}, Below w.heap.size w W → _ := fun {W} hb' => symbol_any v vb l b at' hl hb hp W (h.on hb') (upB hb')
  have h6 : ∀ {W : World}, Below w.heap.size w W → _ := fun {W} hb' => refSymbol_any v vb l b at' hl hb hp W (h.on hb') (upB hb')
  have H2 := Box'.mk @h2
  have H3 := Box'.mk @h3
  have H4 := Box'.mk @h4
  have H5 := Box'.mk @h5
  have H6 := Box'.mk @h6
  clear h2 h3 h4 h5 h6 upB
  have P1 : Box' (∀ W' u, Coded w W' l u → Prs W'.heap.size W' u (cdo l)) := ⟨fun W' u h => h.prs⟩
  have P2 : Box' (∀ (W' : World) u, ((Gf.chkE l = 0 ∧ Prs W'.heap.size W' u (cds l l.length)) ∨ (Gf.chkE l ≠ 0 ∧ u = .slice none 0 0)) → Prs W'.heap.size W' u (cdo l)) := ⟨fun W' u h => by
    rcases h with ⟨e, r⟩ | ⟨e, rfl⟩
    · rw [show cdo l = cds l l.length from if_pos e]; exact r
    · rw [show cdo l = [] from if_neg e]; exact Prs.nil _ _⟩
  have hlo := Nat.le_trans (cdo_len l) hl
  have ha := fun w => anchored_any w
  obtain ⟨a, c, rfl, hc, _⟩ := h
  obtain ⟨ab, cb, rfl, hcb, _⟩ := hB
  unfold sv at H5 H6
  generalize Gf.symR l b at' = SR at *
  generalize Gf.wgtN l = WN at *
  generalize Gf.wgtE l = WE at *
  generalize cdo l = CO at *
  go_enter Try.func3, Try.ntmps3
  go_wp2_with fail
  refine h1.mono ?_
  rintro e w1 ⟨u1, rfl, p1, b1⟩
  have q1 := P1.out _ _ p1
  clear h1 p1 P1
  go_wp2_with fail
  refine (H2.out b1).mono ?_
  rintro e w2 ⟨u2, rfl, p2, b2⟩
  have q2 := P2.out _ _ p2
  have q12 := q1.on b2
  have bl2 := b1.trans (b2.mono b1.size)
  generalize Gf.chkE l = E at *
  have h3 := H3.out bl2
  have h4 := H4.out bl2
  clear p2 q1 b1 b2 H2 P2 H3 H4
  go_wp2_with (first | (go_at_call 10; refine h3.mono ?_; rintro e w' ⟨rfl, hw'⟩; rw [hw']) | (go_at_call 11; refine h4.mono ?_; rintro e w'' ⟨rfl, hw''⟩; rw [hw'']) | fail)
  refine (H5.out bl2).mono ?_
  rintro e w3 ⟨rfl, b3⟩
  have q13 := q12.on b3
  have q23 := q2.on b3
  have bl3 := bl2.trans (b3.mono bl2.size)
  clear q12 q2 bl2 b3 H5 h3 h4
  go_wp2_with fail
  refine (H6.out bl3).mono ?_
  rintro e w4 ⟨rfl, b4⟩
  have hs := same_any _ _ _ hlo _ (q13.on b4) (q23.on b4)
  have bl4 := bl3.trans (b4.mono bl3.size)
  clear q23 q13 bl3 b4 H6
  obtain ⟨s1, s2, s3⟩ := SR
  simp only
  go_wp2_with fail
  refine hs.mono ?_
  rintro e w5 ⟨rfl, b5⟩
  have bl5 := bl4.trans (b5.mono bl4.size)
  clear bl4 b5 hs
  go_wp2_with (first | (go_at_call 15; refine (ha _).mono ?_; rintro e w6 ⟨rfl, hb6⟩) | fail)
  go_ret
  exact ⟨rfl, bl5.trans (hb6.mono bl5.size)⟩
end Go.Proofs.Ytkabpnheipnnaaa
