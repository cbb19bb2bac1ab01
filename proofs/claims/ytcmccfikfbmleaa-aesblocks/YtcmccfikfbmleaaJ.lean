/- The walk of AesBack. -/
import Derived.Test.YtcmccfikfbmleaaD
import Derived.Test.YtcmccfikfbmleaaH
import Derived.Test.YtcmccfikfbmleaaW
import Derived.Test.YtcmccfikfbmleaaI
namespace Go.Proofs.Ytcmccfikfbmleaa
open Go.RowKit Go.BigFrame

theorem Try.zero27 : (Try.prog.info? 27).map (fun i => (i.zero, i.size)) = some (some (.agg (ag (Gf.zeros 16))), 16) := by kernel_rfl

/-- What stands in the middle of 'x, y := aes.Encrypt(key, a), aes.Encrypt(key, b)', whatever has been carried out. -/
structure Inv5 (N : Nat) (key a b x y : List UInt8) (w0 : World) (D : Nat → Prop) (u7 u8 u9 u10 u11 u12 u13 u14 : Value) (p q : Nat) (w : World) : Prop where
  r1 : Row w N 27 (ag key)
  r2 : Row w (N + 1) 27 (ag a)
  r3 : Row w (N + 1 + 1) 27 (ag b)
  bel : Below N w0 w
  d0 : D 0 → u9 = .agg (ag key)
  d1 : D 1 → u10 = .agg (ag a)
  d2 : D 2 → u11 = .agg (ag x)
  d3 : D 3 → u12 = .agg (ag key)
  d4 : D 4 → u13 = .agg (ag b)
  d5 : D 5 → u14 = .agg (ag y)
  d6 : D 6 → u7 = .pointer (some ⟨p, 0, none⟩) ∧ N + 1 + 1 < p ∧ Room w p 27 16
  d7 : D 7 → u8 = .pointer (some ⟨q, 0, none⟩) ∧ N + 1 + 1 < q ∧ Room w q 27 16
  dne : D 6 → D 7 → p ≠ q
  d8 : D 8 → Row w p 27 (ag x)
  d9 : D 9 → Row w q 27 (ag y)
  e8 : D 8 → D 6 ∧ D 7
  e9 : D 9 → D 6 ∧ D 7

theorem Inv5.below {N : Nat} {key a b x y : List UInt8} {w0 : World} {D : Nat → Prop} {u7 u8 u9 u10 u11 u12 u13 u14 : Value} {p q : Nat} {w w' : World}
    (h : Inv5 N key a b x y w0 D u7 u8 u9 u10 u11 u12 u13 u14 p q w) (hb : Below w.heap.size w w') : Inv5 N key a b x y w0 D u7 u8 u9 u10 u11 u12 u13 u14 p q w' :=
  { h with
    r1 := h.r1.below hb h.r1.lt
    r2 := h.r2.below hb h.r2.lt
    r3 := h.r3.below hb h.r3.lt
    bel := h.bel.trans (hb.mono (by have := h.r1.lt; omega))
    d6 := fun d => ⟨(h.d6 d).1, (h.d6 d).2.1, (h.d6 d).2.2.below hb ((h.d6 d).2.2.elim fun _ h => h.1.lt)⟩
    d7 := fun d => ⟨(h.d7 d).1, (h.d7 d).2.1, (h.d7 d).2.2.below hb ((h.d7 d).2.2.elim fun _ h => h.1.lt)⟩
    d8 := fun d => (h.d8 d).below hb (h.d8 d).lt
    d9 := fun d => (h.d9 d).below hb (h.d9 d).lt }

def fr5 (N : Nat) (key a b : List UInt8) (u7 u8 u9 u10 u11 u12 u13 u14 : Value) : Act := { tmps := #[.agg (ag key), .agg (ag a), .agg (ag b), .pointer (some ⟨N, 0, none⟩), .pointer (some ⟨N + 1, 0, none⟩), .pointer (some ⟨N + 1 + 1, 0, none⟩), .bool false, u7, u8, u9, u10, u11, u12, u13, u14, undef, undef, undef, undef, undef, undef, undef, undef, undef, undef, undef, undef, undef, undef, undef, undef, undef, undef, undef, undef, undef, undef, undef, undef, undef, undef], defers := [] }
def I5 (N : Nat) (key a b x y : List UInt8) (w0 : World) (L : Array Bool) (A : Act) (W : World) : Prop :=
  ∃ u7 u8 u9 u10 u11 u12 u13 u14 p q, L.size = 10 ∧ A = fr5 N key a b u7 u8 u9 u10 u11 u12 u13 u14 ∧ Inv5 N key a b x y w0 (fun k => L.getD k false = true) u7 u8 u9 u10 u11 u12 u13 u14 p q W

set_option maxRecDepth 100000 in
set_option maxHeartbeats 2000000 in
theorem back_any (key a b : List UInt8) (hkey : key.length = 16) (ha : a.length = 16) (hb : b.length = 16) (w : World) :
    Calls Try.prog 5 #[.agg (ag key), .agg (ag a), .agg (ag b)] w fun e w' => e = .returned (.bool true) ∧ Below w.heap.size w w' := by
  have HX : Hid ((Gf.encrypt key a).length = 16) := Gf.encrypt_len key a
  have HY : Hid ((Gf.encrypt key b).length = 16) := Gf.encrypt_len key b
  go_enter Try.func5, Try.ntmps5
  go_wp2
  refine wp_region_inv (by kernel_rfl) (I5 w.heap.size key a b (Gf.encrypt key a) (Gf.encrypt key b) w) ?_ ?_ ?_
  · refine ⟨undef, undef, undef, undef, undef, undef, undef, undef, 0, 0, by simp, rfl, ?_⟩
    have hn : ∀ k, ¬ ((Array.replicate 10 false).getD k false = true) := by
      intro k h
      rw [Array.getD_eq_getD_getElem?, Array.getElem?_replicate] at h
      split at h <;> simp at h
    exact { r1 := ((Row.new _ _ _).alloc _).alloc _, r2 := (Row.made _ _ _ _ _ rfl (by simp)).alloc _, r3 := Row.made _ _ _ _ _ rfl (by simp)
            bel := ((((Below.refl w.heap.size w).alloc (Nat.le_refl _) _).alloc (by simp) _).alloc (by simp; omega) _).drew
            d0 := fun h => absurd h (hn _), d1 := fun h => absurd h (hn _), d2 := fun h => absurd h (hn _), d3 := fun h => absurd h (hn _), d4 := fun h => absurd h (hn _), d5 := fun h => absurd h (hn _)
            d6 := fun h => absurd h (hn _), d7 := fun h => absurd h (hn _), dne := fun h => absurd h (hn _), d8 := fun h => absurd h (hn _), d9 := fun h => absurd h (hn _), e8 := fun h => absurd h (hn _), e9 := fun h => absurd h (hn _) }
  · rintro L A W i o ⟨u7, u8, u9, u10, u11, u12, u13, u14, p, q, hsz, rfl, hI⟩ hL ho hdep
    have hi : i < 10 := (Array.getElem?_eq_some_iff.1 ho).1
    have hnd := getD_not hL
    have hcase : i = 0 ∨ i = 1 ∨ i = 2 ∨ i = 3 ∨ i = 4 ∨ i = 5 ∨ i = 6 ∨ i = 7 ∨ i = 8 ∨ i = 9 := by omega
    have hS : (L.setIfInBounds i true).size = 10 := by simpa using hsz
    rcases hcase with rfl | rfl | rfl | rfl | rfl | rfl | rfl | rfl | rfl | rfl
    · simp only [List.getElem?_toArray, List.getElem?_cons_zero, Option.some.injEq] at ho
      subst ho
      refine wpOp_plain rfl rfl ?_
      have hD' : ∀ k, ¬ k = 0 → (L.setIfInBounds 0 true).getD k false = true → L.getD k false = true := fun k hk h => (getD_set L 0 k h).resolve_left hk
      refine wp_load_row 27 _ rfl _ rfl _ _ hI.r1 _ Try.underlying27 rfl 16 Try.info27 (by rw [ag_size]; exact hkey) ?_
      exact ⟨u7, u8, _, u10, u11, u12, u13, u14, p, q, hS, rfl, { d0 := fun _ => rfl, d1 := fun h => hI.d1 (hD' 1 (by decide) h), d2 := fun h => hI.d2 (hD' 2 (by decide) h), d3 := fun h => hI.d3 (hD' 3 (by decide) h), d4 := fun h => hI.d4 (hD' 4 (by decide) h), d5 := fun h => hI.d5 (hD' 5 (by decide) h), d6 := fun h => hI.d6 (hD' 6 (by decide) h), d7 := fun h => hI.d7 (hD' 7 (by decide) h), d8 := fun h => hI.d8 (hD' 8 (by decide) h), d9 := fun h => hI.d9 (hD' 9 (by decide) h), r1 := hI.r1, r2 := hI.r2, r3 := hI.r3, bel := hI.bel, dne := fun h h' => hI.dne (hD' 6 (by decide) h) (hD' 7 (by decide) h'), e8 := fun h => ⟨getD_keep L _ _ (hI.e8 (hD' 8 (by decide) h)).1, getD_keep L _ _ (hI.e8 (hD' 8 (by decide) h)).2⟩, e9 := fun h => ⟨getD_keep L _ _ (hI.e9 (hD' 9 (by decide) h)).1, getD_keep L _ _ (hI.e9 (hD' 9 (by decide) h)).2⟩ }⟩
    · simp only [List.getElem?_toArray, List.getElem?_cons_succ, List.getElem?_cons_zero, Option.some.injEq] at ho
      subst ho
      refine wpOp_plain rfl rfl ?_
      have hD' : ∀ k, ¬ k = 1 → (L.setIfInBounds 1 true).getD k false = true → L.getD k false = true := fun k hk h => (getD_set L 1 k h).resolve_left hk
      refine wp_load_row 27 _ rfl _ rfl _ _ hI.r2 _ Try.underlying27 rfl 16 Try.info27 (by rw [ag_size]; exact ha) ?_
      exact ⟨u7, u8, u9, _, u11, u12, u13, u14, p, q, hS, rfl, { d0 := fun h => hI.d0 (hD' 0 (by decide) h), d1 := fun _ => rfl, d2 := fun h => hI.d2 (hD' 2 (by decide) h), d3 := fun h => hI.d3 (hD' 3 (by decide) h), d4 := fun h => hI.d4 (hD' 4 (by decide) h), d5 := fun h => hI.d5 (hD' 5 (by decide) h), d6 := fun h => hI.d6 (hD' 6 (by decide) h), d7 := fun h => hI.d7 (hD' 7 (by decide) h), d8 := fun h => hI.d8 (hD' 8 (by decide) h), d9 := fun h => hI.d9 (hD' 9 (by decide) h), r1 := hI.r1, r2 := hI.r2, r3 := hI.r3, bel := hI.bel, dne := fun h h' => hI.dne (hD' 6 (by decide) h) (hD' 7 (by decide) h'), e8 := fun h => ⟨getD_keep L _ _ (hI.e8 (hD' 8 (by decide) h)).1, getD_keep L _ _ (hI.e8 (hD' 8 (by decide) h)).2⟩, e9 := fun h => ⟨getD_keep L _ _ (hI.e9 (hD' 9 (by decide) h)).1, getD_keep L _ _ (hI.e9 (hD' 9 (by decide) h)).2⟩ }⟩
    · simp only [List.getElem?_toArray, List.getElem?_cons_succ, List.getElem?_cons_zero, Option.some.injEq] at ho
      subst ho
      refine wpOp_plain rfl rfl ?_
      have hD' : ∀ k, ¬ k = 2 → (L.setIfInBounds 2 true).getD k false = true → L.getD k false = true := fun k hk h => (getD_set L 2 k h).resolve_left hk
      have g1 : u9 = .agg (ag key) := hI.d0 (hdep ⟨0, .data⟩ (by simp) rfl)
      have g2 : u10 = .agg (ag a) := hI.d1 (hdep ⟨1, .data⟩ (by simp) rfl)
      subst g1 g2
      refine wp_call 16 #[.agg (ag key), .agg (ag a)] (by simp [execOp, fr5, go_sem]) (.agg (ag (Gf.encrypt key a))) _ (encrypt_any key a hkey ha W) (fun w' hb' => ?_)
      have hJ := hI.below hb'
      exact ⟨u7, u8, _, _, _, u12, u13, u14, p, q, hS, rfl, { d0 := fun h => hJ.d0 (hD' 0 (by decide) h), d1 := fun h => hJ.d1 (hD' 1 (by decide) h), d2 := fun _ => rfl, d3 := fun h => hJ.d3 (hD' 3 (by decide) h), d4 := fun h => hJ.d4 (hD' 4 (by decide) h), d5 := fun h => hJ.d5 (hD' 5 (by decide) h), d6 := fun h => hJ.d6 (hD' 6 (by decide) h), d7 := fun h => hJ.d7 (hD' 7 (by decide) h), d8 := fun h => hJ.d8 (hD' 8 (by decide) h), d9 := fun h => hJ.d9 (hD' 9 (by decide) h), r1 := hJ.r1, r2 := hJ.r2, r3 := hJ.r3, bel := hJ.bel, dne := fun h h' => hJ.dne (hD' 6 (by decide) h) (hD' 7 (by decide) h'), e8 := fun h => ⟨getD_keep L _ _ (hJ.e8 (hD' 8 (by decide) h)).1, getD_keep L _ _ (hJ.e8 (hD' 8 (by decide) h)).2⟩, e9 := fun h => ⟨getD_keep L _ _ (hJ.e9 (hD' 9 (by decide) h)).1, getD_keep L _ _ (hJ.e9 (hD' 9 (by decide) h)).2⟩ }⟩
    · simp only [List.getElem?_toArray, List.getElem?_cons_succ, List.getElem?_cons_zero, Option.some.injEq] at ho
      subst ho
      refine wpOp_plain rfl rfl ?_
      have hD' : ∀ k, ¬ k = 3 → (L.setIfInBounds 3 true).getD k false = true → L.getD k false = true := fun k hk h => (getD_set L 3 k h).resolve_left hk
      refine wp_load_row 27 _ rfl _ rfl _ _ hI.r1 _ Try.underlying27 rfl 16 Try.info27 (by rw [ag_size]; exact hkey) ?_
      exact ⟨u7, u8, u9, u10, u11, _, u13, u14, p, q, hS, rfl, { d0 := fun h => hI.d0 (hD' 0 (by decide) h), d1 := fun h => hI.d1 (hD' 1 (by decide) h), d2 := fun h => hI.d2 (hD' 2 (by decide) h), d3 := fun _ => rfl, d4 := fun h => hI.d4 (hD' 4 (by decide) h), d5 := fun h => hI.d5 (hD' 5 (by decide) h), d6 := fun h => hI.d6 (hD' 6 (by decide) h), d7 := fun h => hI.d7 (hD' 7 (by decide) h), d8 := fun h => hI.d8 (hD' 8 (by decide) h), d9 := fun h => hI.d9 (hD' 9 (by decide) h), r1 := hI.r1, r2 := hI.r2, r3 := hI.r3, bel := hI.bel, dne := fun h h' => hI.dne (hD' 6 (by decide) h) (hD' 7 (by decide) h'), e8 := fun h => ⟨getD_keep L _ _ (hI.e8 (hD' 8 (by decide) h)).1, getD_keep L _ _ (hI.e8 (hD' 8 (by decide) h)).2⟩, e9 := fun h => ⟨getD_keep L _ _ (hI.e9 (hD' 9 (by decide) h)).1, getD_keep L _ _ (hI.e9 (hD' 9 (by decide) h)).2⟩ }⟩
    · simp only [List.getElem?_toArray, List.getElem?_cons_succ, List.getElem?_cons_zero, Option.some.injEq] at ho
      subst ho
      refine wpOp_plain rfl rfl ?_
      have hD' : ∀ k, ¬ k = 4 → (L.setIfInBounds 4 true).getD k false = true → L.getD k false = true := fun k hk h => (getD_set L 4 k h).resolve_left hk
      refine wp_load_row 27 _ rfl _ rfl _ _ hI.r3 _ Try.underlying27 rfl 16 Try.info27 (by rw [ag_size]; exact hb) ?_
      exact ⟨u7, u8, u9, u10, u11, u12, _, u14, p, q, hS, rfl, { d0 := fun h => hI.d0 (hD' 0 (by decide) h), d1 := fun h => hI.d1 (hD' 1 (by decide) h), d2 := fun h => hI.d2 (hD' 2 (by decide) h), d3 := fun h => hI.d3 (hD' 3 (by decide) h), d4 := fun _ => rfl, d5 := fun h => hI.d5 (hD' 5 (by decide) h), d6 := fun h => hI.d6 (hD' 6 (by decide) h), d7 := fun h => hI.d7 (hD' 7 (by decide) h), d8 := fun h => hI.d8 (hD' 8 (by decide) h), d9 := fun h => hI.d9 (hD' 9 (by decide) h), r1 := hI.r1, r2 := hI.r2, r3 := hI.r3, bel := hI.bel, dne := fun h h' => hI.dne (hD' 6 (by decide) h) (hD' 7 (by decide) h'), e8 := fun h => ⟨getD_keep L _ _ (hI.e8 (hD' 8 (by decide) h)).1, getD_keep L _ _ (hI.e8 (hD' 8 (by decide) h)).2⟩, e9 := fun h => ⟨getD_keep L _ _ (hI.e9 (hD' 9 (by decide) h)).1, getD_keep L _ _ (hI.e9 (hD' 9 (by decide) h)).2⟩ }⟩
    · simp only [List.getElem?_toArray, List.getElem?_cons_succ, List.getElem?_cons_zero, Option.some.injEq] at ho
      subst ho
      refine wpOp_plain rfl rfl ?_
      have hD' : ∀ k, ¬ k = 5 → (L.setIfInBounds 5 true).getD k false = true → L.getD k false = true := fun k hk h => (getD_set L 5 k h).resolve_left hk
      have g1 : u12 = .agg (ag key) := hI.d3 (hdep ⟨3, .data⟩ (by simp) rfl)
      have g2 : u13 = .agg (ag b) := hI.d4 (hdep ⟨4, .data⟩ (by simp) rfl)
      subst g1 g2
      refine wp_call 16 #[.agg (ag key), .agg (ag b)] (by simp [execOp, fr5, go_sem]) (.agg (ag (Gf.encrypt key b))) _ (encrypt_any key b hkey hb W) (fun w' hb' => ?_)
      have hJ := hI.below hb'
      exact ⟨u7, u8, u9, u10, u11, _, _, _, p, q, hS, rfl, { d0 := fun h => hJ.d0 (hD' 0 (by decide) h), d1 := fun h => hJ.d1 (hD' 1 (by decide) h), d2 := fun h => hJ.d2 (hD' 2 (by decide) h), d3 := fun h => hJ.d3 (hD' 3 (by decide) h), d4 := fun h => hJ.d4 (hD' 4 (by decide) h), d5 := fun _ => rfl, d6 := fun h => hJ.d6 (hD' 6 (by decide) h), d7 := fun h => hJ.d7 (hD' 7 (by decide) h), d8 := fun h => hJ.d8 (hD' 8 (by decide) h), d9 := fun h => hJ.d9 (hD' 9 (by decide) h), r1 := hJ.r1, r2 := hJ.r2, r3 := hJ.r3, bel := hJ.bel, dne := fun h h' => hJ.dne (hD' 6 (by decide) h) (hD' 7 (by decide) h'), e8 := fun h => ⟨getD_keep L _ _ (hJ.e8 (hD' 8 (by decide) h)).1, getD_keep L _ _ (hJ.e8 (hD' 8 (by decide) h)).2⟩, e9 := fun h => ⟨getD_keep L _ _ (hJ.e9 (hD' 9 (by decide) h)).1, getD_keep L _ _ (hJ.e9 (hD' 9 (by decide) h)).2⟩ }⟩
    · simp only [List.getElem?_toArray, List.getElem?_cons_succ, List.getElem?_cons_zero, Option.some.injEq] at ho
      subst ho
      refine wpOp_plain rfl rfl ?_
      have hD' : ∀ k, ¬ k = 6 → (L.setIfInBounds 6 true).getD k false = true → L.getD k false = true := fun k hk h => (getD_set L 6 k h).resolve_left hk
      have hs3 := hI.r3.lt
      refine wp_alloc_row 27 rfl _ _ Try.zero27 ?_
      exact ⟨_, u8, u9, u10, u11, u12, u13, u14, _, q, hS, rfl, { d0 := fun h => hI.d0 (hD' 0 (by decide) h), d1 := fun h => hI.d1 (hD' 1 (by decide) h), d2 := fun h => hI.d2 (hD' 2 (by decide) h), d3 := fun h => hI.d3 (hD' 3 (by decide) h), d4 := fun h => hI.d4 (hD' 4 (by decide) h), d5 := fun h => hI.d5 (hD' 5 (by decide) h), d6 := fun _ => ⟨rfl, hs3, Room.new _ _ _ _ (by rw [ag_size]; rfl)⟩, d7 := fun h => ⟨(hI.d7 (hD' 7 (by decide) h)).1, (hI.d7 (hD' 7 (by decide) h)).2.1, (hI.d7 (hD' 7 (by decide) h)).2.2.alloc _⟩, d8 := fun h => absurd (hI.e8 (hD' 8 (by decide) h)).1 hnd, d9 := fun h => absurd (hI.e9 (hD' 9 (by decide) h)).1 hnd, r1 := hI.r1.alloc _, r2 := hI.r2.alloc _, r3 := hI.r3.alloc _, bel := hI.bel.alloc (by omega) _, dne := fun _ h' => by have := (hI.d7 (hD' 7 (by decide) h')).2.2.elim fun _ h => h.1.lt; omega, e8 := fun h => ⟨getD_keep L _ _ (hI.e8 (hD' 8 (by decide) h)).1, getD_keep L _ _ (hI.e8 (hD' 8 (by decide) h)).2⟩, e9 := fun h => ⟨getD_keep L _ _ (hI.e9 (hD' 9 (by decide) h)).1, getD_keep L _ _ (hI.e9 (hD' 9 (by decide) h)).2⟩ }⟩
    · simp only [List.getElem?_toArray, List.getElem?_cons_succ, List.getElem?_cons_zero, Option.some.injEq] at ho
      subst ho
      refine wpOp_plain rfl rfl ?_
      have hD' : ∀ k, ¬ k = 7 → (L.setIfInBounds 7 true).getD k false = true → L.getD k false = true := fun k hk h => (getD_set L 7 k h).resolve_left hk
      have hs3 := hI.r3.lt
      refine wp_alloc_row 27 rfl _ _ Try.zero27 ?_
      exact ⟨u7, _, u9, u10, u11, u12, u13, u14, p, _, hS, rfl, { d0 := fun h => hI.d0 (hD' 0 (by decide) h), d1 := fun h => hI.d1 (hD' 1 (by decide) h), d2 := fun h => hI.d2 (hD' 2 (by decide) h), d3 := fun h => hI.d3 (hD' 3 (by decide) h), d4 := fun h => hI.d4 (hD' 4 (by decide) h), d5 := fun h => hI.d5 (hD' 5 (by decide) h), d6 := fun h => ⟨(hI.d6 (hD' 6 (by decide) h)).1, (hI.d6 (hD' 6 (by decide) h)).2.1, (hI.d6 (hD' 6 (by decide) h)).2.2.alloc _⟩, d7 := fun _ => ⟨rfl, hs3, Room.new _ _ _ _ (by rw [ag_size]; rfl)⟩, d8 := fun h => absurd (hI.e8 (hD' 8 (by decide) h)).2 hnd, d9 := fun h => absurd (hI.e9 (hD' 9 (by decide) h)).2 hnd, r1 := hI.r1.alloc _, r2 := hI.r2.alloc _, r3 := hI.r3.alloc _, bel := hI.bel.alloc (by omega) _, dne := fun h _ => by have := (hI.d6 (hD' 6 (by decide) h)).2.2.elim fun _ h => h.1.lt; omega, e8 := fun h => ⟨getD_keep L _ _ (hI.e8 (hD' 8 (by decide) h)).1, getD_keep L _ _ (hI.e8 (hD' 8 (by decide) h)).2⟩, e9 := fun h => ⟨getD_keep L _ _ (hI.e9 (hD' 9 (by decide) h)).1, getD_keep L _ _ (hI.e9 (hD' 9 (by decide) h)).2⟩ }⟩
    · simp only [List.getElem?_toArray, List.getElem?_cons_succ, List.getElem?_cons_zero, Option.some.injEq] at ho
      subst ho
      refine wpOp_plain rfl rfl ?_
      have hD' : ∀ k, ¬ k = 8 → (L.setIfInBounds 8 true).getD k false = true → L.getD k false = true := fun k hk h => (getD_set L 8 k h).resolve_left hk
      have D6 := hdep ⟨6, .data⟩ (by simp) rfl
      have D7 := hdep ⟨7, .phase⟩ (by simp) rfl
      obtain ⟨g1, g2, g3⟩ := hI.d6 D6
      obtain ⟨k1, k2, k3⟩ := hI.d7 D7
      have g4 := hI.d2 (hdep ⟨2, .data⟩ (by simp) rfl)
      have hpq := hI.dne D6 D7
      subst g1 g4
      refine wp_store_row 27 _ _ rfl _ rfl _ rfl _ _ g3 Try.info27 (by rw [ag_size]; exact HX.out) (ag_one _) ?_
      exact ⟨_, u8, u9, u10, _, u12, u13, u14, p, q, hS, rfl, { d0 := fun h => hI.d0 (hD' 0 (by decide) h), d1 := fun h => hI.d1 (hD' 1 (by decide) h), d2 := fun _ => rfl, d3 := fun h => hI.d3 (hD' 3 (by decide) h), d4 := fun h => hI.d4 (hD' 4 (by decide) h), d5 := fun h => hI.d5 (hD' 5 (by decide) h), d6 := fun _ => ⟨rfl, g2, (g3.setRow _).room (by rw [ag_size]; exact HX.out)⟩, d7 := fun _ => ⟨k1, k2, k3.setRowOther _ _ (by omega)⟩, d8 := fun _ => g3.setRow _, d9 := fun h => (hI.d9 (hD' 9 (by decide) h)).setRowOther _ _ (by omega), r1 := hI.r1.setRowOther _ _ (by omega), r2 := hI.r2.setRowOther _ _ (by omega), r3 := hI.r3.setRowOther _ _ (by omega), bel := below_setRow hI.bel (by omega) _, dne := fun _ _ => hpq, e8 := fun _ => ⟨getD_keep L _ _ D6, getD_keep L _ _ D7⟩, e9 := fun h => ⟨getD_keep L _ _ (hI.e9 (hD' 9 (by decide) h)).1, getD_keep L _ _ (hI.e9 (hD' 9 (by decide) h)).2⟩ }⟩
    · simp only [List.getElem?_toArray, List.getElem?_cons_succ, List.getElem?_cons_zero, Option.some.injEq] at ho
      subst ho
      refine wpOp_plain rfl rfl ?_
      have hD' : ∀ k, ¬ k = 9 → (L.setIfInBounds 9 true).getD k false = true → L.getD k false = true := fun k hk h => (getD_set L 9 k h).resolve_left hk
      have D6 := hdep ⟨6, .phase⟩ (by simp) rfl
      have D7 := hdep ⟨7, .data⟩ (by simp) rfl
      obtain ⟨g1, g2, g3⟩ := hI.d7 D7
      obtain ⟨k1, k2, k3⟩ := hI.d6 D6
      have g4 := hI.d5 (hdep ⟨5, .data⟩ (by simp) rfl)
      have hpq := hI.dne D6 D7
      subst g1 g4
      refine wp_store_row 27 _ _ rfl _ rfl _ rfl _ _ g3 Try.info27 (by rw [ag_size]; exact HY.out) (ag_one _) ?_
      exact ⟨u7, _, u9, u10, u11, u12, u13, _, p, q, hS, rfl, { d0 := fun h => hI.d0 (hD' 0 (by decide) h), d1 := fun h => hI.d1 (hD' 1 (by decide) h), d2 := fun h => hI.d2 (hD' 2 (by decide) h), d3 := fun h => hI.d3 (hD' 3 (by decide) h), d4 := fun h => hI.d4 (hD' 4 (by decide) h), d5 := fun _ => rfl, d6 := fun _ => ⟨k1, k2, k3.setRowOther _ _ (by omega)⟩, d7 := fun _ => ⟨rfl, g2, (g3.setRow _).room (by rw [ag_size]; exact HY.out)⟩, d8 := fun h => (hI.d8 (hD' 8 (by decide) h)).setRowOther _ _ (by omega), d9 := fun _ => g3.setRow _, r1 := hI.r1.setRowOther _ _ (by omega), r2 := hI.r2.setRowOther _ _ (by omega), r3 := hI.r3.setRowOther _ _ (by omega), bel := below_setRow hI.bel (by omega) _, dne := fun _ _ => hpq, e8 := fun h => ⟨getD_keep L _ _ (hI.e8 (hD' 8 (by decide) h)).1, getD_keep L _ _ (hI.e8 (hD' 8 (by decide) h)).2⟩, e9 := fun _ => ⟨getD_keep L _ _ D6, getD_keep L _ _ D7⟩ }⟩
  · rintro L A W ⟨u7, u8, u9, u10, u11, u12, u13, u14, p, q, hsz, rfl, hI⟩ hr
    have hall := all_done (hB := by kernel_rfl) (L := L) (hr := hr) (hs := by rw [hsz]; rfl)
    have r1 := hI.r1
    have r2 := hI.r2
    have r3 := hI.r3
    have hbl := hI.bel
    have c0 := hI.d0 (hall 0 (by decide))
    have c1 := hI.d1 (hall 1 (by decide))
    have c2 := hI.d2 (hall 2 (by decide))
    have c3 := hI.d3 (hall 3 (by decide))
    have c4 := hI.d4 (hall 4 (by decide))
    have c5 := hI.d5 (hall 5 (by decide))
    have c6 := (hI.d6 (hall 6 (by decide))).1
    have c7 := (hI.d7 (hall 7 (by decide))).1
    have r4 := hI.d8 (hall 8 (by decide))
    have r5 := hI.d9 (hall 9 (by decide))
    clear hI hall hr hsz
    subst c0 c1 c2 c3 c4 c5 c6 c7
    unfold fr5
    have hinj0 := Gf.encrypt_inj key a b ha hb
    have hda := Gf.decrypt_encrypt key a ha
    have hC0 : ∀ w', Below W.heap.size W w' → ∀ w'', Below w'.heap.size w' w'' → Below W.heap.size W w'' := fun w' h w'' h' => h.trans (h'.mono h.size)
    have hDx : ∀ w', Below W.heap.size W w' → Calls Try.prog 18 #[.agg (ag key), .agg (ag (Gf.encrypt key a))] w' (fun e w'' => e = .returned (.agg (ag a)) ∧ Below W.heap.size W w'') := fun w' h => (decrypt_any key _ hkey HX.out w').mono fun e w'' h' => ⟨by rw [h'.1, hda], hC0 w' h w'' h'.2⟩
    have hDb : ∀ w', Below W.heap.size W w' → Calls Try.prog 18 #[.agg (ag key), .agg (ag b)] w' (fun e w'' => e = .returned (.agg (ag (Gf.decrypt key b))) ∧ Below W.heap.size W w'') := fun w' h => (decrypt_any key b hkey hb w').mono fun e w'' h' => ⟨h'.1, hC0 w' h w'' h'.2⟩
    have hEd : ∀ w', Below W.heap.size W w' → Calls Try.prog 16 #[.agg (ag key), .agg (ag (Gf.decrypt key b))] w' (fun e w'' => e = .returned (.agg (ag b)) ∧ Below W.heap.size W w'') := fun w' h => (encrypt_any key _ hkey (Gf.decrypt_len key b) w').mono fun e w'' h' => ⟨by rw [h'.1, Gf.encrypt_decrypt key b hb], hC0 w' h w'' h'.2⟩
    have hA : ∀ w', Below W.heap.size W w' → Calls Try.prog 13 #[] w' (fun e w'' => e = .returned (.bool true) ∧ Below W.heap.size W w'') := fun w' h => (anchored_any w').mono fun e w'' h' => ⟨h'.1, hC0 w' h w'' h'.2⟩
    clear hda
    generalize Gf.encrypt key a = x at *
    generalize Gf.encrypt key b = y at *
    have hinj : decide (x = y) = decide (a = b) := by rw [decide_eq_decide]; exact hinj0
    have R1 : ∀ w', Below W.heap.size W w' → Row w' w.heap.size 27 (ag key) := fun w' h => r1.below h r1.lt
    have R2 : ∀ w', Below W.heap.size W w' → Row w' (w.heap.size + 1) 27 (ag a) := fun w' h => r2.below h r2.lt
    have R3 : ∀ w', Below W.heap.size W w' → Row w' (w.heap.size + 1 + 1) 27 (ag b) := fun w' h => r3.below h r3.lt
    have R4 : ∀ w', Below W.heap.size W w' → Row w' p 27 (ag x) := fun w' h => r4.below h r4.lt
    have R5 : ∀ w', Below W.heap.size W w' → Row w' q 27 (ag y) := fun w' h => r5.below h r5.lt
    have hz : w.heap.size ≤ W.heap.size := hbl.size
    go_wp2
    refine wp_region_quiet (C := fun w' => Below W.heap.size W w') (by kernel_rfl) (by kernel_rfl) (Below.refl _ _).drew ?_
    simp only
    go_big_quiet_want
    refine quiet_call 13 #[] (.bool true) (fun w' => by simp [go_sem]) hA ?_
    go_big_quiet_on
    simp only [Act.put, List.setIfInBounds_toArray, List.set_cons_succ, List.set_cons_zero]
    go_big_quiet_step (fail)
    go_big_quiet_want
    refine quiet_load_row 27 _ rfl _ rfl _ _ R1 _ Try.underlying27 rfl 16 Try.info27 (by rw [ag_size]; exact hkey) ?_
    go_big_quiet_on
    simp only [Act.put, List.setIfInBounds_toArray, List.set_cons_succ, List.set_cons_zero]
    go_big_quiet_want
    refine quiet_load_row 27 _ rfl _ rfl _ _ R4 _ Try.underlying27 rfl 16 Try.info27 (by rw [ag_size]; exact HX.out) ?_
    go_big_quiet_on
    simp only [Act.put, List.setIfInBounds_toArray, List.set_cons_succ, List.set_cons_zero]
    go_big_quiet_want
    refine quiet_call 18 #[.agg (ag key), .agg (ag x)] (.agg (ag a)) (fun w' => by simp [go_sem]) hDx ?_
    go_big_quiet_on
    simp only [Act.put, List.setIfInBounds_toArray, List.set_cons_succ, List.set_cons_zero]
    go_big_quiet_want
    refine quiet_load_row 27 _ rfl _ rfl _ _ R2 _ Try.underlying27 rfl 16 Try.info27 (by rw [ag_size]; exact ha) ?_
    go_big_quiet_on
    simp only [Act.put, List.setIfInBounds_toArray, List.set_cons_succ, List.set_cons_zero]
    go_big_quiet_want
    refine quiet_run _ (run_eql_op 27 5 _ 16 .u8 _ _ rfl (by kernel_rfl) Try.underlying27 Try.underlying5 (by kernel_rfl) a a rfl rfl ha ha true (decide_eq_true rfl)) ?_
    go_big_quiet_on
    simp only [Act.put, List.setIfInBounds_toArray, List.set_cons_succ, List.set_cons_zero]
    go_big_quiet_want
    refine quiet_run (.bool true) (run_pick_op _ _ _ rfl true rfl (.bool true) rfl) ?_
    go_big_quiet_on
    simp only [Act.put, List.setIfInBounds_toArray, List.set_cons_succ, List.set_cons_zero]
    go_big_quiet_step (fail)
    go_big_quiet_want
    refine quiet_load_row 27 _ rfl _ rfl _ _ R1 _ Try.underlying27 rfl 16 Try.info27 (by rw [ag_size]; exact hkey) ?_
    go_big_quiet_on
    simp only [Act.put, List.setIfInBounds_toArray, List.set_cons_succ, List.set_cons_zero]
    go_big_quiet_want
    refine quiet_load_row 27 _ rfl _ rfl _ _ R1 _ Try.underlying27 rfl 16 Try.info27 (by rw [ag_size]; exact hkey) ?_
    go_big_quiet_on
    simp only [Act.put, List.setIfInBounds_toArray, List.set_cons_succ, List.set_cons_zero]
    go_big_quiet_want
    refine quiet_load_row 27 _ rfl _ rfl _ _ R3 _ Try.underlying27 rfl 16 Try.info27 (by rw [ag_size]; exact hb) ?_
    go_big_quiet_on
    simp only [Act.put, List.setIfInBounds_toArray, List.set_cons_succ, List.set_cons_zero]
    go_big_quiet_want
    refine quiet_call 18 #[.agg (ag key), .agg (ag b)] (.agg (ag (Gf.decrypt key b))) (fun w' => by simp [go_sem]) hDb ?_
    go_big_quiet_on
    simp only [Act.put, List.setIfInBounds_toArray, List.set_cons_succ, List.set_cons_zero]
    go_big_quiet_want
    refine quiet_call 16 #[.agg (ag key), .agg (ag (Gf.decrypt key b))] (.agg (ag b)) (fun w' => by simp [go_sem]) hEd ?_
    go_big_quiet_on
    simp only [Act.put, List.setIfInBounds_toArray, List.set_cons_succ, List.set_cons_zero]
    go_big_quiet_want
    refine quiet_load_row 27 _ rfl _ rfl _ _ R3 _ Try.underlying27 rfl 16 Try.info27 (by rw [ag_size]; exact hb) ?_
    go_big_quiet_on
    simp only [Act.put, List.setIfInBounds_toArray, List.set_cons_succ, List.set_cons_zero]
    go_big_quiet_want
    refine quiet_run _ (run_eql_op 27 5 _ 16 .u8 _ _ rfl (by kernel_rfl) Try.underlying27 Try.underlying5 (by kernel_rfl) b b rfl rfl hb hb true (decide_eq_true rfl)) ?_
    go_big_quiet_on
    simp only [Act.put, List.setIfInBounds_toArray, List.set_cons_succ, List.set_cons_zero]
    go_big_quiet_want
    refine quiet_run (.bool true) (run_pick_op _ _ _ rfl true rfl (.bool true) rfl) ?_
    go_big_quiet_on
    simp only [Act.put, List.setIfInBounds_toArray, List.set_cons_succ, List.set_cons_zero]
    go_big_quiet_step (fail)
    go_big_quiet_want
    refine quiet_load_row 27 _ rfl _ rfl _ _ R2 _ Try.underlying27 rfl 16 Try.info27 (by rw [ag_size]; exact ha) ?_
    go_big_quiet_on
    simp only [Act.put, List.setIfInBounds_toArray, List.set_cons_succ, List.set_cons_zero]
    go_big_quiet_want
    refine quiet_load_row 27 _ rfl _ rfl _ _ R3 _ Try.underlying27 rfl 16 Try.info27 (by rw [ag_size]; exact hb) ?_
    go_big_quiet_on
    simp only [Act.put, List.setIfInBounds_toArray, List.set_cons_succ, List.set_cons_zero]
    go_big_quiet_want
    refine quiet_run _ (run_eql_op 27 5 _ 16 .u8 _ _ rfl (by kernel_rfl) Try.underlying27 Try.underlying5 (by kernel_rfl) a b rfl rfl ha hb (decide (a = b)) rfl) ?_
    go_big_quiet_on
    simp only [Act.put, List.setIfInBounds_toArray, List.set_cons_succ, List.set_cons_zero]
    go_big_quiet_want
    refine quiet_load_row 27 _ rfl _ rfl _ _ R4 _ Try.underlying27 rfl 16 Try.info27 (by rw [ag_size]; exact HX.out) ?_
    go_big_quiet_on
    simp only [Act.put, List.setIfInBounds_toArray, List.set_cons_succ, List.set_cons_zero]
    go_big_quiet_want
    refine quiet_load_row 27 _ rfl _ rfl _ _ R5 _ Try.underlying27 rfl 16 Try.info27 (by rw [ag_size]; exact HY.out) ?_
    go_big_quiet_on
    simp only [Act.put, List.setIfInBounds_toArray, List.set_cons_succ, List.set_cons_zero]
    go_big_quiet_want
    refine quiet_run _ (run_eql_op 27 5 _ 16 .u8 _ _ rfl (by kernel_rfl) Try.underlying27 Try.underlying5 (by kernel_rfl) x y rfl rfl HX.out HY.out (decide (a = b)) hinj) ?_
    go_big_quiet_on
    simp only [Act.put, List.setIfInBounds_toArray, List.set_cons_succ, List.set_cons_zero]
    go_big_quiet_want
    refine quiet_run (.bool true) (fun w' => by simp [go_sem]) ?_
    go_big_quiet_on
    simp only [Act.put, List.setIfInBounds_toArray, List.set_cons_succ, List.set_cons_zero]
    go_big_quiet_want
    refine quiet_run (.bool true) (run_pick_op _ _ _ rfl true rfl (.bool true) rfl) ?_
    go_big_quiet_on
    simp only [Act.put, List.setIfInBounds_toArray, List.set_cons_succ, List.set_cons_zero]
    go_big_quiet_step (fail)
    refine wpQuiet_nil ?_
    intro w' hw'
    go_wp2
    go_ret
    exact ⟨rfl, hbl.trans (hw'.mono hz)⟩
end Go.Proofs.Ytcmccfikfbmleaa
