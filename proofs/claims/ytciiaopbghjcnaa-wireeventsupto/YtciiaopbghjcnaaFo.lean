/- Events of one's own are events behind a slice; the walk of WireForms. -/
import Derived.Test.YtciiaopbghjcnaaEc
import Derived.Test.YtciiaopbghjcnaaY
namespace Go.Proofs.Ytciiaopbghjcnaa
open Go.RowKit Go.BigFrame
set_option linter.unusedSimpArgs false

theorem flat_at (l : List (Ev × Value)) (k j : Nat) (hk : k < l.length) (hj : j < 5) : (l.flatMap fun p => evC p.1 p.2)[k * 5 + j]? = (evC (l[k]).1 (l[k]).2)[j]? := by
  induction l generalizing k with
  | nil => simp at hk
  | cons p r ih =>
    rw [List.flatMap_cons]
    have h5 : (evC p.1 p.2).length = 5 := rfl
    cases k with
    | zero => rw [List.getElem?_append_left (by rw [h5]; omega)]; simp
    | succ k =>
      rw [List.getElem?_append_right (by rw [h5]; omega), h5, show (k + 1) * 5 + j - 5 = k * 5 + j by omega, ih k (by simpa using hk)]
      simp
theorem OwnE.evs {N : Nat} {w : World} {v : Value} {l : List (Ev × Value)} (h : OwnE N w v l) : Evs w.heap.size w v (l.map (·.1)) := by
  rcases h.row.2 with ⟨e, e0⟩ | ⟨g, cap, cur, e1, e2, e3, e4, e5, e6, e7⟩
  · refine ⟨none, 0, by rw [e, List.length_map, e0], by rw [List.length_map, e0]; exact Nat.le_refl _, fun k hk => ?_⟩
    rw [List.length_map] at hk
    omega
  · have r : Row w g 55 cur := e3
    refine ⟨_, cap, by rw [e1, List.length_map], by rw [List.length_map]; exact e4, fun k hk => ?_⟩
    rw [List.length_map] at hk
    have hc : ∀ j, j < 5 → w.cell? ⟨g, 0 + k * 5 + j, Option.none⟩ = (evC (l[k]).1 (l[k]).2)[j]? := fun j hj => by
      rw [← flat_at l k j hk hj]
      have h5 : ((l.flatMap fun p => evC p.1 p.2)[k * 5 + j]?).isSome := by rw [flat_at l k j hk hj]; simp [evC]; omega
      obtain ⟨u, hu⟩ := Option.isSome_iff_exists.1 h5
      have := World.ownsRow.cells h.row (g := g) (by rw [e1]; rfl) _ _ hu
      rw [Addr.add_mid] at this
      rw [show 0 + k * 5 + j = 0 + (k * 5 + j) by omega, this, hu]
    have hx : (l.map (·.1)).getD k Ev.none = (l[k]).1 := by simp [hk]
    refine ⟨g, 0, rfl, r.lt, (l[k]).2, ?_, ?_, ?_, ?_, ?_, ?_⟩
    · rw [hx]; have := hc 0 (by decide); simpa [evC] using this
    · have := hc 1 (by decide); simpa [evC] using this
    · rw [hx]; have := hc 2 (by decide); simpa [evC] using this
    · rw [hx]; have := hc 3 (by decide); simpa [evC] using this
    · rw [hx]; have := hc 4 (by decide); simpa [evC] using this
    · rw [hx]; exact (h.own (l[k]) (List.getElem_mem hk)).inB.inE
theorem rdI_any (b : List UInt8) : (rdI b).2 = 0 → wrF (rdI b).1 = (b, 0) ∧ (rdI b).1.ok := fun h => rdI_form (by rw [← h])
theorem rdE_any (b : List UInt8) : (rdE b).2 = 0 → wevF (rdE b).1 = (b, 0) := fun h => rdE_form (by rw [← h])
theorem rdE_len (b : List UInt8) : (rdE b).1.length ≤ 4096 := by
  unfold rdE
  split
  · simp
  · cases he : evsR b with
    | error x => simp
    | ok p =>
      obtain ⟨xs, r⟩ := p
      cases r with
      | cons c t => simp
      | nil =>
        simp only
        unfold evsR at he
        cases hn : numF b with
        | error x => rw [hn] at he; cases he
        | ok q =>
          rw [hn] at he
          simp only at he
          split at he
          · cases he
          · obtain ⟨_, e2, _⟩ := evlR_form he
            omega

set_option maxRecDepth 100000 in
set_option maxHeartbeats 8000000 in
theorem forms_any (w : World) (vb : Value) (b : List UInt8) (hb : b.length ≤ 140737488351232) (h : InB w.heap.size w vb b) :
    Calls Try.prog 7 #[vb] w fun e w' => e = .returned (.bool true) ∧ Below w.heap.size w w' := by
  have ru := readUint_any w.heap.size w vb b h (by omega)
  have HU : Box' ((rdU b).2.2 = 0 → uf (rdU b).1 = b.take (rdU b).2.1 ∧ (rdU b).2.1 ≤ b.length ∧ (rdU b).1 < 18446744073709551616 ∧ 0 < (rdU b).2.1) := ⟨fun e => rdU_form (by rw [← e])⟩
  have HRI := Box'.mk (rdI_any b)
  have HRE := Box'.mk (rdE_any b)
  have HRL := Box'.mk (rdE_len b)
  have E3 : Box' (∀ w1, Below w.heap.size w w1 → Calls Try.prog 17 #[vb] w1 (IEnd w1 (rdI b))) := ⟨fun w1 q => read_any w1 vb b (by omega) ((h.below q (Nat.le_refl _)).up q.size)⟩
  have E4 : Box' (∀ w1, Below w.heap.size w w1 → Calls Try.prog 22 #[vb] w1 (EEnd w1 (rdE b))) := ⟨fun w1 q => readEvents_any w1 vb b (by omega) ((h.below q (Nat.le_refl _)).up q.size)⟩
  have HI : Box' (∀ w1, Below w.heap.size w w1 → InB w.heap.size w1 vb b) := ⟨fun w1 q => h.below q (Nat.le_refl _)⟩
  have CUT : Box' (∀ s, 0 < s → s ≤ b.length → ∃ g o c, vb = .slice (some ⟨g, o, none⟩) b.length c ∧ b.length ≤ c ∧ InB w.heap.size w (.slice (some ⟨g, o, none⟩) s c) (b.take s)) := ⟨fun s hs hl => by
    rcases inB_cut h hl with ⟨rfl, rfl⟩ | ⟨g, o, c, e, q1, _, _, q4⟩
    · simp at hl; omega
    · exact ⟨g, o, c, e, q1, q4⟩⟩
  obtain ⟨a0, c0, rfl, hc0⟩ := h.slice
  clear h
  generalize rdU b = U at *
  obtain ⟨n, s, er⟩ := U
  simp only at ru HU
  go_enter Try.func7, Try.ntmps7
  go_wp2_with fail
  refine ru.mono ?_
  rintro e w1 ⟨rfl, rfl⟩
  clear ru
  generalize rdI b = RI at *
  obtain ⟨⟨y0, y1, y2, y3, ydif⟩, XI⟩ := RI
  generalize rdE b = RE at *
  obtain ⟨XL, XE⟩ := RE
  simp only at HRI HRE HRL
  go_wp2_with fail
  have BA : Box' (Below w1.heap.size w1 w1) := ⟨Below.refl _ _⟩
  by_cases he : er = 0
  · subst he
    obtain ⟨huf, hsl, hn64, hs0⟩ := HU.out rfl
    obtain ⟨g, o, c, hv, hlc, hi4⟩ := CUT.out s hs0 hsl
    injection hv with hv1 _ hv2
    subst hv1 hv2
    have UI := Box'.mk (uint_any n hn64)
    have HI4 := Box'.mk hi4
    have HUF := Box'.mk huf
    have hsc : s ≤ c0 := by omega
    clear CUT HU huf hi4
    refine wp_region_growg 13 (by kernel_rfl) 78 rfl (by kernel_rfl) (fun wa wb => Below wa.heap.size wa wb) (fun wa => Below w1.heap.size w1 wa) (fun kc wa v => match kc with
      | 0 => v = .int .i64 0
      | 1 => v = .bool true
      | 2 => v = .bool true
      | 3 => v = .int .i64 (s : Int)
      | 4 => v = .slice (some ⟨g, o, none⟩) b.length c0
      | 5 => v = .int .i64 (b.length : Int)
      | 6 => v = .bool false
      | 7 => v = .bool false
      | 8 => v = .int .u64 (n : Int)
      | 9 => OwnB w1.heap.size wa v (uf n)
      | 10 => v = .slice (some ⟨g, o, none⟩) b.length c0
      | 11 => v = .int .i64 (s : Int)
      | 12 => v = .slice (some ⟨g, o, none⟩) s c0
      | _ => True) ?_ ?_ ?_ ?_ ?_ ?_
    · intro i o' j b' hi hg wa v hC hV
      rcases (show i < 13 from by rcases Nat.lt_or_ge i 13 with q | q; exact q; rw [List.getElem?_eq_none (by simpa using q)] at hi; cases hi) with hlt
      revert hi hg hV
      rcases (show i = 0 ∨ i = 1 ∨ i = 2 ∨ i = 3 ∨ i = 4 ∨ i = 5 ∨ i = 6 ∨ i = 7 ∨ i = 8 ∨ i = 9 ∨ i = 10 ∨ i = 11 ∨ i = 12 by omega) with rfl | rfl | rfl | rfl | rfl | rfl | rfl | rfl | rfl | rfl | rfl | rfl | rfl <;>
        (intro hi hg hV; simp only [List.take_succ_cons, List.getElem?_cons_zero, List.getElem?_cons_succ, Option.some.injEq] at hi; subst hi; first | (cases hg; exact hV) | (cases hg))
    · rintro wa wb hb q2
      exact q2.trans (hb.mono q2.size)
    · intro kc v wa wb hC1 hb h
      match kc, h with
      | 0, h => exact h
      | 1, h => exact h
      | 2, h => exact h
      | 3, h => exact h
      | 4, h => exact h
      | 5, h => exact h
      | 6, h => exact h
      | 7, h => exact h
      | 8, h => exact h
      | 9, h => exact OwnB.below h hb
      | 10, h => exact h
      | 11, h => exact h
      | 12, h => exact h
      | kc + 13, h => trivial
    · exact (Below.refl _ _).drew
    · refine ⟨?_, ?_, ?_, ?_, ?_, ?_, ?_, ?_, ?_, ?_, ?_, ?_, ?_, trivial⟩
      · intro f wq hC hd KK hK
        simp only [List.take_succ_cons, List.take_zero, setAll, List.setIfInBounds_toArray, List.set_cons_succ, List.set_cons_zero, Nat.zero_add, Nat.reduceAdd] at hK ⊢
        refine wp_of_quiet rfl ?_
        go_big_quiet_step (fail)
        exact wpQuiet_nil (hK _ _ rfl (Below.refl _ _))
      · intro f wq hC hd KK hK
        have g0 : f 0 = .int .i64 0 := hd 0 rfl
        simp only [List.take_succ_cons, List.take_zero, setAll, List.setIfInBounds_toArray, List.set_cons_succ, List.set_cons_zero, Nat.zero_add, Nat.reduceAdd, g0] at hK ⊢
        refine wp_of_quiet rfl ?_
        go_big_quiet_step (fail)
        exact wpQuiet_nil (hK _ _ rfl (Below.refl _ _))
      · intro f wq hC hd KK hK
        have g1 : f 1 = .bool true := hd 1 rfl
        simp only [List.take_succ_cons, List.take_zero, setAll, List.setIfInBounds_toArray, List.set_cons_succ, List.set_cons_zero, Nat.zero_add, Nat.reduceAdd, g1] at hK ⊢
        refine wp_of_quiet rfl ?_
        go_big_quiet_step (fail)
        exact wpQuiet_nil (hK _ _ rfl (Below.refl _ _))
      · intro f wq hC hd KK hK
        simp only [List.take_succ_cons, List.take_zero, setAll, List.setIfInBounds_toArray, List.set_cons_succ, List.set_cons_zero, Nat.zero_add, Nat.reduceAdd] at hK ⊢
        refine wp_unguard ?_
        refine wp_of_quiet rfl ?_
        go_big_quiet_step (fail)
        exact wpQuiet_nil (hK _ _ rfl (Below.refl _ _))
      · intro f wq hC hd KK hK
        simp only [List.take_succ_cons, List.take_zero, setAll, List.setIfInBounds_toArray, List.set_cons_succ, List.set_cons_zero, Nat.zero_add, Nat.reduceAdd] at hK ⊢
        refine wp_unguard ?_
        refine wp_of_quiet rfl ?_
        go_big_quiet_step (fail)
        exact wpQuiet_nil (hK _ _ rfl (Below.refl _ _))
      · intro f wq hC hd KK hK
        have g4 : f 4 = .slice (some ⟨g, o, none⟩) b.length c0 := hd 4 rfl
        simp only [List.take_succ_cons, List.take_zero, setAll, List.setIfInBounds_toArray, List.set_cons_succ, List.set_cons_zero, Nat.zero_add, Nat.reduceAdd, g4] at hK ⊢
        refine wp_unguard ?_
        refine wp_of_quiet rfl ?_
        go_big_quiet_step (fail)
        exact wpQuiet_nil (hK _ _ rfl (Below.refl _ _))
      · intro f wq hC hd KK hK
        have g3 : f 3 = .int .i64 (s : Int) := hd 3 rfl
        have g5 : f 5 = .int .i64 (b.length : Int) := hd 5 rfl
        have hgt : decide ((b.length : Int) < (s : Int)) = false := decide_eq_false (by omega)
        simp only [List.take_succ_cons, List.take_zero, setAll, List.setIfInBounds_toArray, List.set_cons_succ, List.set_cons_zero, Nat.zero_add, Nat.reduceAdd, g3, g5] at hK ⊢
        refine wp_unguard ?_
        refine wp_of_quiet rfl ?_
        go_big_quiet_step (fail)
        exact wpQuiet_nil (hK _ _ (congrArg Value.bool (decide_eq_false (by omega))) (Below.refl _ _))
      · intro f wq hC hd KK hK
        have g6 : f 6 = .bool false := hd 6 rfl
        simp only [List.take_succ_cons, List.take_zero, setAll, List.setIfInBounds_toArray, List.set_cons_succ, List.set_cons_zero, Nat.zero_add, Nat.reduceAdd, g6] at hK ⊢
        refine wp_unguard ?_
        refine wp_of_quiet rfl ?_
        go_big_quiet_step (fail)
        exact wpQuiet_nil (hK _ _ rfl (Below.refl _ _))
      · intro f wq hC hd KK hK
        simp only [List.take_succ_cons, List.take_zero, setAll, List.setIfInBounds_toArray, List.set_cons_succ, List.set_cons_zero, Nat.zero_add, Nat.reduceAdd] at hK ⊢
        refine wp_unguard ?_
        refine wp_of_quiet rfl ?_
        go_big_quiet_step (fail)
        exact wpQuiet_nil (hK _ _ rfl (Below.refl _ _))
      · intro f wq hC hd KK hK
        have g8 : f 8 = .int .u64 (n : Int) := hd 8 rfl
        simp only [List.take_succ_cons, List.take_zero, setAll, List.setIfInBounds_toArray, List.set_cons_succ, List.set_cons_zero, Nat.zero_add, Nat.reduceAdd, g8] at hK ⊢
        refine wp_unguard ?_
        exact wp_callE 12 #[.int .u64 (n : Int)] (by simp [go_sem]) _ (UI.out wq) (fun v w' hR => hK _ _ (hR.1.less hC.size) hR.2)
      · intro f wq hC hd KK hK
        simp only [List.take_succ_cons, List.take_zero, setAll, List.setIfInBounds_toArray, List.set_cons_succ, List.set_cons_zero, Nat.zero_add, Nat.reduceAdd] at hK ⊢
        refine wp_unguard ?_
        refine wp_of_quiet rfl ?_
        go_big_quiet_step (fail)
        exact wpQuiet_nil (hK _ _ rfl (Below.refl _ _))
      · intro f wq hC hd KK hK
        simp only [List.take_succ_cons, List.take_zero, setAll, List.setIfInBounds_toArray, List.set_cons_succ, List.set_cons_zero, Nat.zero_add, Nat.reduceAdd] at hK ⊢
        refine wp_unguard ?_
        refine wp_of_quiet rfl ?_
        go_big_quiet_step (fail)
        exact wpQuiet_nil (hK _ _ rfl (Below.refl _ _))
      · intro f wq hC hd KK hK
        have g10 : f 10 = .slice (some ⟨g, o, none⟩) b.length c0 := hd 10 rfl
        have g11 : f 11 = .int .i64 (s : Int) := hd 11 rfl
        simp only [List.take_succ_cons, List.take_zero, setAll, List.setIfInBounds_toArray, List.set_cons_succ, List.set_cons_zero, Nat.zero_add, Nat.reduceAdd, g10, g11] at hK ⊢
        refine wp_unguard ?_
        refine wp_of_quiet rfl ?_
        go_big_quiet_step (fail)
        exact wpQuiet_nil (hK _ _ rfl (Below.refl _ _))
    · intro f w2 hC hv
      have p0 : f 0 = .int .i64 0 := hv 0 (by decide)
      have p1 : f 1 = .bool true := hv 1 (by decide)
      have p2 : f 2 = .bool true := hv 2 (by decide)
      have p3 : f 3 = .int .i64 (s : Int) := hv 3 (by decide)
      have p4 : f 4 = .slice (some ⟨g, o, none⟩) b.length c0 := hv 4 (by decide)
      have p5 : f 5 = .int .i64 (b.length : Int) := hv 5 (by decide)
      have p6 : f 6 = .bool false := hv 6 (by decide)
      have p7 : f 7 = .bool false := hv 7 (by decide)
      have p8 : f 8 = .int .u64 (n : Int) := hv 8 (by decide)
      have p9 : OwnB w1.heap.size w2 (f 9) (uf n) := hv 9 (by decide)
      have p10 : f 10 = .slice (some ⟨g, o, none⟩) b.length c0 := hv 10 (by decide)
      have p11 : f 11 = .int .i64 (s : Int) := hv 11 (by decide)
      have p12 : f 12 = .slice (some ⟨g, o, none⟩) s c0 := hv 12 (by decide)
      simp only [List.take_succ_cons, List.take_zero, List.drop_succ_cons, List.drop_zero, setAll, List.setIfInBounds_toArray, List.set_cons_succ, List.set_cons_zero, Nat.zero_add, Nat.reduceAdd, p0, p1, p2, p3, p4, p5, p6, p7, p8, p10, p11, p12]
      generalize f 9 = v9 at *
      clear hv p0 p1 p2 p3 p4 p5 p6 p7 p8 p10 p11 p12
      have sm := refSame_any _ _ _ _ _ _ w2 p9.bts (HI4.out.below hC (Nat.le_refl _)).bts
      rw [HUF.out, decide_eq_true rfl] at sm
      have B2 := Box'.mk hC
      clear hC p9 HI4 HUF UI BA
      go_wp2_with fail
      refine sm.mono ?_
      rintro e w2' ⟨rfl, rfl⟩
      clear sm
      have rd := E3.out w2' B2.out
      go_wp2_with fail
      refine rd.mono ?_
      rintro e w3 ⟨vd, rfl, o3, b3⟩
      simp only at o3 ⊢
      obtain ⟨w4, hw4⟩ : ∃ w4, w4 = w3.alloc (.cells #[.int .u64 (y0 : Int), .int .u64 (y1 : Int), .int .u64 (y2 : Int), .int .u64 (y3 : Int), vd] 34) := ⟨_, rfl⟩
      have b4 : Below w3.heap.size w3 w4 := by rw [hw4]; exact (Below.refl _ _).alloc (Nat.le_refl _) _
      have R4 : Box' (Row w4 w3.heap.size 34 #[.int .u64 (y0 : Int), .int .u64 (y1 : Int), .int .u64 (y2 : Int), .int .u64 (y3 : Int), vd]) := ⟨by rw [hw4]; exact Row.new _ _ _⟩
      have B4 := Box'.mk (B2.out.trans ((b3.trans (b4.mono b3.size)).mono B2.out.size))
      have o4 := o3.below b4
      have O4 := Box'.mk o4
      obtain ⟨ad, cd, rfl⟩ := o3.slice
      clear rd b3 b4 o3
      by_cases hi0 : XI = 0
      · obtain ⟨wr, hok⟩ := HRI.out hi0
        have wv := write_any w4.heap.size w4 _ ⟨y0, y1, y2, y3, ydif⟩ hok (Nat.le_refl _) o4.inB
        rw [wr] at wv
        simp only at wv
        have hz4 : (XI == 0) = true := by simpa using hi0
        have k0 : w4.cell? ⟨w3.heap.size, 0, none⟩ = some (.int .u64 (y0 : Int)) := by rw [R4.out.cell]; rfl
        have k1 : w4.cell? ⟨w3.heap.size, 1, none⟩ = some (.int .u64 (y1 : Int)) := by rw [R4.out.cell]; rfl
        have k2 : w4.cell? ⟨w3.heap.size, 2, none⟩ = some (.int .u64 (y2 : Int)) := by rw [R4.out.cell]; rfl
        have k3 : w4.cell? ⟨w3.heap.size, 3, none⟩ = some (.int .u64 (y3 : Int)) := by rw [R4.out.cell]; rfl
        have k4 : w4.cell? ⟨w3.heap.size, 4, none⟩ = some (.slice ad ydif.length cd) := by rw [R4.out.cell]; rfl
        clear wr hok hi0 o4 O4
        rw [hw4] at wv k0 k1 k2 k3 k4
        go_wp2_with fail
        refine wv.mono ?_
        rw [← hw4]
        rintro e w5 ⟨u5, rfl, o5, b5⟩
        have B5 := Box'.mk (B4.out.trans (b5.mono B4.out.size))
        have s5 := refSame_any _ _ _ _ _ _ w5 (HI.out w5 B5.out).bts o5.bts
        rw [decide_eq_true rfl] at s5
        clear wv b5 o5 k0 k1 k2 k3 k4 hw4 R4
        go_wp2_with fail
        refine s5.mono ?_
        rintro e w6 ⟨rfl, rfl⟩
        clear s5
        have ev := E4.out w6 B5.out
        go_wp2_with fail
        refine ev.mono ?_
        rintro e w8 ⟨v8, ps8, rfl, hps, oe8, b8⟩
        have B8 := Box'.mk (B5.out.trans (b8.mono B5.out.size))
        clear ev b8
        by_cases he8 : XE = 0
        · have we := HRE.out he8
          have hps2 : ps8.map (·.1) = XL := hps
          have wv := writeEvents_any w8 v8 XL (by have := HRL.out; omega) (by rw [← hps2]; exact oe8.evs)
          rw [we] at wv
          have hz8 : (XE == 0) = true := by simpa using he8
          clear we he8 oe8
          go_wp2_with fail
          refine wv.mono ?_
          rintro e w9 ⟨u9, rfl, o9, b9⟩
          have B9 := Box'.mk (B8.out.trans (b9.mono B8.out.size))
          have s9 := refSame_any _ _ _ _ _ _ w9 (HI.out w9 B9.out).bts o9.bts
          rw [decide_eq_true rfl] at s9
          clear wv b9 o9
          go_wp2_with fail
          refine s9.mono ?_
          rintro e w10 ⟨rfl, rfl⟩
          clear s9
          have hfin := anchored_any w10
          go_wp2_with fail
          refine hfin.mono ?_
          rintro e wz ⟨rfl, bz⟩
          have BZ := Box'.mk (B9.out.trans (bz.mono B9.out.size))
          clear hfin bz
          go_wp2_with fail
          go_ret
          exact ⟨rfl, BZ.out⟩
        · have hz8 : (XE == 0) = false := by simpa using he8
          clear he8 oe8
          have hfin := anchored_any w8
          go_wp2_with fail
          refine hfin.mono ?_
          rintro e wz ⟨rfl, bz⟩
          have BZ := Box'.mk (B8.out.trans (bz.mono B8.out.size))
          clear hfin bz
          go_wp2_with fail
          go_ret
          exact ⟨rfl, BZ.out⟩
      · have hz4 : (XI == 0) = false := by simpa using hi0
        clear hi0 o4 O4 R4
        have ev0 := E4.out w4 B4.out
        rw [hw4] at ev0
        go_wp2_with fail
        refine ev0.mono ?_
        rw [← hw4]
        rintro e w8 ⟨v8, ps8, rfl, hps, oe8, b8⟩
        have B8 := Box'.mk (B4.out.trans (b8.mono B4.out.size))
        clear ev0 b8
        by_cases he8 : XE = 0
        · have we := HRE.out he8
          have hps2 : ps8.map (·.1) = XL := hps
          have wv := writeEvents_any w8 v8 XL (by have := HRL.out; omega) (by rw [← hps2]; exact oe8.evs)
          rw [we] at wv
          have hz8 : (XE == 0) = true := by simpa using he8
          clear we he8 oe8
          go_wp2_with fail
          refine wv.mono ?_
          rintro e w9 ⟨u9, rfl, o9, b9⟩
          have B9 := Box'.mk (B8.out.trans (b9.mono B8.out.size))
          have s9 := refSame_any _ _ _ _ _ _ w9 (HI.out w9 B9.out).bts o9.bts
          rw [decide_eq_true rfl] at s9
          clear wv b9 o9
          go_wp2_with fail
          refine s9.mono ?_
          rintro e w10 ⟨rfl, rfl⟩
          clear s9
          have hfin := anchored_any w10
          go_wp2_with fail
          refine hfin.mono ?_
          rintro e wz ⟨rfl, bz⟩
          have BZ := Box'.mk (B9.out.trans (bz.mono B9.out.size))
          clear hfin bz
          go_wp2_with fail
          go_ret
          exact ⟨rfl, BZ.out⟩
        · have hz8 : (XE == 0) = false := by simpa using he8
          clear he8 oe8
          have hfin := anchored_any w8
          go_wp2_with fail
          refine hfin.mono ?_
          rintro e wz ⟨rfl, bz⟩
          have BZ := Box'.mk (B8.out.trans (bz.mono B8.out.size))
          clear hfin bz
          go_wp2_with fail
          go_ret
          exact ⟨rfl, BZ.out⟩
  · have he' : (er == 0) = false := by simpa using he
    clear he HU CUT
    go_quiet (fail)
    have BQ : Box' (Below w1.heap.size w1 (w1.drewN nq)) := ⟨Below.drewN (Below.refl _ _) nq⟩
    clear BA
    generalize w1.drewN nq = wq at *
    have rd := E3.out wq BQ.out
    go_wp2_with fail
    refine rd.mono ?_
    rintro e w3 ⟨vd, rfl, o3, b3⟩
    simp only at o3 ⊢
    obtain ⟨w4, hw4⟩ : ∃ w4, w4 = w3.alloc (.cells #[.int .u64 (y0 : Int), .int .u64 (y1 : Int), .int .u64 (y2 : Int), .int .u64 (y3 : Int), vd] 34) := ⟨_, rfl⟩
    have b4 : Below w3.heap.size w3 w4 := by rw [hw4]; exact (Below.refl _ _).alloc (Nat.le_refl _) _
    have R4 : Box' (Row w4 w3.heap.size 34 #[.int .u64 (y0 : Int), .int .u64 (y1 : Int), .int .u64 (y2 : Int), .int .u64 (y3 : Int), vd]) := ⟨by rw [hw4]; exact Row.new _ _ _⟩
    have B4 := Box'.mk (BQ.out.trans ((b3.trans (b4.mono b3.size)).mono BQ.out.size))
    have o4 := o3.below b4
    have O4 := Box'.mk o4
    obtain ⟨ad, cd, rfl⟩ := o3.slice
    clear rd b3 b4 o3
    by_cases hi0 : XI = 0
    · obtain ⟨wr, hok⟩ := HRI.out hi0
      have wv := write_any w4.heap.size w4 _ ⟨y0, y1, y2, y3, ydif⟩ hok (Nat.le_refl _) o4.inB
      rw [wr] at wv
      simp only at wv
      have hz4 : (XI == 0) = true := by simpa using hi0
      have k0 : w4.cell? ⟨w3.heap.size, 0, none⟩ = some (.int .u64 (y0 : Int)) := by rw [R4.out.cell]; rfl
      have k1 : w4.cell? ⟨w3.heap.size, 1, none⟩ = some (.int .u64 (y1 : Int)) := by rw [R4.out.cell]; rfl
      have k2 : w4.cell? ⟨w3.heap.size, 2, none⟩ = some (.int .u64 (y2 : Int)) := by rw [R4.out.cell]; rfl
      have k3 : w4.cell? ⟨w3.heap.size, 3, none⟩ = some (.int .u64 (y3 : Int)) := by rw [R4.out.cell]; rfl
      have k4 : w4.cell? ⟨w3.heap.size, 4, none⟩ = some (.slice ad ydif.length cd) := by rw [R4.out.cell]; rfl
      clear wr hok hi0 o4 O4
      rw [hw4] at wv k0 k1 k2 k3 k4
      go_wp2_with fail
      refine wv.mono ?_
      rw [← hw4]
      rintro e w5 ⟨u5, rfl, o5, b5⟩
      have B5 := Box'.mk (B4.out.trans (b5.mono B4.out.size))
      have s5 := refSame_any _ _ _ _ _ _ w5 (HI.out w5 B5.out).bts o5.bts
      rw [decide_eq_true rfl] at s5
      clear wv b5 o5 k0 k1 k2 k3 k4 hw4 R4
      go_wp2_with fail
      refine s5.mono ?_
      rintro e w6 ⟨rfl, rfl⟩
      clear s5
      have ev := E4.out w6 B5.out
      go_wp2_with fail
      refine ev.mono ?_
      rintro e w8 ⟨v8, ps8, rfl, hps, oe8, b8⟩
      have B8 := Box'.mk (B5.out.trans (b8.mono B5.out.size))
      clear ev b8
      by_cases he8 : XE = 0
      · have we := HRE.out he8
        have hps2 : ps8.map (·.1) = XL := hps
        have wv := writeEvents_any w8 v8 XL (by have := HRL.out; omega) (by rw [← hps2]; exact oe8.evs)
        rw [we] at wv
        have hz8 : (XE == 0) = true := by simpa using he8
        clear we he8 oe8
        go_wp2_with fail
        refine wv.mono ?_
        rintro e w9 ⟨u9, rfl, o9, b9⟩
        have B9 := Box'.mk (B8.out.trans (b9.mono B8.out.size))
        have s9 := refSame_any _ _ _ _ _ _ w9 (HI.out w9 B9.out).bts o9.bts
        rw [decide_eq_true rfl] at s9
        clear wv b9 o9
        go_wp2_with fail
        refine s9.mono ?_
        rintro e w10 ⟨rfl, rfl⟩
        clear s9
        have hfin := anchored_any w10
        go_wp2_with fail
        refine hfin.mono ?_
        rintro e wz ⟨rfl, bz⟩
        have BZ := Box'.mk (B9.out.trans (bz.mono B9.out.size))
        clear hfin bz
        go_wp2_with fail
        go_ret
        exact ⟨rfl, BZ.out⟩
      · have hz8 : (XE == 0) = false := by simpa using he8
        clear he8 oe8
        have hfin := anchored_any w8
        go_wp2_with fail
        refine hfin.mono ?_
        rintro e wz ⟨rfl, bz⟩
        have BZ := Box'.mk (B8.out.trans (bz.mono B8.out.size))
        clear hfin bz
        go_wp2_with fail
        go_ret
        exact ⟨rfl, BZ.out⟩
    · have hz4 : (XI == 0) = false := by simpa using hi0
      clear hi0 o4 O4 R4
      have ev0 := E4.out w4 B4.out
      rw [hw4] at ev0
      go_wp2_with fail
      refine ev0.mono ?_
      rw [← hw4]
      rintro e w8 ⟨v8, ps8, rfl, hps, oe8, b8⟩
      have B8 := Box'.mk (B4.out.trans (b8.mono B4.out.size))
      clear ev0 b8
      by_cases he8 : XE = 0
      · have we := HRE.out he8
        have hps2 : ps8.map (·.1) = XL := hps
        have wv := writeEvents_any w8 v8 XL (by have := HRL.out; omega) (by rw [← hps2]; exact oe8.evs)
        rw [we] at wv
        have hz8 : (XE == 0) = true := by simpa using he8
        clear we he8 oe8
        go_wp2_with fail
        refine wv.mono ?_
        rintro e w9 ⟨u9, rfl, o9, b9⟩
        have B9 := Box'.mk (B8.out.trans (b9.mono B8.out.size))
        have s9 := refSame_any _ _ _ _ _ _ w9 (HI.out w9 B9.out).bts o9.bts
        rw [decide_eq_true rfl] at s9
        clear wv b9 o9
        go_wp2_with fail
        refine s9.mono ?_
        rintro e w10 ⟨rfl, rfl⟩
        clear s9
        have hfin := anchored_any w10
        go_wp2_with fail
        refine hfin.mono ?_
        rintro e wz ⟨rfl, bz⟩
        have BZ := Box'.mk (B9.out.trans (bz.mono B9.out.size))
        clear hfin bz
        go_wp2_with fail
        go_ret
        exact ⟨rfl, BZ.out⟩
      · have hz8 : (XE == 0) = false := by simpa using he8
        clear he8 oe8
        have hfin := anchored_any w8
        go_wp2_with fail
        refine hfin.mono ?_
        rintro e wz ⟨rfl, bz⟩
        have BZ := Box'.mk (B8.out.trans (bz.mono B8.out.size))
        clear hfin bz
        go_wp2_with fail
        go_ret
        exact ⟨rfl, BZ.out⟩
end Go.Proofs.Ytciiaopbghjcnaa
