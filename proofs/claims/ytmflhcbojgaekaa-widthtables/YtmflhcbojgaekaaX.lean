/- WidthTables, walked. -/
import Derived.Test.YtmflhcbojgaekaaQ
import Derived.Test.YtmflhcbojgaekaaO
import Derived.Test.YtmflhcbojgaekaaD
import Derived.Deep.RegionHeld3
import Derived.BigQuiet
namespace Go.Proofs.Ytmflhcbojgaekaa
open Go.RowKit Go.BigFrame
set_option linter.unusedVariables false
set_option linter.unusedSimpArgs false

theorem Sps.open {w : World} {p : Addr} {n : Nat} {l : List (Int × Int)} (h : Sps w.heap.size w (.slice (some p) n n) l) (hn : l.length = n) (h0 : 0 < n) (hr : Rises l) : ∃ b o, p = ⟨b, o, none⟩ ∧ b < w.heap.size ∧ ∀ k, k < n → w.cell? ⟨b, o + k * 2, none⟩ = some (.int .i32 (l.getD k (0, 0)).1) ∧ w.cell? ⟨b, o + k * 2 + 1, none⟩ = some (.int .i32 (l.getD k (0, 0)).2) ∧ (l.getD k (0, 0)).1 ≤ (l.getD k (0, 0)).2 ∧ (0 < k → (l.getD (k - 1) (0, 0)).2 < (l.getD k (0, 0)).1) := by
  obtain ⟨a, c, e, _, h3⟩ := h
  simp only [Value.slice.injEq] at e
  rcases h3 with rfl | ⟨b, o, h5, h6, h7⟩
  · simp at hn; omega
  · rw [h5] at e
    obtain ⟨e, -, -⟩ := e
    injection e with e
    exact ⟨b, o, e, h6, fun k hk => ⟨(h7 k (by omega)).1, (h7 k (by omega)).2, (hr k (by omega)).1, (hr k (by omega)).2⟩⟩
theorem wide_has : ∀ i, i < 37 → 160 ≤ (wideL.getD i (0, 0)).1 ∧ (wideL.getD i (0, 0)).2 ≤ 1114111 ∧ ((wideL.getD i (0, 0)).2 < 55296 ∨ 57343 < (wideL.getD i (0, 0)).1) := by decide +kernel
theorem zero_has : ∀ i, i < 26 → 160 ≤ (zeroL.getD i (0, 0)).1 ∧ (zeroL.getD i (0, 0)).2 ≤ 1114111 ∧ ((zeroL.getD i (0, 0)).2 < 55296 ∨ 57343 < (zeroL.getD i (0, 0)).1) := by decide +kernel
theorem has_width {c a b : Int} (h : 160 ≤ a ∧ b ≤ 1114111 ∧ (b < 55296 ∨ 57343 < a)) (h1 : a ≤ c) (h2 : c ≤ b) : hw c = true := by
  have e1 : decide (32 ≤ c ∧ c ≤ 1114111) = true := decide_eq_true (by omega)
  have e2 : decide (127 ≤ c ∧ c ≤ 159) = false := decide_eq_false (by omega)
  have e3 : decide (55296 ≤ c ∧ c ≤ 57343) = false := decide_eq_false (by omega)
  unfold hw
  rw [e1, e2, e3]
  rfl
theorem of_wide {i : Nat} (hi : i < 37) {c : Int} (h1 : (wideL.getD i (0, 0)).1 ≤ c) (h2 : c ≤ (wideL.getD i (0, 0)).2) : ofF c = if inF zeroL c then 0 else 2 := by
  have e := has_width (wide_has i hi) h1 h2
  have e2 : inF wideL c = true := (in_iff _ _).2 ⟨i, hi, h1, h2⟩
  unfold ofF
  rw [if_pos e, e2]
  rfl
theorem of_zero {i : Nat} (hi : i < 26) {c : Int} (h1 : (zeroL.getD i (0, 0)).1 ≤ c) (h2 : c ≤ (zeroL.getD i (0, 0)).2) : ofF c = 0 := by
  have e := has_width (zero_has i hi) h1 h2
  have e2 : inF zeroL c = true := (in_iff _ _).2 ⟨i, hi, h1, h2⟩
  unfold ofF
  rw [if_pos e, e2]
  rfl
set_option maxRecDepth 100000 in
set_option maxHeartbeats 4000000 in
theorem widthTables_any (nb : UInt8) (hb : UInt16) (w : World) :
    Calls Try.prog 4 #[.int .u8 (nb.toNat : Int), .int .u16 (hb.toNat : Int)] w fun e w' => e = .returned (.bool true) ∧ Below w.heap.size w w' := by
  have TA := Box'.mk (tables_any w)
  obtain ⟨n, hn⟩ : ∃ n, nb.toNat = n := ⟨_, rfl⟩
  have hn2 : n < 256 := by rw [← hn]; exact nb.toNat_lt
  obtain ⟨m, hm⟩ : ∃ m, hb.toNat = m := ⟨_, rfl⟩
  have hm2 : m < 65536 := by rw [← hm]; exact hb.toNat_lt
  rw [hn, hm]
  clear hn hm
  go_enter Try.func4, Try.ntmps4
  go_wp2_with fail
  refine TA.out.mono ?_
  rintro e w1 ⟨p1, p2, rfl, s1, s2, b1⟩
  obtain ⟨bw, ow, rfl, bwh, aw⟩ := s1.open rfl (by omega) rises_wide
  obtain ⟨bz, oz, rfl, bzh, az⟩ := s2.open rfl (by omega) rises_zero
  have S2 := Box'.mk s2
  have B1 := Box'.mk b1
  have AW := Box'.mk aw
  have AZ := Box'.mk az
  have bwh := Box'.mk bwh
  have bzh := Box'.mk bzh
  have iw : n % 37 < 37 := by omega
  have iz : n % 26 < 26 := by omega
  obtain ⟨u0, u1, q0, -⟩ := aw _ iw
  obtain ⟨y0, y1, r0, -⟩ := az _ iz
  have FW := Box'.mk (fun c => of_wide (c := c) iw)
  have FZ := Box'.mk (fun c => of_zero (c := c) iz)
  have BW := wide_has _ iw
  have BZ := zero_has _ iz
  have CW : Box' (∀ wq, Below w1.heap.size w1 wq → wq.cell? ⟨bw, ow + n % 37 * 2, none⟩ = some (.int .i32 (wideL.getD (n % 37) (0, 0)).1) ∧ wq.cell? ⟨bw, ow + n % 37 * 2 + 1, none⟩ = some (.int .i32 (wideL.getD (n % 37) (0, 0)).2)) := ⟨fun wq bb => by rw [bb.cell (p := ⟨bw, _, none⟩) bwh.out, bb.cell (p := ⟨bw, _, none⟩) bwh.out]; exact ⟨u0, u1⟩⟩
  have CZ : Box' (∀ wq, Below w1.heap.size w1 wq → wq.cell? ⟨bz, oz + n % 26 * 2, none⟩ = some (.int .i32 (zeroL.getD (n % 26) (0, 0)).1) ∧ wq.cell? ⟨bz, oz + n % 26 * 2 + 1, none⟩ = some (.int .i32 (zeroL.getD (n % 26) (0, 0)).2)) := ⟨fun wq bb => by rw [bb.cell (p := ⟨bz, _, none⟩) bzh.out, bb.cell (p := ⟨bz, _, none⟩) bzh.out]; exact ⟨y0, y1⟩⟩
  have BD : Box' ((160 ≤ (wideL.getD (n % 37) (0, 0)).1 ∧ (wideL.getD (n % 37) (0, 0)).1 ≤ (wideL.getD (n % 37) (0, 0)).2 ∧ (wideL.getD (n % 37) (0, 0)).2 ≤ 1114111) ∧ (160 ≤ (zeroL.getD (n % 26) (0, 0)).1 ∧ (zeroL.getD (n % 26) (0, 0)).1 ≤ (zeroL.getD (n % 26) (0, 0)).2 ∧ (zeroL.getD (n % 26) (0, 0)).2 ≤ 1114111)) := ⟨⟨BW.1, q0, BW.2.1⟩, ⟨BZ.1, r0, BZ.2.1⟩⟩
  have HI : Box' ((n : Int) % 37 = ((n % 37 : Nat) : Int)) := ⟨by omega⟩
  have HJ : Box' ((n : Int) % 26 = ((n % 26 : Nat) : Int)) := ⟨by omega⟩
  generalize wideL.getD (n % 37) (0, 0) = s at *
  generalize zeroL.getD (n % 26) (0, 0) = t at *
  generalize n % 37 = i at *
  generalize n % 26 = j at *
  obtain ⟨s0, s1'⟩ := s
  obtain ⟨t0, t1⟩ := t
  simp only at FW FZ CW CZ BD
  clear TA s1 s2 b1 aw az u0 u1 y0 y1 q0 r0 BW BZ
  go_wp2_with fail
  go_loopw [7] (fun i wr => ∃ k : Nat, k ≤ 37 ∧ i = .int .i64 (k : Int) ∧ Box' (Below w1.heap.size w1 wr)) (fun i _ => 37 - (intOf i).toNat)
  case atStart => exact ⟨0, by omega, rfl, ⟨Below.refl _ _⟩⟩
  case round =>
    obtain ⟨k, hk, rfl, BB⟩ := hrel
    by_cases hlt : k < 37
    · obtain ⟨c0, c1, q0, q1⟩ := AW.out k hlt
      obtain ⟨hc0, -⟩ := bcell BB.out
      have hbs := BB.out.size
      rw [← hc0 _ _ bwh.out] at c0 c1
      rcases Nat.eq_zero_or_pos k with rfl | hpos
      · generalize wideL.getD 0 (0, 0) = x at *
        obtain ⟨x0, x1⟩ := x
        simp only [Nat.zero_mul, Nat.add_zero] at c0 c1 q0
        have q0' : decide (x1 < x0) = false := decide_eq_false (by omega)
        have qz : decide ((0 : Int) < 0) = false := rfl
        rw [show ((0 : Nat) : Int) = 0 from rfl]
        clear q1 hc0
        clear AW AZ
        go_wp2_with fail
        go_quiet (fail)
        go_wp2_with fail
        exact ⟨⟨1, by omega, rfl, ⟨Below.drewN BB.out _⟩⟩, by simp [intOf]⟩
      · obtain ⟨j, rfl⟩ : ∃ j, k = j + 1 := ⟨k - 1, by omega⟩
        obtain ⟨d0, d1, -, -⟩ := AW.out j (by omega)
        rw [← hc0 _ _ bwh.out] at d0 d1
        have q2 := q1 hpos
        rw [Nat.add_sub_cancel] at q2
        generalize wideL.getD (j + 1) (0, 0) = x at *
        generalize wideL.getD j (0, 0) = y at *
        obtain ⟨x0, x1⟩ := x
        obtain ⟨y0, y1⟩ := y
        simp only at c0 c1 d0 d1 q0 q2
        have q0' : decide (x1 < x0) = false := decide_eq_false (by omega)
        have q2' : decide (x0 ≤ y1) = false := decide_eq_false (by omega)
        have qp : (0 : Int) < (j : Int) + 1 := by omega
        clear q1 hc0
        clear AW AZ
        go_wp2_with fail
        go_quiet (fail)
        go_wp2_with fail
        exact ⟨⟨j + 2, by omega, by go_num, ⟨Below.drewN BB.out _⟩⟩, by simp [intOf]; omega⟩
    · obtain rfl : k = 37 := by omega
      have B2 := BB
      clear BB hlt hk AW
      rw [show ((37 : Nat) : Int) = 37 from rfl]
      go_wp2_with fail
      go_loopw [8] (fun i wr => ∃ k : Nat, k ≤ 26 ∧ i = .int .i64 (k : Int) ∧ Box' (Below w1.heap.size w1 wr)) (fun i _ => 26 - (intOf i).toNat)
      case atStart => exact ⟨0, by omega, rfl, B2⟩
      case round =>
        obtain ⟨k, hk, rfl, BB⟩ := hrel
        by_cases hlt : k < 26
        · obtain ⟨c0, c1, q0, q1⟩ := AZ.out k hlt
          obtain ⟨hc0, -⟩ := bcell BB.out
          have hbs := BB.out.size
          rw [← hc0 _ _ bzh.out] at c0 c1
          rcases Nat.eq_zero_or_pos k with rfl | hpos
          · generalize zeroL.getD 0 (0, 0) = x at *
            obtain ⟨x0, x1⟩ := x
            simp only [Nat.zero_mul, Nat.add_zero] at c0 c1 q0
            have q0' : decide (x1 < x0) = false := decide_eq_false (by omega)
            have qz : decide ((0 : Int) < 0) = false := rfl
            rw [show ((0 : Nat) : Int) = 0 from rfl]
            clear q1 hc0
            clear AZ B2
            go_wp2_with fail
            go_quiet (fail)
            go_wp2_with fail
            exact ⟨⟨1, by omega, rfl, ⟨Below.drewN BB.out _⟩⟩, by simp [intOf]⟩
          · obtain ⟨j, rfl⟩ : ∃ j, k = j + 1 := ⟨k - 1, by omega⟩
            obtain ⟨d0, d1, -, -⟩ := AZ.out j (by omega)
            rw [← hc0 _ _ bzh.out] at d0 d1
            have q2 := q1 hpos
            rw [Nat.add_sub_cancel] at q2
            generalize zeroL.getD (j + 1) (0, 0) = x at *
            generalize zeroL.getD j (0, 0) = y at *
            obtain ⟨x0, x1⟩ := x
            obtain ⟨y0, y1⟩ := y
            simp only at c0 c1 d0 d1 q0 q2
            have q0' : decide (x1 < x0) = false := decide_eq_false (by omega)
            have q2' : decide (x0 ≤ y1) = false := decide_eq_false (by omega)
            have qp : (0 : Int) < (j : Int) + 1 := by omega
            clear q1 hc0
            clear AZ B2
            go_wp2_with fail
            go_quiet (fail)
            go_wp2_with fail
            exact ⟨⟨j + 2, by omega, by go_num, ⟨Below.drewN BB.out _⟩⟩, by simp [intOf]; omega⟩
        · obtain rfl : k = 26 := by omega
          have B3 := BB
          clear BB hlt hk AZ B2
          rw [show ((26 : Nat) : Int) = 26 from rfl]
          go_wp2_with fail
          obtain ⟨e1, e2⟩ := CW.out wr B3.out
          obtain ⟨e3, e4⟩ := CZ.out wr B3.out
          have hI := HI.out
          have hJ := HJ.out
          have hIt : Int.tmod (n : Int) 37 = (i : Int) := by rw [Int.tmod_eq_emod_of_nonneg (by omega)]; exact hI
          have hJt : Int.tmod (n : Int) 26 = (j : Int) := by rw [Int.tmod_eq_emod_of_nonneg (by omega)]; exact hJ
          have wn : IntKind.i64.wrap (n : Int) = (n : Int) := (by rw [IntKind.wrap_i64]; omega)
          have wi : IntKind.i64.wrap (i : Int) = (i : Int) := (by rw [IntKind.wrap_i64]; omega)
          have wj : IntKind.i64.wrap (j : Int) = (j : Int) := (by rw [IntKind.wrap_i64]; omega)
          have i1 : (0 : Int) ≤ (i : Int) := by omega
          have i2 : (i : Int) < 37 := by omega
          have j1 : (0 : Int) ≤ (j : Int) := by omega
          have j2 : (j : Int) < 26 := by omega
          have n1 := World.new_ne wr _ e1
          have n2 := World.new_ne wr _ e2
          have n3 := World.new_ne wr _ e3
          have n4 := World.new_ne wr _ e4
          go_region_held3 (fun w' => w'.cell? ⟨bw, ow + i * 2, none⟩ = some (.int .i32 s0) ∧ w'.cell? ⟨bw, ow + i * 2 + 1, none⟩ = some (.int .i32 s1') ∧ w'.cell? ⟨bz, oz + j * 2, none⟩ = some (.int .i32 t0) ∧ w'.cell? ⟨bz, oz + j * 2 + 1, none⟩ = some (.int .i32 t1)) (first | go_keep | assumption) (fail)
          · have BX : Box' (Below w1.heap.size w1 ((wr.alloc (.cells #[.int .i32 s0, .int .i32 s1'] 35)).alloc (.cells #[.int .i32 t0, .int .i32 t1] 35)).drew) := ⟨((B3.out.alloc B3.out.size _).alloc (by have := B3.out.size; simp; omega) _).drew⟩
            have ra : Row ((wr.alloc (.cells #[.int .i32 s0, .int .i32 s1'] 35)).alloc (.cells #[.int .i32 t0, .int .i32 t1] 35)).drew wr.heap.size 35 #[.int .i32 s0, .int .i32 s1'] := ((Row.new wr 35 _).alloc _).drew
            have rb : Row ((wr.alloc (.cells #[.int .i32 s0, .int .i32 s1'] 35)).alloc (.cells #[.int .i32 t0, .int .i32 t1] 35)).drew (wr.heap.size + 1) 35 #[.int .i32 t0, .int .i32 t1] := (Row.made _ _ _ _ _ rfl (by simp)).drew
            have f0 := ra.cell 0
            have f1 := ra.cell 1
            have f2 := rb.cell 0
            have f3 := rb.cell 1
            simp only [List.getElem?_toArray, List.getElem?_cons_zero, List.getElem?_cons_succ] at f0 f1 f2 f3
            generalize ((wr.alloc (.cells #[.int .i32 s0, .int .i32 s1'] 35)).alloc (.cells #[.int .i32 t0, .int .i32 t1] 35)).drew = w3 at *
            generalize wr.heap.size = g at *
            clear ra rb B3 e1 e2 e3 e4 n1 n2 n3 n4 hI hJ hIt hJt wn wi wj i1 i2 j1 j2 HI HJ CW CZ
            obtain ⟨⟨d1, d2, d3⟩, d4, d5, d6⟩ := BD.out
            obtain ⟨r, hr⟩ : ∃ r : Int, (m : Int) % (s1' - s0 + 1) = r := ⟨_, rfl⟩
            have hr0 : 0 ≤ r := by rw [← hr]; exact Int.emod_nonneg _ (by omega)
            have hr1 : r < s1' - s0 + 1 := by rw [← hr]; exact Int.emod_lt_of_pos _ (by omega)
            obtain ⟨q, hq⟩ : ∃ q : Int, (m : Int) % (t1 - t0 + 1) = q := ⟨_, rfl⟩
            have hq0 : 0 ≤ q := by rw [← hq]; exact Int.emod_nonneg _ (by omega)
            have hq1 : q < t1 - t0 + 1 := by rw [← hq]; exact Int.emod_lt_of_pos _ (by omega)
            have FC := Box'.mk (FW.out (s0 + r) (by omega) (by omega))
            have FD := Box'.mk (FZ.out (t0 + q) (by omega) (by omega))
            have HR := Box'.mk hr
            have HQ := Box'.mk hq
            clear FW FZ BD hq
            go_wp2_with fail
            go_quiet (fail)
            have hq := HQ.out
            clear hr HR f0 f1
            go_wp2_with fail
            go_quiet (fail)
            clear hq HQ f2 f3
            generalize hcc : s0 + r = c at *
            generalize hdd : t0 + q = d at *
            clear hcc hdd d1 d2 d3 d4 d5 d6 hr0 hr1 hq0 hq1
            go_wp2_with fail
            refine (anch_any _).mono ?_
            rintro e w4 ⟨rfl, b4⟩
            have B4 := Box'.mk ((Below.drewN BX.out _).trans (b4.mono (by exact BX.out.size)))
            clear b4 BX
            go_wp2_with fail
            refine (of_any c _).mono ?_
            rintro e w5 ⟨rfl, b5⟩
            have B5 := Box'.mk (B4.out.trans (b5.mono B4.out.size))
            clear b5 B4
            cases hin : inF zeroL c with
            | false =>
              have e5 : ofF c = 2 := by have := FC.out; rw [hin] at this; exact this
              rw [e5]
              clear e5 hin FC
              go_wp2_with fail
              refine (of_any d _).mono ?_
              rintro e w6 ⟨rfl, b6⟩
              have B6 := Box'.mk (B5.out.trans (b6.mono B5.out.size))
              rw [FD.out]
              clear b6 B5 FD
              go_wp2_with fail
              go_ret
              exact ⟨rfl, B1.out.trans (B6.out.mono B1.out.size)⟩
            | true =>
              have e5 : ofF c = 0 := by have := FC.out; rw [hin] at this; exact this
              have E5 := Box'.mk e5
              have IN := Box'.mk (in_any _ zeroL (by decide) c w5 ((S2.out.below B5.out (Nat.le_refl _)).up B5.out.size))
              rw [hin] at IN
              rw [e5]
              clear e5 hin FC
              go_wp2_with fail
              refine IN.out.mono ?_
              rintro e w6 ⟨rfl, b6⟩
              have B6 := Box'.mk (B5.out.trans (b6.mono B5.out.size))
              clear IN b6 B5
              go_wp2_with fail
              refine (of_any c _).mono ?_
              rintro e w7 ⟨rfl, b7⟩
              have B7 := Box'.mk (B6.out.trans (b7.mono B6.out.size))
              rw [E5.out]
              clear E5 b7 B6
              go_wp2_with fail
              refine (of_any d _).mono ?_
              rintro e w8 ⟨rfl, b8⟩
              have B8 := Box'.mk (B7.out.trans (b8.mono B7.out.size))
              rw [FD.out]
              clear b8 B7 FD
              go_wp2_with fail
              go_ret
              exact ⟨rfl, B1.out.trans (B8.out.mono B1.out.size)⟩
          · have BX : Box' (Below w1.heap.size w1 ((wr.alloc (.cells #[.int .i32 t0, .int .i32 t1] 35)).alloc (.cells #[.int .i32 s0, .int .i32 s1'] 35)).drew) := ⟨((B3.out.alloc B3.out.size _).alloc (by have := B3.out.size; simp; omega) _).drew⟩
            have ra : Row ((wr.alloc (.cells #[.int .i32 t0, .int .i32 t1] 35)).alloc (.cells #[.int .i32 s0, .int .i32 s1'] 35)).drew wr.heap.size 35 #[.int .i32 t0, .int .i32 t1] := ((Row.new wr 35 _).alloc _).drew
            have rb : Row ((wr.alloc (.cells #[.int .i32 t0, .int .i32 t1] 35)).alloc (.cells #[.int .i32 s0, .int .i32 s1'] 35)).drew (wr.heap.size + 1) 35 #[.int .i32 s0, .int .i32 s1'] := (Row.made _ _ _ _ _ rfl (by simp)).drew
            have f0 := rb.cell 0
            have f1 := rb.cell 1
            have f2 := ra.cell 0
            have f3 := ra.cell 1
            simp only [List.getElem?_toArray, List.getElem?_cons_zero, List.getElem?_cons_succ] at f0 f1 f2 f3
            generalize ((wr.alloc (.cells #[.int .i32 t0, .int .i32 t1] 35)).alloc (.cells #[.int .i32 s0, .int .i32 s1'] 35)).drew = w3 at *
            generalize wr.heap.size = g at *
            clear ra rb B3 e1 e2 e3 e4 n1 n2 n3 n4 hI hJ hIt hJt wn wi wj i1 i2 j1 j2 HI HJ CW CZ
            obtain ⟨⟨d1, d2, d3⟩, d4, d5, d6⟩ := BD.out
            obtain ⟨r, hr⟩ : ∃ r : Int, (m : Int) % (s1' - s0 + 1) = r := ⟨_, rfl⟩
            have hr0 : 0 ≤ r := by rw [← hr]; exact Int.emod_nonneg _ (by omega)
            have hr1 : r < s1' - s0 + 1 := by rw [← hr]; exact Int.emod_lt_of_pos _ (by omega)
            obtain ⟨q, hq⟩ : ∃ q : Int, (m : Int) % (t1 - t0 + 1) = q := ⟨_, rfl⟩
            have hq0 : 0 ≤ q := by rw [← hq]; exact Int.emod_nonneg _ (by omega)
            have hq1 : q < t1 - t0 + 1 := by rw [← hq]; exact Int.emod_lt_of_pos _ (by omega)
            have FC := Box'.mk (FW.out (s0 + r) (by omega) (by omega))
            have FD := Box'.mk (FZ.out (t0 + q) (by omega) (by omega))
            have HR := Box'.mk hr
            have HQ := Box'.mk hq
            clear FW FZ BD hq
            go_wp2_with fail
            go_quiet (fail)
            have hq := HQ.out
            clear hr HR f0 f1
            go_wp2_with fail
            go_quiet (fail)
            clear hq HQ f2 f3
            generalize hcc : s0 + r = c at *
            generalize hdd : t0 + q = d at *
            clear hcc hdd d1 d2 d3 d4 d5 d6 hr0 hr1 hq0 hq1
            go_wp2_with fail
            refine (anch_any _).mono ?_
            rintro e w4 ⟨rfl, b4⟩
            have B4 := Box'.mk ((Below.drewN BX.out _).trans (b4.mono (by exact BX.out.size)))
            clear b4 BX
            go_wp2_with fail
            refine (of_any c _).mono ?_
            rintro e w5 ⟨rfl, b5⟩
            have B5 := Box'.mk (B4.out.trans (b5.mono B4.out.size))
            clear b5 B4
            cases hin : inF zeroL c with
            | false =>
              have e5 : ofF c = 2 := by have := FC.out; rw [hin] at this; exact this
              rw [e5]
              clear e5 hin FC
              go_wp2_with fail
              refine (of_any d _).mono ?_
              rintro e w6 ⟨rfl, b6⟩
              have B6 := Box'.mk (B5.out.trans (b6.mono B5.out.size))
              rw [FD.out]
              clear b6 B5 FD
              go_wp2_with fail
              go_ret
              exact ⟨rfl, B1.out.trans (B6.out.mono B1.out.size)⟩
            | true =>
              have e5 : ofF c = 0 := by have := FC.out; rw [hin] at this; exact this
              have E5 := Box'.mk e5
              have IN := Box'.mk (in_any _ zeroL (by decide) c w5 ((S2.out.below B5.out (Nat.le_refl _)).up B5.out.size))
              rw [hin] at IN
              rw [e5]
              clear e5 hin FC
              go_wp2_with fail
              refine IN.out.mono ?_
              rintro e w6 ⟨rfl, b6⟩
              have B6 := Box'.mk (B5.out.trans (b6.mono B5.out.size))
              clear IN b6 B5
              go_wp2_with fail
              refine (of_any c _).mono ?_
              rintro e w7 ⟨rfl, b7⟩
              have B7 := Box'.mk (B6.out.trans (b7.mono B6.out.size))
              rw [E5.out]
              clear E5 b7 B6
              go_wp2_with fail
              refine (of_any d _).mono ?_
              rintro e w8 ⟨rfl, b8⟩
              have B8 := Box'.mk (B7.out.trans (b8.mono B7.out.size))
              rw [FD.out]
              clear b8 B7 FD
              go_wp2_with fail
              go_ret
              exact ⟨rfl, B1.out.trans (B8.out.mono B1.out.size)⟩
end Go.Proofs.Ytmflhcbojgaekaa
