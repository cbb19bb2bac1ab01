/- steps: the straight way. -/
import Derived.Test.YtnlladjkajmpoaaCa
import Derived.Test.YtnlladjkajmpoaaW
namespace Go.Proofs.Ytnlladjkajmpoaa
open Go.RowKit Go.BigFrame
set_option linter.unusedVariables false
set_option linter.unusedSimpArgs false

theorem and_low (x y : Nat) (hx : x < 1024) (hy : y < 1024) : (x &&& (65535 - y)) &&& 6 = ((x % 8) &&& (7 - y % 8)) &&& 6 := by
  have h1 : ((x &&& (65535 - y)) &&& 6) % 2 ^ 3 = (x &&& (65535 - y)) &&& 6 := Nat.mod_eq_of_lt (Nat.lt_of_le_of_lt Nat.and_le_right (by decide))
  rw [← h1, Nat.and_mod_two_pow, Nat.and_mod_two_pow]
  rw [show (65535 - y) % 2 ^ 3 = 7 - y % 8 by omega]
theorem thn_bits (a b : St) : (bits .and .u16 (bits .andNot .u16 (flg a : Int) (flg b : Int)) 6 != 0) = thn a b := by
  have ha := flg_lt a
  have hb := flg_lt b
  have l1 : flg a &&& (65535 - flg b) < 65536 := Nat.lt_of_le_of_lt Nat.and_le_left (by omega)
  have e6 : (6 : Int) = ((6 : Nat) : Int) := rfl
  rw [u16_andNot_nat _ _ (by omega) (by omega), e6, u16_and_nat _ _ l1 (by decide), and_low _ _ ha hb]
  have ma : flg a % 8 = a.b1.toNat * 2 + a.b2.toNat * 4 := by
    have := Bool.toNat_le a.b1; have := Bool.toNat_le a.b2
    unfold flg fl; omega
  have mb : flg b % 8 = b.b1.toNat * 2 + b.b2.toNat * 4 := by
    have := Bool.toNat_le b.b1; have := Bool.toNat_le b.b2
    unfold flg fl; omega
  rw [ma, mb]
  unfold thn
  cases a.b1 <;> cases a.b2 <;> cases b.b1 <;> cases b.b2 <;> rfl
/-- What stands while parameters are gathered. -/
structure SQ (W : Nat) (w : World) (a b : St) (wr : World) (v : Value) (d : List Int) : Prop where
  ow : OwnI (W + 2) wr v d
  ra : Row wr W 49 (lA a)
  rb : Row wr (W + 1) 49 (lA b)
  be : Below W w wr
  sz : W + 2 ≤ wr.heap.size
theorem SQ.below {W : Nat} {w : World} {a b : St} {wr w' : World} {v : Value} {d : List Int} (h : SQ W w a b wr v d) (hb : Below wr.heap.size wr w') : SQ W w a b w' v d :=
  ⟨h.ow.below hb, h.ra.below hb h.ra.lt, h.rb.below hb h.rb.lt, h.be.trans (hb.mono (by have := h.sz; omega)), Nat.le_trans h.sz hb.size⟩
theorem SQ.app {W : Nat} {w : World} {a b : St} {wr w' : World} {v v' : Value} {d d' : List Int} (h : SQ W w a b wr v d) (ho : OwnI (W + 2) w' v' d') (hb : Below (W + 2) wr w') : SQ W w a b w' v' d' :=
  ⟨ho, h.ra.below hb (by omega), h.rb.below hb (by omega), h.be.trans (hb.mono (by omega)), Nat.le_trans h.sz hb.size⟩
theorem SQ.alloc {W : Nat} {w : World} {a b : St} {wr : World} {v : Value} {d : List Int} (h : SQ W w a b wr v d) (o : Obj) : SQ W w a b (wr.alloc o) v d :=
  h.below ((Below.refl _ _).alloc (Nat.le_refl _) _)
theorem cells_one (w : World) (x : Int) : ∀ j u, ([x].map (Value.int .i64))[j]? = some u → (w.alloc (.cells #[.int .i64 x] 3)).cell? ((⟨w.heap.size, 0, none⟩ : Addr).add j) = some u :=
  (Row.new w 3 #[.int .i64 x]).icells (l := [x])
theorem SegI.cells {w : World} {g : Nat} {l : List Int} (h : SegI w g l) : ∀ j u, (l.map (Value.int .i64))[j]? = some u → w.cell? ((⟨g, 0, none⟩ : Addr).add j) = some u := by
  intro j u hu
  have hj : j < l.length := by
    have := (List.getElem?_eq_some_iff.1 hu).1
    rwa [List.length_map] at this
  rw [Addr.add_mid, Nat.zero_add, h.cell hj]
  simpa [hj] using hu
theorem OwnI.cells {N : Nat} {w : World} {v : Value} {d : List Int} (h : OwnI N w v d) (hd : 0 < d.length) : ∃ g cap, v = .slice (some ⟨g, 0, none⟩) d.length cap ∧ ∀ j u, (d.map (Value.int .i64))[j]? = some u → w.cell? ((⟨g, 0, none⟩ : Addr).add j) = some u := by
  obtain ⟨g, cap, e, _, _, hs⟩ := h.seg hd
  exact ⟨g, cap, e, hs.cells⟩
theorem thS_fg (a b : St) : (thS a b).fg = a.fg := by unfold thS; split <;> rfl
theorem thS_bg (a b : St) : (thS a b).bg = a.bg := by unfold thS; split <;> rfl
set_option maxRecDepth 100000 in
set_option maxHeartbeats 8000000 in
theorem steps_any (a b : St) (hb : mayS b = true) (w : World) : Calls Try.prog 32 #[.agg (lA a), .agg (lA b)] w fun e w' => ∃ v, e = .returned v ∧ OwnI w.heap.size w' v (stF a b) ∧ Below w.heap.size w w' := by
  have TB := Box'.mk (thn_bits a b)
  have hc : (-1 ≤ b.fg ∧ b.fg ≤ 255) ∧ (-1 ≤ b.bg ∧ b.bg ≤ 255) := by simpa [mayS, mc] using hb
  have CF : Box' (∀ wd, Calls Try.prog 46 #[.int .i64 30, .int .i64 b.fg] wd fun e w' => ∃ v, e = .returned v ∧ OwnI wd.heap.size w' v (colF 30 b.fg) ∧ Below wd.heap.size wd w') := ⟨colourParams_any 30 b.fg (by decide) (by decide) hc.1.1 hc.1.2⟩
  have CG : Box' (∀ wd, Calls Try.prog 46 #[.int .i64 40, .int .i64 b.bg] wd fun e w' => ∃ v, e = .returned v ∧ OwnI wd.heap.size w' v (colF 40 b.bg) ∧ Below wd.heap.size wd w') := ⟨colourParams_any 40 b.bg (by decide) (by decide) hc.2.1 hc.2.2⟩
  have LF := Box'.mk (flL_len (thS a b) b)
  have L0 : Box' ((fl0 a b).length ≤ 1) := ⟨by unfold fl0; split <;> simp⟩
  have LC1 := Box'.mk (colF_len 30 b.fg)
  have LC2 := Box'.mk (colF_len 40 b.bg)
  have HB : Box' (∀ k : Nat, k < 9 → ∀ wd, Calls Try.prog 45 #[.agg (lA b), .int .i64 ((k : Int) + 1)] wd fun e w' => e = .returned (.bool (hs b (k + 1))) ∧ Below wd.heap.size wd w') := ⟨fun k hk wd => by have := has_any b (k + 1) (by omega) (by omega) wd; rw [Int.natCast_add] at this; exact this⟩
  have HA : Box' (∀ k : Nat, k < 9 → ∀ wd, Calls Try.prog 45 #[.agg (lA (thS a b)), .int .i64 ((k : Int) + 1)] wd fun e w' => e = .returned (.bool (hs (thS a b) (k + 1))) ∧ Below wd.heap.size wd w') := ⟨fun k hk wd => by have := has_any (thS a b) (k + 1) (by omega) (by omega) wd; rw [Int.natCast_add] at this; exact this⟩
  have R2 : Box' (SQ w.heap.size w a b ((w.alloc (.cells (lA a) 49)).alloc (.cells (lA b) 49)) (.slice none 0 0) []) := ⟨⟨OwnI.nil _ _, (Row.new _ _ _).alloc _, Row.made _ _ _ _ _ rfl (by simp), ((Below.refl w.heap.size w).alloc (Nat.le_refl _) _).alloc (by simp) _, by simp⟩⟩
  clear hb hc
  go_enter Try.func32, Try.ntmps32
  go_upto_region 2 with (fail)
  generalize ((w.alloc (.cells (lA a) 49)).alloc (.cells (lA b) 49)) = w2 at *
  have xa : w2.cell? ⟨w.heap.size, 2, none⟩ = some (.int .u16 (flg a : Int)) := R2.out.ra.cell 2
  have xb : w2.cell? ⟨w.heap.size + 1, 2, none⟩ = some (.int .u16 (flg b : Int)) := R2.out.rb.cell 2
  have fa := R2.out.ra.frozen 2
  have la := flg_lt a
  have lb := flg_lt b
  cases ht : thn a b with
  | false =>
    rw [ht] at TB
    have tb := TB.out
    have EA : Box' (thS a b = a) := ⟨by unfold thS; rw [ht]; rfl⟩
    have E0 : Box' (fl0 a b = []) := ⟨by unfold fl0; rw [ht]; rfl⟩
    clear TB ht
    go_wp2_with fail
    clear tb xa xb fa la lb
    have S3 : Box' (SQ w.heap.size w (thS a b) b w2 (.slice none 0 0) (fl0 a b)) := ⟨by rw [EA.out, E0.out]; exact R2.out⟩
    clear R2 EA E0
    try simp only [Act.put]
    go_loopw [5, 6] (fun p i wr => ∃ k : Nat, k ≤ 9 ∧ i = .int .i64 ((k : Int) + 1) ∧ Box' (SQ w.heap.size w (thS a b) b wr p (fl0 a b ++ flL (thS a b) b k))) (fun _ i _ => 12 - (intOf i).toNat)
    case atStart => exact ⟨0, by omega, rfl, ⟨by rw [flL, List.append_nil]; exact S3.out⟩⟩
    case round =>
      obtain ⟨k, hk, rfl, SR⟩ := hrel
      clear S3
      by_cases hlt : k < 9
      case pos =>
        have HBk := Box'.mk (HB.out k hlt)
        have HAk := Box'.mk (HA.out k hlt)
        have LL : (fl0 a b ++ flL (thS a b) b k).length ≤ 12 := by have := L0.out; have := LF.out k; rw [List.length_append]; omega
        have NX : Box' (fl0 a b ++ flL (thS a b) b (k + 1) = (fl0 a b ++ flL (thS a b) b k) ++ flS (thS a b) b (k + 1)) := ⟨by rw [flL, List.append_assoc]⟩
        obtain ⟨d, hd⟩ : ∃ d, fl0 a b ++ flL (thS a b) b k = d := ⟨_, rfl⟩
        rw [hd] at SR LL NX
        clear hd CF CG LC1 LC2 LF L0 HA HB
        have ya0 : wr.cell? ⟨w.heap.size, 0, none⟩ = some (.int .i64 (thS a b).fg) := SR.out.ra.cell 0
        have ya1 : wr.cell? ⟨w.heap.size, 1, none⟩ = some (.int .i64 (thS a b).bg) := SR.out.ra.cell 1
        have ya2 : wr.cell? ⟨w.heap.size, 2, none⟩ = some (.int .u16 (flg (thS a b) : Int)) := SR.out.ra.cell 2
        have yb0 : wr.cell? ⟨w.heap.size + 1, 0, none⟩ = some (.int .i64 b.fg) := SR.out.rb.cell 0
        have yb1 : wr.cell? ⟨w.heap.size + 1, 1, none⟩ = some (.int .i64 b.bg) := SR.out.rb.cell 1
        have yb2 : wr.cell? ⟨w.heap.size + 1, 2, none⟩ = some (.int .u16 (flg b : Int)) := SR.out.rb.cell 2
        cases hB : hs b (k + 1) with
        | true =>
          cases hA : hs (thS a b) (k + 1) with
          | true =>
            have EE : Box' (flS (thS a b) b (k + 1) = []) := ⟨by unfold flS; rw [hB, hA]; rfl⟩
            rw [hB] at HBk
            rw [hA] at HAk
            clear hA hB
            go_wp2_with fail
            refine (HBk.out _).mono ?_
            rintro e w5 ⟨rfl, hbb⟩
            have S5 := Box'.mk (SR.out.below hbb)
            clear ya0 ya1 ya2 yb0 yb1 yb2
            clear hbb SR
            have ya0 : w5.cell? ⟨w.heap.size, 0, none⟩ = some (.int .i64 (thS a b).fg) := S5.out.ra.cell 0
            have ya1 : w5.cell? ⟨w.heap.size, 1, none⟩ = some (.int .i64 (thS a b).bg) := S5.out.ra.cell 1
            have ya2 : w5.cell? ⟨w.heap.size, 2, none⟩ = some (.int .u16 (flg (thS a b) : Int)) := S5.out.ra.cell 2
            have yb0 : w5.cell? ⟨w.heap.size + 1, 0, none⟩ = some (.int .i64 b.fg) := S5.out.rb.cell 0
            have yb1 : w5.cell? ⟨w.heap.size + 1, 1, none⟩ = some (.int .i64 b.bg) := S5.out.rb.cell 1
            have yb2 : w5.cell? ⟨w.heap.size + 1, 2, none⟩ = some (.int .u16 (flg b : Int)) := S5.out.rb.cell 2
            go_wp2_with fail
            refine (HAk.out _).mono ?_
            rintro e w6 ⟨rfl, hbb⟩
            have S6 := Box'.mk (S5.out.below hbb)
            clear ya0 ya1 ya2 yb0 yb1 yb2
            clear hbb S5
            have ya0 : w6.cell? ⟨w.heap.size, 0, none⟩ = some (.int .i64 (thS a b).fg) := S6.out.ra.cell 0
            have ya1 : w6.cell? ⟨w.heap.size, 1, none⟩ = some (.int .i64 (thS a b).bg) := S6.out.ra.cell 1
            have ya2 : w6.cell? ⟨w.heap.size, 2, none⟩ = some (.int .u16 (flg (thS a b) : Int)) := S6.out.ra.cell 2
            have yb0 : w6.cell? ⟨w.heap.size + 1, 0, none⟩ = some (.int .i64 b.fg) := S6.out.rb.cell 0
            have yb1 : w6.cell? ⟨w.heap.size + 1, 1, none⟩ = some (.int .i64 b.bg) := S6.out.rb.cell 1
            have yb2 : w6.cell? ⟨w.heap.size + 1, 2, none⟩ = some (.int .u16 (flg b : Int)) := S6.out.rb.cell 2
            go_wp2_with fail
            refine (HAk.out _).mono ?_
            rintro e w7 ⟨rfl, hbb⟩
            have S7 := Box'.mk (S6.out.below hbb)
            clear ya0 ya1 ya2 yb0 yb1 yb2
            clear hbb S6
            have ya0 : w7.cell? ⟨w.heap.size, 0, none⟩ = some (.int .i64 (thS a b).fg) := S7.out.ra.cell 0
            have ya1 : w7.cell? ⟨w.heap.size, 1, none⟩ = some (.int .i64 (thS a b).bg) := S7.out.ra.cell 1
            have ya2 : w7.cell? ⟨w.heap.size, 2, none⟩ = some (.int .u16 (flg (thS a b) : Int)) := S7.out.ra.cell 2
            have yb0 : w7.cell? ⟨w.heap.size + 1, 0, none⟩ = some (.int .i64 b.fg) := S7.out.rb.cell 0
            have yb1 : w7.cell? ⟨w.heap.size + 1, 1, none⟩ = some (.int .i64 b.bg) := S7.out.rb.cell 1
            have yb2 : w7.cell? ⟨w.heap.size + 1, 2, none⟩ = some (.int .u16 (flg b : Int)) := S7.out.rb.cell 2
            go_wp2_with fail
            refine (HBk.out _).mono ?_
            rintro e w8 ⟨rfl, hbb⟩
            have S8 := Box'.mk (S7.out.below hbb)
            clear ya0 ya1 ya2 yb0 yb1 yb2
            clear hbb S7
            have ya0 : w8.cell? ⟨w.heap.size, 0, none⟩ = some (.int .i64 (thS a b).fg) := S8.out.ra.cell 0
            have ya1 : w8.cell? ⟨w.heap.size, 1, none⟩ = some (.int .i64 (thS a b).bg) := S8.out.ra.cell 1
            have ya2 : w8.cell? ⟨w.heap.size, 2, none⟩ = some (.int .u16 (flg (thS a b) : Int)) := S8.out.ra.cell 2
            have yb0 : w8.cell? ⟨w.heap.size + 1, 0, none⟩ = some (.int .i64 b.fg) := S8.out.rb.cell 0
            have yb1 : w8.cell? ⟨w.heap.size + 1, 1, none⟩ = some (.int .i64 b.bg) := S8.out.rb.cell 1
            have yb2 : w8.cell? ⟨w.heap.size + 1, 2, none⟩ = some (.int .u16 (flg b : Int)) := S8.out.rb.cell 2
            go_wp2_with fail
            exact ⟨⟨k + 1, by omega, by go_num, ⟨by rw [NX.out, EE.out, List.append_nil]; exact S8.out⟩⟩, by simp [intOf]; omega⟩
          | false =>
            have EE : Box' (flS (thS a b) b (k + 1) = [(k : Int) + 1]) := ⟨by unfold flS; rw [hB, hA]; rfl⟩
            rw [hB] at HBk
            rw [hA] at HAk
            clear hA hB
            go_wp2_with fail
            refine (HBk.out _).mono ?_
            rintro e w5 ⟨rfl, hbb⟩
            have S5 := Box'.mk (SR.out.below hbb)
            clear ya0 ya1 ya2 yb0 yb1 yb2
            clear hbb SR
            have ya0 : w5.cell? ⟨w.heap.size, 0, none⟩ = some (.int .i64 (thS a b).fg) := S5.out.ra.cell 0
            have ya1 : w5.cell? ⟨w.heap.size, 1, none⟩ = some (.int .i64 (thS a b).bg) := S5.out.ra.cell 1
            have ya2 : w5.cell? ⟨w.heap.size, 2, none⟩ = some (.int .u16 (flg (thS a b) : Int)) := S5.out.ra.cell 2
            have yb0 : w5.cell? ⟨w.heap.size + 1, 0, none⟩ = some (.int .i64 b.fg) := S5.out.rb.cell 0
            have yb1 : w5.cell? ⟨w.heap.size + 1, 1, none⟩ = some (.int .i64 b.bg) := S5.out.rb.cell 1
            have yb2 : w5.cell? ⟨w.heap.size + 1, 2, none⟩ = some (.int .u16 (flg b : Int)) := S5.out.rb.cell 2
            go_wp2_with fail
            refine (HAk.out _).mono ?_
            rintro e w6 ⟨rfl, hbb⟩
            have S6 := Box'.mk (S5.out.below hbb)
            clear ya0 ya1 ya2 yb0 yb1 yb2
            clear hbb S5
            have ya0 : w6.cell? ⟨w.heap.size, 0, none⟩ = some (.int .i64 (thS a b).fg) := S6.out.ra.cell 0
            have ya1 : w6.cell? ⟨w.heap.size, 1, none⟩ = some (.int .i64 (thS a b).bg) := S6.out.ra.cell 1
            have ya2 : w6.cell? ⟨w.heap.size, 2, none⟩ = some (.int .u16 (flg (thS a b) : Int)) := S6.out.ra.cell 2
            have yb0 : w6.cell? ⟨w.heap.size + 1, 0, none⟩ = some (.int .i64 b.fg) := S6.out.rb.cell 0
            have yb1 : w6.cell? ⟨w.heap.size + 1, 1, none⟩ = some (.int .i64 b.bg) := S6.out.rb.cell 1
            have yb2 : w6.cell? ⟨w.heap.size + 1, 2, none⟩ = some (.int .u16 (flg b : Int)) := S6.out.rb.cell 2
            have RA := Box'.mk (S6.out.alloc (.cells #[.int .i64 ((k : Int) + 1)] 3))
            have hN := RA.out.sz
            have ho := RA.out.ow
            have hcell := cells_one w6 ((k : Int) + 1)
            clear ya0 ya1 ya2 yb0 yb1 yb2
            have hmx : d.length + ([(k : Int) + 1] : List Int).length ≤ 17592186044416 := by simp; omega
            go_wp2_with ((refine wpList_append_ints' rfl (.tmp 35) (.tmp 37) rfl (w.heap.size + 2) hN _ d rfl ho _ _ _ [(k : Int) + 1] rfl rfl hcell hmx ?_; intro v9 w9 o9 b9))
            have R9 := Box'.mk (RA.out.app o9 b9)
            clear hN ho hcell o9 b9 RA
            exact ⟨⟨k + 1, by omega, by go_num, ⟨by rw [NX.out, EE.out]; exact R9.out⟩⟩, by simp [intOf]; omega⟩
        | false =>
          cases hA : hs (thS a b) (k + 1) with
          | true =>
            have EE : Box' (flS (thS a b) b (k + 1) = [20 + ((k : Int) + 1)]) := ⟨by unfold flS; rw [hB, hA]; rfl⟩
            rw [hB] at HBk
            rw [hA] at HAk
            clear hA hB
            go_wp2_with fail
            refine (HBk.out _).mono ?_
            rintro e w5 ⟨rfl, hbb⟩
            have S5 := Box'.mk (SR.out.below hbb)
            clear ya0 ya1 ya2 yb0 yb1 yb2
            clear hbb SR
            have ya0 : w5.cell? ⟨w.heap.size, 0, none⟩ = some (.int .i64 (thS a b).fg) := S5.out.ra.cell 0
            have ya1 : w5.cell? ⟨w.heap.size, 1, none⟩ = some (.int .i64 (thS a b).bg) := S5.out.ra.cell 1
            have ya2 : w5.cell? ⟨w.heap.size, 2, none⟩ = some (.int .u16 (flg (thS a b) : Int)) := S5.out.ra.cell 2
            have yb0 : w5.cell? ⟨w.heap.size + 1, 0, none⟩ = some (.int .i64 b.fg) := S5.out.rb.cell 0
            have yb1 : w5.cell? ⟨w.heap.size + 1, 1, none⟩ = some (.int .i64 b.bg) := S5.out.rb.cell 1
            have yb2 : w5.cell? ⟨w.heap.size + 1, 2, none⟩ = some (.int .u16 (flg b : Int)) := S5.out.rb.cell 2
            go_wp2_with fail
            refine (HAk.out _).mono ?_
            rintro e w7 ⟨rfl, hbb⟩
            have S7 := Box'.mk (S5.out.below hbb)
            clear ya0 ya1 ya2 yb0 yb1 yb2
            clear hbb S5
            have ya0 : w7.cell? ⟨w.heap.size, 0, none⟩ = some (.int .i64 (thS a b).fg) := S7.out.ra.cell 0
            have ya1 : w7.cell? ⟨w.heap.size, 1, none⟩ = some (.int .i64 (thS a b).bg) := S7.out.ra.cell 1
            have ya2 : w7.cell? ⟨w.heap.size, 2, none⟩ = some (.int .u16 (flg (thS a b) : Int)) := S7.out.ra.cell 2
            have yb0 : w7.cell? ⟨w.heap.size + 1, 0, none⟩ = some (.int .i64 b.fg) := S7.out.rb.cell 0
            have yb1 : w7.cell? ⟨w.heap.size + 1, 1, none⟩ = some (.int .i64 b.bg) := S7.out.rb.cell 1
            have yb2 : w7.cell? ⟨w.heap.size + 1, 2, none⟩ = some (.int .u16 (flg b : Int)) := S7.out.rb.cell 2
            go_wp2_with fail
            refine (HBk.out _).mono ?_
            rintro e w8 ⟨rfl, hbb⟩
            have S8 := Box'.mk (S7.out.below hbb)
            clear ya0 ya1 ya2 yb0 yb1 yb2
            clear hbb S7
            have ya0 : w8.cell? ⟨w.heap.size, 0, none⟩ = some (.int .i64 (thS a b).fg) := S8.out.ra.cell 0
            have ya1 : w8.cell? ⟨w.heap.size, 1, none⟩ = some (.int .i64 (thS a b).bg) := S8.out.ra.cell 1
            have ya2 : w8.cell? ⟨w.heap.size, 2, none⟩ = some (.int .u16 (flg (thS a b) : Int)) := S8.out.ra.cell 2
            have yb0 : w8.cell? ⟨w.heap.size + 1, 0, none⟩ = some (.int .i64 b.fg) := S8.out.rb.cell 0
            have yb1 : w8.cell? ⟨w.heap.size + 1, 1, none⟩ = some (.int .i64 b.bg) := S8.out.rb.cell 1
            have yb2 : w8.cell? ⟨w.heap.size + 1, 2, none⟩ = some (.int .u16 (flg b : Int)) := S8.out.rb.cell 2
            have RA := Box'.mk (S8.out.alloc (.cells #[.int .i64 (20 + ((k : Int) + 1))] 3))
            have hN := RA.out.sz
            have ho := RA.out.ow
            have hcell := cells_one w8 (20 + ((k : Int) + 1))
            clear ya0 ya1 ya2 yb0 yb1 yb2
            have hmx : d.length + ([20 + ((k : Int) + 1)] : List Int).length ≤ 17592186044416 := by simp; omega
            go_wp2_with ((refine wpList_append_ints' rfl (.tmp 49) (.tmp 52) rfl (w.heap.size + 2) hN _ d rfl ho _ _ _ [20 + ((k : Int) + 1)] rfl rfl hcell hmx ?_; intro v9 w9 o9 b9))
            have R9 := Box'.mk (RA.out.app o9 b9)
            clear hN ho hcell o9 b9 RA
            exact ⟨⟨k + 1, by omega, by go_num, ⟨by rw [NX.out, EE.out]; exact R9.out⟩⟩, by simp [intOf]; omega⟩
          | false =>
            have EE : Box' (flS (thS a b) b (k + 1) = []) := ⟨by unfold flS; rw [hB, hA]; rfl⟩
            rw [hB] at HBk
            rw [hA] at HAk
            clear hA hB
            go_wp2_with fail
            refine (HBk.out _).mono ?_
            rintro e w5 ⟨rfl, hbb⟩
            have S5 := Box'.mk (SR.out.below hbb)
            clear ya0 ya1 ya2 yb0 yb1 yb2
            clear hbb SR
            have ya0 : w5.cell? ⟨w.heap.size, 0, none⟩ = some (.int .i64 (thS a b).fg) := S5.out.ra.cell 0
            have ya1 : w5.cell? ⟨w.heap.size, 1, none⟩ = some (.int .i64 (thS a b).bg) := S5.out.ra.cell 1
            have ya2 : w5.cell? ⟨w.heap.size, 2, none⟩ = some (.int .u16 (flg (thS a b) : Int)) := S5.out.ra.cell 2
            have yb0 : w5.cell? ⟨w.heap.size + 1, 0, none⟩ = some (.int .i64 b.fg) := S5.out.rb.cell 0
            have yb1 : w5.cell? ⟨w.heap.size + 1, 1, none⟩ = some (.int .i64 b.bg) := S5.out.rb.cell 1
            have yb2 : w5.cell? ⟨w.heap.size + 1, 2, none⟩ = some (.int .u16 (flg b : Int)) := S5.out.rb.cell 2
            go_wp2_with fail
            refine (HAk.out _).mono ?_
            rintro e w7 ⟨rfl, hbb⟩
            have S7 := Box'.mk (S5.out.below hbb)
            clear ya0 ya1 ya2 yb0 yb1 yb2
            clear hbb S5
            have ya0 : w7.cell? ⟨w.heap.size, 0, none⟩ = some (.int .i64 (thS a b).fg) := S7.out.ra.cell 0
            have ya1 : w7.cell? ⟨w.heap.size, 1, none⟩ = some (.int .i64 (thS a b).bg) := S7.out.ra.cell 1
            have ya2 : w7.cell? ⟨w.heap.size, 2, none⟩ = some (.int .u16 (flg (thS a b) : Int)) := S7.out.ra.cell 2
            have yb0 : w7.cell? ⟨w.heap.size + 1, 0, none⟩ = some (.int .i64 b.fg) := S7.out.rb.cell 0
            have yb1 : w7.cell? ⟨w.heap.size + 1, 1, none⟩ = some (.int .i64 b.bg) := S7.out.rb.cell 1
            have yb2 : w7.cell? ⟨w.heap.size + 1, 2, none⟩ = some (.int .u16 (flg b : Int)) := S7.out.rb.cell 2
            go_wp2_with fail
            exact ⟨⟨k + 1, by omega, by go_num, ⟨by rw [NX.out, EE.out, List.append_nil]; exact S7.out⟩⟩, by simp [intOf]; omega⟩
      case neg =>
        obtain rfl : k = 9 := by omega
        have LL : (fl0 a b ++ flL (thS a b) b 9).length ≤ 12 := by have := L0.out; have := LF.out 9; rw [List.length_append]; omega
        have ES : Box' (stF a b = (fl0 a b ++ flL (thS a b) b 9) ++ fgL a b ++ bgL a b) := ⟨rfl⟩
        obtain ⟨d, hd⟩ : ∃ d, fl0 a b ++ flL (thS a b) b 9 = d := ⟨_, rfl⟩
        rw [hd] at SR LL ES
        clear hd HA HB LF L0
        obtain ⟨va5, vc5, rfl, -⟩ := SR.out.ow.slice
        have ya0 : wr.cell? ⟨w.heap.size, 0, none⟩ = some (.int .i64 a.fg) := thS_fg a b ▸ SR.out.ra.cell 0
        have ya1 : wr.cell? ⟨w.heap.size, 1, none⟩ = some (.int .i64 a.bg) := thS_bg a b ▸ SR.out.ra.cell 1
        have ya2 : wr.cell? ⟨w.heap.size, 2, none⟩ = some (.int .u16 (flg (thS a b) : Int)) := SR.out.ra.cell 2
        have yb0 : wr.cell? ⟨w.heap.size + 1, 0, none⟩ = some (.int .i64 b.fg) := SR.out.rb.cell 0
        have yb1 : wr.cell? ⟨w.heap.size + 1, 1, none⟩ = some (.int .i64 b.bg) := SR.out.rb.cell 1
        have yb2 : wr.cell? ⟨w.heap.size + 1, 2, none⟩ = some (.int .u16 (flg b : Int)) := SR.out.rb.cell 2
        clear ya2 yb2
        by_cases hf : a.fg = b.fg
        case pos =>
          have EF : Box' (fgL a b = []) := ⟨if_pos hf⟩
          have hf1 : (a.fg != b.fg) = false := by rw [hf]; simp
          clear hf
          by_cases hg : a.bg = b.bg
          case pos =>
            have EG : Box' (bgL a b = []) := ⟨if_pos hg⟩
            have hg1 : (a.bg != b.bg) = false := by rw [hg]; simp
            clear hg
            go_wp2_with fail
            go_ret
            exact ⟨_, rfl, by rw [ES.out, EF.out, EG.out, List.append_nil, List.append_nil]; exact SR.out.ow.down (by omega), SR.out.be⟩
          case neg =>
            have EG : Box' (bgL a b = colF 40 b.bg) := ⟨if_neg hg⟩
            have hg1 : (a.bg != b.bg) = true := by simpa using hg
            clear hg
            go_wp2_with fail
            refine (CG.out _).mono ?_
            rintro e w7 ⟨v7, rfl, o7, hb7⟩
            have S7 := Box'.mk (SR.out.below hb7)
            have ho := S7.out.ow
            have hN := S7.out.sz
            obtain ⟨g7, c7, rfl, hcell⟩ := o7.cells LC2.out.2
            have hmx : (d).length + (colF 40 b.bg).length ≤ 17592186044416 := by have := LC2.out.1; have := LC1.out.1; (try rw [List.length_append]); omega
            clear o7 hb7 SR
            go_wp2_with ((refine wpList_append_ints' rfl (.tmp 69) (.tmp 72) rfl (w.heap.size + 2) hN _ (d) rfl ho _ _ _ (colF 40 b.bg) rfl rfl hcell hmx ?_; intro v8 w8 o8 b8))
            have S8 := Box'.mk (S7.out.app o8 b8)
            clear ho hN hcell hmx o8 b8 S7
            go_ret
            exact ⟨_, rfl, by rw [ES.out, EF.out, EG.out, List.append_nil]; exact S8.out.ow.down (by omega), S8.out.be⟩
        case neg =>
          have EF : Box' (fgL a b = colF 30 b.fg) := ⟨if_neg hf⟩
          have hf1 : (a.fg != b.fg) = true := by simpa using hf
          clear hf
          go_wp2_with fail
          refine (CF.out _).mono ?_
          rintro e w5 ⟨v5, rfl, o5, hb5⟩
          have S5 := Box'.mk (SR.out.below hb5)
          have ho := S5.out.ow
          have hN := S5.out.sz
          obtain ⟨g5, c5, rfl, hcell⟩ := o5.cells LC1.out.2
          have hmx : d.length + (colF 30 b.fg).length ≤ 17592186044416 := by have := LC1.out.1; omega
          clear ya0 ya1 yb0 yb1 o5 hb5 SR
          go_upto_region 14 with ((refine wpList_append_ints' rfl (.tmp 59) (.tmp 62) rfl (w.heap.size + 2) hN _ d rfl ho _ _ _ (colF 30 b.fg) rfl rfl hcell hmx ?_; intro v6 w6 o6 b6))
          have ES2 : Box' (stF a b = (d ++ colF 30 b.fg) ++ bgL a b) := ⟨by rw [ES.out, EF.out]⟩
          have LD2 : (d ++ colF 30 b.fg).length ≤ 20 := by have := LC1.out.1; rw [List.length_append]; omega
          obtain ⟨d2, hd2⟩ : ∃ d2, d ++ colF 30 b.fg = d2 := ⟨_, rfl⟩
          rw [hd2] at o6 ES2 LD2
          clear hd2 ES EF
          have S6 := Box'.mk (S5.out.app o6 b6)
          obtain ⟨va6, vc6, rfl, -⟩ := o6.slice
          clear ho hN hcell hmx o6 b6 S5
          have ya1 : w6.cell? ⟨w.heap.size, 1, none⟩ = some (.int .i64 a.bg) := thS_bg a b ▸ S6.out.ra.cell 1
          have yb1 : w6.cell? ⟨w.heap.size + 1, 1, none⟩ = some (.int .i64 b.bg) := S6.out.rb.cell 1
          by_cases hg : a.bg = b.bg
          case pos =>
            have EG : Box' (bgL a b = []) := ⟨if_pos hg⟩
            have hg1 : (a.bg != b.bg) = false := by rw [hg]; simp
            clear hg
            go_wp2_with fail
            go_ret
            exact ⟨_, rfl, by rw [ES2.out, EG.out, List.append_nil]; exact S6.out.ow.down (by omega), S6.out.be⟩
          case neg =>
            have EG : Box' (bgL a b = colF 40 b.bg) := ⟨if_neg hg⟩
            have hg1 : (a.bg != b.bg) = true := by simpa using hg
            clear hg
            go_wp2_with fail
            refine (CG.out _).mono ?_
            rintro e w7 ⟨v7, rfl, o7, hb7⟩
            have S7 := Box'.mk (S6.out.below hb7)
            have ho := S7.out.ow
            have hN := S7.out.sz
            obtain ⟨g7, c7, rfl, hcell⟩ := o7.cells LC2.out.2
            have hmx : (d2).length + (colF 40 b.bg).length ≤ 17592186044416 := by have := LC2.out.1; have := LC1.out.1; (try rw [List.length_append]); omega
            clear o7 hb7 S6
            go_wp2_with ((refine wpList_append_ints' rfl (.tmp 69) (.tmp 72) rfl (w.heap.size + 2) hN _ (d2) rfl ho _ _ _ (colF 40 b.bg) rfl rfl hcell hmx ?_; intro v8 w8 o8 b8))
            have S8 := Box'.mk (S7.out.app o8 b8)
            clear ho hN hcell hmx o8 b8 S7
            go_ret
            exact ⟨_, rfl, by rw [ES2.out, EG.out]; exact S8.out.ow.down (by omega), S8.out.be⟩
  | true =>
    rw [ht] at TB
    have tb := TB.out
    have EA : Box' (thS a b = { a with b1 := false, b2 := false }) := ⟨by unfold thS; rw [ht]; rfl⟩
    have E0 : Box' (fl0 a b = [22]) := ⟨by unfold fl0; rw [ht]; rfl⟩
    have EB : Box' (bits .andNot .u16 (flg a : Int) 6 = (flg (thS a b) : Int)) := ⟨by rw [EA.out]; exact anb6 _ _ _ _ _ _ _ _⟩
    clear TB ht
    have R3 := Box'.mk (R2.out.alloc (.cells #[.int .i64 22] 3))
    have hN := R3.out.sz
    have ho := R3.out.ow
    have hcell := cells_one w2 22
    go_upto_region 4 with ((refine wpList_append_ints' rfl (.tmp 14) (.tmp 15) rfl (w.heap.size + 2) hN _ [] rfl ho _ _ _ [22] rfl rfl hcell (by decide) ?_; intro v3 w3 o3 b3))
    have R4 := Box'.mk (R3.out.app o3 b3)
    clear hN ho hcell o3 b3 tb xa xb fa R3 R2
    have xa : w3.cell? ⟨w.heap.size, 2, none⟩ = some (.int .u16 (flg a : Int)) := R4.out.ra.cell 2
    have fa := R4.out.ra.frozen 2
    go_upto_region 5 with (fail)
    rw [EB.out]
    have S3 : Box' (SQ w.heap.size w (thS a b) b (w3.setCell ⟨w.heap.size, 2, none⟩ (.int .u16 (flg (thS a b) : Int))) v3 (fl0 a b)) := ⟨by
      have r := R4.out
      refine ⟨?_, ?_, r.rb.setOther _ _ (by show w.heap.size + 1 ≠ w.heap.size; omega), r.be.setCell (Nat.le_refl _) _, by have := r.sz; simpa using this⟩
      · rw [E0.out]
        have o := r.ow
        refine ⟨o.1, ?_⟩
        rcases o.2 with h2 | ⟨g, cap, cur, e1, e2, e3, e4⟩
        · exact .inl h2
        · exact .inr ⟨g, cap, cur, e1, e2, by rw [Below.heap_setCell _ _ _ _ (by show g ≠ w.heap.size; omega)]; exact e3, e4⟩
      · have := r.ra.setCell 2 (.int .u16 (flg (thS a b) : Int))
        have e : (lA a).setIfInBounds 2 (.int .u16 (flg (thS a b) : Int)) = lA (thS a b) := by rw [EA.out]; rfl
        rw [← e]; exact this⟩
    obtain ⟨va, vc, rfl, -⟩ := R4.out.ow.slice
    clear R4 xa fa la lb EB EA E0
    generalize (w3.setCell ⟨w.heap.size, 2, none⟩ (.int .u16 (flg (thS a b) : Int))) = w2' at *
    generalize hv3 : Value.slice va ([] ++ [(22 : Int)]).length vc = v4 at *
    clear hv3
    go_wp2_with fail
    try simp only [Act.put]
    go_loopw [5, 6] (fun p i wr => ∃ k : Nat, k ≤ 9 ∧ i = .int .i64 ((k : Int) + 1) ∧ Box' (SQ w.heap.size w (thS a b) b wr p (fl0 a b ++ flL (thS a b) b k))) (fun _ i _ => 12 - (intOf i).toNat)
    case atStart => exact ⟨0, by omega, rfl, ⟨by rw [flL, List.append_nil]; exact S3.out⟩⟩
    case round =>
      obtain ⟨k, hk, rfl, SR⟩ := hrel
      clear S3
      by_cases hlt : k < 9
      case pos =>
        have HBk := Box'.mk (HB.out k hlt)
        have HAk := Box'.mk (HA.out k hlt)
        have LL : (fl0 a b ++ flL (thS a b) b k).length ≤ 12 := by have := L0.out; have := LF.out k; rw [List.length_append]; omega
        have NX : Box' (fl0 a b ++ flL (thS a b) b (k + 1) = (fl0 a b ++ flL (thS a b) b k) ++ flS (thS a b) b (k + 1)) := ⟨by rw [flL, List.append_assoc]⟩
        obtain ⟨d, hd⟩ : ∃ d, fl0 a b ++ flL (thS a b) b k = d := ⟨_, rfl⟩
        rw [hd] at SR LL NX
        clear hd CF CG LC1 LC2 LF L0 HA HB
        have ya0 : wr.cell? ⟨w.heap.size, 0, none⟩ = some (.int .i64 (thS a b).fg) := SR.out.ra.cell 0
        have ya1 : wr.cell? ⟨w.heap.size, 1, none⟩ = some (.int .i64 (thS a b).bg) := SR.out.ra.cell 1
        have ya2 : wr.cell? ⟨w.heap.size, 2, none⟩ = some (.int .u16 (flg (thS a b) : Int)) := SR.out.ra.cell 2
        have yb0 : wr.cell? ⟨w.heap.size + 1, 0, none⟩ = some (.int .i64 b.fg) := SR.out.rb.cell 0
        have yb1 : wr.cell? ⟨w.heap.size + 1, 1, none⟩ = some (.int .i64 b.bg) := SR.out.rb.cell 1
        have yb2 : wr.cell? ⟨w.heap.size + 1, 2, none⟩ = some (.int .u16 (flg b : Int)) := SR.out.rb.cell 2
        cases hB : hs b (k + 1) with
        | true =>
          cases hA : hs (thS a b) (k + 1) with
          | true =>
            have EE : Box' (flS (thS a b) b (k + 1) = []) := ⟨by unfold flS; rw [hB, hA]; rfl⟩
            rw [hB] at HBk
            rw [hA] at HAk
            clear hA hB
            go_wp2_with fail
            refine (HBk.out _).mono ?_
            rintro e w5 ⟨rfl, hbb⟩
            have S5 := Box'.mk (SR.out.below hbb)
            clear ya0 ya1 ya2 yb0 yb1 yb2
            clear hbb SR
            have ya0 : w5.cell? ⟨w.heap.size, 0, none⟩ = some (.int .i64 (thS a b).fg) := S5.out.ra.cell 0
            have ya1 : w5.cell? ⟨w.heap.size, 1, none⟩ = some (.int .i64 (thS a b).bg) := S5.out.ra.cell 1
            have ya2 : w5.cell? ⟨w.heap.size, 2, none⟩ = some (.int .u16 (flg (thS a b) : Int)) := S5.out.ra.cell 2
            have yb0 : w5.cell? ⟨w.heap.size + 1, 0, none⟩ = some (.int .i64 b.fg) := S5.out.rb.cell 0
            have yb1 : w5.cell? ⟨w.heap.size + 1, 1, none⟩ = some (.int .i64 b.bg) := S5.out.rb.cell 1
            have yb2 : w5.cell? ⟨w.heap.size + 1, 2, none⟩ = some (.int .u16 (flg b : Int)) := S5.out.rb.cell 2
            go_wp2_with fail
            refine (HAk.out _).mono ?_
            rintro e w6 ⟨rfl, hbb⟩
            have S6 := Box'.mk (S5.out.below hbb)
            clear ya0 ya1 ya2 yb0 yb1 yb2
            clear hbb S5
            have ya0 : w6.cell? ⟨w.heap.size, 0, none⟩ = some (.int .i64 (thS a b).fg) := S6.out.ra.cell 0
            have ya1 : w6.cell? ⟨w.heap.size, 1, none⟩ = some (.int .i64 (thS a b).bg) := S6.out.ra.cell 1
            have ya2 : w6.cell? ⟨w.heap.size, 2, none⟩ = some (.int .u16 (flg (thS a b) : Int)) := S6.out.ra.cell 2
            have yb0 : w6.cell? ⟨w.heap.size + 1, 0, none⟩ = some (.int .i64 b.fg) := S6.out.rb.cell 0
            have yb1 : w6.cell? ⟨w.heap.size + 1, 1, none⟩ = some (.int .i64 b.bg) := S6.out.rb.cell 1
            have yb2 : w6.cell? ⟨w.heap.size + 1, 2, none⟩ = some (.int .u16 (flg b : Int)) := S6.out.rb.cell 2
            go_wp2_with fail
            refine (HAk.out _).mono ?_
            rintro e w7 ⟨rfl, hbb⟩
            have S7 := Box'.mk (S6.out.below hbb)
            clear ya0 ya1 ya2 yb0 yb1 yb2
            clear hbb S6
            have ya0 : w7.cell? ⟨w.heap.size, 0, none⟩ = some (.int .i64 (thS a b).fg) := S7.out.ra.cell 0
            have ya1 : w7.cell? ⟨w.heap.size, 1, none⟩ = some (.int .i64 (thS a b).bg) := S7.out.ra.cell 1
            have ya2 : w7.cell? ⟨w.heap.size, 2, none⟩ = some (.int .u16 (flg (thS a b) : Int)) := S7.out.ra.cell 2
            have yb0 : w7.cell? ⟨w.heap.size + 1, 0, none⟩ = some (.int .i64 b.fg) := S7.out.rb.cell 0
            have yb1 : w7.cell? ⟨w.heap.size + 1, 1, none⟩ = some (.int .i64 b.bg) := S7.out.rb.cell 1
            have yb2 : w7.cell? ⟨w.heap.size + 1, 2, none⟩ = some (.int .u16 (flg b : Int)) := S7.out.rb.cell 2
            go_wp2_with fail
            refine (HBk.out _).mono ?_
            rintro e w8 ⟨rfl, hbb⟩
            have S8 := Box'.mk (S7.out.below hbb)
            clear ya0 ya1 ya2 yb0 yb1 yb2
            clear hbb S7
            have ya0 : w8.cell? ⟨w.heap.size, 0, none⟩ = some (.int .i64 (thS a b).fg) := S8.out.ra.cell 0
            have ya1 : w8.cell? ⟨w.heap.size, 1, none⟩ = some (.int .i64 (thS a b).bg) := S8.out.ra.cell 1
            have ya2 : w8.cell? ⟨w.heap.size, 2, none⟩ = some (.int .u16 (flg (thS a b) : Int)) := S8.out.ra.cell 2
            have yb0 : w8.cell? ⟨w.heap.size + 1, 0, none⟩ = some (.int .i64 b.fg) := S8.out.rb.cell 0
            have yb1 : w8.cell? ⟨w.heap.size + 1, 1, none⟩ = some (.int .i64 b.bg) := S8.out.rb.cell 1
            have yb2 : w8.cell? ⟨w.heap.size + 1, 2, none⟩ = some (.int .u16 (flg b : Int)) := S8.out.rb.cell 2
            go_wp2_with fail
            exact ⟨⟨k + 1, by omega, by go_num, ⟨by rw [NX.out, EE.out, List.append_nil]; exact S8.out⟩⟩, by simp [intOf]; omega⟩
          | false =>
            have EE : Box' (flS (thS a b) b (k + 1) = [(k : Int) + 1]) := ⟨by unfold flS; rw [hB, hA]; rfl⟩
            rw [hB] at HBk
            rw [hA] at HAk
            clear hA hB
            go_wp2_with fail
            refine (HBk.out _).mono ?_
            rintro e w5 ⟨rfl, hbb⟩
            have S5 := Box'.mk (SR.out.below hbb)
            clear ya0 ya1 ya2 yb0 yb1 yb2
            clear hbb SR
            have ya0 : w5.cell? ⟨w.heap.size, 0, none⟩ = some (.int .i64 (thS a b).fg) := S5.out.ra.cell 0
            have ya1 : w5.cell? ⟨w.heap.size, 1, none⟩ = some (.int .i64 (thS a b).bg) := S5.out.ra.cell 1
            have ya2 : w5.cell? ⟨w.heap.size, 2, none⟩ = some (.int .u16 (flg (thS a b) : Int)) := S5.out.ra.cell 2
            have yb0 : w5.cell? ⟨w.heap.size + 1, 0, none⟩ = some (.int .i64 b.fg) := S5.out.rb.cell 0
            have yb1 : w5.cell? ⟨w.heap.size + 1, 1, none⟩ = some (.int .i64 b.bg) := S5.out.rb.cell 1
            have yb2 : w5.cell? ⟨w.heap.size + 1, 2, none⟩ = some (.int .u16 (flg b : Int)) := S5.out.rb.cell 2
            go_wp2_with fail
            refine (HAk.out _).mono ?_
            rintro e w6 ⟨rfl, hbb⟩
            have S6 := Box'.mk (S5.out.below hbb)
            clear ya0 ya1 ya2 yb0 yb1 yb2
            clear hbb S5
            have ya0 : w6.cell? ⟨w.heap.size, 0, none⟩ = some (.int .i64 (thS a b).fg) := S6.out.ra.cell 0
            have ya1 : w6.cell? ⟨w.heap.size, 1, none⟩ = some (.int .i64 (thS a b).bg) := S6.out.ra.cell 1
            have ya2 : w6.cell? ⟨w.heap.size, 2, none⟩ = some (.int .u16 (flg (thS a b) : Int)) := S6.out.ra.cell 2
            have yb0 : w6.cell? ⟨w.heap.size + 1, 0, none⟩ = some (.int .i64 b.fg) := S6.out.rb.cell 0
            have yb1 : w6.cell? ⟨w.heap.size + 1, 1, none⟩ = some (.int .i64 b.bg) := S6.out.rb.cell 1
            have yb2 : w6.cell? ⟨w.heap.size + 1, 2, none⟩ = some (.int .u16 (flg b : Int)) := S6.out.rb.cell 2
            have RA := Box'.mk (S6.out.alloc (.cells #[.int .i64 ((k : Int) + 1)] 3))
            have hN := RA.out.sz
            have ho := RA.out.ow
            have hcell := cells_one w6 ((k : Int) + 1)
            clear ya0 ya1 ya2 yb0 yb1 yb2
            have hmx : d.length + ([(k : Int) + 1] : List Int).length ≤ 17592186044416 := by simp; omega
            go_wp2_with ((refine wpList_append_ints' rfl (.tmp 35) (.tmp 37) rfl (w.heap.size + 2) hN _ d rfl ho _ _ _ [(k : Int) + 1] rfl rfl hcell hmx ?_; intro v9 w9 o9 b9))
            have R9 := Box'.mk (RA.out.app o9 b9)
            clear hN ho hcell o9 b9 RA
            exact ⟨⟨k + 1, by omega, by go_num, ⟨by rw [NX.out, EE.out]; exact R9.out⟩⟩, by simp [intOf]; omega⟩
        | false =>
          cases hA : hs (thS a b) (k + 1) with
          | true =>
            have EE : Box' (flS (thS a b) b (k + 1) = [20 + ((k : Int) + 1)]) := ⟨by unfold flS; rw [hB, hA]; rfl⟩
            rw [hB] at HBk
            rw [hA] at HAk
            clear hA hB
            go_wp2_with fail
            refine (HBk.out _).mono ?_
            rintro e w5 ⟨rfl, hbb⟩
            have S5 := Box'.mk (SR.out.below hbb)
            clear ya0 ya1 ya2 yb0 yb1 yb2
            clear hbb SR
            have ya0 : w5.cell? ⟨w.heap.size, 0, none⟩ = some (.int .i64 (thS a b).fg) := S5.out.ra.cell 0
            have ya1 : w5.cell? ⟨w.heap.size, 1, none⟩ = some (.int .i64 (thS a b).bg) := S5.out.ra.cell 1
            have ya2 : w5.cell? ⟨w.heap.size, 2, none⟩ = some (.int .u16 (flg (thS a b) : Int)) := S5.out.ra.cell 2
            have yb0 : w5.cell? ⟨w.heap.size + 1, 0, none⟩ = some (.int .i64 b.fg) := S5.out.rb.cell 0
            have yb1 : w5.cell? ⟨w.heap.size + 1, 1, none⟩ = some (.int .i64 b.bg) := S5.out.rb.cell 1
            have yb2 : w5.cell? ⟨w.heap.size + 1, 2, none⟩ = some (.int .u16 (flg b : Int)) := S5.out.rb.cell 2
            go_wp2_with fail
            refine (HAk.out _).mono ?_
            rintro e w7 ⟨rfl, hbb⟩
            have S7 := Box'.mk (S5.out.below hbb)
            clear ya0 ya1 ya2 yb0 yb1 yb2
            clear hbb S5
            have ya0 : w7.cell? ⟨w.heap.size, 0, none⟩ = some (.int .i64 (thS a b).fg) := S7.out.ra.cell 0
            have ya1 : w7.cell? ⟨w.heap.size, 1, none⟩ = some (.int .i64 (thS a b).bg) := S7.out.ra.cell 1
            have ya2 : w7.cell? ⟨w.heap.size, 2, none⟩ = some (.int .u16 (flg (thS a b) : Int)) := S7.out.ra.cell 2
            have yb0 : w7.cell? ⟨w.heap.size + 1, 0, none⟩ = some (.int .i64 b.fg) := S7.out.rb.cell 0
            have yb1 : w7.cell? ⟨w.heap.size + 1, 1, none⟩ = some (.int .i64 b.bg) := S7.out.rb.cell 1
            have yb2 : w7.cell? ⟨w.heap.size + 1, 2, none⟩ = some (.int .u16 (flg b : Int)) := S7.out.rb.cell 2
            go_wp2_with fail
            refine (HBk.out _).mono ?_
            rintro e w8 ⟨rfl, hbb⟩
            have S8 := Box'.mk (S7.out.below hbb)
            clear ya0 ya1 ya2 yb0 yb1 yb2
            clear hbb S7
            have ya0 : w8.cell? ⟨w.heap.size, 0, none⟩ = some (.int .i64 (thS a b).fg) := S8.out.ra.cell 0
            have ya1 : w8.cell? ⟨w.heap.size, 1, none⟩ = some (.int .i64 (thS a b).bg) := S8.out.ra.cell 1
            have ya2 : w8.cell? ⟨w.heap.size, 2, none⟩ = some (.int .u16 (flg (thS a b) : Int)) := S8.out.ra.cell 2
            have yb0 : w8.cell? ⟨w.heap.size + 1, 0, none⟩ = some (.int .i64 b.fg) := S8.out.rb.cell 0
            have yb1 : w8.cell? ⟨w.heap.size + 1, 1, none⟩ = some (.int .i64 b.bg) := S8.out.rb.cell 1
            have yb2 : w8.cell? ⟨w.heap.size + 1, 2, none⟩ = some (.int .u16 (flg b : Int)) := S8.out.rb.cell 2
            have RA := Box'.mk (S8.out.alloc (.cells #[.int .i64 (20 + ((k : Int) + 1))] 3))
            have hN := RA.out.sz
            have ho := RA.out.ow
            have hcell := cells_one w8 (20 + ((k : Int) + 1))
            clear ya0 ya1 ya2 yb0 yb1 yb2
            have hmx : d.length + ([20 + ((k : Int) + 1)] : List Int).length ≤ 17592186044416 := by simp; omega
            go_wp2_with ((refine wpList_append_ints' rfl (.tmp 49) (.tmp 52) rfl (w.heap.size + 2) hN _ d rfl ho _ _ _ [20 + ((k : Int) + 1)] rfl rfl hcell hmx ?_; intro v9 w9 o9 b9))
            have R9 := Box'.mk (RA.out.app o9 b9)
            clear hN ho hcell o9 b9 RA
            exact ⟨⟨k + 1, by omega, by go_num, ⟨by rw [NX.out, EE.out]; exact R9.out⟩⟩, by simp [intOf]; omega⟩
          | false =>
            have EE : Box' (flS (thS a b) b (k + 1) = []) := ⟨by unfold flS; rw [hB, hA]; rfl⟩
            rw [hB] at HBk
            rw [hA] at HAk
            clear hA hB
            go_wp2_with fail
            refine (HBk.out _).mono ?_
            rintro e w5 ⟨rfl, hbb⟩
            have S5 := Box'.mk (SR.out.below hbb)
            clear ya0 ya1 ya2 yb0 yb1 yb2
            clear hbb SR
            have ya0 : w5.cell? ⟨w.heap.size, 0, none⟩ = some (.int .i64 (thS a b).fg) := S5.out.ra.cell 0
            have ya1 : w5.cell? ⟨w.heap.size, 1, none⟩ = some (.int .i64 (thS a b).bg) := S5.out.ra.cell 1
            have ya2 : w5.cell? ⟨w.heap.size, 2, none⟩ = some (.int .u16 (flg (thS a b) : Int)) := S5.out.ra.cell 2
            have yb0 : w5.cell? ⟨w.heap.size + 1, 0, none⟩ = some (.int .i64 b.fg) := S5.out.rb.cell 0
            have yb1 : w5.cell? ⟨w.heap.size + 1, 1, none⟩ = some (.int .i64 b.bg) := S5.out.rb.cell 1
            have yb2 : w5.cell? ⟨w.heap.size + 1, 2, none⟩ = some (.int .u16 (flg b : Int)) := S5.out.rb.cell 2
            go_wp2_with fail
            refine (HAk.out _).mono ?_
            rintro e w7 ⟨rfl, hbb⟩
            have S7 := Box'.mk (S5.out.below hbb)
            clear ya0 ya1 ya2 yb0 yb1 yb2
            clear hbb S5
            have ya0 : w7.cell? ⟨w.heap.size, 0, none⟩ = some (.int .i64 (thS a b).fg) := S7.out.ra.cell 0
            have ya1 : w7.cell? ⟨w.heap.size, 1, none⟩ = some (.int .i64 (thS a b).bg) := S7.out.ra.cell 1
            have ya2 : w7.cell? ⟨w.heap.size, 2, none⟩ = some (.int .u16 (flg (thS a b) : Int)) := S7.out.ra.cell 2
            have yb0 : w7.cell? ⟨w.heap.size + 1, 0, none⟩ = some (.int .i64 b.fg) := S7.out.rb.cell 0
            have yb1 : w7.cell? ⟨w.heap.size + 1, 1, none⟩ = some (.int .i64 b.bg) := S7.out.rb.cell 1
            have yb2 : w7.cell? ⟨w.heap.size + 1, 2, none⟩ = some (.int .u16 (flg b : Int)) := S7.out.rb.cell 2
            go_wp2_with fail
            exact ⟨⟨k + 1, by omega, by go_num, ⟨by rw [NX.out, EE.out, List.append_nil]; exact S7.out⟩⟩, by simp [intOf]; omega⟩
      case neg =>
        obtain rfl : k = 9 := by omega
        have LL : (fl0 a b ++ flL (thS a b) b 9).length ≤ 12 := by have := L0.out; have := LF.out 9; rw [List.length_append]; omega
        have ES : Box' (stF a b = (fl0 a b ++ flL (thS a b) b 9) ++ fgL a b ++ bgL a b) := ⟨rfl⟩
        obtain ⟨d, hd⟩ : ∃ d, fl0 a b ++ flL (thS a b) b 9 = d := ⟨_, rfl⟩
        rw [hd] at SR LL ES
        clear hd HA HB LF L0
        obtain ⟨va5, vc5, rfl, -⟩ := SR.out.ow.slice
        have ya0 : wr.cell? ⟨w.heap.size, 0, none⟩ = some (.int .i64 a.fg) := thS_fg a b ▸ SR.out.ra.cell 0
        have ya1 : wr.cell? ⟨w.heap.size, 1, none⟩ = some (.int .i64 a.bg) := thS_bg a b ▸ SR.out.ra.cell 1
        have ya2 : wr.cell? ⟨w.heap.size, 2, none⟩ = some (.int .u16 (flg (thS a b) : Int)) := SR.out.ra.cell 2
        have yb0 : wr.cell? ⟨w.heap.size + 1, 0, none⟩ = some (.int .i64 b.fg) := SR.out.rb.cell 0
        have yb1 : wr.cell? ⟨w.heap.size + 1, 1, none⟩ = some (.int .i64 b.bg) := SR.out.rb.cell 1
        have yb2 : wr.cell? ⟨w.heap.size + 1, 2, none⟩ = some (.int .u16 (flg b : Int)) := SR.out.rb.cell 2
        clear ya2 yb2
        by_cases hf : a.fg = b.fg
        case pos =>
          have EF : Box' (fgL a b = []) := ⟨if_pos hf⟩
          have hf1 : (a.fg != b.fg) = false := by rw [hf]; simp
          clear hf
          by_cases hg : a.bg = b.bg
          case pos =>
            have EG : Box' (bgL a b = []) := ⟨if_pos hg⟩
            have hg1 : (a.bg != b.bg) = false := by rw [hg]; simp
            clear hg
            go_wp2_with fail
            go_ret
            exact ⟨_, rfl, by rw [ES.out, EF.out, EG.out, List.append_nil, List.append_nil]; exact SR.out.ow.down (by omega), SR.out.be⟩
          case neg =>
            have EG : Box' (bgL a b = colF 40 b.bg) := ⟨if_neg hg⟩
            have hg1 : (a.bg != b.bg) = true := by simpa using hg
            clear hg
            go_wp2_with fail
            refine (CG.out _).mono ?_
            rintro e w7 ⟨v7, rfl, o7, hb7⟩
            have S7 := Box'.mk (SR.out.below hb7)
            have ho := S7.out.ow
            have hN := S7.out.sz
            obtain ⟨g7, c7, rfl, hcell⟩ := o7.cells LC2.out.2
            have hmx : (d).length + (colF 40 b.bg).length ≤ 17592186044416 := by have := LC2.out.1; have := LC1.out.1; (try rw [List.length_append]); omega
            clear o7 hb7 SR
            go_wp2_with ((refine wpList_append_ints' rfl (.tmp 69) (.tmp 72) rfl (w.heap.size + 2) hN _ (d) rfl ho _ _ _ (colF 40 b.bg) rfl rfl hcell hmx ?_; intro v8 w8 o8 b8))
            have S8 := Box'.mk (S7.out.app o8 b8)
            clear ho hN hcell hmx o8 b8 S7
            go_ret
            exact ⟨_, rfl, by rw [ES.out, EF.out, EG.out, List.append_nil]; exact S8.out.ow.down (by omega), S8.out.be⟩
        case neg =>
          have EF : Box' (fgL a b = colF 30 b.fg) := ⟨if_neg hf⟩
          have hf1 : (a.fg != b.fg) = true := by simpa using hf
          clear hf
          go_wp2_with fail
          refine (CF.out _).mono ?_
          rintro e w5 ⟨v5, rfl, o5, hb5⟩
          have S5 := Box'.mk (SR.out.below hb5)
          have ho := S5.out.ow
          have hN := S5.out.sz
          obtain ⟨g5, c5, rfl, hcell⟩ := o5.cells LC1.out.2
          have hmx : d.length + (colF 30 b.fg).length ≤ 17592186044416 := by have := LC1.out.1; omega
          clear ya0 ya1 yb0 yb1 o5 hb5 SR
          go_upto_region 14 with ((refine wpList_append_ints' rfl (.tmp 59) (.tmp 62) rfl (w.heap.size + 2) hN _ d rfl ho _ _ _ (colF 30 b.fg) rfl rfl hcell hmx ?_; intro v6 w6 o6 b6))
          have ES2 : Box' (stF a b = (d ++ colF 30 b.fg) ++ bgL a b) := ⟨by rw [ES.out, EF.out]⟩
          have LD2 : (d ++ colF 30 b.fg).length ≤ 20 := by have := LC1.out.1; rw [List.length_append]; omega
          obtain ⟨d2, hd2⟩ : ∃ d2, d ++ colF 30 b.fg = d2 := ⟨_, rfl⟩
          rw [hd2] at o6 ES2 LD2
          clear hd2 ES EF
          have S6 := Box'.mk (S5.out.app o6 b6)
          obtain ⟨va6, vc6, rfl, -⟩ := o6.slice
          clear ho hN hcell hmx o6 b6 S5
          have ya1 : w6.cell? ⟨w.heap.size, 1, none⟩ = some (.int .i64 a.bg) := thS_bg a b ▸ S6.out.ra.cell 1
          have yb1 : w6.cell? ⟨w.heap.size + 1, 1, none⟩ = some (.int .i64 b.bg) := S6.out.rb.cell 1
          by_cases hg : a.bg = b.bg
          case pos =>
            have EG : Box' (bgL a b = []) := ⟨if_pos hg⟩
            have hg1 : (a.bg != b.bg) = false := by rw [hg]; simp
            clear hg
            go_wp2_with fail
            go_ret
            exact ⟨_, rfl, by rw [ES2.out, EG.out, List.append_nil]; exact S6.out.ow.down (by omega), S6.out.be⟩
          case neg =>
            have EG : Box' (bgL a b = colF 40 b.bg) := ⟨if_neg hg⟩
            have hg1 : (a.bg != b.bg) = true := by simpa using hg
            clear hg
            go_wp2_with fail
            refine (CG.out _).mono ?_
            rintro e w7 ⟨v7, rfl, o7, hb7⟩
            have S7 := Box'.mk (S6.out.below hb7)
            have ho := S7.out.ow
            have hN := S7.out.sz
            obtain ⟨g7, c7, rfl, hcell⟩ := o7.cells LC2.out.2
            have hmx : (d2).length + (colF 40 b.bg).length ≤ 17592186044416 := by have := LC2.out.1; have := LC1.out.1; (try rw [List.length_append]); omega
            clear o7 hb7 S6
            go_wp2_with ((refine wpList_append_ints' rfl (.tmp 69) (.tmp 72) rfl (w.heap.size + 2) hN _ (d2) rfl ho _ _ _ (colF 40 b.bg) rfl rfl hcell hmx ?_; intro v8 w8 o8 b8))
            have S8 := Box'.mk (S7.out.app o8 b8)
            clear ho hN hcell hmx o8 b8 S7
            go_ret
            exact ⟨_, rfl, by rw [ES2.out, EG.out]; exact S8.out.ow.down (by omega), S8.out.be⟩
end Go.Proofs.Ytnlladjkajmpoaa
