/- The walks of sum and digest. -/
import Derived.Test.YtmolhljgmaoflaaDoorOj
namespace Go.Proofs.YtmolhljgmaoflaaDoor
open Go.RowKit Go.BigFrame

def sliceLen : Value → Nat
  | .slice _ n _ => n
  | _ => 0
def Gf.sumFromN  : Nat → List UInt8 → List UInt8 → List UInt8
  | 0, t, _ => t
  | f + 1, t, l => if 16 ≤ l.length then (Gf.sumFromN f (Gf.bxor t (l.take 16)) (l.drop 16)) else if 0 < l.length then Gf.bxor t (Gf.fup l) else t
theorem Gf.sumFromN_more  (f g : Nat) (t : List UInt8) (l : List UInt8) (hf : l.length < f) (hg : l.length < g) : Gf.sumFromN f t l = Gf.sumFromN g t l := by
  induction f generalizing g t l with
  | zero => omega
  | succ f ih =>
    cases g with
    | zero => omega
    | succ g =>
      rw [Gf.sumFromN, Gf.sumFromN]
      by_cases h : 16 ≤ l.length
      · rw [if_pos h, if_pos h, ih g (Gf.bxor t (l.take 16)) (l.drop 16) (by rw [List.length_drop]; omega) (by rw [List.length_drop]; omega)]
      · rw [if_neg h, if_neg h]
def Gf.sumFrom  (t : List UInt8) (l : List UInt8) : List UInt8 := Gf.sumFromN (l.length + 1) t l
theorem Gf.sumFrom_eq  (t : List UInt8) (l : List UInt8) : Gf.sumFrom t l = if _h : 16 ≤ l.length then (Gf.sumFrom (Gf.bxor t (l.take 16)) (l.drop 16)) else if 0 < l.length then Gf.bxor t (Gf.fup l) else t := by
  rw [Gf.sumFrom, Gf.sumFromN]
  by_cases h : 16 ≤ l.length
  · rw [if_pos h, dif_pos h, Gf.sumFrom, Gf.sumFromN_more l.length ((l.drop 16).length + 1) (Gf.bxor t (l.take 16)) (l.drop 16) (by rw [List.length_drop]; omega) (by omega)]
  · rw [if_neg h, dif_neg h]
theorem Gf.sumFrom_ind {motive : List UInt8 → List UInt8 → Prop} (case1 : ∀ (t : List UInt8) (l : List UInt8), 16 ≤ l.length → motive (Gf.bxor t (l.take 16)) (l.drop 16) → motive t l)
    (case2 : ∀ (t : List UInt8) (l : List UInt8), ¬ 16 ≤ l.length → 0 < l.length → motive t l) (case3 : ∀ (t : List UInt8) (l : List UInt8), ¬ 16 ≤ l.length → ¬ 0 < l.length → motive t l) (t : List UInt8) (l : List UInt8) : motive t l := by
  obtain ⟨n, hn⟩ : ∃ n, l.length < n := ⟨l.length + 1, by omega⟩
  induction n generalizing t l with
  | zero => omega
  | succ n ih =>
    by_cases h : 16 ≤ l.length
    · exact case1 t l h (ih (Gf.bxor t (l.take 16)) (l.drop 16) (by rw [List.length_drop]; omega))
    · by_cases hp : 0 < l.length
      · exact case2 t l h hp
      · exact case3 t l h hp
theorem Gf.sumFrom_len (t l : List UInt8) (h : t.length = 16) : (Gf.sumFrom t l).length = 16 := by
  induction t, l using Gf.sumFrom_ind with
  | case1 t l h16 ih => rw [Gf.sumFrom_eq, dif_pos h16]; exact ih (Gf.bxor_len _ _)
  | case2 t l h16 hp => rw [Gf.sumFrom_eq, dif_neg h16, if_pos hp]; exact Gf.bxor_len _ _
  | case3 t l h16 hp => rw [Gf.sumFrom_eq, dif_neg h16, if_neg hp]; exact h

set_option maxRecDepth 100000 in
set_option maxHeartbeats 1000000 in
theorem sum_any (S : Nat → Prop) (vv : Value) (l : List UInt8) (hmax : l.length ≤ 100000) (w : World) (hS : ∀ b, S b → b < w.heap.size) (hB : Bts S w vv l) :
    Calls Tryd.prog 48 #[vv] w fun e w' => e = .returned (.agg (ag (Gf.sumFrom (Gf.zeros 16) l))) ∧ Below w.heap.size w w' := by
  obtain ⟨R, hR0⟩ : ∃ R, Gf.sumFrom (Gf.zeros 16) l = R := ⟨_, rfl⟩
  have lR : R.length = 16 := by rw [← hR0]; exact Gf.sumFrom_len _ _ rfl
  rw [hR0]
  have hR := Box'.mk hR0
  clear hR0
  go_enter Tryd.func48, Tryd.ntmps48
  go_wp2
  have h1 : Room (((w.alloc (.cells (ag (Gf.zeros 16)) 23)).alloc (.cells (ag (Gf.zeros 16)) 23)).alloc (.cells (ag (Gf.zeros 16)) 23)) w.heap.size 23 16 := ((Room.new _ _ _ _ rfl).alloc _).alloc _
  have h2 : Row (((w.alloc (.cells (ag (Gf.zeros 16)) 23)).alloc (.cells (ag (Gf.zeros 16)) 23)).alloc (.cells (ag (Gf.zeros 16)) 23)) (w.heap.size + 1) 23 (ag (Gf.zeros 16)) := (Row.made _ _ _ _ _ rfl (by simp)).alloc _
  have h3 : Room (((w.alloc (.cells (ag (Gf.zeros 16)) 23)).alloc (.cells (ag (Gf.zeros 16)) 23)).alloc (.cells (ag (Gf.zeros 16)) 23)) (w.heap.size + 1 + 1) 23 16 := Room.made _ _ _ _ _ rfl (by simp)
  have hbl : Below w.heap.size w (((w.alloc (.cells (ag (Gf.zeros 16)) 23)).alloc (.cells (ag (Gf.zeros 16)) 23)).alloc (.cells (ag (Gf.zeros 16)) 23)) := (((Below.refl _ _).alloc (Nat.le_refl _) _).alloc (by simp) _).alloc (by simp; omega) _
  have hB1 := hB.below hbl hS
  generalize hN : w.heap.size = N at *
  go_loopw [0] (fun s wr => ∃ (l : List UInt8) (t : List UInt8), Bts S wr s l ∧ l.length ≤ 100000 ∧ t.length = 16 ∧ Box' (Gf.sumFrom t l = R) ∧ Room wr N 23 16 ∧ Row wr (N + 1) 23 (ag t) ∧ Room wr (N + 1 + 1) 23 16 ∧ Below N w wr) (fun s _ => sliceLen s)
  case atStart => exact ⟨l, Gf.zeros 16, hB1, hmax, rfl, hR, h1, h2, h3, hbl⟩
  case round =>
    clear h1 h2 h3 hbl hR hB hB1 hmax
    obtain ⟨l, t, hB, hmax, hlt16, hR, h1, h2, h3, hbl⟩ := hrel
    rename_i vv
    have hz := h3.elim fun _ h => h.1.lt
    have hBc := hB
    obtain ⟨a, c, rfl, hcap, _⟩ := hBc
    by_cases h16 : 16 ≤ l.length
    · have hc16 : (16 : Int) ≤ (l.length : Int) := by omega
      go_wp2_with fail
      refine (cut_any S _ l h16 hmax _ hB).mono ?_
      rintro e w1 ⟨v', rfl, hB1, hb1⟩
      have lT : (l.take 16).length = 16 := by rw [List.length_take]; omega
      have hR1 : Box' (Gf.sumFrom (Gf.bxor t (l.take 16)) (l.drop 16) = R) := ⟨by rw [← hR.out]; conv => rhs; rw [Gf.sumFrom_eq, dif_pos h16]⟩
      have q1 : Room w1 N 23 16 := h1.below hb1 (by omega)
      have q2 : Row w1 (N + 1) 23 (ag t) := h2.below hb1 (by omega)
      have q3 : Room w1 (N + 1 + 1) 23 16 := h3.below hb1 hz
      have q4 : Below N w w1 := hbl.trans (hb1.mono (by omega))
      have hB2 : Bts S w1 v' (l.drop 16) := hB1.below hb1 (fun b h => by have := hS b h; omega)
      have hdr : (l.drop 16).length ≤ 100000 := by rw [List.length_drop]; omega
      have hms : sliceLen v' < l.length := by
        obtain ⟨a', c', e', _⟩ := hB2
        rw [e']; show (l.drop 16).length < l.length; rw [List.length_drop]; omega
      have s2 := q2.setRowOther (N + 1 + 1) (ag (l.take 16)) (by omega)
      have s1 := q1.setRowOther (N + 1 + 1) (ag (l.take 16)) (by omega)
      have s3 := q3.setRow (ag (l.take 16))
      have s4 := below_setRow q4 (show N ≤ N + 1 + 1 by omega) (ag (l.take 16))
      have s5 : Bts S (w1.setRow (N + 1 + 1) (ag (l.take 16))) v' (l.drop 16) := hB2.keep fun b h => ⟨h, setRow_other _ _ _ _ (by have := hS b h; omega)⟩
      clear h1 h2 h3 hbl hb1 hB hB1 hB2 q1 q2 q4 hR
      go_wp2_with (first
        | (refine wpList_store_row rfl 23 (.tmp 4) (.tmp 11) rfl _ rfl _ rfl _ _ q3 Tryd.info23 (by rw [ag_size]; exact lT) (ag_one _) ?_)
        | (refine wpList_load_row rfl 23 (.tmp 3) rfl _ rfl _ _ s2 _ Tryd.underlying23 rfl 16 Tryd.info23 (by rw [ag_size]; exact hlt16) ?_)
        | (refine wpList_load_row rfl 23 (.tmp 4) rfl _ rfl _ _ s3 _ Tryd.underlying23 rfl 16 Tryd.info23 (by rw [ag_size]; exact lT) ?_)
        | fail)
      refine (ocbAgainst_any t (l.take 16) hlt16 lT _).mono ?_
      rintro e w2 ⟨rfl, hb2⟩
      have hz2 : N + 1 + 1 < (w1.setRow (N + 1 + 1) (ag (l.take 16))).heap.size := s3.lt
      have lX := Gf.bxor_len t (l.take 16)
      have p2 : Room w2 (N + 1) 23 16 := (s2.below hb2 (by omega)).room (by rw [ag_size]; exact hlt16)
      have p1 : Room w2 N 23 16 := s1.below hb2 (by omega)
      have p3 : Room w2 (N + 1 + 1) 23 16 := (s3.below hb2 hz2).room (by rw [ag_size]; exact lT)
      have p4 : Below N w w2 := s4.trans (hb2.mono (by omega))
      have p5 : Bts S w2 v' (l.drop 16) := s5.below hb2 (fun b h => by have := hS b h; omega)
      clear s1 s2 s3 s4 s5 hb2 q3
      generalize Gf.bxor t (l.take 16) = t2 at *
      have y1 := p1.setRowOther (N + 1) (ag t2) (by omega)
      have y2 := p2.setRow (ag t2)
      have y3 := p3.setRowOther (N + 1) (ag t2) (by omega)
      have y4 := below_setRow p4 (show N ≤ N + 1 by omega) (ag t2)
      have y5 : Bts S (w2.setRow (N + 1) (ag t2)) v' (l.drop 16) := p5.keep fun b h => ⟨h, setRow_other _ _ _ _ (by have := hS b h; omega)⟩
      go_wp2_with (refine wpList_store_row rfl 23 (.tmp 3) (.tmp 15) rfl _ rfl _ rfl _ _ p2 Tryd.info23 (by rw [ag_size]; exact lX) (ag_one _) ?_)
      go_roundw
      case rel => exact ⟨_, _, _, _, _, _, _, _, _, _, _, _, ⟨l.drop 16, t2, y5, hdr, lX, hR1, y1, y2, y3, y4⟩, rfl⟩
      case measure => exact hms
    · have hlen : l.length < 16 := by omega
      have hc16 : ¬ (16 : Int) ≤ (l.length : Int) := by omega
      by_cases hpos : 0 < l.length
      · have hci : (0 : Int) < (l.length : Int) := by omega
        go_wp2
        refine wp_region_grow 4 (by kernel_rfl) (by kernel_rfl) (fun w1 w2 => Below w1.heap.size w1 w2) (fun w1 => Row w1 (N + 1) 23 (ag t) ∧ Room w1 N 23 16 ∧ Bts S w1 (.slice a l.length c) l ∧ Below N w w1) (fun k w1 v => match k with
          | 0 => v = .agg (ag t)
          | 1 => v = (.slice a l.length c)
          | 2 => v = .agg (ag (Gf.fup l))
          | 3 => v = .agg (ag (Gf.bxor t (Gf.fup l)))
          | _ => True) ?_ ?_ ?_ ?_ ?_
        · rintro w1 w2 hb ⟨c1, c2, c3, c4⟩
          have hz := c1.lt
          exact ⟨c1.below hb c1.lt, c2.below hb (by omega), c3.below hb (fun b h => by have := hS b h; omega), c4.trans (hb.mono (by omega))⟩
        · intro k v w1 w2 hC1 hb h
          match k, h with
          | 0, h => exact h
          | 1, h => exact h
          | 2, h => exact h
          | 3, h => exact h
          | k + 4, h => trivial
        · exact ⟨h2, h1, hB, hbl.drew⟩
        · refine ⟨?_, ?_, ?_, ?_, trivial⟩
          · intro f w1 hC hd KK hK
            simp only [List.take_succ_cons, List.take_zero, setAll, List.setIfInBounds_toArray, List.set_cons_succ, List.set_cons_zero, Nat.zero_add, Nat.reduceAdd] at hK ⊢
            refine wp_load_row 23 _ rfl _ rfl _ _ (hC.1) _ Tryd.underlying23 rfl 16 Tryd.info23 (by rw [ag_size]; exact hlt16) ?_
            exact hK _ _ rfl (Below.refl _ _)
          · intro f w1 hC hd KK hK
            simp only [List.take_succ_cons, List.take_zero, setAll, List.setIfInBounds_toArray, List.set_cons_succ, List.set_cons_zero, Nat.zero_add, Nat.reduceAdd] at hK ⊢
            refine wp_of_quiet rfl ?_
            go_big_quiet_step (fail)
            exact wpQuiet_nil (hK _ _ rfl (Below.refl _ _))
          · intro f w1 hC hd KK hK
            have g1 : f 1 = _ := hd 1 rfl
            simp only [List.take_succ_cons, List.take_zero, setAll, List.setIfInBounds_toArray, List.set_cons_succ, List.set_cons_zero, Nat.zero_add, Nat.reduceAdd, g1] at hK ⊢
            exact wp_call 59 #[(.slice a l.length c)] (by simp [go_sem]) _ _ (filled_any S (.slice a l.length c) l hpos hlen w1 hC.2.2.1) (fun w' hb => hK _ _ rfl hb)
          · intro f w1 hC hd KK hK
            have g0 : f 0 = _ := hd 0 rfl
            have g2 : f 2 = _ := hd 2 rfl
            simp only [List.take_succ_cons, List.take_zero, setAll, List.setIfInBounds_toArray, List.set_cons_succ, List.set_cons_zero, Nat.zero_add, Nat.reduceAdd, g0, g2] at hK ⊢
            exact wp_call 40 #[.agg (ag t), .agg (ag (Gf.fup l))] (by simp [go_sem]) _ _ (ocbAgainst_any t (Gf.fup l) hlt16 (Gf.fup_len l hlen) w1) (fun w' hb => hK _ _ rfl hb)
        · intro f w1 hC hv
          have g0 : f 0 = _ := hv 0 (by decide)
          have g1 : f 1 = _ := hv 1 (by decide)
          have g2 : f 2 = _ := hv 2 (by decide)
          have g3 : f 3 = _ := hv 3 (by decide)
          simp only [List.take_succ_cons, List.take_zero, List.drop_succ_cons, List.drop_zero, setAll, List.setIfInBounds_toArray, List.set_cons_succ, List.set_cons_zero, Nat.zero_add, Nat.reduceAdd, g0, g1, g2, g3]
          clear g0 g1 g2 g3 hv
          have lX := Gf.bxor_len t (Gf.fup l)
          have q1 := (hC.1.room (n := 16) (by rw [ag_size]; exact hlt16)).setRow (ag (Gf.bxor t (Gf.fup l)))
          have q2 := hC.2.1.setRowOther (N + 1) (ag (Gf.bxor t (Gf.fup l))) (by omega)
          have q3 := below_setRow hC.2.2.2 (show N ≤ N + 1 by omega) (ag (Gf.bxor t (Gf.fup l)))
          have p1 := hC.1.room (n := 16) (by rw [ag_size]; exact hlt16)
          have hF : Gf.bxor t (Gf.fup l) = R := by rw [← hR.out, Gf.sumFrom_eq]; simp [show ¬ 16 ≤ l.length by omega, hpos]
          rw [hF] at lX q1 q2 q3
          rw [hF]
          clear hC hF
          go_wp2_with (first
            | (refine wpList_store_row rfl 23 (.tmp 3) (.tmp 22) rfl _ rfl _ rfl _ _ p1 Tryd.info23 (by rw [ag_size]; exact lX) (ag_one _) ?_)
            | (refine wpList_load_row rfl 23 (.tmp 3) rfl _ rfl _ _ q1 _ Tryd.underlying23 rfl 16 Tryd.info23 (by rw [ag_size]; exact lX) ?_)
            | (refine wpList_store_row rfl 23 (.tmp 2) (.tmp 23) rfl _ rfl _ rfl _ _ q2 Tryd.info23 (by rw [ag_size]; exact lX) (ag_one _) ?_)
            | fail)
          exact bodyPost_ret (results_row rfl _ _ rfl _ _ (q2.setRow _) _ Tryd.underlying23 rfl 16 Tryd.info23 (by rw [ag_size]; exact lX)) rfl ⟨rfl, by first | exact below_setRow q3 (Nat.le_refl _) _ | (rw [hN]; exact below_setRow q3 (Nat.le_refl _) _)⟩
      · have hci : ¬ (0 : Int) < (l.length : Int) := by omega
        have hRt : t = R := by rw [← hR.out, Gf.sumFrom_eq, dif_neg h16, if_neg hpos]
        subst hRt
        go_wp2_with (first
          | (refine wpList_load_row rfl 23 (.tmp 3) rfl _ rfl _ _ h2 _ Tryd.underlying23 rfl 16 Tryd.info23 (by rw [ag_size]; exact lR) ?_)
          | (refine wpList_store_row rfl 23 (.tmp 2) (.tmp 23) rfl _ rfl _ rfl _ _ h1 Tryd.info23 (by rw [ag_size]; exact lR) (ag_one _) ?_)
          | fail)
        exact bodyPost_ret (results_row rfl _ _ rfl _ _ (h1.setRow _) _ Tryd.underlying23 rfl 16 Tryd.info23 (by rw [ag_size]; exact lR)) rfl ⟨rfl, by first | exact below_setRow hbl (Nat.le_refl _) _ | (rw [hN]; exact below_setRow hbl (Nat.le_refl _) _)⟩
end Go.Proofs.YtmolhljgmaoflaaDoor
