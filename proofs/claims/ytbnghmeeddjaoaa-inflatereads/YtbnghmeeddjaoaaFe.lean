/- The walk of again. -/
import Derived.Test.YtbnghmeeddjaoaaFd
import Derived.Test.YtbnghmeeddjaoaaGw
namespace Go.Proofs.Ytbnghmeeddjaoaa
open Go.RowKit Go.BigFrame

theorem OwnB.seg {N : Nat} {w : World} {v : Value} {d : List UInt8} (h : OwnB N w v d) (hd : 0 < d.length) : ∃ g cap, v = .slice (some ⟨g, 0, none⟩) d.length cap ∧ d.length ≤ cap ∧ ∀ k, k < d.length → w.cell? ⟨g, k, none⟩ = some (B (d.getD k 0)) := by
  rcases h.2 with ⟨e, e0⟩ | ⟨g, cap, cur, e1, e2, e3, e4, e5, e6, e7⟩
  · omega
  · refine ⟨g, cap, e1, e4, fun k hk => ?_⟩
    have r : Row w g 5 cur := e3
    have hf : (d.map B)[k]? = some (B (d.getD k 0)) := by simp [hk]
    rw [← e7, List.getElem?_take_of_lt (by omega)] at hf
    rw [r.cell]
    simpa using hf
/-- Bytes that came out already, told again. -/
def tellF (most dist : Nat) : Nat → List UInt8 → Except Int (List UInt8)
  | 0, out => .ok out
  | k + 1, out => if out.length = most then .error 4 else tellF most dist k (out ++ [out.getD (out.length - dist) 0])
theorem tell_step (most dist k : Nat) (out : List UInt8) : tellF most dist (k + 1) out = if out.length = most then .error 4 else tellF most dist k (out ++ [out.getD (out.length - dist) 0]) := rfl
def againF (most p len dist : Nat) (out : List UInt8) : Except Int (Nat × List UInt8) :=
  if out.length < dist then .error 8 else (tellF most dist len out).map fun o => (p, o)
theorem results50 (T : Array Value) (w : World) : (results Try.f50 T).run Try.prog w = .ok (.tuple #[]) w := by
  unfold results
  simp [go_sem]
set_option maxRecDepth 100000 in
set_option maxHeartbeats 4000000 in
theorem again_any (K : Nat → Prop) (N : Nat) (w : World) (sb : Nat) (vb : Value) (b : List UInt8) (p : Nat) (out : List UInt8) (most : Nat) (fx : Value) (len dist : Nat) (hl : len ≤ 100000) (hd0 : 1 ≤ dist) (hdl : dist ≤ 100000) (h : St K N w sb vb b p out most fx) :
    Calls Try.prog 50 #[.pointer (some ⟨sb, 0, none⟩), .int .i64 (len : Int), .int .i64 (dist : Int)] w (Ends K N w sb vb b most fx (againF most p len dist out)) := by
  obtain ⟨vo, hr, ho⟩ := h.row
  have c2 : w.cell? ⟨sb, 2, none⟩ = some vo := by rw [hr.cell]; rfl
  have hol := h.ol
  have hml := h.ml
  have AF := Box'.mk (againF.eq_1 most p len dist out)
  obtain ⟨a0, c0, rfl⟩ := ho.slice
  have H := Box'.mk h
  clear hr ho h
  generalize hL0 : out.length = L0 at *
  have HL0 := Box'.mk hL0
  clear hL0
  generalize againF most p len dist out = r at *
  by_cases hs : L0 < dist
  · have e := AF.out
    rw [if_pos hs] at e
    have hf := fail_any 8 w
    have RES := Box'.mk (Ends.bad (N := N) (sb := sb) (vb := vb) (b := b) (most := most) (fx := fx) e (Kp.refl K w))
    clear AF H e
    go_enter Try.func50, Try.ntmps50
    go_wp2_with fail
    refine hf.mono ?_
    rintro e w' ⟨rfl, rfl⟩
    exact ⟨rfl, RES.out⟩
  · have e := AF.out
    rw [if_neg hs] at e
    have E := Box'.mk e
    clear AF e
    go_enter Try.func50, Try.ntmps50
    go_wp2_with fail
    go_loopw [15] (fun i wr => ∃ (k : Nat) (o : List UInt8), k ≤ len ∧ i = .int .i64 (k : Int) ∧ Box' (tellF most dist len out = tellF most dist (len - k) o) ∧ Box' (dist ≤ o.length) ∧ St K N wr sb vb b p o most fx ∧ Kp K w wr) (fun i _ => len - (intOf i).toNat)
    case atStart => exact ⟨0, out, by omega, rfl, ⟨rfl⟩, ⟨by rw [HL0.out]; omega⟩, H.out, Kp.refl _ _⟩
    case round =>
      clear H HL0 c2 hol
      obtain ⟨k, o, hk, rfl, HP, HD, st, kp⟩ := hrel
      by_cases hlt : k < len
      · have hp := HP.out
        rw [show len - k = (len - (k + 1)) + 1 by omega, tell_step] at hp
        obtain ⟨vo, hr, ho⟩ := st.row
        obtain ⟨go, c, rfl, hc, hcl⟩ := ho.seg (by have := HD.out; omega)
        have cx := hcl (o.length - dist) (by have := HD.out; omega)
        have hcs : wr.cell? ⟨sb, 2, none⟩ = some (.slice (some ⟨go, 0, none⟩) o.length c) := by rw [hr.cell]; rfl
        have hol := st.ol
        have hdo := HD.out
        have HD2 : Box' (dist ≤ (o ++ [o.getD (o.length - dist) 0]).length) := ⟨by rw [List.length_append]; omega⟩
        generalize o.getD (o.length - dist) 0 = x at *
        have PUT : Box' (∀ W, St K N W sb vb b p o most fx ∧ Kp K w W ∧ W.cell? ⟨sb, 2, none⟩ = some (.slice (some ⟨go, 0, none⟩) o.length c) ∧ W.cell? ⟨go, o.length - dist, none⟩ = some (B x) → Calls Try.prog 46 #[.pointer (some ⟨sb, 0, none⟩), .int .u8 ((x.toNat : Nat) : Int)] W fun e w' => Kp K W w' ∧ ((o.length < most ∧ e = .returned (.tuple #[]) ∧ St K N w' sb vb b p (o ++ [x]) most fx) ∨ (o.length = most ∧ e = flt 4))) := ⟨fun W hW => put_any K N W sb vb b p o most fx x hW.1⟩
        have HP2 := Box'.mk hp
        have GP : Box' (∀ y, tellF most dist len out = .error y → r = .error y) := ⟨fun y hy => by rw [E.out, hy]; rfl⟩
        have AG0 : Box' (St K N wr.drew sb vb b p o most fx ∧ Kp K w wr.drew ∧ wr.drew.cell? ⟨sb, 2, none⟩ = some (.slice (some ⟨go, 0, none⟩) o.length c) ∧ wr.drew.cell? ⟨go, o.length - dist, none⟩ = some (B x)) := ⟨st.drewN 1, kp.drew, hcs, cx⟩
        generalize hLo : o.length = L at *
        obtain ⟨Ag, hAg⟩ : ∃ Ag : World → Prop, Ag = fun W => St K N W sb vb b p o most fx ∧ Kp K w W ∧ W.cell? ⟨sb, 2, none⟩ = some (.slice (some ⟨go, 0, none⟩) L c) ∧ W.cell? ⟨go, L - dist, none⟩ = some (B x) := ⟨_, rfl⟩
        have AGC : Box' (∀ W, Ag W → W.cell? ⟨sb, 2, none⟩ = some (.slice (some ⟨go, 0, none⟩) L c) ∧ W.cell? ⟨go, L - dist, none⟩ = some (.int .u8 ((x.toNat : Nat) : Int))) := ⟨fun W hW => by rw [hAg] at hW; exact ⟨hW.2.2.1, hW.2.2.2⟩⟩
        have AGK : Box' (∀ W, Ag W → Kp K w W) := ⟨fun W hW => by rw [hAg] at hW; exact hW.2.1⟩
        have PUT : Box' (∀ W, Ag W → Calls Try.prog 46 #[.pointer (some ⟨sb, 0, none⟩), .int .u8 ((x.toNat : Nat) : Int)] W fun e w' => Kp K W w' ∧ ((L < most ∧ e = .returned (.tuple #[]) ∧ St K N w' sb vb b p (o ++ [x]) most fx) ∨ (L = most ∧ e = flt 4))) := ⟨fun W hW => PUT.out W (by rw [hAg] at hW; exact hW)⟩
        have AG0 : Box' (Ag wr.drew) := ⟨by rw [hAg]; exact AG0.out⟩
        clear hr ho hcl cx hcs hp st kp HP hAg E hLo HD
        go_wp2_with fail
        refine wp_region_grow 14 (by kernel_rfl) (by kernel_rfl) (fun w1 w2 => w2 = w1) (fun w1 => Ag w1) (fun k w1 v => match k with
          | 0 => v = .pointer (some ⟨sb, 0, none⟩)
          | 1 => v = .pointer (some ⟨sb, 0, none⟩)
          | 2 => v = .pointer (some ⟨sb, 0, none⟩)
          | 3 => v = .pointer (some ⟨sb, 2, none⟩)
          | 4 => v = .slice (some ⟨go, 0, none⟩) L c
          | 5 => v = .pointer (some ⟨sb, 0, none⟩)
          | 6 => v = .pointer (some ⟨sb, 0, none⟩)
          | 7 => v = .pointer (some ⟨sb, 2, none⟩)
          | 8 => v = .slice (some ⟨go, 0, none⟩) L c
          | 9 => v = .int .i64 (L : Int)
          | 10 => v = .int .i64 (dist : Int)
          | 11 => v = .int .i64 ((L : Int) - (dist : Int))
          | 12 => v = .pointer (some ⟨go, L - dist, none⟩)
          | 13 => v = .int .u8 ((x.toNat : Nat) : Int)
          | _ => True) ?_ ?_ ?_ ?_ ?_
        · rintro w1 w2 rfl hA
          exact hA
        · intro k v w1 w2 hC1 hb h
          match k, h with
          | 0, h => exact h
          | 1, h => exact h
          | 2, h => exact h
          | 3, h => exact h
          | 4, h => exact h
          | 5, h => exact h
          | 6, h => exact h
          | 7, h => exact h
          | 8, h => exact h
          | 9, h => exact h
          | 10, h => exact h
          | 11, h => exact h
          | 12, h => exact h
          | 13, h => exact h
          | k + 14, h => trivial
        · exact AG0.out
        · refine ⟨?_, ?_, ?_, ?_, ?_, ?_, ?_, ?_, ?_, ?_, ?_, ?_, ?_, ?_, trivial⟩
          · intro f w1 hC hd KK hK
            simp only [List.take_succ_cons, List.take_zero, setAll, List.setIfInBounds_toArray, List.set_cons_succ, List.set_cons_zero, Nat.zero_add, Nat.reduceAdd] at hK ⊢
            refine wp_of_quiet rfl ?_
            go_big_quiet_step (fail)
            exact wpQuiet_nil (hK _ _ rfl rfl)
          · intro f w1 hC hd KK hK
            simp only [List.take_succ_cons, List.take_zero, setAll, List.setIfInBounds_toArray, List.set_cons_succ, List.set_cons_zero, Nat.zero_add, Nat.reduceAdd] at hK ⊢
            refine wp_of_quiet rfl ?_
            go_big_quiet_step (fail)
            exact wpQuiet_nil (hK _ _ rfl rfl)
          · intro f w1 hC hd KK hK
            have g1 : f 1 = _ := hd 1 rfl
            simp only [List.take_succ_cons, List.take_zero, setAll, List.setIfInBounds_toArray, List.set_cons_succ, List.set_cons_zero, Nat.zero_add, Nat.reduceAdd, g1] at hK ⊢
            refine wp_of_quiet rfl ?_
            go_big_quiet_step (fail)
            exact wpQuiet_nil (hK _ _ rfl rfl)
          · intro f w1 hC hd KK hK
            have g2 : f 2 = _ := hd 2 rfl
            simp only [List.take_succ_cons, List.take_zero, setAll, List.setIfInBounds_toArray, List.set_cons_succ, List.set_cons_zero, Nat.zero_add, Nat.reduceAdd, g2] at hK ⊢
            refine wp_of_quiet rfl ?_
            go_big_quiet_step (fail)
            exact wpQuiet_nil (hK _ _ rfl rfl)
          · intro f w1 hC hd KK hK
            have cc := (AGC.out w1 hC).1
            have g3 : f 3 = _ := hd 3 rfl
            simp only [List.take_succ_cons, List.take_zero, setAll, List.setIfInBounds_toArray, List.set_cons_succ, List.set_cons_zero, Nat.zero_add, Nat.reduceAdd, g3] at hK ⊢
            refine wp_of_quiet rfl ?_
            go_big_quiet_step (fail)
            exact wpQuiet_nil (hK _ _ rfl rfl)
          · intro f w1 hC hd KK hK
            simp only [List.take_succ_cons, List.take_zero, setAll, List.setIfInBounds_toArray, List.set_cons_succ, List.set_cons_zero, Nat.zero_add, Nat.reduceAdd] at hK ⊢
            refine wp_of_quiet rfl ?_
            go_big_quiet_step (fail)
            exact wpQuiet_nil (hK _ _ rfl rfl)
          · intro f w1 hC hd KK hK
            have g5 : f 5 = _ := hd 5 rfl
            simp only [List.take_succ_cons, List.take_zero, setAll, List.setIfInBounds_toArray, List.set_cons_succ, List.set_cons_zero, Nat.zero_add, Nat.reduceAdd, g5] at hK ⊢
            refine wp_of_quiet rfl ?_
            go_big_quiet_step (fail)
            exact wpQuiet_nil (hK _ _ rfl rfl)
          · intro f w1 hC hd KK hK
            have g6 : f 6 = _ := hd 6 rfl
            simp only [List.take_succ_cons, List.take_zero, setAll, List.setIfInBounds_toArray, List.set_cons_succ, List.set_cons_zero, Nat.zero_add, Nat.reduceAdd, g6] at hK ⊢
            refine wp_of_quiet rfl ?_
            go_big_quiet_step (fail)
            exact wpQuiet_nil (hK _ _ rfl rfl)
          · intro f w1 hC hd KK hK
            have cc := (AGC.out w1 hC).1
            have g7 : f 7 = _ := hd 7 rfl
            simp only [List.take_succ_cons, List.take_zero, setAll, List.setIfInBounds_toArray, List.set_cons_succ, List.set_cons_zero, Nat.zero_add, Nat.reduceAdd, g7] at hK ⊢
            refine wp_of_quiet rfl ?_
            go_big_quiet_step (fail)
            exact wpQuiet_nil (hK _ _ rfl rfl)
          · intro f w1 hC hd KK hK
            have g8 : f 8 = _ := hd 8 rfl
            simp only [List.take_succ_cons, List.take_zero, setAll, List.setIfInBounds_toArray, List.set_cons_succ, List.set_cons_zero, Nat.zero_add, Nat.reduceAdd, g8] at hK ⊢
            refine wp_of_quiet rfl ?_
            go_big_quiet_step (fail)
            exact wpQuiet_nil (hK _ _ rfl rfl)
          · intro f w1 hC hd KK hK
            simp only [List.take_succ_cons, List.take_zero, setAll, List.setIfInBounds_toArray, List.set_cons_succ, List.set_cons_zero, Nat.zero_add, Nat.reduceAdd] at hK ⊢
            refine wp_of_quiet rfl ?_
            go_big_quiet_step (fail)
            exact wpQuiet_nil (hK _ _ rfl rfl)
          · intro f w1 hC hd KK hK
            have g9 : f 9 = _ := hd 9 rfl
            have g10 : f 10 = _ := hd 10 rfl
            simp only [List.take_succ_cons, List.take_zero, setAll, List.setIfInBounds_toArray, List.set_cons_succ, List.set_cons_zero, Nat.zero_add, Nat.reduceAdd, g9, g10] at hK ⊢
            refine wp_of_quiet rfl ?_
            go_big_quiet_step (fail)
            exact wpQuiet_nil (hK _ _ rfl rfl)
          · intro f w1 hC hd KK hK
            have g4 : f 4 = _ := hd 4 rfl
            have g11 : f 11 = _ := hd 11 rfl
            simp only [List.take_succ_cons, List.take_zero, setAll, List.setIfInBounds_toArray, List.set_cons_succ, List.set_cons_zero, Nat.zero_add, Nat.reduceAdd, g4, g11] at hK ⊢
            refine wp_of_quiet rfl ?_
            go_big_quiet_step (fail)
            exact wpQuiet_nil (hK _ _ rfl rfl)
          · intro f w1 hC hd KK hK
            have cc := (AGC.out w1 hC).2
            have g12 : f 12 = _ := hd 12 rfl
            simp only [List.take_succ_cons, List.take_zero, setAll, List.setIfInBounds_toArray, List.set_cons_succ, List.set_cons_zero, Nat.zero_add, Nat.reduceAdd, g12] at hK ⊢
            refine wp_of_quiet rfl ?_
            go_big_quiet_step (fail)
            exact wpQuiet_nil (hK _ _ rfl rfl)
        · intro f w1 hC hv
          have g0 : f 0 = _ := hv 0 (by decide)
          have g1 : f 1 = _ := hv 1 (by decide)
          have g2 : f 2 = _ := hv 2 (by decide)
          have g3 : f 3 = _ := hv 3 (by decide)
          have g4 : f 4 = _ := hv 4 (by decide)
          have g5 : f 5 = _ := hv 5 (by decide)
          have g6 : f 6 = _ := hv 6 (by decide)
          have g7 : f 7 = _ := hv 7 (by decide)
          have g8 : f 8 = _ := hv 8 (by decide)
          have g9 : f 9 = _ := hv 9 (by decide)
          have g10 : f 10 = _ := hv 10 (by decide)
          have g11 : f 11 = _ := hv 11 (by decide)
          have g12 : f 12 = _ := hv 12 (by decide)
          have g13 : f 13 = _ := hv 13 (by decide)
          simp only [List.take_succ_cons, List.take_zero, List.drop_succ_cons, List.drop_zero, setAll, List.setIfInBounds_toArray, List.set_cons_succ, List.set_cons_zero, Nat.zero_add, Nat.reduceAdd, g0, g1, g2, g3, g4, g5, g6, g7, g8, g9, g10, g11, g12, g13]
          clear g0 g1 g2 g3 g4 g5 g6 g7 g8 g9 g10 g11 g12 g13 hv
          have hpu := PUT.out w1 hC
          clear AGC AG0
          go_wp2_with fail
          refine hpu.mono ?_
          clear hpu PUT
          rintro e w4 ⟨kp, ⟨hs, rfl, st⟩ | ⟨hs, rfl⟩⟩
          · have hp := HP2.out
            rw [if_neg (by omega)] at hp
            have HP4 := Box'.mk hp
            have KP4 := Box'.mk ((AGK.out w1 hC).trans kp)
            have ST4 := Box'.mk st
            clear hp st kp hs HP2 hC AGK
            go_wp2_with fail
            exact ⟨⟨k + 1, o ++ [x], by omega, by go_num, HP4, HD2, ST4.out, KP4.out⟩, by simp [intOf]; omega⟩
          · have hp := HP2.out
            rw [if_pos hs] at hp
            exact ⟨rfl, Ends.bad (GP.out _ hp) ((AGK.out w1 hC).trans kp)⟩
      · obtain rfl : k = len := by omega
        have hp := HP.out
        rw [Nat.sub_self] at hp
        have e := E.out
        rw [hp] at e
        have RES := Box'.mk (Ends.good (p := p) (out := o) e kp st)
        clear HP hp st kp E e HD
        go_wp2_with fail
        exact ⟨rfl, _, results50 _ _, RES.out⟩
end Go.Proofs.Ytbnghmeeddjaoaa
