/- The walk of insertionSort, for coins. -/
import Derived.Test.YtcjfaahlchbcmaaK27
import Derived.Test.YtcjfaahlchbcmaaK05
import Derived.Test.YtcjfaahlchbcmaaK01
import Derived.Test.YtcjfaahlchbcmaaK09
import Derived.Test.YtcjfaahlchbcmaaK06
namespace Go.Proofs.Ytcjfaahlchbcmaa
open Go.RowKit Go.BigFrame
set_option maxRecDepth 100000 in
theorem results93 (T : Array Value) (w : World) : (results Try.f93 T).run Try.prog w = .ok (.tuple #[]) w := by
  unfold results
  simp [go_sem]
def cfCv (_ : Nat) : Value := .func (.func 86) #[] #[]
def CmpC (B : Nat) (w0 : World) (_ : Nat) (k : Cn → Int) (S : Cn → Prop) : Prop :=
  ∀ W, Below B w0 W → ∀ x y, S x → S y → Calls Try.prog 86 #[.agg #[.int .i64 x.1, .bool x.2], .agg #[.int .i64 y.1, .bool y.2]] W fun e w' => e = .returned (.int .i64 (sg (k x) (k y))) ∧ Below W.heap.size W w'
set_option maxRecDepth 100000 in
theorem ins_doneC (k : Cn → Int) (P1 P2 : List Cn) (x : Cn) (hs : Gs.Srt k (P1 ++ P2)) (h2 : ∀ y ∈ P2, k x < k y) (h1 : P1 = [] ∨ ∃ Q p, P1 = Q ++ [p] ∧ ¬ k x < k p) : P1 ++ x :: P2 = Gs.mg k (P1 ++ P2) [x] := by
  rw [Gs.mg_one k P1 P2 x ?_ h2]
  intro y hy
  rcases h1 with rfl | ⟨Q, p, rfl, hp⟩
  · cases hy
  · rw [List.mem_append, List.mem_singleton] at hy
    rcases hy with hy | rfl
    · unfold Gs.Srt at hs
      rw [List.append_assoc, List.pairwise_append] at hs
      have := hs.2.2 y hy p (by simp)
      unfold Gs.le at this
      have := of_decide_eq_true this
      omega
    · omega
set_option maxRecDepth 100000 in
set_option maxHeartbeats 4000000 in
theorem insC_any (g c B pb : Nat) (w0 : World) (k : Cn → Int) (S : Cn → Prop) (hcmp : CmpC B w0 pb k S) (hB : B ≤ g) (hB0 : B ≤ w0.heap.size) (A X Z : List Cn) (a b N : Nat) (hS : ∀ x ∈ X, S x) (ha : A.length = a) (hb : A.length + X.length = b) (hN : N = A.length + X.length + Z.length) (hN2 : N ≤ 4096) (w : World) (hbl : Below B w0 w) (h : SegC w g (A ++ (X ++ Z))) :
    Calls Try.prog 93 #[.slice (some ⟨g, 0, none⟩) N c, .int .i64 (a : Int), .int .i64 (b : Int), cfCv pb] w fun e w' => e = .returned (.tuple #[]) ∧ SegC w' g (A ++ (Gs.isr k X ++ Z)) ∧ Gb g w w' := by
  have IT := Box'.mk (Gs.isr_take k X)
  have IL := Box'.mk (Gs.isr_len k)
  have IS := Box'.mk (Gs.isr_srt k)
  have HS := Box'.mk hS
  have HCM := Box'.mk hcmp
  have HA := Box'.mk ha
  have HBB := Box'.mk hb
  have HNN := Box'.mk hN
  have hab : a ≤ b := by omega
  have hbN : b ≤ N := by omega
  have IP : Box' (∀ l y, y ∈ Gs.isr k l → y ∈ l) := ⟨fun l y hy => (Gs.isr_perm k l).mem_iff.1 hy⟩
  have I1 : Box' (Gs.isr k (X.take 1) = X.take 1) := ⟨by
    cases X with
    | nil => rfl
    | cons x r => show Gs.isr k [x] = [x]; unfold Gs.isr; simp [Gs.nil_mg]⟩
  unfold cfCv
  clear hcmp hS ha hb hN
  have hs0 : SegC w g (A ++ (Gs.isr k (X.take 1) ++ (X.drop 1 ++ Z))) := by
    rw [I1.out, ← List.append_assoc (X.take 1), List.take_append_drop]; exact h
  clear h I1
  go_enter Try.func93, Try.ntmps93
  go_wp2_with fail
  go_loopw [8] (fun i wr => ∃ t : Nat, (t = 0 ∨ t + 1 ≤ X.length) ∧ a + 1 + t ≤ 5000 ∧ i = .int .i64 ((a + 1 + t : Nat) : Int) ∧ SegC wr g (A ++ (Gs.isr k (X.take (t + 1)) ++ (X.drop (t + 1) ++ Z))) ∧ Gb g w wr) (fun i _ => b + 1 - (intOf i).toNat)
  case atStart => exact ⟨0, .inl rfl, by omega, by congr 1, hs0, Gb.refl _ _⟩
  case round =>
    clear hs0
    obtain ⟨t, ht, ht5, rfl, hs, hg⟩ := hrel
    by_cases hlt : a + 1 + t < b
    · have hx : t + 1 < X.length := by have := HA.out; have := HBB.out; omega
      have ITk := Box'.mk (IT.out (t + 1) hx)
      have hPs := IS.out (X.take (t + 1))
      have hPl : (Gs.isr k (X.take (t + 1))).length = t + 1 := by rw [IL.out, List.length_take]; omega
      have hSx : S X[t + 1] := HS.out _ (List.getElem_mem hx)
      have hSP : ∀ y ∈ Gs.isr k (X.take (t + 1)), S y := fun y hy => HS.out y (List.mem_of_mem_take (IP.out _ _ hy))
      have hdr : X.drop (t + 1) = X[t + 1] :: X.drop (t + 2) := List.drop_eq_getElem_cons hx
      rw [hdr] at hs
      have HD : Box' ((X.drop (t + 2)).length = X.length - (t + 2)) := ⟨List.length_drop⟩
      have XL : Box' (a + X.length = b) := ⟨by have := HA.out; have := HBB.out; omega⟩
      have NL : Box' (N = a + X.length + Z.length) := ⟨by have := HA.out; have := HNN.out; omega⟩
      generalize hP : Gs.isr k (X.take (t + 1)) = P at *
      generalize hxx : X[t + 1] = x at *
      have hs : SegC wr g (A ++ (P ++ x :: (X.drop (t + 2) ++ Z))) := by simpa using hs
      generalize hR : X.drop (t + 2) ++ Z = R at *
      have RL : Box' (N = a + (t + 2) + R.length) := ⟨by have := HD.out; have := NL.out; have := XL.out; rw [← hR, List.length_append]; omega⟩
      have HPS := Box'.mk hPs
      have HSP := Box'.mk hSP
      have HPL := Box'.mk hPl
      have ENDK : Box' (∀ W, SegC W g (A ++ (Gs.mg k P [x] ++ R)) → SegC W g (A ++ (Gs.isr k (X.take (t + 1 + 1)) ++ (X.drop (t + 1 + 1) ++ Z)))) := ⟨fun W hW => by
        rw [ITk.out, hR]; exact hW⟩
      clear IT IS IL HS IP ITk hPs hPl hSP hdr HD hP hxx hR HNN
      go_wp2_with fail
      go_loopw [9] (fun j wr => ∃ (jn : Nat) (P1 P2 : List Cn), j = .int .i64 (jn : Int) ∧ a ≤ jn ∧ jn ≤ a + 1 + t ∧ Box' (jn = a + P1.length) ∧ Box' (P = P1 ++ P2) ∧ Box' (∀ y ∈ P2, k x < k y) ∧ SegC wr g (A ++ (P1 ++ x :: (P2 ++ R))) ∧ Gb g w wr) (fun j _ => (intOf j).toNat)
      case atStart => exact ⟨a + 1 + t, P, [], rfl, by omega, by omega, ⟨by have := HPL.out; omega⟩, ⟨by simp⟩, ⟨fun y hy => by cases hy⟩, by simpa using hs, hg⟩
      case round =>
        clear hs hg
        obtain ⟨jn, P1, P2, rfl, hj1, hj2, HJ, HP, HL, hs, hg⟩ := hrel
        by_cases hja : jn = a
        · have hP1 : P1 = [] := List.eq_nil_of_length_eq_zero (by have := HJ.out; omega)
          subst hP1 hja
          have hend := ENDK.out wr (by
            have := ins_doneC k [] P2 x (by have := HPS.out; rw [HP.out] at this; exact this) HL.out (.inl rfl)
            rw [HP.out, ← this]; simpa using hs)
          clear ENDK HPS HSP HPL HP HL HJ hs HCM RL
          go_wp2_with fail
          go_quiet (fail)
          go_wp2_with fail
          exact ⟨⟨t + 1, .inr (by omega), by omega, by go_num, hend.drewN nq, hg.drewN nq⟩, by simp [intOf]; omega⟩
        · obtain ⟨Q, p, hQ⟩ : ∃ Q p, P1 = Q ++ [p] := by
            rcases List.eq_nil_or_concat P1 with h | ⟨Q, p, h⟩
            · exfalso; subst h; have := HJ.out; simp at this; omega
            · exact ⟨Q, p, by rw [h, List.concat_eq_append]⟩
          subst hQ
          obtain ⟨q, rfl⟩ : ∃ q, jn = q + 1 := ⟨jn - 1, by omega⟩
          have hq : q = a + Q.length := by have := HJ.out; simp at this; omega
          have hql : (A ++ Q).length = q := by have := HA.out; simp; omega
          have hs' : SegC wr g ((A ++ Q) ++ p :: ([] ++ x :: (P2 ++ R))) := by simpa using hs
          have hPl2 : Q.length + 1 + P2.length = t + 1 := by have := HPL.out; rw [HP.out] at this; simp at this; omega
          have hlen : ((A ++ Q) ++ p :: ([] ++ x :: (P2 ++ R))).length = N := by have := RL.out; have := HA.out; simp; omega
          have CB : Box' (∀ W, SegC W g (A ++ (Q ++ [p] ++ x :: (P2 ++ R))) → CellC W g q p ∧ CellC W g (q + 1) x) := ⟨fun W hW => by
            have hW' : SegC W g ((A ++ Q) ++ p :: ([] ++ x :: (P2 ++ R))) := by simpa using hW
            have c0 := hW'.cell (k := q) (by rw [hlen]; have := RL.out; omega)
            have c1 := hW'.cell (k := q + 1) (by rw [hlen]; have := RL.out; omega)
            rw [← hql, get_mid, hql] at c0
            rw [show (A ++ Q) ++ p :: ([] ++ x :: (P2 ++ R)) = ((A ++ Q) ++ [p]) ++ x :: (P2 ++ R) by simp, show q + 1 = ((A ++ Q) ++ [p]).length by rw [List.length_append, hql]; rfl, get_mid, show ((A ++ Q) ++ [p]).length = q + 1 by rw [List.length_append, hql]; rfl] at c1
            exact ⟨c0, c1⟩⟩
          have ja1 : a ≤ q := by omega
          have ja2 : a < q + 1 := by omega
          have ja3 : (a : Int) < (q : Int) + 1 := by omega
          have hqN : q + 1 < N := by have := RL.out; omega
          have hcm := HCM.out
          have hcc : ∀ W, Gb g w W → Calls Try.prog 86 #[.agg #[.int .i64 x.1, .bool x.2], .agg #[.int .i64 p.1, .bool p.2]] W fun e w' => e = .returned (.int .i64 (sg (k x) (k p))) ∧ Below W.heap.size W w' := fun W hW => hcm W (hW.on hbl hB hB0) x p hSx (HSP.out p (by rw [HP.out]; simp))
          have hsg := sg_lt (k x) (k p)
          generalize sg (k x) (k p) = sv' at *
          by_cases hlt2 : k x < k p
          · have hs2 := hs'
            have HQL := Box'.mk hql
            have i1 : sv' < 0 := by have := decide_eq_true hlt2; rw [← hsg] at this; exact of_decide_eq_true this
            have HQ := Box'.mk hq
            clear hs' hlen hq hql hPl2 hsg hcm hs2
            go_wp2_with fail
            refine wp_region_growt 17 53 [3] rfl (by kernel_rfl) (by kernel_rfl) (by kernel_rfl) (fun w1 w2 => Below w1.heap.size w1 w2) (fun w1 => SegC w1 g (A ++ (Q ++ [p] ++ x :: (P2 ++ R))) ∧ Gb g w w1) (fun k w1 v => match k with
              | 0 => v = .int .i64 ((q + 1 : Nat) : Int)
              | 1 => v = .int .i64 (a : Int)
              | 2 => v = .bool true
              | 3 => v = .bool true
              | 4 => v = .func (.func 86) #[] #[]
              | 5 => v = .slice (some ⟨g, 0, none⟩) N c
              | 6 => v = .int .i64 ((q + 1 : Nat) : Int)
              | 7 => v = .pointer (some ⟨g, (q + 1) * 2, none⟩)
              | 8 => v = .agg #[.int .i64 x.1, .bool x.2]
              | 9 => v = .slice (some ⟨g, 0, none⟩) N c
              | 10 => v = .int .i64 ((q + 1 : Nat) : Int)
              | 11 => v = .int .i64 (q : Int)
              | 12 => v = .pointer (some ⟨g, q * 2, none⟩)
              | 13 => v = .agg #[.int .i64 p.1, .bool p.2]
              | 14 => v = .int .i64 sv'
              | 15 => v = .bool true
              | 16 => v = .bool true
              | _ => True) ?_ ?_ ?_ ?_ ?_ ?_
            · intro j hj w1 v hC hv
              rw [List.mem_singleton] at hj
              subst hj
              exact hv
            · rintro w1 w2 hb ⟨q1, q2⟩
              exact ⟨q1.below hb, q2.trans (Gb.below hb)⟩
            · intro k v w1 w2 hC1 hb h
              match k, h with
              | 0, h => exact h
              | 1, h => exact h
              | 2, h => exact h
              | 3, h => exact h
              | 4, h => exact h
              | 5, h => exact h
              | 6, h => exact h
              | 7, h => exact h
              | 8, h => exact h
              | 9, h => exact h
              | 10, h => exact h
              | 11, h => exact h
              | 12, h => exact h
              | 13, h => exact h
              | 14, h => exact h
              | 15, h => exact h
              | 16, h => exact h
              | k + 17, h => trivial
            · exact ⟨hs.drew, hg.drew⟩
            · refine ⟨?_, ?_, ?_, ?_, ?_, ?_, ?_, ?_, ?_, ?_, ?_, ?_, ?_, ?_, ?_, ?_, ?_, trivial⟩
              · intro f w1 hC hd KK hK
                simp only [List.take_succ_cons, List.take_zero, setAll, List.setIfInBounds_toArray, List.set_cons_succ, List.set_cons_zero, Nat.zero_add, Nat.reduceAdd] at hK ⊢
                refine wp_unguard ?_
                refine wp_of_quiet rfl ?_
                go_big_quiet_step (fail)
                exact wpQuiet_nil (hK _ _ rfl (Below.refl _ _))
              · intro f w1 hC hd KK hK
                simp only [List.take_succ_cons, List.take_zero, setAll, List.setIfInBounds_toArray, List.set_cons_succ, List.set_cons_zero, Nat.zero_add, Nat.reduceAdd] at hK ⊢
                refine wp_unguard ?_
                refine wp_of_quiet rfl ?_
                go_big_quiet_step (fail)
                exact wpQuiet_nil (hK _ _ rfl (Below.refl _ _))
              · intro f w1 hC hd KK hK
                have g0 : f 0 = _ := hd 0 rfl
                have g1 : f 1 = _ := hd 1 rfl
                simp only [List.take_succ_cons, List.take_zero, setAll, List.setIfInBounds_toArray, List.set_cons_succ, List.set_cons_zero, Nat.zero_add, Nat.reduceAdd, g0, g1] at hK ⊢
                refine wp_unguard ?_
                refine wp_of_quiet rfl ?_
                go_big_quiet_step (fail)
                exact wpQuiet_nil (hK _ _ rfl (Below.refl _ _))
              · intro f w1 hC hd KK hK
                have g2 : f 2 = _ := hd 2 rfl
                simp only [List.take_succ_cons, List.take_zero, setAll, List.setIfInBounds_toArray, List.set_cons_succ, List.set_cons_zero, Nat.zero_add, Nat.reduceAdd, g2] at hK ⊢
                refine wp_unguard ?_
                refine wp_of_quiet rfl ?_
                go_big_quiet_step (fail)
                exact wpQuiet_nil (hK _ _ rfl (Below.refl _ _))
              · intro f w1 hC hd KK hK
                simp only [List.take_succ_cons, List.take_zero, setAll, List.setIfInBounds_toArray, List.set_cons_succ, List.set_cons_zero, Nat.zero_add, Nat.reduceAdd] at hK ⊢
                refine wp_unguard ?_
                refine wp_of_quiet rfl ?_
                go_big_quiet_step (fail)
                exact wpQuiet_nil (hK _ _ rfl (Below.refl _ _))
              · intro f w1 hC hd KK hK
                simp only [List.take_succ_cons, List.take_zero, setAll, List.setIfInBounds_toArray, List.set_cons_succ, List.set_cons_zero, Nat.zero_add, Nat.reduceAdd] at hK ⊢
                refine wp_unguard ?_
                refine wp_of_quiet rfl ?_
                go_big_quiet_step (fail)
                exact wpQuiet_nil (hK _ _ rfl (Below.refl _ _))
              · intro f w1 hC hd KK hK
                simp only [List.take_succ_cons, List.take_zero, setAll, List.setIfInBounds_toArray, List.set_cons_succ, List.set_cons_zero, Nat.zero_add, Nat.reduceAdd] at hK ⊢
                refine wp_unguard ?_
                refine wp_of_quiet rfl ?_
                go_big_quiet_step (fail)
                exact wpQuiet_nil (hK _ _ rfl (Below.refl _ _))
              · intro f w1 hC hd KK hK
                have g5 : f 5 = _ := hd 5 rfl
                have g6 : f 6 = _ := hd 6 rfl
                simp only [List.take_succ_cons, List.take_zero, setAll, List.setIfInBounds_toArray, List.set_cons_succ, List.set_cons_zero, Nat.zero_add, Nat.reduceAdd, g5, g6] at hK ⊢
                refine wp_unguard ?_
                refine wp_of_quiet rfl ?_
                go_big_quiet_step (fail)
                exact wpQuiet_nil (hK _ _ rfl (Below.refl _ _))
              · intro f w1 hC hd KK hK
                have c8a := CellC.a (And.right (CB.out w1 hC.1))
                have c8b := CellC.b (And.right (CB.out w1 hC.1))
                have g7 : f 7 = _ := hd 7 rfl
                simp only [List.take_succ_cons, List.take_zero, setAll, List.setIfInBounds_toArray, List.set_cons_succ, List.set_cons_zero, Nat.zero_add, Nat.reduceAdd, g7] at hK ⊢
                refine wp_unguard ?_
                refine wp_of_quiet rfl ?_
                go_big_quiet_step (fail)
                exact wpQuiet_nil (hK _ _ rfl (Below.refl _ _))
              · intro f w1 hC hd KK hK
                simp only [List.take_succ_cons, List.take_zero, setAll, List.setIfInBounds_toArray, List.set_cons_succ, List.set_cons_zero, Nat.zero_add, Nat.reduceAdd] at hK ⊢
                refine wp_unguard ?_
                refine wp_of_quiet rfl ?_
                go_big_quiet_step (fail)
                exact wpQuiet_nil (hK _ _ rfl (Below.refl _ _))
              · intro f w1 hC hd KK hK
                simp only [List.take_succ_cons, List.take_zero, setAll, List.setIfInBounds_toArray, List.set_cons_succ, List.set_cons_zero, Nat.zero_add, Nat.reduceAdd] at hK ⊢
                refine wp_unguard ?_
                refine wp_of_quiet rfl ?_
                go_big_quiet_step (fail)
                exact wpQuiet_nil (hK _ _ rfl (Below.refl _ _))
              · intro f w1 hC hd KK hK
                have g10 : f 10 = _ := hd 10 rfl
                simp only [List.take_succ_cons, List.take_zero, setAll, List.setIfInBounds_toArray, List.set_cons_succ, List.set_cons_zero, Nat.zero_add, Nat.reduceAdd, g10] at hK ⊢
                refine wp_unguard ?_
                refine wp_of_quiet rfl ?_
                go_big_quiet_step (fail)
                exact wpQuiet_nil (hK _ _ rfl (Below.refl _ _))
              · intro f w1 hC hd KK hK
                have g9 : f 9 = _ := hd 9 rfl
                have g11 : f 11 = _ := hd 11 rfl
                simp only [List.take_succ_cons, List.take_zero, setAll, List.setIfInBounds_toArray, List.set_cons_succ, List.set_cons_zero, Nat.zero_add, Nat.reduceAdd, g9, g11] at hK ⊢
                refine wp_unguard ?_
                refine wp_of_quiet rfl ?_
                go_big_quiet_step (fail)
                exact wpQuiet_nil (hK _ _ rfl (Below.refl _ _))
              · intro f w1 hC hd KK hK
                have c13a := CellC.a (And.left (CB.out w1 hC.1))
                have c13b := CellC.b (And.left (CB.out w1 hC.1))
                have g12 : f 12 = _ := hd 12 rfl
                simp only [List.take_succ_cons, List.take_zero, setAll, List.setIfInBounds_toArray, List.set_cons_succ, List.set_cons_zero, Nat.zero_add, Nat.reduceAdd, g12] at hK ⊢
                refine wp_unguard ?_
                refine wp_of_quiet rfl ?_
                go_big_quiet_step (fail)
                exact wpQuiet_nil (hK _ _ rfl (Below.refl _ _))
              · intro f w1 hC hd KK hK
                have g4 : f 4 = _ := hd 4 rfl
                have g8 : f 8 = _ := hd 8 rfl
                have g13 : f 13 = _ := hd 13 rfl
                simp only [List.take_succ_cons, List.take_zero, setAll, List.setIfInBounds_toArray, List.set_cons_succ, List.set_cons_zero, Nat.zero_add, Nat.reduceAdd, g4, g8, g13] at hK ⊢
                exact wp_call 86 #[.agg #[.int .i64 x.1, .bool x.2], .agg #[.int .i64 p.1, .bool p.2]] (by simp [go_sem]) _ _ (hcc w1 hC.2) (fun w' hb => hK _ _ rfl hb)
              · intro f w1 hC hd KK hK
                have g14 : f 14 = _ := hd 14 rfl
                simp only [List.take_succ_cons, List.take_zero, setAll, List.setIfInBounds_toArray, List.set_cons_succ, List.set_cons_zero, Nat.zero_add, Nat.reduceAdd, g14] at hK ⊢
                refine wp_unguard ?_
                refine wp_of_quiet rfl ?_
                go_big_quiet_step (fail)
                exact wpQuiet_nil (hK _ _ rfl (Below.refl _ _))
              · intro f w1 hC hd KK hK
                have g3 : f 3 = _ := hd 3 rfl
                have g15 : f 15 = _ := hd 15 rfl
                simp only [List.take_succ_cons, List.take_zero, setAll, List.setIfInBounds_toArray, List.set_cons_succ, List.set_cons_zero, Nat.zero_add, Nat.reduceAdd, g3, g15] at hK ⊢
                refine wp_unguard ?_
                refine wp_of_quiet rfl ?_
                go_big_quiet_step (fail)
                exact wpQuiet_nil (hK _ _ rfl (Below.refl _ _))
            · intro f w1 hC hv
              have g0 : f 0 = _ := hv 0 (by decide)
              have g1 : f 1 = _ := hv 1 (by decide)
              have g2 : f 2 = _ := hv 2 (by decide)
              have g3 : f 3 = _ := hv 3 (by decide)
              have g4 : f 4 = _ := hv 4 (by decide)
              have g5 : f 5 = _ := hv 5 (by decide)
              have g6 : f 6 = _ := hv 6 (by decide)
              have g7 : f 7 = _ := hv 7 (by decide)
              have g8 : f 8 = _ := hv 8 (by decide)
              have g9 : f 9 = _ := hv 9 (by decide)
              have g10 : f 10 = _ := hv 10 (by decide)
              have g11 : f 11 = _ := hv 11 (by decide)
              have g12 : f 12 = _ := hv 12 (by decide)
              have g13 : f 13 = _ := hv 13 (by decide)
              have g14 : f 14 = _ := hv 14 (by decide)
              have g15 : f 15 = _ := hv 15 (by decide)
              have g16 : f 16 = _ := hv 16 (by decide)
              simp only [List.take_succ_cons, List.take_zero, List.drop_succ_cons, List.drop_zero, setAll, List.setIfInBounds_toArray, List.set_cons_succ, List.set_cons_zero, Nat.zero_add, Nat.reduceAdd, g0, g1, g2, g3, g4, g5, g6, g7, g8, g9, g10, g11, g12, g13, g14, g15, g16]
              clear g0 g1 g2 g3 g4 g5 g6 g7 g8 g9 g10 g11 g12 g13 g14 g15 g16 hv
              have s9 := hC.1
              have g9 := hC.2
              clear hcc hs hg hC
              have c0 := CellC.a (And.left (CB.out w1 s9))
              have c0b := CellC.b (And.left (CB.out w1 s9))
              have c1 := CellC.a (And.right (CB.out w1 s9))
              have c1b := CellC.b (And.right (CB.out w1 s9))
              have hs3 : SegC w1 g ((A ++ Q) ++ p :: ([] ++ x :: (P2 ++ R))) := by simpa using s9
              have f0 := (hs3.frozen q).1
              have f0b := (hs3.frozen q).2
              have f1 := (hs3.frozen (q + 1)).1
              have f1b := (hs3.frozen (q + 1)).2
              clear CB s9
              go_wp2_with fail
              go_region
              go_wp2_with fail
              have hsw := hs3.swap' q (q + 1) HQL.out.symm (by rw [HQL.out]; rfl)
              have hg2 := (g9.setC (q + 1) p).setC q x
              exact ⟨⟨q, Q, p :: P2, by go_num, by omega, by omega, HQ, ⟨by rw [HP.out]; simp⟩, ⟨fun y hy => by
                rcases List.mem_cons.1 hy with rfl | hy
                · exact hlt2
                · exact HL.out y hy⟩, by simpa using hsw.drew, hg2.drew⟩, by simp [intOf]⟩
          · have i1 : ¬ sv' < 0 := by have := decide_eq_false hlt2; rw [← hsg] at this; exact of_decide_eq_false this
            have i3 : decide (sv' < 0) = false := decide_eq_false i1
            have HIN : Box' (Gs.mg k P [x] = Q ++ [p] ++ x :: P2) := ⟨by rw [HP.out]; exact (ins_doneC k (Q ++ [p]) P2 x (by have := HPS.out; rw [HP.out] at this; exact this) HL.out (.inr ⟨Q, p, rfl, hlt2⟩)).symm⟩
            clear hs' hlen hq hql hPl2 hsg hcm HPS HSP HPL HP HL HJ HCM RL hlt2
            go_wp2_with fail
            refine wp_region_growt 17 53 [3] rfl (by kernel_rfl) (by kernel_rfl) (by kernel_rfl) (fun w1 w2 => Below w1.heap.size w1 w2) (fun w1 => SegC w1 g (A ++ (Q ++ [p] ++ x :: (P2 ++ R))) ∧ Gb g w w1) (fun k w1 v => match k with
              | 0 => v = .int .i64 ((q + 1 : Nat) : Int)
              | 1 => v = .int .i64 (a : Int)
              | 2 => v = .bool true
              | 3 => v = .bool true
              | 4 => v = .func (.func 86) #[] #[]
              | 5 => v = .slice (some ⟨g, 0, none⟩) N c
              | 6 => v = .int .i64 ((q + 1 : Nat) : Int)
              | 7 => v = .pointer (some ⟨g, (q + 1) * 2, none⟩)
              | 8 => v = .agg #[.int .i64 x.1, .bool x.2]
              | 9 => v = .slice (some ⟨g, 0, none⟩) N c
              | 10 => v = .int .i64 ((q + 1 : Nat) : Int)
              | 11 => v = .int .i64 (q : Int)
              | 12 => v = .pointer (some ⟨g, q * 2, none⟩)
              | 13 => v = .agg #[.int .i64 p.1, .bool p.2]
              | 14 => v = .int .i64 sv'
              | 15 => v = .bool false
              | 16 => v = .bool false
              | _ => True) ?_ ?_ ?_ ?_ ?_ ?_
            · intro j hj w1 v hC hv
              rw [List.mem_singleton] at hj
              subst hj
              exact hv
            · rintro w1 w2 hb ⟨q1, q2⟩
              exact ⟨q1.below hb, q2.trans (Gb.below hb)⟩
            · intro k v w1 w2 hC1 hb h
              match k, h with
              | 0, h => exact h
              | 1, h => exact h
              | 2, h => exact h
              | 3, h => exact h
              | 4, h => exact h
              | 5, h => exact h
              | 6, h => exact h
              | 7, h => exact h
              | 8, h => exact h
              | 9, h => exact h
              | 10, h => exact h
              | 11, h => exact h
              | 12, h => exact h
              | 13, h => exact h
              | 14, h => exact h
              | 15, h => exact h
              | 16, h => exact h
              | k + 17, h => trivial
            · exact ⟨hs.drew, hg.drew⟩
            · refine ⟨?_, ?_, ?_, ?_, ?_, ?_, ?_, ?_, ?_, ?_, ?_, ?_, ?_, ?_, ?_, ?_, ?_, trivial⟩
              · intro f w1 hC hd KK hK
                simp only [List.take_succ_cons, List.take_zero, setAll, List.setIfInBounds_toArray, List.set_cons_succ, List.set_cons_zero, Nat.zero_add, Nat.reduceAdd] at hK ⊢
                refine wp_unguard ?_
                refine wp_of_quiet rfl ?_
                go_big_quiet_step (fail)
                exact wpQuiet_nil (hK _ _ rfl (Below.refl _ _))
              · intro f w1 hC hd KK hK
                simp only [List.take_succ_cons, List.take_zero, setAll, List.setIfInBounds_toArray, List.set_cons_succ, List.set_cons_zero, Nat.zero_add, Nat.reduceAdd] at hK ⊢
                refine wp_unguard ?_
                refine wp_of_quiet rfl ?_
                go_big_quiet_step (fail)
                exact wpQuiet_nil (hK _ _ rfl (Below.refl _ _))
              · intro f w1 hC hd KK hK
                have g0 : f 0 = _ := hd 0 rfl
                have g1 : f 1 = _ := hd 1 rfl
                simp only [List.take_succ_cons, List.take_zero, setAll, List.setIfInBounds_toArray, List.set_cons_succ, List.set_cons_zero, Nat.zero_add, Nat.reduceAdd, g0, g1] at hK ⊢
                refine wp_unguard ?_
                refine wp_of_quiet rfl ?_
                go_big_quiet_step (fail)
                exact wpQuiet_nil (hK _ _ rfl (Below.refl _ _))
              · intro f w1 hC hd KK hK
                have g2 : f 2 = _ := hd 2 rfl
                simp only [List.take_succ_cons, List.take_zero, setAll, List.setIfInBounds_toArray, List.set_cons_succ, List.set_cons_zero, Nat.zero_add, Nat.reduceAdd, g2] at hK ⊢
                refine wp_unguard ?_
                refine wp_of_quiet rfl ?_
                go_big_quiet_step (fail)
                exact wpQuiet_nil (hK _ _ rfl (Below.refl _ _))
              · intro f w1 hC hd KK hK
                simp only [List.take_succ_cons, List.take_zero, setAll, List.setIfInBounds_toArray, List.set_cons_succ, List.set_cons_zero, Nat.zero_add, Nat.reduceAdd] at hK ⊢
                refine wp_unguard ?_
                refine wp_of_quiet rfl ?_
                go_big_quiet_step (fail)
                exact wpQuiet_nil (hK _ _ rfl (Below.refl _ _))
              · intro f w1 hC hd KK hK
                simp only [List.take_succ_cons, List.take_zero, setAll, List.setIfInBounds_toArray, List.set_cons_succ, List.set_cons_zero, Nat.zero_add, Nat.reduceAdd] at hK ⊢
                refine wp_unguard ?_
                refine wp_of_quiet rfl ?_
                go_big_quiet_step (fail)
                exact wpQuiet_nil (hK _ _ rfl (Below.refl _ _))
              · intro f w1 hC hd KK hK
                simp only [List.take_succ_cons, List.take_zero, setAll, List.setIfInBounds_toArray, List.set_cons_succ, List.set_cons_zero, Nat.zero_add, Nat.reduceAdd] at hK ⊢
                refine wp_unguard ?_
                refine wp_of_quiet rfl ?_
                go_big_quiet_step (fail)
                exact wpQuiet_nil (hK _ _ rfl (Below.refl _ _))
              · intro f w1 hC hd KK hK
                have g5 : f 5 = _ := hd 5 rfl
                have g6 : f 6 = _ := hd 6 rfl
                simp only [List.take_succ_cons, List.take_zero, setAll, List.setIfInBounds_toArray, List.set_cons_succ, List.set_cons_zero, Nat.zero_add, Nat.reduceAdd, g5, g6] at hK ⊢
                refine wp_unguard ?_
                refine wp_of_quiet rfl ?_
                go_big_quiet_step (fail)
                exact wpQuiet_nil (hK _ _ rfl (Below.refl _ _))
              · intro f w1 hC hd KK hK
                have c8a := CellC.a (And.right (CB.out w1 hC.1))
                have c8b := CellC.b (And.right (CB.out w1 hC.1))
                have g7 : f 7 = _ := hd 7 rfl
                simp only [List.take_succ_cons, List.take_zero, setAll, List.setIfInBounds_toArray, List.set_cons_succ, List.set_cons_zero, Nat.zero_add, Nat.reduceAdd, g7] at hK ⊢
                refine wp_unguard ?_
                refine wp_of_quiet rfl ?_
                go_big_quiet_step (fail)
                exact wpQuiet_nil (hK _ _ rfl (Below.refl _ _))
              · intro f w1 hC hd KK hK
                simp only [List.take_succ_cons, List.take_zero, setAll, List.setIfInBounds_toArray, List.set_cons_succ, List.set_cons_zero, Nat.zero_add, Nat.reduceAdd] at hK ⊢
                refine wp_unguard ?_
                refine wp_of_quiet rfl ?_
                go_big_quiet_step (fail)
                exact wpQuiet_nil (hK _ _ rfl (Below.refl _ _))
              · intro f w1 hC hd KK hK
                simp only [List.take_succ_cons, List.take_zero, setAll, List.setIfInBounds_toArray, List.set_cons_succ, List.set_cons_zero, Nat.zero_add, Nat.reduceAdd] at hK ⊢
                refine wp_unguard ?_
                refine wp_of_quiet rfl ?_
                go_big_quiet_step (fail)
                exact wpQuiet_nil (hK _ _ rfl (Below.refl _ _))
              · intro f w1 hC hd KK hK
                have g10 : f 10 = _ := hd 10 rfl
                simp only [List.take_succ_cons, List.take_zero, setAll, List.setIfInBounds_toArray, List.set_cons_succ, List.set_cons_zero, Nat.zero_add, Nat.reduceAdd, g10] at hK ⊢
                refine wp_unguard ?_
                refine wp_of_quiet rfl ?_
                go_big_quiet_step (fail)
                exact wpQuiet_nil (hK _ _ rfl (Below.refl _ _))
              · intro f w1 hC hd KK hK
                have g9 : f 9 = _ := hd 9 rfl
                have g11 : f 11 = _ := hd 11 rfl
                simp only [List.take_succ_cons, List.take_zero, setAll, List.setIfInBounds_toArray, List.set_cons_succ, List.set_cons_zero, Nat.zero_add, Nat.reduceAdd, g9, g11] at hK ⊢
                refine wp_unguard ?_
                refine wp_of_quiet rfl ?_
                go_big_quiet_step (fail)
                exact wpQuiet_nil (hK _ _ rfl (Below.refl _ _))
              · intro f w1 hC hd KK hK
                have c13a := CellC.a (And.left (CB.out w1 hC.1))
                have c13b := CellC.b (And.left (CB.out w1 hC.1))
                have g12 : f 12 = _ := hd 12 rfl
                simp only [List.take_succ_cons, List.take_zero, setAll, List.setIfInBounds_toArray, List.set_cons_succ, List.set_cons_zero, Nat.zero_add, Nat.reduceAdd, g12] at hK ⊢
                refine wp_unguard ?_
                refine wp_of_quiet rfl ?_
                go_big_quiet_step (fail)
                exact wpQuiet_nil (hK _ _ rfl (Below.refl _ _))
              · intro f w1 hC hd KK hK
                have g4 : f 4 = _ := hd 4 rfl
                have g8 : f 8 = _ := hd 8 rfl
                have g13 : f 13 = _ := hd 13 rfl
                simp only [List.take_succ_cons, List.take_zero, setAll, List.setIfInBounds_toArray, List.set_cons_succ, List.set_cons_zero, Nat.zero_add, Nat.reduceAdd, g4, g8, g13] at hK ⊢
                exact wp_call 86 #[.agg #[.int .i64 x.1, .bool x.2], .agg #[.int .i64 p.1, .bool p.2]] (by simp [go_sem]) _ _ (hcc w1 hC.2) (fun w' hb => hK _ _ rfl hb)
              · intro f w1 hC hd KK hK
                have g14 : f 14 = _ := hd 14 rfl
                simp only [List.take_succ_cons, List.take_zero, setAll, List.setIfInBounds_toArray, List.set_cons_succ, List.set_cons_zero, Nat.zero_add, Nat.reduceAdd, g14] at hK ⊢
                refine wp_unguard ?_
                refine wp_of_quiet rfl ?_
                go_big_quiet_step (fail)
                exact wpQuiet_nil (hK _ _ rfl (Below.refl _ _))
              · intro f w1 hC hd KK hK
                have g3 : f 3 = _ := hd 3 rfl
                have g15 : f 15 = _ := hd 15 rfl
                simp only [List.take_succ_cons, List.take_zero, setAll, List.setIfInBounds_toArray, List.set_cons_succ, List.set_cons_zero, Nat.zero_add, Nat.reduceAdd, g3, g15] at hK ⊢
                refine wp_unguard ?_
                refine wp_of_quiet rfl ?_
                go_big_quiet_step (fail)
                exact wpQuiet_nil (hK _ _ rfl (Below.refl _ _))
            · intro f w1 hC hv
              have g0 : f 0 = _ := hv 0 (by decide)
              have g1 : f 1 = _ := hv 1 (by decide)
              have g2 : f 2 = _ := hv 2 (by decide)
              have g3 : f 3 = _ := hv 3 (by decide)
              have g4 : f 4 = _ := hv 4 (by decide)
              have g5 : f 5 = _ := hv 5 (by decide)
              have g6 : f 6 = _ := hv 6 (by decide)
              have g7 : f 7 = _ := hv 7 (by decide)
              have g8 : f 8 = _ := hv 8 (by decide)
              have g9 : f 9 = _ := hv 9 (by decide)
              have g10 : f 10 = _ := hv 10 (by decide)
              have g11 : f 11 = _ := hv 11 (by decide)
              have g12 : f 12 = _ := hv 12 (by decide)
              have g13 : f 13 = _ := hv 13 (by decide)
              have g14 : f 14 = _ := hv 14 (by decide)
              have g15 : f 15 = _ := hv 15 (by decide)
              have g16 : f 16 = _ := hv 16 (by decide)
              simp only [List.take_succ_cons, List.take_zero, List.drop_succ_cons, List.drop_zero, setAll, List.setIfInBounds_toArray, List.set_cons_succ, List.set_cons_zero, Nat.zero_add, Nat.reduceAdd, g0, g1, g2, g3, g4, g5, g6, g7, g8, g9, g10, g11, g12, g13, g14, g15, g16]
              clear g0 g1 g2 g3 g4 g5 g6 g7 g8 g9 g10 g11 g12 g13 g14 g15 g16 hv
              have s9 := hC.1
              have g9 := hC.2
              clear hcc CB hs hg hC
              have hend := ENDK.out w1 (by rw [HIN.out]; simpa using s9)
              clear ENDK HIN s9
              go_wp2_with fail
              exact ⟨⟨t + 1, .inr (by omega), by omega, by go_num, hend, g9⟩, by simp [intOf]; omega⟩
    · have hend : SegC wr g (A ++ (Gs.isr k X ++ Z)) := by
        have h1 : X.length ≤ t + 1 := by have := HA.out; have := HBB.out; omega
        rw [List.take_of_length_le h1, List.drop_of_length_le h1] at hs
        simpa using hs
      clear hs IT IL IS HS HCM HA HBB HNN IP
      go_wp2_with fail
      exact ⟨rfl, _, results93 _ _, rfl, hend, hg⟩
end Go.Proofs.Ytcjfaahlchbcmaa
