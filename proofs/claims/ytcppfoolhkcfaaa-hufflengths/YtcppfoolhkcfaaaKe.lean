/- The walk of insertionSort, for numbers. -/
import Derived.Test.YtcppfoolhkcfaaaKd
namespace Go.Proofs.Ytcppfoolhkcfaaa
open Go.RowKit Go.BigFrame

theorem results56 (T : Array Value) (w : World) : (results Try.f56 T).run Try.prog w = .ok (.tuple #[]) w := by
  unfold results
  simp [go_sem]
/-- The comparing of coming, as a value. -/
def cfI (pb : Nat) : Value := .func (.func 49) #[] #[.pointer (some ⟨pb, 0, none⟩)]
/-- What the comparing answers, wherever what lies below B is as it was. -/
def CmpI (B : Nat) (w0 : World) (pb : Nat) (k : Int → Int) (S : Int → Prop) : Prop :=
  ∀ W, Below B w0 W → ∀ x y, S x → S y → Calls Try.prog 49 #[.int .i64 x, .int .i64 y, .pointer (some ⟨pb, 0, none⟩)] W fun e w' => e = .returned (.int .i64 (sg (k x) (k y))) ∧ ∃ m, w' = W.drewN m

theorem ins_done (k : Int → Int) (P1 P2 : List Int) (x : Int) (hs : Gs.Srt k (P1 ++ P2)) (h2 : ∀ y ∈ P2, k x < k y) (h1 : P1 = [] ∨ ∃ Q p, P1 = Q ++ [p] ∧ ¬ k x < k p) : P1 ++ x :: P2 = Gs.mg k (P1 ++ P2) [x] := by
  rw [Gs.mg_one k P1 P2 x ?_ h2]
  intro y hy
  rcases h1 with rfl | ⟨Q, p, rfl, hp⟩
  · cases hy
  · rw [List.mem_append, List.mem_singleton] at hy
    rcases hy with hy | rfl
    · unfold Gs.Srt at hs
      rw [List.append_assoc, List.pairwise_append] at hs
      have := hs.2.2 y hy p (by simp)
      unfold Gs.le at this
      have := of_decide_eq_true this
      omega
    · omega

set_option maxRecDepth 100000 in
set_option maxHeartbeats 4000000 in
theorem insI_any (g c B pb : Nat) (w0 : World) (k : Int → Int) (S : Int → Prop) (hcmp : CmpI B w0 pb k S) (hB : B ≤ g) (hB0 : B ≤ w0.heap.size) (A X Z : List Int) (a b N : Nat) (hS : ∀ x ∈ X, S x) (ha : A.length = a) (hb : A.length + X.length = b) (hN : N = A.length + X.length + Z.length) (hN2 : N ≤ 4096) (w : World) (hbl : Below B w0 w) (h : SegI w g (A ++ (X ++ Z))) :
    Calls Try.prog 56 #[.slice (some ⟨g, 0, none⟩) N c, .int .i64 (a : Int), .int .i64 (b : Int), cfI pb] w fun e w' => e = .returned (.tuple #[]) ∧ SegI w' g (A ++ (Gs.isr k X ++ Z)) ∧ Gb g w w' := by
  have IT := Box'.mk (Gs.isr_take k X)
  have IL := Box'.mk (Gs.isr_len k)
  have IS := Box'.mk (Gs.isr_srt k)
  have HS := Box'.mk hS
  have HCM := Box'.mk hcmp
  have HA := Box'.mk ha
  have HBB := Box'.mk hb
  have HNN := Box'.mk hN
  have hab : a ≤ b := by omega
  have hbN : b ≤ N := by omega
  have IP : Box' (∀ l y, y ∈ Gs.isr k l → y ∈ l) := ⟨fun l y hy => (Gs.isr_perm k l).mem_iff.1 hy⟩
  have I1 : Box' (Gs.isr k (X.take 1) = X.take 1) := ⟨by
    cases X with
    | nil => rfl
    | cons x r => show Gs.isr k [x] = [x]; unfold Gs.isr; simp [Gs.nil_mg]⟩
  unfold cfI
  clear hcmp hS ha hb hN
  have hs0 : SegI w g (A ++ (Gs.isr k (X.take 1) ++ (X.drop 1 ++ Z))) := by
    rw [I1.out, ← List.append_assoc (X.take 1), List.take_append_drop]; exact h
  clear h I1
  go_enter Try.func56, Try.ntmps56
  go_wp2_with fail
  go_loopw [8] (fun i wr => ∃ t : Nat, (t = 0 ∨ t + 1 ≤ X.length) ∧ a + 1 + t ≤ 5000 ∧ i = .int .i64 ((a + 1 + t : Nat) : Int) ∧ SegI wr g (A ++ (Gs.isr k (X.take (t + 1)) ++ (X.drop (t + 1) ++ Z))) ∧ Gb g w wr) (fun i _ => b + 1 - (intOf i).toNat)
  case atStart => exact ⟨0, .inl rfl, by omega, by congr 1, hs0, Gb.refl _ _⟩
  case round =>
    clear hs0
    obtain ⟨t, ht, ht5, rfl, hs, hg⟩ := hrel
    by_cases hlt : a + 1 + t < b
    · have hx : t + 1 < X.length := by have := HA.out; have := HBB.out; omega
      have ITk := Box'.mk (IT.out (t + 1) hx)
      have hPs := IS.out (X.take (t + 1))
      have hPl : (Gs.isr k (X.take (t + 1))).length = t + 1 := by rw [IL.out, List.length_take]; omega
      have hSx : S X[t + 1] := HS.out _ (List.getElem_mem hx)
      have hSP : ∀ y ∈ Gs.isr k (X.take (t + 1)), S y := fun y hy => HS.out y (List.mem_of_mem_take (IP.out _ _ hy))
      have hdr : X.drop (t + 1) = X[t + 1] :: X.drop (t + 2) := List.drop_eq_getElem_cons hx
      rw [hdr] at hs
      have HD : Box' ((X.drop (t + 2)).length = X.length - (t + 2)) := ⟨List.length_drop⟩
      have XL : Box' (a + X.length = b) := ⟨by have := HA.out; have := HBB.out; omega⟩
      have NL : Box' (N = a + X.length + Z.length) := ⟨by have := HA.out; have := HNN.out; omega⟩
      generalize hP : Gs.isr k (X.take (t + 1)) = P at *
      generalize hxx : X[t + 1] = x at *
      have hs : SegI wr g (A ++ (P ++ x :: (X.drop (t + 2) ++ Z))) := by simpa using hs
      generalize hR : X.drop (t + 2) ++ Z = R at *
      have RL : Box' (N = a + (t + 2) + R.length) := ⟨by have := HD.out; have := NL.out; have := XL.out; rw [← hR, List.length_append]; omega⟩
      have HPS := Box'.mk hPs
      have HSP := Box'.mk hSP
      have HPL := Box'.mk hPl
      have ENDK : Box' (∀ W, SegI W g (A ++ (Gs.mg k P [x] ++ R)) → SegI W g (A ++ (Gs.isr k (X.take (t + 1 + 1)) ++ (X.drop (t + 1 + 1) ++ Z)))) := ⟨fun W hW => by
        rw [ITk.out, hR]; exact hW⟩
      clear IT IS IL HS IP ITk hPs hPl hSP hdr HD hP hxx hR HNN
      go_wp2_with fail
      go_loopw [9] (fun j wr => ∃ (jn : Nat) (P1 P2 : List Int), j = .int .i64 (jn : Int) ∧ a ≤ jn ∧ jn ≤ a + 1 + t ∧ Box' (jn = a + P1.length) ∧ Box' (P = P1 ++ P2) ∧ Box' (∀ y ∈ P2, k x < k y) ∧ SegI wr g (A ++ (P1 ++ x :: (P2 ++ R))) ∧ Gb g w wr) (fun j _ => (intOf j).toNat)
      case atStart => exact ⟨a + 1 + t, P, [], rfl, by omega, by omega, ⟨by have := HPL.out; omega⟩, ⟨by simp⟩, ⟨fun y hy => by cases hy⟩, by simpa using hs, hg⟩
      case round =>
        clear hs hg
        obtain ⟨jn, P1, P2, rfl, hj1, hj2, HJ, HP, HL, hs, hg⟩ := hrel
        by_cases hja : jn = a
        · have hP1 : P1 = [] := List.eq_nil_of_length_eq_zero (by have := HJ.out; omega)
          subst hP1 hja
          have hend := ENDK.out wr (by
            have := ins_done k [] P2 x (by have := HPS.out; rw [HP.out] at this; exact this) HL.out (.inl rfl)
            rw [HP.out, ← this]; simpa using hs)
          clear ENDK HPS HSP HPL HP HL HJ hs HCM RL
          go_wp2_with fail
          go_quiet (fail)
          go_wp2_with fail
          exact ⟨⟨t + 1, .inr (by omega), by omega, by go_num, hend.drewN nq, hg.drewN nq⟩, by simp [intOf]; omega⟩
        · obtain ⟨Q, p, hQ⟩ : ∃ Q p, P1 = Q ++ [p] := by
            rcases List.eq_nil_or_concat P1 with h | ⟨Q, p, h⟩
            · exfalso; subst h; have := HJ.out; simp at this; omega
            · exact ⟨Q, p, by rw [h, List.concat_eq_append]⟩
          subst hQ
          obtain ⟨q, rfl⟩ : ∃ q, jn = q + 1 := ⟨jn - 1, by omega⟩
          have hq : q = a + Q.length := by have := HJ.out; simp at this; omega
          have hql : (A ++ Q).length = q := by have := HA.out; simp; omega
          have hs' : SegI wr g ((A ++ Q) ++ p :: ([] ++ x :: (P2 ++ R))) := by simpa using hs
          have hPl2 : Q.length + 1 + P2.length = t + 1 := by have := HPL.out; rw [HP.out] at this; simp at this; omega
          have hlen : ((A ++ Q) ++ p :: ([] ++ x :: (P2 ++ R))).length = N := by have := RL.out; have := HA.out; simp; omega
          have c0 := hs'.cell (k := q) (by rw [hlen]; have := RL.out; omega)
          have c1 := hs'.cell (k := q + 1) (by rw [hlen]; have := RL.out; omega)
          rw [← hql, get_mid, hql] at c0
          rw [show (A ++ Q) ++ p :: ([] ++ x :: (P2 ++ R)) = ((A ++ Q) ++ [p]) ++ x :: (P2 ++ R) by simp, show q + 1 = ((A ++ Q) ++ [p]).length by rw [List.length_append, hql]; rfl, get_mid, show ((A ++ Q) ++ [p]).length = q + 1 by rw [List.length_append, hql]; rfl] at c1
          have f0 := hs'.frozen q
          have f1 := hs'.frozen (q + 1)
          have ja1 : a ≤ q := by omega
          have ja2 : a < q + 1 := by omega
          have ja3 : (a : Int) < (q : Int) + 1 := by omega
          have hqN : q + 1 < N := by have := RL.out; omega
          have hcm := HCM.out
          have hbw := hg.on hbl hB hB0
          have hcc : ∀ n, Calls Try.prog 49 #[.int .i64 x, .int .i64 p, .pointer (some ⟨pb, 0, none⟩)] (wr.drewN n) fun e w' => e = .returned (.int .i64 (sg (k x) (k p))) ∧ ∃ m, w' = (wr.drewN n).drewN m := fun n => hcm _ (Below.drewN hbw n) x p hSx (HSP.out p (by rw [HP.out]; simp))
          have hsg := sg_lt (k x) (k p)
          generalize sg (k x) (k p) = sv' at *
          by_cases hlt2 : k x < k p
          · have hs2 := hs'
            have HQL := Box'.mk hql
            have i1 : sv' < 0 := by have := decide_eq_true hlt2; rw [← hsg] at this; exact of_decide_eq_true this
            have HQ := Box'.mk hq
            clear hs hs' hlen hq hql hPl2 hsg hcm
            go_wp2_with fail
            go_quiet ((go_at_call 49; exact Calls.quiet_of (hcc _)))
            have hsq := hs2.drewN nq
            have hg3 := hg.drewN nq
            clear hs2
            generalize hwq : wr.drewN nq = wq at *
            have c0' : wq.cell? ⟨g, q, none⟩ = some (.int .i64 p) := by rw [← hwq]; exact c0
            have c1' : wq.cell? ⟨g, q + 1, none⟩ = some (.int .i64 x) := by rw [← hwq]; exact c1
            have f0' : wq.frozen? ⟨g, q, none⟩ = false := by rw [← hwq]; exact f0
            have f1' : wq.frozen? ⟨g, q + 1, none⟩ = false := by rw [← hwq]; exact f1
            clear c0 c1 f0 f1 hcc hwq
            go_wp2_with fail
            go_region
            go_wp2_with fail
            have hsw := hsq.swap' q (q + 1) HQL.out.symm (by rw [HQL.out]; rfl)
            have hg2 := (hg3.setCell (q + 1) (.int .i64 p)).setCell q (.int .i64 x)
            exact ⟨⟨q, Q, p :: P2, by go_num, by omega, by omega, HQ, ⟨by rw [HP.out]; simp⟩, ⟨fun y hy => by
              rcases List.mem_cons.1 hy with rfl | hy
              · exact hlt2
              · exact HL.out y hy⟩, by simpa using hsw.drew, hg2.drew⟩, by simp [intOf]⟩
          · have i1 : ¬ sv' < 0 := by have := decide_eq_false hlt2; rw [← hsg] at this; exact of_decide_eq_false this
            have hend := ENDK.out wr (by
              have := ins_done k (Q ++ [p]) P2 x (by have := HPS.out; rw [HP.out] at this; exact this) HL.out (.inr ⟨Q, p, rfl, hlt2⟩)
              rw [HP.out, ← this]; simpa using hs)
            clear hs hs' hlen hq hql hPl2 hsg hcm ENDK HPS HSP HPL HP HL HJ HCM RL hlt2
            go_wp2_with fail
            go_quiet ((go_at_call 49; exact Calls.quiet_of (hcc _)))
            go_wp2_with fail
            exact ⟨⟨t + 1, .inr (by omega), by omega, by go_num, hend.drewN nq, hg.drewN nq⟩, by simp [intOf]; omega⟩
    · have hend : SegI wr g (A ++ (Gs.isr k X ++ Z)) := by
        have h1 : X.length ≤ t + 1 := by have := HA.out; have := HBB.out; omega
        rw [List.take_of_length_le h1, List.drop_of_length_le h1] at hs
        simpa using hs
      clear hs IT IL IS HS HCM HA HBB HNN IP
      go_wp2_with fail
      exact ⟨rfl, _, results56 _ _, rfl, hend, hg⟩
end Go.Proofs.Ytcppfoolhkcfaaa
