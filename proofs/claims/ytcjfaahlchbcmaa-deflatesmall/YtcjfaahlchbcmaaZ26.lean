/- The walk of insertionSort, for numbers. -/
import Derived.Test.YtcjfaahlchbcmaaZ25
import Derived.Test.YtcjfaahlchbcmaaZ05
import Derived.Test.YtcjfaahlchbcmaaZ01
import Derived.Test.YtcjfaahlchbcmaaZ11
import Derived.Test.YtcjfaahlchbcmaaZ08
import Derived.Test.YtcjfaahlchbcmaaZ07
namespace Go.Proofs.Ytcjfaahlchbcmaa
open Go.RowKit Go.BigFrame

set_option maxRecDepth 100000 in
theorem results89 (T : Array Value) (w : World) : (results Try.f89 T).run Try.prog w = .ok (.tuple #[]) w := by
  unfold results
  simp [go_sem]
/-- The comparing of coming, as a value. -/
def cfI (pb : Nat) : Value := .func (.func 74) #[] #[.pointer (some ⟨pb, 0, none⟩)]
/-- What the comparing answers, wherever what lies below B is as it was. -/
def CmpI (B : Nat) (w0 : World) (pb : Nat) (k : Int → Int) (S : Int → Prop) : Prop :=
  ∀ W, Below B w0 W → ∀ x y, S x → S y → Calls Try.prog 74 #[.int .i64 x, .int .i64 y, .pointer (some ⟨pb, 0, none⟩)] W fun e w' => e = .returned (.int .i64 (sg (k x) (k y))) ∧ ∃ m, w' = W.drewN m

set_option maxRecDepth 100000 in
theorem ins_done (k : Int → Int) (P1 P2 : List Int) (x : Int) (hs : Gs.Srt k (P1 ++ P2)) (h2 : ∀ y ∈ P2, k x < k y) (h1 : P1 = [] ∨ ∃ Q p, P1 = Q ++ [p] ∧ ¬ k x < k p) : P1 ++ x :: P2 = Gs.mg k (P1 ++ P2) [x] := by
  rw [Gs.mg_one k P1 P2 x ?_ h2]
  intro y hy
  rcases h1 with rfl | ⟨Q, p, rfl, hp⟩
  · cases hy
  · rw [List.mem_append, List.mem_singleton] at hy
    rcases hy with hy | rfl
    · unfold Gs.Srt at hs
      rw [List.append_assoc, List.pairwise_append] at hs
      have := hs.2.2 y hy p (by simp)
      unfold Gs.le at this
      have := of_decide_eq_true this
      omega
    · omega

set_option maxRecDepth 100000 in
set_option maxHeartbeats 4000000 in
theorem insI_any (g c B pb : Nat) (w0 : World) (k : Int → Int) (S : Int → Prop) (hcmp : CmpI B w0 pb k S) (hB : B ≤ g) (hB0 : B ≤ w0.heap.size) (A X Z : List Int) (a b N : Nat) (hS : ∀ x ∈ X, S x) (ha : A.length = a) (hb : A.length + X.length = b) (hN : N = A.length + X.length + Z.length) (hN2 : N ≤ 4096) (w : World) (hbl : Below B w0 w) (h : SegI w g (A ++ (X ++ Z))) :
    Calls Try.prog 89 #[.slice (some ⟨g, 0, none⟩) N c, .int .i64 (a : Int), .int .i64 (b : Int), cfI pb] w fun e w' => e = .returned (.tuple #[]) ∧ SegI w' g (A ++ (Gs.isr k X ++ Z)) ∧ Gb g w w' := by
  have IT := Box'.mk (Gs.isr_take k X)
  have IL := Box'.mk (Gs.isr_len k)
  have IS := Box'.mk (Gs.isr_srt k)
  have HS := Box'.mk hS
  have HCM := Box'.mk hcmp
  have HA := Box'.mk ha
  have HBB := Box'.mk hb
  have HNN := Box'.mk hN
  have hab : a ≤ b := by omega
  have hbN : b ≤ N := by omega
  have IP : Box' (∀ l y, y ∈ Gs.isr k l → y ∈ l) := ⟨fun l y hy => (Gs.isr_perm k l).mem_iff.1 hy⟩
  have I1 : Box' (Gs.isr k (X.take 1) = X.take 1) := ⟨by
    cases X with
    | nil => rfl
    | cons x r => show Gs.isr k [x] = [x]; unfold Gs.isr; simp [Gs.nil_mg]⟩
  unfold cfI
  clear hcmp hS ha hb hN
  have hs0 : SegI w g (A ++ (Gs.isr k (X.take 1) ++ (X.drop 1 ++ Z))) := by
    rw [I1.out, ← List.append_assoc (X.take 1), List.take_append_drop]; exact h
  clear h I1
  go_enter Try.func89, Try.ntmps89
  go_wp2_with fail
  go_loopw [8] (fun i wr => ∃ t : Nat, (t = 0 ∨ t + 1 ≤ X.length) ∧ a + 1 + t ≤ 5000 ∧ i = .int .i64 ((a + 1 + t : Nat) : Int) ∧ SegI wr g (A ++ (Gs.isr k (X.take (t + 1)) ++ (X.drop (t + 1) ++ Z))) ∧ Gb g w wr) (fun i _ => b + 1 - (intOf i).toNat)
  case atStart => exact ⟨0, .inl rfl, by omega, by congr 1, hs0, Gb.refl _ _⟩
  case round =>
    clear hs0
    obtain ⟨t, ht, ht5, rfl, hs, hg⟩ := hrel
    by_cases hlt : a + 1 + t < b
    · have hx : t + 1 < X.length := by have := HA.out; have := HBB.out; omega
      have ITk := Box'.mk (IT.out (t + 1) hx)
      have hPs := IS.out (X.take (t + 1))
      have hPl : (Gs.isr k (X.take (t + 1))).length = t + 1 := by rw [IL.out, List.length_take]; omega
      have hSx : S X[t + 1] := HS.out _ (List.getElem_mem hx)
      have hSP : ∀ y ∈ Gs.isr k (X.take (t + 1)), S y := fun y hy => HS.out y (List.mem_of_mem_take (IP.out _ _ hy))
      have hdr : X.drop (t + 1) = X[t + 1] :: X.drop (t + 2) := List.drop_eq_getElem_cons hx
      rw [hdr] at hs
      have HD : Box' ((X.drop (t + 2)).length = X.length - (t + 2)) := ⟨List.length_drop⟩
      have XL : Box' (a + X.length = b) := ⟨by have := HA.out; have := HBB.out; omega⟩
      have NL : Box' (N = a + X.length + Z.length) := ⟨by have := HA.out; have := HNN.out; omega⟩
      generalize hP : Gs.isr k (X.take (t + 1)) = P at *
      generalize hxx : X[t + 1] = x at *
      have hs : SegI wr g (A ++ (P ++ x :: (X.drop (t + 2) ++ Z))) := by simpa using hs
      generalize hR : X.drop (t + 2) ++ Z = R at *
      have RL : Box' (N = a + (t + 2) + R.length) := ⟨by have := HD.out; have := NL.out; have := XL.out; rw [← hR, List.length_append]; omega⟩
      have HPS := Box'.mk hPs
      have HSP := Box'.mk hSP
      have HPL := Box'.mk hPl
      have ENDK : Box' (∀ W, SegI W g (A ++ (Gs.mg k P [x] ++ R)) → SegI W g (A ++ (Gs.isr k (X.take (t + 1 + 1)) ++ (X.drop (t + 1 + 1) ++ Z)))) := ⟨fun W hW => by
        rw [ITk.out, hR]; exact hW⟩
      clear IT IS IL HS IP ITk hPs hPl hSP hdr HD hP hxx hR HNN
      go_wp2_with fail
      go_loopw [9] (fun j wr => ∃ (jn : Nat) (P1 P2 : List Int), j = .int .i64 (jn : Int) ∧ a ≤ jn ∧ jn ≤ a + 1 + t ∧ Box' (jn = a + P1.length) ∧ Box' (P = P1 ++ P2) ∧ Box' (∀ y ∈ P2, k x < k y) ∧ SegI wr g (A ++ (P1 ++ x :: (P2 ++ R))) ∧ Gb g w wr) (fun j _ => (intOf j).toNat)
      case atStart => exact ⟨a + 1 + t, P, [], rfl, by omega, by omega, ⟨by have := HPL.out; omega⟩, ⟨by simp⟩, ⟨fun y hy => by cases hy⟩, by simpa using hs, hg⟩
      case round =>
        clear hs hg
        obtain ⟨jn, P1, P2, rfl, hj1, hj2, HJ, HP, HL, hs, hg⟩ := hrel
        by_cases hja : jn = a
        · have hP1 : P1 = [] := List.eq_nil_of_length_eq_zero (by have := HJ.out; omega)
          subst hP1 hja
          have hend := ENDK.out wr (by
            have := ins_done k [] P2 x (by have := HPS.out; rw [HP.out] at this; exact this) HL.out (.inl rfl)
            rw [HP.out, ← this]; simpa using hs)
          clear ENDK HPS HSP HPL HP HL HJ hs HCM RL
          go_wp2_with fail
          go_quiet (fail)
          go_wp2_with fail
          exact ⟨⟨t + 1, .inr (by omega), by omega, by go_num, hend.drewN nq, hg.drewN nq⟩, by simp [intOf]; omega⟩
        · obtain ⟨Q, p, hQ⟩ : ∃ Q p, P1 = Q ++ [p] := by
            rcases List.eq_nil_or_concat P1 with h | ⟨Q, p, h⟩
            · exfalso; subst h; have := HJ.out; simp at this; omega
            · exact ⟨Q, p, by rw [h, List.concat_eq_append]⟩
          subst hQ
          obtain ⟨q, rfl⟩ : ∃ q, jn = q + 1 := ⟨jn - 1, by omega⟩
          have hq : q = a + Q.length := by have := HJ.out; simp at this; omega
          have hql : (A ++ Q).length = q := by have := HA.out; simp; omega
          have hs' : SegI wr g ((A ++ Q) ++ p :: ([] ++ x :: (P2 ++ R))) := by simpa using hs
          have hPl2 : Q.length + 1 + P2.length = t + 1 := by have := HPL.out; rw [HP.out] at this; simp at this; omega
          have hlen : ((A ++ Q) ++ p :: ([] ++ x :: (P2 ++ R))).length = N := by have := RL.out; have := HA.out; simp; omega
          have c0 := hs'.cell (k := q) (by rw [hlen]; have := RL.out; omega)
          have c1 := hs'.cell (k := q + 1) (by rw [hlen]; have := RL.out; omega)
          rw [← hql, get_mid, hql] at c0
          rw [show (A ++ Q) ++ p :: ([] ++ x :: (P2 ++ R)) = ((A ++ Q) ++ [p]) ++ x :: (P2 ++ R) by simp, show q + 1 = ((A ++ Q) ++ [p]).length by rw [List.length_append, hql]; rfl, get_mid, show ((A ++ Q) ++ [p]).length = q + 1 by rw [List.length_append, hql]; rfl] at c1
          have f0 := hs'.frozen q
          have f1 := hs'.frozen (q + 1)
          have ja1 : a ≤ q := by omega
          have ja2 : a < q + 1 := by omega
          have ja3 : (a : Int) < (q : Int) + 1 := by omega
          have hqN : q + 1 < N := by have := RL.out; omega
          have hcm := HCM.out
          have hbw := hg.on hbl hB hB0
          have hcc : ∀ n, Calls Try.prog 74 #[.int .i64 x, .int .i64 p, .pointer (some ⟨pb, 0, none⟩)] (wr.drewN n) fun e w' => e = .returned (.int .i64 (sg (k x) (k p))) ∧ ∃ m, w' = (wr.drewN n).drewN m := fun n => hcm _ (Below.drewN hbw n) x p hSx (HSP.out p (by rw [HP.out]; simp))
          have hsg := sg_lt (k x) (k p)
          generalize sg (k x) (k p) = sv' at *
          by_cases hlt2 : k x < k p
          · have hs2 := hs'
            have HQL := Box'.mk hql
            have i1 : sv' < 0 := by have := decide_eq_true hlt2; rw [← hsg] at this; exact of_decide_eq_true this
            have HQ := Box'.mk hq
            clear hs hs' hlen hq hql hPl2 hsg hcm
            go_wp2_with fail
            go_quiet ((go_at_call 74; exact Calls.quiet_of (hcc _)))
            have hsq := hs2.drewN nq
            have hg3 := hg.drewN nq
            clear hs2
            generalize hwq : wr.drewN nq = wq at *
            have c0' : wq.cell? ⟨g, q, none⟩ = some (.int .i64 p) := by rw [← hwq]; exact c0
            have c1' : wq.cell? ⟨g, q + 1, none⟩ = some (.int .i64 x) := by rw [← hwq]; exact c1
            have f0' : wq.frozen? ⟨g, q, none⟩ = false := by rw [← hwq]; exact f0
            have f1' : wq.frozen? ⟨g, q + 1, none⟩ = false := by rw [← hwq]; exact f1
            clear c0 c1 f0 f1 hcc hwq
            go_wp2_with fail
            go_region
            go_wp2_with fail
            have hsw := hsq.swap' q (q + 1) HQL.out.symm (by rw [HQL.out]; rfl)
            have hg2 := (hg3.setCell (q + 1) (.int .i64 p)).setCell q (.int .i64 x)
            exact ⟨⟨q, Q, p :: P2, by go_num, by omega, by omega, HQ, ⟨by rw [HP.out]; simp⟩, ⟨fun y hy => by
              rcases List.mem_cons.1 hy with rfl | hy
              · exact hlt2
              · exact HL.out y hy⟩, by simpa using hsw.drew, hg2.drew⟩, by simp [intOf]⟩
          · have i1 : ¬ sv' < 0 := by have := decide_eq_false hlt2; rw [← hsg] at this; exact of_decide_eq_false this
            have hend := ENDK.out wr (by
              have := ins_done k (Q ++ [p]) P2 x (by have := HPS.out; rw [HP.out] at this; exact this) HL.out (.inr ⟨Q, p, rfl, hlt2⟩)
              rw [HP.out, ← this]; simpa using hs)
            clear hs hs' hlen hq hql hPl2 hsg hcm ENDK HPS HSP HPL HP HL HJ HCM RL hlt2
            go_wp2_with fail
            go_quiet ((go_at_call 74; exact Calls.quiet_of (hcc _)))
            go_wp2_with fail
            exact ⟨⟨t + 1, .inr (by omega), by omega, by go_num, hend.drewN nq, hg.drewN nq⟩, by simp [intOf]; omega⟩
    · have hend : SegI wr g (A ++ (Gs.isr k X ++ Z)) := by
        have h1 : X.length ≤ t + 1 := by have := HA.out; have := HBB.out; omega
        rw [List.take_of_length_le h1, List.drop_of_length_le h1] at hs
        simpa using hs
      clear hs IT IL IS HS HCM HA HBB HNN IP
      go_wp2_with fail
      exact ⟨rfl, _, results89 _ _, rfl, hend, hg⟩
end Go.Proofs.Ytcjfaahlchbcmaa

/- The walk of symMerge, for numbers, where one side is one number. -/
namespace Go.Proofs.Ytcjfaahlchbcmaa
open Go.RowKit Go.BigFrame

set_option maxRecDepth 100000 in
theorem results90 (T : Array Value) (w : World) : (results Try.f90 T).run Try.prog w = .ok (.tuple #[]) w := by
  unfold results
  simp [go_sem]
set_option maxRecDepth 100000 in
theorem getD_add {α : Type} (A R : List α) (u : Nat) (d : α) : (A ++ R).getD (A.length + u) d = R.getD u d := by
  simp [List.getD_eq_getElem?_getD, List.getElem?_append_right]
set_option maxRecDepth 100000 in
theorem getD_left {α : Type} (X R : List α) (u : Nat) (d : α) (h : u < X.length) : (X ++ R).getD u d = X.getD u d := by
  simp [List.getD_eq_getElem?_getD, List.getElem?_append_left h]
set_option maxRecDepth 100000 in
theorem srt_get (k : Int → Int) (Y : List Int) (h : Gs.Srt k Y) (u v : Nat) (huv : u ≤ v) (hv : v < Y.length) : k (Y.getD u 0) ≤ k (Y.getD v 0) := by
  rcases Nat.lt_or_ge u v with h1 | h1
  · have := List.pairwise_iff_getElem.1 h u v (by omega) hv h1
    unfold Gs.le at this
    have := of_decide_eq_true this
    simpa [hv, Nat.lt_of_lt_of_le h1 (Nat.le_of_lt hv)] using this
  · have : u = v := by omega
    subst this; exact Int.le_refl _
set_option maxRecDepth 100000 in
theorem mem_take_get {Y : List Int} {n : Nat} {y : Int} (h : y ∈ Y.take n) : ∃ u, u < n ∧ u < Y.length ∧ Y.getD u 0 = y := by
  obtain ⟨u, hu, rfl⟩ := List.getElem_of_mem h
  rw [List.length_take] at hu
  exact ⟨u, by omega, by omega, by simp [show u < Y.length by omega]⟩
set_option maxRecDepth 100000 in
theorem mem_drop_get {Y : List Int} {n : Nat} {y : Int} (h : y ∈ Y.drop n) : ∃ u, n ≤ u ∧ u < Y.length ∧ Y.getD u 0 = y := by
  obtain ⟨u, hu, rfl⟩ := List.getElem_of_mem h
  rw [List.length_drop] at hu
  exact ⟨n + u, by omega, by omega, by simp [show n + u < Y.length by omega]⟩
set_option maxRecDepth 100000 in
theorem one_left (k : Int → Int) (Y : List Int) (x : Int) (n : Nat) (h1 : ∀ u, u < n → k (Y.getD u 0) < k x) (h2 : ∀ u, n ≤ u → u < Y.length → k x ≤ k (Y.getD u 0)) : Gs.mg k [x] Y = Y.take n ++ x :: Y.drop n := by
  have := Gs.mg_split k [] (Y.take n) [x] (Y.drop n) (fun x hx => by cases hx) (fun y hy z hz => by
    rw [List.mem_singleton] at hz; subst hz
    obtain ⟨u, hu, _, rfl⟩ := mem_take_get hy
    exact h1 u hu)
  rw [List.nil_append, List.take_append_drop, Gs.nil_mg] at this
  rw [this, Gs.mg_app k [x] (Y.drop n) (fun z hz y hy => by
    rw [List.mem_singleton] at hz; subst hz
    obtain ⟨u, hu, hl, rfl⟩ := mem_drop_get hy
    exact h2 u hu hl)]
  rfl
set_option maxRecDepth 100000 in
theorem one_right (k : Int → Int) (X : List Int) (y : Int) (n : Nat) (h1 : ∀ u, u < n → k (X.getD u 0) ≤ k y) (h2 : ∀ u, n ≤ u → u < X.length → k y < k (X.getD u 0)) : Gs.mg k X [y] = X.take n ++ y :: X.drop n := by
  have := Gs.mg_one k (X.take n) (X.drop n) y (fun z hz => by
    obtain ⟨u, hu, _, rfl⟩ := mem_take_get hz
    exact h1 u hu) (fun z hz => by
    obtain ⟨u, hu, hl, rfl⟩ := mem_drop_get hz
    exact h2 u hu hl)
  rwa [List.take_append_drop] at this

set_option maxRecDepth 100000 in
set_option maxHeartbeats 4000000 in
theorem symI_left (g c B pb : Nat) (w0 : World) (k : Int → Int) (S : Int → Prop) (hcmp : CmpI B w0 pb k S) (hB : B ≤ g) (hB0 : B ≤ w0.heap.size) (A : List Int) (x : Int) (Y Z : List Int) (a m b N : Nat) (hx : S x) (hS : ∀ y ∈ Y, S y) (hY : Gs.Srt k Y) (ha : A.length = a) (hm : a + 1 = m) (hb : m + Y.length = b) (hN : N = b + Z.length) (hN2 : N ≤ 4096) (w : World) (hbl : Below B w0 w) (h : SegI w g (A ++ ([x] ++ (Y ++ Z)))) :
    Calls Try.prog 90 #[.slice (some ⟨g, 0, none⟩) N c, .int .i64 (a : Int), .int .i64 (m : Int), .int .i64 (b : Int), cfI pb] w fun e w' => e = .returned (.tuple #[]) ∧ SegI w' g (A ++ (Gs.mg k [x] Y ++ Z)) ∧ Gb g w w' := by
  have HSY : Box' (∀ u, u < Y.length → S (Y.getD u 0)) := ⟨fun u hu => hS _ (by simp [hu])⟩
  have HYS := Box'.mk (srt_get k Y hY)
  have HCM := Box'.mk hcmp
  have CEL : Box' (∀ W, SegI W g (A ++ ([x] ++ (Y ++ Z))) → ∀ u, u < Y.length → W.cell? ⟨g, m + u, none⟩ = some (.int .i64 (Y.getD u 0))) := ⟨fun W hW u hu => by
    have := hW.cell (k := m + u) (by simp; omega)
    rw [show m + u = A.length + (1 + u) by omega, getD_add, show (1 + u) = [x].length + u from rfl, getD_add, getD_left _ _ _ _ hu] at this
    rw [show A.length + ([x].length + u) = m + u by simp; omega] at this
    exact this⟩
  have CEX : Box' (∀ W, SegI W g (A ++ ([x] ++ (Y ++ Z))) → W.cell? ⟨g, a, none⟩ = some (.int .i64 x)) := ⟨fun W hW => by
    have := hW.cell (k := a) (by simp; omega)
    rw [← ha, show ([x] ++ (Y ++ Z)) = x :: (Y ++ Z) from rfl, get_mid, ha] at this
    exact this⟩
  have DONE : Box' (∀ n, (∀ u, u < n → k (Y.getD u 0) < k x) → (∀ u, n ≤ u → u < Y.length → k x ≤ k (Y.getD u 0)) → Gs.mg k [x] Y = Y.take n ++ x :: Y.drop n) := ⟨one_left k Y x⟩
  have YL : Box' (m + Y.length = b) := ⟨hb⟩
  have AL : Box' (A.length = a) := ⟨ha⟩
  have NL : Box' (N = b + Z.length) := ⟨hN⟩
  have hmb : m ≤ b := by omega
  have hbN : b ≤ N := by omega
  unfold cfI
  have hm0 : ((m : Int) - (a : Int) == 1) = true := by rw [beq_iff_eq]; omega
  have hm1 : a + 1 ≤ m := by omega
  have hm2 : m ≤ a + 1 := by omega
  clear hcmp hS hY ha hb hN hm
  go_enter Try.func90, Try.ntmps90
  go_wp2_with fail
  go_loopw [10, 11] (fun u v wr => ∃ i j : Nat, u = .int .i64 (i : Int) ∧ v = .int .i64 (j : Int) ∧ m ≤ i ∧ i ≤ j ∧ j ≤ b ∧ Box' (∀ u, u < i - m → k (Y.getD u 0) < k x) ∧ Box' (∀ u, j - m ≤ u → u < Y.length → k x ≤ k (Y.getD u 0)) ∧ SegI wr g (A ++ ([x] ++ (Y ++ Z))) ∧ Gb g w wr) (fun u v _ => (intOf v).toNat - (intOf u).toNat)
  case atStart => exact ⟨m, b, rfl, rfl, by omega, by omega, by omega, ⟨fun u hu => by omega⟩, ⟨fun u hu hl => by have := YL.out; omega⟩, h, Gb.refl _ _⟩
  case round =>
    clear h
    obtain ⟨i, j, rfl, rfl, h1, h2, h3, L1, L2, hs, hg⟩ := hrel
    by_cases hij : i < j
    · have hh : (i + j) / 2 - m < Y.length := by have := YL.out; omega
      have c0 := CEL.out wr hs ((i + j) / 2 - m) hh
      rw [show m + ((i + j) / 2 - m) = (i + j) / 2 by omega] at c0
      have c1 := CEX.out wr hs
      have hbw := hg.on hbl hB hB0
      have hcc : ∀ n, Calls Try.prog 74 #[.int .i64 (Y.getD ((i + j) / 2 - m) 0), .int .i64 x, .pointer (some ⟨pb, 0, none⟩)] (wr.drewN n) fun e w' => e = .returned (.int .i64 (sg (k (Y.getD ((i + j) / 2 - m) 0)) (k x))) ∧ ∃ m, w' = (wr.drewN n).drewN m := fun n => HCM.out _ (Below.drewN hbw n) _ _ (HSY.out _ hh) hx
      have hsg := sg_lt (k (Y.getD ((i + j) / 2 - m) 0)) (k x)
      have up1 : k (Y.getD ((i + j) / 2 - m) 0) < k x → Box' (∀ u, u < (i + j) / 2 + 1 - m → k (Y.getD u 0) < k x) := fun hlt => ⟨fun u hu => by
        have := HYS.out u ((i + j) / 2 - m) (by omega) hh; omega⟩
      have up2 : ¬ k (Y.getD ((i + j) / 2 - m) 0) < k x → Box' (∀ u, (i + j) / 2 - m ≤ u → u < Y.length → k x ≤ k (Y.getD u 0)) := fun hlt => ⟨fun u hu hl => by
        have := HYS.out ((i + j) / 2 - m) u hu hl; omega⟩
      have UP1 := Box'.mk up1
      have UP2 := Box'.mk up2
      have hiN : (i + j) / 2 < N := by omega
      generalize sg (k (Y.getD ((i + j) / 2 - m) 0)) (k x) = sv' at *
      by_cases hlt : k (Y.getD ((i + j) / 2 - m) 0) < k x
      · have U := UP1.out hlt
        have i1 : sv' < 0 := by have := decide_eq_true hlt; rw [← hsg] at this; exact of_decide_eq_true this
        generalize Y.getD ((i + j) / 2 - m) 0 = yh at *
        clear HSY HYS HCM CEL CEX DONE YL AL NL hsg up1 up2 UP1 UP2 hh L1 hlt
        go_wp2_with fail
        go_quiet ((go_at_call 74; exact Calls.quiet_of (hcc _)))
        go_wp2_with fail
        exact ⟨⟨(i + j) / 2 + 1, j, by go_num, rfl, by omega, by omega, by omega, U, L2, hs.drewN nq, hg.drewN nq⟩, by simp [intOf]; omega⟩
      · have U := UP2.out hlt
        have i1 : ¬ sv' < 0 := by have := decide_eq_false hlt; rw [← hsg] at this; exact of_decide_eq_false this
        generalize Y.getD ((i + j) / 2 - m) 0 = yh at *
        clear HSY HYS HCM CEL CEX DONE YL AL NL hsg up1 up2 UP1 UP2 hh L2 hlt
        go_wp2_with fail
        go_quiet ((go_at_call 74; exact Calls.quiet_of (hcc _)))
        go_wp2_with fail
        exact ⟨⟨i, (i + j) / 2, rfl, by go_num, by omega, by omega, by omega, L1, U, hs.drewN nq, hg.drewN nq⟩, by simp [intOf]; omega⟩
    · obtain rfl : i = j := by omega
      have hD := DONE.out (i - m) L1.out L2.out
      have HD : Box' (∀ W, SegI W g (A ++ (Y.take (i - m) ++ x :: (Y.drop (i - m) ++ Z))) → SegI W g (A ++ (Gs.mg k [x] Y ++ Z))) := ⟨fun W hW => by rw [hD]; simpa using hW⟩
      have hY1 : (Y.take (i - m)).length = i - m := by rw [List.length_take]; have := YL.out; omega
      have HY1 := Box'.mk hY1
      have hs2 : SegI wr g (A ++ ([] ++ x :: (Y.take (i - m) ++ (Y.drop (i - m) ++ Z)))) := by
        rw [← List.append_assoc (Y.take _), List.take_append_drop]; simpa using hs
      have hZL : Box' ((Y.drop (i - m) ++ Z).length = N - i) := ⟨by rw [List.length_append, List.length_drop]; have := YL.out; have := NL.out; omega⟩
      generalize Y.take (i - m) = Y1 at *
      generalize Y.drop (i - m) ++ Z = R at *
      clear HSY HYS HCM CEL CEX DONE YL NL L1 L2 hs hD hY1
      go_wp2_with fail
      go_loopw [13] (fun u wr => ∃ (q : Nat) (U1 U2 : List Int), u = .int .i64 (q : Int) ∧ a ≤ q ∧ q ≤ i - 1 ∧ Box' (q = a + U1.length) ∧ Box' (Y1 = U1 ++ U2) ∧ SegI wr g (A ++ (U1 ++ x :: (U2 ++ R))) ∧ Gb g w wr) (fun u _ => i - (intOf u).toNat)
      case atStart => exact ⟨a, [], Y1, rfl, by omega, by omega, ⟨rfl⟩, ⟨rfl⟩, hs2, hg⟩
      case round =>
        clear hs2 hg
        obtain ⟨q, U1, U2, rfl, q1, q2, HQ, HU, hs, hg⟩ := hrel
        by_cases hlt : q < i - 1
        · obtain ⟨y, U2', hU2⟩ : ∃ y U2', U2 = y :: U2' := by
            cases U2 with
            | nil => exfalso; have := HU.out; have := HY1.out; have := HQ.out; simp_all; omega
            | cons y r => exact ⟨y, r, rfl⟩
          subst hU2
          have hql : (A ++ U1).length = q := by have := AL.out; have := HQ.out; simp; omega
          have hs' : SegI wr g ((A ++ U1) ++ x :: ([] ++ y :: (U2' ++ R))) := by simpa using hs
          have hlen : q + 1 < ((A ++ U1) ++ x :: ([] ++ y :: (U2' ++ R))).length := by rw [List.length_append, hql]; simp
          have c0 := hs'.cell (k := q) (by omega)
          have c1 := hs'.cell (k := q + 1) hlen
          rw [← hql, get_mid, hql] at c0
          rw [show (A ++ U1) ++ x :: ([] ++ y :: (U2' ++ R)) = ((A ++ U1) ++ [x]) ++ y :: (U2' ++ R) by simp, show q + 1 = ((A ++ U1) ++ [x]).length by rw [List.length_append, hql]; rfl, get_mid, show ((A ++ U1) ++ [x]).length = q + 1 by rw [List.length_append, hql]; rfl] at c1
          have f0 := hs'.frozen q
          have f1 := hs'.frozen (q + 1)
          have hsw := hs'.swap q (q + 1) hql.symm (by rw [hql]; rfl)
          have hg2 := (hg.setCell q (.int .i64 y)).setCell (q + 1) (.int .i64 x)
          have hqN : q + 1 < N := by omega
          clear hs hs' hlen hql HD
          go_wp2_with fail
          go_region
          go_wp2_with fail
          exact ⟨⟨q + 1, U1 ++ [y], U2', by go_num, by omega, by omega, ⟨by have := HQ.out; simp; omega⟩, ⟨by rw [HU.out]; simp⟩, by simpa using hsw.drew, hg2.drew⟩, by simp [intOf]; omega⟩
        · have hU2 : U2 = [] := by
            have h1 := HU.out; have h2 := HY1.out; have h3 := HQ.out
            rw [h1, List.length_append] at h2
            exact List.eq_nil_of_length_eq_zero (by omega)
          subst hU2
          have hend := HD.out wr (by have h1 := HU.out; rw [List.append_nil] at h1; rw [h1]; simpa using hs)
          clear hs HD HU HQ HY1 hZL
          go_wp2_with fail
          exact ⟨rfl, _, results90 _ _, rfl, hend, hg⟩
end Go.Proofs.Ytcjfaahlchbcmaa

/- The walk of symMerge, for numbers, where the right side is one number. -/
namespace Go.Proofs.Ytcjfaahlchbcmaa
open Go.RowKit Go.BigFrame

set_option maxRecDepth 100000 in
set_option maxHeartbeats 4000000 in
theorem symI_right (g c B pb : Nat) (w0 : World) (k : Int → Int) (S : Int → Prop) (hcmp : CmpI B w0 pb k S) (hB : B ≤ g) (hB0 : B ≤ w0.heap.size) (A : List Int) (y : Int) (X Z : List Int) (a m b N : Nat) (hy : S y) (hS : ∀ x ∈ X, S x) (hX : Gs.Srt k X) (ha : A.length = a) (hm : a + X.length = m) (hX2 : 2 ≤ X.length) (hb : m + 1 = b) (hN : N = b + Z.length) (hN2 : N ≤ 4096) (w : World) (hbl : Below B w0 w) (h : SegI w g (A ++ (X ++ ([y] ++ Z)))) :
    Calls Try.prog 90 #[.slice (some ⟨g, 0, none⟩) N c, .int .i64 (a : Int), .int .i64 (m : Int), .int .i64 (b : Int), cfI pb] w fun e w' => e = .returned (.tuple #[]) ∧ SegI w' g (A ++ (Gs.mg k X [y] ++ Z)) ∧ Gb g w w' := by
  have HSX : Box' (∀ u, u < X.length → S (X.getD u 0)) := ⟨fun u hu => hS _ (by simp [hu])⟩
  have HXS := Box'.mk (srt_get k X hX)
  have HCM := Box'.mk hcmp
  have CEL : Box' (∀ W, SegI W g (A ++ (X ++ ([y] ++ Z))) → ∀ u, u < X.length → W.cell? ⟨g, a + u, none⟩ = some (.int .i64 (X.getD u 0))) := ⟨fun W hW u hu => by
    have := hW.cell (k := a + u) (by simp; omega)
    rw [← ha, getD_add, getD_left _ _ _ _ hu, ha] at this
    exact this⟩
  have CEY : Box' (∀ W, SegI W g (A ++ (X ++ ([y] ++ Z))) → W.cell? ⟨g, m, none⟩ = some (.int .i64 y)) := ⟨fun W hW => by
    have := hW.cell (k := m) (by simp; omega)
    rw [show m = A.length + (X.length + 0) by omega, getD_add, getD_add] at this
    rw [show A.length + (X.length + 0) = m by omega] at this
    exact this⟩
  have DONE : Box' (∀ n, (∀ u, u < n → k (X.getD u 0) ≤ k y) → (∀ u, n ≤ u → u < X.length → k y < k (X.getD u 0)) → Gs.mg k X [y] = X.take n ++ y :: X.drop n) := ⟨one_right k X y⟩
  have XL : Box' (a + X.length = m) := ⟨hm⟩
  have AL : Box' (A.length = a) := ⟨ha⟩
  have NL : Box' (N = b + Z.length) := ⟨hN⟩
  have ham : a + 2 ≤ m := by omega
  have hbN : b ≤ N := by omega
  unfold cfI
  have hm0 : ((m : Int) - (a : Int) == 1) = false := by rw [beq_eq_false_iff_ne]; omega
  have hb0 : ((b : Int) - (m : Int) == 1) = true := by rw [beq_iff_eq]; omega
  have hb1 : m + 1 ≤ b := by omega
  have hb2 : b ≤ m + 1 := by omega
  clear hcmp hS hX ha hb hN hm hX2
  go_enter Try.func90, Try.ntmps90
  go_wp2_with fail
  go_loopw [14, 15] (fun u v wr => ∃ i j : Nat, u = .int .i64 (i : Int) ∧ v = .int .i64 (j : Int) ∧ a ≤ i ∧ i ≤ j ∧ j ≤ m ∧ Box' (∀ u, u < i - a → k (X.getD u 0) ≤ k y) ∧ Box' (∀ u, j - a ≤ u → u < X.length → k y < k (X.getD u 0)) ∧ SegI wr g (A ++ (X ++ ([y] ++ Z))) ∧ Gb g w wr) (fun u v _ => (intOf v).toNat - (intOf u).toNat)
  case atStart => exact ⟨a, m, rfl, rfl, by omega, by omega, by omega, ⟨fun u hu => by omega⟩, ⟨fun u hu hl => by have := XL.out; omega⟩, h, Gb.refl _ _⟩
  case round =>
    clear h
    obtain ⟨i, j, rfl, rfl, h1, h2, h3, L1, L2, hs, hg⟩ := hrel
    by_cases hij : i < j
    · have hh : (i + j) / 2 - a < X.length := by have := XL.out; omega
      have c0 := CEL.out wr hs ((i + j) / 2 - a) hh
      rw [show a + ((i + j) / 2 - a) = (i + j) / 2 by omega] at c0
      have c1 := CEY.out wr hs
      have hbw := hg.on hbl hB hB0
      have hcc : ∀ n, Calls Try.prog 74 #[.int .i64 y, .int .i64 (X.getD ((i + j) / 2 - a) 0), .pointer (some ⟨pb, 0, none⟩)] (wr.drewN n) fun e w' => e = .returned (.int .i64 (sg (k y) (k (X.getD ((i + j) / 2 - a) 0)))) ∧ ∃ m, w' = (wr.drewN n).drewN m := fun n => HCM.out _ (Below.drewN hbw n) _ _ hy (HSX.out _ hh)
      have hsg := sg_lt (k y) (k (X.getD ((i + j) / 2 - a) 0))
      have up1 : ¬ k y < k (X.getD ((i + j) / 2 - a) 0) → Box' (∀ u, u < (i + j) / 2 + 1 - a → k (X.getD u 0) ≤ k y) := fun hlt => ⟨fun u hu => by
        have := HXS.out u ((i + j) / 2 - a) (by omega) hh; omega⟩
      have up2 : k y < k (X.getD ((i + j) / 2 - a) 0) → Box' (∀ u, (i + j) / 2 - a ≤ u → u < X.length → k y < k (X.getD u 0)) := fun hlt => ⟨fun u hu hl => by
        have := HXS.out ((i + j) / 2 - a) u hu hl; omega⟩
      have UP1 := Box'.mk up1
      have UP2 := Box'.mk up2
      have hiN : (i + j) / 2 < N := by omega
      have hmN : m < N := by omega
      generalize sg (k y) (k (X.getD ((i + j) / 2 - a) 0)) = sv' at *
      by_cases hlt : k y < k (X.getD ((i + j) / 2 - a) 0)
      · have U := UP2.out hlt
        have i1 : sv' < 0 := by have := decide_eq_true hlt; rw [← hsg] at this; exact of_decide_eq_true this
        have i2 : (!decide (sv' < 0)) = false := by rw [decide_eq_true i1]; rfl
        generalize X.getD ((i + j) / 2 - a) 0 = xh at *
        clear HSX HXS HCM CEL CEY DONE XL AL NL hsg up1 up2 UP1 UP2 hh L2 hlt
        go_wp2_with fail
        go_quiet ((go_at_call 74; exact Calls.quiet_of (hcc _)))
        go_wp2_with fail
        exact ⟨⟨i, (i + j) / 2, rfl, by go_num, by omega, by omega, by omega, L1, U, hs.drewN nq, hg.drewN nq⟩, by simp [intOf]; omega⟩
      · have U := UP1.out hlt
        have i1 : ¬ sv' < 0 := by have := decide_eq_false hlt; rw [← hsg] at this; exact of_decide_eq_false this
        have i2 : (!decide (sv' < 0)) = true := by rw [decide_eq_false i1]; rfl
        generalize X.getD ((i + j) / 2 - a) 0 = xh at *
        clear HSX HXS HCM CEL CEY DONE XL AL NL hsg up1 up2 UP1 UP2 hh L1 hlt
        go_wp2_with fail
        go_quiet ((go_at_call 74; exact Calls.quiet_of (hcc _)))
        go_wp2_with fail
        exact ⟨⟨(i + j) / 2 + 1, j, by go_num, rfl, by omega, by omega, by omega, U, L2, hs.drewN nq, hg.drewN nq⟩, by simp [intOf]; omega⟩
    · obtain rfl : i = j := by omega
      have hD := DONE.out (i - a) L1.out L2.out
      have HD : Box' (∀ W, SegI W g (A ++ (X.take (i - a) ++ y :: (X.drop (i - a) ++ Z))) → SegI W g (A ++ (Gs.mg k X [y] ++ Z))) := ⟨fun W hW => by rw [hD]; simpa using hW⟩
      have hX1 : (X.take (i - a)).length = i - a := by rw [List.length_take]; have := XL.out; omega
      have hX2 : (X.drop (i - a)).length = m - i := by rw [List.length_drop]; have := XL.out; omega
      have HX1 := Box'.mk hX1
      have HX2 := Box'.mk hX2
      have hs2 : SegI wr g (A ++ (X.take (i - a) ++ (X.drop (i - a) ++ y :: ([] ++ Z)))) := by
        rw [← List.append_assoc (X.take _), List.take_append_drop]; simpa using hs
      have XT := Box'.mk (List.take_append_drop (i - a) X)
      generalize X.take (i - a) = X1 at *
      generalize X.drop (i - a) = X2 at *
      clear HSX HXS HCM CEL CEY DONE XL L1 L2 hs hD hX1 hX2 XT
      go_wp2_with fail
      go_loopw [17] (fun u wr => ∃ (q : Nat) (U1 U2 : List Int), u = .int .i64 (q : Int) ∧ i ≤ q ∧ q ≤ m ∧ Box' (q = i + U1.length) ∧ Box' (X2 = U1 ++ U2) ∧ SegI wr g (A ++ (X1 ++ (U1 ++ y :: (U2 ++ Z)))) ∧ Gb g w wr) (fun u _ => (intOf u).toNat)
      case atStart => exact ⟨m, X2, [], rfl, by omega, by omega, ⟨by have := HX2.out; omega⟩, ⟨by simp⟩, hs2, hg⟩
      case round =>
        clear hs2 hg
        obtain ⟨q, U1, U2, rfl, q1, q2, HQ, HU, hs, hg⟩ := hrel
        by_cases hlt : i < q
        · obtain ⟨Q, p, hQ⟩ : ∃ Q p, U1 = Q ++ [p] := by
            rcases List.eq_nil_or_concat U1 with h | ⟨Q, p, h⟩
            · exfalso; subst h; have := HQ.out; simp at this; omega
            · exact ⟨Q, p, by rw [h, List.concat_eq_append]⟩
          subst hQ
          obtain ⟨q, rfl⟩ : ∃ r, q = r + 1 := ⟨q - 1, by omega⟩
          have hql : (A ++ (X1 ++ Q)).length = q := by have := AL.out; have := HQ.out; have := HX1.out; simp at *; omega
          have hs' : SegI wr g ((A ++ (X1 ++ Q)) ++ p :: ([] ++ y :: (U2 ++ Z))) := by simpa using hs
          have hlen : q + 1 < ((A ++ (X1 ++ Q)) ++ p :: ([] ++ y :: (U2 ++ Z))).length := by rw [List.length_append, hql]; simp
          have c0 := hs'.cell (k := q) (by omega)
          have c1 := hs'.cell (k := q + 1) hlen
          rw [← hql, get_mid, hql] at c0
          rw [show (A ++ (X1 ++ Q)) ++ p :: ([] ++ y :: (U2 ++ Z)) = ((A ++ (X1 ++ Q)) ++ [p]) ++ y :: (U2 ++ Z) by simp, show q + 1 = ((A ++ (X1 ++ Q)) ++ [p]).length by rw [List.length_append, hql]; rfl, get_mid, show ((A ++ (X1 ++ Q)) ++ [p]).length = q + 1 by rw [List.length_append, hql]; rfl] at c1
          have f0 := hs'.frozen q
          have f1 := hs'.frozen (q + 1)
          have hsw := hs'.swap' q (q + 1) hql.symm (by rw [hql]; rfl)
          have hg2 := (hg.setCell (q + 1) (.int .i64 p)).setCell q (.int .i64 y)
          have hqN : q + 1 < N := by omega
          have HQ2 : Box' (q = i + Q.length) := ⟨by have := HQ.out; simp at this; omega⟩
          clear hs hs' hlen hql HD HQ
          go_wp2_with fail
          go_region
          go_wp2_with fail
          exact ⟨⟨q, Q, p :: U2, by go_num, by omega, by omega, HQ2, ⟨by rw [HU.out]; simp⟩, by simpa using hsw.drew, hg2.drew⟩, by simp [intOf]⟩
        · have hU1 : U1 = [] := List.eq_nil_of_length_eq_zero (by have := HQ.out; omega)
          subst hU1
          have hend := HD.out wr (by have h1 := HU.out; rw [List.nil_append] at h1; rw [h1]; simpa using hs)
          clear hs HD HU HQ HX1 HX2
          go_wp2_with fail
          exact ⟨rfl, _, results90 _ _, rfl, hend, hg⟩
end Go.Proofs.Ytcjfaahlchbcmaa
