/- The walk of the reference's Clean. -/
import Derived.Test.YtepepoabbbjmgaaKa
import Derived.Test.YtepepoabbbjmgaaU
namespace Go.Proofs.Ytepepoabbbjmgaa
open Go.RowKit Go.BigFrame
set_option linter.unusedSimpArgs false
set_option linter.unusedVariables false

theorem Bts.at1 {S : Nat → Prop} {w : World} {v : Value} {l : List UInt8} (h : Bts S w v l) {k : Nat} (hk : k < l.length) : ∃ b o c, v = .slice (some ⟨b, o, none⟩) l.length c ∧ S b ∧ w.cell? ⟨b, o + k, none⟩ = some (.int .u8 ((l.getD k 0).toNat : Int)) := by
  obtain ⟨a, c, rfl, hc, h3⟩ := h
  rcases h3 with rfl | ⟨b, o, rfl, hS, hr⟩
  · simp at hk
  · exact ⟨b, o, c, rfl, hS, hr k _ (by simp [hk]; rfl)⟩
/-- A byte, laid down, and put behind one's own. -/
theorem one_by (w : World) (x : UInt8) : InB (w.heap.size + 1) (w.alloc (.cells #[.int .u8 (x.toNat : Int)] 5)) (.slice (some ⟨w.heap.size, 0, none⟩) 1 1) [x] := by
  have := one_in w x
  rwa [show (w.alloc (.cells #[.int .u8 (x.toNat : Int)] 5)).heap.size = w.heap.size + 1 by simp] at this

set_option maxRecDepth 100000 in
set_option maxHeartbeats 4000000 in
theorem refClean_any (N : Nat) (w : World) (vb : Value) (l : List UInt8) (hN : N ≤ w.heap.size) (hi : InE N w vb l) (hl : l.length ≤ 140737488355000) :
    Calls Try.prog 10 #[vb] w fun e w' => ∃ v', e = .returned v' ∧ OwnB w.heap.size w' v' (clean l) ∧ Below w.heap.size w w' := by
  have AT : Box' (∀ k, k < l.length → ∃ b o c, vb = .slice (some ⟨b, o, none⟩) l.length c ∧ b < N ∧ w.cell? ⟨b, o + k, none⟩ = some (.int .u8 ((l.getD k 0).toNat : Int))) := ⟨fun k hk => hi.bts.at1 hk⟩
  have ST := Box'.mk (clean_step l)
  have CL := Box'.mk (clean_take l)
  have CE := Box'.mk (clean_all l)
  have C0 : Box' (clean (l.take 0) = []) := ⟨by simp [clean]⟩
  obtain ⟨a, c, rfl, hc⟩ := hi.slice
  clear hi
  generalize hn : l.length = n at *
  clear hn
  go_enter Try.func10, Try.ntmps10
  go_wp2_with fail
  go_loopw [3, 4] (fun u i wr => ∃ k : Nat, i = .int .i64 (k : Int) ∧ k ≤ n ∧ Box' (OwnB w.heap.size wr u (clean (l.take k))) ∧ Box' (Below w.heap.size w wr)) (fun _ i _ => n - (intOf i).toNat)
  case atStart => exact ⟨0, rfl, Nat.zero_le _, ⟨by rw [C0.out]; exact OwnB.nil _ _⟩, ⟨Below.refl _ _⟩⟩
  case round =>
    obtain ⟨k, rfl, hk, OO, BB⟩ := hrel
    by_cases hlt : k < n
    · obtain ⟨b, o, c', e, hb, cx⟩ := AT.out k hlt
      injection e with e1 _ e2
      subst e1 e2
      have hcell : wr.cell? ⟨b, o + k, none⟩ = some (.int .u8 ((l.getD k 0).toNat : Int)) := by rw [BB.out.cell (p := ⟨b, o + k, none⟩) (Nat.lt_of_lt_of_le hb hN)]; exact cx
      have st := ST.out k hlt
      have LL : Box' ((clean (l.take k)).length + 1 ≤ 140737488355328) := ⟨by have := CL.out k; omega⟩
      have S2 : Box' (∀ u' w', OwnB w.heap.size w' u' (clean (l.take k) ++ clB (l.getD k 0)) → OwnB w.heap.size w' u' (clean (l.take (k + 1)))) := ⟨fun u' w' h => by rw [st]; exact h⟩
      clear st cx AT ST CL CE C0
      generalize clean (l.take k) = D at *
      generalize l.getD k 0 = x at *
      have hx := x.toNat_lt
      by_cases h1 : x = 27
      · subst h1
        have o2 := Box'.mk (S2.out _ wr (by rw [show clB 27 = [] from rfl, List.append_nil]; exact OO.out))
        clear S2 OO
        go_wp2_with fail
        exact ⟨⟨k + 1, by go_num, by omega, o2, BB⟩, by simp [intOf]; omega⟩
      by_cases h2 : x = 155
      · subst h2
        have o2 := Box'.mk (S2.out _ wr (by rw [show clB 155 = [] from rfl, List.append_nil]; exact OO.out))
        clear S2 OO h1
        go_wp2_with fail
        exact ⟨⟨k + 1, by go_num, by omega, o2, BB⟩, by simp [intOf]; omega⟩
      have g1 : ((x.toNat : Int) == 27) = false := by rw [beq_eq_false_iff_ne]; intro e; exact h1 (UInt8.toNat_inj.1 (by simpa using (show x.toNat = 27 by omega)))
      have g2 : ((x.toNat : Int) == 155) = false := by rw [beq_eq_false_iff_ne]; intro e; exact h2 (UInt8.toNat_inj.1 (by simpa using (show x.toNat = 155 by omega)))
      by_cases h3 : x = 10
      · subst h3
        have s2 := S2.out
        rw [show clB 10 = [13] from rfl] at s2
        have S3 := Box'.mk s2
        have oA := OO.out.alloc (.cells #[.int .u8 13] 5)
        have iA := one_by wr 13
        have hz : w.heap.size ≤ (wr.alloc (.cells #[.int .u8 13] 5)).heap.size := Nat.le_trans BB.out.size (by simp)
        have bA := Box'.mk (BB.out.alloc BB.out.size (.cells #[.int .u8 13] 5))
        have HL : Box' (D.length + [(13 : UInt8)].length ≤ 140737488355328) := ⟨LL.out⟩
        clear s2 S2 OO h1 h2 g1 g2 LL
        go_wp2_with (refine wpList_app rfl (.tmp 27) (.tmp 28) rfl w.heap.size _ hz _ D rfl oA _ [13] rfl iA HL.out ?_; intro v2 w2 o2 f2; have B2 := Box'.mk (bA.out.trans ((f2.below hz).mono (Nat.le_refl _))); have O2 := Box'.mk (S3.out v2 w2 o2); clear oA iA hz o2 f2 S3)
        exact ⟨⟨k + 1, by go_num, by omega, O2, B2⟩, by simp [intOf]; omega⟩
      have g3 : ((x.toNat : Int) == 10) = false := by rw [beq_eq_false_iff_ne]; intro e; exact h3 (UInt8.toNat_inj.1 (by simpa using (show x.toNat = 10 by omega)))
      have s2 := S2.out
      rw [show clB x = [x] by unfold clB; rw [if_neg (by rintro (h | h); exact h1 h; exact h2 h), if_neg h3]] at s2
      have S3 := Box'.mk s2
      have oA := OO.out.alloc (.cells #[.int .u8 (x.toNat : Int)] 5)
      have iA := one_by wr x
      have hz : w.heap.size ≤ (wr.alloc (.cells #[.int .u8 (x.toNat : Int)] 5)).heap.size := Nat.le_trans BB.out.size (by simp)
      have bA := Box'.mk (BB.out.alloc BB.out.size (.cells #[.int .u8 (x.toNat : Int)] 5))
      have HL : Box' (D.length + [x].length ≤ 140737488355328) := ⟨LL.out⟩
      clear s2 S2 OO h1 h2 h3 LL
      go_wp2_with (refine wpList_app rfl (.tmp 15) (.tmp 20) rfl w.heap.size _ hz _ D rfl oA _ [x] rfl iA HL.out ?_; intro v2 w2 o2 f2; have B2 := Box'.mk (bA.out.trans ((f2.below hz).mono (Nat.le_refl _))); have O2 := Box'.mk (S3.out v2 w2 o2); clear oA iA hz o2 f2 S3)
      exact ⟨⟨k + 1, by go_num, by omega, O2, B2⟩, by simp [intOf]; omega⟩
    · obtain rfl : k = n := by omega
      have O2 : Box' (OwnB w.heap.size wr _ (clean l)) := ⟨by rw [← CE.out _ rfl]; exact OO.out⟩
      clear AT ST CL CE C0 OO
      go_wp2_with fail
      go_ret
      exact ⟨_, rfl, O2.out, BB.out⟩
end Go.Proofs.Ytepepoabbbjmgaa
