/- The reference's throw. -/
import Derived.Test.YtikkekdmahdgaaaRd
namespace Go.Proofs.Ytikkekdmahdgaaa
open Go.RowKit Go.BigFrame
set_option linter.unusedSimpArgs false
set_option linter.unusedVariables false

theorem grown_belowN {N : Nat} {w0 w1 w4 : World} {v : Value} {l : List Rw} (h : w1.grownBy w4 v.ownBlock) (hb : Below N w0 w1) (ho : OwnR N w1 v l) (hN : N ≤ w1.heap.size) : Below N w0 w4 :=
  hb.trans ⟨h.os, h.tape, h.output, h.size, fun q hq => h.block q (Nat.lt_of_lt_of_le hq hN) (fun e => by have := (ho.lt q e.symm).1; omega)⟩
theorem one_cells (w : World) (x : Rw) : ∀ j u, (rowsC [x])[j]? = some u → (w.alloc (.cells #[.int .u64 (x.n.toNat : Int), .string ⟨x.t.toArray⟩, .int .u64 (x.a.toNat : Int)] 50)).cell? ((⟨w.heap.size, 0, none⟩ : Addr).add j) = some u := fun j u hu => by
  rw [Addr.add_mid, Nat.zero_add, (Row.new w 50 #[.int .u64 (x.n.toNat : Int), .string ⟨x.t.toArray⟩, .int .u64 (x.a.toNat : Int)]).cell]
  simpa [rowsC, rC, uV, sT] using hu

set_option maxRecDepth 100000 in
set_option maxHeartbeats 4000000 in
theorem throw_any (w : World) (F : Nat → Prop) (p : Nat) (l : List Rw) (n : UInt64) (h : RcR w F p l) : Calls Try.prog 41 #[.pointer (some ⟨p, 0, none⟩), uV n] w fun e w' => ∃ F', e = .returned (.tuple #[]) ∧ RcR w' F' p (thrF l n) ∧ Tch F w w' ∧ ∀ k, F' k → F k ∨ w.heap.size ≤ k := by
  obtain ⟨v, rfl, hr, ho, hp, hm⟩ := h
  obtain ⟨g, c, rfl, hc, _, hg, hcl⟩ := ho.cells hp
  have TF : Box' (thrF l n = thrK l n l.length) := ⟨rfl⟩
  have TP := Box'.mk (thrF_pos l n hp)
  have TS : Box' (∀ k, thrK l n (k + 1) = thrK l n k ++ (if n.toNat ≤ (l.getD k Rw.zero).n.toNat ∨ k + 1 = l.length then [l.getD k Rw.zero] else [])) := ⟨fun k => rfl⟩
  have TK := Box'.mk (thrK_len l n)
  have T0 : Box' (thrK l n 0 = []) := ⟨rfl⟩
  have CK : Box' (∀ k, k < l.length → w.cell? ⟨g, k * 3, none⟩ = some (.int .u64 ((l.getD k Rw.zero).n.toNat : Int)) ∧ w.cell? ⟨g, k * 3 + 1, none⟩ = some (.string ⟨(l.getD k Rw.zero).t.toArray⟩) ∧ w.cell? ⟨g, k * 3 + 2, none⟩ = some (.int .u64 ((l.getD k Rw.zero).a.toNat : Int))) := ⟨fun k hk => ⟨hcl _ _ (rowsC_at l k hk).1, hcl _ _ (rowsC_at l k hk).2.1, hcl _ _ (rowsC_at l k hk).2.2⟩⟩
  have c1 : w.cell? ⟨p, 0, none⟩ = some (.slice (some ⟨g, 0, none⟩) l.length c) := hr.cell 0
  have RR := Box'.mk hr
  have HG := Box'.mk hg
  have C1 := Box'.mk c1
  clear hr ho hcl hg
  generalize hL : l.length = L at *
  have HL := Box'.mk hL
  clear hL
  unfold uV
  have hn := n.toNat_lt
  go_enter Try.func41, Try.ntmps41
  go_wp2_with fail
  clear c1
  go_loopw [4, 5] (fun u i wr => ∃ k : Nat, i = .int .i64 (k : Int) ∧ k ≤ L ∧ Box' (OwnR w.heap.size wr u (thrK l n k)) ∧ Box' (Below w.heap.size w wr)) (fun _ i _ => L - (intOf i).toNat)
  case atStart => exact ⟨0, rfl, Nat.zero_le _, ⟨by rw [T0.out]; exact OwnR.nil _ _⟩, ⟨Below.refl _ _⟩⟩
  case round =>
    obtain ⟨k, rfl, hk, OO, BB⟩ := hrel
    obtain ⟨au, cu, rfl, _⟩ := OO.out.slice
    have c1 : wr.cell? ⟨p, 0, none⟩ = some (.slice (some ⟨g, 0, none⟩) L c) := by rw [BB.out.cell (p := ⟨p, 0, none⟩) RR.out.lt]; exact C1.out
    by_cases hlt : k < L
    · obtain ⟨q1, q2, q3⟩ := CK.out k hlt
      have ce : ∀ q, wr.cell? ⟨g, q, none⟩ = w.cell? ⟨g, q, none⟩ := fun q => BB.out.cell (p := ⟨g, q, none⟩) HG.out
      rw [← ce] at q1 q2 q3
      have ts := TS.out k
      have KN : Box' (¬ (n.toNat ≤ (l.getD k Rw.zero).n.toNat ∨ k + 1 = L) → OwnR w.heap.size wr (.slice au (thrK l n k).length cu) (thrK l n (k + 1))) := ⟨fun h => by rw [ts, if_neg h, List.append_nil]; exact OO.out⟩
      have KA : Box' ((n.toNat ≤ (l.getD k Rw.zero).n.toNat ∨ k + 1 = L) → ∀ v' w', OwnR w.heap.size w' v' (thrK l n k ++ [l.getD k Rw.zero]) → OwnR w.heap.size w' v' (thrK l n (k + 1))) := ⟨fun h v' w' o => by rw [ts, if_pos h]; exact o⟩
      have tk := TK.out k
      have oo := OO.out
      have bb := BB.out
      clear ts ce TF TP TS TK T0 CK OO BB
      generalize thrK l n k = D at *
      generalize l.getD k Rw.zero = x at *
      have hxn := x.n.toNat_lt
      have hxa := x.a.toNat_lt
      have ba : Below wr.heap.size wr (wr.alloc (.cells #[.int .u64 (x.n.toNat : Int), .string ⟨x.t.toArray⟩, .int .u64 (x.a.toNat : Int)] 50)) := (Below.refl _ _).alloc (Nat.le_refl _) _
      have oA := Box'.mk (oo.below ba)
      have bA := Box'.mk (bb.trans (ba.mono bb.size))
      have zA : Box' (w.heap.size ≤ (wr.alloc (.cells #[.int .u64 (x.n.toNat : Int), .string ⟨x.t.toArray⟩, .int .u64 (x.a.toNat : Int)] 50)).heap.size) := ⟨bA.out.size⟩
      have cA := Box'.mk (one_cells wr x)
      have BB := Box'.mk bb
      have hl4 : D.length + [x].length ≤ 1048576 := by simp only [List.length_cons, List.length_nil]; omega
      clear oo bb ba
      by_cases hs : n.toNat ≤ x.n.toNat ∨ k + 1 = L
      · have ka := Box'.mk (KA.out hs)
        clear KA KN
        by_cases h1 : n.toNat ≤ x.n.toNat
        · clear hs
          go_wp2_with (refine wpList_appR rfl (.tmp 35) (.tmp 43) rfl w.heap.size zA.out _ D [x] rfl oA.out ⟨wr.heap.size, 0, none⟩ _ _ rfl rfl cA.out hl4 ?_
                       intro v4 w4 o4 g4
                       have B4 := Box'.mk (grown_belowN g4 bA.out oA.out zA.out)
                       have O4 := Box'.mk (ka.out v4 w4 o4)
                       clear o4 g4 oA bA zA cA)
          exact ⟨⟨k + 1, by go_num, by omega, O4, B4⟩, by simp [intOf]; omega⟩
        · have h2 : k + 1 = L := by omega
          clear hs
          go_wp2_with (refine wpList_appR rfl (.tmp 35) (.tmp 43) rfl w.heap.size zA.out _ D [x] rfl oA.out ⟨wr.heap.size, 0, none⟩ _ _ rfl rfl cA.out hl4 ?_
                       intro v4 w4 o4 g4
                       have B4 := Box'.mk (grown_belowN g4 bA.out oA.out zA.out)
                       have O4 := Box'.mk (ka.out v4 w4 o4)
                       clear o4 g4 oA bA zA cA)
          exact ⟨⟨k + 1, by go_num, by omega, O4, B4⟩, by simp [intOf]; omega⟩
      · have ka := Box'.mk (KN.out hs)
        have h1 : ¬ n.toNat ≤ x.n.toNat := fun h => hs (.inl h)
        have h2 : ¬ k + 1 = L := fun h => hs (.inr h)
        clear KA KN hs oA bA zA cA
        go_wp2_with fail
        exact ⟨⟨k + 1, by go_num, by omega, ka, BB⟩, by simp [intOf]; omega⟩
    · obtain rfl : L = k := by omega
      have o5 := OO.out
      rw [← TF.out] at o5
      have tl : (thrF l n).length ≤ 100 := by rw [TF.out]; have := TK.out L; omega
      have PP := Box'.mk (RcR.put RR.out BB.out o5 TP.out tl)
      have fp := (RR.out.below BB.out RR.out.lt).frozen 0
      rw [← TF.out]
      clear TF TP TS TK T0 CK OO o5 tl
      go_wp2_with fail
      exact bodyPost_end (results_none rfl _ _ _) rfl ⟨_, rfl, PP.out.1, PP.out.2.1, PP.out.2.2⟩
end Go.Proofs.Ytikkekdmahdgaaa
