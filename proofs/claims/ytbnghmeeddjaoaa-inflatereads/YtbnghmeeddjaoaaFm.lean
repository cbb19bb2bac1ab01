/- A code's bits, turned; the walk of tree. -/
import Derived.Test.YtbnghmeeddjaoaaFl
namespace Go.Proofs.Ytbnghmeeddjaoaa
open Go.RowKit Go.BigFrame Gt

theorem bitsH_head (k : Nat) : ∀ v, bitsH v (k + 1) = (v / 2 ^ k % 2) :: bitsH v k := by
  induction k with
  | zero => intro v; simp [bitsH]
  | succ k ih =>
    intro v
    rw [bitsH, ih, Nat.div_div_eq_div_mul, Nat.mul_comm 2, ← Nat.pow_succ]
    rfl
theorem bits_rev (c : Nat) : ∀ n, bitsL (Gf.rev c n) n = bitsH c n
  | 0 => rfl
  | n + 1 => by
    rw [bitsH_head, bitsL, Gf.rev]
    have h1 : (2 * Gf.rev c n + c / 2 ^ n % 2) % 2 = c / 2 ^ n % 2 := by omega
    have h2 : (2 * Gf.rev c n + c / 2 ^ n % 2) / 2 = Gf.rev c n := by omega
    rw [h1, h2, bits_rev c n]
theorem cds_at (l : List Int) (k : Nat) (hk : k < l.length) : (cds l l.length).getD k (0, 0) = (Gf.rev (Gf.cod l k) (Gf.ln l k), l.getD k 0) := by
  unfold cds cdp
  simp [hk]
set_option maxRecDepth 100000 in
set_option maxHeartbeats 4000000 in
theorem tree_any (v : Value) (l : List Int) (hl : l.length ≤ 17592186044416) (w : World) (h : Ints w.heap.size w v l) :
    Calls Try.prog 47 #[v] w fun e w' => Below w.heap.size w w' ∧ ((Gf.chkE l = 0 ∧ ∃ u, e = .returned u ∧ OwnF w.heap.size w' u (treeB l l.length)) ∨ (Gf.chkE l ≠ 0 ∧ e = flt 8)) := by
  have hco := codes_any v l hl w h
  clear h
  by_cases h0 : Gf.chkE l = 0
  case neg =>
    have hE : (Gf.chkE l != 0) = true := by simpa using h0
    have H0 := Box'.mk h0
    generalize Gf.chkE l = E at *
    clear h0
    go_enter Try.func47, Try.ntmps47
    go_wp2_with fail
    refine hco.mono ?_
    clear hco
    rintro e w1 ⟨u, rfl, _, b1⟩
    have hf := fail_any 8 w1
    go_wp2_with fail
    refine hf.mono ?_
    rintro e w' ⟨rfl, rfl⟩
    exact ⟨rfl, b1, .inr ⟨H0.out, rfl⟩⟩
  case pos =>
    obtain ⟨hA, hW, h512⟩ := good_of h0
    rw [h0] at hco
    have H0 := Box'.mk h0
    have TS : Box' (∀ k, treeB l (k + 1) = if Gf.ln l k = 0 then treeB l k else graftB (bitsH (Gf.cod l k) (Gf.ln l k)) (treeB l k) 0 (k : Int)) := ⟨fun k => rfl⟩
    have TL := Box'.mk (tree_len l hA)
    have LN : Box' (∀ k, l.getD k 0 = (Gf.ln l k : Int) ∧ Gf.ln l k ≤ 15) := ⟨fun k => ⟨(Gf.ln_le l hA k).2, (Gf.ln_le l hA k).1⟩⟩
    have GK : Box' (∀ k, k < l.length → Gf.ln l k ≠ 0 → gok (bitsL (Gf.rev (Gf.cod l k) (Gf.ln l k)) (Gf.ln l k)) (treeB l k) 0) := ⟨fun k hk hk0 => by
      obtain ⟨P, hT⟩ := tree_ok hA hW k (by omega)
      rw [bits_rev]
      exact gok_of (codesOf l k) _ (bitsH_lt _ _) (codes_free hA hW hk hk0) _ (treeB l k) P 0 [] rfl (hT.next _ fun _ => Iff.rfl) hT.len hT.root⟩
    have BR := Box'.mk bits_rev
    have RV := Box'.mk Gf.rev_lt
    have CA := Box'.mk (cds_at l)
    have CLn : Box' ((cds l l.length).length = l.length) := ⟨cds_len _ _⟩
    have CH : Box' (∀ w w' u, Coded w w' l u → ∃ g, u = .slice (some ⟨g, 0, none⟩) l.length l.length ∧ w.heap.size ≤ g ∧ Row w' g 92 (agp (cds l l.length))) := ⟨fun w w' u hc => by
      rcases hc with ⟨_, hg⟩ | ⟨h1, _⟩
      · exact hg
      · exact absurd h0 h1⟩
    generalize hn : l.length = n at *
    clear hA hW h0 hl
    go_enter Try.func47, Try.ntmps47
    go_wp2_with fail
    refine hco.mono ?_
    clear hco
    rintro e w1 ⟨u, rfl, hc, b1⟩
    obtain ⟨g, rfl, hg, rc⟩ := CH.out _ _ _ hc
    clear hc CH
    have B1 := Box'.mk b1
    clear b1
    go_wp2_with fail
    have o0 : OwnF w1.heap.size (w1.alloc (.cells #[.int .i64 0, .int .i64 0] 82)) (.slice (some ⟨w1.heap.size, 0, none⟩) 1 1) (treeB l 0) := ⟨rfl, .inr ⟨w1.heap.size, 1, #[.int .i64 0, .int .i64 0], rfl, Nat.le_refl _, Row.new _ _ _, Nat.le_refl _, by unfold maxLen; omega, rfl, rfl⟩⟩
    have b2 := (Below.refl w1.heap.size w1).alloc (Nat.le_refl _) (.cells #[.int .i64 0, .int .i64 0] 82)
    have RC := Box'.mk rc
    have hgl := rc.lt
    clear rc
    go_loopw [5, 20] (fun t i wr => ∃ k : Nat, k ≤ n ∧ i = .int .i64 (k : Int) ∧ OwnF w1.heap.size wr t (treeB l k) ∧ Below w1.heap.size w1 wr) (fun _ i _ => n - (intOf i).toNat)
    case atStart => exact ⟨0, by omega, rfl, o0, b2⟩
    case round =>
      clear o0 b2
      obtain ⟨k, hk, rfl, ho, hbl⟩ := hrel
      have hz := hbl.size
      by_cases hlt : k < n
      · have rr := RC.out.below hbl hgl
        have ca := CA.out k hlt
        have c0 : wr.cell? ⟨g, k * 2, none⟩ = some (.int .u64 ((Gf.rev (Gf.cod l k) (Gf.ln l k) : Nat) : Int)) := by rw [rr.cell, agp_get _ _ (by rw [CLn.out]; omega), pcell0, ca]
        have c1 : wr.cell? ⟨g, k * 2 + 1, none⟩ = some (.int .i64 (Gf.ln l k : Int)) := by rw [rr.cell, agp_get _ _ (by rw [CLn.out]; omega), pcell1, ca]; rw [(LN.out k).1]
        have l15 := (LN.out k).2
        have rv := RV.out (Gf.cod l k) (Gf.ln l k)
        have tl := TL.out k
        have ts := TS.out k
        have gk := GK.out k hlt
        rw [← BR.out (Gf.cod l k) (Gf.ln l k)] at ts
        have hrv : Gf.rev (Gf.cod l k) (Gf.ln l k) < 65536 := Nat.lt_of_lt_of_le rv (Nat.le_trans (Nat.pow_le_pow_right (by decide) l15) (by decide))
        generalize Gf.rev (Gf.cod l k) (Gf.ln l k) = x at *
        generalize Gf.ln l k = z at *
        have TSk := Box'.mk ts
        have GKk := Box'.mk gk
        have RVk := Box'.mk rv
        have HO := Box'.mk ho
        clear rr ca ts gk rv CA LN RV TL TS GK BR CLn ho
        by_cases hz0 : z = 0
        · subst hz0
          have ts := TSk.out
          rw [if_pos rfl] at ts
          have TSk := Box'.mk ts
          have o2 : OwnF w1.heap.size (wr.alloc (.cells #[.int .u64 (x : Int), .int .i64 ((0 : Nat) : Int)] 92)) _ (treeB l k) := HO.out.same fun q hq => Below.heap_alloc _ _ _ (HO.out.lt q hq).2
          have O2 := Box'.mk o2
          have B2 := Box'.mk (hbl.alloc hz (.cells #[.int .u64 (x : Int), .int .i64 ((0 : Nat) : Int)] 92))
          clear ts o2 HO GKk hbl
          go_wp2_with fail
          exact ⟨⟨k + 1, by omega, by go_num, by rw [TSk.out]; exact O2.out, B2.out⟩, by simp [intOf]; omega⟩
        · have ts := TSk.out
          rw [if_neg hz0] at ts
          have o2 : OwnF w1.heap.size (wr.alloc (.cells #[.int .u64 (x : Int), .int .i64 (z : Int)] 92)) _ (treeB l k) := HO.out.same fun q hq => Below.heap_alloc _ _ _ (HO.out.lt q hq).2
          have B2 := Box'.mk (hbl.alloc hz (.cells #[.int .u64 (x : Int), .int .i64 (z : Int)] 92))
          have hgr := graft_any w1.heap.size _ (treeB l k) x z (k : Int) ⟨by omega, by omega⟩ (by omega) l15 RVk.out (by omega) (GKk.out hz0) _ (by simp; omega) o2
          rw [← ts] at hgr
          have hzp : 0 < z := by omega
          clear ts o2 HO GKk hbl TSk RVk tl
          go_wp2_with fail
          refine hgr.mono ?_
          clear hgr
          rintro e w3 ⟨u3, rfl, o3, b3⟩
          have O3 := Box'.mk o3
          have B3 := Box'.mk (B2.out.trans b3)
          clear o3 b3 B2
          go_wp2_with fail
          exact ⟨⟨k + 1, by omega, by go_num, O3.out, B3.out⟩, by simp [intOf]; omega⟩
      · obtain rfl : k = n := by omega
        have b5 := B1.out.trans (hbl.mono B1.out.size)
        have o5 : OwnF w.heap.size wr _ (treeB l k) := ⟨ho.1, by
          rcases ho.2 with h2 | ⟨q, cap, cur, e1, e2, e3⟩
          · exact .inl h2
          · exact .inr ⟨q, cap, cur, e1, Nat.le_trans B1.out.size e2, e3⟩⟩
        have O5 := Box'.mk o5
        clear CA LN RV TL TS GK BR CLn ho o5
        go_wp2_with fail
        go_ret
        exact ⟨b5, .inl ⟨H0.out, _, rfl, O5.out⟩⟩
end Go.Proofs.Ytbnghmeeddjaoaa
