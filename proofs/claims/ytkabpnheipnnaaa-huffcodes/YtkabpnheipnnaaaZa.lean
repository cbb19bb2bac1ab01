/- Bits that lie behind a slice; bits appended to a row of one's own; the walks of same and of the reference's Codes. -/
import Derived.Test.YtkabpnheipnnaaaGw
import Derived.Test.YtkabpnheipnnaaaH
import Derived.Laws.AppendOwn
namespace Go.Proofs.Ytkabpnheipnnaaa
open Go.RowKit Go.BigFrame

/-- The slice v has the bits l, in a block below N. -/
def Prs (N : Nat) (w : World) (v : Value) (l : List (Nat × Int)) : Prop :=
  ∃ a c, v = .slice a l.length c ∧ l.length ≤ c ∧ (l = [] ∨ ∃ b o, a = some ⟨b, o, none⟩ ∧ b < N ∧
    ∀ k, k < l.length → w.cell? ⟨b, o + k * 2, none⟩ = some (.int .u64 ((l.getD k (0, 0)).1 : Int)) ∧ w.cell? ⟨b, o + k * 2 + 1, none⟩ = some (.int .i64 (l.getD k (0, 0)).2))
theorem Prs.on {w w' : World} {v : Value} {l : List (Nat × Int)} (h : Prs w.heap.size w v l) (hb : Below w.heap.size w w') : Prs w'.heap.size w' v l := by
  obtain ⟨a, c, h1, h2, h4⟩ := h
  refine ⟨a, c, h1, h2, ?_⟩
  rcases h4 with h4 | ⟨b, o, h5, h6, h7⟩
  · exact .inl h4
  · refine .inr ⟨b, o, h5, Nat.lt_of_lt_of_le h6 hb.size, fun k hk => ?_⟩
    rw [hb.cell (p := ⟨b, o + k * 2, none⟩) h6, hb.cell (p := ⟨b, o + k * 2 + 1, none⟩) h6]
    exact h7 k hk
theorem Row.prs {w : World} {g : Nat} {t : TypeId} {l : List (Nat × Int)} {n : Nat} (h : Row w g t (agp l)) (hn : l.length = n) : Prs w.heap.size w (.slice (some ⟨g, 0, none⟩) n n) l :=
  ⟨_, _, by rw [hn], by omega, .inr ⟨g, 0, rfl, h.lt, fun k hk => by rw [Nat.zero_add]; exact ⟨h.pr0 hk, h.pr1 hk⟩⟩⟩

def fl : List (Nat × Int) → List Value
  | [] => []
  | x :: r => .int .u64 (x.1 : Int) :: .int .i64 x.2 :: fl r
theorem fl_app (a b : List (Nat × Int)) : fl (a ++ b) = fl a ++ fl b := by
  induction a with
  | nil => rfl
  | cons x r ih => simp [fl, ih]
theorem fl_len (a : List (Nat × Int)) : (fl a).length = a.length * 2 := by
  induction a with
  | nil => rfl
  | cons x r ih => simp only [fl, List.length_cons, ih]; omega
theorem fl_get (d : List (Nat × Int)) (k : Nat) (hk : k < d.length) : (fl d)[k * 2]? = some (.int .u64 ((d.getD k (0, 0)).1 : Int)) ∧ (fl d)[k * 2 + 1]? = some (.int .i64 (d.getD k (0, 0)).2) := by
  induction d generalizing k with
  | nil => simp at hk
  | cons x r ih =>
    cases k with
    | zero => exact ⟨rfl, rfl⟩
    | succ k =>
      have := ih k (by simpa using hk)
      rw [show (k + 1) * 2 = k * 2 + 1 + 1 by omega]
      simpa [fl] using this
theorem fl_one (a : List (Nat × Int)) : ∀ u ∈ fl a, u.oneCell' = true := by
  induction a with
  | nil => intro u hu; cases hu
  | cons x r ih =>
    intro u hu
    simp only [fl, List.mem_cons] at hu
    rcases hu with rfl | rfl | hu
    · rfl
    · rfl
    · exact ih u hu
/-- A row of bits of one's own, that grows. -/
def Own2 (N : Nat) (w : World) (v : Value) (d : List (Nat × Int)) : Prop := w.ownsRow N 51 2 v d.length (fl d)
theorem Own2.nil (N : Nat) (w : World) : Own2 N w (.slice none 0 0) [] := ⟨rfl, .inl ⟨rfl, rfl⟩⟩
theorem Own2.below {N : Nat} {w w' : World} {v : Value} {d : List (Nat × Int)} (h : Own2 N w v d) (hb : Below w.heap.size w w') : Own2 N w' v d := by
  refine ⟨h.1, ?_⟩
  rcases h.2 with h2 | ⟨g, cap, cur, e1, e2, e3, e4⟩
  · exact .inl h2
  · exact .inr ⟨g, cap, cur, e1, e2, by rw [hb.block g (Array.getElem?_eq_some_iff.1 e3).1]; exact e3, e4⟩
theorem Own2.alloc {N : Nat} {w : World} {v : Value} {d : List (Nat × Int)} (h : Own2 N w v d) (o : Obj) : Own2 N (w.alloc o) v d := h.below ((Below.refl _ _).alloc (Nat.le_refl _) _)
theorem Own2.setCell {N : Nat} {w : World} {v : Value} {d : List (Nat × Int)} (h : Own2 N w v d) (a : Addr) (x : Value) (M : Nat) (hM : ∀ g, v.ownBlock = some g → g < M) (ha : M ≤ a.block) : Own2 N (w.setCell a x) v d := by
  refine ⟨h.1, ?_⟩
  rcases h.2 with h2 | ⟨g, cap, cur, e1, e2, e3, e4⟩
  · exact .inl h2
  · refine .inr ⟨g, cap, cur, e1, e2, ?_, e4⟩
    rw [Below.heap_setCell _ _ _ _ (by have := hM g (by rw [e1]; rfl); omega)]; exact e3
theorem Own2.keep {N M : Nat} {w w' : World} {v : Value} {d : List (Nat × Int)} (h : Own2 N w v d) (hb : Below M w w') (hM : ∀ g, v.ownBlock = some g → g < M) : Own2 N w' v d := by
  refine ⟨h.1, ?_⟩
  rcases h.2 with h2 | ⟨g, cap, cur, e1, e2, e3, e4⟩
  · exact .inl h2
  · exact .inr ⟨g, cap, cur, e1, e2, by rw [hb.block g (hM g (by rw [e1]; rfl))]; exact e3, e4⟩
theorem Own2.lt {N : Nat} {w : World} {v : Value} {d : List (Nat × Int)} (h : Own2 N w v d) : ∀ g, v.ownBlock = some g → N ≤ g ∧ g < w.heap.size := by
  intro k hk
  rcases h.2 with ⟨e, _⟩ | ⟨g, cap, cur, e1, e2, e3, _⟩
  · rw [e] at hk; simp [Value.ownBlock] at hk
  · rw [e1] at hk; simp [Value.ownBlock] at hk; subst hk; exact ⟨e2, (Array.getElem?_eq_some_iff.1 e3).1⟩
theorem Own2.prs {N : Nat} {w : World} {v : Value} {d : List (Nat × Int)} (h : Own2 N w v d) : Prs w.heap.size w v d := by
  rcases h.2 with ⟨e, e0⟩ | ⟨g, cap, cur, e1, e2, e3, e4, e5, e6, e7⟩
  · obtain rfl := List.eq_nil_of_length_eq_zero e0
    exact ⟨none, 0, e, Nat.le_refl _, .inl rfl⟩
  · refine ⟨_, cap, e1, e4, .inr ⟨g, 0, rfl, (Array.getElem?_eq_some_iff.1 e3).1, fun k hk => ?_⟩⟩
    have hr : Row w g 51 cur := e3
    rw [Nat.zero_add, hr.cell, hr.cell]
    have hf := fl_get d k hk
    rw [← e7] at hf
    rw [List.getElem?_take_of_lt (by omega), List.getElem?_take_of_lt (by omega)] at hf
    simpa using hf
theorem wpList_append_pair {ops : Array Oper} {rest : List Oper} {o : Oper} {a : Act} {w : World} {Q : Exit → Act → World → Prop} (hgd : o.guard = none) (s x : Operand)
    (ho : o.op = .call { callee := .builtin .append, args := #[s, x], argTypes := #[24, 24] }) (N : Nat) (hN : N ≤ w.heap.size)
    (v : Value) (d : List (Nat × Int)) (hs : a.eval s = v) (hown : Own2 N w v d) (ad : Addr) (m c : Nat) (l : List (Nat × Int)) (hx : a.eval x = .slice (some ad) m c) (hm : l.length = m)
    (hc : ∀ j u, (fl l)[j]? = some u → w.cell? (ad.add j) = some u) (hmax : d.length + l.length ≤ 1000000)
    (h : ∀ v' w', Own2 N w' v' (d ++ l) → Below N w w' → wpList Try.prog ops Q rest (a.put o.dst v') w') : wpList Try.prog ops Q (o :: rest) a w := by
  obtain ⟨i, h1, h2, h3, h4⟩ := Try.info51'
  obtain ⟨v', w', hr, g2, g3, _⟩ := run_append_own (P := Try.prog) w N 24 o.type 51 i _ 2 16 Try.underlying24 h1 h2 h3 h4 rfl (by decide) v d.length (fl d) hown ad m c (fl l) (by rw [fl_len, hm]) hc (fl_one l) (by unfold maxLen; omega) (by omega) hN
  have g2' : Own2 N w' v' (d ++ l) := by unfold Own2; rw [List.length_append, fl_app, hm]; exact g2
  have hbl : Below N w w' := ⟨g3.os, g3.tape, g3.output, g3.size, fun k hk => g3.block k (by omega) (fun e => by have := (hown.lt k e.symm).1; omega)⟩
  refine wpList_plain hgd fun K hK => ?_
  unfold Oper.wp execOp
  simp only [ho, resolve, invoke, builtin, Sem.run_bind, Sem.run_pure, Result.andThen_ok, List.map_toArray, List.map_cons, List.map_nil, hs, hx, hr]
  exact hK _ _ (h v' w' g2' hbl)

set_option maxHeartbeats 1000000 in
theorem same_any (v u : Value) (l : List (Nat × Int)) (hl : l.length ≤ 17592186044416) (w : World) (h : Prs w.heap.size w v l) (g : Prs w.heap.size w u l) :
    Calls Try.prog 14 #[v, u] w fun e w' => e = .returned (.bool true) ∧ Below w.heap.size w w' := by
  have pcl : ∀ {a : Option Addr}, (l = [] ∨ ∃ b o, a = some ⟨b, o, none⟩ ∧ b < w.heap.size ∧
      ∀ k, k < l.length → w.cell? ⟨b, o + k * 2, none⟩ = some (.int .u64 ((l.getD k (0, 0)).1 : Int)) ∧ w.cell? ⟨b, o + k * 2 + 1, none⟩ = some (.int .i64 (l.getD k (0, 0)).2)) →
      ∀ k, k < l.length → ∃ b o, a = some ⟨b, o, none⟩ ∧ b < w.heap.size ∧ w.cell? ⟨b, o + k * 2, none⟩ = some (.int .u64 ((l.getD k (0, 0)).1 : Int)) ∧ w.cell? ⟨b, o + k * 2 + 1, none⟩ = some (.int .i64 (l.getD k (0, 0)).2) := by
    intro a h3 k hk
    rcases h3 with rfl | ⟨b, o, rfl, h5, h6⟩
    · simp at hk
    exact ⟨b, o, rfl, h5, h6 k hk⟩
  obtain ⟨a, c, rfl, hc, h3⟩ := h
  obtain ⟨a', c', rfl, hc', g3⟩ := g
  have HCL := Box'.mk (pcl h3)
  have GCL := Box'.mk (pcl g3)
  generalize l.length = n at *
  clear h3 g3 pcl
  go_enter Try.func14, Try.ntmps14
  go_wp2_with fail
  go_loopw [5] (fun i wr => ∃ k : Nat, k ≤ n ∧ i = .int .i64 (k : Int) ∧ Below w.heap.size w wr) (fun i _ => n - (intOf i).toNat)
  case atStart => exact ⟨0, by omega, rfl, Below.refl _ _⟩
  case round =>
    obtain ⟨k, hk, rfl, hbl⟩ := hrel
    by_cases hlt : k < n
    · obtain ⟨b, o, rfl, hbw, c0, c1⟩ := HCL.out k hlt
      obtain ⟨b', o', rfl, hbw', d0, d1⟩ := GCL.out k hlt
      obtain ⟨hc0, -⟩ := bcell hbl
      rw [← hc0 _ _ hbw] at c0 c1
      rw [← hc0 _ _ hbw'] at d0 d1
      generalize l.getD k (0, 0) = x at *
      obtain ⟨xv, xs⟩ := x
      simp only at c0 c1 d0 d1
      clear hc0 HCL GCL
      go_wp2_with fail
      go_quiet (fail)
      go_wp2_with fail
      exact ⟨⟨k + 1, by omega, by go_num, Below.drewN hbl nq⟩, by simp [intOf]; omega⟩
    · obtain rfl : k = n := by omega
      clear HCL GCL
      go_wp2_with fail
      go_ret
      exact ⟨rfl, hbl⟩

def cdl (l : List Int) (k : Nat) : List (Nat × Int) := (List.range k).map (cdp l)
theorem cdl_succ (l : List Int) (k : Nat) : cdl l (k + 1) = cdl l k ++ [cdp l k] := by
  unfold cdl; rw [List.range_succ, List.map_append]; rfl
theorem cdl_len (l : List Int) (k : Nat) : (cdl l k).length = k := by simp [cdl]
theorem cdl_full (l : List Int) : cdl l l.length = cds l l.length := by
  unfold cdl cds
  apply List.map_congr_left
  intro i hi
  rw [if_pos (List.mem_range.1 hi)]
theorem cdi_get (l : List Int) (k : Nat) (hk : k < l.length) : (cdi l).getD k 0 = (Gf.cod l k : Int) := by simp [cdi, hk]
theorem cdi_len (l : List Int) : (cdi l).length = l.length := by simp [cdi]
theorem cdp_zero (l : List Int) (hA : l.all Gf.lenB = true) (k : Nat) (h : Gf.ln l k = 0) : cdp l k = (0, 0) := by
  unfold cdp; rw [h, (Gf.ln_le l hA k).2, h]; rfl

set_option maxRecDepth 100000 in
set_option maxHeartbeats 4000000 in
theorem refCodes_any (v : Value) (l : List Int) (hl : l.length ≤ 17592186044416) (w : World) (h : Ints w.heap.size w v l) :
    Calls Try.prog 9 #[v] w fun e w' => ∃ u, e = .returned (.tuple #[u, .int .i64 (Gf.chkE l)]) ∧ ((Gf.chkE l = 0 ∧ Prs w'.heap.size w' u (cds l l.length)) ∨ (Gf.chkE l ≠ 0 ∧ u = .slice none 0 0)) ∧ Below w.heap.size w w' := by
  have hk := refBad_any v l hl w h
  by_cases h0 : Gf.chkE l = 0
  · obtain ⟨hA, hW, h512⟩ := good_of h0
    have hhi := high_any v l hA hW h512 w h
    obtain ⟨a, c, rfl, hc, h3⟩ := h
    have HCL := Box'.mk (Ints.cells h3)
    have E0 := Box'.mk h0
    rw [h0] at hk ⊢
    have LN : Box' (∀ k, l.getD k 0 = (Gf.ln l k : Int) ∧ Gf.ln l k ≤ 15) := ⟨fun k => ⟨(Gf.ln_le l hA k).2, (Gf.ln_le l hA k).1⟩⟩
    have MC := Box'.mk (may_cod l hA hW)
    have CS := Box'.mk (cod_small l hA hW)
    have CP : Box' (∀ k, cdp l k = (Gf.rev (Gf.cod l k) (Gf.ln l k), l.getD k 0)) := ⟨fun _ => rfl⟩
    have CU := Box'.mk (cdl_succ l)
    have CZ := Box'.mk (cdp_zero l hA)
    have CF := Box'.mk (cdl_full l)
    have CL := Box'.mk (cdl_len l)
    have IG := Box'.mk (cdi_get l)
    have IL := Box'.mk (cdi_len l)
    generalize hn : l.length = n at *
    have HN := Box'.mk hn
    clear h3 hn hA hW h0
    go_enter Try.func9, Try.ntmps9
    go_wp2_with (go_at_call 19; refine hk.mono ?_; rintro e w' ⟨rfl, hw'⟩; rw [hw'])
    refine hhi.mono ?_
    rintro e wh ⟨gh, rfl, hg, r1, b1⟩
    clear hhi hk
    have hz1 := b1.size
    have hgl := r1.lt
    go_wp2_with fail
    go_loopw [6, 7] (fun t i wr => ∃ k : Nat, k ≤ n ∧ i = .int .i64 (k : Int) ∧ Own2 wh.heap.size wr t (cdl l k) ∧ Row wr gh 3 (ai (cdi l)) ∧ Below w.heap.size w wr ∧ wh.heap.size ≤ wr.heap.size) (fun _ i _ => n - (intOf i).toNat)
    case atStart => exact ⟨0, by omega, rfl, Own2.nil _ _, r1, b1, Nat.le_refl _⟩
    case round =>
      clear r1 b1
      obtain ⟨k, hk, rfl, hown, r1, hbl, hzr⟩ := hrel
      by_cases hlt : k < n
      · obtain ⟨b, o, rfl, hbw, c0⟩ := HCL.out k hlt
        obtain ⟨hx, hx15⟩ := LN.out k
        obtain ⟨hc0, -⟩ := bcell hbl
        rw [← hc0 _ _ hbw, hx] at c0
        have hbr : b < wr.heap.size := by have := hbl.size; omega
        have CUk := CU.out k
        have hCL := CL.out k
        by_cases hz : Gf.ln l k = 0
        · rw [CZ.out k hz] at CUk
          rw [hz] at c0
          have CUk := Box'.mk CUk
          have w2o : Own2 wh.heap.size ((wr.alloc (.cells #[.int .u64 0, .int .i64 0] 51)).alloc (.cells #[.int .u64 0, .int .i64 0] 51)) u6 (cdl l k) := (hown.alloc _).alloc _
          have w2r : Row ((wr.alloc (.cells #[.int .u64 0, .int .i64 0] 51)).alloc (.cells #[.int .u64 0, .int .i64 0] 51)) (wr.heap.size + 1) 51 #[.int .u64 0, .int .i64 0] := Row.made _ _ _ _ _ rfl (by simp)
          have w2b : Below w.heap.size w ((wr.alloc (.cells #[.int .u64 0, .int .i64 0] 51)).alloc (.cells #[.int .u64 0, .int .i64 0] 51)) := (hbl.alloc hbl.size _).alloc (by have := hbl.size; simp; omega) _
          have w2g : Row ((wr.alloc (.cells #[.int .u64 0, .int .i64 0] 51)).alloc (.cells #[.int .u64 0, .int .i64 0] 51)) gh 3 (ai (cdi l)) := (r1.alloc _).alloc _
          have hcell : ∀ j u, (fl [((0 : Nat), (0 : Int))])[j]? = some u → ((wr.alloc (.cells #[.int .u64 0, .int .i64 0] 51)).alloc (.cells #[.int .u64 0, .int .i64 0] 51)).cell? ((⟨wr.heap.size + 1, 0, none⟩ : Addr).add j) = some u := by
            intro j u hu
            rw [Addr.add_mid, Nat.zero_add, w2r.cell]
            simpa [fl] using hu
          have hN2 : wh.heap.size ≤ ((wr.alloc (.cells #[.int .u64 0, .int .i64 0] 51)).alloc (.cells #[.int .u64 0, .int .i64 0] 51)).heap.size := by simp; omega
          have hmx : (cdl l k).length + [((0 : Nat), (0 : Int))].length ≤ 1000000 := by rw [hCL]; simp; omega
          clear HCL LN MC CS CP CU CZ CF CL IG IL hc0 hx
          go_wp2_with (refine wpList_append_pair rfl (.tmp 46) (.tmp 48) rfl wh.heap.size hN2 _ (cdl l k) rfl w2o _ _ _ [(0, 0)] rfl rfl hcell hmx ?_; intro v' w3 o3 b3)
          exact ⟨⟨k + 1, by omega, by go_num, by rw [CUk.out]; exact o3, w2g.below b3 hgl, w2b.trans (b3.mono hz1), Nat.le_trans hN2 b3.size⟩, by simp [intOf]; omega⟩
        · have hcs := CS.out k hlt
          have hmay := MC.out k hlt
          have hrv := fun w => refReverse_any (Gf.cod l k) (by omega) (Gf.ln l k : Int) w
          rw [show revV (Gf.cod l k, (Gf.ln l k : Int)) = (Gf.rev (Gf.cod l k) (Gf.ln l k), (Gf.ln l k : Int)) by unfold revV; rw [if_pos hmay]; simp, show revE (Gf.cod l k, (Gf.ln l k : Int)) = 0 by unfold revE; rw [if_pos hmay]] at hrv
          unfold bts2 at hrv
          rw [CP.out, hx] at CUk
          have CUk := Box'.mk CUk
          have IGk := IG.out k hlt
          have hil : k < (cdi l).length := by rw [IL.out]; exact hlt
          have i0 : (0 : Int) < (Gf.ln l k : Int) := by omega
          generalize Gf.rev (Gf.cod l k) (Gf.ln l k) = y at *
          generalize Gf.cod l k = x at *
          generalize Gf.ln l k = s at *
          clear HCL LN MC CS CP CU CZ CF CL IG IL hc0 hx hmay
          go_wp2_with fail
          have c1 : (wr.alloc (.cells #[.int .u64 0, .int .i64 (s : Int)] 51)).cell? ⟨b, o + k, none⟩ = some (.int .i64 (s : Int)) := by rw [World.cell?_of_block (Below.heap_alloc _ _ _ hbr)]; exact c0
          clear c0
          obtain ⟨kc, hkc⟩ : ∃ kc, kc = k := ⟨k, rfl⟩
          subst hkc
          have hol : ∀ g, u6.ownBlock = some g → g < wr.heap.size := fun g hg => (hown.lt g hg).2
          refine wp_region_grow 15 (by kernel_rfl) (by kernel_rfl) (fun w1 w2 => Below wr.heap.size w1 w2 ∧ w1.heap.size ≤ w2.heap.size ∧ (Room w1 wr.heap.size 51 2 → Room w2 wr.heap.size 51 2) ∧ (Row w1 wr.heap.size 51 #[.int .u64 (y : Int), .int .i64 (s : Int)] → Row w2 wr.heap.size 51 #[.int .u64 (y : Int), .int .i64 (s : Int)])) (fun w1 => Row w1 gh 3 (ai (cdi l)) ∧ w1.cell? ⟨b, o + kc, none⟩ = some (.int .i64 (s : Int)) ∧ Room w1 wr.heap.size 51 2 ∧ Own2 wh.heap.size w1 u6 (cdl l kc) ∧ Below w.heap.size w w1 ∧ wr.heap.size + 1 ≤ w1.heap.size) (fun k w1 v => match k with
            | 0 => v = .slice (some ⟨gh, 0, none⟩) n n
            | 1 => v = .int .i64 (kc : Int)
            | 2 => v = .pointer (some ⟨gh, kc, none⟩)
            | 3 => v = .int .i64 (x : Int)
            | 4 => v = .int .u64 (x : Int)
            | 5 => v = .slice (some ⟨b, o, none⟩) n c
            | 6 => v = .int .i64 (kc : Int)
            | 7 => v = .pointer (some ⟨b, o + kc, none⟩)
            | 8 => v = .int .i64 (s : Int)
            | 9 => v = .agg #[.int .u64 (x : Int), .int .i64 (s : Int)]
            | 10 => v = .tuple #[.agg #[.int .u64 (y : Int), .int .i64 (s : Int)], .int .i64 0]
            | 11 => v = .tuple #[.agg #[.int .u64 (y : Int), .int .i64 (s : Int)], .int .i64 0]
            | 12 => v = .agg #[.int .u64 (y : Int), .int .i64 (s : Int)]
            | 13 => v = .int .i64 0
            | 14 => Row w1 wr.heap.size 51 #[.int .u64 (y : Int), .int .i64 (s : Int)]
            | _ => True) ?_ ?_ ?_ ?_ ?_
          · rintro w1 w2 ⟨hb, hsz, ho1, ho2⟩ ⟨q1, q2, q3, q4, q5, q6⟩
            exact ⟨q1.below hb (by omega), by rw [hb.cell (p := ⟨b, o + kc, none⟩) (by show b < _; omega)]; exact q2, ho1 q3, q4.keep hb hol, q5.trans (hb.mono hbl.size), by omega⟩
          · intro k v w1 w2 hC1 hb h
            match k, h with
            | 0, h => exact h
            | 1, h => exact h
            | 2, h => exact h
            | 3, h => exact h
            | 4, h => exact h
            | 5, h => exact h
            | 6, h => exact h
            | 7, h => exact h
            | 8, h => exact h
            | 9, h => exact h
            | 10, h => exact h
            | 11, h => exact h
            | 12, h => exact h
            | 13, h => exact h
            | 14, h => exact hb.2.2.2 h
            | k + 15, h => trivial
          · exact ⟨r1.alloc _, c1, (Row.new _ _ _).room rfl, hown.alloc _, (hbl.alloc hbl.size _).drew, by simp⟩
          · refine ⟨?_, ?_, ?_, ?_, ?_, ?_, ?_, ?_, ?_, ?_, ?_, ?_, ?_, ?_, ?_, trivial⟩
            · intro f w1 hC hd KK hK
              simp only [List.take_succ_cons, List.take_zero, setAll, List.setIfInBounds_toArray, List.set_cons_succ, List.set_cons_zero, Nat.zero_add, Nat.reduceAdd] at hK ⊢
              refine wp_of_quiet rfl ?_
              go_big_quiet_step (fail)
              exact wpQuiet_nil (hK _ _ rfl ⟨Below.refl _ _, Nat.le_refl _, id, id⟩)
            · intro f w1 hC hd KK hK
              simp only [List.take_succ_cons, List.take_zero, setAll, List.setIfInBounds_toArray, List.set_cons_succ, List.set_cons_zero, Nat.zero_add, Nat.reduceAdd] at hK ⊢
              refine wp_of_quiet rfl ?_
              go_big_quiet_step (fail)
              exact wpQuiet_nil (hK _ _ rfl ⟨Below.refl _ _, Nat.le_refl _, id, id⟩)
            · intro f w1 hC hd KK hK
              have g0 : f 0 = _ := hd 0 rfl
              have g1 : f 1 = _ := hd 1 rfl
              simp only [List.take_succ_cons, List.take_zero, setAll, List.setIfInBounds_toArray, List.set_cons_succ, List.set_cons_zero, Nat.zero_add, Nat.reduceAdd, g0, g1] at hK ⊢
              refine wp_of_quiet rfl ?_
              go_big_quiet_step (fail)
              exact wpQuiet_nil (hK _ _ rfl ⟨Below.refl _ _, Nat.le_refl _, id, id⟩)
            · intro f w1 hC hd KK hK
              have c3 := hC.1.int hil
              rw [IGk] at c3
              have g2 : f 2 = _ := hd 2 rfl
              simp only [List.take_succ_cons, List.take_zero, setAll, List.setIfInBounds_toArray, List.set_cons_succ, List.set_cons_zero, Nat.zero_add, Nat.reduceAdd, g2] at hK ⊢
              refine wp_of_quiet rfl ?_
              go_big_quiet_step (fail)
              exact wpQuiet_nil (hK _ _ rfl ⟨Below.refl _ _, Nat.le_refl _, id, id⟩)
            · intro f w1 hC hd KK hK
              have g3 : f 3 = _ := hd 3 rfl
              simp only [List.take_succ_cons, List.take_zero, setAll, List.setIfInBounds_toArray, List.set_cons_succ, List.set_cons_zero, Nat.zero_add, Nat.reduceAdd, g3] at hK ⊢
              refine wp_of_quiet rfl ?_
              go_big_quiet_step (fail)
              exact wpQuiet_nil (hK _ _ rfl ⟨Below.refl _ _, Nat.le_refl _, id, id⟩)
            · intro f w1 hC hd KK hK
              simp only [List.take_succ_cons, List.take_zero, setAll, List.setIfInBounds_toArray, List.set_cons_succ, List.set_cons_zero, Nat.zero_add, Nat.reduceAdd] at hK ⊢
              refine wp_of_quiet rfl ?_
              go_big_quiet_step (fail)
              exact wpQuiet_nil (hK _ _ rfl ⟨Below.refl _ _, Nat.le_refl _, id, id⟩)
            · intro f w1 hC hd KK hK
              simp only [List.take_succ_cons, List.take_zero, setAll, List.setIfInBounds_toArray, List.set_cons_succ, List.set_cons_zero, Nat.zero_add, Nat.reduceAdd] at hK ⊢
              refine wp_of_quiet rfl ?_
              go_big_quiet_step (fail)
              exact wpQuiet_nil (hK _ _ rfl ⟨Below.refl _ _, Nat.le_refl _, id, id⟩)
            · intro f w1 hC hd KK hK
              have g5 : f 5 = _ := hd 5 rfl
              have g6 : f 6 = _ := hd 6 rfl
              simp only [List.take_succ_cons, List.take_zero, setAll, List.setIfInBounds_toArray, List.set_cons_succ, List.set_cons_zero, Nat.zero_add, Nat.reduceAdd, g5, g6] at hK ⊢
              refine wp_of_quiet rfl ?_
              go_big_quiet_step (fail)
              exact wpQuiet_nil (hK _ _ rfl ⟨Below.refl _ _, Nat.le_refl _, id, id⟩)
            · intro f w1 hC hd KK hK
              have c8 := hC.2.1
              have g7 : f 7 = _ := hd 7 rfl
              simp only [List.take_succ_cons, List.take_zero, setAll, List.setIfInBounds_toArray, List.set_cons_succ, List.set_cons_zero, Nat.zero_add, Nat.reduceAdd, g7] at hK ⊢
              refine wp_of_quiet rfl ?_
              go_big_quiet_step (fail)
              exact wpQuiet_nil (hK _ _ rfl ⟨Below.refl _ _, Nat.le_refl _, id, id⟩)
            · intro f w1 hC hd KK hK
              have g4 : f 4 = _ := hd 4 rfl
              have g8 : f 8 = _ := hd 8 rfl
              simp only [List.take_succ_cons, List.take_zero, setAll, List.setIfInBounds_toArray, List.set_cons_succ, List.set_cons_zero, Nat.zero_add, Nat.reduceAdd, g4, g8] at hK ⊢
              refine wp_of_quiet rfl ?_
              go_big_quiet_step (fail)
              exact wpQuiet_nil (hK _ _ rfl ⟨Below.refl _ _, Nat.le_refl _, id, id⟩)
            · intro f w1 hC hd KK hK
              have g9 : f 9 = _ := hd 9 rfl
              simp only [List.take_succ_cons, List.take_zero, setAll, List.setIfInBounds_toArray, List.set_cons_succ, List.set_cons_zero, Nat.zero_add, Nat.reduceAdd, g9] at hK ⊢
              exact wp_call 26 #[.agg #[.int .u64 (x : Int), .int .i64 (s : Int)]] (by simp [go_sem]) _ _ (hrv w1) (fun w' hb => hK _ _ rfl ⟨hb.mono (by have := hC.2.2.2.2.2; omega), hb.size, fun r => r.below hb (by have := hC.2.2.2.2.2; omega), fun r => r.below hb r.lt⟩)
            · intro f w1 hC hd KK hK
              have g10 : f 10 = _ := hd 10 rfl
              simp only [List.take_succ_cons, List.take_zero, setAll, List.setIfInBounds_toArray, List.set_cons_succ, List.set_cons_zero, Nat.zero_add, Nat.reduceAdd, g10] at hK ⊢
              refine wp_of_quiet rfl ?_
              go_big_quiet_step (fail)
              exact wpQuiet_nil (hK _ _ rfl ⟨Below.refl _ _, Nat.le_refl _, id, id⟩)
            · intro f w1 hC hd KK hK
              have g11 : f 11 = _ := hd 11 rfl
              simp only [List.take_succ_cons, List.take_zero, setAll, List.setIfInBounds_toArray, List.set_cons_succ, List.set_cons_zero, Nat.zero_add, Nat.reduceAdd, g11] at hK ⊢
              refine wp_of_quiet rfl ?_
              go_big_quiet_step (fail)
              exact wpQuiet_nil (hK _ _ rfl ⟨Below.refl _ _, Nat.le_refl _, id, id⟩)
            · intro f w1 hC hd KK hK
              have g11 : f 11 = _ := hd 11 rfl
              simp only [List.take_succ_cons, List.take_zero, setAll, List.setIfInBounds_toArray, List.set_cons_succ, List.set_cons_zero, Nat.zero_add, Nat.reduceAdd, g11] at hK ⊢
              refine wp_of_quiet rfl ?_
              go_big_quiet_step (fail)
              exact wpQuiet_nil (hK _ _ rfl ⟨Below.refl _ _, Nat.le_refl _, id, id⟩)
            · intro f w1 hC hd KK hK
              have g12 : f 12 = _ := hd 12 rfl
              simp only [List.take_succ_cons, List.take_zero, setAll, List.setIfInBounds_toArray, List.set_cons_succ, List.set_cons_zero, Nat.zero_add, Nat.reduceAdd, g12] at hK ⊢
              refine wp_store_row 51 _ _ rfl _ rfl _ rfl _ _ hC.2.2.1 Try.info51 rfl (by simp [Value.oneCell']) ?_
              exact hK _ _ (hC.2.2.1.setRow _) ⟨below_setRow (Below.refl _ _) (Nat.le_refl _) _, by simp [World.setRow], fun _ => (hC.2.2.1.setRow _).room rfl, fun _ => hC.2.2.1.setRow _⟩
          · intro f w1 hC hv
            have q7 : Row w1 wr.heap.size 51 #[.int .u64 (y : Int), .int .i64 (s : Int)] := hv 14 (by decide)
            have g0 : f 0 = _ := hv 0 (by decide)
            have g1 : f 1 = _ := hv 1 (by decide)
            have g2 : f 2 = _ := hv 2 (by decide)
            have g3 : f 3 = _ := hv 3 (by decide)
            have g4 : f 4 = _ := hv 4 (by decide)
            have g5 : f 5 = _ := hv 5 (by decide)
            have g6 : f 6 = _ := hv 6 (by decide)
            have g7 : f 7 = _ := hv 7 (by decide)
            have g8 : f 8 = _ := hv 8 (by decide)
            have g9 : f 9 = _ := hv 9 (by decide)
            have g10 : f 10 = _ := hv 10 (by decide)
            have g11 : f 11 = _ := hv 11 (by decide)
            have g12 : f 12 = _ := hv 12 (by decide)
            have g13 : f 13 = _ := hv 13 (by decide)
            simp only [List.take_succ_cons, List.take_zero, List.drop_succ_cons, List.drop_zero, setAll, List.setIfInBounds_toArray, List.set_cons_succ, List.set_cons_zero, Nat.zero_add, Nat.reduceAdd, g0, g1, g2, g3, g4, g5, g6, g7, g8, g9, g10, g11, g12, g13]
            clear g0 g1 g2 g3 g4 g5 g6 g7 g8 g9 g10 g11 g12 g13 hv
            obtain ⟨q1, q2, q3, q4, q5, q6⟩ := hC
            have z1 : wr.heap.size < w1.heap.size := by omega
            have e0 : w1.cell? ⟨wr.heap.size, 0, none⟩ = some (.int .u64 (y : Int)) := by rw [q7.cell]; rfl
            have e1 : w1.cell? ⟨wr.heap.size, 1, none⟩ = some (.int .i64 (s : Int)) := by rw [q7.cell]; rfl
            have w3o := q4.alloc (.cells #[.int .u64 (y : Int), .int .i64 (s : Int)] 51)
            have w3r : Row (w1.alloc (.cells #[.int .u64 (y : Int), .int .i64 (s : Int)] 51)) w1.heap.size 51 #[.int .u64 (y : Int), .int .i64 (s : Int)] := Row.new _ _ _
            have hcell : ∀ j u, (fl [(y, (s : Int))])[j]? = some u → (w1.alloc (.cells #[.int .u64 (y : Int), .int .i64 (s : Int)] 51)).cell? ((⟨w1.heap.size, 0, none⟩ : Addr).add j) = some u := by
              intro j u hu
              rw [Addr.add_mid, Nat.zero_add, w3r.cell]
              simpa [fl] using hu
            have hN2 : wh.heap.size ≤ (w1.alloc (.cells #[.int .u64 (y : Int), .int .i64 (s : Int)] 51)).heap.size := by simp; omega
            have hmx : (cdl l kc).length + [(y, (s : Int))].length ≤ 1000000 := by rw [hCL]; simp; omega
            have w3b := q5.alloc (o := .cells #[.int .u64 (y : Int), .int .i64 (s : Int)] 51) q5.size
            have w3g := q1.alloc (.cells #[.int .u64 (y : Int), .int .i64 (s : Int)] 51)
            clear q1 q2 q3 q4 q5 q7 w3r hrv
            go_wp2_with (refine wpList_append_pair rfl (.tmp 46) (.tmp 48) rfl wh.heap.size hN2 _ (cdl l kc) rfl w3o _ _ _ [(y, (s : Int))] rfl rfl hcell hmx ?_; intro v' w3 o3 b3)
            exact ⟨⟨kc + 1, by omega, by go_num, by rw [CUk.out]; exact o3, w3g.below b3 hgl, w3b.trans (b3.mono hz1), Nat.le_trans hN2 b3.size⟩, by simp [intOf]; omega⟩

      · obtain rfl : k = n := by omega
        clear LN MC CS CP CU CZ IG IL HCL
        go_wp2_with fail
        go_ret2
        refine ⟨_, rfl, .inl ⟨trivial, ?_⟩, hbl⟩
        have := hown.prs
        rw [CF.out] at this
        exact this
  · obtain ⟨a, c, rfl, hc, h3⟩ := h
    have i0 : (Gf.chkE l == 0) = false := by rw [beq_eq_false_iff_ne]; exact h0
    have H0 := Box'.mk h0
    generalize hE : Gf.chkE l = E at *
    have HE := Box'.mk hE
    clear h3 h0 hE
    go_enter Try.func9, Try.ntmps9
    go_wp2_with (go_at_call 19; refine hk.mono ?_; rintro e w' ⟨rfl, hw'⟩; rw [hw'])
    go_ret2
    exact ⟨_, rfl, .inr ⟨H0.out, rfl⟩, Below.refl _ _⟩
end Go.Proofs.Ytkabpnheipnnaaa
