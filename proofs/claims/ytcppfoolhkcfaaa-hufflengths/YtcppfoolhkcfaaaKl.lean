/- The walks of SortStableFunc, for numbers, and of coming. -/
import Derived.Test.YtcppfoolhkcfaaaKk
namespace Go.Proofs.Ytcppfoolhkcfaaa
open Go.RowKit Go.BigFrame

set_option maxHeartbeats 1000000 in
theorem sortI_any (g c B pb N : Nat) (w0 : World) (k : Int → Int) (S : Int → Prop) (hcmp : CmpI B w0 pb k S) (hB : B ≤ g) (hB0 : B ≤ w0.heap.size) (D : List Int) (hDN : D.length = N) (hN2 : N ≤ 4096) (hS : ∀ x ∈ D, S x) (w : World) (hbl : Below B w0 w) (h : SegI w g D) :
    Calls Try.prog 48 #[.slice (some ⟨g, 0, none⟩) N c, cfI pb] w fun e w' => e = .returned (.tuple #[]) ∧ SegI w' g (Gs.srt k D) ∧ Gb g w w' := by
  have hc := stabI_any g c B pb N w0 k S hcmp hB hB0 D hDN hN2 hS w hbl h
  unfold cfI at *
  clear hcmp hS hDN h hbl
  go_enter Try.func48, Try.ntmps48
  go_wp2_with fail
  refine hc.mono ?_
  rintro e w2 ⟨rfl, s2, g2⟩
  clear hc
  go_wp2_with fail
  exact ⟨rfl, _, results48 _ _, rfl, s2, g2⟩

/-- A row of numbers of one's own, that grows. -/
def OwnI (N : Nat) (w : World) (v : Value) (d : List Int) : Prop := w.ownsRow N 3 1 v d.length (d.map (Value.int .i64))
theorem OwnI.nil (N : Nat) (w : World) : OwnI N w (.slice none 0 0) [] := ⟨rfl, .inl ⟨rfl, rfl⟩⟩
theorem OwnI.below {N : Nat} {w w' : World} {v : Value} {d : List Int} (h : OwnI N w v d) (hb : Below w.heap.size w w') : OwnI N w' v d := by
  refine ⟨h.1, ?_⟩
  rcases h.2 with h2 | ⟨g, cap, cur, e1, e2, e3, e4⟩
  · exact .inl h2
  · exact .inr ⟨g, cap, cur, e1, e2, by rw [hb.block g (Array.getElem?_eq_some_iff.1 e3).1]; exact e3, e4⟩
theorem OwnI.alloc {N : Nat} {w : World} {v : Value} {d : List Int} (h : OwnI N w v d) (o : Obj) : OwnI N (w.alloc o) v d := h.below ((Below.refl _ _).alloc (Nat.le_refl _) _)
theorem OwnI.lt {N : Nat} {w : World} {v : Value} {d : List Int} (h : OwnI N w v d) : ∀ g, v.ownBlock = some g → N ≤ g ∧ g < w.heap.size := by
  intro k hk
  rcases h.2 with ⟨e, _⟩ | ⟨g, cap, cur, e1, e2, e3, _⟩
  · rw [e] at hk; simp [Value.ownBlock] at hk
  · rw [e1] at hk; simp [Value.ownBlock] at hk; subst hk; exact ⟨e2, (Array.getElem?_eq_some_iff.1 e3).1⟩
theorem OwnI.seg {N : Nat} {w : World} {v : Value} {d : List Int} (h : OwnI N w v d) (hd : 0 < d.length) : ∃ g cap, v = .slice (some ⟨g, 0, none⟩) d.length cap ∧ N ≤ g ∧ d.length ≤ cap ∧ SegI w g d := by
  rcases h.2 with ⟨e, e0⟩ | ⟨g, cap, cur, e1, e2, e3, e4, e5, e6, e7⟩
  · omega
  · refine ⟨g, cap, e1, e2, e4, cur, e3, fun k hk => ?_⟩
    have hf : (d.map (Value.int .i64))[k]? = some (.int .i64 (d.getD k 0)) := by simp [hk]
    rw [← e7, List.getElem?_take_of_lt (by omega)] at hf
    simpa using hf
theorem one_Ii (l : List Int) : ∀ u ∈ l.map (Value.int .i64), u.oneCell' = true := by
  intro u hu
  obtain ⟨x, _, rfl⟩ := List.mem_map.1 hu
  rfl
theorem wpList_append_ints {ops : Array Oper} {rest : List Oper} {o : Oper} {a : Act} {w : World} {Q : Exit → Act → World → Prop} (hgd : o.guard = none) (s x : Operand)
    (ho : o.op = .call { callee := .builtin .append, args := #[s, x], argTypes := #[22, 22] }) (N : Nat) (hN : N ≤ w.heap.size)
    (v : Value) (d : List Int) (hs : a.eval s = v) (hown : OwnI N w v d) (ad : Addr) (m c : Nat) (l : List Int) (hx : a.eval x = .slice (some ad) m c) (hm : l.length = m)
    (hc : ∀ j u, (l.map (Value.int .i64))[j]? = some u → w.cell? (ad.add j) = some u) (hmax : d.length + l.length ≤ 1000000)
    (h : ∀ v' w', OwnI N w' v' (d ++ l) → Below N w w' → wpList Try.prog ops Q rest (a.put o.dst v') w') : wpList Try.prog ops Q (o :: rest) a w := by
  obtain ⟨i, h1, h2, h3, h4⟩ := Try.info3'
  obtain ⟨v', w', hr, g2, g3, _⟩ := run_append_own (P := Try.prog) w N 22 o.type 3 i _ 1 8 Try.underlying22 h1 h2 h3 h4 rfl (by decide) v d.length _ hown ad m c (l.map (Value.int .i64)) (by rw [List.length_map, hm, Nat.mul_one]) hc (one_Ii l) (by unfold maxLen; omega) (by omega) hN
  have g2' : OwnI N w' v' (d ++ l) := by unfold OwnI; rw [List.length_append, List.map_append, hm]; exact g2
  have hbl : Below N w w' := ⟨g3.os, g3.tape, g3.output, g3.size, fun k hk => g3.block k (by omega) (fun e => by have := (hown.lt k e.symm).1; omega)⟩
  refine wpList_plain hgd fun K hK => ?_
  unfold Oper.wp execOp
  simp only [ho, resolve, invoke, builtin, Sem.run_bind, Sem.run_pure, Result.andThen_ok, List.map_toArray, List.map_cons, List.map_nil, hs, hx, hr]
  exact hK _ _ (h v' w' g2' hbl)

/-- The symbols that come, as they stand. -/
def cmg (cs : List Int) (k : Nat) : List Int := ((List.range k).filter fun i => decide (0 < cs.getD i 0)).map fun (i : Nat) => (i : Int)
theorem cmg_on (cs : List Int) (k : Nat) (h : 0 < cs.getD k 0) : cmg cs (k + 1) = cmg cs k ++ [(k : Int)] := by
  unfold cmg
  rw [List.range_succ, List.filter_append, List.map_append, List.filter_cons_of_pos (by simp only [decide_eq_true_eq]; exact h)]; rfl
theorem cmg_off (cs : List Int) (k : Nat) (h : cs.getD k 0 ≤ 0) : cmg cs (k + 1) = cmg cs k := by
  unfold cmg
  rw [List.range_succ, List.filter_append, List.map_append, List.filter_cons_of_neg (by simp only [decide_eq_true_eq]; omega)]
  simp
theorem cmg_len (cs : List Int) (k : Nat) : (cmg cs k).length ≤ k := by
  unfold cmg
  rw [List.length_map]
  exact Nat.le_trans (List.length_filter_le _ _) (by simp)
theorem cmg_mem {cs : List Int} {k : Nat} {x : Int} (h : x ∈ cmg cs k) : ∃ i : Nat, x = (i : Int) ∧ i < k ∧ 0 < cs.getD i 0 := by
  unfold cmg at h
  obtain ⟨i, hi, rfl⟩ := List.mem_map.1 h
  rw [List.mem_filter] at hi
  exact ⟨i, rfl, List.mem_range.1 hi.1, of_decide_eq_true hi.2⟩
def keyC (cs : List Int) (x : Int) : Int := cs.getD x.toNat 0
def rising (cs : List Int) : List Int := Gs.srt (keyC cs) (cmg cs cs.length)

theorem insI_nil (cf : Value) (w : World) : Calls Try.prog 56 #[.slice none 0 0, .int .i64 0, .int .i64 0, cf] w fun e w' => e = .returned (.tuple #[]) ∧ w' = w := by
  go_enter Try.func56, Try.ntmps56
  go_wp2_with fail
  refine wp_loop_rounds 1 ?_
  rw [rounds_succ]
  go_wp2_with fail
  exact ⟨rfl, _, results56 _ _, rfl, rfl⟩
theorem stabI_nil (cf : Value) (w : World) : Calls Try.prog 52 #[.slice none 0 0, .int .i64 0, cf] w fun e w' => e = .returned (.tuple #[]) ∧ w' = w := by
  have hi := fun w => insI_nil cf w
  go_enter Try.func52, Try.ntmps52
  go_wp2_with fail
  refine wp_loop_rounds 1 ?_
  rw [rounds_succ]
  go_wp2_with (go_at_call 56; refine (hi _).mono ?_; rintro e w' ⟨rfl, hw'⟩; rw [hw'])
  refine wp_loop_rounds 1 ?_
  rw [rounds_succ]
  go_wp2_with fail
  exact ⟨rfl, _, results52 _ _, rfl, rfl⟩
theorem sortI_nil (cf : Value) (w : World) : Calls Try.prog 48 #[.slice none 0 0, cf] w fun e w' => e = .returned (.tuple #[]) ∧ w' = w := by
  have hi := fun w => stabI_nil cf w
  go_enter Try.func48, Try.ntmps48
  go_wp2_with (go_at_call 52; refine (hi _).mono ?_; rintro e w' ⟨rfl, hw'⟩; rw [hw'])
  exact ⟨rfl, _, results48 _ _, rfl, rfl⟩

theorem rising_len (cs : List Int) : (rising cs).length = (cmg cs cs.length).length := (Gs.srt_perm _ _).length_eq
set_option maxRecDepth 100000 in
set_option maxHeartbeats 4000000 in
theorem coming_any (v : Value) (cs : List Int) (h512 : cs.length ≤ 512) (w : World) (h : Ints w.heap.size w v cs) :
    Calls Try.prog 34 #[v] w fun e w' => ∃ u, e = .returned u ∧ ((rising cs = [] ∧ u = .slice none 0 0) ∨ (rising cs ≠ [] ∧ ∃ g c, u = .slice (some ⟨g, 0, none⟩) (rising cs).length c ∧ (rising cs).length ≤ c ∧ w.heap.size ≤ g ∧ SegI w' g (rising cs))) ∧ Below w.heap.size w w' := by
  obtain ⟨a, c, rfl, hc, h3⟩ := h
  have HCL := Box'.mk (Ints.cells h3)
  have CO := Box'.mk (cmg_on cs)
  have CF := Box'.mk (cmg_off cs)
  have CL := Box'.mk (cmg_len cs)
  have CM : Box' (∀ x, x ∈ cmg cs cs.length → ∃ i : Nat, x = (i : Int) ∧ i < cs.length ∧ 0 < cs.getD i 0) := ⟨fun x hx => cmg_mem hx⟩
  have RL := Box'.mk (rising_len cs)
  have RE : Box' (rising cs = Gs.srt (keyC cs) (cmg cs cs.length)) := ⟨rfl⟩
  have KC : Box' (∀ i : Nat, keyC cs (i : Int) = cs.getD i 0) := ⟨fun i => by unfold keyC; rw [Int.toNat_natCast]⟩
  generalize hn : cs.length = n at *
  have HN := Box'.mk hn
  clear h3 hn
  go_enter Try.func34, Try.ntmps34
  go_wp2_with fail
  go_loopw [3, 8] (fun t i wr => ∃ k : Nat, k ≤ n ∧ i = .int .i64 (k : Int) ∧ OwnI (w.heap.size + 1) wr t (cmg cs k) ∧ Box' (cmg cs k = [] → t = .slice none 0 0) ∧ Below (w.heap.size + 1) (w.alloc (.cells #[.slice a n c] 22)) wr) (fun _ i _ => n - (intOf i).toNat)
  case atStart => exact ⟨0, by omega, rfl, OwnI.nil _ _, ⟨fun _ => rfl⟩, Below.refl _ _⟩
  case round =>
    obtain ⟨k, hk, rfl, hown, HE, hbl⟩ := hrel
    have hz := hbl.size
    simp at hz
    by_cases hlt : k < n
    · obtain ⟨b, o, rfl, hbw, c0⟩ := HCL.out k hlt
      have c1 : wr.cell? ⟨b, o + k, none⟩ = some (.int .i64 (cs.getD k 0)) := by
        rw [hbl.cell (p := ⟨b, o + k, none⟩) (by show b < _; omega), World.cell?_of_block (Below.heap_alloc _ _ _ hbw)]; exact c0
      have hCL := CL.out k
      by_cases hpos : 0 < cs.getD k 0
      · have COk := Box'.mk (CO.out k hpos)
        have w2o := hown.alloc (.cells #[.int .i64 (k : Int)] 3)
        have w2r : Row (wr.alloc (.cells #[.int .i64 (k : Int)] 3)) wr.heap.size 3 #[.int .i64 (k : Int)] := Row.new _ _ _
        have w2b := hbl.alloc (o := .cells #[.int .i64 (k : Int)] 3) (by omega)
        have hcell : ∀ j u, ([(k : Int)].map (Value.int .i64))[j]? = some u → (wr.alloc (.cells #[.int .i64 (k : Int)] 3)).cell? ((⟨wr.heap.size, 0, none⟩ : Addr).add j) = some u := by
          intro j u hu
          rw [Addr.add_mid, Nat.zero_add, w2r.cell]
          simpa using hu
        have hN2 : w.heap.size + 1 ≤ (wr.alloc (.cells #[.int .i64 (k : Int)] 3)).heap.size := by simp; omega
        have hmx : (cmg cs k).length + [(k : Int)].length ≤ 1000000 := by simp; omega
        generalize cs.getD k 0 = x at *
        clear HCL CO CF CL CM RL RE KC c0 hown w2r
        go_wp2_with (refine wpList_append_ints rfl (.tmp 15) (.tmp 17) rfl (w.heap.size + 1) hN2 _ (cmg cs k) rfl w2o _ _ _ [(k : Int)] rfl rfl hcell hmx ?_; intro v' w3 o3 b3)
        exact ⟨⟨k + 1, by omega, by go_num, by rw [COk.out]; exact o3, ⟨fun e => by rw [COk.out] at e; simp at e⟩, w2b.trans b3⟩, by simp [intOf]; omega⟩
      · have hpos' : cs.getD k 0 ≤ 0 := by omega
        have CFk := Box'.mk (CF.out k hpos')
        generalize cs.getD k 0 = x at *
        clear HCL CO CF CL CM RL RE KC c0
        go_wp2_with fail
        exact ⟨⟨k + 1, by omega, by go_num, by rw [CFk.out]; exact hown, ⟨fun e => HE.out (by rw [← CFk.out]; exact e)⟩, hbl⟩, by simp [intOf]; omega⟩
    · obtain rfl : k = n := by omega
      by_cases hem : cmg cs k = []
      · obtain rfl := HE.out hem
        have hri : rising cs = [] := List.eq_nil_of_length_eq_zero (by rw [RL.out, hem]; rfl)
        have hso := fun W => sortI_nil (cfI w.heap.size) W
        unfold cfI at hso
        have bl2 : Below w.heap.size w wr := ((Below.refl _ _).alloc (Nat.le_refl _) _).trans (hbl.mono (by omega))
        have HRI := Box'.mk hri
        clear HCL CO CF CL CM RL RE KC hem HE hown hri
        go_wp2_with (go_at_call 48; refine (hso _).mono ?_; rintro e w' ⟨rfl, hw'⟩; rw [hw'])
        go_ret
        exact ⟨_, rfl, .inl ⟨HRI.out, rfl⟩, bl2⟩
      · obtain ⟨g, cap, rfl, hg, hcap, hseg⟩ := hown.seg (List.length_pos_iff.2 hem)
        have hcmp : CmpI (w.heap.size + 1) (w.alloc (.cells #[.slice a k c] 22)) w.heap.size (keyC cs) (fun x => ∃ i : Nat, x = (i : Int) ∧ i < k ∧ 0 < cs.getD i 0) := by
          rintro W hW x y ⟨i, rfl, hi, _⟩ ⟨j, rfl, hj, _⟩
          obtain ⟨b, o, rfl, hbw, c0⟩ := HCL.out i hi
          obtain ⟨b', o', e', hbw', c1⟩ := HCL.out j hj
          simp only [Option.some.injEq, Addr.mk.injEq, and_true] at e'
          obtain ⟨rfl, rfl⟩ := e'
          rw [KC.out, KC.out]
          refine coming1_any w.heap.size b o k c cs i j HN.out hi hj W ?_ ?_ ?_
          · rw [hW.cell (p := ⟨w.heap.size, 0, none⟩) (by show w.heap.size < _; omega)]
            have r := Row.new w 22 #[.slice (some ⟨b, o, none⟩) k c]
            rw [r.cell]; rfl
          · rw [hW.cell (p := ⟨b, o + i, none⟩) (by show b < _; omega), World.cell?_of_block (Below.heap_alloc _ _ _ hbw)]; exact c0
          · rw [hW.cell (p := ⟨b, o + j, none⟩) (by show b < _; omega), World.cell?_of_block (Below.heap_alloc _ _ _ hbw)]; exact c1
        have hso := sortI_any g cap (w.heap.size + 1) w.heap.size (cmg cs k).length (w.alloc (.cells #[.slice a k c] 22)) (keyC cs) _ hcmp hg (by simp) (cmg cs k) rfl (by have := CL.out k; omega) (fun x hx => CM.out x hx) wr hbl hseg
        rw [← RE.out] at hso
        unfold cfI at hso
        have RLB : Box' ((rising cs).length = (cmg cs k).length) := ⟨RL.out⟩
        have hCL := CL.out k
        have bl2 : ∀ W, Gb g wr W → Below w.heap.size w W := fun W hW => ((Below.refl _ _).alloc (Nat.le_refl _) _).trans ((hW.on hbl hg (by simp)).mono (by omega))
        have BL2 := Box'.mk bl2
        have hcap' : (cmg cs k).length ≤ cap := hcap
        have HNE : Box' (cmg cs k ≠ []) := ⟨hem⟩
        generalize hm : (cmg cs k).length = m at *
        clear HCL CO CF CL CM RL RE KC hem HE hown hcmp hseg bl2
        go_wp2_with fail
        refine hso.mono ?_
        rintro e w3 ⟨rfl, s3, g3⟩
        have b3 := BL2.out _ g3
        clear hso g3
        go_wp2_with fail
        go_ret
        refine ⟨_, rfl, .inr ⟨fun e => ?_, g, cap, ?_, ?_, by omega, s3⟩, b3⟩
        · have := RLB.out; rw [e] at this; exact HNE.out (List.eq_nil_of_length_eq_zero (by rw [hm, ← this]; rfl))
        · rw [RLB.out]; rfl
        · rw [RLB.out]; exact hcap'
end Go.Proofs.Ytcppfoolhkcfaaa
