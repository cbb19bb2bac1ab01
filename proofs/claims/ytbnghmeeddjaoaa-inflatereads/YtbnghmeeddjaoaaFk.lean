/- Forks in a row of one's own; the walk of graft. -/
import Derived.Test.YtbnghmeeddjaoaaFh
import Derived.Test.YtbnghmeeddjaoaaFj
import Derived.Laws.DeepNot64
namespace Go.Proofs.Ytbnghmeeddjaoaa
open Go.RowKit Go.BigFrame Gt

def flF : List Fk → List Value
  | [] => []
  | x :: r => .int .i64 x.1 :: .int .i64 x.2 :: flF r
theorem flF_app (a b : List Fk) : flF (a ++ b) = flF a ++ flF b := by
  induction a with
  | nil => rfl
  | cons x r ih => simp [flF, ih]
theorem flF_len (a : List Fk) : (flF a).length = a.length * 2 := by
  induction a with
  | nil => rfl
  | cons x r ih => simp only [flF, List.length_cons, ih]; omega
theorem flF_get (d : List Fk) (q c : Nat) (hq : q < d.length) (hc : c < 2) : (flF d)[q * 2 + c]? = some (.int .i64 (get d q c)) := by
  induction d generalizing q with
  | nil => simp at hq
  | cons x r ih =>
    cases q with
    | zero =>
      rcases (by omega : c = 0 ∨ c = 1) with rfl | rfl
      · rfl
      · rfl
    | succ q =>
      have := ih q (by simpa using hq)
      rw [show (q + 1) * 2 + c = q * 2 + c + 1 + 1 by omega]
      have e : Gt.get (x :: r) (q + 1) c = Gt.get r q c := rfl
      rw [e]
      simpa [flF] using this
theorem flF_put (d : List Fk) (q c : Nat) (t : Int) (hq : q < d.length) (hc : c < 2) : (flF d).set (q * 2 + c) (.int .i64 t) = flF (put d q c t) := by
  induction d generalizing q with
  | nil => simp at hq
  | cons x r ih =>
    cases q with
    | zero =>
      rcases (by omega : c = 0 ∨ c = 1) with rfl | rfl
      · rfl
      · rfl
    | succ q =>
      have := ih q (by simpa using hq)
      rw [show (q + 1) * 2 + c = q * 2 + c + 1 + 1 by omega]
      simp only [flF, List.set_cons_succ]
      rw [this]
      simp [put, flF]
theorem flF_one (a : List Fk) : ∀ u ∈ flF a, u.oneCell' = true := by
  induction a with
  | nil => intro u hu; cases hu
  | cons x r ih =>
    intro u hu
    simp only [flF, List.mem_cons] at hu
    rcases hu with rfl | rfl | hu
    · rfl
    · rfl
    · exact ih u hu
/-- A row of forks of one's own, that grows. -/
def OwnF (N : Nat) (w : World) (v : Value) (d : List Fk) : Prop := w.ownsRow N 82 2 v d.length (flF d)
theorem OwnF.same {N : Nat} {w w' : World} {v : Value} {d : List Fk} (h : OwnF N w v d) (hb : ∀ g, v.ownBlock = some g → w'.heap[g]? = w.heap[g]?) : OwnF N w' v d := by
  refine ⟨h.1, ?_⟩
  rcases h.2 with h2 | ⟨g, cap, cur, e1, e2, e3, e4⟩
  · exact .inl h2
  · exact .inr ⟨g, cap, cur, e1, e2, by rw [hb g (by rw [e1]; rfl)]; exact e3, e4⟩
theorem OwnF.lt {N : Nat} {w : World} {v : Value} {d : List Fk} (h : OwnF N w v d) : ∀ g, v.ownBlock = some g → N ≤ g ∧ g < w.heap.size := by
  intro k hk
  rcases h.2 with ⟨e, _⟩ | ⟨g, cap, cur, e1, e2, e3, _⟩
  · rw [e] at hk; simp [Value.ownBlock] at hk
  · rw [e1] at hk; simp [Value.ownBlock] at hk; subst hk; exact ⟨e2, (Array.getElem?_eq_some_iff.1 e3).1⟩
/-- The row's cells, and what a store into one makes of it. -/
theorem OwnF.seg {N : Nat} {w : World} {v : Value} {d : List Fk} (h : OwnF N w v d) (hd : 0 < d.length) : ∃ g cap, v = .slice (some ⟨g, 0, none⟩) d.length cap ∧ N ≤ g ∧ d.length ≤ cap ∧ g < w.heap.size ∧ (∀ q c, q < d.length → c < 2 → w.cell? ⟨g, q * 2 + c, none⟩ = some (.int .i64 (get d q c))) ∧ (∀ k, w.frozen? ⟨g, k, none⟩ = false) ∧
    ∀ q c t, q < d.length → c < 2 → OwnF N (w.setCell ⟨g, q * 2 + c, none⟩ (.int .i64 t)) v (put d q c t) := by
  rcases h.2 with ⟨e, e0⟩ | ⟨g, cap, cur, e1, e2, e3, e4, e5, e6, e7⟩
  · omega
  · have r : Row w g 82 cur := e3
    refine ⟨g, cap, e1, e2, e4, r.lt, fun q c hq hc => ?_, fun k => r.frozen k, fun q c t hq hc => ?_⟩
    · have hf := flF_get d q c hq hc
      rw [← e7, List.getElem?_take_of_lt (by omega)] at hf
      rw [r.cell]
      simpa using hf
    · have hr := r.setCell (q * 2 + c) (.int .i64 t)
      refine ⟨by rw [flF_len], .inr ⟨g, cap, _, ?_, e2, hr, ?_, e5, ?_, ?_⟩⟩
      · rw [put_len]; exact e1
      · rw [put_len]; exact e4
      · rw [Array.size_setIfInBounds]; exact e6
      · rw [put_len, ← flF_put d q c t hq hc, ← e7, Array.toList_setIfInBounds, List.take_set]
theorem OwnF.row {N : Nat} {w : World} {v : Value} {d : List Fk} (h : OwnF N w v d) : ∀ g, v.ownBlock = some g → ∃ cur, Row w g 82 cur := by
  intro k hk
  rcases h.2 with ⟨e, _⟩ | ⟨g, cap, cur, e1, e2, e3, _⟩
  · rw [e] at hk; simp [Value.ownBlock] at hk
  · rw [e1] at hk; simp [Value.ownBlock] at hk; subst hk; exact ⟨cur, e3⟩
theorem OwnF.ne {N : Nat} {w : World} {v : Value} {d : List Fk} {bx : Nat} {c : Array Value} (h : OwnF N w v d) (r : Row w bx 92 c) : ∀ g, v.ownBlock = some g → g ≠ bx := by
  rintro g hg rfl
  obtain ⟨cur, r2⟩ := h.row g hg
  unfold Row at r r2
  rw [r] at r2
  simp at r2
theorem Try.info82' : ∃ i, Try.prog.info? 82 = some i ∧ i.zero = some (.agg #[.int .i64 0, .int .i64 0]) ∧ i.size = 2 ∧ i.bytes = 16 := ⟨_, rfl, rfl, rfl, rfl⟩
theorem wpList_append_fork {ops : Array Oper} {rest : List Oper} {o : Oper} {a : Act} {w : World} {Q : Exit → Act → World → Prop} (hgd : o.guard = none) (s x : Operand)
    (ho : o.op = .call { callee := .builtin .append, args := #[s, x], argTypes := #[79, 79] }) (N : Nat) (hN : N ≤ w.heap.size)
    (v : Value) (d : List Fk) (hs : a.eval s = v) (hown : OwnF N w v d) (g c : Nat) (hx : a.eval x = .slice (some ⟨g, 0, none⟩) 1 c)
    (hc : Row w g 82 #[.int .i64 0, .int .i64 0]) (hmax : d.length + 1 ≤ 1000000)
    (h : ∀ v' w', OwnF N w' v' (d ++ [(0, 0)]) → w.grownBy w' v.ownBlock → wpList Try.prog ops Q rest (a.put o.dst v') w') : wpList Try.prog ops Q (o :: rest) a w := by
  obtain ⟨i, h1, h2, h3, h4⟩ := Try.info82'
  obtain ⟨v', w', hr, g2, g3, _⟩ := run_append_own (P := Try.prog) w N 79 o.type 82 i _ 2 16 Try.underlying79 h1 h2 h3 h4 rfl (by decide) v d.length (flF d) hown ⟨g, 0, none⟩ 1 c (flF [(0, 0)]) rfl (fun j y hy => by
    rw [Addr.add_mid, Nat.zero_add, hc.cell]
    simpa [flF] using hy) (flF_one _) (by unfold maxLen; omega) (by omega) hN
  have g2' : OwnF N w' v' (d ++ [(0, 0)]) := by unfold OwnF; rw [List.length_append, flF_app]; exact g2
  refine wpList_plain hgd fun K hK => ?_
  unfold Oper.wp execOp
  simp only [ho, resolve, invoke, builtin, Sem.run_bind, Sem.run_pure, Result.andThen_ok, List.map_toArray, List.map_cons, List.map_nil, hs, hx, hr]
  exact hK _ _ (h v' w' g2' g3)
/-- The bits of a number, the lowest one first. -/
def bitsL (v : Nat) : Nat → List Nat
  | 0 => []
  | n + 1 => v % 2 :: bitsL (v / 2) n
/-- The places that a code's way comes to are there. -/
def gok : List Nat → List Fk → Nat → Prop
  | [], _, _ => True
  | [_], fs, q => q < fs.length
  | c :: d :: r, fs, q => q < fs.length ∧ (get fs q c = 0 → gok (d :: r) (put fs q c (fs.length : Int) ++ [(0, 0)]) fs.length) ∧ (get fs q c ≠ 0 → 0 < get fs q c ∧ gok (d :: r) fs (get fs q c).toNat)
theorem gok_lt {rest : List Nat} {fs : List Fk} {q : Nat} (h : gok rest fs q) (hr : rest ≠ []) : q < fs.length := by
  match rest, h, hr with
  | [_], h, _ => exact h
  | _ :: _ :: _, h, _ => exact h.1
theorem box_set {w : World} {bx : Nat} {a b : Value} (r : Row w bx 92 #[a, b]) (x y : Value) : Row ((w.setCell ⟨bx, 0, none⟩ x).setCell ⟨bx, 1, none⟩ y) bx 92 #[x, y] := by
  have := (r.setCell 0 x).setCell 1 y
  simpa using this
theorem and_one (v : Nat) (h : v < 18446744073709551616) : bits .and .u64 (v : Int) 1 = ((v % 2 : Nat) : Int) := by
  have := u64_and_nat v 1 h (by decide)
  rw [Nat.and_one_is_mod] at this
  exact this
set_option maxRecDepth 100000 in
set_option maxHeartbeats 4000000 in
theorem graft_any (N : Nat) (fv : Value) (fs : List Fk) (v n : Nat) (s : Int) (hs : 0 ≤ s ∧ s ≤ 1000) (hn1 : 1 ≤ n) (hn : n ≤ 15) (hv : v < 2 ^ n) (hfl : fs.length + n ≤ 9000) (hg : gok (bitsL v n) fs 0) (w : World) (hN : N ≤ w.heap.size) (h : OwnF N w fv fs) :
    Calls Try.prog 56 #[fv, .agg #[.int .u64 (v : Int), .int .i64 (n : Int)], .int .i64 s] w fun e w' => ∃ u, e = .returned u ∧ OwnF N w' u (graftB (bitsL v n) fs 0 s) ∧ Below N w w' := by
  have h1 : OwnF N (w.alloc (.cells #[.int .u64 (v : Int), .int .i64 (n : Int)] 92)) fv fs := h.same fun g hg => Below.heap_alloc _ _ _ (h.lt g hg).2
  have r1 := Row.new w 92 #[.int .u64 (v : Int), .int .i64 (n : Int)]
  have b1 := (Below.refl N w).alloc hN (.cells #[.int .u64 (v : Int), .int .i64 (n : Int)] 92)
  clear h
  go_enter Try.func56, Try.ntmps56
  go_wp2_with fail
  go_loopw [0, 7] (fun t i wr => ∃ (v' n' q : Nat) (fs' : List Fk), i = .int .i64 (q : Int) ∧ 1 ≤ n' ∧ n' ≤ 15 ∧ v' < 2 ^ n' ∧ fs'.length + n' ≤ 9000 ∧ Box' (gok (bitsL v' n') fs' q) ∧ Box' (graftB (bitsL v' n') fs' q s = graftB (bitsL v n) fs 0 s) ∧ OwnF N wr t fs' ∧ Row wr w.heap.size 92 #[.int .u64 (v' : Int), .int .i64 (n' : Int)] ∧ Below N w wr) (fun _ _ wr => match wr.cell? ⟨w.heap.size, 1, none⟩ with | some (.int _ z) => z.toNat | _ => 0)
  case atStart => exact ⟨v, n, 0, fs, rfl, hn1, hn, hv, hfl, ⟨hg⟩, ⟨rfl⟩, h1, r1, b1⟩
  case round =>
    clear h1 r1 b1 hg hv hn hn1 hfl
    obtain ⟨v', n', q, fs', rfl, hn1, hn, hv, hfl, HG, HE, ho, rb, hbl⟩ := hrel
    have hB : bitsL v' n' ≠ [] := by cases n' with
      | zero => omega
      | succ m => simp [bitsL]
    have hq := gok_lt HG.out hB
    obtain ⟨g, cap, e, hgN, hcap, hgl, hcl, hfz, hset⟩ := ho.seg (by omega)
    have hgne : g ≠ w.heap.size := ho.ne rb g (by rw [e]; rfl)
    subst e
    have cv : wr.cell? ⟨w.heap.size, 0, none⟩ = some (.int .u64 (v' : Int)) := by rw [rb.cell]; rfl
    have cn : wr.cell? ⟨w.heap.size, 1, none⟩ = some (.int .i64 (n' : Int)) := by rw [rb.cell]; rfl
    have fv0 := rb.frozen 0
    have fn0 := rb.frozen 1
    have hv64 : v' < 65536 := Nat.lt_of_lt_of_le hv (Nat.le_trans (Nat.pow_le_pow_right (by decide) hn) (by decide))
    have hand := and_one v' (by omega)
    by_cases hn2 : 2 ≤ n'
    · obtain ⟨m, rfl⟩ : ∃ m, n' = m + 2 := ⟨n' - 2, by omega⟩
      have hbits : bitsL v' (m + 2) = v' % 2 :: (v' / 2) % 2 :: bitsL (v' / 2 / 2) m := rfl
      have hbits2 : bitsL (v' / 2) (m + 1) = (v' / 2) % 2 :: bitsL (v' / 2 / 2) m := rfl
      have hgk := HG.out
      have hge := HE.out
      rw [hbits] at hgk hge
      rw [graftB] at hge
      obtain ⟨_, hg0, hg1⟩ := hgk
      have hc2 : v' % 2 < 2 := Nat.mod_lt _ (by decide)
      have cq := hcl q (v' % 2) hq hc2
      have hv2 : v' / 2 < 2 ^ (m + 1) := by rw [Nat.pow_succ] at hv ⊢; rw [Nat.pow_succ] at hv; omega
      generalize hcc : v' % 2 = c at *
      generalize hhv : v' / 2 = h2 at *
      have HO := Box'.mk ho
      have RB := Box'.mk rb
      have HSET := Box'.mk hset
      have HCL := Box'.mk hcl
      have HB2 := Box'.mk hbits2
      have HGE := Box'.mk hge
      have HG0 := Box'.mk hg0
      have HG1 := Box'.mk hg1
      have fq := hfz (q * 2 + c)
      clear ho rb hset hcl hbits hbits2 hge hg0 hg1 HG HE hB hfz
      by_cases ht : get fs' q c = 0
      · rw [ht] at cq
        have HT := Box'.mk ht
        have own1 := HSET.out q c (fs'.length : Int) hq hc2
        have rb1 : Row (wr.setCell ⟨g, q * 2 + c, none⟩ (.int .i64 (fs'.length : Int))) w.heap.size 92 #[.int .u64 (v' : Int), .int .i64 ((m + 2 : Nat) : Int)] := RB.out.setOther _ _ (by show w.heap.size ≠ g; exact Ne.symm hgne)
        have bl1 : Below N w (wr.setCell ⟨g, q * 2 + c, none⟩ (.int .i64 (fs'.length : Int))) := hbl.setCell (p := ⟨g, q * 2 + c, none⟩) hgN _
        have hz := hbl.size
        have cz : (wr.setCell ⟨g, q * 2 + c, none⟩ (.int .i64 (fs'.length : Int))).heap.size = wr.heap.size := by simp [World.setCell]
        have own2 : OwnF N ((wr.setCell ⟨g, q * 2 + c, none⟩ (.int .i64 (fs'.length : Int))).alloc (.cells #[.int .i64 0, .int .i64 0] 82)) (.slice (some ⟨g, 0, none⟩) fs'.length cap) (put fs' q c (fs'.length : Int)) := own1.same fun k hk => Below.heap_alloc _ _ _ (own1.lt k hk).2
        have rb2 := rb1.alloc (.cells #[.int .i64 0, .int .i64 0] 82)
        have bl2 := bl1.alloc (by rw [cz]; omega) (.cells #[.int .i64 0, .int .i64 0] 82)
        have row2 := Row.new (wr.setCell ⟨g, q * 2 + c, none⟩ (.int .i64 (fs'.length : Int))) 82 #[.int .i64 0, .int .i64 0]
        rw [cz] at row2
        have hN2 : N ≤ ((wr.setCell ⟨g, q * 2 + c, none⟩ (.int .i64 (fs'.length : Int))).alloc (.cells #[.int .i64 0, .int .i64 0] 82)).heap.size := by simp; omega
        have hmx : (put fs' q c (fs'.length : Int)).length + 1 ≤ 1000000 := by rw [put_len]; omega
        have OWN2 := Box'.mk own2
        have RB2 := Box'.mk rb2
        have BL2 := Box'.mk bl2
        have CN := Box'.mk cn
        have GR : Box' (∀ v3 w3, OwnF N w3 v3 (put fs' q c (fs'.length : Int) ++ [(0, 0)]) → ((wr.setCell ⟨g, q * 2 + c, none⟩ (.int .i64 (fs'.length : Int))).alloc (.cells #[.int .i64 0, .int .i64 0] 82)).grownBy w3 (Value.slice (some ⟨g, 0, none⟩) fs'.length cap).ownBlock → ∃ g' cap', v3 = .slice (some ⟨g', 0, none⟩) (fs'.length + 1) cap' ∧ w3.cell? ⟨g', q * 2 + c, none⟩ = some (.int .i64 (fs'.length : Int)) ∧ w3.cell? ⟨w.heap.size, 0, none⟩ = some (.int .u64 (v' : Int)) ∧ w3.cell? ⟨w.heap.size, 1, none⟩ = some (.int .i64 ((m + 2 : Nat) : Int)) ∧ w3.frozen? ⟨w.heap.size, 0, none⟩ = false ∧ w3.frozen? ⟨w.heap.size, 1, none⟩ = false ∧ Box' (Row w3 w.heap.size 92 #[.int .u64 (v' : Int), .int .i64 ((m + 2 : Nat) : Int)] ∧ OwnF N w3 (.slice (some ⟨g', 0, none⟩) (fs'.length + 1) cap') (put fs' q c (fs'.length : Int) ++ [(0, 0)]) ∧ Below N w w3)) := ⟨fun v3 w3 o3 g3 => by
          have hL : (put fs' q c (fs'.length : Int) ++ [(0, 0)]).length = fs'.length + 1 := by rw [List.length_append, put_len]; rfl
          have rb3 := RB2.out.same (g3.block w.heap.size RB2.out.lt (fun e => OWN2.out.ne RB2.out _ e.symm rfl))
          have bl3 := BL2.out.grown g3 hN2 (fun k hk => (OWN2.out.lt k hk).1)
          obtain ⟨g', cap', e, _, _, _, hc3, _, _⟩ := o3.seg (by omega)
          rw [hL] at e
          subst e
          refine ⟨g', cap', rfl, ?_, by rw [rb3.cell]; rfl, by rw [rb3.cell]; rfl, rb3.frozen 0, rb3.frozen 1, ⟨rb3, o3, bl3⟩⟩
          have := hc3 q c (by omega) hc2
          rw [get_grow fs' q c q c hq hc2 hq hc2, if_pos ⟨rfl, rfl⟩] at this
          exact this⟩
        clear own1 rb1 bl1 rb2 bl2 ht
        go_wp2_with (refine wpList_append_fork rfl (.tmp 29) (.tmp 31) rfl N hN2 _ (put fs' q c (fs'.length : Int)) rfl own2 _ _ rfl row2 hmx ?_; intro v3 w3 o3 g3; obtain ⟨g', cap', rfl, cq3, cv3, cn3, f03, f13, FIN⟩ := GR.out v3 w3 o3 g3; clear o3 g3 GR own2 row2 hN2 hmx cv cn fv0 fn0 cq fq hand hbl cz)
        obtain ⟨rb3, o3, bl3⟩ := FIN.out
        have e1 : ((v' : Int) / 2) = (h2 : Int) := by omega
        have e2 : ((m : Int) + 2 - 1) = ((m + 1 : Nat) : Int) := by omega
        rw [e1, e2]
        have rb4 := box_set rb3 (.int .u64 (h2 : Int)) (.int .i64 ((m + 1 : Nat) : Int))
        have o4 : OwnF N ((w3.setCell ⟨w.heap.size, 0, none⟩ (.int .u64 (h2 : Int))).setCell ⟨w.heap.size, 1, none⟩ (.int .i64 ((m + 1 : Nat) : Int))) (.slice (some ⟨g', 0, none⟩) (fs'.length + 1) cap') (put fs' q c (fs'.length : Int) ++ [(0, 0)]) := o3.same fun k hk => by
          have hk' : k ≠ w.heap.size := o3.ne rb3 k hk
          rw [Below.heap_setCell _ _ _ _ hk', Below.heap_setCell _ _ _ _ hk']
        have bl4 := (bl3.setCell (p := ⟨w.heap.size, 0, none⟩) hN (.int .u64 (h2 : Int))).setCell (p := ⟨w.heap.size, 1, none⟩) hN (.int .i64 ((m + 1 : Nat) : Int))
        refine ⟨⟨h2, m + 1, fs'.length, put fs' q c (fs'.length : Int) ++ [(0, 0)], rfl, by omega, by omega, hv2, by rw [List.length_append, put_len]; show fs'.length + 1 + (m + 1) ≤ 9000; omega, ⟨by rw [HB2.out]; exact HG0.out HT.out⟩, ⟨?_⟩, o4, rb4, bl4⟩, ?_⟩
        · have := HGE.out
          rw [if_pos HT.out] at this
          rw [HB2.out]; exact this
        · rw [rb4.cell, CN.out]
          show ((m + 1 : Nat) : Int).toNat < ((m + 2 : Nat) : Int).toNat
          omega
      · have HT := Box'.mk ht
        obtain ⟨tp, tg⟩ := HG1.out ht
        obtain ⟨q2, hq2⟩ : ∃ q2 : Nat, get fs' q c = (q2 : Int) := ⟨(get fs' q c).toNat, by omega⟩
        have hne : ((q2 : Int) == 0) = false := by rw [beq_eq_false_iff_ne]; omega
        rw [hq2] at cq tg
        have e1 : ((v' : Int) / 2) = (h2 : Int) := by omega
        have e2 : ((m : Int) + 2 - 1) = ((m + 1 : Nat) : Int) := by omega
        have RB2 : Box' (Row ((wr.setCell ⟨w.heap.size, 0, none⟩ (.int .u64 ((v' : Int) / 2))).setCell ⟨w.heap.size, 1, none⟩ (.int .i64 ((m : Int) + 2 - 1))) w.heap.size 92 #[.int .u64 (h2 : Int), .int .i64 ((m + 1 : Nat) : Int)]) := ⟨by rw [e1, e2]; exact box_set RB.out _ _⟩
        have OW2 : Box' (OwnF N ((wr.setCell ⟨w.heap.size, 0, none⟩ (.int .u64 ((v' : Int) / 2))).setCell ⟨w.heap.size, 1, none⟩ (.int .i64 ((m : Int) + 2 - 1))) (.slice (some ⟨g, 0, none⟩) fs'.length cap) fs') := ⟨HO.out.same fun k hk => by
          have hk' : k ≠ w.heap.size := HO.out.ne RB.out k hk
          rw [Below.heap_setCell _ _ _ _ hk', Below.heap_setCell _ _ _ _ hk']⟩
        have BL2 : Box' (Below N w ((wr.setCell ⟨w.heap.size, 0, none⟩ (.int .u64 ((v' : Int) / 2))).setCell ⟨w.heap.size, 1, none⟩ (.int .i64 ((m : Int) + 2 - 1)))) := ⟨(hbl.setCell (p := ⟨w.heap.size, 0, none⟩) hN _).setCell (p := ⟨w.heap.size, 1, none⟩) hN _⟩
        have MC : Box' (((wr.setCell ⟨w.heap.size, 0, none⟩ (.int .u64 ((v' : Int) / 2))).setCell ⟨w.heap.size, 1, none⟩ (.int .i64 ((m : Int) + 2 - 1))).cell? ⟨w.heap.size, 1, none⟩ = some (.int .i64 ((m + 1 : Nat) : Int))) := ⟨by rw [RB2.out.cell]; rfl⟩
        have CN := Box'.mk cn
        clear ht tp e1 e2
        go_wp2_with fail
        refine ⟨⟨h2, m + 1, q2, fs', rfl, by omega, by omega, hv2, by omega, ⟨by rw [HB2.out]; exact tg⟩, ⟨?_⟩, OW2.out, RB2.out, BL2.out⟩, ?_⟩
        · have := HGE.out
          rw [if_neg HT.out, hq2, Int.toNat_natCast] at this
          rw [HB2.out]; exact this
        · rw [MC.out, CN.out]
          show ((m + 1 : Nat) : Int).toNat < ((m + 2 : Nat) : Int).toNat
          omega
    · obtain rfl : n' = 1 := by omega
      have hv1 : v' < 2 := hv
      have hge := HE.out
      rw [show bitsL v' 1 = [v' % 2] from rfl, Nat.mod_eq_of_lt hv1, graftB] at hge
      have HGE := Box'.mk hge
      have own1 := hset q v' (-s - 1) hq hv1
      have cq := hcl q v' hq hv1
      have fq := hfz (q * 2 + v')
      have bl1 := hbl.setCell (p := ⟨g, q * 2 + v', none⟩) hgN (.int .i64 (-s - 1))
      rw [hge] at own1
      have OW := Box'.mk own1
      have BL := Box'.mk bl1
      have hs1 := hs.1
      have hs2 := hs.2
      generalize get fs' q v' = t at *
      clear hset hcl hge HG HE hB hfz ho rb own1 bl1 hbl
      go_wp2_with fail
      have cv' : wr.drew.cell? ⟨w.heap.size, 0, none⟩ = some (.int .u64 (v' : Int)) := cv
      have cq' : wr.drew.cell? ⟨g, q * 2 + v', none⟩ = some (.int .i64 t) := cq
      have fq' : wr.drew.frozen? ⟨g, q * 2 + v', none⟩ = false := fq
      have hx : bits BinOp.xor IntKind.i64 (if IntKind.i64.signed = true then -1 else 9223372036854775807) s = -s - 1 := by
        obtain ⟨a, rfl⟩ : ∃ a : Nat, s = (a : Int) := ⟨s.toNat, by omega⟩
        rw [if_pos (by rfl), i64_not a (by omega)]
        omega
      go_region
      clear cv' cq' fq' cv cn cq fq hx
      go_wp2_with fail
      go_ret
      exact ⟨_, rfl, OW.out, BL.out.drew⟩
end Go.Proofs.Ytbnghmeeddjaoaa
