/- The walk of lay. -/
import Derived.Test.YtcjfaahlchbcmaaK08
import Derived.Test.YtcjfaahlchbcmaaK01
namespace Go.Proofs.Ytcjfaahlchbcmaa
set_option linter.unusedVariables false
set_option linter.unusedSimpArgs false
open Go.RowKit Go.BigFrame
structure Chg (g : Nat) (w w' : World) : Prop where
  bel : ∀ N w0, N ≤ g → Below N w0 w → Below N w0 w'
  size : w'.heap.size = w.heap.size
  block : ∀ k, k ≠ g → w'.heap[k]? = w.heap[k]?
theorem Chg.refl (g : Nat) (w : World) : Chg g w w := ⟨fun _ _ _ h => h, rfl, fun _ _ => rfl⟩
theorem Chg.setCell {g : Nat} {w w' : World} (h : Chg g w w') (k : Nat) (v : Value) : Chg g w (w'.setCell ⟨g, k, none⟩ v) :=
  ⟨fun N w0 hN hb => (h.bel N w0 hN hb).setCell hN _, by rw [← h.size]; simp, fun j hj => by rw [Below.heap_setCell _ _ _ _ hj]; exact h.block j hj⟩
theorem Chg.drewN {g : Nat} {w w' : World} (h : Chg g w w') (n : Nat) : Chg g w (w'.drewN n) :=
  ⟨fun N w0 hN hb => Below.drewN (h.bel N w0 hN hb) n, h.size, h.block⟩
theorem Chg.drew {g : Nat} {w w' : World} (h : Chg g w w') : Chg g w w'.drew :=
  ⟨fun N w0 hN hb => (h.bel N w0 hN hb).drew, h.size, h.block⟩
theorem or_u8 (x y : UInt8) : bits .or .u8 (x.toNat : Int) (y.toNat : Int) = (((x ||| y).toNat : Nat) : Int) := by
  rw [u8_or_nat _ _ x.toNat_lt y.toNat_lt]; simp
theorem lay_byte (x : UInt8) (u r : Nat) (hr : r < 8) : bits .or .u8 (x.toNat : Int) (IntKind.u64.wrap ((u : Int) * 2 ^ r) % 256) = (((x ||| UInt8.ofNat (u % 2 ^ (8 - r) * 2 ^ r)).toNat : Nat) : Int) := by
  rw [← or_u8]
  congr 1
  have e1 : (u : Int) * 2 ^ r = ((u * 2 ^ r : Nat) : Int) := by simp
  have e2 : u % 2 ^ (8 - r) * 2 ^ r = u * 2 ^ r % 256 := by
    rw [← Nat.mul_mod_mul_right, ← Nat.pow_add, show 8 - r + r = 8 by omega]
  rw [e1, wrap_nat, e2, UInt8.toNat_ofNat']
  omega
theorem lay_next (Y u p r : Nat) (hY : Y < 2 ^ p) :
    Y + u % 2 ^ (8 - r) * 2 ^ p < 2 ^ (p + (8 - r)) ∧ Y + u % 2 ^ (8 - r) * 2 ^ p + u / 2 ^ (8 - r) * 2 ^ (p + (8 - r)) = Y + u * 2 ^ p := by
  have hc : u % 2 ^ (8 - r) < 2 ^ (8 - r) := Nat.mod_lt _ (Nat.two_pow_pos _)
  have hd := Nat.div_add_mod u (2 ^ (8 - r))
  constructor
  · have h1 : (u % 2 ^ (8 - r) + 1) * 2 ^ p ≤ 2 ^ (8 - r) * 2 ^ p := Nat.mul_le_mul_right _ hc
    rw [Nat.add_mul] at h1
    rw [Nat.pow_add, Nat.mul_comm (2 ^ p)]
    omega
  · have h2 : u * 2 ^ p = (2 ^ (8 - r) * (u / 2 ^ (8 - r)) + u % 2 ^ (8 - r)) * 2 ^ p := by rw [hd]
    rw [h2, Nat.add_mul, Nat.pow_add, Nat.mul_comm (2 ^ (8 - r)), Nat.mul_comm (2 ^ p), Nat.mul_assoc]
    omega
theorem lay_room (Y u p n : Nat) (hu : u ≠ 0) (h : Y + u * 2 ^ p < 2 ^ (8 * n)) : p < 8 * n := by
  have h1 : 1 * 2 ^ p ≤ u * 2 ^ p := Nat.mul_le_mul_right _ (by omega)
  have h2 : 2 ^ p < 2 ^ (8 * n) := by omega
  exact (Nat.pow_lt_pow_iff_right (by decide)).1 h2
theorem results66 (T : Array Value) (w : World) : (results Try.f66 T).run Try.prog w = .ok (.tuple #[]) w := by
  unfold results
  simp [go_sem]
set_option maxHeartbeats 1000000 in
theorem lay_any (g n X p0 v : Nat) (hn : n ≤ 65536) (hp : p0 ≤ 8 * n) (hv : v < 18446744073709551616) (hX : X < 2 ^ p0) (hZ : X + v * 2 ^ p0 < 2 ^ (8 * n)) (w : World) (hr : Row w g 5 (ag (Gf.byt n X))) :
    Calls Try.prog 66 #[.slice (some ⟨g, 0, none⟩) n n, .int .i64 (p0 : Int), .int .u64 (v : Int)] w fun e w' => e = .returned (.tuple #[]) ∧ Row w' g 5 (ag (Gf.byt n (X + v * 2 ^ p0))) ∧ Chg g w w' := by
  obtain ⟨Z, hZe⟩ : ∃ Z, Z = X + v * 2 ^ p0 := ⟨_, rfl⟩
  rw [← hZe] at hZ ⊢
  have HZ := Box'.mk hZ
  have H0 := Box'.mk (And.intro hX hZe)
  clear hZ hX hZe
  go_enter Try.func66, Try.ntmps66
  go_wp2_with fail
  go_loopw [1, 2] (fun a u wr => ∃ p m Y : Nat, p ≤ 8 * n ∧ a = .int .i64 (p : Int) ∧ u = .int .u64 (m : Int) ∧ m < 18446744073709551616 ∧ Box' (Y < 2 ^ p ∧ Z = Y + m * 2 ^ p) ∧ Row wr g 5 (ag (Gf.byt n Y)) ∧ Chg g w wr) (fun _ u _ => (intOf u).toNat)
  case atStart => exact ⟨p0, v, X, hp, rfl, rfl, hv, H0, hr, Chg.refl _ _⟩
  case round =>
    obtain ⟨p, m, Y, hp1, rfl, rfl, hm, HY, h1, hch⟩ := hrel
    by_cases h0 : m = 0
    · subst h0
      obtain rfl : Z = Y := by have := HY.out.2; omega
      go_wp2_with fail
      exact ⟨rfl, _, results66 _ _, rfl, h1, hch⟩
    · have i0 : ((m : Int) == 0) = false := by rw [beq_eq_false_iff_ne]; omega
      have hpn : p < 8 * n := lay_room Y m p n h0 (by have := HY.out.2; have := HZ.out; omega)
      have c1 := h1.byte (k := p / 8) (by rw [Gf.byt_len]; omega)
      have f1 := h1.frozen (p / 8)
      have E := Box'.mk (Gf.byt_or n Y p (m % 2 ^ (8 - p % 8)) HY.out.1 (by omega) (Nat.mod_lt _ (Nat.two_pow_pos _)))
      have NX := Box'.mk (lay_next Y m p (p % 8) HY.out.1)
      have hS := fun x => h1.setByte (p / 8) x
      have HS := Box'.mk hS
      have hLB := fun x => lay_byte x m (p % 8) (Nat.mod_lt _ (by decide))
      have LB := Box'.mk hLB
      generalize (Gf.byt n Y).getD (p / 8) 0 = x at *
      have hx := x.toNat_lt
      clear hS hLB
      go_wp2_with fail
      rw [LB.out x]
      have hr8 : p % 8 < 8 := Nat.mod_lt _ (by decide)
      have em : (m : Int) / 2 ^ (8 - p % 8) = ((m / 2 ^ (8 - p % 8) : Nat) : Int) := by simp
      have hlt : m / 2 ^ (8 - p % 8) < m := Nat.div_lt_self (by omega) (Nat.one_lt_two_pow (by omega))
      refine ⟨⟨p + (8 - p % 8), m / 2 ^ (8 - p % 8), Y + m % 2 ^ (8 - p % 8) * 2 ^ p, by omega, ?_, by rw [em], by omega, ⟨NX.out.1, by rw [NX.out.2]; exact HY.out.2⟩, ?_, hch.setCell _ _⟩, ?_⟩
      · congr 1; omega
      · rw [← E.out]; exact HS.out _
      · rw [em]; simp only [intOf]; omega
def Prs (N : Nat) (w : World) (v : Value) (l : List (Nat × Int)) : Prop :=
  ∃ a c, v = .slice a l.length c ∧ l.length ≤ c ∧ (∀ x ∈ l, x.1 < 18446744073709551616) ∧ (l = [] ∨ ∃ b o, a = some ⟨b, o, none⟩ ∧ b < N ∧
    ∀ k, k < l.length → w.cell? ⟨b, o + k * 2, none⟩ = some (.int .u64 ((l.getD k (0, 0)).1 : Int)) ∧ w.cell? ⟨b, o + k * 2 + 1, none⟩ = some (.int .i64 (l.getD k (0, 0)).2))
theorem Prs.below {N M : Nat} {w w' : World} {v : Value} {l : List (Nat × Int)} (h : Prs N w v l) (hb : Below M w w') (hN : N ≤ M) : Prs N w' v l := by
  obtain ⟨a, c, h1, h2, h3, h4⟩ := h
  refine ⟨a, c, h1, h2, h3, ?_⟩
  rcases h4 with h4 | ⟨b, o, h5, h6, h7⟩
  · exact .inl h4
  · refine .inr ⟨b, o, h5, h6, fun k hk => ?_⟩
    rw [hb.cell (p := ⟨b, o + k * 2, none⟩) (by show b < M; omega), hb.cell (p := ⟨b, o + k * 2 + 1, none⟩) (by show b < M; omega)]
    exact h7 k hk
theorem Prs.up {N M : Nat} {w : World} {v : Value} {l : List (Nat × Int)} (h : Prs N w v l) (hN : N ≤ M) : Prs M w v l := by
  obtain ⟨a, c, h1, h2, h3, h4⟩ := h
  refine ⟨a, c, h1, h2, h3, ?_⟩
  rcases h4 with h4 | ⟨b, o, h5, h6, h7⟩
  · exact .inl h4
  · exact .inr ⟨b, o, h5, by omega, h7⟩
theorem all_take {l : List (Nat × Int)} {k : Nat} (h : k < l.length) (ht : ∀ x ∈ l.take k, Gf.may x = true) (hm : Gf.may (l.getD k (0, 0)) = true) : ∀ x ∈ l.take (k + 1), Gf.may x = true := by
  rw [List.take_succ_eq_append_getElem h]
  intro x hx
  rcases List.mem_append.1 hx with h1 | h1
  · exact ht x h1
  · rw [List.mem_singleton] at h1; subst h1; simpa [h] using hm
set_option maxHeartbeats 1000000 in
theorem bitsCount_any (v : Value) (l : List (Nat × Int)) (hl : l.length ≤ 140737488355328) (w : World) (h : Prs w.heap.size w v l) :
    Calls Try.prog 64 #[v] w fun e w' => e = .returned (.tuple #[.int .i64 (Gf.cntN l), .int .i64 (Gf.cntE l)]) ∧ Below w.heap.size w w' := by
  obtain ⟨a, c, rfl, hc, h64, h3⟩ := h
  have hcl : ∀ k, k < l.length → ∃ b o, a = some ⟨b, o, none⟩ ∧ b < w.heap.size ∧ w.cell? ⟨b, o + k * 2, none⟩ = some (.int .u64 ((l.getD k (0, 0)).1 : Int)) ∧ w.cell? ⟨b, o + k * 2 + 1, none⟩ = some (.int .i64 (l.getD k (0, 0)).2) := by
    intro k hk
    rcases h3 with rfl | ⟨b, o, rfl, h5, h6⟩
    · simp at hk
    exact ⟨b, o, rfl, h5, h6 k hk⟩
  have HCL := Box'.mk hcl
  have TT := Box'.mk (Gf.tot_take l)
  have AT := Box'.mk (@all_take l)
  have CC := Box'.mk (Gf.cntE_cases l)
  have LE : Box' (l.take l.length = l) := ⟨List.take_length⟩
  have NM : Box' (∀ k, k < l.length → Gf.may (l.getD k (0, 0)) = false → Gf.cntE l = 2) := ⟨fun k hk hf => by
    unfold Gf.cntE
    rw [if_neg]
    intro hall
    have := hall l[k] (List.getElem_mem hk)
    simp [hk, this] at hf⟩
  generalize hn : l.length = n at *
  clear hcl h3 h64 hn
  go_enter Try.func64, Try.ntmps64
  go_wp2_with fail
  go_loopw [4, 9] (fun t i wr => ∃ k m : Nat, k ≤ n ∧ i = .int .i64 (k : Int) ∧ t = .int .i64 (m : Int) ∧ m ≤ 524289 ∧ Box' (m = min (Gf.tot (l.take k)) 524289) ∧ Box' (∀ x ∈ l.take k, Gf.may x = true) ∧ Below w.heap.size w wr) (fun _ i _ => n - (intOf i).toNat)
  case atStart => exact ⟨0, 0, by omega, rfl, rfl, by omega, ⟨by simp [Gf.tot]⟩, ⟨by simp⟩, Below.refl _ _⟩
  case round =>
    obtain ⟨k, m, hk, rfl, rfl, hm, HM, HA, hbl⟩ := hrel
    by_cases hlt : k < n
    · obtain ⟨b, o, rfl, hbw, c0, c1⟩ := HCL.out k hlt
      have TK := Box'.mk (TT.out k hlt)
      have AK := Box'.mk (AT.out hlt HA.out)
      have NK := Box'.mk (NM.out k hlt)
      obtain ⟨hc0, -⟩ := bcell hbl
      rw [← hc0 _ _ hbw] at c0 c1
      have hbs := hbl.size
      clear hc0
      generalize l.getD k (0, 0) = x at *
      obtain ⟨xv, xs⟩ := x
      simp only at c0 c1
      go_wp2_with fail
      cases hmay : Gf.may (xv, xs) with
      | false =>
        have e2 := Box'.mk (NK.out hmay)
        have e3 : Box' (Gf.cntN l = 0) := ⟨by unfold Gf.cntN; rw [e2.out]; rfl⟩
        refine (bitsMayBe_any xv xs _).mono ?_
        rw [hmay]
        rintro e w1 ⟨rfl, hb1⟩
        have bl2 : Below w.heap.size w w1 := (hbl.alloc hbs _).trans (hb1.mono (by simp; omega))
        clear hb1 c0 c1 HCL TT AT CC NM NK AK
        go_wp2_with fail
        go_ret2
        exact ⟨by rw [e2.out, e3.out]; rfl, bl2⟩
      | true =>
        refine (bitsMayBe_any xv xs _).mono ?_
        rw [hmay]
        rintro e w1 ⟨rfl, hb1⟩
        have bl2 : Below w.heap.size w w1 := (hbl.alloc hbs _).trans (hb1.mono (by simp; omega))
        have r1 : Row w1 wr.heap.size 73 #[.int .u64 (xv : Int), .int .i64 xs] := (Row.new _ _ _).below hb1 (by simp)
        have c2 : w1.cell? ⟨wr.heap.size, 1, none⟩ = some (.int .i64 xs) := by rw [r1.cell]; rfl
        have hxs : 0 ≤ xs ∧ xs ≤ 64 := by unfold Gf.may at hmay; have := of_decide_eq_true hmay; exact ⟨this.1, this.2.1⟩
        obtain ⟨hx0, hx1⟩ := hxs
        have AK2 := Box'.mk (AK.out hmay)
        clear hb1 c0 c1 r1 hmay NK AK HCL TT AT CC NM
        go_wp2_with fail
        refine ⟨⟨k + 1, min (Gf.tot (l.take (k + 1))) 524289, by omega, by go_num, ?_, Nat.min_le_right _ _, ⟨rfl⟩, ⟨AK2.out⟩, bl2⟩, by simp [intOf]; omega⟩
        have h1 := HM.out
        have h2 := TK.out
        congr 1
        split <;> omega
    · obtain rfl : k = n := by omega
      have h1 := HM.out
      have hA := HA.out
      rw [LE.out] at h1 hA
      rcases CC.out with ⟨e1, _, e3⟩ | ⟨e1, _, e3⟩ | ⟨e1, e2⟩
      · have e4 : Box' (Gf.cntN l = (m : Int)) := ⟨by unfold Gf.cntN; rw [if_pos e1]; omega⟩
        have e5 := Box'.mk e1
        have hm2 : m ≤ 524288 := by omega
        clear h1 hA CC HCL TT AT NM HM HA e1 e3
        go_wp2_with fail
        go_ret2
        exact ⟨by rw [e4.out, e5.out]; rfl, hbl⟩
      · have e4 : Box' (Gf.cntN l = 0) := ⟨by unfold Gf.cntN; rw [if_neg (by rw [e1]; decide)]⟩
        have e5 := Box'.mk e1
        have hm2 : 524288 < (m : Int) := by omega
        clear h1 hA CC HCL TT AT NM HM HA e1 e3
        go_wp2_with fail
        go_ret2
        exact ⟨by rw [e4.out, e5.out]; rfl, hbl⟩
      · exact absurd hA e2
def Wrote (w w' : World) (l : List (Nat × Int)) (u : Value) : Prop :=
  (Gf.cntE l = 0 ∧ ∃ g, u = .slice (some ⟨g, 0, none⟩) (Gf.wid l) (Gf.wid l) ∧ w.heap.size ≤ g ∧ Row w' g 5 (ag (Gf.byt (Gf.wid l) (Gf.val l)))) ∨ (Gf.cntE l ≠ 0 ∧ u = .slice none 0 0)
theorem byt_zero (n : Nat) : madeCells #[.int .u8 0] n = ag (Gf.byt n 0) := by
  unfold ag Gf.byt madeCells
  apply Array.ext'
  simp only [List.map_map, Array.toList_map, Array.toList_range]
  apply List.map_congr_left
  intro i _
  have : i % (#[Value.int .u8 0] : Array Value).size = 0 := Nat.mod_one i
  rw [this]
  simp [B]
set_option maxRecDepth 100000 in
theorem Try.info5w : ∃ i, Try.prog.info? 5 = some i ∧ i.zero = some (.int .u8 0) ∧ i.size = 1 ∧ i.bytes = 1 := ⟨_, rfl, rfl, rfl, rfl⟩
theorem wpList_make_bytes {ops : Array Oper} {rest : List Oper} {op : Oper} {a : Act} {w : World} {Q : Exit → Act → World → Prop}
    (hgd : op.guard = none) (x y : Operand) (ho : op.op = .makeSlice 23 x y) (L C : Int) (n : Nat) (hx : a.eval x = .int .i64 L) (hy : a.eval y = .int .i64 C) (hL : L = (n : Int)) (hC : C = (n : Int)) (hn : n ≤ 16777216)
    (h : wpList Try.prog ops Q rest (a.put op.dst (.slice (some ⟨w.heap.size, 0, none⟩) n n)) (w.alloc (.cells (ag (Gf.byt n 0)) 5))) : wpList Try.prog ops Q (op :: rest) a w := by
  obtain ⟨i, h1, h2, h3, h4⟩ := Try.info5w
  have hrun := run_make (P := Try.prog) w 23 5 i _ Try.underlying23 h1 h2 .i64 .i64 (n : Int) (n : Int) (by omega) (Int.le_refl _) (by rw [h4]; omega) (by omega)
  rw [h3, Int.toNat_natCast, Nat.mul_one, show (Value.int .u8 0).cells = #[.int .u8 0] from rfl, byt_zero] at hrun
  refine wpList_plain hgd fun K hK' => ?_
  subst hL hC
  unfold Oper.wp
  simp only [execOp, ho, hx, hy, Sem.run_bind, hrun, Result.andThen_ok]
  exact hK' _ _ h
set_option maxHeartbeats 1000000 in
theorem bitsWrite_any (v : Value) (l : List (Nat × Int)) (hl : l.length ≤ 140737488355328) (w : World) (h : Prs w.heap.size w v l) :
    Calls Try.prog 42 #[v] w fun e w' => ∃ u, e = .returned (.tuple #[u, .int .i64 (Gf.cntE l)]) ∧ Wrote w w' l u ∧ Below w.heap.size w w' := by
  have hcn := bitsCount_any v l hl w h
  obtain ⟨a, c, rfl, hc, h64, h3⟩ := h
  rcases Gf.cntE_cases l with ⟨e1, hm, ht⟩ | hbad
  · have eN : Gf.cntN l = (Gf.tot l : Int) := if_pos e1
    rw [e1, eN] at hcn
    rw [e1]
    have hcl : ∀ k, k < l.length → ∃ b o, a = some ⟨b, o, none⟩ ∧ b < w.heap.size ∧ w.cell? ⟨b, o + k * 2, none⟩ = some (.int .u64 ((l.getD k (0, 0)).1 : Int)) ∧ w.cell? ⟨b, o + k * 2 + 1, none⟩ = some (.int .i64 (l.getD k (0, 0)).2) ∧ (l.getD k (0, 0)).1 < 18446744073709551616 := by
      intro k hk
      rcases h3 with rfl | ⟨b, o, rfl, h5, h6⟩
      · simp at hk
      exact ⟨b, o, rfl, h5, (h6 k hk).1, (h6 k hk).2, by have := h64 l[k] (List.getElem_mem hk); simpa [hk] using this⟩
    have HCL := Box'.mk hcl
    have hbf := fun w => bytesFor_any (Gf.tot l) (by omega) w
    have hW : Gf.wid l = (Gf.tot l + 7) / 8 := rfl
    have hW2 : Gf.wid l ≤ 16777216 := by rw [hW]; omega
    have hW3 : Gf.wid l ≤ 65536 := by rw [hW]; omega
    have TT := Box'.mk (Gf.tot_take l)
    have VT := Box'.mk (Gf.val_take l)
    have TL := Box'.mk (Gf.tot_le l)
    have VL : Box' (∀ k, Gf.val (l.take k) < 2 ^ Gf.tot (l.take k)) := ⟨fun k => Gf.val_lt _ fun x hx => hm x (List.mem_of_mem_take hx)⟩
    have LE : Box' (l.take l.length = l) := ⟨List.take_length⟩
    have MB : Box' (∀ k, k < l.length → 0 ≤ (l.getD k (0, 0)).2 ∧ (l.getD k (0, 0)).2 ≤ 64) := ⟨fun k hk => by
      have := hm l[k] (List.getElem_mem hk)
      unfold Gf.may at this
      have := of_decide_eq_true this
      simp only [List.getD_eq_getElem?_getD, List.getElem?_eq_getElem hk, Option.getD_some]
      exact ⟨this.1, this.2.1⟩⟩
    generalize hT : Gf.tot l = T at *
    generalize hWW : Gf.wid l = W at *
    generalize hn : l.length = n at *
    have H8 : Box' (2 ^ T ≤ 2 ^ (8 * W)) := ⟨Nat.pow_le_pow_right (by decide) (by omega)⟩
    have HT := Box'.mk hT
    have HWW := Box'.mk hWW
    have HW := Box'.mk hW
    have E1 := Box'.mk e1
    clear hcl h3 h64 hT hWW hn e1 eN hm hW
    go_enter Try.func42, Try.ntmps42
    go_wp2_with fail
    refine hcn.mono ?_
    rintro e w1 ⟨rfl, hb1⟩
    clear hcn
    go_wp2_with (first | (go_at_call 65; refine (hbf _).mono ?_; rintro e w2 ⟨rfl, rfl⟩) | (refine wpList_make_bytes rfl (.tmp 19) (.tmp 19) rfl _ _ W rfl rfl (by have := HW.out; omega) (by have := HW.out; omega) hW2 ?_) | fail)
    have hg0 := hb1.size
    have rg : Row (w2.alloc (.cells (ag (Gf.byt W 0)) 5)) w2.heap.size 5 (ag (Gf.byt W 0)) := Row.new _ _ _
    have bg : Below w.heap.size w (w2.alloc (.cells (ag (Gf.byt W 0)) 5)) := hb1.alloc hg0 _
    generalize w2.alloc (.cells (ag (Gf.byt W 0)) 5) = w3 at *
    generalize w2.heap.size = g at *
    clear hb1 hbf
    go_loopw [7, 23] (fun t i wr => ∃ k p X : Nat, k ≤ n ∧ i = .int .i64 (k : Int) ∧ t = .int .i64 (p : Int) ∧ p ≤ 524288 ∧ Box' (p = Gf.tot (l.take k) ∧ X = Gf.val (l.take k)) ∧ Row wr g 5 (ag (Gf.byt W X)) ∧ Below w.heap.size w wr) (fun _ i _ => n - (intOf i).toNat)
    case atStart => exact ⟨0, 0, 0, by omega, rfl, rfl, by omega, ⟨by simp [Gf.tot, Gf.val]⟩, rg, bg⟩
    case round =>
      obtain ⟨k, p, X, hk, rfl, rfl, hp, HP, r1, hbl⟩ := hrel
      by_cases hlt : k < n
      · obtain ⟨b, o, rfl, hbw, c0, c1, h64⟩ := HCL.out k hlt
        have TK := Box'.mk (TT.out k hlt)
        have VK := Box'.mk (VT.out k hlt)
        have T1 := Box'.mk (TL.out (k + 1))
        have T0 := Box'.mk (TL.out k)
        have V1 := Box'.mk (VL.out (k + 1))
        have V0 := Box'.mk (VL.out k)
        obtain ⟨m0, m1⟩ := MB.out k hlt
        obtain ⟨hc0, -⟩ := bcell hbl
        rw [← hc0 _ _ hbw] at c0 c1
        have hbs := hbl.size
        have hgl := r1.lt
        clear hc0
        generalize l.getD k (0, 0) = x at *
        obtain ⟨xv, xs⟩ := x
        simp only at c0 c1 m0 m1 h64
        have hlay := lay_any g W X p xv hW3 (by have := HP.out.1; have := T0.out; have := HW.out; have := HT.out; omega) h64 (by rw [HP.out.1, HP.out.2]; exact V0.out)
          (by
            have h1 := VK.out
            have h2 := V1.out
            have h3 := H8.out
            have h4 := T1.out
            have h5 : 2 ^ Gf.tot (l.take (k + 1)) ≤ 2 ^ T := Nat.pow_le_pow_right (by decide) h4
            rw [HP.out.2, HP.out.1, ← h1]
            omega) (wr.alloc (.cells #[.int .u64 (xv : Int), .int .i64 xs] 73)) (r1.alloc _)
        go_wp2_with fail
        refine hlay.mono ?_
        rintro e w4 ⟨rfl, r4, ch⟩
        have rs : Row w4 wr.heap.size 73 #[.int .u64 (xv : Int), .int .i64 xs] := by
          have := Row.new wr 73 #[.int .u64 (xv : Int), .int .i64 xs]
          unfold Row at *
          rw [ch.block _ (by omega)]; exact this
        have c2 : w4.cell? ⟨wr.heap.size, 1, none⟩ = some (.int .i64 xs) := by rw [rs.cell]; rfl
        have bl4 : Below w.heap.size w w4 := ch.bel _ _ hg0 (hbl.alloc hbs _)
        clear rs ch hlay c0 c1
        go_wp2_with fail
        have h1 := TK.out
        have h2 := T1.out
        have h3 := HP.out.1
        have hx : (xs.toNat : Int) = xs := Int.toNat_of_nonneg m0
        refine ⟨⟨k + 1, Gf.tot (l.take (k + 1)), X + xv * 2 ^ p, by omega, by go_num, ?_, by omega, ⟨rfl, by rw [VK.out, HP.out.1, HP.out.2]⟩, r4, bl4⟩, by simp [intOf]; omega⟩
        congr 1; omega
      · obtain rfl : k = n := by omega
        go_wp2_with fail
        go_ret2
        refine ⟨_, rfl, .inl ⟨E1.out, g, by rw [HWW.out]; rfl, hg0, ?_⟩, hbl⟩
        have h1 := HP.out.2
        rw [LE.out] at h1
        rw [HWW.out, ← h1]; exact r1
  · have hne : Gf.cntE l ≠ 0 := by rcases hbad with h | h <;> rw [h.1] <;> decide
    have H : Box' (Wrote = Wrote ∧ Gf.cntE l ≠ 0) := ⟨rfl, hne⟩
    have i0 : (Gf.cntE l == 0) = false := by rw [beq_eq_false_iff_ne]; exact hne
    generalize hE : Gf.cntE l = E at *
    have HE := Box'.mk hE
    clear hbad h3 h64 hE hne
    go_enter Try.func42, Try.ntmps42
    go_wp2_with fail
    refine hcn.mono ?_
    rintro e w1 ⟨rfl, hb1⟩
    clear hcn
    go_wp2_with fail
    go_ret2
    exact ⟨_, rfl, .inr ⟨by rw [HE.out]; exact H.out.2, rfl⟩, hb1⟩
end Go.Proofs.Ytcjfaahlchbcmaa
