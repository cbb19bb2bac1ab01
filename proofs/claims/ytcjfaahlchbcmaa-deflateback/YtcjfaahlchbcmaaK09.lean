/- The tables of lengths and distances, the program's and the reference's. -/
import Derived.Test.YtcjfaahlchbcmaaK08
import Derived.Test.YtcjfaahlchbcmaaK05
import Derived.Test.YtcjfaahlchbcmaaK01
import Derived.Laws.AppendOwn
namespace Go.Proofs.Ytcjfaahlchbcmaa
open Go.RowKit Go.BigFrame
def Gf.stp (b row : Nat) : Nat → Nat × Nat
  | 0 => (b, 0)
  | k + 1 => ((Gf.stp b row k).1 + 2 ^ (Gf.stp b row k).2, if 2 * row ≤ k + 1 ∧ (k + 1) % row = 0 then (Gf.stp b row k).2 + 1 else (Gf.stp b row k).2)
def Gf.lenT (z : Int) : Int × Int × Int := if z < 257 ∨ 285 < z then (0, 0, 2) else if z = 285 then (258, 0, 0) else (((Gf.stp 3 4 (z - 257).toNat).1 : Int), ((Gf.stp 3 4 (z - 257).toNat).2 : Int), 0)
def Gf.disT (z : Int) : Int × Int × Int := if z < 0 ∨ 29 < z then (0, 0, 2) else (((Gf.stp 1 2 z.toNat).1 : Int), ((Gf.stp 1 2 z.toNat).2 : Int), 0)
def tv (R : Int × Int × Int) : Value := .tuple #[.int .i64 R.1, .int .i64 R.2.1, .int .i64 R.2.2]
theorem lenT_in (n : Nat) (h : n < 28) : Gf.lenT (n + 257 : Int) = (((Gf.stp 3 4 n).1 : Int), ((Gf.stp 3 4 n).2 : Int), 0) := by
  unfold Gf.lenT
  rw [if_neg (by omega), if_neg (by omega), show ((n : Int) + 257 - 257).toNat = n by omega]
theorem disT_in (n : Nat) (h : n < 30) : Gf.disT (n : Int) = (((Gf.stp 1 2 n).1 : Int), ((Gf.stp 1 2 n).2 : Int), 0) := by
  unfold Gf.disT
  rw [if_neg (by omega), Int.toNat_natCast]
theorem stp_bound : ∀ n, n < 31 → ((Gf.stp 3 4 n).1 < 100000 ∧ (Gf.stp 3 4 n).2 < 16) ∧ ((Gf.stp 1 2 n).1 < 100000 ∧ (Gf.stp 1 2 n).2 < 16) := by decide +kernel
theorem pow_wrap' : ∀ m : Nat, m < 16 → wrap64 (2 ^ m) = ((2 ^ m : Nat) : Int) := by decide +kernel
theorem stp_succ (b row k : Nat) : Gf.stp b row (k + 1) = ((Gf.stp b row k).1 + 2 ^ (Gf.stp b row k).2, if 2 * row ≤ k + 1 ∧ (k + 1) % row = 0 then (Gf.stp b row k).2 + 1 else (Gf.stp b row k).2) := rfl
set_option maxRecDepth 100000 in
set_option maxHeartbeats 1000000 in
theorem refLength_any (z : Int) (w : World) : Calls Try.prog 50 #[.int .i64 z] w fun e w' => e = .returned (tv (Gf.lenT z)) ∧ w' = w := by
  by_cases h1 : z < 257
  · rw [show Gf.lenT z = (0, 0, 2) from if_pos (.inl h1)]
    go_enter Try.func50, Try.ntmps50
    go_wp2_with fail
    go_ret3
    exact ⟨rfl, rfl⟩
  by_cases h2 : 285 < z
  · rw [show Gf.lenT z = (0, 0, 2) from if_pos (.inr h2)]
    go_enter Try.func50, Try.ntmps50
    go_wp2_with fail
    go_ret3
    exact ⟨rfl, rfl⟩
  by_cases h3 : z = 285
  · subst h3
    rw [show Gf.lenT 285 = (258, 0, 0) from rfl]
    clear h1 h2
    go_enter Try.func50, Try.ntmps50
    go_wp2_with fail
    go_ret3
    exact ⟨rfl, rfl⟩
  · obtain ⟨n, rfl⟩ : ∃ n : Nat, z = (n : Int) + 257 := ⟨(z - 257).toNat, by omega⟩
    have hn : n < 28 := by omega
    rw [lenT_in n hn]
    have h4 : ((n : Int) + 257 == 285) = false := by rw [beq_eq_false_iff_ne]; exact h3
    have hd1 : decide ((n : Int) + 257 < 257) = false := decide_eq_false h1
    have hd2 : decide (285 < (n : Int) + 257) = false := decide_eq_false h2
    have BD := Box'.mk stp_bound
    have SU := Box'.mk (stp_succ 3 4)
    have PW := Box'.mk pow_wrap'
    clear h3
    go_enter Try.func50, Try.ntmps50
    go_wp2_with fail
    go_loop [5, 6, 7] (fun t u i => ∃ k : Nat, k ≤ n ∧ t = .int .i64 ((Gf.stp 3 4 k).1 : Int) ∧ u = .int .i64 ((Gf.stp 3 4 k).2 : Int) ∧ i = .int .i64 ((k : Int) + 257)) (fun _ _ i => n + 257 - (intOf i).toNat)
    case atStart => exact ⟨0, by omega, rfl, rfl, rfl⟩
    case round =>
      obtain ⟨k, hk, rfl, rfl, rfl⟩ := hrel
      by_cases hlt : k < n
      · obtain ⟨⟨b1, b2⟩, -⟩ := BD.out k (by omega)
        have su := SU.out k
        have PE := Box'.mk (PW.out _ b2)
        have hp : (2 : Nat) ^ (Gf.stp 3 4 k).2 ≤ 32768 := Nat.le_trans (Nat.pow_le_pow_right (by decide) (show (Gf.stp 3 4 k).2 ≤ 15 by omega)) (by decide)
        generalize Gf.stp 3 4 k = p at *
        obtain ⟨x, y⟩ := p
        simp only at b1 b2 su PE hp ⊢
        have e1 : (wrap64 (2 ^ y) : Int) ≤ 32768 := by rw [PE.out]; omega
        have e2 : 0 ≤ (wrap64 (2 ^ y) : Int) := by rw [PE.out]; exact Int.natCast_nonneg _
        have S := Box'.mk su
        have hkb : k < 28 := by omega
        clear su hp h4 hd1 hd2 h1 h2
        clear BD SU PW
        go_wp2_with fail
        · rename_i q1 q2
          have q3 := eq_of_beq q2
          exact ⟨⟨k + 1, by omega, by rw [S.out, PE.out, Int.natCast_add], by rw [S.out, if_pos (by omega)]; go_num, by go_num⟩, by simp [intOf]; omega⟩
        · rename_i q1 q2
          have q3 := ne_of_beq_false q2
          exact ⟨⟨k + 1, by omega, by rw [S.out, PE.out, Int.natCast_add], by rw [S.out, if_neg (by omega)], by go_num⟩, by simp [intOf]; omega⟩
        · exact ⟨⟨k + 1, by omega, by rw [S.out, PE.out, Int.natCast_add], by rw [S.out, if_neg (by omega)], by go_num⟩, by simp [intOf]; omega⟩
      · obtain rfl : k = n := by omega
        clear BD SU PW
        go_wp2_with fail
        go_ret3
        exact ⟨rfl, rfl⟩
set_option maxRecDepth 100000 in
set_option maxHeartbeats 1000000 in
theorem refDistance_any (z : Int) (w : World) : Calls Try.prog 51 #[.int .i64 z] w fun e w' => e = .returned (tv (Gf.disT z)) ∧ w' = w := by
  by_cases h1 : z < 0
  · rw [show Gf.disT z = (0, 0, 2) from if_pos (.inl h1)]
    go_enter Try.func51, Try.ntmps51
    go_wp2_with fail
    go_ret3
    exact ⟨rfl, rfl⟩
  by_cases h2 : 29 < z
  · rw [show Gf.disT z = (0, 0, 2) from if_pos (.inr h2)]
    go_enter Try.func51, Try.ntmps51
    go_wp2_with fail
    go_ret3
    exact ⟨rfl, rfl⟩
  · obtain ⟨n, rfl⟩ : ∃ n : Nat, z = (n : Int) := ⟨z.toNat, by omega⟩
    have hn : n < 30 := by omega
    rw [disT_in n hn]
    have hd1 : decide ((n : Int) < 0) = false := decide_eq_false h1
    have hd2 : decide (29 < (n : Int)) = false := decide_eq_false h2
    have BD := Box'.mk stp_bound
    have SU := Box'.mk (stp_succ 1 2)
    have PW := Box'.mk pow_wrap'
    go_enter Try.func51, Try.ntmps51
    go_wp2_with fail
    go_loop [5, 6, 7] (fun t u i => ∃ k : Nat, k ≤ n ∧ t = .int .i64 ((Gf.stp 1 2 k).1 : Int) ∧ u = .int .i64 ((Gf.stp 1 2 k).2 : Int) ∧ i = .int .i64 (k : Int)) (fun _ _ i => n - (intOf i).toNat)
    case atStart => exact ⟨0, by omega, rfl, rfl, rfl⟩
    case round =>
      obtain ⟨k, hk, rfl, rfl, rfl⟩ := hrel
      by_cases hlt : k < n
      · obtain ⟨-, b1, b2⟩ := BD.out k (by omega)
        have su := SU.out k
        have PE := Box'.mk (PW.out _ b2)
        have hp : (2 : Nat) ^ (Gf.stp 1 2 k).2 ≤ 32768 := Nat.le_trans (Nat.pow_le_pow_right (by decide) (show (Gf.stp 1 2 k).2 ≤ 15 by omega)) (by decide)
        generalize Gf.stp 1 2 k = p at *
        obtain ⟨x, y⟩ := p
        simp only at b1 b2 su PE hp ⊢
        have e1 : (wrap64 (2 ^ y) : Int) ≤ 32768 := by rw [PE.out]; omega
        have e2 : 0 ≤ (wrap64 (2 ^ y) : Int) := by rw [PE.out]; exact Int.natCast_nonneg _
        have S := Box'.mk su
        have hkb : k < 30 := by omega
        clear su hp hd1 hd2 h1 h2
        clear BD SU PW
        go_wp2_with fail
        · rename_i q1 q2
          have q3 := eq_of_beq q2
          exact ⟨⟨k + 1, by omega, by rw [S.out, PE.out, Int.natCast_add], by rw [S.out, if_pos (by omega)]; go_num, by go_num⟩, by simp [intOf]; omega⟩
        · rename_i q1 q2
          have q3 := ne_of_beq_false q2
          exact ⟨⟨k + 1, by omega, by rw [S.out, PE.out, Int.natCast_add], by rw [S.out, if_neg (by omega)], by go_num⟩, by simp [intOf]; omega⟩
        · exact ⟨⟨k + 1, by omega, by rw [S.out, PE.out, Int.natCast_add], by rw [S.out, if_neg (by omega)], by go_num⟩, by simp [intOf]; omega⟩
      · obtain rfl : k = n := by omega
        clear BD SU PW
        go_wp2_with fail
        go_ret3
        exact ⟨rfl, rfl⟩
def SegI (w : World) (g : Nat) (l : List Int) : Prop := ∃ cur, Row w g 3 cur ∧ ∀ k, k < l.length → cur[k]? = some (.int .i64 (l.getD k 0))
theorem SegI.cell {w : World} {g : Nat} {l : List Int} (h : SegI w g l) {k : Nat} (hk : k < l.length) : w.cell? ⟨g, k, none⟩ = some (.int .i64 (l.getD k 0)) := by
  obtain ⟨cur, h1, h2⟩ := h
  rw [h1.cell]; exact h2 k hk
theorem SegI.frozen {w : World} {g : Nat} {l : List Int} (h : SegI w g l) (k : Nat) : w.frozen? ⟨g, k, none⟩ = false := by
  obtain ⟨cur, h1, h2⟩ := h
  exact h1.frozen k
theorem SegI.lt {w : World} {g : Nat} {l : List Int} (h : SegI w g l) : g < w.heap.size := let ⟨_, h1, _⟩ := h; h1.lt
theorem SegI.set {w : World} {g : Nat} {l : List Int} (h : SegI w g l) (k : Nat) (x : Int) (hk : k < l.length) : SegI (w.setCell ⟨g, k, none⟩ (.int .i64 x)) g (l.set k x) := by
  obtain ⟨cur, h1, h2⟩ := h
  refine ⟨_, h1.setCell k _, fun j hj => ?_⟩
  rw [List.length_set] at hj
  have hs : k < cur.size := (Array.getElem?_eq_some_iff.1 (h2 k hk)).1
  rw [Array.getElem?_setIfInBounds]
  by_cases e : k = j
  · subst e; rw [if_pos rfl, if_pos hs]; simp [hk]
  · rw [if_neg e, h2 j hj]
    simp [e]
theorem SegI.same {w w' : World} {g : Nat} {l : List Int} (h : SegI w g l) (e : w'.heap[g]? = w.heap[g]?) : SegI w' g l := by
  obtain ⟨cur, h1, h2⟩ := h
  exact ⟨cur, by unfold Row; rw [e]; exact h1, h2⟩
theorem SegI.below {w w' : World} {g : Nat} {l : List Int} (h : SegI w g l) (hb : Below w.heap.size w w') : SegI w' g l := h.same (hb.block g h.lt)
theorem SegI.drew {w : World} {g : Nat} {l : List Int} (h : SegI w g l) : SegI w.drew g l := h
theorem SegI.drewN {w : World} {g : Nat} {l : List Int} (h : SegI w g l) (n : Nat) : SegI (w.drewN n) g l := h
def Gb (g : Nat) (w w' : World) : Prop := w.grownBy w' (some g)
theorem Gb.refl (g : Nat) (w : World) : Gb g w w := ⟨rfl, rfl, rfl, Nat.le_refl _, fun _ _ _ => rfl⟩
theorem Gb.trans {g : Nat} {w w1 w2 : World} (h1 : Gb g w w1) (h2 : Gb g w1 w2) : Gb g w w2 :=
  ⟨h2.os.trans h1.os, h2.tape.trans h1.tape, h2.output.trans h1.output, Nat.le_trans h1.size h2.size, fun k hk hn => (h2.block k (Nat.lt_of_lt_of_le hk h1.size) hn).trans (h1.block k hk hn)⟩
theorem Gb.below {g : Nat} {w w' : World} (h : Below w.heap.size w w') : Gb g w w' := ⟨h.os, h.tape, h.output, h.size, fun k hk _ => h.block k hk⟩
theorem Gb.drew {g : Nat} {w w' : World} (h : Gb g w w') : Gb g w w'.drew := ⟨h.os, h.tape, h.output, h.size, h.block⟩
theorem Gb.drewN {g : Nat} {w w' : World} (h : Gb g w w') (n : Nat) : Gb g w (w'.drewN n) := ⟨h.os, h.tape, h.output, h.size, h.block⟩
theorem Gb.setCell {g : Nat} {w w' : World} (h : Gb g w w') (k : Nat) (v : Value) : Gb g w (w'.setCell ⟨g, k, none⟩ v) :=
  ⟨h.os, h.tape, h.output, by simpa using h.size, fun j hj hn => by
    rw [Below.heap_setCell _ _ _ _ (fun e => hn (by rw [e]))]; exact h.block j hj hn⟩
theorem Gb.on {g N : Nat} {w0 w w' : World} (h : Gb g w w') (hb : Below N w0 w) (hN : N ≤ g) (hN0 : N ≤ w0.heap.size) : Below N w0 w' :=
  ⟨h.os.trans hb.os, h.tape.trans hb.tape, h.output.trans hb.output, Nat.le_trans hb.size h.size, fun k hk => (h.block k (by have := hb.size; omega) (fun e => by cases e; omega)).trans (hb.block k hk)⟩
def OwnI (N : Nat) (w : World) (v : Value) (d : List Int) : Prop := w.ownsRow N 3 1 v d.length (d.map (Value.int .i64))
theorem OwnI.nil (N : Nat) (w : World) : OwnI N w (.slice none 0 0) [] := ⟨rfl, .inl ⟨rfl, rfl⟩⟩
theorem OwnI.below {N : Nat} {w w' : World} {v : Value} {d : List Int} (h : OwnI N w v d) (hb : Below w.heap.size w w') : OwnI N w' v d := by
  refine ⟨h.1, ?_⟩
  rcases h.2 with h2 | ⟨g, cap, cur, e1, e2, e3, e4⟩
  · exact .inl h2
  · exact .inr ⟨g, cap, cur, e1, e2, by rw [hb.block g (Array.getElem?_eq_some_iff.1 e3).1]; exact e3, e4⟩
theorem OwnI.alloc {N : Nat} {w : World} {v : Value} {d : List Int} (h : OwnI N w v d) (o : Obj) : OwnI N (w.alloc o) v d := h.below ((Below.refl _ _).alloc (Nat.le_refl _) _)
theorem OwnI.lt {N : Nat} {w : World} {v : Value} {d : List Int} (h : OwnI N w v d) : ∀ g, v.ownBlock = some g → N ≤ g ∧ g < w.heap.size := by
  intro k hk
  rcases h.2 with ⟨e, _⟩ | ⟨g, cap, cur, e1, e2, e3, _⟩
  · rw [e] at hk; simp [Value.ownBlock] at hk
  · rw [e1] at hk; simp [Value.ownBlock] at hk; subst hk; exact ⟨e2, (Array.getElem?_eq_some_iff.1 e3).1⟩
theorem OwnI.seg {N : Nat} {w : World} {v : Value} {d : List Int} (h : OwnI N w v d) (hd : 0 < d.length) : ∃ g cap, v = .slice (some ⟨g, 0, none⟩) d.length cap ∧ N ≤ g ∧ d.length ≤ cap ∧ SegI w g d := by
  rcases h.2 with ⟨e, e0⟩ | ⟨g, cap, cur, e1, e2, e3, e4, e5, e6, e7⟩
  · omega
  · refine ⟨g, cap, e1, e2, e4, cur, e3, fun k hk => ?_⟩
    have hf : (d.map (Value.int .i64))[k]? = some (.int .i64 (d.getD k 0)) := by simp [hk]
    rw [← e7, List.getElem?_take_of_lt (by omega)] at hf
    simpa using hf
theorem one_Ii (l : List Int) : ∀ u ∈ l.map (Value.int .i64), u.oneCell' = true := by
  intro u hu
  obtain ⟨x, _, rfl⟩ := List.mem_map.1 hu
  rfl
theorem wpList_append_ints' {ops : Array Oper} {rest : List Oper} {o : Oper} {a : Act} {w : World} {Q : Exit → Act → World → Prop} (hgd : o.guard = none) (s x : Operand)
    (ho : o.op = .call { callee := .builtin .append, args := #[s, x], argTypes := #[63, 63] }) (N : Nat) (hN : N ≤ w.heap.size)
    (v : Value) (d : List Int) (hs : a.eval s = v) (hown : OwnI N w v d) (ad : Addr) (m c : Nat) (l : List Int) (hx : a.eval x = .slice (some ad) m c) (hm : l.length = m)
    (hc : ∀ j u, (l.map (Value.int .i64))[j]? = some u → w.cell? (ad.add j) = some u) (hmax : d.length + l.length ≤ 17592186044416)
    (h : ∀ v' w', OwnI N w' v' (d ++ l) → Below N w w' → wpList Try.prog ops Q rest (a.put o.dst v') w') : wpList Try.prog ops Q (o :: rest) a w := by
  obtain ⟨i, h1, h2, h3, h4⟩ := Try.info3'
  obtain ⟨v', w', hr, g2, g3, _⟩ := run_append_own (P := Try.prog) w N 63 o.type 3 i _ 1 8 Try.underlying63 h1 h2 h3 h4 rfl (by decide) v d.length _ hown ad m c (l.map (Value.int .i64)) (by rw [List.length_map, hm, Nat.mul_one]) hc (one_Ii l) (by unfold maxLen; omega) (by omega) hN
  have g2' : OwnI N w' v' (d ++ l) := by unfold OwnI; rw [List.length_append, List.map_append, hm]; exact g2
  have hbl : Below N w w' := ⟨g3.os, g3.tape, g3.output, g3.size, fun k hk => g3.block k (by omega) (fun e => by have := (hown.lt k e.symm).1; omega)⟩
  refine wpList_plain hgd fun K hK => ?_
  unfold Oper.wp execOp
  simp only [ho, resolve, invoke, builtin, Sem.run_bind, Sem.run_pure, Result.andThen_ok, List.map_toArray, List.map_cons, List.map_nil, hs, hx, hr]
  exact hK _ _ (h v' w' g2' hbl)
theorem OwnI.made (w : World) : OwnI w.heap.size (w.alloc (.cells #[] 3)) (.slice (some ⟨w.heap.size, 0, none⟩) 0 0) [] :=
  ⟨rfl, .inr ⟨w.heap.size, 0, #[], rfl, Nat.le_refl _, Row.new w 3 #[], Nat.le_refl _, by unfold maxLen; omega, rfl, rfl⟩⟩
theorem SegI.cells {w : World} {g : Nat} {l : List Int} (h : SegI w g l) : ∀ j u, (l.map (Value.int .i64))[j]? = some u → w.cell? ((⟨g, 0, none⟩ : Addr).add j) = some u := by
  intro j u hu
  have hj : j < l.length := by
    have := (List.getElem?_eq_some_iff.1 hu).1
    rwa [List.length_map] at this
  rw [Addr.add_mid, Nat.zero_add, h.cell hj]
  simpa [hj] using hu
theorem SegI.ints {w : World} {g : Nat} {l : List Int} {c : Nat} (h : SegI w g l) (hc : l.length ≤ c) : Ints w.heap.size w (.slice (some ⟨g, 0, none⟩) l.length c) l :=
  ⟨_, _, rfl, hc, .inr ⟨g, 0, rfl, h.lt, fun k hk => by rw [Nat.zero_add]; exact h.cell hk⟩⟩
theorem Row.ints {w : World} {g : Nat} {t : TypeId} {l : List Int} {n : Nat} (h : Row w g t (ai l)) (hn : l.length = n) : Ints w.heap.size w (.slice (some ⟨g, 0, none⟩) n n) l :=
  ⟨_, _, by rw [hn], by omega, .inr ⟨g, 0, rfl, h.lt, fun k hk => by rw [Nat.zero_add]; exact h.int hk⟩⟩
def fixS : List Int := List.replicate 144 8 ++ List.replicate 112 9 ++ List.replicate 24 7 ++ List.replicate 8 8
def fixD : List Int := List.replicate 30 5
theorem rep_step (x : Int) (n k : Nat) (h : k < n) : (List.replicate k x ++ List.replicate (n - k) 0).set k x = List.replicate (k + 1) x ++ List.replicate (n - (k + 1)) 0 := by
  obtain ⟨d, rfl⟩ : ∃ d, n = k + d + 1 := ⟨n - k - 1, by omega⟩
  rw [show k + d + 1 - k = d + 1 by omega, show k + d + 1 - (k + 1) = d by omega, List.replicate_succ, List.replicate_succ', List.set_append_right _ _ (by simp)]
  simp
set_option maxHeartbeats 1000000 in
theorem repeated_any (x : Int) (n : Nat) (hn : n ≤ 65536) (w : World) : Calls Try.prog 54 #[.int .i64 x, .int .i64 (n : Int)] w fun e w' => ∃ g, e = .returned (.slice (some ⟨g, 0, none⟩) n n) ∧ w.heap.size ≤ g ∧ Row w' g 3 (ai (List.replicate n x)) ∧ Below w.heap.size w w' := by
  have RS := Box'.mk (rep_step x n)
  go_enter Try.func54, Try.ntmps54
  go_wp2_with (refine wpList_make_ints rfl _ _ rfl _ _ n rfl rfl rfl rfl (by omega) ?_)
  go_loopw [11] (fun i wr => ∃ k : Nat, k ≤ n ∧ i = .int .i64 (k : Int) ∧ Row wr w.heap.size 3 (ai (List.replicate k x ++ List.replicate (n - k) 0)) ∧ Below w.heap.size w wr) (fun i _ => n - (intOf i).toNat)
  case atStart => exact ⟨0, by omega, rfl, by simpa using Row.new w 3 (ai (List.replicate n 0)), (Below.refl _ _).alloc (Nat.le_refl _) _⟩
  case round =>
    obtain ⟨k, hk, rfl, hr, hbl⟩ := hrel
    by_cases hlt : k < n
    · have c0 : wr.cell? ⟨w.heap.size, k, none⟩ = some (.int .i64 ((List.replicate k x ++ List.replicate (n - k) 0).getD k 0)) := by rw [hr.cell]; exact ai_get (by simp; omega)
      have f0 := hr.frozen k
      have hs := hr.setCell k (.int .i64 x)
      rw [ai_set, RS.out k hlt] at hs
      have hb2 := hbl.setCell (p := ⟨w.heap.size, k, none⟩) (Nat.le_refl _) (.int .i64 x)
      generalize (List.replicate k x ++ List.replicate (n - k) 0).getD k 0 = y at *
      clear hr RS
      go_wp2_with fail
      exact ⟨⟨k + 1, by omega, by go_num, hs, hb2⟩, by simp [intOf]; omega⟩
    · obtain rfl : k = n := by omega
      have hr2 : Row wr w.heap.size 3 (ai (List.replicate k x)) := by simpa using hr
      clear hr RS
      go_wp2_with fail
      go_ret
      exact ⟨_, rfl, Nat.le_refl _, hr2, hbl⟩
theorem Row.icells {w : World} {g : Nat} {l : List Int} (h : Row w g 3 (ai l)) : ∀ j u, (l.map (Value.int .i64))[j]? = some u → w.cell? ((⟨g, 0, none⟩ : Addr).add j) = some u := by
  intro j u hu
  rw [Addr.add_mid, Nat.zero_add, h.cell]
  simpa [ai] using hu
theorem Row.seg {w : World} {g : Nat} {l : List Int} (h : Row w g 3 (ai l)) : SegI w g l := ⟨_, h, fun _ hk => ai_get hk⟩
set_option maxRecDepth 100000 in
set_option maxHeartbeats 2000000 in
theorem fixed_any (w : World) : Calls Try.prog 33 #[] w fun e w' => ∃ g c h, e = .returned (.tuple #[.slice (some ⟨g, 0, none⟩) 288 c, .slice (some ⟨h, 0, none⟩) 30 30]) ∧ 288 ≤ c ∧ w.heap.size ≤ g ∧ SegI w' g fixS ∧ w.heap.size ≤ h ∧ SegI w' h fixD ∧ Below w.heap.size w w' := by
  have hr := fun (x : Int) (n : Nat) (hn : n ≤ 65536) (W : World) => repeated_any x n hn W
  have r1 := hr 8 144 (by decide) w
  have HR := Box'.mk hr
  clear hr
  go_enter Try.func33, Try.ntmps33
  go_wp2_with fail
  refine r1.mono ?_
  rintro e w1 ⟨g1, rfl, hg1, q1, b1⟩
  clear r1
  have o1 : OwnI w.heap.size w1 (.slice none 0 0) [] := OwnI.nil _ _
  have c1 := q1.icells
  have B1 := Box'.mk b1
  have z1 := b1.size
  clear q1 b1
  go_wp2_with (refine wpList_append_ints' rfl (.tmp 2) (.tmp 3) rfl w.heap.size z1 _ [] rfl o1 _ _ _ (List.replicate 144 8) rfl (by decide +kernel) c1 (by decide +kernel) ?_; intro v2 w2 o2 d2)
  have B2 := Box'.mk (B1.out.trans d2)
  have z2 := B2.out.size
  have O2 := Box'.mk o2
  have r2 := HR.out 9 112 (by decide) w2
  clear o2 d2 c1 o1
  refine r2.mono ?_
  rintro e w3 ⟨g3, rfl, hg3, q3, b3⟩
  clear r2
  have o3 := O2.out.below b3
  have c3 := q3.icells
  have B3 := Box'.mk (B2.out.trans (b3.mono z2))
  have z3 := B3.out.size
  clear q3 b3
  go_wp2_with (refine wpList_append_ints' rfl (.tmp 5) (.tmp 6) rfl w.heap.size z3 _ ([] ++ List.replicate 144 8) rfl o3 _ _ _ (List.replicate 112 9) rfl (by decide +kernel) c3 (by decide +kernel) ?_; intro v4 w4 o4 d4)
  have B4 := Box'.mk (B3.out.trans d4)
  have z4 := B4.out.size
  have O4 := Box'.mk o4
  have r4 := HR.out 7 24 (by decide) w4
  clear o4 d4 c3 o3
  refine r4.mono ?_
  rintro e w5 ⟨g5, rfl, hg5, q5, b5⟩
  clear r4
  have o5 := O4.out.below b5
  have c5 := q5.icells
  have B5 := Box'.mk (B4.out.trans (b5.mono z4))
  have z5 := B5.out.size
  clear q5 b5
  go_wp2_with (refine wpList_append_ints' rfl (.tmp 8) (.tmp 9) rfl w.heap.size z5 _ (([] ++ List.replicate 144 8) ++ List.replicate 112 9) rfl o5 _ _ _ (List.replicate 24 7) rfl (by decide +kernel) c5 (by decide +kernel) ?_; intro v6 w6 o6 d6)
  have B6 := Box'.mk (B5.out.trans d6)
  have z6 := B6.out.size
  have O6 := Box'.mk o6
  have r6 := HR.out 8 8 (by decide) w6
  clear o6 d6 c5 o5
  refine r6.mono ?_
  rintro e w7 ⟨g7, rfl, hg7, q7, b7⟩
  clear r6
  have o7 := O6.out.below b7
  have c7 := q7.icells
  have B7 := Box'.mk (B6.out.trans (b7.mono z6))
  have z7 := B7.out.size
  clear q7 b7
  go_wp2_with (refine wpList_append_ints' rfl (.tmp 11) (.tmp 12) rfl w.heap.size z7 _ ((([] ++ List.replicate 144 8) ++ List.replicate 112 9) ++ List.replicate 24 7) rfl o7 _ _ _ (List.replicate 8 8) rfl (by decide +kernel) c7 (by decide +kernel) ?_; intro v8 w8 o8 d8)
  have B8 := Box'.mk (B7.out.trans d8)
  have z8 := B8.out.size
  rw [show ((([] ++ List.replicate 144 8) ++ List.replicate 112 9) ++ List.replicate 24 7) ++ List.replicate 8 8 = fixS from rfl] at o8
  obtain ⟨ga, ca, rfl, hga, hca, hsa⟩ := o8.seg (by decide +kernel)
  rw [show fixS.length = 288 from rfl] at hca ⊢
  have SA := Box'.mk hsa
  have r8 := HR.out 5 30 (by decide) w8
  clear o8 d8 c7 o7 hsa
  refine r8.mono ?_
  rintro e w9 ⟨g9, rfl, hg9, q9, b9⟩
  clear r8
  have SB := Box'.mk (SA.out.below b9)
  have S9 := Box'.mk (Row.seg q9)
  have B9 := Box'.mk (B8.out.trans (b9.mono z8))
  clear q9 b9
  go_wp2_with fail
  go_ret2
  exact ⟨ga, ca, g9, rfl, hca, hga, SB.out, Nat.le_trans z8 hg9, S9.out, B9.out⟩
end Go.Proofs.Ytcjfaahlchbcmaa
