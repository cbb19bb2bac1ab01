/- What Tick asks: which row, and what is told of it; asked, so that no panic comes out. -/
import Derived.Test.YtikkekdmahdgaaaTh
namespace Go.Proofs.Ytikkekdmahdgaaa
open Go.RowKit Go.BigFrame
set_option linter.unusedSimpArgs false
set_option linter.unusedVariables false
set_option maxRecDepth 100000
set_option maxHeartbeats 4000000

def rsF (ts : List (List UInt8)) (x : List UInt8) (fr : Bool) : List (List UInt8) := if fr = true then ts ++ [x] else ts
def a5 (f0 n : Nat) (vb : Value) : Array Value := #[.int .u64 (f0 : Int), .int .u64 ((f0 : Int) + ((n : Int) - 1)), .int .u64 0, .int .u64 (f0 : Int), vb]
def sfF (rs : List (List UInt8)) : List UInt8 × Bool := sufF (rs.getD 0 []) (rs.getD (rs.length - 1) [])
/-- The row that is due, as it lies. -/
def DueR (N : Nat) (w : World) (g : Nat) (rs : List (List UInt8)) (bso : Bool) (v : Value) : Prop :=
  if bso = true then ∃ g' c', v = .slice (some ⟨g', 0, none⟩) rs.length c' ∧ rs.length ≤ c' ∧ (g' = g ∨ N ≤ g') ∧ TxR w g' rs else v = .slice none 0 0
/-- What is told of it. -/
def TolR (N : Nat) (w : World) (f0 : Nat) (rs : List (List UInt8)) (bso : Bool) (A : Array Value) : Prop :=
  if bso = true then ∃ vb, A = a5 f0 rs.length vb ∧ OwnB N w vb (sfF rs).1 else A = z41
def ErrR (rs : List (List UInt8)) (bso : Bool) : Value := if bso = true then errS (sfF rs).2 else .int .i64 0
theorem TolR.below {N : Nat} {w w' : World} {f0 : Nat} {rs : List (List UInt8)} {b : Bool} {A : Array Value} (h : TolR N w f0 rs b A) (hb : ∀ k, N ≤ k → k < w.heap.size → w'.heap[k]? = w.heap[k]?) : TolR N w' f0 rs b A := by
  unfold TolR at *
  split
  · rename_i hb'
    rw [if_pos hb'] at h
    obtain ⟨vb, h1, h2⟩ := h
    exact ⟨vb, h1, h2.sameB fun g hg => let q := World.ownsRow.lt h2 g hg; hb g q.1 q.2⟩
  · rename_i hb'
    rwa [if_neg hb'] at h
theorem TolR.cells {N : Nat} {w : World} {f0 : Nat} {rs : List (List UInt8)} {b : Bool} {A : Array Value} (h : TolR N w f0 rs b A) : A.size = 5 ∧ A.all (·.oneCell') = true := by
  unfold TolR at h
  split at h
  · obtain ⟨vb, rfl, h2⟩ := h
    obtain ⟨a, c, rfl, _⟩ := h2.inB.slice
    exact ⟨rfl, by simp [a5, Value.oneCell']⟩
  · subst h
    exact ⟨rfl, by simp [z41, Value.oneCell']⟩
theorem dueV_R {N : Nat} {w : World} {g n c : Nat} {ts : List (List UInt8)} {x : List UInt8} {fr al : Bool} {v : Value} (h : dueV N w g n c ts x fr al v) (ht : TxR w g ts) (hn : ts.length = n) (hc : n ≤ c) : DueR N w g (rsF ts x fr) (fr || al) v := by
  unfold dueV at h
  unfold DueR rsF
  cases fr with
  | true =>
    rw [if_pos rfl] at h
    obtain ⟨g', c', rfl, h1, h2, h3⟩ := h
    exact ⟨g', c', by simp [hn], by simp; omega, .inr h2, h3⟩
  | false =>
    rw [if_neg Bool.false_ne_true] at h
    cases al with
    | true =>
      rw [if_pos rfl] at h
      exact ⟨g, c, by rw [h]; simp [hn], by simp; omega, .inl rfl, ht⟩
    | false => exact h
theorem DueR.blk {N : Nat} {w : World} {g : Nat} {rs : List (List UInt8)} {b : Bool} {v : Value} (h : DueR N w g rs b v) : ∀ k, v.ownBlock = some k → k < w.heap.size := by
  intro k hk
  unfold DueR at h
  split at h
  · obtain ⟨g', c', rfl, h2, h3, h4⟩ := h
    have : g' = k := by simpa [Value.ownBlock] using hk
    subst this
    exact h4.1
  · subst h
    simp [Value.ownBlock] at hk
theorem tolR_any {N M : Nat} {w : World} {g f0 : Nat} {rs : List (List UInt8)} {b : Bool} {v : Value} (h : DueR M w g rs b v) (h0 : 0 < rs.length) (h32 : rs.length ≤ 1048576) (hl : ∀ k, k < rs.length → (rs.getD k []).length ≤ 140737488351232) (hf : f0 + rs.length ≤ 18446744073709551616) (hN : N ≤ w.heap.size) :
    Calls Try.prog 30 #[v, .int .u64 (f0 : Int)] w fun e w' => ∃ A, e = .returned (.tuple #[.agg A, ErrR rs b]) ∧ TolR N w' f0 rs b A ∧ Below w.heap.size w w' := by
  unfold DueR at h
  unfold TolR ErrR
  cases b with
  | true =>
    rw [if_pos rfl] at h
    obtain ⟨g', c', rfl, h1, h2, h3⟩ := h
    refine (told_any g' rs.length c' f0 rs w h3 rfl h0 h1 h32 hl hf).mono ?_
    rintro e w' ⟨vb, rfl, q1, q2⟩
    exact ⟨_, rfl, ⟨vb, rfl, q1.less hN⟩, q2⟩
  | false =>
    rw [if_neg Bool.false_ne_true] at h
    subst h
    refine (toldNone_any f0 w).mono ?_
    rintro e w' ⟨rfl, q⟩
    exact ⟨_, rfl, rfl, q⟩
theorem DueR.less {N M : Nat} {w : World} {g : Nat} {rs : List (List UInt8)} {b : Bool} {v : Value} (h : DueR N w g rs b v) (hM : M ≤ N) : DueR M w g rs b v := by
  unfold DueR at *
  split
  · rename_i hb
    rw [if_pos hb] at h
    obtain ⟨g', c', h1, h2, h3, h4⟩ := h
    exact ⟨g', c', h1, h2, h3.imp id fun q => Nat.le_trans hM q, h4⟩
  · rename_i hb
    rwa [if_neg hb] at h
theorem TolR.less {N M : Nat} {w : World} {f0 : Nat} {rs : List (List UInt8)} {b : Bool} {A : Array Value} (h : TolR N w f0 rs b A) (hM : M ≤ N) : TolR M w f0 rs b A := by
  unfold TolR at *
  split
  · rename_i hb'
    rw [if_pos hb'] at h
    obtain ⟨vb, h1, h2⟩ := h
    exact ⟨vb, h1, h2.less hM⟩
  · rename_i hb'
    rwa [if_neg hb'] at h
theorem DueR.same {N : Nat} {w w' : World} {g : Nat} {rs : List (List UInt8)} {b : Bool} {v : Value} (h : DueR N w g rs b v) (hk : ∀ k, (k = g ∨ N ≤ k) → k < w.heap.size → w'.heap[k]? = w.heap[k]?) : DueR N w' g rs b v := by
  unfold DueR at *
  split
  · rename_i hb
    rw [if_pos hb] at h
    obtain ⟨g', c', h1, h2, h3, h4⟩ := h
    exact ⟨g', c', h1, h2, h3, h4.same (hk g' h3 h4.1)⟩
  · rename_i hb
    rwa [if_neg hb] at h
theorem tick1_any (b4 b5 b6 b7 b11 p g n c f0 tm now seen : Nat) (any : Bool) (ts : List (List UInt8)) (x : List UInt8) (pace timeout : Int) (w : World) (r4 : Row w b4 23 #[.pointer (some ⟨p, 0, none⟩)]) (r5 : Row w b5 29 #[.int .u64 (now : Int)]) (r6 : Row w b6 3 #[.int .i64 pace]) (r7 : Row w b7 3 #[.int .i64 timeout]) (r11 : Row w b11 76 #[.slice none 0 0])
    (hr : Row w p 78 #[sT x, .slice (some ⟨g, 0, none⟩) n c, .int .u64 (f0 : Int), .bool any, .int .u64 (tm : Int), .int .u64 (seen : Int)]) (hg : g ≠ b11)
    (ht : TxR w g ts) (hn : ts.length = n) (h0 : 0 < n) (h32 : n ≤ 32) (hc : n ≤ c) (ho : any = true → tm ≤ now) (hnow : now < 18446744073709551616) (p0 : 0 ≤ pace) (p1 : pace < 9223372036854775808) (t0 : 0 ≤ timeout) (t1 : timeout < 9223372036854775808)
    (hl : ∀ k, k < n → (ts.getD k []).length ≤ 140737488351232) (hx : x.length ≤ 140737488351232) (hf : f0 + n + 1 ≤ 18446744073709551616)
    (fr al : Bool) (hfr : (!decide (ts.getD (n - 1) [] = x) && decide (n < 32) && aft any tm now pace) = fr) (hal : ((decide (1 < n) && aft any tm now timeout) || aft any tm now 3000) = al) :
    Calls Try.prog 28 #[.pointer (some ⟨b4, 0, none⟩), .pointer (some ⟨b5, 0, none⟩), .pointer (some ⟨b6, 0, none⟩), .pointer (some ⟨b7, 0, none⟩), .pointer (some ⟨b11, 0, none⟩)] w fun e w' => ∃ v A M, e = .returned (.tuple #[.agg A, ErrR (rsF ts x fr) (fr || al)]) ∧ Row w' b11 76 #[v] ∧ DueR w.heap.size w' g (rsF ts x fr) (fr || al) v ∧ TolR M w' f0 (rsF ts x fr) (fr || al) A ∧ w.heap.size ≤ M ∧ (∀ k, v.ownBlock = some k → k < M) ∧ Tch (fun k => k = b11) w w' := by
  obtain ⟨w1, hw1⟩ : ∃ w1, w1 = w.alloc (.cells z41 41) := ⟨_, rfl⟩
  have b1 : Below w.heap.size w w1 := by rw [hw1]; exact (Below.refl _ _).alloc (Nat.le_refl _) _
  have r1 : Row w1 w.heap.size 41 z41 := by rw [hw1]; exact Row.new _ _ _
  have h11 := r11.lt
  have hgl := ht.1
  have h4n : b4 ≠ b11 := row_ne r4 r11 (by decide)
  have hpn : p ≠ b11 := row_ne hr r11 (by decide)
  have DU := due_any p g n c f0 tm now seen any ts x pace timeout w1 (hr.below b1 hr.lt) (ht.below b1) hn h0 h32 hc ho hnow p0 p1 t0 t1
  rw [hfr, hal] at DU
  have hrs : 0 < (rsF ts x fr).length ∧ (rsF ts x fr).length ≤ n + 1 := by unfold rsF; split <;> (try simp only [List.length_append, List.length_cons, List.length_nil]) <;> omega
  have hrl : ∀ k, k < (rsF ts x fr).length → ((rsF ts x fr).getD k []).length ≤ 140737488351232 := by
    intro k hk
    unfold rsF at hk ⊢
    split
    · rename_i e
      rw [if_pos e] at hk
      simp only [List.length_append, List.length_cons, List.length_nil] at hk
      rcases Nat.lt_or_ge k n with q | q
      · have := hl k q
        simpa [List.getD_eq_getElem?_getD, List.getElem?_append_left (show k < ts.length by omega)] using this
      · obtain rfl : k = ts.length := by omega
        simpa [List.getD_eq_getElem?_getD] using hx
    · rename_i e
      rw [if_neg e] at hk
      exact hl k (by omega)
  have PK := Box'.mk (fun (w2 : World) (v : Value) (hb : Below w1.heap.size w1 w2) (hd : dueV w1.heap.size w2 g n c ts x fr al v) => dueV_R hd ((ht.below b1).below hb) hn hc)
  have TK := Box'.mk (fun (N : Nat) (w2 : World) (v : Value) (hd : DueR (w.heap.size + 1) w2 g (rsF ts x fr) (fr || al) v) (hN : N ≤ w2.heap.size) => tolR_any (N := N) (f0 := f0) hd hrs.1 (by omega) hrl (by omega) hN)
  have X1 : Box' (∀ w2 v, Below w1.heap.size w1 w2 → dueV w1.heap.size w2 g n c ts x fr al v → ∃ w3, w3 = w2.setCell ⟨b11, 0, none⟩ v ∧ Row w2 b11 76 #[.slice none 0 0] ∧ Row w3 b11 76 #[v] ∧ Row w3 w.heap.size 41 z41 ∧ Row w3 b4 23 #[.pointer (some ⟨p, 0, none⟩)] ∧ Row w3 p 78 #[sT x, .slice (some ⟨g, 0, none⟩) n c, .int .u64 (f0 : Int), .bool any, .int .u64 (tm : Int), .int .u64 (seen : Int)] ∧ (∃ av nv cv, v = .slice av nv cv) ∧ DueR (w.heap.size + 1) w3 g (rsF ts x fr) (fr || al) v ∧ Tch (fun k => k = b11) w w3) := ⟨fun w2 v hb hd => by
    have hb2 := b1.trans (hb.mono b1.size)
    have hz1 := b1.size
    have hz1' : w1.heap.size = w.heap.size + 1 := by rw [hw1]; simp
    have q := (PK.out w2 v hb hd)
    refine ⟨_, rfl, r11.below hb2 r11.lt, (r11.below hb2 r11.lt).setCell 0 v, (r1.below hb r1.lt).setOther _ _ (by show w.heap.size ≠ b11; omega), (r4.below hb2 r4.lt).setOther _ _ h4n, (hr.below hb2 hr.lt).setOther _ _ hpn, ?_, ?_, (Tch.of hb2).set _ _ (.inl rfl)⟩
    · unfold DueR at q
      split at q
      · obtain ⟨g', c', h1, _⟩ := q
        exact ⟨_, _, _, h1⟩
      · exact ⟨_, _, _, q⟩
    have q' : DueR (w.heap.size + 1) w2 g (rsF ts x fr) (fr || al) v := hz1' ▸ q
    exact q'.same fun k hk hk2 => Below.heap_setCell _ _ _ _ (by show k ≠ b11; omega)⟩
  have c4 := (r4.below b1 r4.lt).cell 0
  have c5 := (r5.below b1 r5.lt).cell 0
  have c6 := (r6.below b1 r6.lt).cell 0
  have c7 := (r7.below b1 r7.lt).cell 0
  clear r4 r5 r6 r7 r11 hr ht hn hl hx hf hfr hal hrs hrl PK r1 b1 ho
  unfold z41 at hw1
  generalize rsF ts x fr = rs at *
  generalize hso : (fr || al) = so at *
  clear hso
  go_enter Try.func28, Try.ntmps28
  go_upto_region 1 with (fail)
  rw [← hw1]
  clear hw1
  go_wp2_with fail
  refine DU.mono ?_
  rintro e w2 ⟨v, rfl, hd, hb⟩
  obtain ⟨w3, hw3, r11, r3, rz, k4, kp, ⟨av, nv, cv, ev⟩, hd3, ht3⟩ := X1.out w2 v hb hd
  subst ev
  have c11 := r11.cell 0
  have f11 := r11.frozen 0
  have D3 := Box'.mk hd3
  have T3 := Box'.mk ht3
  have RZ := Box'.mk rz
  have R3 := Box'.mk r3
  have ez := rz.lt
  have BV : Box' (∀ k, (Value.slice av nv cv).ownBlock = some k → k < w3.heap.size) := ⟨hd3.blk⟩
  have C11 := Box'.mk fun (wa : World) (hb : Below w3.heap.size w3 wa) => (r3.below hb r3.lt).cell 0
  have C4 := Box'.mk fun (wa : World) (hb : Below w3.heap.size w3 wa) => (k4.below hb k4.lt).cell 0
  have CP := Box'.mk fun (wa : World) (hb : Below w3.heap.size w3 wa) => (kp.below hb kp.lt).cell 2
  have E3 := Box'.mk hw3.symm
  clear X1 DU hd hb c4 c5 c6 c7 r11 r3 rz k4 kp hd3 ht3 hw3
  go_upto_region 2 with (fail)
  rw [E3.out]
  clear c11 f11 E3
  refine wp_region_grow 8 (by kernel_rfl) (by kernel_rfl) (fun wa wb => Below wa.heap.size wa wb) (fun wa => Below w3.heap.size w3 wa) (fun kc wa v => match kc with
    | 0 => v = .slice av nv cv
    | 1 => v = .pointer (some ⟨p, 0, none⟩)
    | 2 => v = .pointer (some ⟨p, 0, none⟩)
    | 3 => v = .pointer (some ⟨p, 2, none⟩)
    | 4 => v = .int .u64 (f0 : Int)
    | 5 => ∃ A, v = .tuple #[.agg A, ErrR rs so] ∧ TolR w3.heap.size wa f0 rs so A
    | 6 => ∃ A, v = .agg A ∧ TolR w3.heap.size wa f0 rs so A
    | 7 => v = ErrR rs so
    | _ => True) ?_ ?_ ?_ ?_ ?_
  · intro wa wb hb q; exact q.trans (hb.mono q.size)
  · intro kc v wa wb hC1 hb h
    match kc, h with
    | 0, h => exact h
    | 1, h => exact h
    | 2, h => exact h
    | 3, h => exact h
    | 4, h => exact h
    | 5, h => exact let ⟨A, e1, e2⟩ := h; ⟨A, e1, e2.below fun k _ hk => hb.block k hk⟩
    | 6, h => exact let ⟨A, e1, e2⟩ := h; ⟨A, e1, e2.below fun k _ hk => hb.block k hk⟩
    | 7, h => exact h
    | kc + 8, h => trivial
  · exact (Below.refl _ _).drew
  · refine ⟨?_, ?_, ?_, ?_, ?_, ?_, ?_, ?_, trivial⟩
    · intro f wq hC hd KK hK
      have cx := C11.out wq hC
      simp only [List.take_succ_cons, List.take_zero, setAll, List.setIfInBounds_toArray, List.set_cons_succ, List.set_cons_zero, Nat.zero_add, Nat.reduceAdd] at hK ⊢
      refine wp_of_quiet rfl ?_
      go_big_quiet_step (fail)
      exact wpQuiet_nil (hK _ _ rfl (Below.refl _ _))
    · intro f wq hC hd KK hK
      have cx := C4.out wq hC
      simp only [List.take_succ_cons, List.take_zero, setAll, List.setIfInBounds_toArray, List.set_cons_succ, List.set_cons_zero, Nat.zero_add, Nat.reduceAdd] at hK ⊢
      refine wp_of_quiet rfl ?_
      go_big_quiet_step (fail)
      exact wpQuiet_nil (hK _ _ rfl (Below.refl _ _))
    · intro f wq hC hd KK hK
      have g1 : f 1 = .pointer (some ⟨p, 0, none⟩) := hd 1 (by kernel_rfl)
      simp only [List.take_succ_cons, List.take_zero, setAll, List.setIfInBounds_toArray, List.set_cons_succ, List.set_cons_zero, Nat.zero_add, Nat.reduceAdd, g1] at hK ⊢
      refine wp_of_quiet rfl ?_
      go_big_quiet_step (fail)
      exact wpQuiet_nil (hK _ _ rfl (Below.refl _ _))
    · intro f wq hC hd KK hK
      have g2 : f 2 = .pointer (some ⟨p, 0, none⟩) := hd 2 (by kernel_rfl)
      simp only [List.take_succ_cons, List.take_zero, setAll, List.setIfInBounds_toArray, List.set_cons_succ, List.set_cons_zero, Nat.zero_add, Nat.reduceAdd, g2] at hK ⊢
      refine wp_of_quiet rfl ?_
      go_big_quiet_step (fail)
      exact wpQuiet_nil (hK _ _ rfl (Below.refl _ _))
    · intro f wq hC hd KK hK
      have g3 : f 3 = .pointer (some ⟨p, 2, none⟩) := hd 3 (by kernel_rfl)
      have cx := CP.out wq hC
      simp only [List.take_succ_cons, List.take_zero, setAll, List.setIfInBounds_toArray, List.set_cons_succ, List.set_cons_zero, Nat.zero_add, Nat.reduceAdd, g3] at hK ⊢
      refine wp_of_quiet rfl ?_
      go_big_quiet_step (fail)
      exact wpQuiet_nil (hK _ _ rfl (Below.refl _ _))
    · intro f wq hC hd KK hK
      have g0 : f 0 = .slice av nv cv := hd 0 (by kernel_rfl)
      have g4 : f 4 = .int .u64 (f0 : Int) := hd 4 (by kernel_rfl)
      simp only [List.take_succ_cons, List.take_zero, setAll, List.setIfInBounds_toArray, List.set_cons_succ, List.set_cons_zero, Nat.zero_add, Nat.reduceAdd, g0, g4] at hK ⊢
      refine wp_callE 30 #[.slice av nv cv, .int .u64 (f0 : Int)] (by simp [go_sem]) (fun v wb => ∃ A, v = .tuple #[.agg A, ErrR rs so] ∧ TolR w3.heap.size wb f0 rs so A ∧ Below wq.heap.size wq wb) ((TK.out w3.heap.size wq (.slice av nv cv) (D3.out.same fun k _ hk => hC.block k hk) hC.size).mono ?_) ?_
      · rintro e wb ⟨A, rfl, q1, q2⟩
        exact ⟨_, rfl, A, rfl, q1, q2⟩
      · rintro v wb ⟨A, rfl, q1, q2⟩
        exact hK _ _ ⟨A, rfl, q1⟩ q2
    · intro f wq hC hd KK hK
      have q5 := hd 5 (by kernel_rfl)
      simp only at q5
      simp only [List.take_succ_cons, List.take_zero, setAll, List.setIfInBounds_toArray, List.set_cons_succ, List.set_cons_zero, Nat.zero_add, Nat.reduceAdd] at hK ⊢
      obtain ⟨A, e5, k5⟩ := q5
      simp only [e5] at hK ⊢
      refine wp_of_quiet rfl ?_
      go_big_quiet_step (fail)
      exact wpQuiet_nil (hK _ _ ⟨A, rfl, k5⟩ (Below.refl _ _))
    · intro f wq hC hd KK hK
      have q5 := hd 5 (by kernel_rfl)
      simp only at q5
      simp only [List.take_succ_cons, List.take_zero, setAll, List.setIfInBounds_toArray, List.set_cons_succ, List.set_cons_zero, Nat.zero_add, Nat.reduceAdd] at hK ⊢
      obtain ⟨A, e5, k5⟩ := q5
      simp only [e5] at hK ⊢
      refine wp_of_quiet rfl ?_
      go_big_quiet_step (fail)
      exact wpQuiet_nil (hK _ _ rfl (Below.refl _ _))
  intro f wq hC hv
  have g0 : f 0 = .slice av nv cv := hv 0 (by decide)
  have g1 : f 1 = .pointer (some ⟨p, 0, none⟩) := hv 1 (by decide)
  have g2 : f 2 = .pointer (some ⟨p, 0, none⟩) := hv 2 (by decide)
  have g3 : f 3 = .pointer (some ⟨p, 2, none⟩) := hv 3 (by decide)
  have g4 : f 4 = .int .u64 (f0 : Int) := hv 4 (by decide)
  have g7 : f 7 = ErrR rs so := hv 7 (by decide)
  have k6 := hv 6 (by decide)
  simp only at k6
  simp only [List.take_succ_cons, List.take_zero, List.drop_succ_cons, List.drop_zero, setAll, List.setIfInBounds_toArray, List.set_cons_succ, List.set_cons_zero, Nat.zero_add, Nat.reduceAdd, g0, g1, g2, g3, g4, g7]
  obtain ⟨A, e6, k6⟩ := k6
  simp only [e6]
  generalize f 5 = x5 at *
  clear g0 g1 g2 g3 g4 g7 hv e6 TK C11 C4 CP
  obtain ⟨hA5, hA1⟩ := k6.cells
  obtain ⟨w4, hw4⟩ : ∃ w4, w4 = wq.setRow w.heap.size A := ⟨_, rfl⟩
  have rm : Room wq w.heap.size 41 5 := (RZ.out.below hC RZ.out.lt).room rfl
  have R4 : Box' (Row w4 w.heap.size 41 A) := ⟨by rw [hw4]; exact rm.setRow _⟩
  have T4 : Box' (Tch (fun k => k = b11) w w4) := ⟨by rw [hw4]; exact (T3.out.trans (Tch.of (F := fun k => k = b11) hC) (fun i h => .inl h)).setRow _ _ (Nat.le_refl _)⟩
  have R11 : Box' (Row w4 b11 76 #[.slice av nv cv]) := ⟨by rw [hw4]; exact (R3.out.below hC R3.out.lt).setRowOther _ _ (by omega)⟩
  have D4 : Box' (DueR w.heap.size w4 g rs so (.slice av nv cv)) := ⟨by
    rw [hw4]
    refine ((D3.out.same fun k _ hk => hC.block k hk).same fun k hk _ => setRow_other _ _ _ _ (by omega)).less (Nat.le_succ _)⟩
  have K4 : Box' (TolR w3.heap.size w4 f0 rs so A) := ⟨by
    rw [hw4]
    exact k6.below fun k hk _ => setRow_other _ _ _ _ (by omega)⟩
  have HA5 := Box'.mk hA5
  clear hC D3 T3 RZ R3 k6 hA5
  go_wp2_with (refine wpList_store_row rfl 41 (.tmp 5) (.tmp 18) rfl w.heap.size rfl A rfl 41 5 rm (by kernel_rfl) HA5.out hA1 ?_; rw [← hw4]; clear hw4 rm hA1)
  refine bodyPost_ret (results_row1 rfl _ w.heap.size rfl (ErrR rs so) rfl 41 _ R4.out _ Try.underlying41 rfl 5 (by kernel_rfl) HA5.out) rfl ?_
  exact ⟨_, _, w3.heap.size, rfl, R11.out, D4.out, K4.out, Nat.le_of_lt ez, BV.out, T4.out⟩
end Go.Proofs.Ytikkekdmahdgaaa
