/- Tick's question: which row, and what is told of it. -/
import Derived.Test.YtikkekdmahdgaaaTi
import Derived.Test.YtikkekdmahdgaaaTj
namespace Go.Proofs.Ytikkekdmahdgaaa
open Go.RowKit Go.BigFrame
set_option linter.unusedSimpArgs false
set_option linter.unusedVariables false
set_option maxRecDepth 100000
set_option maxHeartbeats 4000000

theorem ErrR_int (rs : List (List UInt8)) (so : Bool) : ∃ i, ErrR rs so = .int .i64 i ∧ ((so = true ∧ (sfF rs).2 = false ∧ i = 99) ∨ (so = false ∧ i = 0) ∨ (so = true ∧ (sfF rs).2 = true ∧ i = 0)) := by
  unfold ErrR errS
  cases so with
  | true =>
    cases h : (sfF rs).2 with
    | true => exact ⟨0, by simp, .inr (.inr ⟨rfl, rfl, rfl⟩)⟩
    | false => exact ⟨99, by simp, .inl ⟨rfl, rfl, rfl⟩⟩
  | false => exact ⟨0, by simp, .inr (.inl ⟨rfl, rfl⟩)⟩
theorem tickAsk (b4 b5 b6 b7 b11 p g n c f0 tm now seen : Nat) (any : Bool) (ts : List (List UInt8)) (x : List UInt8) (pace timeout : Int) (w : World) (r4 : Row w b4 23 #[.pointer (some ⟨p, 0, none⟩)]) (r5 : Row w b5 29 #[.int .u64 (now : Int)]) (r6 : Row w b6 3 #[.int .i64 pace]) (r7 : Row w b7 3 #[.int .i64 timeout]) (r11 : Row w b11 76 #[.slice none 0 0])
    (hr : Row w p 78 #[sT x, .slice (some ⟨g, 0, none⟩) n c, .int .u64 (f0 : Int), .bool any, .int .u64 (tm : Int), .int .u64 (seen : Int)]) (hg : g ≠ b11)
    (ht : TxR w g ts) (hn : ts.length = n) (h0 : 0 < n) (h32 : n ≤ 32) (hc : n ≤ c) (ho : any = true → tm ≤ now) (hnow : now < 18446744073709551616) (p0 : 0 ≤ pace) (p1 : pace < 9223372036854775808) (t0 : 0 ≤ timeout) (t1 : timeout < 9223372036854775808)
    (hl : ∀ k, k < n → (ts.getD k []).length ≤ 140737488351232) (hx : x.length ≤ 140737488351232) (hf : f0 + n + 1 ≤ 18446744073709551616)
    (fr al : Bool) (hfr : (!decide (ts.getD (n - 1) [] = x) && decide (n < 32) && aft any tm now pace) = fr) (hal : ((decide (1 < n) && aft any tm now timeout) || aft any tm now 3000) = al) (i : Int) (hi : ErrR (rsF ts x fr) (fr || al) = .int .i64 i) :
    Calls Try.prog 27 #[.func (.func 28) #[] #[.pointer (some ⟨b4, 0, none⟩), .pointer (some ⟨b5, 0, none⟩), .pointer (some ⟨b6, 0, none⟩), .pointer (some ⟨b7, 0, none⟩), .pointer (some ⟨b11, 0, none⟩)]] w fun e w' => ∃ v A M, e = .returned (.tuple #[.agg A, .int .i64 i]) ∧ Row w' b11 76 #[v] ∧ DueR w.heap.size w' g (rsF ts x fr) (fr || al) v ∧ TolR M w' f0 (rsF ts x fr) (fr || al) A ∧ w.heap.size ≤ M ∧ (∀ k, v.ownBlock = some k → k < M) ∧ Tch (fun k => k = b11) w w' := by
  refine (asked27_any _ b11 w i (fun A w' => ∃ v M, Row w' b11 76 #[v] ∧ DueR (w.heap.size + 2) w' g (rsF ts x fr) (fr || al) v ∧ TolR M w' f0 (rsF ts x fr) (fr || al) A ∧ w.heap.size + 2 ≤ M ∧ ∀ k, v.ownBlock = some k → k < M) r11.lt ?_).mono ?_
  · intro w1 hb hz
    refine (tick1_any b4 b5 b6 b7 b11 p g n c f0 tm now seen any ts x pace timeout w1 (r4.below hb r4.lt) (r5.below hb r5.lt) (r6.below hb r6.lt) (r7.below hb r7.lt) (r11.below hb r11.lt) (hr.below hb hr.lt) hg (ht.below hb) hn h0 h32 hc ho hnow p0 p1 t0 t1 hl hx hf fr al hfr hal).mono ?_
    rintro e w2 ⟨v, A, M, rfl, q1, q2, q3, q4, q5, q6⟩
    rw [hz] at q2 q4
    exact ⟨A, by rw [hi], q3.cells.1, q3.cells.2, ⟨v, M, q1, q2, q3, q4, q5⟩, q6⟩
  · rintro e w' ⟨A, w1, w2, rfl, ⟨v, M, q1, q2, q3, q4, q5⟩, b1, z1, t1, t2⟩
    have h11 := r11.lt
    have hgl := ht.1
    refine ⟨v, A, M, rfl, q1.same (t2.block _ q1.lt (by show ¬ (b11 = w.heap.size ∨ b11 = w.heap.size + 1); omega)), (q2.same fun k hk hkl => t2.block k hkl (by show ¬ (k = w.heap.size ∨ k = w.heap.size + 1); omega)).less (by omega), q3.below fun k hk hkl => t2.block k hkl (by show ¬ (k = w.heap.size ∨ k = w.heap.size + 1); omega), by omega, q5, ?_⟩
    refine ((Tch.of (F := fun k => k = b11) b1).trans t1 (fun _ h => .inl h)).trans t2 ?_
    rintro k (rfl | rfl)
    · exact .inr (Nat.le_refl _)
    · exact .inr (Nat.le_succ _)
theorem wp_store76 {op : Oper} {a : Act} {w : World} {K : Act → World → Prop} {Q : Exit → Act → World → Prop} (x y : Operand) (ho : op.op = .store 76 x y) (b o : Nat) (s : Option Addr) (n c : Nat) (old : Value) (hx : a.eval x = .pointer (some ⟨b, o, none⟩)) (hy : a.eval y = .slice s n c) (hc : w.cell? ⟨b, o, none⟩ = some old) (hf : w.frozen? ⟨b, o, none⟩ = false) (h : K (a.put op.dst undef) (w.setCell ⟨b, o, none⟩ (.slice s n c))) : op.wp Try.prog a w K Q := by
  unfold Oper.wp execOp
  simp only [ho, hx, hy]
  simp [go_sem, hc, hf]
  exact h
theorem wp_store29 {op : Oper} {a : Act} {w : World} {K : Act → World → Prop} {Q : Exit → Act → World → Prop} (x y : Operand) (ho : op.op = .store 29 x y) (b o : Nat) (i : Int) (old : Value) (hx : a.eval x = .pointer (some ⟨b, o, none⟩)) (hy : a.eval y = .int .u64 i) (hc : w.cell? ⟨b, o, none⟩ = some old) (hf : w.frozen? ⟨b, o, none⟩ = false) (h : K (a.put op.dst undef) (w.setCell ⟨b, o, none⟩ (.int .u64 i))) : op.wp Try.prog a w K Q := by
  unfold Oper.wp execOp
  simp only [ho, hx, hy]
  simp [go_sem, hc, hf]
  exact h
theorem wp_store4 {op : Oper} {a : Act} {w : World} {K : Act → World → Prop} {Q : Exit → Act → World → Prop} (x y : Operand) (ho : op.op = .store 4 x y) (b o : Nat) (i : Bool) (old : Value) (hx : a.eval x = .pointer (some ⟨b, o, none⟩)) (hy : a.eval y = .bool i) (hc : w.cell? ⟨b, o, none⟩ = some old) (hf : w.frozen? ⟨b, o, none⟩ = false) (h : K (a.put op.dst undef) (w.setCell ⟨b, o, none⟩ (.bool i))) : op.wp Try.prog a w K Q := by
  unfold Oper.wp execOp
  simp only [ho, hx, hy]
  simp [go_sem, hc, hf]
  exact h
theorem vals_upd {V : Nat → Value} {S : Nat → Bool} {D : Nat → Bool} {f : Nat → Value} {k : Nat} {v : Value} (hv : ∀ i, D i = true → S i = false → f i = V i) (h : S k = true ∨ v = V k) : ∀ i, updB D k i = true → S i = false → upd f k v i = V i := by
  intro i hi hs
  by_cases e : i = k
  · subst e
    rcases h with h | h
    · rw [h] at hs; cases hs
    · simp [upd, h]
  · simp only [upd, if_neg e]
    simp only [updB, if_neg e] at hi
    exact hv i hi hs
/-- The sender while it is being told that it sent. -/
def PSt (w0 wa : World) (p : Nat) (x : List UInt8) (so vn : Value) (f0 : Nat) (any : Bool) (tm now : Nat) (d1 d2 d3 : Bool) : Prop := Row wa p 78 #[sT x, if d1 = true then vn else so, .int .u64 (f0 : Int), if d3 = true then .bool true else .bool any, if d2 = true then .int .u64 (now : Int) else .int .u64 (tm : Int), .int .u64 (now : Int)] ∧ Tch (fun k => k = p) w0 wa
theorem PSt.s1 {w0 wa : World} {p : Nat} {x : List UInt8} {so vn : Value} {f0 : Nat} {any : Bool} {tm now : Nat} {d1 d2 d3 : Bool} (h : PSt w0 wa p x so vn f0 any tm now d1 d2 d3) : PSt w0 (wa.setCell ⟨p, 1, none⟩ vn) p x so vn f0 any tm now true d2 d3 := ⟨h.1.setCell 1 vn, h.2.set ⟨p, 1, none⟩ _ (.inl rfl)⟩
theorem PSt.s2 {w0 wa : World} {p : Nat} {x : List UInt8} {so vn : Value} {f0 : Nat} {any : Bool} {tm now : Nat} {d1 d2 d3 : Bool} (h : PSt w0 wa p x so vn f0 any tm now d1 d2 d3) : PSt w0 (wa.setCell ⟨p, 4, none⟩ (.int .u64 (now : Int))) p x so vn f0 any tm now d1 true d3 := ⟨h.1.setCell 4 _, h.2.set ⟨p, 4, none⟩ _ (.inl rfl)⟩
theorem PSt.s3 {w0 wa : World} {p : Nat} {x : List UInt8} {so vn : Value} {f0 : Nat} {any : Bool} {tm now : Nat} {d1 d2 d3 : Bool} (h : PSt w0 wa p x so vn f0 any tm now d1 d2 d3) : PSt w0 (wa.setCell ⟨p, 3, none⟩ (.bool true)) p x so vn f0 any tm now d1 d2 true := ⟨h.1.setCell 3 _, h.2.set ⟨p, 3, none⟩ _ (.inl rfl)⟩
end Go.Proofs.Ytikkekdmahdgaaa
