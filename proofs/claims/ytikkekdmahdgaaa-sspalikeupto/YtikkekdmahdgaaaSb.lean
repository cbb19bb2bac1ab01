/- A sender and a receiver apart from one another, beside them the texts that were had and the instructions that were told. -/
import Derived.Test.YtikkekdmahdgaaaSa
import Derived.Maps.AppendAt
namespace Go.Proofs.Ytikkekdmahdgaaa
set_option maxRecDepth 100000
open Go.RowKit Go.BigFrame
set_option maxRecDepth 100000
set_option linter.unusedSimpArgs false
set_option linter.unusedVariables false

theorem infoT : ∃ i, Try.prog.info? 9 = some i ∧ i.zero = some (.string ⟨#[]⟩) ∧ i.size = 1 ∧ i.bytes = 16 := ⟨_, rfl, rfl, rfl, rfl⟩
theorem infoI : ∃ i, Try.prog.info? 41 = some i ∧ i.zero = some (.agg (insA Ins.none (.slice none 0 0))) ∧ i.size = 5 ∧ i.bytes = 56 := ⟨_, rfl, rfl, rfl, rfl⟩
theorem Try.under70 : Try.prog.underlying 70 = some (.slice 9) := by kernel_rfl
theorem Try.under53 : Try.prog.underlying 53 = some (.slice 41) := by kernel_rfl
/-- Texts in a row of one's own. -/
def OwnT (N : Nat) (w : World) (v : Value) (l : List (List UInt8)) : Prop := w.ownsRow N 9 1 v l.length (l.map sT)
/-- Instructions in a row of one's own. -/
def insC (l : List (Ins × Value)) : List Value := l.flatMap fun p => (insA p.1 p.2).toList
def OwnI (N : Nat) (w : World) (v : Value) (l : List (Ins × Value)) : Prop := w.ownsRow N 41 5 v l.length (insC l)
theorem own_keep {N t sz n : Nat} {w w' : World} {v : Value} {xs : List Value} (h : w.ownsRow N t sz v n xs) (hk : ∀ g, v.ownBlock = some g → w'.heap[g]? = w.heap[g]?) : w'.ownsRow N t sz v n xs := by
  refine ⟨h.1, ?_⟩
  rcases h.2 with q | ⟨g, cap, cur, e1, e2, e3, e4⟩
  · exact .inl q
  · exact .inr ⟨g, cap, cur, e1, e2, by rw [hk g (by rw [e1]; rfl)]; exact e3, e4⟩
theorem own_lt {N t sz n : Nat} {w : World} {v : Value} {xs : List Value} (h : w.ownsRow N t sz v n xs) : ∀ g, v.ownBlock = some g → N ≤ g ∧ g < w.heap.size := by
  intro k hk
  rcases h.2 with ⟨e, _⟩ | ⟨g, cap, cur, e1, e2, e3, _⟩
  · rw [e] at hk; simp [Value.ownBlock] at hk
  · rw [e1] at hk; simp [Value.ownBlock] at hk; subst hk
    exact ⟨e2, (Array.getElem?_eq_some_iff.1 e3).1⟩
theorem own_slice {N t sz n : Nat} {w : World} {v : Value} {xs : List Value} (h : w.ownsRow N t sz v n xs) : ∃ a c, v = .slice a n c ∧ n ≤ c := by
  rcases h.2 with ⟨rfl, rfl⟩ | ⟨g, cap, cur, e1, e2, e3, e4, _⟩
  · exact ⟨_, _, rfl, Nat.le_refl _⟩
  · exact ⟨_, _, e1, e4⟩
theorem own_cell {N t sz n : Nat} {w : World} {v : Value} {xs : List Value} (h : w.ownsRow N t sz v n xs) (hn : 0 < n) : ∃ g c, v = .slice (some ⟨g, 0, none⟩) n c ∧ n ≤ c ∧ g < w.heap.size ∧ ∀ j u, xs[j]? = some u → w.cell? ⟨g, j, none⟩ = some u := by
  rcases h.2 with ⟨_, e⟩ | ⟨g, cap, cur, e1, e2, e3, e4, e5, e6, e7⟩
  · omega
  · refine ⟨g, cap, e1, e4, (Array.getElem?_eq_some_iff.1 e3).1, fun j u hu => ?_⟩
    have hj : j < n * sz := by rw [← h.1]; exact (List.getElem?_eq_some_iff.1 hu).1
    rw [cell_of_row w g j cur t (0, 0) e3]
    rw [← e7, List.getElem?_take_of_lt hj] at hu
    simpa using hu
theorem OwnT.cell {N : Nat} {w : World} {v : Value} {l : List (List UInt8)} (h : OwnT N w v l) {k : Nat} (hk : k < l.length) : ∃ g c, v = .slice (some ⟨g, 0, none⟩) l.length c ∧ l.length ≤ c ∧ g < w.heap.size ∧ w.cell? ⟨g, k, none⟩ = some (sT (l.getD k [])) := by
  obtain ⟨g, c, e1, e2, e3, e4⟩ := own_cell h (by omega)
  refine ⟨g, c, e1, e2, e3, e4 _ _ ?_⟩
  rw [List.getElem?_map, List.getElem?_eq_getElem hk, show l.getD k [] = l[k] by simp [hk]]
  rfl
theorem insC_at (l : List (Ins × Value)) (k : Nat) (h : k < l.length) : ∀ j, j < 5 → (insC l)[k * 5 + j]? = (insA (l.getD k (Ins.none, .slice none 0 0)).1 (l.getD k (Ins.none, .slice none 0 0)).2)[j]? := by
  induction l generalizing k with
  | nil => simp at h
  | cons x r ih =>
    intro j hj
    have e : insC (x :: r) = (insA x.1 x.2).toList ++ insC r := rfl
    have hl : (insA x.1 x.2).toList.length = 5 := rfl
    cases k with
    | zero => rw [e, List.getElem?_append_left (by rw [hl]; omega)]; simp
    | succ k =>
      rw [e, List.getElem?_append_right (by rw [hl]; omega), hl, show (k + 1) * 5 + j - 5 = k * 5 + j by omega, ih k (by simpa using h) j hj]
      simp
theorem insC_len (l : List (Ins × Value)) : (insC l).length = l.length * 5 := by
  induction l with
  | nil => rfl
  | cons x r ih =>
    have e : insC (x :: r) = (insA x.1 x.2).toList ++ insC r := rfl
    rw [e, List.length_append, ih, List.length_cons]
    show 5 + _ = _
    omega
theorem OwnI.cell {N : Nat} {w : World} {v : Value} {l : List (Ins × Value)} (h : OwnI N w v l) {k : Nat} (hk : k < l.length) : ∃ g c, v = .slice (some ⟨g, 0, none⟩) l.length c ∧ l.length ≤ c ∧ g < w.heap.size ∧ ∀ j, j < 5 → w.cell? ⟨g, k * 5 + j, none⟩ = (insA (l.getD k (Ins.none, .slice none 0 0)).1 (l.getD k (Ins.none, .slice none 0 0)).2)[j]? := by
  obtain ⟨g, c, e1, e2, e3, e4⟩ := own_cell h (by omega)
  refine ⟨g, c, e1, e2, e3, fun j hj => ?_⟩
  rw [← insC_at l k hk j hj]
  have hlt : k * 5 + j < (insC l).length := by rw [insC_len]; omega
  rw [List.getElem?_eq_getElem hlt]
  exact e4 _ _ (List.getElem?_eq_getElem hlt)
/-- All of it: the sender, the receiver, what was had, what was told. -/
structure Al (RS : World → (Nat → Prop) → Nat → Sd → Prop) (RR : World → (Nat → Prop) → Nat → List Rw → Prop) (N : Nat) (w : World) (p1 p2 : Nat) (F1 F2 D : Nat → Prop) (vh vs : Value) (s : Sd) (l : List Rw) (had : List (List UInt8)) (sent : List (Ins × Value)) : Prop where
  a : RS w F1 p1 s
  b : RR w F2 p2 l
  hr : OwnT N w vh had
  sr : OwnI N w vs sent
  sd : ∀ p, p ∈ sent → InX D w p.2 p.1.dif
  h1 : ∀ g, vh.ownBlock = some g → ¬ F1 g ∧ ¬ F2 g ∧ ¬ D g
  s1 : ∀ g, vs.ownBlock = some g → ¬ F1 g ∧ ¬ F2 g ∧ ¬ D g
  hs : ∀ g, vh.ownBlock = some g → vs.ownBlock ≠ some g
  d1 : ∀ g, D g → g < w.heap.size ∧ ¬ F1 g ∧ ¬ F2 g
  ff : ∀ g, F1 g → ¬ F2 g
  n1 : ∀ g, F1 g → N ≤ g
  n2 : ∀ g, F2 g → N ≤ g
  hN : N ≤ w.heap.size
section
variable {RS : World → (Nat → Prop) → Nat → Sd → Prop} {RR : World → (Nat → Prop) → Nat → List Rw → Prop} {N : Nat} {w w' : World} {p1 p2 : Nat} {F1 F2 D F' D' : Nat → Prop} {vh vs v' : Value} {s s' : Sd} {l l' : List Rw} {had : List (List UInt8)} {sent : List (Ins × Value)}
theorem Al.below (KS : KeepR RS) (KR : KeepR RR) (h : Al RS RR N w p1 p2 F1 F2 D vh vs s l had sent) (b : Below w.heap.size w w') : Al RS RR N w' p1 p2 F1 F2 D vh vs s l had sent :=
  ⟨KS.below h.a b, KR.below h.b b, own_keep h.hr fun g hg => b.block g (own_lt h.hr g hg).2, own_keep h.sr fun g hg => b.block g (own_lt h.sr g hg).2, fun p hp => (h.sd p hp).keep fun g hg => ⟨hg, b.block g (h.d1 g hg).1⟩, h.h1, h.s1, h.hs, fun g hg => ⟨Nat.lt_of_lt_of_le (h.d1 g hg).1 b.size, (h.d1 g hg).2⟩, h.ff, h.n1, h.n2, Nat.le_trans h.hN b.size⟩
/-- The sender's call is behind. -/
theorem Al.one (KS : KeepR RS) (KR : KeepR RR) (h : Al RS RR N w p1 p2 F1 F2 D vh vs s l had sent) (ha : RS w' F' p1 s') (t : Tch F1 w w') (n : ∀ k, F' k → F1 k ∨ w.heap.size ≤ k) : Al RS RR N w' p1 p2 F' F2 D vh vs s' l had sent := by
  have hb := KR.other h.b (fun k hk q => h.ff k q hk) t n
  have nf : ∀ g, g < w.heap.size → ¬ F1 g → ¬ F' g := fun g h1 h2 q => by
    rcases n g q with q | q
    · exact h2 q
    · omega
  exact ⟨ha, hb.1, own_keep h.hr fun g hg => t.block g (own_lt h.hr g hg).2 (h.h1 g hg).1, own_keep h.sr fun g hg => t.block g (own_lt h.sr g hg).2 (h.s1 g hg).1, fun p hp => (h.sd p hp).keep fun g hg => ⟨hg, t.block g (h.d1 g hg).1 (h.d1 g hg).2.1⟩,
    fun g hg => ⟨nf g (own_lt h.hr g hg).2 (h.h1 g hg).1, (h.h1 g hg).2⟩, fun g hg => ⟨nf g (own_lt h.sr g hg).2 (h.s1 g hg).1, (h.s1 g hg).2⟩, h.hs, fun g hg => ⟨Nat.lt_of_lt_of_le (h.d1 g hg).1 t.size, nf g (h.d1 g hg).1 (h.d1 g hg).2.1, (h.d1 g hg).2.2⟩, fun g q1 q2 => hb.2 g q2 q1,
    fun g hg => by rcases n g hg with q | q; exact h.n1 g q; have := h.hN; omega, h.n2, Nat.le_trans h.hN t.size⟩
/-- The receiver's call is behind. -/
theorem Al.two (KS : KeepR RS) (KR : KeepR RR) (h : Al RS RR N w p1 p2 F1 F2 D vh vs s l had sent) (hb : RR w' F' p2 l') (t : Tch F2 w w') (n : ∀ k, F' k → F2 k ∨ w.heap.size ≤ k) : Al RS RR N w' p1 p2 F1 F' D vh vs s l' had sent := by
  have ha := KS.other h.a (fun k hk q => h.ff k hk q) t n
  have nf : ∀ g, g < w.heap.size → ¬ F2 g → ¬ F' g := fun g h1 h2 q => by
    rcases n g q with q | q
    · exact h2 q
    · omega
  exact ⟨ha.1, hb, own_keep h.hr fun g hg => t.block g (own_lt h.hr g hg).2 (h.h1 g hg).2.1, own_keep h.sr fun g hg => t.block g (own_lt h.sr g hg).2 (h.s1 g hg).2.1, fun p hp => (h.sd p hp).keep fun g hg => ⟨hg, t.block g (h.d1 g hg).1 (h.d1 g hg).2.2⟩,
    fun g hg => ⟨(h.h1 g hg).1, nf g (own_lt h.hr g hg).2 (h.h1 g hg).2.1, (h.h1 g hg).2.2⟩, fun g hg => ⟨(h.s1 g hg).1, nf g (own_lt h.sr g hg).2 (h.s1 g hg).2.1, (h.s1 g hg).2.2⟩, h.hs, fun g hg => ⟨Nat.lt_of_lt_of_le (h.d1 g hg).1 t.size, (h.d1 g hg).2.1, nf g (h.d1 g hg).1 (h.d1 g hg).2.2⟩, fun g q1 q2 => ha.2 g q1 q2,
    h.n1, fun g hg => by rcases n g hg with q | q; exact h.n2 g q; have := h.hN; omega, Nat.le_trans h.hN t.size⟩
/-- What was told is kept: more blocks. -/
theorem Al.more (h : Al RS RR N w p1 p2 F1 F2 D vh vs s l had sent) (D2 : Nat → Prop) (h2 : ∀ g, D2 g → g < w.heap.size ∧ ¬ F1 g ∧ ¬ F2 g ∧ vh.ownBlock ≠ some g ∧ vs.ownBlock ≠ some g) : Al RS RR N w p1 p2 F1 F2 (fun g => D g ∨ D2 g) vh vs s l had sent :=
  ⟨h.a, h.b, h.hr, h.sr, fun p hp => (h.sd p hp).keep fun g hg => ⟨.inl hg, rfl⟩, fun g hg => ⟨(h.h1 g hg).1, (h.h1 g hg).2.1, fun q => by rcases q with q | q; exact (h.h1 g hg).2.2 q; exact (h2 g q).2.2.2.1 hg⟩, fun g hg => ⟨(h.s1 g hg).1, (h.s1 g hg).2.1, fun q => by rcases q with q | q; exact (h.s1 g hg).2.2 q; exact (h2 g q).2.2.2.2 hg⟩, h.hs,
    fun g hg => by rcases hg with q | q; exact h.d1 g q; exact ⟨(h2 g q).1, (h2 g q).2.1, (h2 g q).2.2.1⟩, h.ff, h.n1, h.n2, h.hN⟩
/-- An instruction is put behind those that were told. -/
theorem Al.push (KS : KeepR RS) (KR : KeepR RR) (h : Al RS RR N w p1 p2 F1 F2 D vh vs s l had sent) (x : Ins) (vb : Value) (hx : InX D w vb x.dif) (ho : OwnI N w' v' (sent ++ [(x, vb)])) (hg : w.grownBy w' vs.ownBlock) (ha : v'.ownBlock = vs.ownBlock ∨ v'.ownBlock = some w.heap.size) : Al RS RR N w' p1 p2 F1 F2 D vh v' s l had (sent ++ [(x, vb)]) := by
  have bl : ∀ g, g < w.heap.size → ¬ vs.ownBlock = some g → w'.heap[g]? = w.heap[g]? := fun g h1 h2 => hg.block g h1 fun e => h2 e.symm
  have l1 := KS.2 _ _ _ _ h.a
  have l2 := KR.2 _ _ _ _ h.b
  refine ⟨KS.1 _ _ _ _ _ h.a fun g q => bl g (l1 g q) fun e => (h.s1 g e).1 q, KR.1 _ _ _ _ _ h.b fun g q => bl g (l2 g q) fun e => (h.s1 g e).2.1 q, own_keep h.hr fun g q => bl g (own_lt h.hr g q).2 (h.hs g q), ho, fun p hp => ?_, h.h1, fun g q => ?_, fun g q q2 => ?_, fun g q => ⟨Nat.lt_of_lt_of_le (h.d1 g q).1 hg.size, (h.d1 g q).2⟩, h.ff, h.n1, h.n2, Nat.le_trans h.hN hg.size⟩
  · rcases List.mem_append.1 hp with q | q
    · exact (h.sd p q).keep fun g hg2 => ⟨hg2, bl g (h.d1 g hg2).1 fun e => (h.s1 g e).2.2 hg2⟩
    · rw [List.mem_singleton] at q
      subst q
      exact hx.keep fun g hg2 => ⟨hg2, bl g (h.d1 g hg2).1 fun e => (h.s1 g e).2.2 hg2⟩
  · rcases ha with e | e
    · exact h.s1 g (by rw [← e]; exact q)
    · rw [e] at q; injection q with q
      exact ⟨fun q1 => by have := l1 g q1; omega, fun q1 => by have := l2 g q1; omega, fun q1 => by have := (h.d1 g q1).1; omega⟩
  · rcases ha with e | e
    · exact h.hs g q (by rw [← e]; exact q2)
    · rw [e] at q2; injection q2 with q2
      have := (own_lt h.hr g q).2
      omega
/-- A text is put behind those that were had. -/
theorem Al.putT (KS : KeepR RS) (KR : KeepR RR) (h : Al RS RR N w p1 p2 F1 F2 D vh vs s l had sent) (t : List UInt8) (ho : OwnT N w' v' (had ++ [t])) (hg : w.grownBy w' vh.ownBlock) (ha : v'.ownBlock = vh.ownBlock ∨ v'.ownBlock = some w.heap.size) : Al RS RR N w' p1 p2 F1 F2 D v' vs s l (had ++ [t]) sent := by
  have bl : ∀ g, g < w.heap.size → ¬ vh.ownBlock = some g → w'.heap[g]? = w.heap[g]? := fun g h1 h2 => hg.block g h1 fun e => h2 e.symm
  have l1 := KS.2 _ _ _ _ h.a
  have l2 := KR.2 _ _ _ _ h.b
  refine ⟨KS.1 _ _ _ _ _ h.a fun g q => bl g (l1 g q) fun e => (h.h1 g e).1 q, KR.1 _ _ _ _ _ h.b fun g q => bl g (l2 g q) fun e => (h.h1 g e).2.1 q, ho, own_keep h.sr fun g q => bl g (own_lt h.sr g q).2 (fun e => h.hs g e q), fun p hp => (h.sd p hp).keep fun g hg2 => ⟨hg2, bl g (h.d1 g hg2).1 fun e => (h.h1 g e).2.2 hg2⟩, fun g q => ?_, h.s1, fun g q q2 => ?_, fun g q => ⟨Nat.lt_of_lt_of_le (h.d1 g q).1 hg.size, (h.d1 g q).2⟩, h.ff, h.n1, h.n2, Nat.le_trans h.hN hg.size⟩
  · rcases ha with e | e
    · exact h.h1 g (by rw [← e]; exact q)
    · rw [e] at q; injection q with q
      exact ⟨fun q1 => by have := l1 g q1; omega, fun q1 => by have := l2 g q1; omega, fun q1 => by have := (h.d1 g q1).1; omega⟩
  · rcases ha with e | e
    · exact h.hs g (by rw [← e]; exact q) q2
    · rw [e] at q; injection q with q
      have := (own_lt h.sr g q2).2
      omega
end
/-- append of a text; of an instruction. -/
theorem wpList_appT {ops : Array Oper} {rest : List Oper} {o : Oper} {a : Act} {w : World} {Q : Exit → Act → World → Prop} (hgd : o.guard = none) (s x : Operand)
    (ho : o.op = .call { callee := .builtin .append, args := #[s, x], argTypes := #[70, 70] }) (N : Nat) (hN : N ≤ w.heap.size) (v : Value) (l : List (List UInt8)) (hs : a.eval s = v) (hv : OwnT N w v l) (t : List UInt8) (g c : Nat) (hx : a.eval x = .slice (some ⟨g, 0, none⟩) 1 c)
    (hc : w.cell? ⟨g, 0, none⟩ = some (sT t)) (hl : l.length ≤ 1048576)
    (h : ∀ v' w', OwnT N w' v' (l ++ [t]) → w.grownBy w' v.ownBlock → (v'.ownBlock = v.ownBlock ∨ v'.ownBlock = some w.heap.size) → wpList Try.prog ops Q rest (a.put o.dst v') w') : wpList Try.prog ops Q (o :: rest) a w := by
  obtain ⟨i, h1, h2, h3, h4⟩ := infoT
  obtain ⟨v', w', hr, g2, g3, _, g5⟩ := run_append_own_at (P := Try.prog) w N 70 o.type 9 i _ 1 16 Try.under70 h1 h2 h3 h4 rfl (by decide) v l.length (l.map sT) hv ⟨g, 0, none⟩ 1 c [sT t] rfl (fun j u hu => by
    match j, hu with
    | 0, hu => rw [show (⟨g, 0, none⟩ : Addr).add 0 = ⟨g, 0, none⟩ from rfl, hc]; simpa using hu) (fun u hu => by rw [List.mem_singleton] at hu; rw [hu]; rfl) (by unfold maxLen; omega) (by omega) hN
  refine wpList_plain hgd fun K hK => ?_
  unfold Oper.wp execOp
  simp only [ho, resolve, invoke, builtin, Sem.run_bind, Sem.run_pure, Result.andThen_ok, List.map_toArray, List.map_cons, List.map_nil, hs, hx, hr]
  exact hK _ _ (h v' w' (by unfold OwnT; rw [List.length_append, List.map_append]; exact g2) g3 g5)
theorem wpList_appIn {ops : Array Oper} {rest : List Oper} {o : Oper} {a : Act} {w : World} {Q : Exit → Act → World → Prop} (hgd : o.guard = none) (s x : Operand)
    (ho : o.op = .call { callee := .builtin .append, args := #[s, x], argTypes := #[53, 53] }) (N : Nat) (hN : N ≤ w.heap.size) (v : Value) (l : List (Ins × Value)) (hs : a.eval s = v) (hv : OwnI N w v l) (y : Ins) (vb : Value) (hvb : vb.oneCell' = true) (g c : Nat) (hx : a.eval x = .slice (some ⟨g, 0, none⟩) 1 c)
    (hr : Row w g 41 (insA y vb)) (hl : l.length ≤ 1048576)
    (h : ∀ v' w', OwnI N w' v' (l ++ [(y, vb)]) → w.grownBy w' v.ownBlock → (v'.ownBlock = v.ownBlock ∨ v'.ownBlock = some w.heap.size) → wpList Try.prog ops Q rest (a.put o.dst v') w') : wpList Try.prog ops Q (o :: rest) a w := by
  obtain ⟨i, h1, h2, h3, h4⟩ := infoI
  obtain ⟨v', w', hr', g2, g3, _, g5⟩ := run_append_own_at (P := Try.prog) w N 53 o.type 41 i _ 5 56 Try.under53 h1 h2 h3 h4 rfl (by decide) v l.length (insC l) hv ⟨g, 0, none⟩ 1 c (insA y vb).toList rfl (fun j u hu => by
    rw [Addr.add_mid, Nat.zero_add, hr.cell]; simpa using hu) (fun u hu => by
      have hu : u = uV y.o ∨ u = uV y.n ∨ u = uV y.ack ∨ u = uV y.thr ∨ u = vb := by simpa [insA] using hu
      rcases hu with rfl | rfl | rfl | rfl | rfl
      · rfl
      · rfl
      · rfl
      · rfl
      · exact hvb) (by unfold maxLen; omega) (by omega) hN
  refine wpList_plain hgd fun K hK => ?_
  unfold Oper.wp execOp
  simp only [ho, resolve, invoke, builtin, Sem.run_bind, Sem.run_pure, Result.andThen_ok, List.map_toArray, List.map_cons, List.map_nil, hs, hx, hr']
  exact hK _ _ (h v' w' (by unfold OwnI; rw [List.length_append, show insC (l ++ [(y, vb)]) = insC l ++ (insA y vb).toList by simp [insC]]; exact g2) g3 g5)
end Go.Proofs.Ytikkekdmahdgaaa
