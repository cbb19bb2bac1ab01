/- What tokens tell, one behind the others: a piece that stood ahead of a place tells what stands there. -/
import Derived.Test.YtcjfaahlchbcmaaK02
import Derived.BigQuiet
import Derived.BigRegion
import Derived.ProofKit
import Derived.DeepKeys4
import Derived.Carry
namespace Go.Proofs.Ytcjfaahlchbcmaa
open Go.RowKit Go.BigFrame
theorem take_snoc (b : List UInt8) (n : Nat) (h : n < b.length) : b.take n ++ [b.getD n 0] = b.take (n + 1) := by
  rw [List.take_add_one, List.getD_eq_getElem?_getD]
  rw [List.getElem?_eq_getElem h]
  rfl
theorem cpy_take (b : List UInt8) (d len : Nat) (hd : 1 ≤ d) : ∀ at_ : Nat, d ≤ at_ → at_ + len ≤ b.length → (∀ j, j < len → b.getD (at_ - d + j) 0 = b.getD (at_ + j) 0) → cpy d len (b.take at_) = b.take (at_ + len) := by
  induction len with
  | zero => intro a _ _ _; rfl
  | succ len ih =>
    intro a h1 h2 h3
    have e0 : (b.take a).length = a := by rw [List.length_take]; omega
    have e1 : (b.take a).getD (a - d) 0 = b.getD a 0 := by
      have e := h3 0 (by omega)
      simp only [Nat.add_zero] at e
      rw [← e, List.getD_eq_getElem?_getD, List.getD_eq_getElem?_getD, List.getElem?_take, if_pos (by omega)]
    rw [cpy_step, e0, e1, take_snoc b a (by omega), ih (a + 1) (by omega) (by omega) (fun j hj => by
      have e := h3 (j + 1) (by omega)
      rw [show a - d + (j + 1) = a + 1 - d + j by omega, show a + (j + 1) = a + 1 + j by omega] at e
      exact e)]
    rw [show a + 1 + len = a + (len + 1) by omega]
theorem exp_snoc (l : List Tok) (t : Tok) : ∀ out o : List UInt8, expF l out = (o, 0) → mayT t o.length = true → (oneT t o).length ≤ 65536 → expF (l ++ [t]) out = (oneT t o, 0) := by
  induction l with
  | nil =>
    intro out o h h1 h2
    have e : out = o := congrArg Prod.fst h
    subst e
    show expF [t] out = _
    rw [expF, if_pos h1, if_neg (by omega)]
    rfl
  | cons x r ih =>
    intro out o h h1 h2
    show expF (x :: (r ++ [t])) out = _
    rw [expF] at h ⊢
    split at h
    · rename_i hx
      rw [if_pos hx]
      split at h
      · cases h
      · rename_i hy
        rw [if_neg hy]
        exact ih _ _ h h1 h2
    · cases h
theorem exp_byte {l : List Tok} {b : List UInt8} {n : Nat} (h : expF l [] = (b.take n, 0)) (hn : n < b.length) (hb : b.length ≤ 65536) : expF (l ++ [(b.getD n 0, 0, 0)]) [] = (b.take (n + 1), 0) := by
  have e : oneT (b.getD n 0, 0, 0) (b.take n) = b.take (n + 1) := by
    unfold oneT
    rw [if_pos rfl]
    exact take_snoc b n hn
  rw [← e]
  exact exp_snoc l _ [] _ h rfl (by rw [e, List.length_take]; omega)
structure Piece (b : List UInt8) (n : Nat) (len d : Nat) : Prop where
  len1 : 3 ≤ len
  len2 : len ≤ 258
  dis1 : 1 ≤ d
  dis2 : d ≤ 32768
  dis3 : d ≤ n
  fits : n + len ≤ b.length
  same : ∀ j, j < len → b.getD (n - d + j) 0 = b.getD (n + j) 0
theorem exp_piece {l : List Tok} {b : List UInt8} {n len d : Nat} (h : expF l [] = (b.take n, 0)) (hp : Piece b n len d) (hb : b.length ≤ 65536) : expF (l ++ [(0, (len : Int), (d : Int))]) [] = (b.take (n + len), 0) := by
  have h1 := hp.len1
  have h2 := hp.len2
  have h3 := hp.dis1
  have h4 := hp.dis2
  have h5 := hp.dis3
  have h6 := hp.fits
  have e : oneT (0, (len : Int), (d : Int)) (b.take n) = b.take (n + len) := by
    unfold oneT
    rw [if_neg (by show ¬ (len : Int) = 0; omega)]
    exact cpy_take b d len h3 n h5 h6 hp.same
  rw [← e]
  refine exp_snoc l _ [] _ h ?_ (by rw [e, List.length_take]; omega)
  unfold mayT
  rw [if_neg (by show ¬ (len : Int) = 0; omega)]
  refine decide_eq_true ⟨by show (3 : Int) ≤ len; omega, by show (len : Int) ≤ 258; omega, by show (1 : Int) ≤ d; omega, by show (d : Int) ≤ 32768; omega, ?_, rfl⟩
  show (d : Int) ≤ ((b.take n).length : Int)
  rw [List.length_take]
  omega
def alkF (l : List UInt8) (p a : Nat) : Nat → Nat → Nat
  | 0, k => k
  | f + 1, k => if l.getD (p + k) 0 = l.getD (a + k) 0 then alkF l p a f (k + 1) else k
theorem alk_ge (l : List UInt8) (p a f k : Nat) : k ≤ alkF l p a f k ∧ alkF l p a f k ≤ k + f ∧ ∀ j, k ≤ j → j < alkF l p a f k → l.getD (p + j) 0 = l.getD (a + j) 0 := by
  induction f generalizing k with
  | zero => exact ⟨Nat.le_refl _, Nat.le_refl _, fun j h1 h2 => by simp only [alkF] at h2; omega⟩
  | succ f ih =>
    rw [alkF]
    split
    · rename_i he
      obtain ⟨h1, h2, h3⟩ := ih (k + 1)
      refine ⟨by omega, by omega, fun j h4 h5 => ?_⟩
      rcases Nat.lt_or_ge k j with q | q
      · exact h3 j q h5
      · rw [show j = k by omega]; exact he
    · exact ⟨Nat.le_refl _, by omega, fun j h1 h2 => by omega⟩
theorem alk_step {l : List UInt8} {p a f k : Nat} (h : l.getD (p + k) 0 = l.getD (a + k) 0) : alkF l p a (f + 1) k = alkF l p a f (k + 1) := by rw [alkF, if_pos h]
theorem alk_done {l : List UInt8} {p a f k : Nat} (h : ¬ l.getD (p + k) 0 = l.getD (a + k) 0) : alkF l p a f k = k := by
  cases f with
  | zero => rfl
  | succ f => rw [alkF, if_neg h]
set_option maxRecDepth 100000 in
set_option maxHeartbeats 1000000 in
theorem alike_any (w : World) (g bb o n c p a m : Nat) (l : List UInt8) (hm : 3 ≤ m) (ha : a + m ≤ n) (hpa : p < a) (hn : n ≤ 65536)
    (h0 : w.cell? ⟨g, 0, none⟩ = some (.slice (some ⟨bb, o, none⟩) n c)) (hb : ∀ k, k < n → w.cell? ⟨bb, o + k, none⟩ = some (.int .u8 ((l.getD k 0).toNat : Int))) :
    Calls Try.prog 46 #[.pointer (some ⟨g, 0, none⟩), .int .i64 (p : Int), .int .i64 (a : Int), .int .i64 (m : Int)] w fun e w' => e = .returned (.int .i64 ((alkF l p a (m - 3) 3 : Nat) : Int)) ∧ Below w.heap.size w w' := by
  have HB := Box'.mk hb
  obtain ⟨S, hS⟩ : ∃ S, S = alkF l p a (m - 3) 3 := ⟨_, rfl⟩
  rw [← hS]
  have HS := Box'.mk hS
  clear hb hS
  go_enter Try.func46, Try.ntmps46
  go_wp2_with fail
  go_loopw [9] (fun i wr => ∃ k : Nat, 3 ≤ k ∧ k ≤ m ∧ i = .int .i64 (k : Int) ∧ Box' (S = alkF l p a (m - k) k) ∧ Box' (Below w.heap.size w wr ∧ ∀ d : Addr, wr.cell? d = w.cell? d))
    (fun i _ => m - (intOf i).toNat)
  case atStart => exact ⟨3, by omega, by omega, rfl, HS, ⟨Below.refl _ _, fun _ => rfl⟩⟩
  case round =>
    obtain ⟨k, hk3, hkm, rfl, HE, BB⟩ := hrel
    have c0 : wr.cell? ⟨g, 0, none⟩ = some (.slice (some ⟨bb, o, none⟩) n c) := by rw [BB.out.2]; exact h0
    by_cases hlt : k < m
    · have d1 : decide ((k : Int) < (m : Int)) = true := decide_eq_true (by omega)
      have c1 : wr.cell? ⟨bb, o + (p + k), none⟩ = some (.int .u8 ((l.getD (p + k) 0).toNat : Int)) := by rw [BB.out.2]; exact HB.out _ (by omega)
      have c2 : wr.cell? ⟨bb, o + (a + k), none⟩ = some (.int .u8 ((l.getD (a + k) 0).toNat : Int)) := by rw [BB.out.2]; exact HB.out _ (by omega)
      by_cases he : l.getD (p + k) 0 = l.getD (a + k) 0
      · have HE2 : Box' (S = alkF l p a (m - (k + 1)) (k + 1)) := ⟨by rw [HE.out, show m - k = (m - (k + 1)) + 1 by omega, alk_step he]⟩
        rw [he] at c1
        clear HE he
        go_wp2_with fail
        go_quiet (fail)
        go_wp2_with fail
        exact ⟨⟨k + 1, by omega, by omega, by go_num, HE2, ⟨Below.drewN BB.out.1 nq, BB.out.2⟩⟩, by simp [intOf]; omega⟩
      · have HE2 : S = k := by rw [HE.out, alk_done he]
        have hne : ((((l.getD (p + k) 0).toNat : Nat) : Int) == (((l.getD (a + k) 0).toNat : Nat) : Int)) = false := by
          rw [beq_eq_false_iff_ne]
          intro h
          exact he (UInt8.toNat_inj.1 (by omega))
        subst HE2
        clear HE he
        generalize ((l.getD (p + S) 0).toNat : Int) = x at *
        generalize ((l.getD (a + S) 0).toNat : Int) = y at *
        go_wp2_with fail
        go_quiet (fail)
        go_wp2_with fail
        go_ret
        exact ⟨rfl, Below.drewN BB.out.1 nq⟩
    · obtain rfl : k = m := by omega
      have HE2 : S = k := by rw [HE.out, Nat.sub_self]; rfl
      subst HE2
      clear HE
      go_wp2_with fail
      go_quiet (fail)
      go_wp2_with fail
      go_ret
      exact ⟨rfl, Below.drewN BB.out.1 nq⟩
def stA (l : List UInt8) (k : Nat) : Value := .agg #[.int .u8 ((l.getD k 0).toNat : Int), .int .u8 ((l.getD (k + 1) 0).toNat : Int), .int .u8 ((l.getD (k + 2) 0).toNat : Int)]
set_option maxRecDepth 100000 in
set_option maxHeartbeats 1000000 in
theorem startAt_any (w : World) (g bb o n c a : Nat) (l : List UInt8) (hg : g < w.heap.size) (hbb : bb < w.heap.size) (ha : a + 3 ≤ n) (hn : n ≤ 65536)
    (h0 : w.cell? ⟨g, 0, none⟩ = some (.slice (some ⟨bb, o, none⟩) n c)) (hb : ∀ k, k < n → w.cell? ⟨bb, o + k, none⟩ = some (.int .u8 ((l.getD k 0).toNat : Int))) :
    Calls Try.prog 45 #[.pointer (some ⟨g, 0, none⟩), .int .i64 (a : Int)] w fun e w' => e = .returned (stA l a) ∧ Below w.heap.size w w' := by
  obtain ⟨w0, hw0⟩ : ∃ w0, w0 = w.alloc (.cells #[.int .u8 0, .int .u8 0, .int .u8 0] 89) := ⟨_, rfl⟩
  have q1 : Row w0 w.heap.size 89 #[.int .u8 0, .int .u8 0, .int .u8 0] := by rw [hw0]; exact Row.new _ _ _
  have bl : Below w.heap.size w w0 := by rw [hw0]; exact (Below.refl _ _).alloc (Nat.le_refl _) _
  have cz : w0.cell? ⟨g, 0, none⟩ = some (.slice (some ⟨bb, o, none⟩) n c) := by rw [← h0]; exact bl.cell (p := ⟨g, 0, none⟩) hg
  have c0 : w0.cell? ⟨bb, o + a, none⟩ = some (.int .u8 ((l.getD a 0).toNat : Int)) := by rw [← hb a (by omega)]; exact bl.cell (p := ⟨bb, o + a, none⟩) hbb
  have c1 : w0.cell? ⟨bb, o + (a + 1), none⟩ = some (.int .u8 ((l.getD (a + 1) 0).toNat : Int)) := by rw [← hb (a + 1) (by omega)]; exact bl.cell (p := ⟨bb, o + (a + 1), none⟩) hbb
  have c2 : w0.cell? ⟨bb, o + (a + 2), none⟩ = some (.int .u8 ((l.getD (a + 2) 0).toNat : Int)) := by rw [← hb (a + 2) (by omega)]; exact bl.cell (p := ⟨bb, o + (a + 2), none⟩) hbb
  have k0 : w0.cell? ⟨w.heap.size, 0, none⟩ = some (.int .u8 0) := by rw [q1.cell]; rfl
  have k1 : w0.cell? ⟨w.heap.size, 1, none⟩ = some (.int .u8 0) := by rw [q1.cell]; rfl
  have k2 : w0.cell? ⟨w.heap.size, 2, none⟩ = some (.int .u8 0) := by rw [q1.cell]; rfl
  have f0 := q1.frozen 0
  have f1 := q1.frozen 1
  have f2 := q1.frozen 2
  have Q1 := Box'.mk q1
  have BL := Box'.mk bl
  have HW0 := Box'.mk hw0
  clear hb hw0 q1 bl h0 hg hbb
  unfold stA
  generalize ((l.getD a 0).toNat : Int) = x at *
  generalize ((l.getD (a + 1) 0).toNat : Int) = y at *
  generalize ((l.getD (a + 2) 0).toNat : Int) = z at *
  go_enter Try.func45, Try.ntmps45
  go_wp2_with fail
  rw [← HW0.out]
  go_region
  go_wp2_with fail
  refine bodyPost_ret (results_row rfl _ _ rfl _ _ (((Q1.out.setCell 0 _).setCell 1 _).setCell 2 _).drew _ Try.underlying89 rfl 3 rfl rfl) rfl ⟨rfl, ?_⟩
  exact (((BL.out.setCell (by simp) _).setCell (by simp) _).setCell (by simp) _).drew
theorem laidOut : laidOutB Try.prog = true := by kernel_rfl
theorem keyLaw : WideMaps.KeyLaw Try.prog 89 := deep_law_laid laidOut (m := 2) (by decide) (of_decide_eq_true (by kernel_rfl)) (by kernel_rfl) (by rw [Try.underlying89])
theorem key_lits (P : Program) (d : Nat) (a b c : Int) (hu : P.underlying 89 = some (.array 3 5)) (c89 : P.cellsOf 89 = 3) (c5 : P.cellsOf 5 = 1) (h5 : P.underlying 5 = some (.int .u8))
    (wa : (Lit.int .u8 a).wf = true) (wb : (Lit.int .u8 b).wf = true) (wc : (Lit.int .u8 c).wf = true) :
    P.keyLits (d + 2) 89 [.int .u8 a, .int .u8 b, .int .u8 c] = some [.int .u8 a, .int .u8 b, .int .u8 c] := by
  have k0 : ∀ x, (Lit.int .u8 x).wf = true → P.keyLits (d + 1) 5 [.int .u8 x] = some [.int .u8 x] := by
    intro x hx
    unfold Program.keyLits; simp [h5, hx]
  unfold Program.keyLits
  simp only [hu, List.length_cons, List.length_nil, c89, c5]
  rw [if_pos trivial]
  simp [show List.range 3 = [0, 1, 2] from rfl, List.mapM_cons, k0 _ wa, k0 _ wb, k0 _ wc]
theorem u8_wf (x : UInt8) : (Lit.int .u8 (x.toNat : Int)).wf = true := by
  have := x.toNat_lt
  simp only [Lit.wf, Bool.and_eq_true, IntKind.min, IntKind.max, IntKind.bits, IntKind.signed]
  exact ⟨by simp, by simp; omega⟩
theorem st_key (l : List UInt8) (p : Nat) : ∃ k, keyOf Try.prog 89 (stA l p) = some k := by
  have hkt : Try.prog.keyType 89 = true := by kernel_rfl
  have c89 : Try.prog.cellsOf 89 = 3 := by kernel_rfl
  have hsz : Try.prog.types.size + 1 = 161 + 2 := by kernel_rfl
  have hl := key_lits Try.prog 161 _ _ _ Try.underlying89 c89 (by kernel_rfl) Try.underlying5 (u8_wf (l.getD p 0)) (u8_wf (l.getD (p + 1) 0)) (u8_wf (l.getD (p + 2) 0))
  rw [← hsz] at hl
  refine ⟨.string (keyBytes [.int .u8 ((l.getD p 0).toNat : Int), .int .u8 ((l.getD (p + 1) 0).toNat : Int), .int .u8 ((l.getD (p + 2) 0).toNat : Int)]), ?_⟩
  have hf : Value.formed Try.prog 89 (stA l p) = true := by unfold Value.formed stA; rw [Try.underlying89, c89]; rfl
  have hc : (stA l p).cells.toList = [.int .u8 ((l.getD p 0).toNat : Int), .int .u8 ((l.getD (p + 1) 0).toNat : Int), .int .u8 ((l.getD (p + 2) 0).toNat : Int)] := rfl
  unfold keyOf
  rw [Try.underlying89]
  simp only [hkt, hf, hc, Bool.and_self, if_true]
  rw [hl]; rfl
theorem st_inj {l : List UInt8} {p q : Nat} (h : stA l p = stA l q) : ∀ j, j < 3 → l.getD (p + j) 0 = l.getD (q + j) 0 := by
  unfold stA at h
  simp only [Value.agg.injEq, Array.mk.injEq, List.cons.injEq, Value.int.injEq, true_and, and_true] at h
  intro j hj
  rcases (show j = 0 ∨ j = 1 ∨ j = 2 by omega) with rfl | rfl | rfl
  · exact UInt8.toNat_inj.1 (by simp only [Nat.add_zero]; omega)
  · exact UInt8.toNat_inj.1 (by omega)
  · exact UInt8.toNat_inj.1 (by omega)
def Ms (w : World) (g : Nat) (l : List UInt8) (K : Nat) : Prop := ∃ es clock, w.heap[g]? = some (.map es clock) ∧ ∀ e ∈ es.toList, ∃ p, p < K ∧ e.key = stA l p ∧ e.val = .int .i64 (p : Int)
theorem Ms.lt {w : World} {g : Nat} {l : List UInt8} {K : Nat} (h : Ms w g l K) : g < w.heap.size := let ⟨_, _, h, _⟩ := h; (Array.getElem?_eq_some_iff.1 h).1
theorem Ms.same {w w' : World} {g : Nat} {l : List UInt8} {K : Nat} (h : Ms w g l K) (e : w'.heap[g]? = w.heap[g]?) : Ms w' g l K := let ⟨es, c, h1, h2⟩ := h; ⟨es, c, by rw [e]; exact h1, h2⟩
theorem Ms.below {N : Nat} {w w' : World} {g : Nat} {l : List UInt8} {K : Nat} (h : Ms w g l K) (hb : Below N w w') (hn : g < N) : Ms w' g l K := h.same (hb.block g hn)
theorem Ms.alloc {w : World} {g : Nat} {l : List UInt8} {K : Nat} (h : Ms w g l K) (o : Obj) : Ms (w.alloc o) g l K := h.same (Below.heap_alloc _ _ _ h.lt)
theorem Ms.new (w : World) (l : List UInt8) : Ms (w.alloc (.map #[] 0)) w.heap.size l 0 := ⟨#[], 0, heap_alloc_last w _, fun e he => by cases he⟩
theorem Ms.setCell {w : World} {g : Nat} {l : List UInt8} {K : Nat} (h : Ms w g l K) (a : Addr) (v : Value) (hb : g ≠ a.block) : Ms (w.setCell a v) g l K := h.same (Below.heap_setCell _ _ _ _ hb)
theorem Ms.drewN {w : World} {g : Nat} {l : List UInt8} {K : Nat} (h : Ms w g l K) (n : Nat) : Ms (w.drewN n) g l K := h
theorem Ms.drew {w : World} {g : Nat} {l : List UInt8} {K : Nat} (h : Ms w g l K) : Ms w.drew g l K := h
theorem Ms.lookup {w : World} {g : Nat} {l : List UInt8} {K : Nat} (h : Ms w g l K) (q : Nat) :
    ((Instr.lookup 84 (.map (some g)) (stA l q) true).run Try.prog w = .ok (.tuple #[.int .i64 0, .bool false]) w) ∨ ∃ p : Nat, (Instr.lookup 84 (.map (some g)) (stA l q) true).run Try.prog w = .ok (.tuple #[.int .i64 (p : Int), .bool true]) w ∧ p < K ∧ stA l p = stA l q := by
  obtain ⟨es, clock, hb, he⟩ := h
  obtain ⟨lk, hkey⟩ := st_key l q
  have hks : ∀ e ∈ es.toList, ∃ l, keyOf Try.prog 89 e.key = some l := fun e h => by obtain ⟨p, _, h2, _⟩ := he e h; rw [h2]; exact st_key l p
  rcases keyLaw.find w hkey es.toList hks with ⟨h1, h2⟩ | ⟨j, e, h1, h2, h3⟩
  · refine .inl ?_
    simp [Instr.lookup, run_underlying Try.underlying84, MapKept.run_getObj_map hb, keyLaw.check w _ hkey, h1, Result.andThen]
  · obtain ⟨p, hp, hk, hv⟩ := he e (List.mem_of_getElem? h2)
    refine .inr ⟨p, ?_, hp, by rw [← hk, h3]⟩
    simp [Instr.lookup, run_underlying Try.underlying84, MapKept.run_getObj_map hb, keyLaw.check w _ hkey, h1, hv, Result.andThen]
theorem Ms.update {w : World} {g : Nat} {l : List UInt8} {K : Nat} (h : Ms w g l K) :
    ∃ w', (Instr.mapUpdate 84 (.map (some g)) (stA l K) (.int .i64 (K : Int))).run Try.prog w = .ok () w' ∧ Ms w' g l (K + 1) ∧ (∀ b, b ≠ g → w'.heap[b]? = w.heap[b]?) ∧ Below g w w' := by
  obtain ⟨es, clock, hb, he⟩ := h
  obtain ⟨lk, hkey⟩ := st_key l K
  have hg := (Array.getElem?_eq_some_iff.1 hb).1
  have hks : ∀ e ∈ es.toList, ∃ l, keyOf Try.prog 89 e.key = some l := fun e h => by obtain ⟨p, _, h2, _⟩ := he e h; rw [h2]; exact st_key l p
  rcases keyLaw.find w hkey es.toList hks with ⟨h1, h2⟩ | ⟨j, e, h1, h2, h3⟩
  · refine ⟨{ w with heap := w.heap.setIfInBounds g (.map (es.push { key := stA l K, val := .int .i64 (K : Int), born := clock }) (clock + 1)) }, ?_, ⟨es.push { key := stA l K, val := .int .i64 (K : Int), born := clock }, clock + 1, ?_, ?_⟩, ?_, ⟨rfl, rfl, rfl, ?_, ?_⟩⟩
    · simp [Instr.mapUpdate, run_underlying Try.underlying84, MapKept.run_getObj_map hb, keyLaw.check w _ hkey, h1, Result.andThen, MapKept.run_setObj_map _ hb]
    · simp [hg]
    · intro e h
      simp only [Array.toList_push, List.mem_append, List.mem_singleton] at h
      rcases h with h | rfl
      · obtain ⟨p, h4, h5⟩ := he e h
        exact ⟨p, by omega, h5⟩
      · exact ⟨K, by omega, rfl, rfl⟩
    · intro b hbg; simp [Ne.symm hbg]
    · simp
    · intro b hlt; simp [Nat.ne_of_gt hlt]
  · have h2' : es[j]? = some e := by rw [← Array.getElem?_toList]; exact h2
    refine ⟨{ w with heap := w.heap.setIfInBounds g (.map (es.modify j fun x => { x with key := stA l K, val := .int .i64 (K : Int) }) clock) }, ?_, ⟨es.modify j fun x => { x with key := stA l K, val := .int .i64 (K : Int) }, clock, ?_, ?_⟩, ?_, ⟨rfl, rfl, rfl, ?_, ?_⟩⟩
    · simp [Instr.mapUpdate, run_underlying Try.underlying84, MapKept.run_getObj_map hb, keyLaw.check w _ hkey, h1, h2', h3, keyLaw.stays w hkey, Result.andThen, MapKept.run_setObj_map _ hb]
    · simp [hg]
    · intro x hx
      rw [Array.toList_modify] at hx
      obtain ⟨i, hi⟩ := List.getElem?_of_mem hx
      rw [List.getElem?_modify] at hi
      cases hy : es.toList[i]? with
      | none => rw [hy] at hi; cases hi
      | some y =>
        rw [hy] at hi
        obtain ⟨p, h4, h5⟩ := he y (List.mem_of_getElem? hy)
        by_cases hij : j = i
        · simp [hij] at hi
          subst hi
          exact ⟨K, by omega, rfl, rfl⟩
        · simp [hij] at hi
          subst hi
          exact ⟨p, by omega, h5⟩
    · intro b hbg; simp [Ne.symm hbg]
    · simp
    · intro b hlt; simp [Nat.ne_of_gt hlt]
section
variable {ops : Array Oper} {rest : List Oper} {op : Oper} {a : Act} {w : World} {Q : Exit → Act → World → Prop}
theorem wpList_update (hgd : op.guard = none) (x y z : Operand) (ho : op.op = .mapUpdate 84 x y z) (w' : World) (hrun : (Instr.mapUpdate 84 (a.eval x) (a.eval y) (a.eval z)).run Try.prog w = .ok () w')
    (h : wpList Try.prog ops Q rest (a.put op.dst undef) w') : wpList Try.prog ops Q (op :: rest) a w := by
  refine wpList_plain hgd fun K hK' => ?_
  unfold Oper.wp
  simp only [execOp, ho, Sem.run_bind, hrun, Result.andThen_ok]
  exact hK' _ _ h
theorem wp_lookup {K : Act → World → Prop} (x y : Operand) (ho : op.op = .lookup 84 x y true) (v : Value) (hrun : (Instr.lookup 84 (a.eval x) (a.eval y) true).run Try.prog w = .ok v w)
    (h : K (a.put op.dst v) w) : op.wp Try.prog a w K Q := by
  unfold Oper.wp
  simp only [execOp, ho, Sem.run_bind, hrun, Result.andThen_ok]
  exact h
end
end Go.Proofs.Ytcjfaahlchbcmaa
