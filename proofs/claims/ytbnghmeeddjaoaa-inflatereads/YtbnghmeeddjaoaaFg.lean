/- The walk of kinds. -/
import Derived.Test.YtbnghmeeddjaoaaFf
import Derived.Laws.CopyOwn
namespace Go.Proofs.Ytbnghmeeddjaoaa
open Go.RowKit Go.BigFrame

theorem run_slice_to {P : Program} (w : World) (t e : TypeId) (n : Nat) (hu : P.underlying t = some (.array n e)) (hs : (P.info? e).map (·.size) = some 1) (b o h : Nat) (hh : h ≤ n) (hn : 0 < n) :
    (Instr.sliceAt t (.pointer (some ⟨b, o, none⟩)) none (some (.int .i64 (h : Int))) none).run P w = .ok (.slice (some ⟨b, o, none⟩) h n) w := by
  have hsz : ∀ w, (sizeOf e).run P w = .ok 1 w := by
    intro w
    cases hq : P.info? e with
    | none => simp [hq] at hs
    | some i => simp [hq] at hs; simp [sizeOf, typeInfo, hq, hs]
  have h1 : (0 : Int) ≤ (h : Int) ∧ (h : Int) ≤ (n : Int) := by omega
  have h3 : ¬ n = 0 := by omega
  simp [Instr.sliceAt, run_underlying hu, Instr.sureAddr, Instr.sliceBounds, go_sem, hsz, h1, Addr.add]
theorem slice_op {P : Program} {op : Oper} {a : Act} (t : TypeId) (x : Operand) (lo hi mx : Option Operand) (ho : op.op = .slice t x lo hi mx) (v : Value) (w : World) (h : (Instr.sliceAt t (a.eval x) (lo.map a.eval) (hi.map a.eval) (mx.map a.eval)).run P w = .ok v w) :
    (execOp a.eval op).run P w = .ok (.value v) w := by
  unfold execOp
  simp only [ho, Sem.run_bind, h, Result.andThen_ok, Sem.run_pure]
theorem wpList_val {P : Program} {ops : Array Oper} {rest : List Oper} {op : Oper} {a : Act} {w : World} {Q : Exit → Act → World → Prop} (hgd : op.guard = none) (v : Value) (hrun : (execOp a.eval op).run P w = .ok (.value v) w)
    (h : wpList P ops Q rest (a.put op.dst v) w) : wpList P ops Q (op :: rest) a w :=
  wpList_plain hgd fun _ hK => by unfold Oper.wp; rw [hrun]; exact hK _ _ h
theorem wpList_slice {P : Program} {ops : Array Oper} {rest : List Oper} {op : Oper} {a : Act} {w : World} {Q : Exit → Act → World → Prop} (hgd : op.guard = none) (t : TypeId) (x : Operand) (lo hi mx : Option Operand) (ho : op.op = .slice t x lo hi mx) (v : Value)
    (hrun : (Instr.sliceAt t (a.eval x) (lo.map a.eval) (hi.map a.eval) (mx.map a.eval)).run P w = .ok v w) (h : wpList P ops Q rest (a.put op.dst v) w) : wpList P ops Q (op :: rest) a w :=
  wpList_val hgd v (slice_op t x lo hi mx ho v w hrun) h
theorem wpList_make_gen {ops : Array Oper} {rest : List Oper} {op : Oper} {a : Act} {w : World} {Q : Exit → Act → World → Prop}
    (hgd : op.guard = none) (x y : Operand) (ho : op.op = .makeSlice 35 x y) (L C : Int) (n : Nat) (hx : a.eval x = .int .i64 L) (hy : a.eval y = .int .i64 C) (hL : L = (n : Int)) (hC : C = (n : Int)) (hn : n ≤ 65536)
    (h : ∀ W, W = w.alloc (.cells (ai (List.replicate n 0)) 3) → wpList Try.prog ops Q rest (a.put op.dst (.slice (some ⟨w.heap.size, 0, none⟩) n n)) W) : wpList Try.prog ops Q (op :: rest) a w :=
  wpList_make_ints hgd x y ho L C n hx hy hL hC hn (h _ rfl)
theorem St.below {K : Nat → Prop} {N : Nat} {w w' : World} {sb : Nat} {vb : Value} {b : List UInt8} {p : Nat} {out : List UInt8} {most : Nat} {fx : Value} (h : St K N w sb vb b p out most fx) (hb : Below w.heap.size w w') : St K N w' sb vb b p out most fx := by
  obtain ⟨vo, hr, ho⟩ := h.row
  refine ⟨⟨vo, hr.below hb hr.lt, ho.same fun g hg => ?_⟩, kt_keep h.kt fun k hk => hb.block k (h.kl k hk), h.bts.keep fun g hg => ⟨hg, hb.block g (h.kl g hg)⟩, h.sbK, fun k hk => Nat.lt_of_lt_of_le (h.kl k hk) hb.size, h.bl, h.pl, h.ol, h.ml, Nat.le_trans h.nl hb.size⟩
  obtain ⟨-, cur, r⟩ := ho.lt g hg
  exact hb.block g r.lt
def nil19 : List Int := List.replicate 19 0
theorem Try.info66 : (Try.prog.info? 66).map (·.size) = some 19 := by kernel_rfl
theorem Try.zero66 : (Try.prog.info? 66).map (fun i => (i.zero, i.size)) = some (some (.agg (ai nil19)), 19) := by kernel_rfl
/-- A new variable that is laid at once: the world is passed on without its text. -/
theorem wpList_store_gen {P : Program} {ops : Array Oper} {rest : List Oper} {op : Oper} {a : Act} {w : World} {Q : Exit → Act → World → Prop} (hgd : op.guard = none) (ty : TypeId) (x y : Operand) (ho : op.op = .store ty x y) (b : Nat) (hx : a.eval x = .pointer (some ⟨b, 0, none⟩))
    (c' : Array Value) (hy : a.eval y = .agg c') (t : TypeId) (n : Nat) (hr : Room w b t n) (hi : (P.info? ty).map (·.size) = some n) (hs : c'.size = n) (h1 : c'.all (·.oneCell') = true)
    (h : ∀ W, W = w.setRow b c' → wpList P ops Q rest (a.put op.dst undef) W) : wpList P ops Q (op :: rest) a w :=
  wpList_store_row hgd ty x y ho b hx c' hy t n hr hi hs h1 (h _ rfl)
set_option maxRecDepth 100000 in
set_option maxHeartbeats 4000000 in
theorem kinds_any (K : Nat → Prop) (N : Nat) (w : World) (sb : Nat) (vb : Value) (b : List UInt8) (p : Nat) (out : List UInt8) (most : Nat) (fx : Value) (n : Nat) (hn : n ≤ 19) (h : St K N w sb vb b p out most fx) :
    Calls Try.prog 53 #[.pointer (some ⟨sb, 0, none⟩), .int .i64 (n : Int)] w fun e w' => Kp K w w' ∧ ((p + 3 * n ≤ 8 * b.length ∧ ∃ g, e = .returned (.slice (some ⟨g, 0, none⟩) 19 19) ∧ w.heap.size ≤ g ∧ Row w' g 3 (ai (kindL b p n)) ∧ St K N w' sb vb b (p + 3 * n) out most fx) ∨ (¬ p + 3 * n ≤ 8 * b.length ∧ e = flt 7)) := by
  have H := Box'.mk h
  have HSL : Box' (∀ W, (Instr.sliceAt 66 (.pointer (some ⟨w.heap.size, 0, none⟩)) none (some (.int .i64 (n : Int))) none).run Try.prog W = .ok (.slice (some ⟨w.heap.size, 0, none⟩) n 19) W) := ⟨fun W => run_slice_to W 66 3 19 Try.underlying66 (by kernel_rfl) w.heap.size 0 n hn (by decide)⟩
  clear h
  have r0 : Room (w.alloc (.cells (ai nil19) 66)) w.heap.size 66 19 := Room.new _ _ _ _ rfl
  have hsz : (ai ordL).size = 19 := rfl
  have h1 := ai_one ordL
  go_enter Try.func53, Try.ntmps53
  go_wp2_with (first
    | (refine wpList_alloc_row rfl 66 rfl _ _ Try.zero66 ?_)
    | (refine wpList_store_gen rfl 66 _ _ rfl _ rfl (ai ordL) rfl _ _ r0 Try.info66 hsz h1 ?_; intro W0 hW0; have HW0 := Box'.mk hW0; have hz0 : W0.heap.size = w.heap.size + 1 := (by rw [hW0]; simp [World.setRow]); clear hW0)
    | (refine wpList_make_gen rfl _ _ rfl _ _ 19 rfl rfl rfl rfl (by omega) ?_; intro W hW; have HW := Box'.mk hW; clear hW)
    | (refine wpList_slice rfl 66 (.tmp 5) none (some (.tmp 11)) none rfl (.slice (some ⟨w.heap.size, 0, none⟩) n 19) (HSL.out _) ?_))
  have ro0 : Row W0 w.heap.size 66 (ai ordL) := by rw [HW0.out]; exact r0.setRow _
  have ro : Row W w.heap.size 66 (ai ordL) := by rw [HW.out]; exact ro0.alloc _
  have rl : Row W (w.heap.size + 1) 3 (ai (kindL b p 0)) := by rw [HW.out, ← hz0]; exact Row.new _ _ _
  have bl0 : Below w.heap.size w W0 := by rw [HW0.out]; exact below_setRow ((Below.refl _ _).alloc (Nat.le_refl _) _) (Nat.le_refl _) _
  have bl : Below w.heap.size w W := by rw [HW.out]; exact bl0.alloc (by omega) _
  have st0 := H.out.below bl
  have hsb : sb < w.heap.size := by obtain ⟨vo, hr, -⟩ := H.out.row; exact hr.lt
  have KL : Box' (∀ k, K k → k < w.heap.size) := ⟨H.out.kl⟩
  have kp0 : Kp K w W := Kp.below bl H.out.kl
  have OL := Box'.mk ordL_lt
  have KN := Box'.mk (kindL_len b p)
  clear HSL r0 hsz h1 HW0 HW ro0 bl0 bl hz0 H
  go_loopw [14] (fun i wr => ∃ k : Nat, k ≤ n ∧ i = .int .i64 (k : Int) ∧ Row wr w.heap.size 66 (ai ordL) ∧ Row wr (w.heap.size + 1) 3 (ai (kindL b p k)) ∧ St K N wr sb vb b (p + 3 * k) out most fx ∧ Kp K w wr) (fun i _ => n - (intOf i).toNat)
  case atStart => exact ⟨0, by omega, rfl, ro, rl, st0, kp0⟩
  case round =>
    clear ro rl st0 kp0
    obtain ⟨k, hk, rfl, ro, rl, st, kp⟩ := hrel
    by_cases hlt : k < n
    · obtain ⟨i, hi, hi19⟩ := OL.out k (by omega)
      have c0 : wr.cell? ⟨w.heap.size, k, none⟩ = some (.int .i64 (ordL.getD k 0)) := by rw [ro.cell]; exact ai_get (show k < 19 by omega)
      rw [hi] at c0
      have st1 := (st.more w.heap.size ro (by decide) (by omega)).more (w.heap.size + 1) rl (by decide) (by omega)
      have hnum := number_any _ N wr sb vb b (p + 3 * k) out most fx 3 (by decide) st1
      have l3 := nbr_lt b (p + 3 * k) 3
      have ST := Box'.mk st
      have RO := Box'.mk ro
      have RL := Box'.mk rl
      have KP := Box'.mk kp
      have KS : Box' (kindL b p (k + 1) = (kindL b p k).set i ((nbr b (p + 3 * k) 3 : Nat) : Int)) := ⟨by rw [kindL, hi, Int.toNat_natCast]⟩
      clear st1 st ro rl kp hi
      go_wp2_with fail
      refine hnum.mono ?_
      clear hnum
      rintro e w3 ⟨kp3, ⟨hs, rfl, st3⟩ | ⟨hs, rfl⟩⟩
      · have kpK : Kp K wr w3 := kp3.less fun j hj => .inl (.inl hj)
        have st4 := ST.out.back st3 kpK
        have ro3 := RO.out.same (kp3.block _ (.inl (.inr rfl)))
        have rl3 := RL.out.same (kp3.block _ (.inr rfl))
        have c1 : w3.cell? ⟨w.heap.size + 1, i, none⟩ = some (.int .i64 ((kindL b p k).getD i 0)) := by rw [rl3.cell]; exact ai_get (by rw [KN.out]; exact hi19)
        have f1 := rl3.frozen i
        have hnK : ¬ K (w.heap.size + 1) := fun hh => by have := KL.out _ hh; omega
        have st5 := st4.other (w.heap.size + 1) i (.int .i64 ((nbr b (p + 3 * k) 3 : Nat) : Int)) rl3 (by decide) (by omega) hnK
        have rl5 := rl3.setCell i (.int .i64 ((nbr b (p + 3 * k) 3 : Nat) : Int))
        rw [ai_set, ← KS.out] at rl5
        have ro5 : Row (w3.setCell ⟨w.heap.size + 1, i, none⟩ (.int .i64 ((nbr b (p + 3 * k) 3 : Nat) : Int))) w.heap.size 66 (ai ordL) := ro3.setOther _ _ (by show w.heap.size ≠ w.heap.size + 1; omega)
        have kp5 := (KP.out.trans kpK).setCell (w.heap.size + 1) i hnK (.int .i64 ((nbr b (p + 3 * k) 3 : Nat) : Int))
        have ST5 := Box'.mk st5
        have RL5 := Box'.mk rl5
        have RO5 := Box'.mk ro5
        have KP5 := Box'.mk kp5
        generalize (kindL b p k).getD i 0 = y at *
        generalize nbr b (p + 3 * k) 3 = v at *
        clear kp3 st3 kpK st4 ro3 rl3 st5 rl5 ro5 kp5 ST RO RL KP KS OL KN
        go_wp2_with fail
        exact ⟨⟨k + 1, by omega, by go_num, RO5.out, RL5.out, ST5.out, KP5.out⟩, by simp [intOf]; omega⟩
      · exact ⟨rfl, KP.out.trans (kp3.less fun j hj => .inl (.inl hj)), .inr ⟨by omega, rfl⟩⟩
    · obtain rfl : k = n := by omega
      have hpl := st.pl
      have R1 := Box'.mk rl
      have R2 := Box'.mk st
      clear OL KN ro rl st
      go_wp2_with fail
      go_ret
      exact ⟨kp, .inl ⟨hpl, _, rfl, by omega, R1.out, R2.out⟩⟩
end Go.Proofs.Ytbnghmeeddjaoaa
