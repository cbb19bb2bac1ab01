/- What stands while the program inflates; the walks of fail and of number. -/
import Derived.Test.YtcjfaahlchbcmaaK17
import Derived.Test.YtcjfaahlchbcmaaK05
import Derived.Test.YtcjfaahlchbcmaaK01
import Derived.Laws.BitsAllLaws
import Derived.Test.YtcjfaahlchbcmaaK13
import Derived.Laws.CopyOwn
import Derived.Test.YtcjfaahlchbcmaaK21
namespace Go.Proofs.Ytcjfaahlchbcmaa
open Go.RowKit Go.BigFrame
def flt (e : Int) : Ending := .panicked [{ v := .iface 60 (.agg #[.int .i64 e]), recovered := false }]
structure Kp (K : Nat → Prop) (w w' : World) : Prop where
  os : w'.os = w.os
  tape : w'.tape = w.tape
  output : w'.output = w.output
  size : w.heap.size ≤ w'.heap.size
  block : ∀ k, K k → w'.heap[k]? = w.heap[k]?
theorem Kp.refl (K : Nat → Prop) (w : World) : Kp K w w := ⟨rfl, rfl, rfl, Nat.le_refl _, fun _ _ => rfl⟩
theorem Kp.trans {K : Nat → Prop} {a b c : World} (h : Kp K a b) (k : Kp K b c) : Kp K a c :=
  ⟨k.os.trans h.os, k.tape.trans h.tape, k.output.trans h.output, Nat.le_trans h.size k.size, fun i hi => (k.block i hi).trans (h.block i hi)⟩
theorem Kp.drew {K : Nat → Prop} {a w : World} (h : Kp K a w) : Kp K a w.drew := ⟨h.os, h.tape, h.output, h.size, h.block⟩
theorem Kp.drewN {K : Nat → Prop} {a w : World} (h : Kp K a w) (n : Nat) : Kp K a (w.drewN n) := ⟨h.os, h.tape, h.output, h.size, h.block⟩
theorem Kp.setCell {K : Nat → Prop} {a w : World} (h : Kp K a w) (g o : Nat) (hg : ¬ K g) (v : Value) : Kp K a (w.setCell ⟨g, o, none⟩ v) :=
  ⟨h.os, h.tape, h.output, by simpa [World.setCell] using h.size, fun k hk => (Below.heap_setCell _ _ _ _ (fun e => hg (by have e : k = g := e; rw [← e]; exact hk))).trans (h.block k hk)⟩
theorem Kp.below {K : Nat → Prop} {w w' : World} (h : Below w.heap.size w w') (hK : ∀ k, K k → k < w.heap.size) : Kp K w w' := ⟨h.os, h.tape, h.output, h.size, fun k hk => h.block k (hK k hk)⟩
theorem Kp.less {K K' : Nat → Prop} {w w' : World} (h : Kp K w w') (hK : ∀ k, K' k → K k) : Kp K' w w' := ⟨h.os, h.tape, h.output, h.size, fun k hk => h.block k (hK k hk)⟩
structure St (K : Nat → Prop) (N : Nat) (w : World) (sb : Nat) (vb : Value) (b : List UInt8) (p : Nat) (out : List UInt8) (most : Nat) (fx : Value) : Prop where
  row : ∃ vo, Row w sb 45 #[vb, .int .i64 (p : Int), vo, .int .i64 (most : Int), fx] ∧ OwnB N w vo out
  kt : ∀ k, K k → k < N ∨ ∀ cur, ¬ Row w k 5 cur
  bts : Bts K w vb b
  sbK : ¬ K sb
  kl : ∀ k, K k → k < w.heap.size
  bl : b.length ≤ 140737488355328
  pl : p ≤ 8 * b.length
  ol : out.length ≤ most
  ml : most ≤ 65536
  nl : N ≤ w.heap.size
theorem St.own {K : Nat → Prop} {N : Nat} {w : World} {vo : Value} {out : List UInt8} (kt : ∀ k, K k → k < N ∨ ∀ cur, ¬ Row w k 5 cur) (ho : OwnB N w vo out) : ∀ g, vo.ownBlock = some g → ¬ K g := by
  intro g hg hK
  obtain ⟨h1, cur, r⟩ := ho.lt g hg
  rcases kt g hK with h2 | h2
  · omega
  · exact h2 cur r
theorem kt_keep {K : Nat → Prop} {N : Nat} {w w' : World} (kt : ∀ k, K k → k < N ∨ ∀ cur, ¬ Row w k 5 cur) (h : ∀ k, K k → w'.heap[k]? = w.heap[k]?) : ∀ k, K k → k < N ∨ ∀ cur, ¬ Row w' k 5 cur := by
  intro k hk
  rcases kt k hk with h1 | h1
  · exact .inl h1
  · refine .inr fun cur r => h1 cur ?_
    unfold Row at *
    rw [← h k hk]; exact r
theorem St.drewN {K : Nat → Prop} {N : Nat} {w : World} {sb : Nat} {vb : Value} {b : List UInt8} {p : Nat} {out : List UInt8} {most : Nat} {fx : Value} (h : St K N w sb vb b p out most fx) (n : Nat) : St K N (w.drewN n) sb vb b p out most fx :=
  ⟨h.row, h.kt, h.bts, h.sbK, h.kl, h.bl, h.pl, h.ol, h.ml, h.nl⟩
theorem St.ne {N : Nat} {w : World} {vo : Value} {out : List UInt8} {sb : Nat} {cur : Array Value} (ho : OwnB N w vo out) (hr : Row w sb 45 cur) : ∀ g, vo.ownBlock = some g → g ≠ sb := by
  rintro g hg rfl
  obtain ⟨-, cur, r⟩ := ho.lt g hg
  unfold Row at r hr
  rw [r] at hr
  simp at hr
theorem St.at_ {K : Nat → Prop} {N : Nat} {w : World} {sb : Nat} {vb : Value} {b : List UInt8} {p : Nat} {out : List UInt8} {most : Nat} {fx : Value} (h : St K N w sb vb b p out most fx) (q : Nat) (hq : q ≤ 8 * b.length) : St K N (w.setCell ⟨sb, 1, none⟩ (.int .i64 (q : Int))) sb vb b q out most fx := by
  obtain ⟨vo, hr, ho⟩ := h.row
  have hk : ∀ k, K k → (w.setCell ⟨sb, 1, none⟩ (.int .i64 (q : Int))).heap[k]? = w.heap[k]? := fun k hk => Below.heap_setCell _ _ _ _ (fun e => h.sbK (by have e : k = sb := e; rw [← e]; exact hk))
  exact ⟨⟨vo, by simpa using hr.setCell 1 (.int .i64 (q : Int)), ho.same fun g hg => Below.heap_setCell _ _ _ _ (St.ne ho hr g hg)⟩, kt_keep h.kt hk, h.bts.keep fun g hg => ⟨hg, hk g hg⟩, h.sbK, fun k hk => by simpa [World.setCell] using h.kl k hk, h.bl, hq, h.ol, h.ml, by simpa [World.setCell] using h.nl⟩
def nbr (b : List UInt8) (p size : Nat) : Nat := Gf.num b / 2 ^ p % 2 ^ size
theorem rd_ok {b : List UInt8} {p size : Nat} (h64 : size ≤ 64) (h : p + size ≤ 8 * b.length) : Gf.rdE b.length (p : Int) (size : Int) = 0 ∧ Gf.rdV b (p : Int) (size : Int) = nbr b p size := by
  have e : Gf.rdE b.length (p : Int) (size : Int) = 0 := by unfold Gf.rdE; rw [if_neg (by omega), if_neg (by omega)]
  exact ⟨e, by unfold Gf.rdV; rw [if_pos e, Int.toNat_natCast, Int.toNat_natCast]; rfl⟩
theorem rd_short {b : List UInt8} {p size : Nat} (h64 : size ≤ 64) (h : ¬ p + size ≤ 8 * b.length) : Gf.rdE b.length (p : Int) (size : Int) = 7 ∧ Gf.rdV b (p : Int) (size : Int) = 0 := by
  have e : Gf.rdE b.length (p : Int) (size : Int) = 7 := by unfold Gf.rdE; rw [if_neg (by omega), if_pos (by omega)]
  exact ⟨e, by unfold Gf.rdV; rw [if_neg (by rw [e]; decide)]⟩
theorem St.grow {K : Nat → Prop} {N : Nat} {w : World} {sb : Nat} {vb : Value} {b : List UInt8} {p : Nat} {out : List UInt8} {most : Nat} {fx vo : Value} (h : St K N w sb vb b p out most fx) (hr : Row w sb 45 #[vb, .int .i64 (p : Int), vo, .int .i64 (most : Int), fx]) (ho : OwnB N w vo out) (nq : Nat) (o : Obj) (x : UInt8) (hx : out.length < most) {v' : Value} {w3 : World} (o3 : OwnB N w3 v' (out ++ [x])) (g3 : ((w.drewN nq).alloc o).grownBy w3 vo.ownBlock) :
    w3.cell? ⟨sb, 2, none⟩ = some vo ∧ w3.frozen? ⟨sb, 2, none⟩ = false ∧ Kp K w (w3.setCell ⟨sb, 2, none⟩ v') ∧ St K N (w3.setCell ⟨sb, 2, none⟩ v') sb vb b p (out ++ [x]) most fx := by
  have hz : ((w.drewN nq).alloc o).heap.size = w.heap.size + 1 := by simp
  have hne := St.ne ho hr
  have blk : ∀ k, k < w.heap.size → some k ≠ vo.ownBlock → w3.heap[k]? = w.heap[k]? := fun k hk hn => (g3.block k (by omega) hn).trans (Below.heap_alloc _ _ _ hk)
  have r3 : Row w3 sb 45 #[vb, .int .i64 (p : Int), vo, .int .i64 (most : Int), fx] := hr.same (blk sb hr.lt fun e => hne sb e.symm rfl)
  have hk3 : ∀ k, K k → w3.heap[k]? = w.heap[k]? := fun k hk => blk k (h.kl k hk) fun e => St.own h.kt ho k e.symm hk
  have hsz : w.heap.size ≤ w3.heap.size := by have := g3.size; omega
  have hk4 : ∀ k, K k → (w3.setCell ⟨sb, 2, none⟩ v').heap[k]? = w.heap[k]? := fun k hk => (Below.heap_setCell _ _ _ _ (fun e => h.sbK (by have e : k = sb := e; rw [← e]; exact hk))).trans (hk3 k hk)
  have kp : Kp K w w3 := ⟨g3.os, g3.tape, g3.output, hsz, hk3⟩
  refine ⟨by rw [r3.cell]; rfl, r3.frozen 2, kp.setCell sb 2 h.sbK v', ?_⟩
  refine ⟨⟨v', by simpa using r3.setCell 2 v', o3.same fun g hg => Below.heap_setCell _ _ _ _ (St.ne o3 r3 g hg)⟩, kt_keep h.kt hk4, h.bts.keep fun g hg => ⟨hg, hk4 g hg⟩, h.sbK, fun k hk => ?_, h.bl, h.pl, by rw [List.length_append]; exact hx, h.ml, ?_⟩
  · have := h.kl k hk; simp [World.setCell]; omega
  · have := h.nl; simp [World.setCell]; omega
theorem nbr_lt (b : List UInt8) (p size : Nat) : nbr b p size < 2 ^ size := Nat.mod_lt _ (Nat.pow_pos (by decide))
def putsF (b : List UInt8) (most : Nat) : Nat → Nat → List UInt8 → Except Int (Nat × List UInt8)
  | 0, p, out => .ok (p, out)
  | k + 1, p, out => if p + 8 ≤ 8 * b.length then (if out.length = most then .error 4 else putsF b most k (p + 8) (out ++ [UInt8.ofNat (nbr b p 8)])) else .error 7
def storedF (b : List UInt8) (most : Nat) (p : Nat) (out : List UInt8) : Except Int (Nat × List UInt8) :=
  if (p + 7) / 8 * 8 + 16 ≤ 8 * b.length then
    (if (p + 7) / 8 * 8 + 32 ≤ 8 * b.length then
      (if nbr b ((p + 7) / 8 * 8) 16 + nbr b ((p + 7) / 8 * 8 + 16) 16 = 65535 then putsF b most (nbr b ((p + 7) / 8 * 8) 16) ((p + 7) / 8 * 8 + 32) out else .error 8)
    else .error 7)
  else .error 7
def Ends (K : Nat → Prop) (N : Nat) (w : World) (sb : Nat) (vb : Value) (b : List UInt8) (most : Nat) (fx : Value) (r : Except Int (Nat × List UInt8)) (e : Ending) (w' : World) : Prop :=
  Kp K w w' ∧ match r with
    | .ok (p, out) => e = .returned (.tuple #[]) ∧ St K N w' sb vb b p out most fx
    | .error x => e = flt x
theorem Ends.bad {K : Nat → Prop} {N : Nat} {w w' : World} {sb : Nat} {vb : Value} {b : List UInt8} {most : Nat} {fx : Value} {r : Except Int (Nat × List UInt8)} {x : Int} (h : r = .error x) (kp : Kp K w w') : Ends K N w sb vb b most fx r (flt x) w' := by subst h; exact ⟨kp, rfl⟩
theorem Ends.good {K : Nat → Prop} {N : Nat} {w w' : World} {sb : Nat} {vb : Value} {b : List UInt8} {most : Nat} {fx : Value} {r : Except Int (Nat × List UInt8)} {p : Nat} {out : List UInt8} (h : r = .ok (p, out)) (kp : Kp K w w') (st : St K N w' sb vb b p out most fx) : Ends K N w sb vb b most fx r (.returned (.tuple #[])) w' := by subst h; exact ⟨kp, rfl, st⟩
theorem puts_step (b : List UInt8) (most k p : Nat) (out : List UInt8) : putsF b most (k + 1) p out = if p + 8 ≤ 8 * b.length then (if out.length = most then .error 4 else putsF b most k (p + 8) (out ++ [UInt8.ofNat (nbr b p 8)])) else .error 7 := rfl
def tellF (most dist : Nat) : Nat → List UInt8 → Except Int (List UInt8)
  | 0, out => .ok out
  | k + 1, out => if out.length = most then .error 4 else tellF most dist k (out ++ [out.getD (out.length - dist) 0])
theorem tell_step (most dist k : Nat) (out : List UInt8) : tellF most dist (k + 1) out = if out.length = most then .error 4 else tellF most dist k (out ++ [out.getD (out.length - dist) 0]) := rfl
def againF (most p len dist : Nat) (out : List UInt8) : Except Int (Nat × List UInt8) :=
  if out.length < dist then .error 8 else (tellF most dist len out).map fun o => (p, o)
section
variable {K : Nat → Prop} {N : Nat} {w : World} {sb : Nat} {vb : Value} {b : List UInt8} {p : Nat} {out : List UInt8} {most : Nat} {fx : Value}
theorem St.more (h : St K N w sb vb b p out most fx) (g : Nat) {t : TypeId} {cur : Array Value} (r : Row w g t cur) (ht : t ≠ 5) (hs : g ≠ sb) : St (fun k => K k ∨ k = g) N w sb vb b p out most fx := by
  refine ⟨h.row, ?_, h.bts.keep fun g hg => ⟨.inl hg, rfl⟩, fun hh => ?_, fun k hk => ?_, h.bl, h.pl, h.ol, h.ml, h.nl⟩
  · rintro k (hk | rfl)
    · exact h.kt k hk
    · refine .inr fun c hc => ht ?_
      unfold Row at r hc
      rw [r] at hc
      simp at hc
      exact hc.2
  · rcases hh with hh | hh
    · exact h.sbK hh
    · exact hs hh.symm
  · rcases hk with hk | rfl
    · exact h.kl k hk
    · exact r.lt
theorem St.back {K' : Nat → Prop} {w' : World} {p' : Nat} {out' : List UInt8} (h : St K N w sb vb b p out most fx) (h' : St K' N w' sb vb b p' out' most fx) (kp : Kp K w w') : St K N w' sb vb b p' out' most fx :=
  ⟨h'.row, kt_keep h.kt kp.block, h.bts.keep fun g hg => ⟨hg, kp.block g hg⟩, h.sbK, fun k hk => Nat.lt_of_lt_of_le (h.kl k hk) kp.size, h'.bl, h'.pl, h'.ol, h'.ml, h'.nl⟩
theorem St.alloc (h : St K N w sb vb b p out most fx) (o : Obj) : St K N (w.alloc o) sb vb b p out most fx := by
  obtain ⟨vo, hr, ho⟩ := h.row
  have hk : ∀ k, k < w.heap.size → (w.alloc o).heap[k]? = w.heap[k]? := fun k hk => Below.heap_alloc _ _ _ hk
  refine ⟨⟨vo, hr.alloc o, ho.same fun g hg => ?_⟩, kt_keep h.kt fun k hk' => hk k (h.kl k hk'), h.bts.keep fun g hg => ⟨hg, hk g (h.kl g hg)⟩, h.sbK, fun k hk' => ?_, h.bl, h.pl, h.ol, h.ml, ?_⟩
  · obtain ⟨-, cur, r⟩ := ho.lt g hg
    exact hk g r.lt
  · have := h.kl k hk'; simp; omega
  · have := h.nl; simp; omega
theorem St.other (h : St K N w sb vb b p out most fx) (g o : Nat) (v : Value) {t : TypeId} {cur : Array Value} (r : Row w g t cur) (ht : t ≠ 5) (hs : g ≠ sb) (hg : ¬ K g) : St K N (w.setCell ⟨g, o, none⟩ v) sb vb b p out most fx := by
  obtain ⟨vo, hr, ho⟩ := h.row
  have hk : ∀ k, k ≠ g → (w.setCell ⟨g, o, none⟩ v).heap[k]? = w.heap[k]? := fun k hk => Below.heap_setCell _ _ _ _ hk
  have hne : ∀ k, K k → k ≠ g := fun k hk e => hg (e ▸ hk)
  refine ⟨⟨vo, hr.same (hk sb (Ne.symm hs)), ho.same fun q hq => hk q ?_⟩, kt_keep h.kt fun k hk' => hk k (hne k hk'), h.bts.keep fun q hq => ⟨hq, hk q (hne q hq)⟩, h.sbK, fun k hk' => by simpa [World.setCell] using h.kl k hk', h.bl, h.pl, h.ol, h.ml, by simpa [World.setCell] using h.nl⟩
  rintro rfl
  obtain ⟨-, c2, r2⟩ := ho.lt q hq
  unfold Row at r r2
  rw [r] at r2
  simp at r2
  exact ht r2.2
end
def ordL : List Int := [16, 17, 18, 0, 8, 7, 9, 6, 10, 5, 11, 4, 12, 3, 13, 2, 14, 1, 15]
def kindL (b : List UInt8) (p : Nat) : Nat → List Int
  | 0 => List.replicate 19 0
  | k + 1 => (kindL b p k).set (ordL.getD k 0).toNat ((nbr b (p + 3 * k) 3 : Nat) : Int)
theorem kindL_len (b : List UInt8) (p : Nat) : ∀ k, (kindL b p k).length = 19
  | 0 => rfl
  | k + 1 => by rw [kindL, List.length_set, kindL_len b p k]
theorem ordL_lt : ∀ k, k < 19 → ∃ i : Nat, ordL.getD k 0 = (i : Int) ∧ i < 19 := by
  intro k hk
  have h : ∀ k, k < 19 → 0 ≤ ordL.getD k 0 ∧ ordL.getD k 0 < 19 := by decide +kernel
  obtain ⟨h1, h2⟩ := h k hk
  exact ⟨(ordL.getD k 0).toNat, by omega, by omega⟩
theorem wpList_val {P : Program} {ops : Array Oper} {rest : List Oper} {op : Oper} {a : Act} {w : World} {Q : Exit → Act → World → Prop} (hgd : op.guard = none) (v : Value) (hrun : (execOp a.eval op).run P w = .ok (.value v) w)
    (h : wpList P ops Q rest (a.put op.dst v) w) : wpList P ops Q (op :: rest) a w :=
  wpList_plain hgd fun _ hK => by unfold Oper.wp; rw [hrun]; exact hK _ _ h
theorem wpList_make_gen {ops : Array Oper} {rest : List Oper} {op : Oper} {a : Act} {w : World} {Q : Exit → Act → World → Prop}
    (hgd : op.guard = none) (x y : Operand) (ho : op.op = .makeSlice 63 x y) (L C : Int) (n : Nat) (hx : a.eval x = .int .i64 L) (hy : a.eval y = .int .i64 C) (hL : L = (n : Int)) (hC : C = (n : Int)) (hn : n ≤ 65536)
    (h : ∀ W, W = w.alloc (.cells (ai (List.replicate n 0)) 3) → wpList Try.prog ops Q rest (a.put op.dst (.slice (some ⟨w.heap.size, 0, none⟩) n n)) W) : wpList Try.prog ops Q (op :: rest) a w :=
  wpList_make_ints hgd x y ho L C n hx hy hL hC hn (h _ rfl)
theorem St.below {K : Nat → Prop} {N : Nat} {w w' : World} {sb : Nat} {vb : Value} {b : List UInt8} {p : Nat} {out : List UInt8} {most : Nat} {fx : Value} (h : St K N w sb vb b p out most fx) (hb : Below w.heap.size w w') : St K N w' sb vb b p out most fx := by
  obtain ⟨vo, hr, ho⟩ := h.row
  refine ⟨⟨vo, hr.below hb hr.lt, ho.same fun g hg => ?_⟩, kt_keep h.kt fun k hk => hb.block k (h.kl k hk), h.bts.keep fun g hg => ⟨hg, hb.block g (h.kl g hg)⟩, h.sbK, fun k hk => Nat.lt_of_lt_of_le (h.kl k hk) hb.size, h.bl, h.pl, h.ol, h.ml, Nat.le_trans h.nl hb.size⟩
  obtain ⟨-, cur, r⟩ := ho.lt g hg
  exact hb.block g r.lt
def nil19 : List Int := List.replicate 19 0
set_option maxRecDepth 100000 in
theorem Try.info98 : (Try.prog.info? 98).map (·.size) = some 19 := by kernel_rfl
set_option maxRecDepth 100000 in
theorem Try.zero98 : (Try.prog.info? 98).map (fun i => (i.zero, i.size)) = some (some (.agg (ai nil19)), 19) := by kernel_rfl
theorem wpList_store_gen {P : Program} {ops : Array Oper} {rest : List Oper} {op : Oper} {a : Act} {w : World} {Q : Exit → Act → World → Prop} (hgd : op.guard = none) (ty : TypeId) (x y : Operand) (ho : op.op = .store ty x y) (b : Nat) (hx : a.eval x = .pointer (some ⟨b, 0, none⟩))
    (c' : Array Value) (hy : a.eval y = .agg c') (t : TypeId) (n : Nat) (hr : Room w b t n) (hi : (P.info? ty).map (·.size) = some n) (hs : c'.size = n) (h1 : c'.all (·.oneCell') = true)
    (h : ∀ W, W = w.setRow b c' → wpList P ops Q rest (a.put op.dst undef) W) : wpList P ops Q (op :: rest) a w :=
  wpList_store_row hgd ty x y ho b hx c' hy t n hr hi hs h1 (h _ rfl)
set_option linter.unusedVariables false
set_option linter.unusedSimpArgs false
def ordK : List Nat := [16, 17, 18, 0, 8, 7, 9, 6, 10, 5, 11, 4, 12, 3, 13, 2, 14, 1, 15]
def ordF (l : List Int) : List Int := ordK.map fun k => l.getD k 0
theorem ordF_len (l : List Int) : (ordF l).length = 19 := by simp [ordF, ordK]
theorem ordK_lt (k : Nat) (hk : k < 19) : ordK.getD k 0 < 19 := by
  have : ∀ k, k < 19 → ordK.getD k 0 < 19 := by decide +kernel
  exact this k hk
theorem ordF_get (l : List Int) (k : Nat) (hk : k < 19) : (ordF l).getD k 0 = l.getD (ordK.getD k 0) 0 := by
  have hl : ordK.length = 19 := rfl
  unfold ordF
  rw [List.getD_eq_getElem?_getD, List.getElem?_map, List.getElem?_eq_getElem (by omega), List.getD_eq_getElem?_getD (l := ordK), List.getElem?_eq_getElem (by omega)]
  rfl
def ordP (l : List Int) (k : Nat) : List Int := (ordF l).take k ++ zs (19 - k)
theorem ordP_len (l : List Int) (k : Nat) (hk : k ≤ 19) : (ordP l k).length = 19 := by
  unfold ordP
  rw [List.length_append, List.length_take, ordF_len, zs_len]
  omega
theorem ordP_step (l : List Int) (k : Nat) (hk : k < 19) : (ordP l k).set k ((ordF l).getD k 0) = ordP l (k + 1) := by
  unfold ordP
  have hl := ordF_len l
  obtain ⟨m, hm⟩ : ∃ m, 19 - k = m + 1 := ⟨18 - k, by omega⟩
  have hz : zs (m + 1) = 0 :: zs m := rfl
  rw [hm, hz, show 19 - (k + 1) = m by omega, List.set_append_right _ _ (by rw [List.length_take]; omega), List.length_take, Nat.min_eq_left (by omega), Nat.sub_self]
  have e := List.take_succ_eq_append_getElem (l := ordF l) (i := k) (by omega)
  have hx : (ordF l).getD k 0 = (ordF l)[k]'(by omega) := by rw [List.getD_eq_getElem?_getD, List.getElem?_eq_getElem (show k < (ordF l).length by omega)]; rfl
  rw [e, List.append_assoc, hx]
  rfl
theorem Try.size98 : (Try.prog.info? 98).map (·.size) = some 19 := by kernel_rfl
theorem ordA_get (k : Nat) (hk : k < 19) : (ai ordL)[k]? = some (.int .i64 ((ordK.getD k 0 : Nat) : Int)) := by
  have h : ∀ j, j < 19 → ordL.getD j 0 = ((ordK.getD j 0 : Nat) : Int) := by decide +kernel
  rw [← h k hk]
  exact ai_get (show k < 19 from hk)
set_option maxRecDepth 100000 in
set_option maxHeartbeats 4000000 in
theorem ordered_is (w : World) (b o c : Nat) (l : List Int) (hbN : b < w.heap.size) (hc : 19 ≤ c) (hb : ∀ k, k < 19 → w.cell? ⟨b, o + k, none⟩ = some (.int .i64 (l.getD k 0))) :
    Calls Try.prog 62 #[.slice (some ⟨b, o, none⟩) 19 c] w fun e w' => ∃ g, e = .returned (.slice (some ⟨g, 0, none⟩) 19 19) ∧ w.heap.size ≤ g ∧ SegI w' g (ordF l) ∧ Below w.heap.size w w' := by
  have HB := Box'.mk hb
  have HIX := Box'.mk (fun (wq : World) (k : Nat) (hk : k < 19) => run_index_arr (P := Try.prog) wq 98 3 19 (ai ordL) k _ .i64 .i64 Try.underlying98 Try.underlying3 (by kernel_rfl) hk (ordA_get k hk))
  have r0 : Room (w.alloc (.cells (ai nil19) 98)) w.heap.size 98 19 := Room.new _ _ _ _ rfl
  have hsz : (ai ordL).size = 19 := rfl
  have h1 := ai_one ordL
  clear hb
  go_enter Try.func62, Try.ntmps62
  go_upto_region 3 with (first
    | (refine wpList_alloc_row rfl 98 rfl _ _ Try.zero98 ?_)
    | (refine wpList_store_gen rfl 98 _ _ rfl _ rfl (ai ordL) rfl _ _ r0 Try.size98 hsz h1 ?_; intro W0 hW0; have HW0 := Box'.mk hW0; have hz0 : W0.heap.size = w.heap.size + 1 := (by rw [hW0]; simp [World.setRow]); clear hW0)
    | (refine wpList_make_gen rfl _ _ rfl _ _ 19 rfl rfl rfl rfl (by omega) ?_; intro W hW; have HW := Box'.mk hW; clear hW))
  have ro0 : Row W0 w.heap.size 98 (ai ordL) := by rw [HW0.out]; exact r0.setRow _
  have R1 : Box' (Row W w.heap.size 98 (ai ordL)) := ⟨by rw [HW.out]; exact ro0.alloc _⟩
  have S1 : Box' (SegI W (w.heap.size + 1) (ordP l 0)) := ⟨by rw [HW.out, ← hz0]; exact (Row.new W0 3 (ai (zs 19))).seg⟩
  have bl0 : Below w.heap.size w W0 := by rw [HW0.out]; exact below_setRow ((Below.refl _ _).alloc (Nat.le_refl _) _) (Nat.le_refl _) _
  have B1 : Box' (Below w.heap.size w W) := ⟨by rw [HW.out]; exact bl0.alloc (by omega) _⟩
  have hgN : w.heap.size ≤ w.heap.size + 1 := by omega
  have HSZ := Box'.mk hsz
  clear r0 hsz h1 HW0 HW ro0 bl0 hz0
  generalize ai ordL = OA at *
  obtain ⟨G, hG⟩ : ∃ G, w.heap.size + 1 = G := ⟨_, rfl⟩
  rw [hG] at S1 hgN ⊢
  clear hG
  go_wp2_with (first | (refine wpList_load_row rfl 98 (.tmp 3) rfl _ rfl _ _ R1.out _ Try.underlying98 rfl 19 Try.size98 HSZ.out ?_) | fail)
  go_loopw [10] (fun i wr => ∃ k : Nat, k ≤ 19 ∧ i = .int .i64 (k : Int) ∧ Box' (SegI wr G (ordP l k)) ∧ Box' (Below w.heap.size w wr)) (fun i _ => 19 - (intOf i).toNat)
  case atStart => exact ⟨0, Nat.zero_le _, rfl, S1, B1⟩
  case round =>
    clear S1 B1 R1
    obtain ⟨k, hk, rfl, HS, HBl⟩ := hrel
    by_cases hlt : k < 19
    · have hix := HIX.out wr k hlt
      have hK := ordK_lt k hlt
      have e1 := ordF_get l k hlt
      have e2 := ordP_step l k hlt
      rw [e1] at e2
      have c0 : wr.cell? ⟨b, o + ordK.getD k 0, none⟩ = some (.int .i64 (l.getD (ordK.getD k 0) 0)) := (HBl.out.cell (p := ⟨b, o + ordK.getD k 0, none⟩) hbN).trans (HB.out _ hK)
      have S2 := Box'.mk (HS.out.set k (l.getD (ordK.getD k 0) 0) (by rw [ordP_len l k hk]; exact hlt))
      rw [e2] at S2
      have cS := HS.out.cell (k := k) (by rw [ordP_len l k hk]; exact hlt)
      have fS := HS.out.frozen k
      have B2 := Box'.mk (HBl.out.setCell (p := ⟨G, k, none⟩) hgN (.int .i64 (l.getD (ordK.getD k 0) 0)))
      clear e1 e2 HS HBl
      generalize l.getD (ordK.getD k 0) 0 = x at *
      generalize ordK.getD k 0 = q at *
      generalize (ordP l k).getD k 0 = y at *
      have j1 : (0 : Int) ≤ (q : Int) := by omega
      have j2 : (q : Int) < 19 := by omega
      have j3 : (k : Int) < 19 := by omega
      go_wp2_with (first | (refine wpList_val rfl _ (show (execOp _ _).run Try.prog _ = .ok (.value (.int .i64 (q : Int))) _ from by simp only [execOp, Sem.run_bind]; rw [show (Instr.index 98 (.agg OA) (.int .i64 (k : Int))).run Try.prog wr = _ from hix]; rfl) ?_) | fail)
      go_roundw
      case rel => exact ⟨k + 1, by omega, by go_num, S2, B2⟩
      case measure => simp [intOf]; omega
    · obtain rfl : k = 19 := by omega
      have S2 : Box' (SegI wr G (ordF l)) := ⟨by have := HS.out; unfold ordP at this; rw [List.take_of_length_le (by rw [ordF_len]; exact Nat.le_refl _)] at this; simpa [zs] using this⟩
      clear HS
      go_wp2_with fail
      go_ret
      exact ⟨G, rfl, hgN, S2.out, HBl.out⟩
end Go.Proofs.Ytcjfaahlchbcmaa
