/- The walk of the closure that reads a symbol. Two forks compared as one; the walk of the closure that reads a symbol. -/
import Derived.Test.YtbnghmeeddjaoaaFn
import Derived.Laws.StructEq
import Derived.Deep.RegionWith
namespace Go.Proofs.Ytbnghmeeddjaoaa
open Go.RowKit Go.BigFrame Gt

/-- The closure that reads symbols of the lengths l stands, in blocks of K. -/
def RdK (K : Nat → Prop) (w : World) (sb : Nat) (l : List Int) (fb xb : Nat) : Prop :=
  ∃ g cap, K fb ∧ K xb ∧ K g ∧ Row w fb 79 #[.slice (some ⟨g, 0, none⟩) (treeB l l.length).length cap] ∧ Row w xb 58 #[.pointer (some ⟨sb, 0, none⟩)] ∧ (treeB l l.length).length ≤ cap ∧
    ∀ q c, q < (treeB l l.length).length → c < 2 → w.cell? ⟨g, q * 2 + c, none⟩ = some (.int .i64 (get (treeB l l.length) q c))
theorem RdK.keep {K : Nat → Prop} {w w' : World} {sb : Nat} {l : List Int} {fb xb : Nat} (h : RdK K w sb l fb xb) (kp : Kp K w w') : RdK K w' sb l fb xb := by
  obtain ⟨g, cap, k1, k2, k3, r1, r2, hc, hcl⟩ := h
  refine ⟨g, cap, k1, k2, k3, r1.same (kp.block _ k1), r2.same (kp.block _ k2), hc, fun q c hq hc => ?_⟩
  have := hcl q c hq hc
  simp only [World.cell?, kp.block _ k3] at *
  exact this
theorem RdK.more {K K' : Nat → Prop} {w : World} {sb : Nat} {l : List Int} {fb xb : Nat} (h : RdK K w sb l fb xb) (hK : ∀ k, K k → K' k) : RdK K' w sb l fb xb := by
  obtain ⟨g, cap, k1, k2, k3, h⟩ := h
  exact ⟨g, cap, hK _ k1, hK _ k2, hK _ k3, h⟩
/-- A symbol read: it and the place behind it, or the error. -/
def rdF (l : List Int) (b : List UInt8) (p : Nat) : Except Int (Nat × Nat) :=
  if (Gf.symF l (Gf.bitAt b p) 17 0 0).2.2 = 0 then .ok ((Gf.symF l (Gf.bitAt b p) 17 0 0).1, p + (Gf.symF l (Gf.bitAt b p) 17 0 0).2.1) else .error (Gf.symF l (Gf.bitAt b p) 17 0 0).2.2
/-- How far the reading of a symbol is: n bits, at the place q. -/
structure Wk (fs : List Fk) (bit : Nat → Option Nat) (T : Nat × Nat × Int) (S : List (List Nat × Int)) (n q : Nat) : Prop where
  lt : q < fs.length
  n14 : n ≤ 14
  eq : T = treeF fs bit (16 - n) n q
  path : ∃ P, Tri fs P S [] ∧ (P q).length = n
theorem Wk.none {fs : List Fk} {bit : Nat → Option Nat} {T : Nat × Nat × Int} {S : List (List Nat × Int)} {n q : Nat} (h : Wk fs bit T S n q) (hb : bit n = none) : T = (0, 0, 7) := by
  rw [h.eq, show 16 - n = (15 - n) + 1 by have := h.n14; omega, treeF, hb]
theorem Wk.zero {fs : List Fk} {bit : Nat → Option Nat} {T : Nat × Nat × Int} {S : List (List Nat × Int)} {n q v : Nat} (h : Wk fs bit T S n q) (hb : bit n = some v) (h0 : get fs q v = 0) : T = (0, 0, 8) := by
  rw [h.eq, show 16 - n = (15 - n) + 1 by have := h.n14; omega, treeF, hb]
  simp only [h0, if_true]
theorem Wk.leaf {fs : List Fk} {bit : Nat → Option Nat} {T : Nat × Nat × Int} {S : List (List Nat × Int)} {n q v : Nat} (hS : ∀ k s, (k, s) ∈ S → 0 ≤ s ∧ s < 512) (h : Wk fs bit T S n q) (hb : bit n = some v) (hv : v < 2) (h0 : get fs q v < 0) : ∃ s : Nat, get fs q v = -(s : Int) - 1 ∧ s < 512 ∧ T = (s, n + 1, 0) := by
  obtain ⟨P, ht, _⟩ := h.path
  obtain ⟨s, e1, e2⟩ := ht.leaf q v h.lt hv h0
  have := hS _ _ e2
  refine ⟨s.toNat, by omega, by omega, ?_⟩
  rw [h.eq, show 16 - n = (15 - n) + 1 by have := h.n14; omega, treeF, hb]
  simp only [if_neg (show ¬ get fs q v = 0 by omega), if_pos h0]
  rw [e1, show -(-s - 1) - 1 = s by omega]
theorem Wk.on {fs : List Fk} {bit : Nat → Option Nat} {T : Nat × Nat × Int} {S : List (List Nat × Int)} {n q v : Nat} (hS : ∀ k s, (k, s) ∈ S → k.length ≤ 15) (h : Wk fs bit T S n q) (hb : bit n = some v) (hv : v < 2) (h0 : 0 < get fs q v) : ∃ q' : Nat, get fs q v = (q' : Int) ∧ q' ≠ 0 ∧ Wk fs bit T S (n + 1) q' := by
  obtain ⟨P, ht, hp⟩ := h.path
  obtain ⟨q', e1, e2, e3⟩ := ht.on q v h.lt hv h0
  refine ⟨q', e1, by omega, e2, ?_, ?_, P, ht, by rw [e3, List.length_append, hp]; rfl⟩
  · rcases ht.pre q v h.lt hv h0 with ⟨k, s, hm, h1, h2⟩ | ⟨h1, _⟩
    · have a1 := h1.length_le
      have a2 := hS k s hm
      rw [List.length_append, hp] at a1
      have a3 : (P q ++ [v]).length ≠ k.length := fun e => h2 (h1.eq_of_length e)
      rw [List.length_append, hp] at a3
      simp at a1 a3
      omega
    · have := h1.length_le; simp at this
  · rw [h.eq, show 16 - n = (16 - (n + 1)) + 1 by have := h.n14; omega, treeF, hb]
    simp only [if_neg (show ¬ get fs q v = 0 by omega), if_neg (show ¬ get fs q v < 0 by omega)]
    rw [e1, Int.toNat_natCast]
theorem codes_len {l : List Int} (hA : l.all Gf.lenB = true) : ∀ k s, (k, s) ∈ codesOf l l.length → k.length ≤ 15 := by
  intro k s h
  obtain ⟨i, _, _, _, rfl⟩ := codes_mem h
  rw [bitsH_len]
  exact (Gf.ln_le l hA i).1
theorem codes_sym {l : List Int} (h512 : l.length ≤ 512) : ∀ k s, (k, s) ∈ codesOf l l.length → 0 ≤ s ∧ s < 512 := by
  intro k s h
  obtain ⟨i, rfl, hi, _, _⟩ := codes_mem h
  omega
theorem i64_not_neg (a : Nat) (ha : a < 1000000) : bits .xor .i64 (-1) (-(a : Int) - 1) = (a : Int) := by
  show IntKind.i64.wrap ((BitVec.ofInt 64 (-1) ^^^ BitVec.ofInt 64 (-(a : Int) - 1)).toNat : Int) = _
  have h1 : BitVec.ofInt 64 (-1) = BitVec.allOnes 64 := by decide
  rw [h1, BitVec.allOnes_xor, BitVec.toNat_not, BitVec.toNat_ofInt]
  have h2 : ((-(a : Int) - 1) % ((2 ^ 64 : Nat) : Int)).toNat = 18446744073709551615 - a := by
    rw [show ((2 ^ 64 : Nat) : Int) = 18446744073709551616 from rfl]
    omega
  rw [h2]
  simp [IntKind.wrap, IntKind.bits, IntKind.signed]
  omega
end Go.Proofs.Ytbnghmeeddjaoaa
namespace Go.Proofs.Ytbnghmeeddjaoaa
open Go.RowKit Go.BigFrame Gt

theorem run_part_int {P : Program} (w : World) (e : TypeId) (ek : IntKind) (he : P.underlying e = some (.int ek)) (c : Array Value) (k : Nat) (v : Value) (hc : c[k]? = some v) : (part e c k).run P w = .ok v w := by
  simp [part, isAgg, underlying, he, hc]
theorem fork_eqd (w : World) (x0 x1 : Int) (d : Nat) (hd : ∃ m, d = m + 1) : (Op.equalIn (d + 1) 82 (.agg #[.int .i64 x0, .int .i64 x1]) (.agg #[.int .i64 0, .int .i64 0])).run Try.prog w = .ok (decide (x0 = 0 ∧ x1 = 0)) w := by
  have hsz : ∀ w, (sizeOf 3).run Try.prog w = .ok 1 w := by
    intro w
    obtain ⟨i, h1, _, h3, _⟩ := Try.info3'
    simp [sizeOf, typeInfo, h1, h3]
  have hin : ∀ (w : World) (a b : Int), (Op.equalIn d 3 (.int .i64 a) (.int .i64 b)).run Try.prog w = .ok (a == b) w := by
    obtain ⟨m, rfl⟩ := hd
    intro w a b; exact run_equalIn_int w m 3 .i64 .i64 a b Try.underlying3
  clear hd
  simp only [Op.equalIn, Sem.run_bind, run_underlying Try.underlying82, Result.andThen_ok, hsz]
  rw [Std.Legacy.Range.forIn_eq_forIn_range']
  have e1 : [:2].size = 2 := by simp [Std.Legacy.Range.size]
  have e2 : ([:2].start) = 0 := rfl
  have e3 : ([:2].step) = 1 := rfl
  rw [e1, e2, e3, show List.range' 0 2 = [0, 1] from rfl, List.forIn_cons]
  have p0 := fun w => run_part_int (P := Try.prog) w 3 .i64 Try.underlying3 #[.int .i64 x0, .int .i64 x1] 0 _ rfl
  have q0 := fun w => run_part_int (P := Try.prog) w 3 .i64 Try.underlying3 #[.int .i64 0, .int .i64 0] 0 _ rfl
  have p1 := fun w => run_part_int (P := Try.prog) w 3 .i64 Try.underlying3 #[.int .i64 x0, .int .i64 x1] 1 _ rfl
  have q1 := fun w => run_part_int (P := Try.prog) w 3 .i64 Try.underlying3 #[.int .i64 0, .int .i64 0] 1 _ rfl
  by_cases h0 : x0 = 0
  · subst h0
    by_cases h1 : x1 = 0
    · subst h1; simp [p0, p1, hin]
    · have : (x1 == 0) = false := by rw [beq_eq_false_iff_ne]; exact h1
      simp [p0, q0, p1, q1, hin, this, h1]
  · have : (x0 == 0) = false := by rw [beq_eq_false_iff_ne]; exact h0
    simp [p0, q0, hin, this, h0]
theorem fork_eq (w : World) (x0 x1 : Int) : (Op.equalIn 10000 82 (.agg #[.int .i64 x0, .int .i64 x1]) (.agg #[.int .i64 0, .int .i64 0])).run Try.prog w = .ok (decide (x0 = 0 ∧ x1 = 0)) w := fork_eqd w x0 x1 9999 ⟨9998, rfl⟩

set_option maxRecDepth 100000 in
set_option maxHeartbeats 4000000 in
theorem next_any (K : Nat → Prop) (N : Nat) (w : World) (sb : Nat) (vb : Value) (b : List UInt8) (p : Nat) (out : List UInt8) (most : Nat) (fx : Value) (l : List Int) (fb xb : Nat) (hchk : Gf.chkE l = 0) (hR : RdK K w sb l fb xb) (h : St K N w sb vb b p out most fx) :
    Calls Try.prog 48 #[.pointer (some ⟨fb, 0, none⟩), .pointer (some ⟨xb, 0, none⟩)] w fun e w' => Kp K w w' ∧ match rdF l b p with
      | .ok (s, q) => e = .returned (.int .i64 (s : Int)) ∧ St K N w' sb vb b q out most fx
      | .error x => e = flt x := by
  obtain ⟨hA, hW, h512⟩ := good_of hchk
  obtain ⟨P, hT⟩ := tree_ok hA hW l.length (Nat.le_refl _)
  have hbit : ∀ n v, Gf.bitAt b p n = some v → v < 2 := fun n v hv => by
    unfold Gf.bitAt at hv
    split at hv
    · cases hv; exact Nat.mod_lt _ (by decide)
    · cases hv
  have htop := top_ok hA hW hT (Gf.bitAt b p) hbit
  have hlen := tree_len l hA l.length
  have hcl15 := codes_len hA
  have hcs := codes_sym h512
  obtain ⟨g, cap, k1, k2, k3, r1, r2, hcap, hcl⟩ := hR
  unfold rdF
  generalize Gf.symF l (Gf.bitAt b p) 17 0 0 = T0 at *
  have LD : Box' (∀ W, Kp K w W → W.cell? ⟨fb, 0, none⟩ = some (.slice (some ⟨g, 0, none⟩) (treeB l l.length).length cap) ∧ W.cell? ⟨xb, 0, none⟩ = some (.pointer (some ⟨sb, 0, none⟩))) := ⟨fun W hW => ⟨by rw [(r1.same (hW.block fb k1)).cell]; rfl, by rw [(r2.same (hW.block xb k2)).cell]; rfl⟩⟩
  have FC : Box' (∀ W, Kp K w W → ∀ q c, q < (treeB l l.length).length → c < 2 → W.cell? ⟨g, q * 2 + c, none⟩ = some (.int .i64 (get (treeB l l.length) q c))) := ⟨fun W hW q c hq hc => by
    have := hcl q c hq hc
    simp only [World.cell?, hW.block g k3] at *
    exact this⟩
  have hL : 0 < (treeB l l.length).length := hT.len
  have hL2 : (treeB l l.length).length ≤ 10000 := by omega
  have W0 : Box' (∀ T, T = treeF (treeB l l.length) (Gf.bitAt b p) 16 0 0 → Wk (treeB l l.length) (Gf.bitAt b p) T (codesOf l l.length) 0 0) := ⟨fun T hh => ⟨hL, by omega, hh, P, hT, by rw [hT.root]; rfl⟩⟩
  have WN : Box' (∀ T n q, Wk (treeB l l.length) (Gf.bitAt b p) T (codesOf l l.length) n q → Gf.bitAt b p n = none → T = (0, 0, 7)) := ⟨fun T n q hw hh => hw.none hh⟩
  have WZ : Box' (∀ T n q v, Wk (treeB l l.length) (Gf.bitAt b p) T (codesOf l l.length) n q → Gf.bitAt b p n = some v → get (treeB l l.length) q v = 0 → T = (0, 0, 8)) := ⟨fun T n q v hw hh h0 => hw.zero hh h0⟩
  have WL : Box' (∀ T n q v, Wk (treeB l l.length) (Gf.bitAt b p) T (codesOf l l.length) n q → Gf.bitAt b p n = some v → get (treeB l l.length) q v < 0 → ∃ s : Nat, get (treeB l l.length) q v = -(s : Int) - 1 ∧ s < 512 ∧ T = (s, n + 1, 0)) := ⟨fun T n q v hw hh h0 => hw.leaf hcs hh (hbit n v hh) h0⟩
  have WO : Box' (∀ T n q v, Wk (treeB l l.length) (Gf.bitAt b p) T (codesOf l l.length) n q → Gf.bitAt b p n = some v → 0 < get (treeB l l.length) q v → ∃ q' : Nat, get (treeB l l.length) q v = (q' : Int) ∧ q' ≠ 0 ∧ Wk (treeB l l.length) (Gf.bitAt b p) T (codesOf l l.length) (n + 1) q') := ⟨fun T n q v hw hh h0 => hw.on hcl15 hh (hbit n v hh) h0⟩
  obtain ⟨c1, c2⟩ := LD.out w (Kp.refl _ _)
  have d0 : w.cell? ⟨g, 0, none⟩ = some (.int .i64 (get (treeB l l.length) 0 0)) := FC.out w (Kp.refl _ _) 0 0 hL (by decide)
  have d1 : w.cell? ⟨g, 0 + 1, none⟩ = some (.int .i64 (get (treeB l l.length) 0 1)) := FC.out w (Kp.refl _ _) 0 1 hL (by decide)
  have KK : Box' (K fb ∧ K xb ∧ K g) := ⟨k1, k2, k3⟩
  clear hcl r1 r2 hlen hT hcl15 hcs hW hA hchk h512 k1 k2 k3
  generalize codesOf l l.length = S at *
  generalize treeB l l.length = fs at *
  have feq := fork_eq
  have H := Box'.mk h
  by_cases hz : get fs 0 0 = 0 ∧ get fs 0 1 = 0
  · rw [if_pos hz] at htop
    subst htop
    rw [if_neg (show ¬ (8 : Int) = 0 by decide)]
    rw [hz.1] at d0
    rw [hz.2] at d1
    have hf := fail_any 8 w
    clear hz W0 WN WZ WL WO LD FC H h
    generalize fs.length = L at *
    go_enter Try.func48, Try.ntmps48
    go_wp2_with fail
    refine hf.mono ?_
    rintro e w' ⟨rfl, rfl⟩
    exact ⟨rfl, Kp.refl _ _, rfl⟩
  · rw [if_neg hz] at htop
    have HW0 := Box'.mk (W0.out T0 htop)
    have hz' : decide (get fs 0 0 = 0 ∧ get fs 0 1 = 0) = false := decide_eq_false hz
    clear htop hz h W0
    generalize get fs 0 0 = x0 at *
    generalize get fs 0 1 = x1 at *
    go_enter Try.func48, Try.ntmps48
    go_wp2_with fail
    clear c1 c2 d0 d1 feq hz'
    have HP := Box'.mk H.out.pl
    go_loopw [3] (fun i wr => ∃ n : Nat, Box' (St K N wr sb vb b (p + n) out most fx) ∧ Box' (Kp K w wr) ∧ ((∃ q : Nat, i = .int .i64 (q : Int) ∧ q < fs.length ∧ Box' (Wk fs (Gf.bitAt b p) T0 S n q)) ∨ (∃ s : Nat, i = .int .i64 (-(s : Int) - 1) ∧ s < 512 ∧ Box' (T0 = (s, n, 0))))) (fun _ wr => 8 * b.length + 1 - (intOf ((wr.cell? ⟨sb, 1, none⟩).getD undef)).toNat)
    case atStart => exact ⟨0, H, ⟨Kp.refl _ _⟩, .inl ⟨0, rfl, hL, HW0⟩⟩
    case round =>
      clear H HW0
      obtain ⟨n, ST, KP, ⟨q, rfl, hq, HW⟩ | ⟨s, rfl, hs, HT⟩⟩ := hrel
      · obtain ⟨c1, c2⟩ := LD.out wr KP.out
        have hM : intOf ((wr.cell? ⟨sb, 1, none⟩).getD undef) = ((p + n : Nat) : Int) := by
          obtain ⟨vo, hr, _⟩ := ST.out.row
          rw [hr.cell]; rfl
        by_cases hs : p + n + 1 ≤ 8 * b.length
        · obtain ⟨v, hbv, hnb⟩ : ∃ v, Gf.bitAt b p n = some v ∧ nbr b (p + n) 1 = v := ⟨_, by unfold Gf.bitAt nbr; rw [if_pos hs, Nat.pow_one], rfl⟩
          have hv2 := hbit n v hbv
          have hnum2 : ∀ W, W = wr ∨ W = wr.drew → Calls Try.prog 28 #[.pointer (some ⟨sb, 0, none⟩), .int .i64 1] W fun e w' => e = .returned (.int .i64 (v : Int)) ∧ Kp K w w' ∧ St K N w' sb vb b (p + (n + 1)) out most fx := fun W hW => by
            have stW : St K N W sb vb b (p + n) out most fx := by rcases hW with rfl | rfl <;> first | exact ST.out | exact ST.out.drewN 1
            have kW : Kp K w W := by rcases hW with rfl | rfl <;> first | exact KP.out | exact KP.out.drew
            refine (number_any K N W sb vb b (p + n) out most fx 1 (by decide) stW).mono fun e w' hh => ?_
            obtain ⟨kp, ⟨_, h1, h2⟩ | ⟨h1, _⟩⟩ := hh
            · rw [hnb] at h1; exact ⟨h1, kW.trans kp, h2⟩
            · exact absurd hs h1
          have hcells : ∀ W, Kp K w W → W.cell? ⟨g, q * 2 + v, none⟩ = some (.int .i64 (get fs q v)) := fun W hW => FC.out W hW q v hq hv2
          have HWZ := Box'.mk (WZ.out T0 n q v HW.out hbv)
          have HWL := Box'.mk (WL.out T0 n q v HW.out hbv)
          have HWO := Box'.mk (WO.out T0 n q v HW.out hbv)
          have hML : p + (n + 1) ≤ 8 * b.length := by omega
          have HML := Box'.mk hML
          have HNUM := Box'.mk hnum2
          have HC := Box'.mk hcells
          have HM := Box'.mk hM
          have kd : Kp K w wr.drew := KP.out.drew
          have c1d : wr.drew.cell? ⟨fb, 0, none⟩ = some (.slice (some ⟨g, 0, none⟩) fs.length cap) := c1
          have c2d : wr.drew.cell? ⟨xb, 0, none⟩ = some (.pointer (some ⟨sb, 0, none⟩)) := c2
          have hnum := hnum2 wr.drew (.inr rfl)
          have hw1 : IntKind.i64.wrap ((v : Nat) : Int) = (v : Int) := (by rw [IntKind.wrap_i64]; omega)
          clear hnum2 hcells hbv hnb WZ WL WO WN HW hM hs hbit FC
          have MS : Box' (∀ W, St K N W sb vb b (p + (n + 1)) out most fx → 8 * b.length + 1 - (intOf ((W.cell? ⟨sb, 1, none⟩).getD undef)).toNat < 8 * b.length + 1 - (intOf ((wr.cell? ⟨sb, 1, none⟩).getD undef)).toNat) := ⟨fun W hW => by
            obtain ⟨vo, hr, _⟩ := hW.row
            rw [HM.out, hr.cell]
            show 8 * b.length + 1 - ((p + (n + 1) : Nat) : Int).toNat < _
            have := HML.out
            omega⟩
          clear HM HML hML HNUM
          rcases Int.lt_trichotomy (get fs q v) 0 with ht | ht | ht
          · obtain ⟨s, e1, hs5, e2⟩ := HWL.out ht
            rw [e1] at HC
            have E2 := Box'.mk e2
            clear ht e1 e2 HWL HWZ HWO
            generalize fs.length = L at *
            have hsz : (-(s : Int) - 1 == 0) = false := by rw [beq_eq_false_iff_ne]; omega
            go_wp2_with fail
            go_region_with (go_at_call 28; refine hnum.mono ?_; rintro e w1 ⟨rfl, kp, st⟩; have c5 := HC.out w1 kp; obtain ⟨c6, c7⟩ := LD.out w1 kp)
            all_goals (have ST1 := Box'.mk st; have KP1 := Box'.mk kp; clear st kp c5 c6 c7)
            all_goals go_wp2_with fail
            all_goals exact ⟨⟨n + 1, ST1, KP1, .inr ⟨s, rfl, hs5, E2⟩⟩, MS.out _ ST1.out⟩
          · have e2 := HWZ.out ht
            rw [ht] at HC
            have RES : Box' (∀ w1, Kp K w w1 → Kp K w w1 ∧ (match (if T0.2.2 = 0 then Except.ok (T0.1, p + T0.2.1) else Except.error T0.2.2 : Except Int (Nat × Nat)) with
              | .ok (s, q) => flt 8 = .returned (.int .i64 (s : Int)) ∧ St K N w1 sb vb b q out most fx
              | .error x => flt 8 = flt x)) := ⟨fun w1 hk => ⟨hk, by rw [e2]; rfl⟩⟩
            clear ht e2 HWL HWZ HWO
            generalize fs.length = L at *
            go_wp2_with fail
            go_region_with (go_at_call 28; refine hnum.mono ?_; rintro e w1 ⟨rfl, kp, st⟩; have c5 := HC.out w1 kp; obtain ⟨c6, c7⟩ := LD.out w1 kp)
            all_goals (have KP1 := Box'.mk kp; have hf := fail_any 8 w1; clear st kp c5 c6 c7)
            all_goals go_wp2_with fail
            all_goals (refine hf.mono ?_; rintro e w' ⟨rfl, rfl⟩; exact ⟨rfl, RES.out _ KP1.out⟩)
          · obtain ⟨q', e1, hq0, W1⟩ := HWO.out ht
            rw [e1] at HC
            have HW1 := Box'.mk W1
            have HLT := Box'.mk W1.lt
            clear ht e1 W1 HWL HWZ HWO
            have hqz : ((q' : Int) == 0) = false := by rw [beq_eq_false_iff_ne]; omega
            clear hq0
            generalize fs.length = L at *
            go_wp2_with fail
            go_region_with (go_at_call 28; refine hnum.mono ?_; rintro e w1 ⟨rfl, kp, st⟩; have c5 := HC.out w1 kp; obtain ⟨c6, c7⟩ := LD.out w1 kp)
            all_goals (have ST1 := Box'.mk st; have KP1 := Box'.mk kp; clear st kp c5 c6 c7)
            all_goals go_wp2_with fail
            all_goals exact ⟨⟨n + 1, ST1, KP1, .inl ⟨q', rfl, HLT.out, HW1⟩⟩, MS.out _ ST1.out⟩
        · have hbn : Gf.bitAt b p n = none := by unfold Gf.bitAt; rw [if_neg hs]
          have e2 := WN.out T0 n q HW.out hbn
          have RES : Box' (∀ w1, Kp K w w1 → Kp K w w1 ∧ (match (if T0.2.2 = 0 then Except.ok (T0.1, p + T0.2.1) else Except.error T0.2.2 : Except Int (Nat × Nat)) with
              | .ok (s, q) => flt 7 = .returned (.int .i64 (s : Int)) ∧ St K N w1 sb vb b q out most fx
              | .error x => flt 7 = flt x)) := ⟨fun w1 hk => ⟨hk, by rw [e2]; rfl⟩⟩
          obtain ⟨Ag, hAg⟩ : ∃ Ag : World → Prop, Ag = fun W => St K N W sb vb b (p + n) out most fx ∧ Kp K w W := ⟨_, rfl⟩
          have AGN : Box' (∀ W, Ag W → Calls Try.prog 28 #[.pointer (some ⟨sb, 0, none⟩), .int .i64 1] W fun e w' => Kp K w w' ∧ e = flt 7) := ⟨fun W hW => by
            rw [hAg] at hW
            refine (number_any K N W sb vb b (p + n) out most fx 1 (by decide) hW.1).mono fun e w' hh => ?_
            obtain ⟨kp, ⟨h1, _⟩ | ⟨_, h2⟩⟩ := hh
            · exact absurd h1 hs
            · exact ⟨hW.2.trans kp, h2⟩⟩
          have AGC : Box' (∀ W, Ag W → W.cell? ⟨fb, 0, none⟩ = some (.slice (some ⟨g, 0, none⟩) fs.length cap) ∧ W.cell? ⟨xb, 0, none⟩ = some (.pointer (some ⟨sb, 0, none⟩))) := ⟨fun W hW => by rw [hAg] at hW; exact LD.out W hW.2⟩
          have AG0 : Box' (Ag wr.drew) := ⟨by rw [hAg]; exact ⟨ST.out.drewN 1, KP.out.drew⟩⟩
          clear hbn e2 hs hAg HW WN WZ WL WO FC ST KP LD hbit hM c1 c2
          generalize fs.length = L at *
          go_wp2_with fail
          refine wp_region_grow 7 (by kernel_rfl) (by kernel_rfl) (fun w1 w2 => w2 = w1) (fun w1 => Ag w1) (fun k w1 v => match k with
            | 0 => v = .slice (some ⟨g, 0, none⟩) L cap
            | 1 => v = .int .i64 (q : Int)
            | 2 => v = .pointer (some ⟨sb, 0, none⟩)
            | 3 => False
            | 4 => v = .pointer (some ⟨g, q * 2, none⟩)
            | 5 => False
            | 6 => False
            | _ => True) ?_ ?_ ?_ ?_ ?_
          · rintro w1 w2 rfl hA
            exact hA
          · intro k v w1 w2 hC1 hb h
            match k, h with
            | 0, h => exact h
            | 1, h => exact h
            | 2, h => exact h
            | 3, h => exact h
            | 4, h => exact h
            | 5, h => exact h
            | 6, h => exact h
            | k + 7, h => trivial
          · exact AG0.out
          · refine ⟨?_, ?_, ?_, ?_, ?_, ?_, ?_, trivial⟩
            · intro f w1 hC hd KK2 hK
              have cc := (AGC.out w1 hC).1
              simp only [List.take_succ_cons, List.take_zero, setAll, List.setIfInBounds_toArray, List.set_cons_succ, List.set_cons_zero, Nat.zero_add, Nat.reduceAdd] at hK ⊢
              refine wp_of_quiet rfl ?_
              go_big_quiet_step (fail)
              exact wpQuiet_nil (hK _ _ rfl rfl)
            · intro f w1 hC hd KK2 hK
              simp only [List.take_succ_cons, List.take_zero, setAll, List.setIfInBounds_toArray, List.set_cons_succ, List.set_cons_zero, Nat.zero_add, Nat.reduceAdd] at hK ⊢
              refine wp_of_quiet rfl ?_
              go_big_quiet_step (fail)
              exact wpQuiet_nil (hK _ _ rfl rfl)
            · intro f w1 hC hd KK2 hK
              have cc := (AGC.out w1 hC).2
              simp only [List.take_succ_cons, List.take_zero, setAll, List.setIfInBounds_toArray, List.set_cons_succ, List.set_cons_zero, Nat.zero_add, Nat.reduceAdd] at hK ⊢
              refine wp_of_quiet rfl ?_
              go_big_quiet_step (fail)
              exact wpQuiet_nil (hK _ _ rfl rfl)
            · intro f w1 hC hd KK2 hK
              have g2 : f 2 = _ := hd 2 rfl
              simp only [List.take_succ_cons, List.take_zero, setAll, List.setIfInBounds_toArray, List.set_cons_succ, List.set_cons_zero, Nat.zero_add, Nat.reduceAdd, g2] at hK ⊢
              exact wp_call_flt 28 #[.pointer (some ⟨sb, 0, none⟩), .int .i64 1] (by simp [go_sem]) 7 _ (AGN.out w1 hC) (fun w' hw' => ⟨rfl, RES.out w' hw'⟩)
            · intro f w1 hC hd KK2 hK
              have g0 : f 0 = _ := hd 0 rfl
              have g1 : f 1 = _ := hd 1 rfl
              simp only [List.take_succ_cons, List.take_zero, setAll, List.setIfInBounds_toArray, List.set_cons_succ, List.set_cons_zero, Nat.zero_add, Nat.reduceAdd, g0, g1] at hK ⊢
              refine wp_of_quiet rfl ?_
              go_big_quiet_step (fail)
              exact wpQuiet_nil (hK _ _ rfl rfl)
            · intro f w1 hC hd KK2 hK
              have g3 : False := hd 3 rfl
              exact g3.elim
            · intro f w1 hC hd KK2 hK
              have g3 : False := hd 5 rfl
              exact g3.elim
          · intro f w1 hC hv
            have g3 : False := hv 3 (by decide)
            exact g3.elim
      · have hx : bits BinOp.xor IntKind.i64 (-1) (-(s : Int) - 1) = (s : Int) := i64_not_neg s (by omega)
        have hx0 : decide (0 ≤ -(s : Int) - 1) = false := decide_eq_false (by omega)
        have hT0 := HT.out
        subst hT0
        have RES : Box' (Kp K w wr ∧ Ending.returned (.int .i64 (s : Int)) = .returned (.int .i64 (s : Int)) ∧ St K N wr sb vb b (p + n) out most fx) := ⟨KP.out, rfl, ST.out⟩
        clear ST KP HT WN WZ WL WO FC LD hbit
        generalize fs.length = L at *
        go_wp2_with fail
        go_ret
        exact ⟨RES.out.1, rfl, RES.out.2.2⟩
end Go.Proofs.Ytbnghmeeddjaoaa
