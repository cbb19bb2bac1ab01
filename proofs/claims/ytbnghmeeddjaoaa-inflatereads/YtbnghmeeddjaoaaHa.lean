/- The walk of blocks. -/
import Derived.Test.YtbnghmeeddjaoaaFz
namespace Go.Proofs.Ytbnghmeeddjaoaa
open Go.RowKit Go.BigFrame Gt

theorem St.back2 {K K' : Nat → Prop} {N : Nat} {w w' : World} {sb : Nat} {vb : Value} {b : List UInt8} {p p' : Nat} {out out' : List UInt8} {most : Nat} {fx fx' : Value} (h : St K N w sb vb b p out most fx) (h' : St K' N w' sb vb b p' out' most fx') (kp : Kp K w w') : St K N w' sb vb b p' out' most fx' :=
  ⟨h'.row, kt_keep h.kt kp.block, h.bts.keep fun g hg => ⟨hg, kp.block g hg⟩, h.sbK, fun k hk => Nat.lt_of_lt_of_le (h.kl k hk) kp.size, h'.bl, h'.pl, h'.ol, h'.ml, h'.nl⟩
theorem BEnds.cases {K : Nat → Prop} {N : Nat} {w w' : World} {sb : Nat} {vb : Value} {b : List UInt8} {most : Nat} {r : Except Int (Nat × List UInt8)} {e : Ending} (h : BEnds K N w sb vb b most r e w') :
    Kp K w w' ∧ ((∃ q o K' fx, r = .ok (q, o) ∧ e = .returned (.tuple #[]) ∧ (∀ k, K k → K' k) ∧ FxOk K' w' sb fx ∧ St K' N w' sb vb b q o most fx) ∨ (∃ x, r = .error x ∧ e = flt x)) := by
  obtain ⟨kp, h⟩ := h
  refine ⟨kp, ?_⟩
  cases r with
  | error x => exact .inr ⟨x, rfl, h⟩
  | ok sq => obtain ⟨h1, K', fx, h2, h3, h4⟩ := h; exact .inl ⟨sq.1, sq.2, K', fx, rfl, h1, h2, h3, h4⟩
/-- How all blocks end: an errno, and the stream behind the last one. -/
def LEnds (K : Nat → Prop) (N : Nat) (w : World) (sb : Nat) (vb : Value) (b : List UInt8) (most : Nat) (r : Except Int (Nat × List UInt8)) (e : Ending) (w' : World) : Prop :=
  Kp K w w' ∧ match r with
    | .ok (p, out) => e = .returned (.int .i64 0) ∧ ∃ fx, St K N w' sb vb b p out most fx
    | .error x => e = .returned (.int .i64 x)
theorem LEnds.bad {K : Nat → Prop} {N : Nat} {w w' : World} {sb : Nat} {vb : Value} {b : List UInt8} {most : Nat} {r : Except Int (Nat × List UInt8)} {x : Int} (h : r = .error x) (kp : Kp K w w') : LEnds K N w sb vb b most r (.returned (.int .i64 x)) w' := by subst h; exact ⟨kp, rfl⟩
theorem LEnds.good {K : Nat → Prop} {N : Nat} {w w' : World} {sb : Nat} {vb : Value} {b : List UInt8} {most : Nat} {fx : Value} {r : Except Int (Nat × List UInt8)} {p : Nat} {out : List UInt8} (h : r = .ok (p, out)) (kp : Kp K w w') (st : St K N w' sb vb b p out most fx) : LEnds K N w sb vb b most r (.returned (.int .i64 0)) w' := by subst h; exact ⟨kp, rfl, fx, st⟩

def mz (v : Value) (n : Nat) : Nat := match v with
  | .bool true => 0
  | _ => n + 1
theorem blocks_step (b : List UInt8) (most f p : Nat) (out : List UInt8) : Box' (blocksF b most (f + 1) p out = if p + 1 ≤ 8 * b.length then
      match blockF b most (p + 1) out with
      | .error x => .error x
      | .ok (q, o) => if nbr b p 1 = 1 then .ok (q, o) else blocksF b most f q o
    else .error 7) := ⟨rfl⟩
theorem results18 (T : Array Value) (rb : Nat) (x : Int) (w : World) (hT : T.getD 2 undef = .pointer (some ⟨rb, 0, none⟩)) (hc : w.cell? ⟨rb, 0, none⟩ = some (.int .i64 x)) : (results Try.f18 T).run Try.prog w = .ok (.int .i64 x) w := by
  have hT' : T[2]?.getD undef = .pointer (some ⟨rb, 0, none⟩) := by simpa using hT
  unfold results
  simp [go_sem, Try.results18, hT', hc]
set_option maxRecDepth 100000 in
set_option maxHeartbeats 4000000 in
theorem blocks_any (K : Nat → Prop) (N : Nat) (w : World) (sb : Nat) (vb : Value) (b : List UInt8) (p : Nat) (out : List UInt8) (most : Nat) (h : St K N w sb vb b p out most (.pointer none)) :
    Calls Try.prog 18 #[.pointer (some ⟨sb, 0, none⟩)] w (LEnds K N w sb vb b most (blocksF b most (8 * b.length + 1) p out)) := by
  have hmf : ∀ (fn : Fn) (first cap : Array Value) (w : World), (Instr.makeFunc fn first cap).run Try.prog w = .ok (.func fn first cap) w := fun _ _ _ _ => rfl
  obtain ⟨w0, hw0⟩ : ∃ w0, w0 = w.alloc (.cells #[.int .i64 0] 23) := ⟨_, rfl⟩
  have rt : Row w0 w.heap.size 23 #[.int .i64 0] := by rw [hw0]; exact Row.new _ _ _
  have hsbl : sb < w.heap.size := by obtain ⟨vo, hr, _⟩ := h.row; exact hr.lt
  have st0 : St (fun k => K k ∨ k = w.heap.size) N w0 sb vb b p out most (.pointer none) := St.more (by rw [hw0]; exact h.alloc _) w.heap.size rt (by decide) (by omega)
  have kp0 : Kp K w w0 := by rw [hw0]; exact Kp.below ((Below.refl _ _).alloc (Nat.le_refl _) _) h.kl
  have BP : Box' (∀ w', Kp (fun k => K k ∨ k = w.heap.size) w0 w' → Kp K w w') := ⟨fun w' kp => kp0.trans (kp.less fun _ hk => .inl hk)⟩
  have RT : Box' (∀ w', Kp (fun k => K k ∨ k = w.heap.size) w0 w' → Row w' w.heap.size 23 #[.int .i64 0]) := ⟨fun w' kp => rt.same (kp.block w.heap.size (.inr rfl))⟩
  have HNK : Box' (¬ K w.heap.size) := ⟨fun hk => Nat.lt_irrefl _ (h.kl _ hk)⟩
  have HSB := Box'.mk hsbl
  have HH := Box'.mk h
  have BS := Box'.mk (blocks_step b most)
  obtain ⟨R0, hR0⟩ : ∃ R0, R0 = blocksF b most (8 * b.length + 1) p out := ⟨_, rfl⟩
  rw [← hR0]
  have HR0 := Box'.mk hR0
  have ST0 := Box'.mk st0
  have UB := Box'.mk (up_block b most)
  generalize (fun k => K k ∨ k = w.heap.size) = K1 at *
  have DOOR : Box' (∀ x w1, R0 = .error x → Kp K1 w0 w1 → LEnds K N w sb vb b most R0 (.returned (.int .i64 x)) ((w1.setCell ⟨w.heap.size, 0, none⟩ (.int .i64 x)).alloc (.cells #[.int .i64 x] 60))) := ⟨fun x w1 hx kp => LEnds.bad hx (by
    have k1 := (BP.out w1 kp).setCell w.heap.size 0 HNK.out (.int .i64 x)
    refine k1.trans (Kp.below ((Below.refl _ _).alloc (Nat.le_refl _) _) fun k hk => ?_)
    have := HH.out.kl k hk
    have := k1.size
    omega)⟩
  clear h rt hsbl st0 kp0 hR0
  go_enter_defers Try.func18, Try.ntmps18
  go_wp2_with fail
  rw [← hw0]
  clear hw0
  generalize hrb : w.heap.size = rb at *
  clear hrb
  go_loopw [3] (fun l wr => ∃ (f p' : Nat) (o : List UInt8) (K' : Nat → Prop) (fx : Value), Box' (∀ k, K1 k → K' k) ∧ Box' (FxOk K' wr sb fx) ∧ Box' (St K' N wr sb vb b p' o most fx) ∧ Box' (Kp K1 w0 wr) ∧ ((l = .bool false ∧ Box' (R0 = blocksF b most f p' o ∧ 8 * b.length + 1 ≤ p' + f)) ∨ (l = .bool true ∧ Box' (R0 = .ok (p', o))))) (fun l wr => mz l (8 * b.length + 1 - (intOf ((wr.cell? ⟨sb, 1, none⟩).getD undef)).toNat))
  case atStart => exact ⟨8 * b.length + 1, p, out, K1, .pointer none, ⟨fun _ hk => hk⟩, ⟨.inl rfl⟩, ST0, ⟨Kp.refl _ _⟩, .inl ⟨rfl, ⟨HR0.out, by omega⟩⟩⟩
  case round =>
    clear HR0 ST0
    obtain ⟨f, p', o, K', fx, HK, HF, ST, KP, ⟨rfl, HE⟩ | ⟨rfl, HE⟩⟩ := hrel
    · have hpl := ST.out.pl
      obtain ⟨f', rfl⟩ : ∃ f', f = f' + 1 := ⟨f - 1, by have := HE.out.2; omega⟩
      have EK := HE.out.1
      rw [(BS.out f' p' o).out] at EK
      have EKB := Box'.mk EK
      have HM0 : Box' ((intOf ((wr.cell? ⟨sb, 1, none⟩).getD undef)).toNat = p' ∧ 8 * b.length + 1 ≤ p' + (f' + 1)) := ⟨by
        obtain ⟨vo, hr, _⟩ := ST.out.row
        rw [hr.cell]; rfl, HE.out.2⟩
      have nm := number_any K' N wr sb vb b p' o most fx 1 (by decide) ST.out
      have hv2 : nbr b p' 1 < 2 := nbr_lt b p' 1
      clear EK HE
      generalize nbr b p' 1 = v at *
      go_wp2_with fail
      refine nm.mono ?_
      clear nm
      rintro e w1 ⟨kp1, ⟨h1, rfl, st1⟩ | ⟨h1, rfl⟩⟩
      case inr =>
        have e0 : R0 = .error 7 := by rw [EKB.out, if_neg h1]
        have kp := KP.out.trans (kp1.less HK.out)
        have r1 := RT.out w1 kp
        refine leaves_cons (f := 27) (args := #[.pointer (some ⟨rb, 0, none⟩)]) (by simp) (by simp [go_sem]) ?_
        refine (catch_flt rb 7 0 w1 r1.lt (by rw [r1.cell]; rfl) (r1.frozen 0)).mono ?_
        rintro e u' w'' ⟨rfl, rfl, rfl⟩
        have D := DOOR.out 7 w1 e0 kp
        have rc := (r1.setCell 0 (.int .i64 7)).alloc (.cells #[.int .i64 7] 60)
        exact (show ∃ v, (results Try.f18 _).run Try.prog _ = .ok v _ ∧ LEnds K N w sb vb b most R0 (.returned v) _ from ⟨_, results18 _ rb 7 _ rfl (by rw [rc.cell]; rfl), D⟩)
      have EK := EKB.out
      rw [if_pos h1] at EK
      have EKC := Box'.mk EK
      have bk := block_any K' N w1 sb vb b (p' + 1) o most fx (HF.out.keep kp1) st1
      have KP1 := Box'.mk (KP.out.trans (kp1.less HK.out))
      clear EK EKB kp1 st1 h1 KP ST HF
      go_wp2_with fail
      refine bk.mono ?_
      clear bk
      intro e w2 hh
      obtain ⟨kp2, ⟨q, o2, K2, fx2, hr, rfl, hK2, hf2, st2⟩ | ⟨x, hr, rfl⟩⟩ := hh.cases
      case inr =>
        have e0 : R0 = .error x := by rw [EKC.out, hr]
        have kp := KP1.out.trans (kp2.less HK.out)
        have r1 := RT.out w2 kp
        refine leaves_cons (f := 27) (args := #[.pointer (some ⟨rb, 0, none⟩)]) (by simp) (by simp [go_sem]) ?_
        refine (catch_flt rb x 0 w2 r1.lt (by rw [r1.cell]; rfl) (r1.frozen 0)).mono ?_
        rintro e u' w'' ⟨rfl, rfl, rfl⟩
        have D := DOOR.out x w2 e0 kp
        have rc := (r1.setCell 0 (.int .i64 x)).alloc (.cells #[.int .i64 x] 60)
        exact (show ∃ v, (results Try.f18 _).run Try.prog _ = .ok v _ ∧ LEnds K N w sb vb b most R0 (.returned v) _ from ⟨_, results18 _ rb x _ rfl (by rw [rc.cell]; rfl), D⟩)
      case inl =>
        have hup := UB.out (p' + 1) o
        rw [hr] at hup
        have hup : p' + 1 ≤ q := hup
        have EK := EKC.out
        rw [hr] at EK
        have EK2 : R0 = if v = 1 then .ok (q, o2) else blocksF b most f' q o2 := EK
        have KP2 := Box'.mk (KP1.out.trans (kp2.less HK.out))
        have HK2 : Box' (∀ k, K1 k → K2 k) := ⟨fun k hk => hK2 k (HK.out k hk)⟩
        have HF2 := Box'.mk hf2
        have ST2 := Box'.mk st2
        have HMM : Box' (8 * b.length + 1 - (intOf ((w2.cell? ⟨sb, 1, none⟩).getD undef)).toNat < 8 * b.length + 1 - (intOf ((wr.cell? ⟨sb, 1, none⟩).getD undef)).toNat) := ⟨by
          obtain ⟨vo, hr, _⟩ := st2.row
          have hql := st2.pl
          rw [HM0.out.1, hr.cell]
          show 8 * b.length + 1 - ((q : Int)).toNat < _
          omega⟩
        by_cases hv1 : v = 1
        · subst hv1
          have e1 : R0 = .ok (q, o2) := by rw [EK2]; rfl
          have E1 := Box'.mk e1
          clear EK EK2 EKC hr hh kp2 hK2 hf2 st2 KP1 HK e1 hup
          go_wp2_with fail
          exact ⟨⟨0, q, o2, K2, fx2, HK2, HF2, ST2, KP2, .inr ⟨rfl, E1⟩⟩, by show 0 < _ + 1; omega⟩
        · rw [if_neg hv1] at EK2
          have E1 : Box' (R0 = blocksF b most f' q o2 ∧ 8 * b.length + 1 ≤ q + f') := ⟨EK2, by have := HM0.out.2; omega⟩
          have hv0 : ((v : Int) == 1) = false := by rw [beq_eq_false_iff_ne]; omega
          clear EK EK2 EKC hr hh kp2 hK2 hf2 st2 KP1 HK hup hv1
          go_wp2_with fail
          exact ⟨⟨f', q, o2, K2, fx2, HK2, HF2, ST2, KP2, .inl ⟨rfl, E1⟩⟩, by show _ + 1 < _ + 1; have := HMM.out; omega⟩
    · have r1 := RT.out wr KP.out
      have c0 : wr.cell? ⟨rb, 0, none⟩ = some (.int .i64 0) := by rw [r1.cell]; rfl
      have f0 := r1.frozen 0
      have kpK := BP.out _ KP.out
      have stK := HH.out.back2 ST.out kpK
      have hrs : rb ≠ sb := by have := HSB.out; omega
      have RES := Box'.mk (LEnds.good HE.out (kpK.setCell rb 0 HNK.out (.int .i64 0)) (stK.other rb 0 (.int .i64 0) r1 (by decide) hrs HNK.out))
      have rc := Box'.mk (r1.setCell 0 (.int .i64 0))
      clear r1 kpK stK hrs ST KP HE HF HK
      go_wp2_with fail
      refine leaves_cons (f := 27) (args := #[.pointer (some ⟨rb, 0, none⟩)]) (by simp) (by simp [go_sem]) ?_
      refine (catch_idle ⟨rb, 0, none⟩ _).mono ?_
      rintro e u' w'' ⟨rfl, rfl, rfl⟩
      exact (show ∃ v, (results Try.f18 _).run Try.prog _ = .ok v _ ∧ LEnds K N w sb vb b most R0 (.returned v) _ from ⟨_, results18 _ rb 0 _ rfl (by rw [rc.out.cell]; rfl), RES.out⟩)
end Go.Proofs.Ytbnghmeeddjaoaa
