/- The walk of turn. -/
import Derived.Test.YtmolhljgmaoflaaDoorOm2
import Derived.OwnWalk
namespace Go.Proofs.YtmolhljgmaoflaaDoor
open Go.RowKit Go.BigFrame

def Gf.padded (l pad : List UInt8) (k : Nat) : List UInt8 := (List.range k).map fun i => Gf.bx (l.getD i 0) (pad.getD i 0)
def Gf.turnFromN (F : List UInt8 → List UInt8) (key l0 : List UInt8) : Nat → Nat → List UInt8 → List UInt8 → List UInt8 × List UInt8
  | 0, _, o, _ => ([], o)
  | f + 1, i, o, l => if 16 ≤ l.length then (Gf.bxor (F (Gf.bxor (l.take 16) (Gf.bxor o (Gf.ell l0 (2 + Gf.ntz i))))) (Gf.bxor o (Gf.ell l0 (2 + Gf.ntz i))) ++ (Gf.turnFromN F key l0 f (i + 1) (Gf.bxor o (Gf.ell l0 (2 + Gf.ntz i))) (l.drop 16)).1, (Gf.turnFromN F key l0 f (i + 1) (Gf.bxor o (Gf.ell l0 (2 + Gf.ntz i))) (l.drop 16)).2) else if 0 < l.length then (Gf.padded l (Gf.encrypt key (Gf.bxor o (Gf.ell l0 0))) l.length, Gf.bxor o (Gf.ell l0 0)) else ([], o)
theorem Gf.turnFromN_more (F : List UInt8 → List UInt8) (key l0 : List UInt8) (f g : Nat) (i : Nat) (o : List UInt8) (l : List UInt8) (hf : l.length < f) (hg : l.length < g) : Gf.turnFromN F key l0 f i o l = Gf.turnFromN F key l0 g i o l := by
  induction f generalizing g i o l with
  | zero => omega
  | succ f ih =>
    cases g with
    | zero => omega
    | succ g =>
      rw [Gf.turnFromN, Gf.turnFromN]
      by_cases h : 16 ≤ l.length
      · rw [if_pos h, if_pos h, ih g (i + 1) (Gf.bxor o (Gf.ell l0 (2 + Gf.ntz i))) (l.drop 16) (by rw [List.length_drop]; omega) (by rw [List.length_drop]; omega)]
      · rw [if_neg h, if_neg h]
def Gf.turnFrom (F : List UInt8 → List UInt8) (key l0 : List UInt8) (i : Nat) (o : List UInt8) (l : List UInt8) : List UInt8 × List UInt8 := Gf.turnFromN F key l0 (l.length + 1) i o l
theorem Gf.turnFrom_eq (F : List UInt8 → List UInt8) (key l0 : List UInt8) (i : Nat) (o : List UInt8) (l : List UInt8) : Gf.turnFrom F key l0 i o l = if _h : 16 ≤ l.length then (Gf.bxor (F (Gf.bxor (l.take 16) (Gf.bxor o (Gf.ell l0 (2 + Gf.ntz i))))) (Gf.bxor o (Gf.ell l0 (2 + Gf.ntz i))) ++ (Gf.turnFrom F key l0 (i + 1) (Gf.bxor o (Gf.ell l0 (2 + Gf.ntz i))) (l.drop 16)).1, (Gf.turnFrom F key l0 (i + 1) (Gf.bxor o (Gf.ell l0 (2 + Gf.ntz i))) (l.drop 16)).2) else if 0 < l.length then (Gf.padded l (Gf.encrypt key (Gf.bxor o (Gf.ell l0 0))) l.length, Gf.bxor o (Gf.ell l0 0)) else ([], o) := by
  rw [Gf.turnFrom, Gf.turnFromN]
  by_cases h : 16 ≤ l.length
  · rw [if_pos h, dif_pos h, Gf.turnFrom, Gf.turnFromN_more _ _ _ l.length ((l.drop 16).length + 1) (i + 1) (Gf.bxor o (Gf.ell l0 (2 + Gf.ntz i))) (l.drop 16) (by rw [List.length_drop]; omega) (by omega)]
  · rw [if_neg h, dif_neg h]
theorem Gf.turnFrom_ind {l0 : List UInt8} {motive : Nat → List UInt8 → List UInt8 → Prop} (case1 : ∀ (i : Nat) (o : List UInt8) (l : List UInt8), 16 ≤ l.length → motive (i + 1) (Gf.bxor o (Gf.ell l0 (2 + Gf.ntz i))) (l.drop 16) → motive i o l)
    (case2 : ∀ (i : Nat) (o : List UInt8) (l : List UInt8), ¬ 16 ≤ l.length → 0 < l.length → motive i o l) (case3 : ∀ (i : Nat) (o : List UInt8) (l : List UInt8), ¬ 16 ≤ l.length → ¬ 0 < l.length → motive i o l) (i : Nat) (o : List UInt8) (l : List UInt8) : motive i o l := by
  obtain ⟨n, hn⟩ : ∃ n, l.length < n := ⟨l.length + 1, by omega⟩
  induction n generalizing i o l with
  | zero => omega
  | succ n ih =>
    by_cases h : 16 ≤ l.length
    · exact case1 i o l h (ih (i + 1) (Gf.bxor o (Gf.ell l0 (2 + Gf.ntz i))) (l.drop 16) (by rw [List.length_drop]; omega))
    · by_cases hp : 0 < l.length
      · exact case2 i o l h hp
      · exact case3 i o l h hp
theorem Gf.turnFrom_len (F : List UInt8 → List UInt8) (key l0 : List UInt8) (i : Nat) (o l : List UInt8) (h : o.length = 16) : (Gf.turnFrom F key l0 i o l).1.length = l.length ∧ (Gf.turnFrom F key l0 i o l).2.length = 16 := by
  induction i, o, l using Gf.turnFrom_ind (l0 := l0) with
  | case1 i o l h16 ih =>
    rw [Gf.turnFrom_eq, dif_pos h16]
    have := ih (Gf.bxor_len _ _)
    refine ⟨?_, this.2⟩
    rw [List.length_append, Gf.bxor_len, this.1, List.length_drop]; omega
  | case2 i o l h16 hp => rw [Gf.turnFrom_eq, dif_neg h16, if_pos hp]; exact ⟨by simp [Gf.padded], Gf.bxor_len _ _⟩
  | case3 i o l h16 hp => rw [Gf.turnFrom_eq, dif_neg h16, if_neg hp]; exact ⟨by simp; omega, h⟩

/-- Bytes that a call has put into a row of its own. -/
def Buf (w : World) (g cap : Nat) (d : List UInt8) : Prop := w.ownsRow 0 5 1 (.slice (some ⟨g, 0, none⟩) d.length cap) d.length (d.map B)
theorem Buf.same {w w' : World} {g cap : Nat} {d : List UInt8} (h : Buf w g cap d) (hs : w'.heap[g]? = w.heap[g]?) : Buf w' g cap d := by
  refine ⟨h.1, ?_⟩
  rcases h.2 with ⟨e, _⟩ | ⟨g1, c1, cur, e1, e2, e3, e4⟩
  · cases e
  · have e1' := e1
    injection e1 with q1; injection q1 with q1; injection q1 with q1
    subst q1
    exact .inr ⟨g, c1, cur, e1', e2, by rw [hs]; exact e3, e4⟩
theorem Buf.range {w : World} {g cap : Nat} {d : List UInt8} (h : Buf w g cap d) : w.rangeAt g 0 (d.map B) := fun j v hv => by
  have := World.ownsRow.cells h (g := g) rfl j v hv
  rw [Addr.add_mid] at this; exact this
theorem Row.same {w w' : World} {b : Nat} {t : TypeId} {c : Array Value} (h : Row w b t c) (hs : w'.heap[b]? = w.heap[b]?) : Row w' b t c := by unfold Row at *; rw [hs]; exact h
theorem Room.same {w w' : World} {b : Nat} {t : TypeId} {n : Nat} (h : Room w b t n) (hs : w'.heap[b]? = w.heap[b]?) : Room w' b t n := let ⟨c, h1, h2⟩ := h; ⟨c, h1.same hs, h2⟩
section
variable {mb : Nat} {l0 : List UInt8} {w w' : World}
theorem Msk.grown {p bb : Nat} (hp : Sf mb l0 w p) (hg : w.grownBy w' (some p)) (hm : Msk mb l0 w bb) : Msk mb l0 w' bb :=
  hm.same hg.size (hg.block mb hm.mlt (by simp; exact Ne.symm hp.ne)) (hg.block bb hm.lt (by simp; exact Ne.symm (hp.off bb hm)))
theorem Sf.grown {p q : Nat} (hp : Sf mb l0 w p) (hg : w.grownBy w' (some p)) (hq : Sf mb l0 w q) : Sf mb l0 w' q := by
  obtain ⟨bb, hm⟩ := hp.is
  have m' := hm.grown hp hg
  exact ⟨by have := hq.lt; have := hg.size; omega, hq.ne, fun b2 m2 => by rw [← m'.one m2]; exact hq.off bb hm, bb, m'⟩
theorem Gm.grown {a : World} {p : Nat} (g : Gm mb l0 a w) (hp : Sf mb l0 w p) (ha : a.heap.size ≤ p) (hg : w.grownBy w' (some p)) : Gm mb l0 a w' := by
  refine ⟨hg.os.trans g.os, hg.tape.trans g.tape, hg.output.trans g.output, Nat.le_trans g.size hg.size, fun bb hm => ?_⟩
  obtain ⟨b1, m1, e1, k1⟩ := g.to bb hm
  have := g.size
  exact ⟨b1, m1.grown hp hg, e1, fun k hk h1 h2 => by rw [hg.block k (by omega) (by simp; omega)]; exact k1 k hk h1 h2⟩
theorem Tab.same (h : Tab w) (hs : w'.heap[1]? = w.heap[1]?) (hz : w.heap.size ≤ w'.heap.size) : Tab w' := by
  refine ⟨fun k hk => ?_, by have := h.lt; omega⟩
  have := h.cell k hk
  simp only [World.cell?, hs] at *
  exact this
end
/-- What stands while a text is turned. -/
structure UE (mb : Nat) (l0 key : List UInt8) (N cap : Nat) (w0 w : World) (o d : List UInt8) : Prop where
  kk : Row w N 23 (ag key)
  ro : Row w (N + 1) 23 (ag o)
  rr : Room w (N + 1 + 1) 23 16
  bu : Buf w (N + 1 + 1 + 1) cap d
  tb : Tab w
  s1 : Sf mb l0 w 1
  f0 : Sf mb l0 w N
  f1 : Sf mb l0 w (N + 1)
  f2 : Sf mb l0 w (N + 1 + 1)
  f3 : Sf mb l0 w (N + 1 + 1 + 1)
  g : Gm mb l0 w0 w
  n1 : 1 < N
  nz : w0.heap.size = N
section
variable {mb : Nat} {l0 key : List UInt8} {N cap : Nat} {w0 w w' : World} {o d : List UInt8}
theorem UE.go (h : UE mb l0 key N cap w0 w o d) (g : Gm mb l0 w w') : UE mb l0 key N cap w0 w' o d :=
  ⟨h.f0.row g h.kk, h.f1.row g h.ro, h.f2.room g h.rr, h.bu.same (h.f3.keep g).2, h.tb.go h.s1 g, h.s1.go g, h.f0.go g, h.f1.go g, h.f2.go g, h.f3.go g, h.g.trans g, h.n1, h.nz⟩
theorem UE.setO (h : UE mb l0 key N cap w0 w o d) (o' : List UInt8) : UE mb l0 key N cap w0 (w.setRow (N + 1) (ag o')) o' d := by
  have := h.n1
  have := h.nz
  exact ⟨h.kk.setRowOther _ _ (by omega), h.ro.setRow _, h.rr.setRowOther _ _ (by omega), h.bu.same (setRow_other _ _ _ _ (by omega)), h.tb.set _ (by omega) _, h.f1.set h.s1 _, h.f1.set h.f0 _, h.f1.set h.f1 _, h.f1.set h.f2 _, h.f1.set h.f3 _, h.g.setRow h.f1 (by omega) _, h.n1, h.nz⟩
theorem UE.set (h : UE mb l0 key N cap w0 w o d) (p : Nat) (hp : Sf mb l0 w p) (hN : N + 1 + 1 + 1 < p) (c : Array Value) : UE mb l0 key N cap w0 (w.setRow p c) o d := by
  have := h.n1
  have := h.nz
  exact ⟨h.kk.setRowOther _ _ (by omega), h.ro.setRowOther _ _ (by omega), h.rr.setRowOther _ _ (by omega), h.bu.same (setRow_other _ _ _ _ (by omega)), h.tb.set _ (by omega) _, hp.set h.s1 _, hp.set h.f0 _, hp.set h.f1 _, hp.set h.f2 _, hp.set h.f3 _, h.g.setRow hp (by omega) _, h.n1, h.nz⟩
theorem UE.app (h : UE mb l0 key N cap w0 w o d) (hg : w.grownBy w' (some (N + 1 + 1 + 1))) (d' : List UInt8) (hb : Buf w' (N + 1 + 1 + 1) cap d') : UE mb l0 key N cap w0 w' o d' := by
  have := h.n1
  have := h.nz
  have hk : ∀ b, Sf mb l0 w b → b ≠ N + 1 + 1 + 1 → w'.heap[b]? = w.heap[b]? := fun b hs hne => hg.block b hs.lt (by simp; exact hne)
  exact ⟨h.kk.same (hk _ h.f0 (by omega)), h.ro.same (hk _ h.f1 (by omega)), h.rr.same (hk _ h.f2 (by omega)), hb, h.tb.same (hk _ h.s1 (by omega)) hg.size, h.f3.grown hg h.s1, h.f3.grown hg h.f0, h.f3.grown hg h.f1, h.f3.grown hg h.f2, h.f3.grown hg h.f3, h.g.grown h.f3 (by omega) hg, h.n1, h.nz⟩
theorem Bts.app {v : Value} {l : List UInt8} {p : Nat} (h : Bts (Old mb l0 N w) w v l) (hp : Sf mb l0 w p) (hN : N ≤ p) (hg : w.grownBy w' (some p)) : Bts (Old mb l0 N w') w' v l :=
  h.keep fun b hb => ⟨⟨hp.grown hg hb.1, hb.2⟩, hg.block b hb.1.lt (by simp; have := hb.2; omega)⟩
end

set_option maxRecDepth 100000 in
set_option maxHeartbeats 4000000 in
theorem turn_any (fn : Nat) (hfn : ∀ args w, (callFunc fn args).run Tryd.prog w = .ok (.enter fn args) w) (F : List UInt8 → List UInt8) (mb : Nat) (l0 key off : List UInt8) (hF : ∀ b, b.length = 16 → (F b).length = 16 ∧ ∀ w, Calls Tryd.prog fn #[.agg (ag key), .agg (ag b)] w fun e w' => e = .returned (.agg (ag (F b))) ∧ Below w.heap.size w w')
    (hl0 : l0.length = 16) (hkey : key.length = 16) (hoff : off.length = 16) (vv : Value) (l : List UInt8) (hmax : l.length ≤ 65536) (w : World) (ht : Tab w) (hs1 : Sf mb l0 w 1) (hB : Bts (Sf mb l0 w) w vv l) :
    Calls Tryd.prog 21 #[.agg (ag key), .func (.func fn) #[] #[], mskFn mb, .agg (ag off), vv] w fun e w' => ∃ g, e = .returned (.tuple #[.slice (some ⟨g, 0, none⟩) l.length (l.length + 16), .agg (ag (Gf.turnFrom F key l0 1 off l).2)]) ∧ Buf w' g (l.length + 16) (Gf.turnFrom F key l0 1 off l).1 ∧ Sf mb l0 w' g ∧ w.heap.size ≤ g ∧ Gm mb l0 w w' := by
  have lRR := Gf.turnFrom_len F key l0 1 off l hoff
  obtain ⟨R1, hR1⟩ : ∃ R1, (Gf.turnFrom F key l0 1 off l).1 = R1 := ⟨_, rfl⟩
  obtain ⟨R2, hR2⟩ : ∃ R2, (Gf.turnFrom F key l0 1 off l).2 = R2 := ⟨_, rfl⟩
  rw [hR1, hR2] at lRR
  rw [hR1, hR2]
  have hR : Box' ([] ++ (Gf.turnFrom F key l0 1 off l).1 = R1 ∧ (Gf.turnFrom F key l0 1 off l).2 = R2) := ⟨by rw [List.nil_append]; exact hR1, hR2⟩
  clear hR1 hR2
  obtain ⟨n0, hn0⟩ : ∃ n0, l.length = n0 := ⟨_, rfl⟩
  have hBc := hB
  obtain ⟨a0, c0, rfl, hcap0, _⟩ := hBc
  rw [hn0] at lRR hmax hcap0 hB
  rw [hn0]
  obtain ⟨i5, hi5, hz5, hs5, hb5⟩ : ∃ i, Tryd.prog.info? 5 = some i ∧ i.zero = some (.int .u8 0) ∧ i.size = 1 ∧ i.bytes = 1 := ⟨_, rfl, by kernel_rfl, by kernel_rfl, by kernel_rfl⟩
  go_enter Tryd.func21, Tryd.ntmps21
  go_wp2_with (refine wpList_make_own _ rfl _ (.tmp 20) 24 rfl 0 5 i5 _ 1 Tryd.underlying24 hi5 hz5 hs5 _ _ _ (n0 + 16) rfl rfl (show ((n0 : Int) + 16) = ((n0 + 16 : Nat) : Int) by omega) (by rw [hb5]; omega) (by unfold maxLen; omega) (Nat.zero_le _) (fun W hown hgr => ?_))
  have hd : UE mb l0 key w.heap.size (n0 + 16) w W off [] ∧ Bts (Old mb l0 w.heap.size W) W (.slice a0 n0 c0) l := by
    obtain ⟨bb, hm⟩ := hs1.is
    have hlt := ht.lt
    have b0 : Below w.heap.size w (((w.alloc (.cells (ag key) 23)).alloc (.cells (ag off) 23)).alloc (.cells (ag (Gf.zeros 16)) 23)) := (((Below.refl _ _).alloc (Nat.le_refl _) _).alloc (by simp) _).alloc (by simp; omega) _
    have k0 : Row (((w.alloc (.cells (ag key) 23)).alloc (.cells (ag off) 23)).alloc (.cells (ag (Gf.zeros 16)) 23)) w.heap.size 23 (ag key) := ((Row.new _ _ _).alloc _).alloc _
    have k1 : Row (((w.alloc (.cells (ag key) 23)).alloc (.cells (ag off) 23)).alloc (.cells (ag (Gf.zeros 16)) 23)) (w.heap.size + 1) 23 (ag off) := (Row.made _ _ _ _ _ rfl (by simp)).alloc _
    have k2 : Room (((w.alloc (.cells (ag key) 23)).alloc (.cells (ag off) 23)).alloc (.cells (ag (Gf.zeros 16)) 23)) (w.heap.size + 1 + 1) 23 16 := Room.made _ _ _ _ _ rfl (by simp)
    have hz0 : (((w.alloc (.cells (ag key) 23)).alloc (.cells (ag off) 23)).alloc (.cells (ag (Gf.zeros 16)) 23)).heap.size = w.heap.size + 1 + 1 + 1 := by simp
    have hgr' : (((w.alloc (.cells (ag key) 23)).alloc (.cells (ag off) 23)).alloc (.cells (ag (Gf.zeros 16)) 23)).grownBy W none := hgr
    have hown' : W.ownsRow 0 5 1 (.slice (some ⟨(((w.alloc (.cells (ag key) 23)).alloc (.cells (ag off) 23)).alloc (.cells (ag (Gf.zeros 16)) 23)).heap.size, 0, none⟩) 0 (n0 + 16)) 0 [] := hown
    rw [hz0] at hown'
    have hbw : Below w.heap.size w W := b0.grown hgr' (by rw [hz0]; omega) (fun k hk => by cases hk)
    have g1 : Gm mb l0 w W := Gm.of hbw
    have hsame : ∀ k, k < w.heap.size + 1 + 1 + 1 → W.heap[k]? = (((w.alloc (.cells (ag key) 23)).alloc (.cells (ag off) 23)).alloc (.cells (ag (Gf.zeros 16)) 23)).heap[k]? := fun k hk => hgr'.block k (by rw [hz0]; exact hk) (by simp)
    obtain ⟨b2, m2, e2, _⟩ := g1.to bb hm
    have hme := hm.mlt
    have hbe : b2 < w.heap.size := by
      have := (hm.same hbw.size (hbw.block mb hm.mlt) (hbw.block bb hm.lt)).one m2
      have := hm.lt
      omega
    have hgl : w.heap.size + 1 + 1 + 1 < W.heap.size := (hown'.lt _ rfl).2
    have hf : ∀ k, w.heap.size ≤ k → k < W.heap.size → Sf mb l0 W k := fun k h1 h2 => ⟨h2, by omega, fun b3 m3 => by rw [← m2.one m3]; omega, b2, m2⟩
    exact ⟨⟨k0.same (hsame _ (by omega)), k1.same (hsame _ (by omega)), k2.same (hsame _ (by omega)), hown', ht.below hbw hlt, hs1.go g1, hf _ (by omega) (by omega), hf _ (by omega) (by omega), hf _ (by omega) (by omega), hf _ (by omega) (by omega), g1, hlt, rfl⟩, hB.keep fun b h => ⟨⟨h.go g1, h.lt⟩, (h.keep g1).2⟩⟩
  clear hown hgr hB ht hs1
  obtain ⟨hd1, hd2⟩ := hd
  generalize hN : w.heap.size = N at *
  go_loopw [4, 12, 13] (fun s q c wr => ∃ (i : Nat) (l o d : List UInt8), c = .int .i64 (i : Int) ∧ 0 < i ∧ i + l.length ≤ 200000 ∧ q = .slice (some ⟨N + 1 + 1 + 1, 0, none⟩) d.length (n0 + 16) ∧ d.length + l.length = n0 ∧ Bts (Old mb l0 N wr) wr s l ∧ o.length = 16 ∧ Box' (d ++ (Gf.turnFrom F key l0 i o l).1 = R1 ∧ (Gf.turnFrom F key l0 i o l).2 = R2) ∧ UE mb l0 key N (n0 + 16) w wr o d) (fun s _ _ _ => sliceLen s)
  case atStart => exact ⟨1, l, off, [], rfl, by omega, by omega, rfl, by simp; omega, hd2, hoff, hR, hd1⟩
  case round =>
    clear hd1 hd2 hR hn0
    obtain ⟨i, l, o, d, rfl, hi1, hi2, rfl, hdl, hB, lo, hR, hD⟩ := hrel
    have hBc := hB
    obtain ⟨a, c, rfl, hcap, _⟩ := hBc
    have hmax' : l.length ≤ 100000 := by omega
    by_cases h16 : 16 ≤ l.length
    · have hc16 : (16 : Int) ≤ (l.length : Int) := by omega
      have lT : (l.take 16).length = 16 := by rw [List.length_take]; omega
      have lO := Gf.bxor_len o (Gf.ell l0 (2 + Gf.ntz i))
      have hR1 : Box' (d ++ Gf.bxor (F (Gf.bxor (l.take 16) (Gf.bxor o (Gf.ell l0 (2 + Gf.ntz i))))) (Gf.bxor o (Gf.ell l0 (2 + Gf.ntz i))) ++ (Gf.turnFrom F key l0 (i + 1) (Gf.bxor o (Gf.ell l0 (2 + Gf.ntz i))) (l.drop 16)).1 = R1 ∧ (Gf.turnFrom F key l0 (i + 1) (Gf.bxor o (Gf.ell l0 (2 + Gf.ntz i))) (l.drop 16)).2 = R2) := ⟨by
        have h := hR.out
        rw [Gf.turnFrom_eq, dif_pos h16] at h
        exact ⟨by rw [List.append_assoc]; exact h.1, h.2⟩⟩
      have hdr : (l.drop 16).length = l.length - 16 := List.length_drop
      have hB' : ∀ ob, Bts (Old mb l0 N wr) (wr.alloc ob) (.slice a l.length c) l := fun ob => hB.keep fun b h => ⟨h, Below.heap_alloc _ _ _ h.1.lt⟩
      have hpl : N + 1 + 1 + 1 < wr.heap.size := hD.f3.lt
      obtain ⟨bm, hmm⟩ := hD.s1.is
      go_wp2_with fail
      refine (cut_any _ _ l h16 hmax' _ (hB' _)).mono ?_
      rintro e w1 ⟨v', rfl, hB1, hb1⟩
      have hms : sliceLen v' < l.length := by
        obtain ⟨a', c', e', _⟩ := hB1
        rw [e']; show (l.drop 16).length < l.length; omega
      have hba : Below wr.heap.size wr w1 := ((Below.refl _ _).alloc (Nat.le_refl _) _).trans (hb1.mono (by simp))
      have ga : Gm mb l0 wr w1 := Gm.of hba
      have hD1 := hD.go ga
      have hSp : Sf mb l0 w1 wr.heap.size := (Sf.new hmm _).go (Gm.of hb1)
      have hRp : Room w1 wr.heap.size 23 16 := Room.below (Room.new _ _ _ _ rfl) hb1 (by simp)
      have hB2 : Bts (Old mb l0 N w1) w1 v' (l.drop 16) := hB1.keep fun b h => ⟨⟨h.1.go ga, h.2⟩, hb1.block b (by have := h.1.lt; simp; omega)⟩
      generalize wr.heap.size = p at *
      have hB3 := hB2.set p hSp (by omega) (ag (l.take 16))
      have hD2 := hD1.set p hSp hpl (ag (l.take 16))
      have rB := hRp.setRow (ag (l.take 16))
      have sB := hSp.set hSp (ag (l.take 16))
      clear hB hB' hB1 hB2 hD hb1 hR hba ga hmm hD1 hSp
      go_wp2_with (refine wpList_store_row rfl 23 (.tmp 14) (.tmp 30) rfl _ rfl _ rfl _ _ hRp Tryd.info23 (by rw [ag_size]; exact lT) (ag_one _) ?_)
      clear hRp
      generalize World.setRow _ _ _ = W2 at *
      refine wp_region_grow 6 (by kernel_rfl) (by kernel_rfl) (Gm mb l0) (fun w1 => UE mb l0 key N (n0 + 16) w w1 o d ∧ Bts (Old mb l0 N w1) w1 v' (l.drop 16) ∧ Row w1 p 23 (ag (l.take 16)) ∧ Sf mb l0 w1 p) (fun k w1 v => match k with
        | 0 => v = .agg (ag o)
        | 1 => v = mskFn mb
        | 2 => v = .int .i64 (i : Int)
        | 3 => v = .int .i64 ((2 + Gf.ntz i : Nat) : Int)
        | 4 => v = .agg (ag (Gf.ell l0 (2 + Gf.ntz i)))
        | 5 => v = .agg (ag (Gf.bxor o (Gf.ell l0 (2 + Gf.ntz i))))
        | _ => True) ?_ ?_ ?_ ?_ ?_
      · rintro w1 w2 hb ⟨c1, c2, c3, c4⟩
        exact ⟨c1.go hb, c2.go hb, c4.row hb c3, c4.go hb⟩
      · intro k v w1 w2 hC1 hb h
        match k, h with
        | 0, h => exact h
        | 1, h => exact h
        | 2, h => exact h
        | 3, h => exact h
        | 4, h => exact h
        | 5, h => exact h
        | k + 6, h => trivial
      · exact ⟨hD2.go (Gm.refl _ _ _).drew, hB3.go (Gm.refl _ _ _).drew, rB.drew, sB.go (Gm.refl _ _ _).drew⟩
      · refine ⟨?_, ?_, ?_, ?_, ?_, ?_, trivial⟩
        · intro f w1 hC hd KK hK
          simp only [List.take_succ_cons, List.take_zero, setAll, List.setIfInBounds_toArray, List.set_cons_succ, List.set_cons_zero, Nat.zero_add, Nat.reduceAdd] at hK ⊢
          refine wp_load_row 23 _ rfl _ rfl _ _ (hC.1.ro) _ Tryd.underlying23 rfl 16 Tryd.info23 (by rw [ag_size]; exact lo) ?_
          exact hK _ _ rfl (Gm.refl _ _ _)
        · intro f w1 hC hd KK hK
          simp only [List.take_succ_cons, List.take_zero, setAll, List.setIfInBounds_toArray, List.set_cons_succ, List.set_cons_zero, Nat.zero_add, Nat.reduceAdd] at hK ⊢
          refine wp_of_quiet rfl ?_
          go_big_quiet_step (fail)
          exact wpQuiet_nil (hK _ _ rfl (Gm.refl _ _ _))
        · intro f w1 hC hd KK hK
          simp only [List.take_succ_cons, List.take_zero, setAll, List.setIfInBounds_toArray, List.set_cons_succ, List.set_cons_zero, Nat.zero_add, Nat.reduceAdd] at hK ⊢
          refine wp_of_quiet rfl ?_
          go_big_quiet_step (fail)
          exact wpQuiet_nil (hK _ _ rfl (Gm.refl _ _ _))
        · intro f w1 hC hd KK hK
          have g2 : f 2 = _ := hd 2 rfl
          simp only [List.take_succ_cons, List.take_zero, setAll, List.setIfInBounds_toArray, List.set_cons_succ, List.set_cons_zero, Nat.zero_add, Nat.reduceAdd, g2] at hK ⊢
          exact wp_call 41 #[.int .i64 (i : Int)] (by simp [go_sem]) _ _ (rank_any i hi1 (by omega) w1 hC.1.tb) (fun w' hb => by subst hb; exact hK _ _ rfl (Gm.refl _ _ _))
        · intro f w1 hC hd KK hK
          have g1 : f 1 = _ := hd 1 rfl
          have g3 : f 3 = _ := hd 3 rfl
          simp only [List.take_succ_cons, List.take_zero, setAll, List.setIfInBounds_toArray, List.set_cons_succ, List.set_cons_zero, Nat.zero_add, Nat.reduceAdd, g1, g3] at hK ⊢
          exact wp_call 38 #[.int .i64 ((2 + Gf.ntz i : Nat) : Int), .pointer (some ⟨mb, 0, none⟩)] (by simp [go_sem, mskFn]) _ _ (maskAt hl0 hC.1.s1 _ (by have := ntz_lt i; omega)) (fun w' hb => hK _ _ rfl hb)
        · intro f w1 hC hd KK hK
          have g0 : f 0 = _ := hd 0 rfl
          have g4 : f 4 = _ := hd 4 rfl
          simp only [List.take_succ_cons, List.take_zero, setAll, List.setIfInBounds_toArray, List.set_cons_succ, List.set_cons_zero, Nat.zero_add, Nat.reduceAdd, g0, g4] at hK ⊢
          exact wp_call 40 #[.agg (ag o), .agg (ag (Gf.ell l0 (2 + Gf.ntz i)))] (by simp [go_sem]) _ _ (ocbAgainst_any o _ lo (Gf.ell_len l0 hl0 _) w1) (fun w' hb => hK _ _ rfl (Gm.of hb))
      · intro f w1 hC hv
        have g0 : f 0 = _ := hv 0 (by decide)
        have g1 : f 1 = _ := hv 1 (by decide)
        have g2 : f 2 = _ := hv 2 (by decide)
        have g3 : f 3 = _ := hv 3 (by decide)
        have g4 : f 4 = _ := hv 4 (by decide)
        have g5 : f 5 = _ := hv 5 (by decide)
        simp only [List.take_succ_cons, List.take_zero, List.drop_succ_cons, List.drop_zero, setAll, List.setIfInBounds_toArray, List.set_cons_succ, List.set_cons_zero, Nat.zero_add, Nat.reduceAdd, g0, g1, g2, g3, g4, g5]
        clear g0 g1 g2 g3 g4 g5 hv
        obtain ⟨c1, c2, c3, c4⟩ := hC
        have q1 := c1.setO (Gf.bxor o (Gf.ell l0 (2 + Gf.ntz i)))
        have q2 := c2.set (N + 1) c1.f1 (by omega) (ag (Gf.bxor o (Gf.ell l0 (2 + Gf.ntz i))))
        have q3 := c3.setRowOther (N + 1) (ag (Gf.bxor o (Gf.ell l0 (2 + Gf.ntz i)))) (by omega)
        have q4 := c1.f1.set c4 (ag (Gf.bxor o (Gf.ell l0 (2 + Gf.ntz i))))
        have p1 := c1.ro.room (n := 16) (by rw [ag_size]; exact lo)
        clear hD2 hB3 rB sB
        generalize Gf.bxor o (Gf.ell l0 (2 + Gf.ntz i)) = o2 at *
        go_wp2_with (refine wpList_store_row rfl 23 (.tmp 8) (.tmp 37) rfl _ rfl _ rfl _ _ p1 Tryd.info23 (by rw [ag_size]; exact lO) (ag_one _) ?_)
        clear c1 c2 c3 c4 p1
        generalize World.setRow _ _ _ = W3 at *
        refine wp_region_grow 8 (by kernel_rfl) (by kernel_rfl) (Gm mb l0) (fun w1 => UE mb l0 key N (n0 + 16) w w1 o2 d ∧ Bts (Old mb l0 N w1) w1 v' (l.drop 16) ∧ Row w1 p 23 (ag (l.take 16)) ∧ Sf mb l0 w1 p) (fun k w1 v => match k with
          | 0 => v = .func (.func fn) #[] #[]
          | 1 => v = .agg (ag key)
          | 2 => v = .agg (ag (l.take 16))
          | 3 => v = .agg (ag o2)
          | 4 => v = .agg (ag (Gf.bxor (l.take 16) o2))
          | 5 => v = .agg (ag (F (Gf.bxor (l.take 16) o2)))
          | 6 => v = .agg (ag o2)
          | 7 => v = .agg (ag (Gf.bxor (F (Gf.bxor (l.take 16) o2)) o2))
          | _ => True) ?_ ?_ ?_ ?_ ?_
        · rintro w1 w2 hb ⟨c1, c2, c3, c4⟩
          exact ⟨c1.go hb, c2.go hb, c4.row hb c3, c4.go hb⟩
        · intro k v w1 w2 hC1 hb h
          match k, h with
          | 0, h => exact h
          | 1, h => exact h
          | 2, h => exact h
          | 3, h => exact h
          | 4, h => exact h
          | 5, h => exact h
          | 6, h => exact h
          | 7, h => exact h
          | k + 8, h => trivial
        · exact ⟨q1.go (Gm.refl _ _ _).drew, q2.go (Gm.refl _ _ _).drew, q3.drew, q4.go (Gm.refl _ _ _).drew⟩
        · refine ⟨?_, ?_, ?_, ?_, ?_, ?_, ?_, ?_, trivial⟩
          · intro f w1 hC hd KK hK
            simp only [List.take_succ_cons, List.take_zero, setAll, List.setIfInBounds_toArray, List.set_cons_succ, List.set_cons_zero, Nat.zero_add, Nat.reduceAdd] at hK ⊢
            refine wp_of_quiet rfl ?_
            go_big_quiet_step (fail)
            exact wpQuiet_nil (hK _ _ rfl (Gm.refl _ _ _))
          · intro f w1 hC hd KK hK
            simp only [List.take_succ_cons, List.take_zero, setAll, List.setIfInBounds_toArray, List.set_cons_succ, List.set_cons_zero, Nat.zero_add, Nat.reduceAdd] at hK ⊢
            refine wp_load_row 23 _ rfl _ rfl _ _ (hC.1.kk) _ Tryd.underlying23 rfl 16 Tryd.info23 (by rw [ag_size]; exact hkey) ?_
            exact hK _ _ rfl (Gm.refl _ _ _)
          · intro f w1 hC hd KK hK
            simp only [List.take_succ_cons, List.take_zero, setAll, List.setIfInBounds_toArray, List.set_cons_succ, List.set_cons_zero, Nat.zero_add, Nat.reduceAdd] at hK ⊢
            refine wp_load_row 23 _ rfl _ rfl _ _ (hC.2.2.1) _ Tryd.underlying23 rfl 16 Tryd.info23 (by rw [ag_size]; exact lT) ?_
            exact hK _ _ rfl (Gm.refl _ _ _)
          · intro f w1 hC hd KK hK
            simp only [List.take_succ_cons, List.take_zero, setAll, List.setIfInBounds_toArray, List.set_cons_succ, List.set_cons_zero, Nat.zero_add, Nat.reduceAdd] at hK ⊢
            refine wp_load_row 23 _ rfl _ rfl _ _ (hC.1.ro) _ Tryd.underlying23 rfl 16 Tryd.info23 (by rw [ag_size]; exact lO) ?_
            exact hK _ _ rfl (Gm.refl _ _ _)
          · intro f w1 hC hd KK hK
            have g2 : f 2 = _ := hd 2 rfl
            have g3 : f 3 = _ := hd 3 rfl
            simp only [List.take_succ_cons, List.take_zero, setAll, List.setIfInBounds_toArray, List.set_cons_succ, List.set_cons_zero, Nat.zero_add, Nat.reduceAdd, g2, g3] at hK ⊢
            exact wp_call 40 #[.agg (ag (l.take 16)), .agg (ag o2)] (by simp [go_sem]) _ _ (ocbAgainst_any _ _ lT lO w1) (fun w' hb => hK _ _ rfl (Gm.of hb))
          · intro f w1 hC hd KK hK
            have g0 : f 0 = _ := hd 0 rfl
            have g1 : f 1 = _ := hd 1 rfl
            have g4 : f 4 = _ := hd 4 rfl
            simp only [List.take_succ_cons, List.take_zero, setAll, List.setIfInBounds_toArray, List.set_cons_succ, List.set_cons_zero, Nat.zero_add, Nat.reduceAdd, g0, g1, g4] at hK ⊢
            exact wp_call fn #[.agg (ag key), .agg (ag (Gf.bxor (l.take 16) o2))] (by simp [go_sem, hfn]) _ _ ((hF _ (Gf.bxor_len _ _)).2 w1) (fun w' hb => hK _ _ rfl (Gm.of hb))
          · intro f w1 hC hd KK hK
            simp only [List.take_succ_cons, List.take_zero, setAll, List.setIfInBounds_toArray, List.set_cons_succ, List.set_cons_zero, Nat.zero_add, Nat.reduceAdd] at hK ⊢
            refine wp_load_row 23 _ rfl _ rfl _ _ (hC.1.ro) _ Tryd.underlying23 rfl 16 Tryd.info23 (by rw [ag_size]; exact lO) ?_
            exact hK _ _ rfl (Gm.refl _ _ _)
          · intro f w1 hC hd KK hK
            have g5 : f 5 = _ := hd 5 rfl
            have g6 : f 6 = _ := hd 6 rfl
            simp only [List.take_succ_cons, List.take_zero, setAll, List.setIfInBounds_toArray, List.set_cons_succ, List.set_cons_zero, Nat.zero_add, Nat.reduceAdd, g5, g6] at hK ⊢
            exact wp_call 40 #[.agg (ag (F (Gf.bxor (l.take 16) o2))), .agg (ag o2)] (by simp [go_sem]) _ _ (ocbAgainst_any _ _ (hF _ (Gf.bxor_len _ _)).1 lO w1) (fun w' hb => hK _ _ rfl (Gm.of hb))
        · intro f w1 hC hv
          have g0 : f 0 = _ := hv 0 (by decide)
          have g1 : f 1 = _ := hv 1 (by decide)
          have g2 : f 2 = _ := hv 2 (by decide)
          have g3 : f 3 = _ := hv 3 (by decide)
          have g4 : f 4 = _ := hv 4 (by decide)
          have g5 : f 5 = _ := hv 5 (by decide)
          have g6 : f 6 = _ := hv 6 (by decide)
          have g7 : f 7 = _ := hv 7 (by decide)
          simp only [List.take_succ_cons, List.take_zero, List.drop_succ_cons, List.drop_zero, setAll, List.setIfInBounds_toArray, List.set_cons_succ, List.set_cons_zero, Nat.zero_add, Nat.reduceAdd, g0, g1, g2, g3, g4, g5, g6, g7]
          clear g0 g1 g2 g3 g4 g5 g6 g7 hv
          obtain ⟨c1, c2, c3, c4⟩ := hC
          have lX := Gf.bxor_len (F (Gf.bxor (l.take 16) o2)) o2
          have z1 := c1.set p c4 hpl (ag (Gf.bxor (F (Gf.bxor (l.take 16) o2)) o2))
          have z2 := c2.set p c4 (by omega) (ag (Gf.bxor (F (Gf.bxor (l.take 16) o2)) o2))
          have z3 := c3.setRow (ag (Gf.bxor (F (Gf.bxor (l.take 16) o2)) o2))
          have p1 := c3.room (n := 16) (by rw [ag_size]; exact lT)
          clear q1 q2 q3 q4 c1 c2 c3 c4
          generalize (Gf.bxor (F (Gf.bxor (l.take 16) o2)) o2) = x at *
          have hz := z1.f3
          have hcl : ∀ j u, (x.map B)[j]? = some u → (World.setRow w1 p (ag x)).cell? ((⟨p, 0, none⟩ : Addr).add j) = some u := fun j u hu => by
            rw [Addr.add_mid, z3.cell]
            simpa [ag] using hu
          have hone : ∀ u ∈ x.map B, u.oneCell' = true := fun u hu => by obtain ⟨y, _, rfl⟩ := List.mem_map.1 hu; rfl
          have hbu := z1.bu
          go_wp2_with (first
            | (refine wpList_store_row rfl 23 (.tmp 14) (.tmp 45) rfl _ rfl _ rfl _ _ p1 Tryd.info23 (by rw [ag_size]; exact lX) (ag_one _) ?_)
            | (refine wpList_append_fits _ rfl (.tmp 46) (.tmp 47) 24 rfl 0 5 i5 1 Tryd.underlying24 hi5 hs5 (N + 1 + 1 + 1) d.length (n0 + 16) (d.map B) rfl hbu ⟨p, 0, none⟩ 16 16 (x.map B) rfl (by rw [List.length_map, lX]) hcl hone (by omega) (fun w5 ho5 hg5 => ?_))
            | fail)
          rw [← List.map_append] at ho5
          have e16 : d.length + 16 = (d ++ x).length := by rw [List.length_append, lX]
          rw [e16] at ho5
          have y1 := z1.app hg5 (d ++ x) ho5
          have y2 := z2.app hz (by omega) hg5
          clear z1 z2 z3 p1 hcl hbu hg5 ho5
          go_roundw
          case rel => exact ⟨i + 1, l.drop 16, o2, d ++ x, by go_num, by omega, by omega, by rw [List.length_append, lX], by rw [List.length_append]; omega, y2, lO, hR1, y1⟩
          case measure => exact hms
    · have hlen : l.length < 16 := by omega
      have hc16 : ¬ (16 : Int) ≤ (l.length : Int) := by omega
      by_cases hpos : 0 < l.length
      · have hci : (0 : Int) < (l.length : Int) := by omega
        have lO := Gf.bxor_len o (Gf.ell l0 0)
        have hRe : Box' (d ++ Gf.padded l (Gf.encrypt key (Gf.bxor o (Gf.ell l0 0))) l.length = R1 ∧ Gf.bxor o (Gf.ell l0 0) = R2) := ⟨by
          have h := hR.out
          rw [Gf.turnFrom_eq, dif_neg h16, if_pos hpos] at h
          exact h⟩
        clear hR
        go_wp2
        refine wp_region_grow 4 (by kernel_rfl) (by kernel_rfl) (Gm mb l0) (fun w1 => UE mb l0 key N (n0 + 16) w w1 o d ∧ Bts (Old mb l0 N w1) w1 (.slice a l.length c) l) (fun k w1 v => match k with
          | 0 => v = .agg (ag o)
          | 1 => v = mskFn mb
          | 2 => v = .agg (ag (Gf.ell l0 0))
          | 3 => v = .agg (ag (Gf.bxor o (Gf.ell l0 0)))
          | _ => True) ?_ ?_ ?_ ?_ ?_
        · rintro w1 w2 hb ⟨c1, c2⟩
          exact ⟨c1.go hb, c2.go hb⟩
        · intro k v w1 w2 hC1 hb h
          match k, h with
          | 0, h => exact h
          | 1, h => exact h
          | 2, h => exact h
          | 3, h => exact h
          | k + 4, h => trivial
        · exact ⟨hD.go (Gm.refl _ _ _).drew, hB.go (Gm.refl _ _ _).drew⟩
        · refine ⟨?_, ?_, ?_, ?_, trivial⟩
          · intro f w1 hC hd KK hK
            simp only [List.take_succ_cons, List.take_zero, setAll, List.setIfInBounds_toArray, List.set_cons_succ, List.set_cons_zero, Nat.zero_add, Nat.reduceAdd] at hK ⊢
            refine wp_load_row 23 _ rfl _ rfl _ _ (hC.1.ro) _ Tryd.underlying23 rfl 16 Tryd.info23 (by rw [ag_size]; exact lo) ?_
            exact hK _ _ rfl (Gm.refl _ _ _)
          · intro f w1 hC hd KK hK
            simp only [List.take_succ_cons, List.take_zero, setAll, List.setIfInBounds_toArray, List.set_cons_succ, List.set_cons_zero, Nat.zero_add, Nat.reduceAdd] at hK ⊢
            refine wp_of_quiet rfl ?_
            go_big_quiet_step (fail)
            exact wpQuiet_nil (hK _ _ rfl (Gm.refl _ _ _))
          · intro f w1 hC hd KK hK
            have g1 : f 1 = _ := hd 1 rfl
            simp only [List.take_succ_cons, List.take_zero, setAll, List.setIfInBounds_toArray, List.set_cons_succ, List.set_cons_zero, Nat.zero_add, Nat.reduceAdd, g1] at hK ⊢
            exact wp_call 38 #[.int .i64 0, .pointer (some ⟨mb, 0, none⟩)] (by simp [go_sem, mskFn]) _ _ (maskAt hl0 hC.1.s1 0 (by omega)) (fun w' hb => hK _ _ rfl hb)
          · intro f w1 hC hd KK hK
            have g0 : f 0 = _ := hd 0 rfl
            have g2 : f 2 = _ := hd 2 rfl
            simp only [List.take_succ_cons, List.take_zero, setAll, List.setIfInBounds_toArray, List.set_cons_succ, List.set_cons_zero, Nat.zero_add, Nat.reduceAdd, g0, g2] at hK ⊢
            exact wp_call 40 #[.agg (ag o), .agg (ag (Gf.ell l0 0))] (by simp [go_sem]) _ _ (ocbAgainst_any o _ lo (Gf.ell_len l0 hl0 _) w1) (fun w' hb => hK _ _ rfl (Gm.of hb))
        · intro f w1 hC hv
          have g0 : f 0 = _ := hv 0 (by decide)
          have g1 : f 1 = _ := hv 1 (by decide)
          have g2 : f 2 = _ := hv 2 (by decide)
          have g3 : f 3 = _ := hv 3 (by decide)
          simp only [List.take_succ_cons, List.take_zero, List.drop_succ_cons, List.drop_zero, setAll, List.setIfInBounds_toArray, List.set_cons_succ, List.set_cons_zero, Nat.zero_add, Nat.reduceAdd, g0, g1, g2, g3]
          clear g0 g1 g2 g3 hv
          obtain ⟨c1, c2⟩ := hC
          have q1 := c1.setO (Gf.bxor o (Gf.ell l0 0))
          have q2 := c2.set (N + 1) c1.f1 (by omega) (ag (Gf.bxor o (Gf.ell l0 0)))
          have p1 := c1.ro.room (n := 16) (by rw [ag_size]; exact lo)
          clear hD hB
          have lP := Gf.encrypt_len key (Gf.bxor o (Gf.ell l0 0))
          have hE := fun w => encrypt_any key (Gf.bxor o (Gf.ell l0 0)) hkey lO w
          generalize Gf.encrypt key (Gf.bxor o (Gf.ell l0 0)) = pad at *
          generalize Gf.bxor o (Gf.ell l0 0) = o2 at *
          go_wp2_with (first
            | (refine wpList_store_row rfl 23 (.tmp 8) (.tmp 55) rfl _ rfl _ rfl _ _ p1 Tryd.info23 (by rw [ag_size]; exact lO) (ag_one _) ?_)
            | (refine wpList_load_row rfl 23 (.tmp 5) rfl _ rfl _ _ q1.kk _ Tryd.underlying23 rfl 16 Tryd.info23 (by rw [ag_size]; exact hkey) ?_)
            | (refine wpList_load_row rfl 23 (.tmp 8) rfl _ rfl _ _ q1.ro _ Tryd.underlying23 rfl 16 Tryd.info23 (by rw [ag_size]; exact lO) ?_)
            | fail)
          refine (hE _).mono ?_
          rintro e w2 ⟨rfl, hb2⟩
          have q3 := q1.go (Gm.of hb2)
          have q4 := q2.go (Gm.of hb2)
          clear q1 q2 c1 c2 p1 hb2
          have hpl : N + 1 + 1 + 1 < w2.heap.size := q3.f3.lt
          obtain ⟨bm, hmm⟩ := q3.s1.is
          have hSp : Sf mb l0 (w2.alloc (.cells (ag pad) 23)) w2.heap.size := Sf.new hmm _
          have hRp : Row (w2.alloc (.cells (ag pad) 23)) w2.heap.size 23 (ag pad) := Row.new _ _ _
          have q5 := q3.go (Gm.of ((Below.refl _ _).alloc (Nat.le_refl _) (.cells (ag pad) 23)) : Gm mb l0 w2 _)
          have q6 := q4.go (Gm.of ((Below.refl _ _).alloc (Nat.le_refl _) (.cells (ag pad) 23)) : Gm mb l0 w2 _)
          go_wp2_with (first
            | (refine wpList_alloc_row rfl 23 rfl _ _ Tryd.zero23 ?_)
            | (refine wpList_store_row rfl 23 (.tmp 15) (.tmp 58) rfl _ rfl _ rfl _ _ (Room.new _ _ _ _ (by rw [ag_size]; rfl)) Tryd.info23 (by rw [ag_size]; exact lP) (ag_one _) ?_; rw [World.setRow_alloc_new])
            | fail)
          clear q3 q4 hmm
          generalize World.alloc _ _ = W4 at *
          generalize w2.heap.size = pp at *
          have ht0 : Gf.padded l pad 0 = [] := rfl
          go_loopw [12, 61] (fun q cc wr => ∃ k : Nat, k ≤ l.length ∧ cc = .int .i64 (k : Int) ∧ q = .slice (some ⟨N + 1 + 1 + 1, 0, none⟩) (d.length + k) (n0 + 16) ∧ Bts (Old mb l0 N wr) wr (.slice a l.length c) l ∧ Row wr pp 23 (ag pad) ∧ Sf mb l0 wr pp ∧ UE mb l0 key N (n0 + 16) w wr o2 (d ++ Gf.padded l pad k)) (fun _ cc _ => l.length - (intOf cc).toNat)
          case atStart => exact ⟨0, by omega, rfl, rfl, q6, hRp, hSp, by rw [ht0, List.append_nil]; exact q5⟩
          case round =>
            clear q5 q6 hRp hSp ht0
            obtain ⟨k, hk, rfl, rfl, gB, gR, gS, gU⟩ := hrel
            have lPk : (Gf.padded l pad k).length = k := by simp [Gf.padded]
            by_cases hkl : k < l.length
            · obtain ⟨a', c', ev, _, h3⟩ := gB
              injection ev with ev1 ev2 ev3
              subst ev1 ev3
              rcases h3 with rfl | ⟨b, ob, rfl, hSb, hrg⟩
              · simp at hpos
              have hcb := hrg k (B (l.getD k 0)) (by simp [hkl])
              have hcp := gR.byte (k := k) (by omega)
              have hcx : wr.cell? ⟨b, ob + k, none⟩ = some (.int .u8 ((l.getD k 0).toNat : Int)) := hcb
              have hxx := xor_bx (l.getD k 0) (pad.getD k 0)
              have hstep : Gf.padded l pad (k + 1) = Gf.padded l pad k ++ [Gf.bx (l.getD k 0) (pad.getD k 0)] := by simp [Gf.padded, List.range_succ]
              have HS := Box'.mk hstep
              clear hcb hstep
              generalize l.getD k 0 = x at *
              generalize pad.getD k 0 = y at *
              have hla : Below wr.heap.size wr (wr.alloc (.cells #[.int .u8 ((Gf.bx x y).toNat : Int)] 5)) := (Below.refl _ _).alloc (Nat.le_refl _) _
              have gU2 := gU.go (Gm.of hla)
              have gS2 := gS.go (Gm.of hla)
              have gR2 := gR.alloc (.cells #[.int .u8 ((Gf.bx x y).toNat : Int)] 5)
              have gB2 : Bts (Old mb l0 N (wr.alloc (.cells #[.int .u8 ((Gf.bx x y).toNat : Int)] 5))) (wr.alloc (.cells #[.int .u8 ((Gf.bx x y).toNat : Int)] 5)) (.slice (some ⟨b, ob, none⟩) l.length c) l := Bts.go (w := wr) ⟨_, _, rfl, by omega, .inr ⟨b, ob, rfl, hSb, hrg⟩⟩ (Gm.of hla)
              have hnew : (wr.alloc (.cells #[.int .u8 ((Gf.bx x y).toNat : Int)] 5)).cell? ⟨wr.heap.size, 0, none⟩ = some (B (Gf.bx x y)) := (Row.new wr 5 #[.int .u8 ((Gf.bx x y).toNat : Int)]).cell 0
              have hbu := gU2.bu
              have hdk : (d ++ Gf.padded l pad k).length = d.length + k := by rw [List.length_append, lPk]
              unfold Buf at hbu
              rw [hdk] at hbu
              clear gU gS gR
              go_wp2_with (first
                | (refine wpList_append_fits _ rfl (.tmp 66) (.tmp 72) 24 rfl 0 5 i5 1 Tryd.underlying24 hi5 hs5 (N + 1 + 1 + 1) (d.length + k) (n0 + 16) ((d ++ Gf.padded l pad k).map B) rfl hbu ⟨wr.heap.size, 0, none⟩ 1 1 [B (Gf.bx x y)] rfl rfl (fun j u hu => ?_) (fun u hu => ?_) (by omega) (fun w5 ho5 hg5 => ?_))
                | fail)
              · exact hu
              · simp at hu; subst hu; rfl
              · have hone : (d ++ Gf.padded l pad k).map B ++ [B (Gf.bx x y)] = (d ++ Gf.padded l pad (k + 1)).map B := by rw [HS.out]; simp
                rw [hone] at ho5
                have lP1 : (Gf.padded l pad (k + 1)).length = k + 1 := by simp [Gf.padded]
                have hb5 : Buf w5 (N + 1 + 1 + 1) (n0 + 16) (d ++ Gf.padded l pad (k + 1)) := by unfold Buf; rw [List.length_append, lP1]; exact ho5
                have y1 := gU2.app hg5 _ hb5
                have y2 := gB2.app gU2.f3 (by omega) hg5
                have y3 := gR2.same (hg5.block pp gS2.lt (by simp; omega))
                have y4 := gU2.f3.grown hg5 gS2
                clear gU2 gB2 gR2 gS2 hnew hbu ho5 hg5 hb5 hone
                go_wp2
                go_roundw
                case rel => exact ⟨k + 1, by omega, by go_num, rfl, y2, y3, y4, y1⟩
                case measure => simp [intOf]; omega
            · have hkk : k = l.length := by omega
              subst hkk
              clear gB gR gS
              have hdk : (d ++ Gf.padded l pad l.length).length = d.length + l.length := by rw [List.length_append, lPk]
              rw [← hdk]
              go_wp2
              refine wp_region_grow 3 (by kernel_rfl) (by kernel_rfl) (Gm mb l0) (fun w1 => UE mb l0 key N (n0 + 16) w w1 o2 (d ++ Gf.padded l pad l.length)) (fun k w1 v => match k with
                | 0 => v = .slice (some ⟨N + 1 + 1 + 1, 0, none⟩) (d ++ Gf.padded l pad l.length).length (n0 + 16)
                | 1 => v = .agg (ag o2)
                | 2 => v = .slice (some ⟨N + 1 + 1 + 1, 0, none⟩) (d ++ Gf.padded l pad l.length).length (n0 + 16)
                | _ => True) ?_ ?_ ?_ ?_ ?_
              · rintro w1 w2 hb c1
                exact c1.go hb
              · intro k v w1 w2 hC1 hb h
                match k, h with
                | 0, h => exact h
                | 1, h => exact h
                | 2, h => exact h
                | k + 3, h => trivial
              · exact gU.go (Gm.refl _ _ _).drew
              · refine ⟨?_, ?_, ?_, trivial⟩
                · intro f w1 hC hd KK hK
                  simp only [List.take_succ_cons, List.take_zero, setAll, List.setIfInBounds_toArray, List.set_cons_succ, List.set_cons_zero, Nat.zero_add, Nat.reduceAdd] at hK ⊢
                  refine wp_of_quiet rfl ?_
                  go_big_quiet_step (fail)
                  exact wpQuiet_nil (hK _ _ rfl (Gm.refl _ _ _))
                · intro f w1 hC hd KK hK
                  simp only [List.take_succ_cons, List.take_zero, setAll, List.setIfInBounds_toArray, List.set_cons_succ, List.set_cons_zero, Nat.zero_add, Nat.reduceAdd] at hK ⊢
                  refine wp_load_row 23 _ rfl _ rfl _ _ (hC.ro) _ Tryd.underlying23 rfl 16 Tryd.info23 (by rw [ag_size]; exact lO) ?_
                  exact hK _ _ rfl (Gm.refl _ _ _)
                · intro f w1 hC hd KK hK
                  have g0 : f 0 = _ := hd 0 rfl
                  simp only [List.take_succ_cons, List.take_zero, setAll, List.setIfInBounds_toArray, List.set_cons_succ, List.set_cons_zero, Nat.zero_add, Nat.reduceAdd, g0] at hK ⊢
                  refine wp_of_quiet rfl ?_
                  go_big_quiet_step (fail)
                  exact wpQuiet_nil (hK _ _ rfl (Gm.refl _ _ _))
              · intro f w1 hC hv
                have g0 : f 0 = _ := hv 0 (by decide)
                have g1 : f 1 = _ := hv 1 (by decide)
                have g2 : f 2 = _ := hv 2 (by decide)
                simp only [List.take_succ_cons, List.take_zero, List.drop_succ_cons, List.drop_zero, setAll, List.setIfInBounds_toArray, List.set_cons_succ, List.set_cons_zero, Nat.zero_add, Nat.reduceAdd, g0, g1, g2]
                clear g0 g1 g2 hv
                have hNz : w.heap.size ≤ N + 1 + 1 := by omega
                have zg := hC.g.setRow hC.f2 hNz (ag o2)
                have zb : Buf (w1.setRow (N + 1 + 1) (ag o2)) (N + 1 + 1 + 1) (n0 + 16) (d ++ Gf.padded l pad l.length) := hC.bu.same (setRow_other _ _ _ _ (by omega))
                have zs := hC.f2.set hC.f3 (ag o2)
                have rr := hC.rr
                clear hC
                have e1 : (d ++ Gf.padded l pad l.length) = R1 := hRe.out.1
                have e2 : o2 = R2 := hRe.out.2
                subst e1 e2
                have hln : (d ++ Gf.padded l pad l.length).length = n0 := lRR.1
                rw [hln]
                go_wp2_with (refine wpList_store_row rfl 23 (.tmp 11) (.tmp 76) rfl _ rfl _ rfl _ _ rr Tryd.info23 (by rw [ag_size]; exact lRR.2) (ag_one _) ?_)
                exact bodyPost_ret (v := .tuple #[.slice (some ⟨N + 1 + 1 + 1, 0, none⟩) n0 (n0 + 16), .agg (ag o2)]) (results_slot_row rfl _ _ rfl (.slice (some ⟨N + 1 + 1 + 1, 0, none⟩) n0 (n0 + 16)) rfl _ _ (rr.setRow _) _ Tryd.underlying23 rfl 16 Tryd.info23 (by rw [ag_size]; exact lRR.2)) rfl ⟨N + 1 + 1 + 1, rfl, zb, zs, by omega, zg⟩
      · have hci : ¬ (0 : Int) < (l.length : Int) := by omega
        have hRe : Box' (d = R1 ∧ o = R2) := ⟨by
          have h := hR.out
          rw [Gf.turnFrom_eq, dif_neg h16, if_neg hpos, List.append_nil] at h
          exact h⟩
        clear hR
        go_wp2
        refine wp_region_grow 3 (by kernel_rfl) (by kernel_rfl) (Gm mb l0) (fun w1 => UE mb l0 key N (n0 + 16) w w1 o d) (fun k w1 v => match k with
          | 0 => v = .slice (some ⟨N + 1 + 1 + 1, 0, none⟩) d.length (n0 + 16)
          | 1 => v = .agg (ag o)
          | 2 => v = .slice (some ⟨N + 1 + 1 + 1, 0, none⟩) d.length (n0 + 16)
          | _ => True) ?_ ?_ ?_ ?_ ?_
        · rintro w1 w2 hb c1
          exact c1.go hb
        · intro k v w1 w2 hC1 hb h
          match k, h with
          | 0, h => exact h
          | 1, h => exact h
          | 2, h => exact h
          | k + 3, h => trivial
        · exact hD.go (Gm.refl _ _ _).drew
        · refine ⟨?_, ?_, ?_, trivial⟩
          · intro f w1 hC hd KK hK
            simp only [List.take_succ_cons, List.take_zero, setAll, List.setIfInBounds_toArray, List.set_cons_succ, List.set_cons_zero, Nat.zero_add, Nat.reduceAdd] at hK ⊢
            refine wp_of_quiet rfl ?_
            go_big_quiet_step (fail)
            exact wpQuiet_nil (hK _ _ rfl (Gm.refl _ _ _))
          · intro f w1 hC hd KK hK
            simp only [List.take_succ_cons, List.take_zero, setAll, List.setIfInBounds_toArray, List.set_cons_succ, List.set_cons_zero, Nat.zero_add, Nat.reduceAdd] at hK ⊢
            refine wp_load_row 23 _ rfl _ rfl _ _ (hC.ro) _ Tryd.underlying23 rfl 16 Tryd.info23 (by rw [ag_size]; exact lo) ?_
            exact hK _ _ rfl (Gm.refl _ _ _)
          · intro f w1 hC hd KK hK
            have g0 : f 0 = _ := hd 0 rfl
            simp only [List.take_succ_cons, List.take_zero, setAll, List.setIfInBounds_toArray, List.set_cons_succ, List.set_cons_zero, Nat.zero_add, Nat.reduceAdd, g0] at hK ⊢
            refine wp_of_quiet rfl ?_
            go_big_quiet_step (fail)
            exact wpQuiet_nil (hK _ _ rfl (Gm.refl _ _ _))
        · intro f w1 hC hv
          have g0 : f 0 = _ := hv 0 (by decide)
          have g1 : f 1 = _ := hv 1 (by decide)
          have g2 : f 2 = _ := hv 2 (by decide)
          simp only [List.take_succ_cons, List.take_zero, List.drop_succ_cons, List.drop_zero, setAll, List.setIfInBounds_toArray, List.set_cons_succ, List.set_cons_zero, Nat.zero_add, Nat.reduceAdd, g0, g1, g2]
          clear g0 g1 g2 hv
          have hNz : w.heap.size ≤ N + 1 + 1 := by omega
          have zg := hC.g.setRow hC.f2 hNz (ag o)
          have zb : Buf (w1.setRow (N + 1 + 1) (ag o)) (N + 1 + 1 + 1) (n0 + 16) d := hC.bu.same (setRow_other _ _ _ _ (by omega))
          have zs := hC.f2.set hC.f3 (ag o)
          have rr := hC.rr
          clear hC
          have e1 : d = R1 := hRe.out.1
          have e2 : o = R2 := hRe.out.2
          subst e1 e2
          have hln : d.length = n0 := lRR.1
          rw [hln]
          go_wp2_with (refine wpList_store_row rfl 23 (.tmp 11) (.tmp 76) rfl _ rfl _ rfl _ _ rr Tryd.info23 (by rw [ag_size]; exact lRR.2) (ag_one _) ?_)
          exact bodyPost_ret (v := .tuple #[.slice (some ⟨N + 1 + 1 + 1, 0, none⟩) n0 (n0 + 16), .agg (ag o)]) (results_slot_row rfl _ _ rfl (.slice (some ⟨N + 1 + 1 + 1, 0, none⟩) n0 (n0 + 16)) rfl _ _ (rr.setRow _) _ Tryd.underlying23 rfl 16 Tryd.info23 (by rw [ag_size]; exact lRR.2)) rfl ⟨N + 1 + 1 + 1, rfl, zb, zs, by omega, zg⟩
end Go.Proofs.YtmolhljgmaoflaaDoor
