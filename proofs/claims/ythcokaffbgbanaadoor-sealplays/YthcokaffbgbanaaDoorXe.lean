/- The walk of turn. -/
import Derived.Test.YthcokaffbgbanaaDoorXd
import Derived.OwnWalk
import Derived.Test.YthcokaffbgbanaaDoorXb
namespace Go.Proofs.YthcokaffbgbanaaDoor
open Go.RowKit Go.BigFrame

def Gf.padded (l pad : List UInt8) (k : Nat) : List UInt8 := (List.range k).map fun i => Gf.bx (l.getD i 0) (pad.getD i 0)
def Gf.turnFromN (F : List UInt8 → List UInt8) (key l0 : List UInt8) : Nat → Nat → List UInt8 → List UInt8 → List UInt8 × List UInt8
  | 0, _, o, _ => ([], o)
  | f + 1, i, o, l => if 16 ≤ l.length then (Gf.bxor (F (Gf.bxor (l.take 16) (Gf.bxor o (Gf.ell l0 (2 + Gf.ntz i))))) (Gf.bxor o (Gf.ell l0 (2 + Gf.ntz i))) ++ (Gf.turnFromN F key l0 f (i + 1) (Gf.bxor o (Gf.ell l0 (2 + Gf.ntz i))) (l.drop 16)).1, (Gf.turnFromN F key l0 f (i + 1) (Gf.bxor o (Gf.ell l0 (2 + Gf.ntz i))) (l.drop 16)).2) else if 0 < l.length then (Gf.padded l (Gf.encrypt key (Gf.bxor o (Gf.ell l0 0))) l.length, Gf.bxor o (Gf.ell l0 0)) else ([], o)
theorem Gf.turnFromN_more (F : List UInt8 → List UInt8) (key l0 : List UInt8) (f g : Nat) (i : Nat) (o : List UInt8) (l : List UInt8) (hf : l.length < f) (hg : l.length < g) : Gf.turnFromN F key l0 f i o l = Gf.turnFromN F key l0 g i o l := by
  induction f generalizing g i o l with
  | zero => omega
  | succ f ih =>
    cases g with
    | zero => omega
    | succ g =>
      rw [Gf.turnFromN, Gf.turnFromN]
      by_cases h : 16 ≤ l.length
      · rw [if_pos h, if_pos h, ih g (i + 1) (Gf.bxor o (Gf.ell l0 (2 + Gf.ntz i))) (l.drop 16) (by rw [List.length_drop]; omega) (by rw [List.length_drop]; omega)]
      · rw [if_neg h, if_neg h]
def Gf.turnFrom (F : List UInt8 → List UInt8) (key l0 : List UInt8) (i : Nat) (o : List UInt8) (l : List UInt8) : List UInt8 × List UInt8 := Gf.turnFromN F key l0 (l.length + 1) i o l
theorem Gf.turnFrom_eq (F : List UInt8 → List UInt8) (key l0 : List UInt8) (i : Nat) (o : List UInt8) (l : List UInt8) : Gf.turnFrom F key l0 i o l = if _h : 16 ≤ l.length then (Gf.bxor (F (Gf.bxor (l.take 16) (Gf.bxor o (Gf.ell l0 (2 + Gf.ntz i))))) (Gf.bxor o (Gf.ell l0 (2 + Gf.ntz i))) ++ (Gf.turnFrom F key l0 (i + 1) (Gf.bxor o (Gf.ell l0 (2 + Gf.ntz i))) (l.drop 16)).1, (Gf.turnFrom F key l0 (i + 1) (Gf.bxor o (Gf.ell l0 (2 + Gf.ntz i))) (l.drop 16)).2) else if 0 < l.length then (Gf.padded l (Gf.encrypt key (Gf.bxor o (Gf.ell l0 0))) l.length, Gf.bxor o (Gf.ell l0 0)) else ([], o) := by
  rw [Gf.turnFrom, Gf.turnFromN]
  by_cases h : 16 ≤ l.length
  · rw [if_pos h, dif_pos h, Gf.turnFrom, Gf.turnFromN_more _ _ _ l.length ((l.drop 16).length + 1) (i + 1) (Gf.bxor o (Gf.ell l0 (2 + Gf.ntz i))) (l.drop 16) (by rw [List.length_drop]; omega) (by omega)]
  · rw [if_neg h, dif_neg h]
theorem Gf.turnFrom_ind {l0 : List UInt8} {motive : Nat → List UInt8 → List UInt8 → Prop} (case1 : ∀ (i : Nat) (o : List UInt8) (l : List UInt8), 16 ≤ l.length → motive (i + 1) (Gf.bxor o (Gf.ell l0 (2 + Gf.ntz i))) (l.drop 16) → motive i o l)
    (case2 : ∀ (i : Nat) (o : List UInt8) (l : List UInt8), ¬ 16 ≤ l.length → 0 < l.length → motive i o l) (case3 : ∀ (i : Nat) (o : List UInt8) (l : List UInt8), ¬ 16 ≤ l.length → ¬ 0 < l.length → motive i o l) (i : Nat) (o : List UInt8) (l : List UInt8) : motive i o l := by
  obtain ⟨n, hn⟩ : ∃ n, l.length < n := ⟨l.length + 1, by omega⟩
  induction n generalizing i o l with
  | zero => omega
  | succ n ih =>
    by_cases h : 16 ≤ l.length
    · exact case1 i o l h (ih (i + 1) (Gf.bxor o (Gf.ell l0 (2 + Gf.ntz i))) (l.drop 16) (by rw [List.length_drop]; omega))
    · by_cases hp : 0 < l.length
      · exact case2 i o l h hp
      · exact case3 i o l h hp
set_option maxRecDepth 100000 in
theorem Gf.turnFrom_len (F : List UInt8 → List UInt8) (key l0 : List UInt8) (i : Nat) (o l : List UInt8) (h : o.length = 16) : (Gf.turnFrom F key l0 i o l).1.length = l.length ∧ (Gf.turnFrom F key l0 i o l).2.length = 16 := by
  induction i, o, l using Gf.turnFrom_ind (l0 := l0) with
  | case1 i o l h16 ih =>
    rw [Gf.turnFrom_eq, dif_pos h16]
    have := ih (Gf.bxor_len _ _)
    refine ⟨?_, this.2⟩
    rw [List.length_append, Gf.bxor_len, this.1, List.length_drop]; omega
  | case2 i o l h16 hp => rw [Gf.turnFrom_eq, dif_neg h16, if_pos hp]; exact ⟨by simp [Gf.padded], Gf.bxor_len _ _⟩
  | case3 i o l h16 hp => rw [Gf.turnFrom_eq, dif_neg h16, if_neg hp]; exact ⟨by simp; omega, h⟩

/-- Bytes that a call has put into a row of its own. -/
def Buf (w : World) (g cap : Nat) (d : List UInt8) : Prop := w.ownsRow 0 5 1 (.slice (some ⟨g, 0, none⟩) d.length cap) d.length (d.map B)
set_option maxRecDepth 100000 in
theorem Buf.same {w w' : World} {g cap : Nat} {d : List UInt8} (h : Buf w g cap d) (hs : w'.heap[g]? = w.heap[g]?) : Buf w' g cap d := by
  refine ⟨h.1, ?_⟩
  rcases h.2 with ⟨e, _⟩ | ⟨g1, c1, cur, e1, e2, e3, e4⟩
  · cases e
  · have e1' := e1
    injection e1 with q1; injection q1 with q1; injection q1 with q1
    subst q1
    exact .inr ⟨g, c1, cur, e1', e2, by rw [hs]; exact e3, e4⟩
set_option maxRecDepth 100000 in
theorem Buf.range {w : World} {g cap : Nat} {d : List UInt8} (h : Buf w g cap d) : w.rangeAt g 0 (d.map B) := fun j v hv => by
  have := World.ownsRow.cells h (g := g) rfl j v hv
  rw [Addr.add_mid] at this; exact this
set_option maxRecDepth 100000 in
theorem Row.same {w w' : World} {b : Nat} {t : TypeId} {c : Array Value} (h : Row w b t c) (hs : w'.heap[b]? = w.heap[b]?) : Row w' b t c := by unfold Row at *; rw [hs]; exact h
set_option maxRecDepth 100000 in
theorem Room.same {w w' : World} {b : Nat} {t : TypeId} {n : Nat} (h : Room w b t n) (hs : w'.heap[b]? = w.heap[b]?) : Room w' b t n := let ⟨c, h1, h2⟩ := h; ⟨c, h1.same hs, h2⟩
section
variable {mb : Nat} {l0 : List UInt8} {w w' : World}
set_option maxRecDepth 100000 in
theorem Msk.grown {p bb : Nat} (hp : Sf mb l0 w p) (hg : w.grownBy w' (some p)) (hm : Msk mb l0 w bb) : Msk mb l0 w' bb :=
  hm.same hg.size (hg.block mb hm.mlt (by simp; exact Ne.symm hp.ne)) (hg.block bb hm.lt (by simp; exact Ne.symm (hp.off bb hm)))
set_option maxRecDepth 100000 in
theorem Sf.grown {p q : Nat} (hp : Sf mb l0 w p) (hg : w.grownBy w' (some p)) (hq : Sf mb l0 w q) : Sf mb l0 w' q := by
  obtain ⟨bb, hm⟩ := hp.is
  have m' := hm.grown hp hg
  exact ⟨by have := hq.lt; have := hg.size; omega, hq.ne, fun b2 m2 => by rw [← m'.one m2]; exact hq.off bb hm, bb, m'⟩
set_option maxRecDepth 100000 in
theorem Gm.grown {a : World} {p : Nat} (g : Gm mb l0 a w) (hp : Sf mb l0 w p) (ha : a.heap.size ≤ p) (hg : w.grownBy w' (some p)) : Gm mb l0 a w' := by
  refine ⟨hg.os.trans g.os, hg.tape.trans g.tape, hg.output.trans g.output, Nat.le_trans g.size hg.size, fun bb hm => ?_⟩
  obtain ⟨b1, m1, e1, k1⟩ := g.to bb hm
  have := g.size
  exact ⟨b1, m1.grown hp hg, e1, fun k hk h1 h2 => by rw [hg.block k (by omega) (by simp; omega)]; exact k1 k hk h1 h2⟩
set_option maxRecDepth 100000 in
theorem Tab.same (h : Tab w) (hs : w'.heap[1]? = w.heap[1]?) (hz : w.heap.size ≤ w'.heap.size) : Tab w' := by
  refine ⟨fun k hk => ?_, by have := h.lt; omega⟩
  have := h.cell k hk
  simp only [World.cell?, hs] at *
  exact this
end
/-- What stands while a text is turned. -/
structure UE (mb : Nat) (l0 key : List UInt8) (N cap : Nat) (w0 w : World) (o d : List UInt8) : Prop where
  kk : Row w N 23 (ag key)
  ro : Row w (N + 1) 23 (ag o)
  rr : Room w (N + 1 + 1) 23 16
  bu : Buf w (N + 1 + 1 + 1) cap d
  tb : Tab w
  s1 : Sf mb l0 w 1
  f0 : Sf mb l0 w N
  f1 : Sf mb l0 w (N + 1)
  f2 : Sf mb l0 w (N + 1 + 1)
  f3 : Sf mb l0 w (N + 1 + 1 + 1)
  g : Gm mb l0 w0 w
  n1 : 1 < N
  nz : w0.heap.size = N
section
variable {mb : Nat} {l0 key : List UInt8} {N cap : Nat} {w0 w w' : World} {o d : List UInt8}
set_option maxRecDepth 100000 in
theorem UE.go (h : UE mb l0 key N cap w0 w o d) (g : Gm mb l0 w w') : UE mb l0 key N cap w0 w' o d :=
  ⟨h.f0.row g h.kk, h.f1.row g h.ro, h.f2.room g h.rr, h.bu.same (h.f3.keep g).2, h.tb.go h.s1 g, h.s1.go g, h.f0.go g, h.f1.go g, h.f2.go g, h.f3.go g, h.g.trans g, h.n1, h.nz⟩
set_option maxRecDepth 100000 in
theorem UE.setO (h : UE mb l0 key N cap w0 w o d) (o' : List UInt8) : UE mb l0 key N cap w0 (w.setRow (N + 1) (ag o')) o' d := by
  have := h.n1
  have := h.nz
  exact ⟨h.kk.setRowOther _ _ (by omega), h.ro.setRow _, h.rr.setRowOther _ _ (by omega), h.bu.same (setRow_other _ _ _ _ (by omega)), h.tb.set _ (by omega) _, h.f1.set h.s1 _, h.f1.set h.f0 _, h.f1.set h.f1 _, h.f1.set h.f2 _, h.f1.set h.f3 _, h.g.setRow h.f1 (by omega) _, h.n1, h.nz⟩
set_option maxRecDepth 100000 in
theorem UE.set (h : UE mb l0 key N cap w0 w o d) (p : Nat) (hp : Sf mb l0 w p) (hN : N + 1 + 1 + 1 < p) (c : Array Value) : UE mb l0 key N cap w0 (w.setRow p c) o d := by
  have := h.n1
  have := h.nz
  exact ⟨h.kk.setRowOther _ _ (by omega), h.ro.setRowOther _ _ (by omega), h.rr.setRowOther _ _ (by omega), h.bu.same (setRow_other _ _ _ _ (by omega)), h.tb.set _ (by omega) _, hp.set h.s1 _, hp.set h.f0 _, hp.set h.f1 _, hp.set h.f2 _, hp.set h.f3 _, h.g.setRow hp (by omega) _, h.n1, h.nz⟩
set_option maxRecDepth 100000 in
theorem UE.app (h : UE mb l0 key N cap w0 w o d) (hg : w.grownBy w' (some (N + 1 + 1 + 1))) (d' : List UInt8) (hb : Buf w' (N + 1 + 1 + 1) cap d') : UE mb l0 key N cap w0 w' o d' := by
  have := h.n1
  have := h.nz
  have hk : ∀ b, Sf mb l0 w b → b ≠ N + 1 + 1 + 1 → w'.heap[b]? = w.heap[b]? := fun b hs hne => hg.block b hs.lt (by simp; exact hne)
  exact ⟨h.kk.same (hk _ h.f0 (by omega)), h.ro.same (hk _ h.f1 (by omega)), h.rr.same (hk _ h.f2 (by omega)), hb, h.tb.same (hk _ h.s1 (by omega)) hg.size, h.f3.grown hg h.s1, h.f3.grown hg h.f0, h.f3.grown hg h.f1, h.f3.grown hg h.f2, h.f3.grown hg h.f3, h.g.grown h.f3 (by omega) hg, h.n1, h.nz⟩
set_option maxRecDepth 100000 in
theorem Bts.app {v : Value} {l : List UInt8} {p : Nat} (h : Bts (Old mb l0 N w) w v l) (hp : Sf mb l0 w p) (hN : N ≤ p) (hg : w.grownBy w' (some p)) : Bts (Old mb l0 N w') w' v l :=
  h.keep fun b hb => ⟨⟨hp.grown hg hb.1, hb.2⟩, hg.block b hb.1.lt (by simp; have := hb.2; omega)⟩
end

set_option maxRecDepth 100000 in
set_option maxHeartbeats 4000000 in
theorem turn_any (fn : Nat) (hfn : ∀ args w, (callFunc fn args).run Tryd.prog w = .ok (.enter fn args) w) (F : List UInt8 → List UInt8) (mb : Nat) (l0 key off : List UInt8) (hF : ∀ b, b.length = 16 → (F b).length = 16 ∧ ∀ w, Calls Tryd.prog fn #[.agg (ag key), .agg (ag b)] w fun e w' => e = .returned (.agg (ag (F b))) ∧ Below w.heap.size w w')
    (hl0 : l0.length = 16) (hkey : key.length = 16) (hoff : off.length = 16) (vv : Value) (l : List UInt8) (hmax : l.length ≤ 65536) (w : World) (ht : Tab w) (hs1 : Sf mb l0 w 1) (hB : Bts (Sf mb l0 w) w vv l) :
    Calls Tryd.prog 47 #[.agg (ag key), .func (.func fn) #[] #[], mskFn mb, .agg (ag off), vv] w fun e w' => ∃ g, e = .returned (.tuple #[.slice (some ⟨g, 0, none⟩) l.length (l.length + 16), .agg (ag (Gf.turnFrom F key l0 1 off l).2)]) ∧ Buf w' g (l.length + 16) (Gf.turnFrom F key l0 1 off l).1 ∧ Sf mb l0 w' g ∧ w.heap.size ≤ g ∧ Gm mb l0 w w' := by
  have lRR := Gf.turnFrom_len F key l0 1 off l hoff
  obtain ⟨R1, hR1⟩ : ∃ R1, (Gf.turnFrom F key l0 1 off l).1 = R1 := ⟨_, rfl⟩
  obtain ⟨R2, hR2⟩ : ∃ R2, (Gf.turnFrom F key l0 1 off l).2 = R2 := ⟨_, rfl⟩
  rw [hR1, hR2] at lRR
  rw [hR1, hR2]
  have hR : Box' ([] ++ (Gf.turnFrom F key l0 1 off l).1 = R1 ∧ (Gf.turnFrom F key l0 1 off l).2 = R2) := ⟨by rw [List.nil_append]; exact hR1, hR2⟩
  clear hR1 hR2
  obtain ⟨n0, hn0⟩ : ∃ n0, l.length = n0 := ⟨_, rfl⟩
  have hBc := hB
  obtain ⟨a0, c0, rfl, hcap0, _⟩ := hBc
  rw [hn0] at lRR hmax hcap0 hB
  rw [hn0]
  obtain ⟨i5, hi5, hz5, hs5, hb5⟩ : ∃ i, Tryd.prog.info? 5 = some i ∧ i.zero = some (.int .u8 0) ∧ i.size = 1 ∧ i.bytes = 1 := ⟨_, rfl, by kernel_rfl, by kernel_rfl, by kernel_rfl⟩
  go_enter Tryd.func47, Tryd.ntmps47
  go_wp2_with (refine wpList_make_own _ rfl _ (.tmp 20) 26 rfl 0 5 i5 _ 1 Tryd.underlying26 hi5 hz5 hs5 _ _ _ (n0 + 16) rfl rfl (show ((n0 : Int) + 16) = ((n0 + 16 : Nat) : Int) by omega) (by rw [hb5]; omega) (by unfold maxLen; omega) (Nat.zero_le _) (fun W hown hgr => ?_))
  have hd : UE mb l0 key w.heap.size (n0 + 16) w W off [] ∧ Bts (Old mb l0 w.heap.size W) W (.slice a0 n0 c0) l := by
    obtain ⟨bb, hm⟩ := hs1.is
    have hlt := ht.lt
    have b0 : Below w.heap.size w (((w.alloc (.cells (ag key) 23)).alloc (.cells (ag off) 23)).alloc (.cells (ag (Gf.zeros 16)) 23)) := (((Below.refl _ _).alloc (Nat.le_refl _) _).alloc (by simp) _).alloc (by simp; omega) _
    have k0 : Row (((w.alloc (.cells (ag key) 23)).alloc (.cells (ag off) 23)).alloc (.cells (ag (Gf.zeros 16)) 23)) w.heap.size 23 (ag key) := ((Row.new _ _ _).alloc _).alloc _
    have k1 : Row (((w.alloc (.cells (ag key) 23)).alloc (.cells (ag off) 23)).alloc (.cells (ag (Gf.zeros 16)) 23)) (w.heap.size + 1) 23 (ag off) := (Row.made _ _ _ _ _ rfl (by simp)).alloc _
    have k2 : Room (((w.alloc (.cells (ag key) 23)).alloc (.cells (ag off) 23)).alloc (.cells (ag (Gf.zeros 16)) 23)) (w.heap.size + 1 + 1) 23 16 := Room.made _ _ _ _ _ rfl (by simp)
    have hz0 : (((w.alloc (.cells (ag key) 23)).alloc (.cells (ag off) 23)).alloc (.cells (ag (Gf.zeros 16)) 23)).heap.size = w.heap.size + 1 + 1 + 1 := by simp
    have hgr' : (((w.alloc (.cells (ag key) 23)).alloc (.cells (ag off) 23)).alloc (.cells (ag (Gf.zeros 16)) 23)).grownBy W none := hgr
    have hown' : W.ownsRow 0 5 1 (.slice (some ⟨(((w.alloc (.cells (ag key) 23)).alloc (.cells (ag off) 23)).alloc (.cells (ag (Gf.zeros 16)) 23)).heap.size, 0, none⟩) 0 (n0 + 16)) 0 [] := hown
    rw [hz0] at hown'
    have hbw : Below w.heap.size w W := b0.grown hgr' (by rw [hz0]; omega) (fun k hk => by cases hk)
    have g1 : Gm mb l0 w W := Gm.of hbw
    have hsame : ∀ k, k < w.heap.size + 1 + 1 + 1 → W.heap[k]? = (((w.alloc (.cells (ag key) 23)).alloc (.cells (ag off) 23)).alloc (.cells (ag (Gf.zeros 16)) 23)).heap[k]? := fun k hk => hgr'.block k (by rw [hz0]; exact hk) (by simp)
    obtain ⟨b2, m2, e2, _⟩ := g1.to bb hm
    have hme := hm.mlt
    have hbe : b2 < w.heap.size := by
      have := (hm.same hbw.size (hbw.block mb hm.mlt) (hbw.block bb hm.lt)).one m2
      have := hm.lt
      omega
    have hgl : w.heap.size + 1 + 1 + 1 < W.heap.size := (hown'.lt _ rfl).2
    have hf : ∀ k, w.heap.size ≤ k → k < W.heap.size → Sf mb l0 W k := fun k h1 h2 => ⟨h2, by omega, fun b3 m3 => by rw [← m2.one m3]; omega, b2, m2⟩
    exact ⟨⟨k0.same (hsame _ (by omega)), k1.same (hsame _ (by omega)), k2.same (hsame _ (by omega)), hown', ht.below hbw hlt, hs1.go g1, hf _ (by omega) (by omega), hf _ (by omega) (by omega), hf _ (by omega) (by omega), hf _ (by omega) (by omega), g1, hlt, rfl⟩, hB.keep fun b h => ⟨⟨h.go g1, h.lt⟩, (h.keep g1).2⟩⟩
  clear hown hgr hB ht hs1
  obtain ⟨hd1, hd2⟩ := hd
  generalize hN : w.heap.size = N at *
  go_loopw [4, 12, 13] (fun s q c wr => ∃ (i : Nat) (l o d : List UInt8), c = .int .i64 (i : Int) ∧ 0 < i ∧ i + l.length ≤ 200000 ∧ q = .slice (some ⟨N + 1 + 1 + 1, 0, none⟩) d.length (n0 + 16) ∧ d.length + l.length = n0 ∧ Bts (Old mb l0 N wr) wr s l ∧ o.length = 16 ∧ Box' (d ++ (Gf.turnFrom F key l0 i o l).1 = R1 ∧ (Gf.turnFrom F key l0 i o l).2 = R2) ∧ UE mb l0 key N (n0 + 16) w wr o d) (fun s _ _ _ => sliceLen s)
  case atStart => exact ⟨1, l, off, [], rfl, by omega, by omega, rfl, by simp; omega, hd2, hoff, hR, hd1⟩
  case round =>
    clear hd1 hd2 hR hn0
    obtain ⟨i, l, o, d, rfl, hi1, hi2, rfl, hdl, hB, lo, hR, hD⟩ := hrel
    have hBc := hB
    obtain ⟨a, c, rfl, hcap, _⟩ := hBc
    have hmax' : l.length ≤ 100000 := by omega
    by_cases h16 : 16 ≤ l.length
    · have hc16 : (16 : Int) ≤ (l.length : Int) := by omega
      have lT : (l.take 16).length = 16 := by rw [List.length_take]; omega
      have lO := Gf.bxor_len o (Gf.ell l0 (2 + Gf.ntz i))
      have hR1 : Box' (d ++ Gf.bxor (F (Gf.bxor (l.take 16) (Gf.bxor o (Gf.ell l0 (2 + Gf.ntz i))))) (Gf.bxor o (Gf.ell l0 (2 + Gf.ntz i))) ++ (Gf.turnFrom F key l0 (i + 1) (Gf.bxor o (Gf.ell l0 (2 + Gf.ntz i))) (l.drop 16)).1 = R1 ∧ (Gf.turnFrom F key l0 (i + 1) (Gf.bxor o (Gf.ell l0 (2 + Gf.ntz i))) (l.drop 16)).2 = R2) := ⟨by
        have h := hR.out
        rw [Gf.turnFrom_eq, dif_pos h16] at h
        exact ⟨by rw [List.append_assoc]; exact h.1, h.2⟩⟩
      have hdr : (l.drop 16).length = l.length - 16 := List.length_drop
      have hB' : ∀ ob, Bts (Old mb l0 N wr) (wr.alloc ob) (.slice a l.length c) l := fun ob => hB.keep fun b h => ⟨h, Below.heap_alloc _ _ _ h.1.lt⟩
      have hpl : N + 1 + 1 + 1 < wr.heap.size := hD.f3.lt
      obtain ⟨bm, hmm⟩ := hD.s1.is
      go_wp2_with fail
      refine (cut_any _ _ l h16 hmax' _ (hB' _)).mono ?_
      rintro e w1 ⟨v', rfl, hB1, hb1⟩
      have hms : sliceLen v' < l.length := by
        obtain ⟨a', c', e', _⟩ := hB1
        rw [e']; show (l.drop 16).length < l.length; omega
      have hba : Below wr.heap.size wr w1 := ((Below.refl _ _).alloc (Nat.le_refl _) _).trans (hb1.mono (by simp))
      have ga : Gm mb l0 wr w1 := Gm.of hba
      have hD1 := hD.go ga
      have hSp : Sf mb l0 w1 wr.heap.size := (Sf.new hmm _).go (Gm.of hb1)
      have hRp : Room w1 wr.heap.size 23 16 := Room.below (Room.new _ _ _ _ rfl) hb1 (by simp)
      have hB2 : Bts (Old mb l0 N w1) w1 v' (l.drop 16) := hB1.keep fun b h => ⟨⟨h.1.go ga, h.2⟩, hb1.block b (by have := h.1.lt; simp; omega)⟩
      generalize wr.heap.size = p at *
      have hB3 := hB2.set p hSp (by omega) (ag (l.take 16))
      have hD2 := hD1.set p hSp hpl (ag (l.take 16))
      have rB := hRp.setRow (ag (l.take 16))
      have sB := hSp.set hSp (ag (l.take 16))
      clear hB hB' hB1 hB2 hD hb1 hR hba ga hmm hD1 hSp
      go_wp2_with (refine wpList_store_row rfl 23 (.tmp 14) (.tmp 30) rfl _ rfl _ rfl _ _ hRp Tryd.info23 (by rw [ag_size]; exact lT) (ag_one _) ?_)
      clear hRp
      generalize World.setRow _ _ _ = W2 at *
      refine wp_region_grow 6 (by kernel_rfl) (by kernel_rfl) (Gm mb l0) (fun w1 => UE mb l0 key N (n0 + 16) w w1 o d ∧ Bts (Old mb l0 N w1) w1 v' (l.drop 16) ∧ Row w1 p 23 (ag (l.take 16)) ∧ Sf mb l0 w1 p) (fun k w1 v => match k with
        | 0 => v = .agg (ag o)
        | 1 => v = mskFn mb
        | 2 => v = .int .i64 (i : Int)
        | 3 => v = .int .i64 ((2 + Gf.ntz i : Nat) : Int)
        | 4 => v = .agg (ag (Gf.ell l0 (2 + Gf.ntz i)))
        | 5 => v = .agg (ag (Gf.bxor o (Gf.ell l0 (2 + Gf.ntz i))))
        | _ => True) ?_ ?_ ?_ ?_ ?_
      · rintro w1 w2 hb ⟨c1, c2, c3, c4⟩
        exact ⟨c1.go hb, c2.go hb, c4.row hb c3, c4.go hb⟩
      · intro k v w1 w2 hC1 hb h
        match k, h with
        | 0, h => exact h
        | 1, h => exact h
        | 2, h => exact h
        | 3, h => exact h
        | 4, h => exact h
        | 5, h => exact h
        | k + 6, h => trivial
      · exact ⟨hD2.go (Gm.refl _ _ _).drew, hB3.go (Gm.refl _ _ _).drew, rB.drew, sB.go (Gm.refl _ _ _).drew⟩
      · refine ⟨?_, ?_, ?_, ?_, ?_, ?_, trivial⟩
        · intro f w1 hC hd KK hK
          simp only [List.take_succ_cons, List.take_zero, setAll, List.setIfInBounds_toArray, List.set_cons_succ, List.set_cons_zero, Nat.zero_add, Nat.reduceAdd] at hK ⊢
          refine wp_load_row 23 _ rfl _ rfl _ _ (hC.1.ro) _ Tryd.underlying23 rfl 16 Tryd.info23 (by rw [ag_size]; exact lo) ?_
          exact hK _ _ rfl (Gm.refl _ _ _)
        · intro f w1 hC hd KK hK
          simp only [List.take_succ_cons, List.take_zero, setAll, List.setIfInBounds_toArray, List.set_cons_succ, List.set_cons_zero, Nat.zero_add, Nat.reduceAdd] at hK ⊢
          refine wp_of_quiet rfl ?_
          go_big_quiet_step (fail)
          exact wpQuiet_nil (hK _ _ rfl (Gm.refl _ _ _))
        · intro f w1 hC hd KK hK
          simp only [List.take_succ_cons, List.take_zero, setAll, List.setIfInBounds_toArray, List.set_cons_succ, List.set_cons_zero, Nat.zero_add, Nat.reduceAdd] at hK ⊢
          refine wp_of_quiet rfl ?_
          go_big_quiet_step (fail)
          exact wpQuiet_nil (hK _ _ rfl (Gm.refl _ _ _))
        · intro f w1 hC hd KK hK
          have g2 : f 2 = _ := hd 2 rfl
          simp only [List.take_succ_cons, List.take_zero, setAll, List.setIfInBounds_toArray, List.set_cons_succ, List.set_cons_zero, Nat.zero_add, Nat.reduceAdd, g2] at hK ⊢
          exact wp_call 67 #[.int .i64 (i : Int)] (by simp [go_sem]) _ _ (rank_any i hi1 (by omega) w1 hC.1.tb) (fun w' hb => by subst hb; exact hK _ _ rfl (Gm.refl _ _ _))
        · intro f w1 hC hd KK hK
          have g1 : f 1 = _ := hd 1 rfl
          have g3 : f 3 = _ := hd 3 rfl
          simp only [List.take_succ_cons, List.take_zero, setAll, List.setIfInBounds_toArray, List.set_cons_succ, List.set_cons_zero, Nat.zero_add, Nat.reduceAdd, g1, g3] at hK ⊢
          exact wp_call 63 #[.int .i64 ((2 + Gf.ntz i : Nat) : Int), .pointer (some ⟨mb, 0, none⟩)] (by simp [go_sem, mskFn]) _ _ (maskAt hl0 hC.1.s1 _ (by have := ntz_lt i; omega)) (fun w' hb => hK _ _ rfl hb)
        · intro f w1 hC hd KK hK
          have g0 : f 0 = _ := hd 0 rfl
          have g4 : f 4 = _ := hd 4 rfl
          simp only [List.take_succ_cons, List.take_zero, setAll, List.setIfInBounds_toArray, List.set_cons_succ, List.set_cons_zero, Nat.zero_add, Nat.reduceAdd, g0, g4] at hK ⊢
          exact wp_call 66 #[.agg (ag o), .agg (ag (Gf.ell l0 (2 + Gf.ntz i)))] (by simp [go_sem]) _ _ (ocbAgainst_any o _ lo (Gf.ell_len l0 hl0 _) w1) (fun w' hb => hK _ _ rfl (Gm.of hb))
      · intro f w1 hC hv
        have g0 : f 0 = _ := hv 0 (by decide)
        have g1 : f 1 = _ := hv 1 (by decide)
        have g2 : f 2 = _ := hv 2 (by decide)
        have g3 : f 3 = _ := hv 3 (by decide)
        have g4 : f 4 = _ := hv 4 (by decide)
        have g5 : f 5 = _ := hv 5 (by decide)
        simp only [List.take_succ_cons, List.take_zero, List.drop_succ_cons, List.drop_zero, setAll, List.setIfInBounds_toArray, List.set_cons_succ, List.set_cons_zero, Nat.zero_add, Nat.reduceAdd, g0, g1, g2, g3, g4, g5]
        clear g0 g1 g2 g3 g4 g5 hv
        obtain ⟨c1, c2, c3, c4⟩ := hC
        have q1 := c1.setO (Gf.bxor o (Gf.ell l0 (2 + Gf.ntz i)))
        have q2 := c2.set (N + 1) c1.f1 (by omega) (ag (Gf.bxor o (Gf.ell l0 (2 + Gf.ntz i))))
        have q3 := c3.setRowOther (N + 1) (ag (Gf.bxor o (Gf.ell l0 (2 + Gf.ntz i)))) (by omega)
        have q4 := c1.f1.set c4 (ag (Gf.bxor o (Gf.ell l0 (2 + Gf.ntz i))))
        have p1 := c1.ro.room (n := 16) (by rw [ag_size]; exact lo)
        clear hD2 hB3 rB sB
        generalize Gf.bxor o (Gf.ell l0 (2 + Gf.ntz i)) = o2 at *
        go_wp2_with (refine wpList_store_row rfl 23 (.tmp 8) (.tmp 37) rfl _ rfl _ rfl _ _ p1 Tryd.info23 (by rw [ag_size]; exact lO) (ag_one _) ?_)
        clear c1 c2 c3 c4 p1
        generalize World.setRow _ _ _ = W3 at *
        refine wp_region_grow 8 (by kernel_rfl) (by kernel_rfl) (Gm mb l0) (fun w1 => UE mb l0 key N (n0 + 16) w w1 o2 d ∧ Bts (Old mb l0 N w1) w1 v' (l.drop 16) ∧ Row w1 p 23 (ag (l.take 16)) ∧ Sf mb l0 w1 p) (fun k w1 v => match k with
          | 0 => v = .func (.func fn) #[] #[]
          | 1 => v = .agg (ag key)
          | 2 => v = .agg (ag (l.take 16))
          | 3 => v = .agg (ag o2)
          | 4 => v = .agg (ag (Gf.bxor (l.take 16) o2))
          | 5 => v = .agg (ag (F (Gf.bxor (l.take 16) o2)))
          | 6 => v = .agg (ag o2)
          | 7 => v = .agg (ag (Gf.bxor (F (Gf.bxor (l.take 16) o2)) o2))
          | _ => True) ?_ ?_ ?_ ?_ ?_
        · rintro w1 w2 hb ⟨c1, c2, c3, c4⟩
          exact ⟨c1.go hb, c2.go hb, c4.row hb c3, c4.go hb⟩
        · intro k v w1 w2 hC1 hb h
          match k, h with
          | 0, h => exact h
          | 1, h => exact h
          | 2, h => exact h
          | 3, h => exact h
          | 4, h => exact h
          | 5, h => exact h
          | 6, h => exact h
          | 7, h => exact h
          | k + 8, h => trivial
        · exact ⟨q1.go (Gm.refl _ _ _).drew, q2.go (Gm.refl _ _ _).drew, q3.drew, q4.go (Gm.refl _ _ _).drew⟩
        · refine ⟨?_, ?_, ?_, ?_, ?_, ?_, ?_, ?_, trivial⟩
          · intro f w1 hC hd KK hK
            simp only [List.take_succ_cons, List.take_zero, setAll, List.setIfInBounds_toArray, List.set_cons_succ, List.set_cons_zero, Nat.zero_add, Nat.reduceAdd] at hK ⊢
            refine wp_of_quiet rfl ?_
            go_big_quiet_step (fail)
            exact wpQuiet_nil (hK _ _ rfl (Gm.refl _ _ _))
          · intro f w1 hC hd KK hK
            simp only [List.take_succ_cons, List.take_zero, setAll, List.setIfInBounds_toArray, List.set_cons_succ, List.set_cons_zero, Nat.zero_add, Nat.reduceAdd] at hK ⊢
            refine wp_load_row 23 _ rfl _ rfl _ _ (hC.1.kk) _ Tryd.underlying23 rfl 16 Tryd.info23 (by rw [ag_size]; exact hkey) ?_
            exact hK _ _ rfl (Gm.refl _ _ _)
          · intro f w1 hC hd KK hK
            simp only [List.take_succ_cons, List.take_zero, setAll, List.setIfInBounds_toArray, List.set_cons_succ, List.set_cons_zero, Nat.zero_add, Nat.reduceAdd] at hK ⊢
            refine wp_load_row 23 _ rfl _ rfl _ _ (hC.2.2.1) _ Tryd.underlying23 rfl 16 Tryd.info23 (by rw [ag_size]; exact lT) ?_
            exact hK _ _ rfl (Gm.refl _ _ _)
          · intro f w1 hC hd KK hK
            simp only [List.take_succ_cons, List.take_zero, setAll, List.setIfInBounds_toArray, List.set_cons_succ, List.set_cons_zero, Nat.zero_add, Nat.reduceAdd] at hK ⊢
            refine wp_load_row 23 _ rfl _ rfl _ _ (hC.1.ro) _ Tryd.underlying23 rfl 16 Tryd.info23 (by rw [ag_size]; exact lO) ?_
            exact hK _ _ rfl (Gm.refl _ _ _)
          · intro f w1 hC hd KK hK
            have g2 : f 2 = _ := hd 2 rfl
            have g3 : f 3 = _ := hd 3 rfl
            simp only [List.take_succ_cons, List.take_zero, setAll, List.setIfInBounds_toArray, List.set_cons_succ, List.set_cons_zero, Nat.zero_add, Nat.reduceAdd, g2, g3] at hK ⊢
            exact wp_call 66 #[.agg (ag (l.take 16)), .agg (ag o2)] (by simp [go_sem]) _ _ (ocbAgainst_any _ _ lT lO w1) (fun w' hb => hK _ _ rfl (Gm.of hb))
          · intro f w1 hC hd KK hK
            have g0 : f 0 = _ := hd 0 rfl
            have g1 : f 1 = _ := hd 1 rfl
            have g4 : f 4 = _ := hd 4 rfl
            simp only [List.take_succ_cons, List.take_zero, setAll, List.setIfInBounds_toArray, List.set_cons_succ, List.set_cons_zero, Nat.zero_add, Nat.reduceAdd, g0, g1, g4] at hK ⊢
            exact wp_call fn #[.agg (ag key), .agg (ag (Gf.bxor (l.take 16) o2))] (by simp [go_sem, hfn]) _ _ ((hF _ (Gf.bxor_len _ _)).2 w1) (fun w' hb => hK _ _ rfl (Gm.of hb))
          · intro f w1 hC hd KK hK
            simp only [List.take_succ_cons, List.take_zero, setAll, List.setIfInBounds_toArray, List.set_cons_succ, List.set_cons_zero, Nat.zero_add, Nat.reduceAdd] at hK ⊢
            refine wp_load_row 23 _ rfl _ rfl _ _ (hC.1.ro) _ Tryd.underlying23 rfl 16 Tryd.info23 (by rw [ag_size]; exact lO) ?_
            exact hK _ _ rfl (Gm.refl _ _ _)
          · intro f w1 hC hd KK hK
            have g5 : f 5 = _ := hd 5 rfl
            have g6 : f 6 = _ := hd 6 rfl
            simp only [List.take_succ_cons, List.take_zero, setAll, List.setIfInBounds_toArray, List.set_cons_succ, List.set_cons_zero, Nat.zero_add, Nat.reduceAdd, g5, g6] at hK ⊢
            exact wp_call 66 #[.agg (ag (F (Gf.bxor (l.take 16) o2))), .agg (ag o2)] (by simp [go_sem]) _ _ (ocbAgainst_any _ _ (hF _ (Gf.bxor_len _ _)).1 lO w1) (fun w' hb => hK _ _ rfl (Gm.of hb))
        · intro f w1 hC hv
          have g0 : f 0 = _ := hv 0 (by decide)
          have g1 : f 1 = _ := hv 1 (by decide)
          have g2 : f 2 = _ := hv 2 (by decide)
          have g3 : f 3 = _ := hv 3 (by decide)
          have g4 : f 4 = _ := hv 4 (by decide)
          have g5 : f 5 = _ := hv 5 (by decide)
          have g6 : f 6 = _ := hv 6 (by decide)
          have g7 : f 7 = _ := hv 7 (by decide)
          simp only [List.take_succ_cons, List.take_zero, List.drop_succ_cons, List.drop_zero, setAll, List.setIfInBounds_toArray, List.set_cons_succ, List.set_cons_zero, Nat.zero_add, Nat.reduceAdd, g0, g1, g2, g3, g4, g5, g6, g7]
          clear g0 g1 g2 g3 g4 g5 g6 g7 hv
          obtain ⟨c1, c2, c3, c4⟩ := hC
          have lX := Gf.bxor_len (F (Gf.bxor (l.take 16) o2)) o2
          have z1 := c1.set p c4 hpl (ag (Gf.bxor (F (Gf.bxor (l.take 16) o2)) o2))
          have z2 := c2.set p c4 (by omega) (ag (Gf.bxor (F (Gf.bxor (l.take 16) o2)) o2))
          have z3 := c3.setRow (ag (Gf.bxor (F (Gf.bxor (l.take 16) o2)) o2))
          have p1 := c3.room (n := 16) (by rw [ag_size]; exact lT)
          clear q1 q2 q3 q4 c1 c2 c3 c4
          generalize (Gf.bxor (F (Gf.bxor (l.take 16) o2)) o2) = x at *
          have hz := z1.f3
          have hcl : ∀ j u, (x.map B)[j]? = some u → (World.setRow w1 p (ag x)).cell? ((⟨p, 0, none⟩ : Addr).add j) = some u := fun j u hu => by
            rw [Addr.add_mid, z3.cell]
            simpa [ag] using hu
          have hone : ∀ u ∈ x.map B, u.oneCell' = true := fun u hu => by obtain ⟨y, _, rfl⟩ := List.mem_map.1 hu; rfl
          have hbu := z1.bu
          go_wp2_with (first
            | (refine wpList_store_row rfl 23 (.tmp 14) (.tmp 45) rfl _ rfl _ rfl _ _ p1 Tryd.info23 (by rw [ag_size]; exact lX) (ag_one _) ?_)
            | (refine wpList_append_fits _ rfl (.tmp 46) (.tmp 47) 26 rfl 0 5 i5 1 Tryd.underlying26 hi5 hs5 (N + 1 + 1 + 1) d.length (n0 + 16) (d.map B) rfl hbu ⟨p, 0, none⟩ 16 16 (x.map B) rfl (by rw [List.length_map, lX]) hcl hone (by omega) (fun w5 ho5 hg5 => ?_))
            | fail)
          rw [← List.map_append] at ho5
          have e16 : d.length + 16 = (d ++ x).length := by rw [List.length_append, lX]
          rw [e16] at ho5
          have y1 := z1.app hg5 (d ++ x) ho5
          have y2 := z2.app hz (by omega) hg5
          clear z1 z2 z3 p1 hcl hbu hg5 ho5
          go_roundw
          case rel => exact ⟨i + 1, l.drop 16, o2, d ++ x, by go_num, by omega, by omega, by rw [List.length_append, lX], by rw [List.length_append]; omega, y2, lO, hR1, y1⟩
          case measure => exact hms
    · have hlen : l.length < 16 := by omega
      have hc16 : ¬ (16 : Int) ≤ (l.length : Int) := by omega
      by_cases hpos : 0 < l.length
      · have hci : (0 : Int) < (l.length : Int) := by omega
        have lO := Gf.bxor_len o (Gf.ell l0 0)
        have hRe : Box' (d ++ Gf.padded l (Gf.encrypt key (Gf.bxor o (Gf.ell l0 0))) l.length = R1 ∧ Gf.bxor o (Gf.ell l0 0) = R2) := ⟨by
          have h := hR.out
          rw [Gf.turnFrom_eq, dif_neg h16, if_pos hpos] at h
          exact h⟩
        clear hR
        go_wp2
        refine wp_region_grow 4 (by kernel_rfl) (by kernel_rfl) (Gm mb l0) (fun w1 => UE mb l0 key N (n0 + 16) w w1 o d ∧ Bts (Old mb l0 N w1) w1 (.slice a l.length c) l) (fun k w1 v => match k with
          | 0 => v = .agg (ag o)
          | 1 => v = mskFn mb
          | 2 => v = .agg (ag (Gf.ell l0 0))
          | 3 => v = .agg (ag (Gf.bxor o (Gf.ell l0 0)))
          | _ => True) ?_ ?_ ?_ ?_ ?_
        · rintro w1 w2 hb ⟨c1, c2⟩
          exact ⟨c1.go hb, c2.go hb⟩
        · intro k v w1 w2 hC1 hb h
          match k, h with
          | 0, h => exact h
          | 1, h => exact h
          | 2, h => exact h
          | 3, h => exact h
          | k + 4, h => trivial
        · exact ⟨hD.go (Gm.refl _ _ _).drew, hB.go (Gm.refl _ _ _).drew⟩
        · refine ⟨?_, ?_, ?_, ?_, trivial⟩
          · intro f w1 hC hd KK hK
            simp only [List.take_succ_cons, List.take_zero, setAll, List.setIfInBounds_toArray, List.set_cons_succ, List.set_cons_zero, Nat.zero_add, Nat.reduceAdd] at hK ⊢
            refine wp_load_row 23 _ rfl _ rfl _ _ (hC.1.ro) _ Tryd.underlying23 rfl 16 Tryd.info23 (by rw [ag_size]; exact lo) ?_
            exact hK _ _ rfl (Gm.refl _ _ _)
          · intro f w1 hC hd KK hK
            simp only [List.take_succ_cons, List.take_zero, setAll, List.setIfInBounds_toArray, List.set_cons_succ, List.set_cons_zero, Nat.zero_add, Nat.reduceAdd] at hK ⊢
            refine wp_of_quiet rfl ?_
            go_big_quiet_step (fail)
            exact wpQuiet_nil (hK _ _ rfl (Gm.refl _ _ _))
          · intro f w1 hC hd KK hK
            have g1 : f 1 = _ := hd 1 rfl
            simp only [List.take_succ_cons, List.take_zero, setAll, List.setIfInBounds_toArray, List.set_cons_succ, List.set_cons_zero, Nat.zero_add, Nat.reduceAdd, g1] at hK ⊢
            exact wp_call 63 #[.int .i64 0, .pointer (some ⟨mb, 0, none⟩)] (by simp [go_sem, mskFn]) _ _ (maskAt hl0 hC.1.s1 0 (by omega)) (fun w' hb => hK _ _ rfl hb)
          · intro f w1 hC hd KK hK
            have g0 : f 0 = _ := hd 0 rfl
            have g2 : f 2 = _ := hd 2 rfl
            simp only [List.take_succ_cons, List.take_zero, setAll, List.setIfInBounds_toArray, List.set_cons_succ, List.set_cons_zero, Nat.zero_add, Nat.reduceAdd, g0, g2] at hK ⊢
            exact wp_call 66 #[.agg (ag o), .agg (ag (Gf.ell l0 0))] (by simp [go_sem]) _ _ (ocbAgainst_any o _ lo (Gf.ell_len l0 hl0 _) w1) (fun w' hb => hK _ _ rfl (Gm.of hb))
        · intro f w1 hC hv
          have g0 : f 0 = _ := hv 0 (by decide)
          have g1 : f 1 = _ := hv 1 (by decide)
          have g2 : f 2 = _ := hv 2 (by decide)
          have g3 : f 3 = _ := hv 3 (by decide)
          simp only [List.take_succ_cons, List.take_zero, List.drop_succ_cons, List.drop_zero, setAll, List.setIfInBounds_toArray, List.set_cons_succ, List.set_cons_zero, Nat.zero_add, Nat.reduceAdd, g0, g1, g2, g3]
          clear g0 g1 g2 g3 hv
          obtain ⟨c1, c2⟩ := hC
          have q1 := c1.setO (Gf.bxor o (Gf.ell l0 0))
          have q2 := c2.set (N + 1) c1.f1 (by omega) (ag (Gf.bxor o (Gf.ell l0 0)))
          have p1 := c1.ro.room (n := 16) (by rw [ag_size]; exact lo)
          clear hD hB
          have lP := Gf.encrypt_len key (Gf.bxor o (Gf.ell l0 0))
          have hE := fun w => encrypt_any key (Gf.bxor o (Gf.ell l0 0)) hkey lO w
          generalize Gf.encrypt key (Gf.bxor o (Gf.ell l0 0)) = pad at *
          generalize Gf.bxor o (Gf.ell l0 0) = o2 at *
          go_wp2_with (first
            | (refine wpList_store_row rfl 23 (.tmp 8) (.tmp 55) rfl _ rfl _ rfl _ _ p1 Tryd.info23 (by rw [ag_size]; exact lO) (ag_one _) ?_)
            | (refine wpList_load_row rfl 23 (.tmp 5) rfl _ rfl _ _ q1.kk _ Tryd.underlying23 rfl 16 Tryd.info23 (by rw [ag_size]; exact hkey) ?_)
            | (refine wpList_load_row rfl 23 (.tmp 8) rfl _ rfl _ _ q1.ro _ Tryd.underlying23 rfl 16 Tryd.info23 (by rw [ag_size]; exact lO) ?_)
            | fail)
          refine (hE _).mono ?_
          rintro e w2 ⟨rfl, hb2⟩
          have q3 := q1.go (Gm.of hb2)
          have q4 := q2.go (Gm.of hb2)
          clear q1 q2 c1 c2 p1 hb2
          have hpl : N + 1 + 1 + 1 < w2.heap.size := q3.f3.lt
          obtain ⟨bm, hmm⟩ := q3.s1.is
          have hSp : Sf mb l0 (w2.alloc (.cells (ag pad) 23)) w2.heap.size := Sf.new hmm _
          have hRp : Row (w2.alloc (.cells (ag pad) 23)) w2.heap.size 23 (ag pad) := Row.new _ _ _
          have q5 := q3.go (Gm.of ((Below.refl _ _).alloc (Nat.le_refl _) (.cells (ag pad) 23)) : Gm mb l0 w2 _)
          have q6 := q4.go (Gm.of ((Below.refl _ _).alloc (Nat.le_refl _) (.cells (ag pad) 23)) : Gm mb l0 w2 _)
          go_wp2_with (first
            | (refine wpList_alloc_row rfl 23 rfl _ _ Tryd.zero23 ?_)
            | (refine wpList_store_row rfl 23 (.tmp 15) (.tmp 58) rfl _ rfl _ rfl _ _ (Room.new _ _ _ _ (by rw [ag_size]; rfl)) Tryd.info23 (by rw [ag_size]; exact lP) (ag_one _) ?_; rw [World.setRow_alloc_new])
            | fail)
          clear q3 q4 hmm
          generalize World.alloc _ _ = W4 at *
          generalize w2.heap.size = pp at *
          have ht0 : Gf.padded l pad 0 = [] := rfl
          go_loopw [12, 61] (fun q cc wr => ∃ k : Nat, k ≤ l.length ∧ cc = .int .i64 (k : Int) ∧ q = .slice (some ⟨N + 1 + 1 + 1, 0, none⟩) (d.length + k) (n0 + 16) ∧ Bts (Old mb l0 N wr) wr (.slice a l.length c) l ∧ Row wr pp 23 (ag pad) ∧ Sf mb l0 wr pp ∧ UE mb l0 key N (n0 + 16) w wr o2 (d ++ Gf.padded l pad k)) (fun _ cc _ => l.length - (intOf cc).toNat)
          case atStart => exact ⟨0, by omega, rfl, rfl, q6, hRp, hSp, by rw [ht0, List.append_nil]; exact q5⟩
          case round =>
            clear q5 q6 hRp hSp ht0
            obtain ⟨k, hk, rfl, rfl, gB, gR, gS, gU⟩ := hrel
            have lPk : (Gf.padded l pad k).length = k := by simp [Gf.padded]
            by_cases hkl : k < l.length
            · obtain ⟨a', c', ev, _, h3⟩ := gB
              injection ev with ev1 ev2 ev3
              subst ev1 ev3
              rcases h3 with rfl | ⟨b, ob, rfl, hSb, hrg⟩
              · simp at hpos
              have hcb := hrg k (B (l.getD k 0)) (by simp [hkl])
              have hcp := gR.byte (k := k) (by omega)
              have hcx : wr.cell? ⟨b, ob + k, none⟩ = some (.int .u8 ((l.getD k 0).toNat : Int)) := hcb
              have hxx := xor_bx (l.getD k 0) (pad.getD k 0)
              have hstep : Gf.padded l pad (k + 1) = Gf.padded l pad k ++ [Gf.bx (l.getD k 0) (pad.getD k 0)] := by simp [Gf.padded, List.range_succ]
              have HS := Box'.mk hstep
              clear hcb hstep
              generalize l.getD k 0 = x at *
              generalize pad.getD k 0 = y at *
              have hla : Below wr.heap.size wr (wr.alloc (.cells #[.int .u8 ((Gf.bx x y).toNat : Int)] 5)) := (Below.refl _ _).alloc (Nat.le_refl _) _
              have gU2 := gU.go (Gm.of hla)
              have gS2 := gS.go (Gm.of hla)
              have gR2 := gR.alloc (.cells #[.int .u8 ((Gf.bx x y).toNat : Int)] 5)
              have gB2 : Bts (Old mb l0 N (wr.alloc (.cells #[.int .u8 ((Gf.bx x y).toNat : Int)] 5))) (wr.alloc (.cells #[.int .u8 ((Gf.bx x y).toNat : Int)] 5)) (.slice (some ⟨b, ob, none⟩) l.length c) l := Bts.go (w := wr) ⟨_, _, rfl, by omega, .inr ⟨b, ob, rfl, hSb, hrg⟩⟩ (Gm.of hla)
              have hnew : (wr.alloc (.cells #[.int .u8 ((Gf.bx x y).toNat : Int)] 5)).cell? ⟨wr.heap.size, 0, none⟩ = some (B (Gf.bx x y)) := (Row.new wr 5 #[.int .u8 ((Gf.bx x y).toNat : Int)]).cell 0
              have hbu := gU2.bu
              have hdk : (d ++ Gf.padded l pad k).length = d.length + k := by rw [List.length_append, lPk]
              unfold Buf at hbu
              rw [hdk] at hbu
              clear gU gS gR
              go_wp2_with (first
                | (refine wpList_append_fits _ rfl (.tmp 66) (.tmp 72) 26 rfl 0 5 i5 1 Tryd.underlying26 hi5 hs5 (N + 1 + 1 + 1) (d.length + k) (n0 + 16) ((d ++ Gf.padded l pad k).map B) rfl hbu ⟨wr.heap.size, 0, none⟩ 1 1 [B (Gf.bx x y)] rfl rfl (fun j u hu => ?_) (fun u hu => ?_) (by omega) (fun w5 ho5 hg5 => ?_))
                | fail)
              · exact hu
              · simp at hu; subst hu; rfl
              · have hone : (d ++ Gf.padded l pad k).map B ++ [B (Gf.bx x y)] = (d ++ Gf.padded l pad (k + 1)).map B := by rw [HS.out]; simp
                rw [hone] at ho5
                have lP1 : (Gf.padded l pad (k + 1)).length = k + 1 := by simp [Gf.padded]
                have hb5 : Buf w5 (N + 1 + 1 + 1) (n0 + 16) (d ++ Gf.padded l pad (k + 1)) := by unfold Buf; rw [List.length_append, lP1]; exact ho5
                have y1 := gU2.app hg5 _ hb5
                have y2 := gB2.app gU2.f3 (by omega) hg5
                have y3 := gR2.same (hg5.block pp gS2.lt (by simp; omega))
                have y4 := gU2.f3.grown hg5 gS2
                clear gU2 gB2 gR2 gS2 hnew hbu ho5 hg5 hb5 hone
                go_wp2
                go_roundw
                case rel => exact ⟨k + 1, by omega, by go_num, rfl, y2, y3, y4, y1⟩
                case measure => simp [intOf]; omega
            · have hkk : k = l.length := by omega
              subst hkk
              clear gB gR gS
              have hdk : (d ++ Gf.padded l pad l.length).length = d.length + l.length := by rw [List.length_append, lPk]
              rw [← hdk]
              go_wp2
              refine wp_region_grow 3 (by kernel_rfl) (by kernel_rfl) (Gm mb l0) (fun w1 => UE mb l0 key N (n0 + 16) w w1 o2 (d ++ Gf.padded l pad l.length)) (fun k w1 v => match k with
                | 0 => v = .slice (some ⟨N + 1 + 1 + 1, 0, none⟩) (d ++ Gf.padded l pad l.length).length (n0 + 16)
                | 1 => v = .agg (ag o2)
                | 2 => v = .slice (some ⟨N + 1 + 1 + 1, 0, none⟩) (d ++ Gf.padded l pad l.length).length (n0 + 16)
                | _ => True) ?_ ?_ ?_ ?_ ?_
              · rintro w1 w2 hb c1
                exact c1.go hb
              · intro k v w1 w2 hC1 hb h
                match k, h with
                | 0, h => exact h
                | 1, h => exact h
                | 2, h => exact h
                | k + 3, h => trivial
              · exact gU.go (Gm.refl _ _ _).drew
              · refine ⟨?_, ?_, ?_, trivial⟩
                · intro f w1 hC hd KK hK
                  simp only [List.take_succ_cons, List.take_zero, setAll, List.setIfInBounds_toArray, List.set_cons_succ, List.set_cons_zero, Nat.zero_add, Nat.reduceAdd] at hK ⊢
                  refine wp_of_quiet rfl ?_
                  go_big_quiet_step (fail)
                  exact wpQuiet_nil (hK _ _ rfl (Gm.refl _ _ _))
                · intro f w1 hC hd KK hK
                  simp only [List.take_succ_cons, List.take_zero, setAll, List.setIfInBounds_toArray, List.set_cons_succ, List.set_cons_zero, Nat.zero_add, Nat.reduceAdd] at hK ⊢
                  refine wp_load_row 23 _ rfl _ rfl _ _ (hC.ro) _ Tryd.underlying23 rfl 16 Tryd.info23 (by rw [ag_size]; exact lO) ?_
                  exact hK _ _ rfl (Gm.refl _ _ _)
                · intro f w1 hC hd KK hK
                  have g0 : f 0 = _ := hd 0 rfl
                  simp only [List.take_succ_cons, List.take_zero, setAll, List.setIfInBounds_toArray, List.set_cons_succ, List.set_cons_zero, Nat.zero_add, Nat.reduceAdd, g0] at hK ⊢
                  refine wp_of_quiet rfl ?_
                  go_big_quiet_step (fail)
                  exact wpQuiet_nil (hK _ _ rfl (Gm.refl _ _ _))
              · intro f w1 hC hv
                have g0 : f 0 = _ := hv 0 (by decide)
                have g1 : f 1 = _ := hv 1 (by decide)
                have g2 : f 2 = _ := hv 2 (by decide)
                simp only [List.take_succ_cons, List.take_zero, List.drop_succ_cons, List.drop_zero, setAll, List.setIfInBounds_toArray, List.set_cons_succ, List.set_cons_zero, Nat.zero_add, Nat.reduceAdd, g0, g1, g2]
                clear g0 g1 g2 hv
                have hNz : w.heap.size ≤ N + 1 + 1 := by omega
                have zg := hC.g.setRow hC.f2 hNz (ag o2)
                have zb : Buf (w1.setRow (N + 1 + 1) (ag o2)) (N + 1 + 1 + 1) (n0 + 16) (d ++ Gf.padded l pad l.length) := hC.bu.same (setRow_other _ _ _ _ (by omega))
                have zs := hC.f2.set hC.f3 (ag o2)
                have rr := hC.rr
                clear hC
                have e1 : (d ++ Gf.padded l pad l.length) = R1 := hRe.out.1
                have e2 : o2 = R2 := hRe.out.2
                subst e1 e2
                have hln : (d ++ Gf.padded l pad l.length).length = n0 := lRR.1
                rw [hln]
                go_wp2_with (refine wpList_store_row rfl 23 (.tmp 11) (.tmp 76) rfl _ rfl _ rfl _ _ rr Tryd.info23 (by rw [ag_size]; exact lRR.2) (ag_one _) ?_)
                exact bodyPost_ret (v := .tuple #[.slice (some ⟨N + 1 + 1 + 1, 0, none⟩) n0 (n0 + 16), .agg (ag o2)]) (results_slot_row rfl _ _ rfl (.slice (some ⟨N + 1 + 1 + 1, 0, none⟩) n0 (n0 + 16)) rfl _ _ (rr.setRow _) _ Tryd.underlying23 rfl 16 Tryd.info23 (by rw [ag_size]; exact lRR.2)) rfl ⟨N + 1 + 1 + 1, rfl, zb, zs, by omega, zg⟩
      · have hci : ¬ (0 : Int) < (l.length : Int) := by omega
        have hRe : Box' (d = R1 ∧ o = R2) := ⟨by
          have h := hR.out
          rw [Gf.turnFrom_eq, dif_neg h16, if_neg hpos, List.append_nil] at h
          exact h⟩
        clear hR
        go_wp2
        refine wp_region_grow 3 (by kernel_rfl) (by kernel_rfl) (Gm mb l0) (fun w1 => UE mb l0 key N (n0 + 16) w w1 o d) (fun k w1 v => match k with
          | 0 => v = .slice (some ⟨N + 1 + 1 + 1, 0, none⟩) d.length (n0 + 16)
          | 1 => v = .agg (ag o)
          | 2 => v = .slice (some ⟨N + 1 + 1 + 1, 0, none⟩) d.length (n0 + 16)
          | _ => True) ?_ ?_ ?_ ?_ ?_
        · rintro w1 w2 hb c1
          exact c1.go hb
        · intro k v w1 w2 hC1 hb h
          match k, h with
          | 0, h => exact h
          | 1, h => exact h
          | 2, h => exact h
          | k + 3, h => trivial
        · exact hD.go (Gm.refl _ _ _).drew
        · refine ⟨?_, ?_, ?_, trivial⟩
          · intro f w1 hC hd KK hK
            simp only [List.take_succ_cons, List.take_zero, setAll, List.setIfInBounds_toArray, List.set_cons_succ, List.set_cons_zero, Nat.zero_add, Nat.reduceAdd] at hK ⊢
            refine wp_of_quiet rfl ?_
            go_big_quiet_step (fail)
            exact wpQuiet_nil (hK _ _ rfl (Gm.refl _ _ _))
          · intro f w1 hC hd KK hK
            simp only [List.take_succ_cons, List.take_zero, setAll, List.setIfInBounds_toArray, List.set_cons_succ, List.set_cons_zero, Nat.zero_add, Nat.reduceAdd] at hK ⊢
            refine wp_load_row 23 _ rfl _ rfl _ _ (hC.ro) _ Tryd.underlying23 rfl 16 Tryd.info23 (by rw [ag_size]; exact lo) ?_
            exact hK _ _ rfl (Gm.refl _ _ _)
          · intro f w1 hC hd KK hK
            have g0 : f 0 = _ := hd 0 rfl
            simp only [List.take_succ_cons, List.take_zero, setAll, List.setIfInBounds_toArray, List.set_cons_succ, List.set_cons_zero, Nat.zero_add, Nat.reduceAdd, g0] at hK ⊢
            refine wp_of_quiet rfl ?_
            go_big_quiet_step (fail)
            exact wpQuiet_nil (hK _ _ rfl (Gm.refl _ _ _))
        · intro f w1 hC hv
          have g0 : f 0 = _ := hv 0 (by decide)
          have g1 : f 1 = _ := hv 1 (by decide)
          have g2 : f 2 = _ := hv 2 (by decide)
          simp only [List.take_succ_cons, List.take_zero, List.drop_succ_cons, List.drop_zero, setAll, List.setIfInBounds_toArray, List.set_cons_succ, List.set_cons_zero, Nat.zero_add, Nat.reduceAdd, g0, g1, g2]
          clear g0 g1 g2 hv
          have hNz : w.heap.size ≤ N + 1 + 1 := by omega
          have zg := hC.g.setRow hC.f2 hNz (ag o)
          have zb : Buf (w1.setRow (N + 1 + 1) (ag o)) (N + 1 + 1 + 1) (n0 + 16) d := hC.bu.same (setRow_other _ _ _ _ (by omega))
          have zs := hC.f2.set hC.f3 (ag o)
          have rr := hC.rr
          clear hC
          have e1 : d = R1 := hRe.out.1
          have e2 : o = R2 := hRe.out.2
          subst e1 e2
          have hln : d.length = n0 := lRR.1
          rw [hln]
          go_wp2_with (refine wpList_store_row rfl 23 (.tmp 11) (.tmp 76) rfl _ rfl _ rfl _ _ rr Tryd.info23 (by rw [ag_size]; exact lRR.2) (ag_one _) ?_)
          exact bodyPost_ret (v := .tuple #[.slice (some ⟨N + 1 + 1 + 1, 0, none⟩) n0 (n0 + 16), .agg (ag o)]) (results_slot_row rfl _ _ rfl (.slice (some ⟨N + 1 + 1 + 1, 0, none⟩) n0 (n0 + 16)) rfl _ _ (rr.setRow _) _ Tryd.underlying23 rfl 16 Tryd.info23 (by rw [ag_size]; exact lRR.2)) rfl ⟨N + 1 + 1 + 1, rfl, zb, zs, by omega, zg⟩
end Go.Proofs.YthcokaffbgbanaaDoor

/- The walks of fault and Same. -/
namespace Go.Proofs.YthcokaffbgbanaaDoor
open Go.RowKit Go.BigFrame

def Gf.fault (n b : Nat) (s : Int) : Int := if n < 1 ∨ 15 < n then 2 else if 65536 < s ∨ 65536 < b then 4 else 0
set_option maxHeartbeats 1000000 in
theorem fault_any (an : Option Addr) (n cn : Nat) (ab : Option Addr) (b cb : Nat) (s : Int) (hn : n ≤ maxLen) (hb : b ≤ maxLen) (w : World) :
    Calls Tryd.prog 45 #[.slice an n cn, .slice ab b cb, .int .i64 s] w fun e w' => e = .returned (.int .i64 (Gf.fault n b s)) ∧ w' = w := by
  unfold Gf.fault
  unfold maxLen at hn hb
  by_cases h1 : n < 1
  · rw [if_pos (.inl h1)]
    have i1 : (n : Int) < 1 := by omega
    go_enter Tryd.func45, Tryd.ntmps45
    go_wp2
    go_ret
    exact ⟨rfl, rfl⟩
  · have i1 : ¬ (n : Int) < 1 := by omega
    by_cases h2 : 15 < n
    · rw [if_pos (.inr h2)]
      have i2 : (15 : Int) < (n : Int) := by omega
      go_enter Tryd.func45, Tryd.ntmps45
      go_wp2
      go_ret
      exact ⟨rfl, rfl⟩
    · rw [if_neg (by omega)]
      have i2 : ¬ (15 : Int) < (n : Int) := by omega
      by_cases h3 : 65536 < s
      · rw [if_pos (.inl h3)]
        go_enter Tryd.func45, Tryd.ntmps45
        go_wp2
        go_ret
        exact ⟨rfl, rfl⟩
      · by_cases h4 : 65536 < b
        · rw [if_pos (.inr h4)]
          have i4 : (65536 : Int) < (b : Int) := by omega
          go_enter Tryd.func45, Tryd.ntmps45
          go_wp2
          go_ret
          exact ⟨rfl, rfl⟩
        · rw [if_neg (by omega)]
          have i4 : ¬ (65536 : Int) < (b : Int) := by omega
          go_enter Tryd.func45, Tryd.ntmps45
          go_wp2
          go_ret
          exact ⟨rfl, rfl⟩

def Gf.unl (a b : List UInt8) : Nat → UInt8
  | 0 => 0
  | k + 1 => Gf.unl a b k ||| (a.getD k 0 ^^^ b.getD k 0)
set_option maxRecDepth 100000 in
theorem or_zero8 : ∀ m n : Nat, m < 256 → n < 256 → ((m ||| n) = 0 ↔ m = 0 ∧ n = 0) := fun m n _ _ => by
  rw [Nat.or_eq_zero_iff]
set_option maxRecDepth 100000 in
theorem Gf.unl_zero (a b : List UInt8) (k : Nat) : Gf.unl a b k = 0 ↔ ∀ i, i < k → a.getD i 0 = b.getD i 0 := by
  induction k with
  | zero => simp [Gf.unl]
  | succ k ih =>
    rw [Gf.unl, ← UInt8.toNat_inj, UInt8.toNat_or]
    show (_ ||| _) = 0 ↔ _
    rw [or_zero8 _ _ (UInt8.toNat_lt _) (UInt8.toNat_lt _)]
    have e1 : (Gf.unl a b k).toNat = 0 ↔ Gf.unl a b k = 0 := ⟨fun h => UInt8.toNat_inj.1 h, fun h => by rw [h]; rfl⟩
    have e2 : (a.getD k 0 ^^^ b.getD k 0).toNat = 0 ↔ a.getD k 0 = b.getD k 0 := by
      constructor
      · intro h
        have : a.getD k 0 ^^^ b.getD k 0 = 0 := UInt8.toNat_inj.1 h
        exact UInt8.xor_eq_zero_iff.1 this
      · intro h; rw [h, UInt8.xor_self]; rfl
    rw [e1, e2, ih]
    constructor
    · rintro ⟨h1, h2⟩ i hi
      by_cases e : i = k
      · subst e; exact h2
      · exact h1 i (by omega)
    · intro h
      exact ⟨fun i hi => h i (by omega), h k (by omega)⟩
set_option maxRecDepth 100000 in
theorem Gf.unl_eq (a b : List UInt8) (h : a.length = b.length) : Gf.unl a b a.length = 0 ↔ a = b := by
  rw [Gf.unl_zero]
  constructor
  · intro hh
    apply List.ext_getElem h
    intro i h1 h2
    have := hh i h1
    simpa [h1, h2] using this
  · rintro rfl i _; rfl
set_option maxRecDepth 100000 in
theorem or_u8 (x y : UInt8) : bits .or .u8 (x.toNat : Int) (y.toNat : Int) = (((x ||| y).toNat : Nat) : Int) := by
  rw [u8_or_nat _ _ x.toNat_lt y.toNat_lt]; simp

set_option maxRecDepth 100000 in
set_option maxHeartbeats 1000000 in
theorem same_any (S1 S2 : Nat → Prop) (va vb : Value) (la lb : List UInt8) (w : World) (ha : Bts S1 w va la) (hb : Bts S2 w vb lb) (hma : la.length ≤ maxLen) (hmb : lb.length ≤ maxLen) :
    Calls Tryd.prog 61 #[va, vb] w fun e w' => e = .returned (.bool (decide (la = lb))) ∧ Below w.heap.size w w' := by
  obtain ⟨aa, ca, rfl, hca, h3⟩ := ha
  obtain ⟨ab, cb, rfl, hcb, h4⟩ := hb
  unfold maxLen at hma hmb
  by_cases hne : la.length = lb.length
  · have hU := Gf.unl_eq la lb hne
    have hcl : ∀ k, k < la.length → ∃ b o b' o', aa = some ⟨b, o, none⟩ ∧ ab = some ⟨b', o', none⟩ ∧ w.cell? ⟨b, o + k, none⟩ = some (.int .u8 ((la.getD k 0).toNat : Int)) ∧ w.cell? ⟨b', o' + k, none⟩ = some (.int .u8 ((lb.getD k 0).toNat : Int)) := by
      intro k hk
      rcases h3 with rfl | ⟨b, o, rfl, _, hr⟩
      · simp at hk
      rcases h4 with rfl | ⟨b', o', rfl, _, hr'⟩
      · have : la.length = 0 := hne
        omega
      exact ⟨b, o, b', o', rfl, rfl, hr k _ (by simp [hk]; rfl), hr' k _ (by simp [show k < lb.length by omega]; rfl)⟩
    have HCL := Box'.mk hcl
    have HU := Box'.mk hU
    clear hcl hU h3 h4
    rw [← hne]
    rw [← hne] at hmb hcb
    obtain ⟨n, hn⟩ : ∃ n, la.length = n := ⟨_, rfl⟩
    rw [hn] at HCL HU hma hca hmb hcb
    rw [hn]
    go_enter Tryd.func61, Tryd.ntmps61
    go_wp2
    go_loopw [5, 14] (fun u c wr => ∃ k : Nat, k ≤ n ∧ c = .int .i64 (k : Int) ∧ u = .int .u8 ((Gf.unl la lb k).toNat : Int) ∧ ∃ m, wr = w.drewN m) (fun _ c _ => n - (intOf c).toNat)
    case atStart => exact ⟨0, by omega, rfl, rfl, 0, rfl⟩
    case round =>
      obtain ⟨k, hk, rfl, rfl, m, rfl⟩ := hrel
      by_cases hlt : k < n
      · obtain ⟨b, o, b', o', rfl, rfl, c1, c2⟩ := HCL.out k hlt
        have E : Box' (Gf.unl la lb (k + 1) = Gf.unl la lb k ||| (la.getD k 0 ^^^ lb.getD k 0)) := ⟨rfl⟩
        have x1 := xor_u8 (la.getD k 0) (lb.getD k 0)
        have x2 := or_u8 (Gf.unl la lb k) (la.getD k 0 ^^^ lb.getD k 0)
        generalize la.getD k 0 = x at *
        generalize lb.getD k 0 = y at *
        generalize x ^^^ y = z at *
        generalize Gf.unl la lb k = u at *
        generalize u ||| z = uz at *
        go_wp2
        go_quiet (fail)
        go_wp2
        exact ⟨⟨k + 1, by omega, by go_num, by rw [E.out], m + nq, rfl⟩, by simp [intOf]; omega⟩
      · have hk' : k = n := by omega
        subst hk'
        have he : (((Gf.unl la lb k).toNat : Int) == 0) = decide (la = lb) := by
          rw [Bool.eq_iff_iff, beq_iff_eq, decide_eq_true_eq, ← HU.out]
          constructor
          · intro h; exact UInt8.toNat_inj.1 (by have := Int.natCast_eq_zero.1 h; rw [this]; rfl)
          · intro h; rw [h]; rfl
        have HE := Box'.mk he
        have hbl : Below w.heap.size w (w.drewN m) := Below.drewN (Below.refl _ _) m
        clear he HCL HU
        generalize Gf.unl la lb k = u at *
        go_wp2
        go_ret
        exact ⟨by rw [← HE.out]; rfl, hbl⟩
  · have hd : decide (la = lb) = false := by rw [decide_eq_false_iff_not]; rintro rfl; exact hne rfl
    have hi : ((la.length : Int) == (lb.length : Int)) = false := by rw [beq_eq_false_iff_ne]; omega
    rw [hd]
    clear hd h3 h4
    go_enter Tryd.func61, Tryd.ntmps61
    go_wp2
    go_ret
    exact ⟨rfl, Below.refl _ _⟩
end Go.Proofs.YthcokaffbgbanaaDoor

/- The walk of Seal. -/
namespace Go.Proofs.YthcokaffbgbanaaDoor
open Go.RowKit Go.BigFrame

def Gf.star (key : List UInt8) : List UInt8 := Gf.encrypt key (Gf.zeros 16)
def Gf.sealed (key n b p : List UInt8) : List UInt8 :=
  (Gf.turnFrom (Gf.encrypt key) key (Gf.star key) 1 (Gf.begin key n) p).1 ++ Gf.tag key (Gf.star key) (Gf.turnFrom (Gf.encrypt key) key (Gf.star key) 1 (Gf.begin key n) p).2 p b
set_option maxRecDepth 100000 in
theorem Gf.sealed_len (key n b p : List UInt8) : (Gf.sealed key n b p).length = p.length + 16 := by
  unfold Gf.sealed
  rw [List.length_append, (Gf.turnFrom_len _ _ _ _ _ _ (Gf.begin_len _ _)).1, Gf.tag_len]
set_option maxRecDepth 100000 in
theorem callFunc22 (args : Array Value) (w : World) : (callFunc 48 args).run Tryd.prog w = .ok (.enter 48 args) w := by simp [go_sem]

/-- What stands while bytes are sealed or opened. -/
structure SE (mb : Nat) (l0 key : List UInt8) (N : Nat) (w0 w : World) : Prop where
  kk : Row w N 23 (ag key)
  tb : Tab w
  s1 : Sf mb l0 w 1
  f0 : Sf mb l0 w N
  g : Gm mb l0 w0 w
section
variable {mb : Nat} {l0 key : List UInt8} {N : Nat} {w0 w w' : World}
set_option maxRecDepth 100000 in
theorem SE.go (h : SE mb l0 key N w0 w) (g : Gm mb l0 w w') : SE mb l0 key N w0 w' :=
  ⟨h.f0.row g h.kk, h.tb.go h.s1 g, h.s1.go g, h.f0.go g, h.g.trans g⟩
set_option maxRecDepth 100000 in
theorem SE.set (h : SE mb l0 key N w0 w) (p : Nat) (hp : Sf mb l0 w p) (hN : N < p) (h1 : 1 < p) (h0 : w0.heap.size ≤ p) (c : Array Value) : SE mb l0 key N w0 (w.setRow p c) :=
  ⟨h.kk.setRowOther _ _ (by omega), h.tb.set _ (by omega) _, hp.set h.s1 _, hp.set h.f0 _, h.g.setRow hp h0 _⟩
end
set_option maxRecDepth 100000 in
theorem wp_call_ex {P : Program} {Q : Exit → Act → World → Prop} {op : Oper} {a : Act} {w : World} {K : Act → World → Prop} (f : FuncId) (args : Array Value) (hrun : (execOp a.eval op).run P w = .ok (.enter f args) w) (R : Value → World → Prop)
    (hc : Calls P f args w (fun e w'' => ∃ v, e = .returned v ∧ R v w'')) (h : ∀ v w'', R v w'' → K (a.put op.dst v) w'') : op.wp P a w K Q := by
  unfold Oper.wp
  rw [hrun]
  exact hc.mono fun e w'' hh => by obtain ⟨v, rfl, hR⟩ := hh; exact h v w'' hR
set_option maxRecDepth 100000 in
theorem below_of_Gm {mb bb : Nat} {l0 : List UInt8} {M : Nat} {w0 w1 w2 : World} (hb : Below M w0 w1) (g : Gm mb l0 w1 w2) (hm : Msk mb l0 w1 bb) (h1 : M ≤ mb) (h2 : M ≤ bb) (h3 : M ≤ w1.heap.size) : Below M w0 w2 := by
  obtain ⟨b', _, _, hk⟩ := g.to bb hm
  exact ⟨g.os.trans hb.os, g.tape.trans hb.tape, g.output.trans hb.output, Nat.le_trans hb.size g.size, fun k hk' => by rw [hk k (by omega) (by omega) (by omega)]; exact hb.block k hk'⟩

set_option maxRecDepth 100000 in
set_option maxHeartbeats 1000000 in
theorem seal_ok (key : List UInt8) (hkey : key.length = 16) (vn vb vp : Value) (ln lb lp : List UInt8) (hn1 : 0 < ln.length) (hn2 : ln.length ≤ 15) (hlb : lb.length ≤ 65536) (hlp : lp.length ≤ 65536) (w : World) (ht : Tab w)
    (hn : Bts (· < w.heap.size) w vn ln) (hb : Bts (· < w.heap.size) w vb lb) (hp : Bts (· < w.heap.size) w vp lp) :
    Calls Tryd.prog 31 #[.agg (ag key), vn, vb, vp] w fun e w' => ∃ g, e = .returned (.tuple #[.slice (some ⟨g, 0, none⟩) (lp.length + 16) (lp.length + 16), .int .i64 0]) ∧ Buf w' g (lp.length + 16) (Gf.sealed key ln lb lp) ∧ w.heap.size ≤ g ∧ Below w.heap.size w w' := by
  have hft := fault_any
  have lS := Gf.sealed_len key ln lb lp
  have hS0 : Gf.sealed key ln lb lp = (Gf.turnFrom (Gf.encrypt key) key (Gf.star key) 1 (Gf.begin key ln) lp).1 ++ Gf.tag key (Gf.star key) (Gf.turnFrom (Gf.encrypt key) key (Gf.star key) 1 (Gf.begin key ln) lp).2 lp lb := rfl
  have hTU := fun (mb : Nat) => turn_any 48 callFunc22 (Gf.encrypt key) mb (Gf.star key) key (Gf.begin key ln) (fun b hb => ⟨Gf.encrypt_len key b, fun w => encrypt_any key b hkey hb w⟩) (Gf.encrypt_len _ _) hkey (Gf.begin_len _ _) vp lp hlp
  have hTL := Gf.turnFrom_len (Gf.encrypt key) key (Gf.star key) 1 (Gf.begin key ln) lp (Gf.begin_len _ _)
  have hMK := masks_any key hkey
  have hst : Gf.encrypt key (Gf.zeros 16) = Gf.star key := rfl
  rw [hst] at hMK
  have ll0 : (Gf.star key).length = 16 := Gf.encrypt_len _ _
  have hBG := fun (S : Nat → Prop) => begin_any S key hkey vn ln hn1 hn2
  have lBG := Gf.begin_len key ln
  generalize (Gf.turnFrom (Gf.encrypt key) key (Gf.star key) 1 (Gf.begin key ln) lp).1 = R1 at *
  generalize (Gf.turnFrom (Gf.encrypt key) key (Gf.star key) 1 (Gf.begin key ln) lp).2 = R2 at *
  generalize Gf.begin key ln = BG at *
  generalize Gf.star key = l0 at *
  have hTG := fun (mb : Nat) => tag_any mb l0 key R2 ll0 hkey hTL.2 vp vb lp lb (by omega) (by omega)
  have lTG := Gf.tag_len key l0 R2 lp lb
  generalize Gf.tag key l0 R2 lp lb = TG at *
  generalize Gf.sealed key ln lb lp = SL at *
  have HS := Box'.mk hS0
  have HTU := Box'.mk hTU
  have HTG := Box'.mk hTG
  have HMK := Box'.mk hMK
  have HBG := Box'.mk hBG
  clear hS0 hst hft hTU hTG hMK hBG
  have hnc := hn
  have hbc := hb
  have hpc := hp
  obtain ⟨an, cn, rfl, _, _⟩ := hnc
  obtain ⟨ab, cb, rfl, _, _⟩ := hbc
  obtain ⟨ap, cp, rfl, _, _⟩ := hpc
  have hfa := fun w => fault_any an ln.length cn ab lb.length cb (lp.length : Int) (by unfold maxLen; omega) (by unfold maxLen; omega) w
  have hf0 : Gf.fault ln.length lb.length (lp.length : Int) = 0 := by unfold Gf.fault; rw [if_neg (by omega), if_neg (by omega)]
  rw [hf0] at hfa
  clear hf0
  go_enter Tryd.func31, Tryd.ntmps31
  go_wp2_with fail
  refine (hfa _).mono ?_
  rintro e w0 ⟨rfl, rfl⟩
  have k0 : Row (w.alloc (.cells (ag key) 23)) w.heap.size 23 (ag key) := Row.new _ _ _
  go_wp2_with (first
    | (refine wpList_load_row rfl 23 (.tmp 4) rfl _ rfl _ _ k0 _ Tryd.underlying23 rfl 16 Tryd.info23 (by rw [ag_size]; exact hkey) ?_)
    | fail)
  refine (HMK.out _).mono ?_
  rintro e wM ⟨mb, bb, rfl, hm, hmb, hbb, hbl⟩
  have hlt := ht.lt
  have hz : (w.alloc (.cells (ag key) 23)).heap.size = w.heap.size + 1 := by simp
  rw [hz] at hmb hbb hbl
  have hz1 : w.heap.size + 1 ≤ wM.heap.size := by have := hbl.size; rw [hz] at this; exact this
  have hbw : Below w.heap.size w wM := ((Below.refl _ _).alloc (Nat.le_refl _) _).trans (hbl.mono (by omega))
  have hfs : ∀ k, k ≤ w.heap.size → Sf mb l0 wM k := fun k hk => ⟨by omega, by omega, fun b2 m2 => by rw [← hm.one m2]; omega, bb, hm⟩
  have hE : SE mb l0 key w.heap.size wM wM := ⟨k0.below hbl (by omega), ht.below hbw hlt, hfs 1 (by omega), hfs _ (Nat.le_refl _), Gm.refl _ _ _⟩
  have hbk : ∀ {v : Value} {l : List UInt8}, Bts (· < w.heap.size) w v l → Bts (Old mb l0 w.heap.size wM) wM v l := fun h => h.keep fun b hb => ⟨⟨hfs b (by omega), hb⟩, hbw.block b hb⟩
  have hn' := hbk hn
  have hb' := hbk hb
  have hp' := hbk hp
  have hfin : ∀ w2, Gm mb l0 wM w2 → Below w.heap.size w w2 := fun w2 g => below_of_Gm hbw g hm (by omega) (by omega) (by omega)
  clear hn hb hp hbk k0 hbl HMK hfa ht hfs
  have HFN := Box'.mk hfin
  clear hfin
  generalize hN : w.heap.size = N at *
  go_wp2
  refine wp_region_grow 12 (by kernel_rfl) (by kernel_rfl) (Gm mb l0) (fun w2 => SE mb l0 key N wM w2 ∧ Bts (Old mb l0 N w2) w2 (.slice an ln.length cn) ln ∧ Bts (Old mb l0 N w2) w2 (.slice ab lb.length cb) lb ∧ Bts (Old mb l0 N w2) w2 (.slice ap lp.length cp) lp) (fun k w1 v => match k with
    | 0 => v = .agg (ag key)
    | 1 => v = mskFn mb
    | 2 => v = .agg (ag key)
    | 3 => v = .slice an ln.length cn
    | 4 => v = .agg (ag BG)
    | 5 => v = .slice ap lp.length cp
    | 6 => ∃ g, v = .tuple #[.slice (some ⟨g, 0, none⟩) lp.length (lp.length + 16), .agg (ag R2)] ∧ Buf w1 g (lp.length + 16) R1 ∧ Sf mb l0 w1 g ∧ wM.heap.size ≤ g
    | 7 => ∃ g, v = .tuple #[.slice (some ⟨g, 0, none⟩) lp.length (lp.length + 16), .agg (ag R2)] ∧ Buf w1 g (lp.length + 16) R1 ∧ Sf mb l0 w1 g ∧ wM.heap.size ≤ g
    | 8 => ∃ g, v = .slice (some ⟨g, 0, none⟩) lp.length (lp.length + 16) ∧ Buf w1 g (lp.length + 16) R1 ∧ Sf mb l0 w1 g ∧ wM.heap.size ≤ g
    | 9 => v = .agg (ag R2)
    | 10 => ∃ p, v = .pointer (some ⟨p, 0, none⟩) ∧ N < p ∧ 1 < p ∧ wM.heap.size ≤ p ∧ Room w1 p 23 16 ∧ Sf mb l0 w1 p
    | 11 => ∃ g, v = .slice (some ⟨g, 0, none⟩) lp.length (lp.length + 16) ∧ Buf w1 g (lp.length + 16) R1 ∧ Sf mb l0 w1 g ∧ wM.heap.size ≤ g
    | _ => True) ?_ ?_ ?_ ?_ ?_
  · rintro w2 w3 hb ⟨c1, c2, c3, c4⟩
    exact ⟨c1.go hb, c2.go hb, c3.go hb, c4.go hb⟩
  · intro k v w1 w2 hC1 hb h
    match k, h with
    | 0, h => exact h
    | 1, h => exact h
    | 2, h => exact h
    | 3, h => exact h
    | 4, h => exact h
    | 5, h => exact h
    | 6, ⟨g, e1, e2, e3, e4⟩ => exact ⟨g, e1, e2.same (e3.keep hb).2, e3.go hb, e4⟩
    | 7, ⟨g, e1, e2, e3, e4⟩ => exact ⟨g, e1, e2.same (e3.keep hb).2, e3.go hb, e4⟩
    | 8, ⟨g, e1, e2, e3, e4⟩ => exact ⟨g, e1, e2.same (e3.keep hb).2, e3.go hb, e4⟩
    | 9, h => exact h
    | 10, ⟨p, e1, e2, e3, e4, e5, e6⟩ => exact ⟨p, e1, e2, e3, e4, e6.room hb e5, e6.go hb⟩
    | 11, ⟨g, e1, e2, e3, e4⟩ => exact ⟨g, e1, e2.same (e3.keep hb).2, e3.go hb, e4⟩
    | k + 12, h => trivial
  · exact ⟨hE.go (Gm.refl _ _ _).drew, hn'.go (Gm.refl _ _ _).drew, hb'.go (Gm.refl _ _ _).drew, hp'.go (Gm.refl _ _ _).drew⟩
  · refine ⟨?_, ?_, ?_, ?_, ?_, ?_, ?_, ?_, ?_, ?_, ?_, ?_, trivial⟩
    · intro f w1 hC hd KK hK
      simp only [List.take_succ_cons, List.take_zero, setAll, List.setIfInBounds_toArray, List.set_cons_succ, List.set_cons_zero, Nat.zero_add, Nat.reduceAdd] at hK ⊢
      refine wp_load_row 23 _ rfl _ rfl _ _ (hC.1.kk) _ Tryd.underlying23 rfl 16 Tryd.info23 (by rw [ag_size]; exact hkey) ?_
      exact hK _ _ rfl (Gm.refl _ _ _)
    · intro f w1 hC hd KK hK
      simp only [List.take_succ_cons, List.take_zero, setAll, List.setIfInBounds_toArray, List.set_cons_succ, List.set_cons_zero, Nat.zero_add, Nat.reduceAdd] at hK ⊢
      refine wp_of_quiet rfl ?_
      go_big_quiet_step (fail)
      exact wpQuiet_nil (hK _ _ rfl (Gm.refl _ _ _))
    · intro f w1 hC hd KK hK
      simp only [List.take_succ_cons, List.take_zero, setAll, List.setIfInBounds_toArray, List.set_cons_succ, List.set_cons_zero, Nat.zero_add, Nat.reduceAdd] at hK ⊢
      refine wp_load_row 23 _ rfl _ rfl _ _ (hC.1.kk) _ Tryd.underlying23 rfl 16 Tryd.info23 (by rw [ag_size]; exact hkey) ?_
      exact hK _ _ rfl (Gm.refl _ _ _)
    · intro f w1 hC hd KK hK
      simp only [List.take_succ_cons, List.take_zero, setAll, List.setIfInBounds_toArray, List.set_cons_succ, List.set_cons_zero, Nat.zero_add, Nat.reduceAdd] at hK ⊢
      refine wp_of_quiet rfl ?_
      go_big_quiet_step (fail)
      exact wpQuiet_nil (hK _ _ rfl (Gm.refl _ _ _))
    · intro f w1 hC hd KK hK
      have g2 : f 2 = _ := hd 2 rfl
      have g3 : f 3 = _ := hd 3 rfl
      simp only [List.take_succ_cons, List.take_zero, setAll, List.setIfInBounds_toArray, List.set_cons_succ, List.set_cons_zero, Nat.zero_add, Nat.reduceAdd, g2, g3] at hK ⊢
      exact wp_call 49 #[.agg (ag key), .slice an ln.length cn] (by simp [go_sem]) _ _ (HBG.out _ w1 hC.2.1) (fun w' hb => hK _ _ rfl (Gm.of hb))
    · intro f w1 hC hd KK hK
      simp only [List.take_succ_cons, List.take_zero, setAll, List.setIfInBounds_toArray, List.set_cons_succ, List.set_cons_zero, Nat.zero_add, Nat.reduceAdd] at hK ⊢
      refine wp_of_quiet rfl ?_
      go_big_quiet_step (fail)
      exact wpQuiet_nil (hK _ _ rfl (Gm.refl _ _ _))
    · intro f w1 hC hd KK hK
      have g0 : f 0 = _ := hd 0 rfl
      have g1 : f 1 = _ := hd 1 rfl
      have g4 : f 4 = _ := hd 4 rfl
      have g5 : f 5 = _ := hd 5 rfl
      simp only [List.take_succ_cons, List.take_zero, setAll, List.setIfInBounds_toArray, List.set_cons_succ, List.set_cons_zero, Nat.zero_add, Nat.reduceAdd, g0, g1, g4, g5] at hK ⊢
      refine wp_call_ex 47 #[.agg (ag key), .func (.func 48) #[] #[], mskFn mb, .agg (ag BG), .slice ap lp.length cp] (by simp [go_sem]) (fun v w' => (∃ g, v = .tuple #[.slice (some ⟨g, 0, none⟩) lp.length (lp.length + 16), .agg (ag R2)] ∧ Buf w' g (lp.length + 16) R1 ∧ Sf mb l0 w' g ∧ wM.heap.size ≤ g) ∧ Gm mb l0 w1 w') ?_ (fun v w' h => hK _ _ h.1 h.2)
      refine (HTU.out mb w1 hC.1.tb hC.1.s1 (hC.2.2.2.re fun b h => h.1)).mono ?_
      rintro e w' ⟨g, rfl, q1, q2, q3, q4⟩
      exact ⟨_, rfl, ⟨g, rfl, q1, q2, by have := hC.1.g.size; omega⟩, q4⟩
    · intro f w1 hC hd KK hK
      have hdd : ∃ g, f 6 = .tuple #[.slice (some ⟨g, 0, none⟩) lp.length (lp.length + 16), .agg (ag R2)] ∧ Buf w1 g (lp.length + 16) R1 ∧ Sf mb l0 w1 g ∧ wM.heap.size ≤ g := hd 6 (by kernel_rfl)
      clear hd
      cases hdd with | intro g h2 =>
      have g6 := h2.1
      have hg1 := h2.2.1
      have hg2 := h2.2.2.1
      have hg3 := h2.2.2.2
      clear h2
      simp only [List.take_succ_cons, List.take_zero, setAll, List.setIfInBounds_toArray, List.set_cons_succ, List.set_cons_zero, Nat.zero_add, Nat.reduceAdd, g6] at hK ⊢
      refine wp_of_quiet rfl ?_
      go_big_quiet_step (fail)
      exact wpQuiet_nil (hK _ _ (⟨g, rfl, hg1, hg2, hg3⟩) (Gm.refl _ _ _))
    · intro f w1 hC hd KK hK
      have hdd : ∃ g, f 7 = .tuple #[.slice (some ⟨g, 0, none⟩) lp.length (lp.length + 16), .agg (ag R2)] ∧ Buf w1 g (lp.length + 16) R1 ∧ Sf mb l0 w1 g ∧ wM.heap.size ≤ g := hd 7 (by kernel_rfl)
      clear hd
      cases hdd with | intro g h2 =>
      have g7 := h2.1
      have hg1 := h2.2.1
      have hg2 := h2.2.2.1
      have hg3 := h2.2.2.2
      clear h2
      simp only [List.take_succ_cons, List.take_zero, setAll, List.setIfInBounds_toArray, List.set_cons_succ, List.set_cons_zero, Nat.zero_add, Nat.reduceAdd, g7] at hK ⊢
      refine wp_of_quiet rfl ?_
      go_big_quiet_step (fail)
      exact wpQuiet_nil (hK _ _ (⟨g, rfl, hg1, hg2, hg3⟩) (Gm.refl _ _ _))
    · intro f w1 hC hd KK hK
      have hdd : ∃ g, f 7 = .tuple #[.slice (some ⟨g, 0, none⟩) lp.length (lp.length + 16), .agg (ag R2)] ∧ Buf w1 g (lp.length + 16) R1 ∧ Sf mb l0 w1 g ∧ wM.heap.size ≤ g := hd 7 (by kernel_rfl)
      clear hd
      cases hdd with | intro g h2 =>
      have g7 := h2.1
      have hg1 := h2.2.1
      have hg2 := h2.2.2.1
      have hg3 := h2.2.2.2
      clear h2
      simp only [List.take_succ_cons, List.take_zero, setAll, List.setIfInBounds_toArray, List.set_cons_succ, List.set_cons_zero, Nat.zero_add, Nat.reduceAdd, g7] at hK ⊢
      refine wp_of_quiet rfl ?_
      go_big_quiet_step (fail)
      exact wpQuiet_nil (hK _ _ (rfl) (Gm.refl _ _ _))
    · intro f w1 hC hd KK hK
      simp only [List.take_succ_cons, List.take_zero, setAll, List.setIfInBounds_toArray, List.set_cons_succ, List.set_cons_zero, Nat.zero_add, Nat.reduceAdd] at hK ⊢
      have hp := hC.1.f0.lt
      have hp1 := hC.1.tb.lt
      have hp2 := hC.1.g.size
      obtain ⟨bb, hm⟩ := hC.1.s1.is
      refine wp_alloc_row 23 rfl _ _ Tryd.zero23 ?_
      exact hK _ _ ⟨_, rfl, hp, hp1, hp2, Room.new _ _ _ _ (by rw [ag_size]; rfl), Sf.new hm _⟩ (Gm.of ((Below.refl _ _).alloc (Nat.le_refl _) _))
    · intro f w1 hC hd KK hK
      have hdd : ∃ g, f 8 = .slice (some ⟨g, 0, none⟩) lp.length (lp.length + 16) ∧ Buf w1 g (lp.length + 16) R1 ∧ Sf mb l0 w1 g ∧ wM.heap.size ≤ g := hd 8 (by kernel_rfl)
      clear hd
      cases hdd with | intro g h2 =>
      have g8 := h2.1
      have hg1 := h2.2.1
      have hg2 := h2.2.2.1
      have hg3 := h2.2.2.2
      clear h2
      simp only [List.take_succ_cons, List.take_zero, setAll, List.setIfInBounds_toArray, List.set_cons_succ, List.set_cons_zero, Nat.zero_add, Nat.reduceAdd, g8] at hK ⊢
      refine wp_of_quiet rfl ?_
      go_big_quiet_step (fail)
      exact wpQuiet_nil (hK _ _ (⟨g, rfl, hg1, hg2, hg3⟩) (Gm.refl _ _ _))
  · intro f w1 hC hv
    have g0 : f 0 = _ := hv 0 (by decide)
    have g1 : f 1 = _ := hv 1 (by decide)
    have g2 : f 2 = _ := hv 2 (by decide)
    have g3 : f 3 = _ := hv 3 (by decide)
    have g4 : f 4 = _ := hv 4 (by decide)
    have g5 : f 5 = _ := hv 5 (by decide)
    obtain ⟨ga, g6, ha1, ha2, ha3⟩ := hv 6 (by decide)
    obtain ⟨gb, g7, hb1, hb2, hb3⟩ := hv 7 (by decide)
    obtain ⟨gc, g8, hc1, hc2, hc3⟩ := hv 8 (by decide)
    have g9 : f 9 = _ := hv 9 (by decide)
    obtain ⟨p, g10, hp1, hp2, hp3, hp4, hp5⟩ := hv 10 (by decide)
    obtain ⟨g, g11, hg1, hg2, hg3⟩ := hv 11 (by decide)
    simp only [List.take_succ_cons, List.take_zero, List.drop_succ_cons, List.drop_zero, setAll, List.setIfInBounds_toArray, List.set_cons_succ, List.set_cons_zero, Nat.zero_add, Nat.reduceAdd, g0, g1, g2, g3, g4, g5, g6, g7, g8, g9, g10, g11]
    clear g0 g1 g2 g3 g4 g5 g6 g7 g8 g9 g10 g11 hv
    obtain ⟨c1, c2, c3, c4⟩ := hC
    clear ha1 ha2 ha3 hb1 hb2 hb3 hc1 hc2 hc3 hn' hb' hp' hE
    have hgp : g ≠ p := by
      rintro rfl
      obtain ⟨cc, r1, r2⟩ := hp4
      rcases hg1.2 with ⟨e, _⟩ | ⟨g1, cc1, cur, e1, _, e3, _⟩
      · cases e
      · injection e1 with q1; injection q1 with q1; injection q1 with q1
        subst q1
        unfold Row at r1
        rw [r1] at e3
        injection e3 with e
        injection e with _ e5
        exact absurd e5 (by decide)
    have z1 := c1.set p hp5 hp1 hp2 hp3 (ag R2)
    have z3 := c3.set p hp5 (by omega) (ag R2)
    have z4 := c4.set p hp5 (by omega) (ag R2)
    have z5 := hp4.setRow (ag R2)
    have z6 := hg1.same (w' := w1.setRow p (ag R2)) (setRow_other _ _ _ _ hgp)
    have z7 := hp5.set hg2 (ag R2)
    have hk1 := z1.kk
    go_wp2_with (first
      | (refine wpList_store_row rfl 23 (.tmp 13) (.tmp 34) rfl _ rfl _ rfl _ _ hp4 Tryd.info23 (by rw [ag_size]; exact hTL.2) (ag_one _) ?_)
      | (refine wpList_load_row rfl 23 (.tmp 4) rfl _ rfl _ _ hk1 _ Tryd.underlying23 rfl 16 Tryd.info23 (by rw [ag_size]; exact hkey) ?_)
      | (refine wpList_load_row rfl 23 (.tmp 13) rfl _ rfl _ _ z5 _ Tryd.underlying23 rfl 16 Tryd.info23 (by rw [ag_size]; exact hTL.2) ?_)
      | fail)
    refine (HTG.out mb _ z1.tb z1.s1 (z4.re fun b h => h.1) (z3.re fun b h => h.1)).mono ?_
    rintro e w5 ⟨rfl, hb5⟩
    have y1 := z7.go hb5
    have y2 := z6.same (w' := w5) (z7.keep hb5).2
    have y3 := z1.g.trans hb5
    clear z1 z3 z4 z5 z6 z7 hb5 hg1 hg2 hp4 hp5 c1 c2 c3 c4 hk1
    have y4 : Gm mb l0 w5 (w5.alloc (.cells (ag TG) 23)) := Gm.of ((Below.refl _ _).alloc (Nat.le_refl _) _)
    have y5 := y1.go y4
    have y6 := y2.same (w' := w5.alloc (.cells (ag TG) 23)) (y1.keep y4).2
    have y7 := y3.trans y4
    have y8 : Row (w5.alloc (.cells (ag TG) 23)) w5.heap.size 23 (ag TG) := Row.new _ _ _
    unfold Buf at y6
    rw [hTL.1] at y6
    have hcl : ∀ j u, (TG.map B)[j]? = some u → (w5.alloc (.cells (ag TG) 23)).cell? ((⟨w5.heap.size, 0, none⟩ : Addr).add j) = some u := fun j u hu => by
      rw [Addr.add_mid, y8.cell]
      simpa [ag] using hu
    have hone : ∀ u ∈ TG.map B, u.oneCell' = true := fun u hu => by obtain ⟨y, _, rfl⟩ := List.mem_map.1 hu; rfl
    obtain ⟨i5, hi5, hs5⟩ : ∃ i, Tryd.prog.info? 5 = some i ∧ i.size = 1 := ⟨_, rfl, by kernel_rfl⟩
    clear y1 y2 y3 y4 y8
    go_wp2_with (first
      | (refine wpList_alloc_row rfl 23 rfl _ _ Tryd.zero23 ?_)
      | (refine wpList_store_row rfl 23 (.tmp 14) (.tmp 40) rfl _ rfl _ rfl _ _ (Room.new _ _ _ _ (by rw [ag_size]; rfl)) Tryd.info23 (by rw [ag_size]; exact lTG) (ag_one _) ?_; rw [World.setRow_alloc_new])
      | (refine wpList_append_fits _ rfl (.tmp 41) (.tmp 42) 26 rfl 0 5 i5 1 Tryd.underlying26 hi5 hs5 g lp.length (lp.length + 16) (R1.map B) rfl y6 ⟨w5.heap.size, 0, none⟩ 16 16 (TG.map B) rfl (by rw [List.length_map, lTG]) hcl hone (Nat.le_refl _) (fun w6 ho6 hg6 => ?_))
      | fail)
    rw [← List.map_append, ← HS.out] at ho6
    have hbu : Buf w6 g (lp.length + 16) SL := by unfold Buf; rw [lS]; exact ho6
    have hbf := HFN.out w6 (y7.grown y5 hg3 hg6)
    clear ho6 hg6 y5 y6 y7 hcl
    go_wp2
    go_ret2
    exact ⟨g, rfl, hbu, by omega, by first | exact hbf | (rw [hN]; exact hbf)⟩
end Go.Proofs.YthcokaffbgbanaaDoor

/- The walk of unmix of package aes. -/
namespace Go.Proofs.YthcokaffbgbanaaDoor
open Go.RowKit Go.BigFrame

set_option maxHeartbeats 1000000 in
set_option maxRecDepth 100000 in
theorem unmix_any (b : List UInt8) (hb : b.length = 16) (w : World) :
    Calls Tryd.prog 83 #[.agg (ag b)] w fun e w' => e = .returned (.agg (ag (Gf.unmixL b))) ∧ Below w.heap.size w w' := by
  go_enter Tryd.func83, Tryd.ntmps83
  go_wp2
  go_loopw [3] (fun i wr => ∃ (m k : Nat) (l : List UInt8), m ≤ 16 ∧ Hid (m = 4 * k) ∧ Hid (l = Gf.preTo b k) ∧ l.length = 16 ∧ i = .int .i64 (m : Int) ∧ Row wr w.heap.size 23 (ag l) ∧ Room wr (w.heap.size + 1) 23 16 ∧ Below w.heap.size w wr) (fun i _ => 16 - (intOf i).toNat)
  case atStart =>
    refine ⟨0, 0, b, by omega, rfl, rfl, hb, rfl, ?_, ?_, ?_⟩
    · exact (Row.new _ _ _).alloc _
    · exact Room.made _ _ _ _ _ rfl (by simp)
    · exact ((Below.refl _ _).alloc (Nat.le_refl _) _).alloc (by simp) _
  case round =>
    obtain ⟨m, k, l, hm, hm4, hlk, hl, rfl, h1, h2, hbl⟩ := hrel
    by_cases hlt : m < 16
    · have hlt : m ≤ 12 := by have := hm4.out; omega
      have c0 := h1.byte (k := m) (by omega)
      have c1 := h1.byte (k := m + 1) (by omega)
      have c2 := h1.byte (k := m + 2) (by omega)
      have c3 := h1.byte (k := m + 3) (by omega)
      have f0 := h1.frozen m
      have f1 := h1.frozen (m + 1)
      have f2 := h1.frozen (m + 2)
      have f3 := h1.frozen (m + 3)
      have hE : Hid (Gf.preTo b (k + 1) = Gf.ucol l m (l.getD m 0) (l.getD (m + 1) 0) (l.getD (m + 2) 0) (l.getD (m + 3) 0)) := by
        have e1 := hlk.out
        have e2 := hm4.out
        show _ = _
        rw [e1, e2]; rfl
      generalize l.getD m 0 = x0 at *
      generalize l.getD (m + 1) 0 = x1 at *
      generalize l.getD (m + 2) 0 = x2 at *
      generalize l.getD (m + 3) 0 = x3 at *
      have hx : ∀ x y : UInt8, bits .xor .u8 (x.toNat : Int) (y.toNat : Int) = ((Gf.bx x y).toNat : Int) := xor_bx
      go_wp2
      go_quiet ((go_at_call 85; exact Calls.quiet_of_same (double_any _ _)))
      go_wp2
      go_quiet ((go_at_call 85; exact (double_any _ _).mono (fun _ _ h => ⟨h.1, _, h.2⟩)))
      go_wp2
      refine ⟨⟨m + 4, k + 1, Gf.preTo b (k + 1), by omega, ?_, rfl, ?_, by go_num, ?_, ?_, ?_⟩, by simp [intOf]; omega⟩
      · have := hm4.out; show _ = _; omega
      · rw [Gf.preTo_len]; exact hb
      · rw [hE.out]; exact ((((h1.drewN _).setByte m _).setByte (m + 1) _).setByte (m + 2) _).setByte (m + 3) _
      · exact ((((h2.drewN _).setOther _ _ (by simp)).setOther _ _ (by simp)).setOther _ _ (by simp)).setOther _ _ (by simp)
      · exact (((((Below.drewN hbl _).setCell (Nat.le_refl _) _).setCell (Nat.le_refl _) _).setCell (Nat.le_refl _) _).setCell (Nat.le_refl _) _)
    · have hk' : k = 4 := by have := hm4.out; omega
      subst hk'
      have hl' : l = Gf.preTo b 4 := hlk.out
      have HL : Hid (Gf.mixL l = Gf.unmixL b) := by show _ = _; rw [hl']; rfl
      clear hlk hl'
      go_wp2_with (first
        | (refine wpList_load_row rfl 23 _ rfl _ rfl _ _ h1 _ Tryd.underlying23 rfl 16 Tryd.info23 (by rw [ag_size, hl]) ?_)
        | fail)
      refine (mix_any l hl _).mono ?_
      rintro e w1 ⟨rfl, hb1⟩
      have hlm : (Gf.unmixL b).length = 16 := by rw [Gf.unmixL_len]; exact hb
      have h3 : Room w1 (w.heap.size + 1) 23 16 := h2.below hb1 (h2.elim fun _ h => h.1.lt)
      have hbl1 : Below w.heap.size w w1 := hbl.trans (hb1.mono (by have := h1.lt; omega))
      clear h1 h2 hbl hb1
      rw [HL.out]
      go_wp2_with (refine wpList_store_row rfl 23 _ _ rfl _ rfl _ rfl _ _ h3 Tryd.info23 (by rw [ag_size, hlm]) (ag_one _) ?_)
      exact bodyPost_ret (results_row rfl _ _ rfl _ _ (h3.setRow _) _ Tryd.underlying23 rfl 16 Tryd.info23 (by rw [ag_size, hlm])) rfl ⟨rfl, below_setRow hbl1 (by omega) _⟩

end Go.Proofs.YthcokaffbgbanaaDoor

/- The walk of Decrypt of package aes. -/
namespace Go.Proofs.YthcokaffbgbanaaDoor
open Go.RowKit Go.BigFrame

theorem Env.store2 {N sb kb : Nat} {T KK : List UInt8} {w0 w : World} (h : Env N sb kb T KK w0 w) (h1 : N + 1 + 1 < sb) (h2 : N + 1 + 1 < kb) (s : List UInt8) (hs : s.length = 16) : Env N sb kb T KK w0 (w.setRow (N + 1) (ag s)) :=
  ⟨(h.blk.setRow _).room (by rw [ag_size]; exact hs), h.res.setRowOther _ _ (by omega), h.tab.setRowOther _ _ (by omega), h.kys.setRowOther _ _ (by omega), below_setRow h.bel (by omega) _⟩

set_option maxRecDepth 100000 in
set_option maxHeartbeats 2000000 in
theorem decrypt_any (key b : List UInt8) (hkey : key.length = 16) (hb : b.length = 16) (w : World) :
    Calls Tryd.prog 60 #[.agg (ag key), .agg (ag b)] w fun e w' => e = .returned (.agg (ag (Gf.decrypt key b))) ∧ Below w.heap.size w w' := by
  go_enter Tryd.func60, Tryd.ntmps60
  go_wp2_with fail
  refine (substitutes_any _).mono ?_
  rintro e w1 ⟨rfl, hb1⟩
  have r1 : Row w1 w.heap.size 23 (ag key) := Row.below (((Row.new _ _ _).alloc _).alloc _) hb1 (by simp; omega)
  have r2 : Row w1 (w.heap.size + 1) 23 (ag b) := Row.below ((Row.made _ _ _ _ _ rfl (by simp)).alloc _) hb1 (by simp)
  have r3 : Room w1 (w.heap.size + 1 + 1) 23 16 := Room.below (Room.made _ _ _ _ _ rfl (by simp)) hb1 (by simp)
  have hbl : Below w.heap.size w w1 := ((((Below.refl _ _).alloc (Nat.le_refl _) _).alloc (by simp) _).alloc (by simp; omega) _).trans (hb1.mono (by simp; omega))
  have hz1 : w.heap.size + 1 + 1 < w1.heap.size := r3.elim fun _ h => h.1.lt
  clear hb1
  have HS : Hid (Gf.sbox.length = 256) := Gf.sbox_len
  have HR : Hid (Gf.decrypt key b = Gf.bxor (Gf.decTo Gf.sbox (Gf.orig Gf.sbox) (Gf.keys Gf.sbox key) b 10) (Gf.rk (Gf.keys Gf.sbox key) 0)) := rfl
  generalize Gf.sbox = T at *
  go_wp2_with (first
    | (refine wpList_alloc_row rfl 118 rfl _ _ Tryd.zero118 ?_)
    | (refine wpList_store_row rfl 118 _ _ rfl _ rfl _ rfl _ _ (Room.new _ _ _ _ (by rw [ag_size]; exact List.length_replicate)) Tryd.info118 (by rw [ag_size]; exact HS.out) (ag_one _) ?_; rw [World.setRow_alloc_new])
    | (refine wpList_load_row rfl 23 _ rfl _ rfl _ _ (r1.alloc _) _ Tryd.underlying23 rfl 16 Tryd.info23 (by rw [ag_size]; exact hkey) ?_)
    | fail)
  refine (expand_any key T hkey HS.out _ _ _ (Row.new _ _ _)).mono ?_
  rintro e w2 ⟨rfl, hb2⟩
  have q2 : Row w2 (w.heap.size + 1) 23 (ag b) := (r2.alloc _).below hb2 (by simp; omega)
  have q3 : Room w2 (w.heap.size + 1 + 1) 23 16 := (r3.alloc _).below hb2 (by simp; omega)
  have q4 : Row w2 w1.heap.size 118 (ag T) := (Row.new _ _ _).below hb2 (by simp)
  have hbl2 : Below w.heap.size w w2 := (hbl.alloc (by omega) _).trans (hb2.mono (by simp; omega))
  clear r1 r2 r3 hbl hb2
  generalize w1.heap.size = sb at *
  have hz2 : sb < w2.heap.size := q4.lt
  have HK : Hid ((Gf.keys T key).length = 176) := Gf.keys_len T key
  generalize Gf.keys T key = KK at *
  go_wp2_with (first
    | (refine wpList_alloc_row rfl 106 rfl _ _ Tryd.zero106 ?_)
    | (refine wpList_store_row rfl 106 _ _ rfl _ rfl _ rfl _ _ (Room.new _ _ _ _ (by rw [ag_size]; exact List.length_replicate)) Tryd.info106 (by rw [ag_size]; exact HK.out) (ag_one _) ?_; rw [World.setRow_alloc_new])
    | fail)
  refine (origins_any T HS.out _ _ _ (q4.alloc _)).mono ?_
  rintro e w3 ⟨rfl, hb3⟩
  have p2 : Row w3 (w.heap.size + 1) 23 (ag b) := (q2.alloc _).below hb3 (by simp; omega)
  have p3 : Room w3 (w.heap.size + 1 + 1) 23 16 := (q3.alloc _).below hb3 (by simp; omega)
  have p5 : Row w3 w2.heap.size 106 (ag KK) := (Row.new _ _ _).below hb3 (by simp)
  have hbl3 : Below w.heap.size w w3 := (hbl2.alloc (by omega) _).trans (hb3.mono (by simp; omega))
  clear q2 q3 q4 hbl2 hb3
  generalize w2.heap.size = kb at *
  have hz3 : kb < w3.heap.size := p5.lt
  have HU : Hid ((Gf.orig T).length = 256) := Gf.origTo_len T 256
  generalize Gf.orig T = U at *
  go_wp2_with (first
    | (refine wpList_alloc_row rfl 118 rfl _ _ Tryd.zero118 ?_)
    | (refine wpList_store_row rfl 118 _ _ rfl _ rfl _ rfl _ _ (Room.new _ _ _ _ (by rw [ag_size]; exact List.length_replicate)) Tryd.info118 (by rw [ag_size]; exact HU.out) (ag_one _) ?_; rw [World.setRow_alloc_new])
    | fail)
  go_loopw [8] (fun i wr => ∃ (j : Nat) (s : List UInt8), j ≤ 10 ∧ Hid (s = Gf.decTo T U KK b j) ∧ s.length = 16 ∧ i = .int .i64 ((10 : Int) - j) ∧ Row wr (w.heap.size + 1) 23 (ag s) ∧ Env w.heap.size w3.heap.size kb U KK w wr) (fun i _ => (intOf i).toNat)
  case atStart =>
    exact ⟨0, b, by omega, rfl, hb, rfl, p2.alloc _, ⟨(p2.alloc _).room (by rw [ag_size]; exact hb), p3.alloc _, Row.new _ _ _, p5.alloc _, hbl3.alloc (by omega) _⟩⟩
  case round =>
    clear p2 p3 p5 hbl3
    have hz4 : w.heap.size + 1 + 1 < w3.heap.size := by omega
    have hz5 : w.heap.size + 1 + 1 < kb := by omega
    clear hz1 hz2 hz3
    generalize w3.heap.size = ub at *
    obtain ⟨j, s, hj, hs, hl, rfl, h2, hv⟩ := hrel
    by_cases hlt : j < 10
    · obtain ⟨r, hr⟩ : ∃ r, r = 10 - j := ⟨_, rfl⟩
      have hr' : (10 : Int) - (j : Int) = (r : Int) := by omega
      have hr1 : 1 ≤ r := by omega
      have hr10 : r ≤ 10 := by omega
      have HR2 := show Hid _ from hr
      clear hr
      go_wp2
      refine wp_region_tail 4 (by kernel_rfl) (by kernel_rfl) ?_
      simp only [List.take_succ_cons, List.take_zero, List.drop_succ_cons, List.drop_zero]
      go_big_quiet_want
      refine quiet_load_row 23 _ rfl _ rfl _ _ (fun w' hw' => by rw [hw']; exact h2) _ Tryd.underlying23 rfl 16 Tryd.info23 (by rw [ag_size]; exact hl) ?_
      go_big_quiet_on
      simp only [Act.put, List.setIfInBounds_toArray, List.set_cons_succ, List.set_cons_zero]
      repeat (go_big_quiet_step (fail))
      go_big_quiet_want
      refine quiet_load_part 23 _ rfl _ _ rfl _ _ (fun w' hw' => by rw [hw']; exact hv.kys) _ Tryd.underlying23 rfl 16 Tryd.info23 (by rw [HK.out]; omega) ?_
      go_big_quiet_on
      simp only [Act.put, List.setIfInBounds_toArray, List.set_cons_succ, List.set_cons_zero]
      refine wpQuiet_nil ?_
      go_wp2_with fail
      refine (against_any s (Gf.rk KK r) hl (Gf.rk_len _ _ HK.out hr10) _).mono ?_
      rintro e w4 ⟨rfl, hb4⟩
      have hv4 := hv.drew.below hb4
      have l5 := Gf.bxor_len s (Gf.rk KK r)
      have hv5 := hv4.store2 hz4 hz5 (Gf.bxor s (Gf.rk KK r)) l5
      have h5 := hv4.blk.setRow (ag (Gf.bxor s (Gf.rk KK r)))
      have hE0 : Hid (Gf.decTo T U KK b (j + 1) = Gf.subst U (Gf.turn (if r < 10 then Gf.unmixL (Gf.bxor s (Gf.rk KK r)) else Gf.bxor s (Gf.rk KK r)) 3)) := by
        have e1 := hs.out
        have e2 := HR2.out
        show _ = _
        rw [e1, e2]; rfl
      clear hb4 hv h2
      generalize Gf.bxor s (Gf.rk KK r) = s1 at *
      by_cases h9 : r < 10
      · have hE : Hid (Gf.decTo T U KK b (j + 1) = Gf.subst U (Gf.turn (Gf.unmixL s1) 3)) := by
          have := hE0.out
          rw [if_pos h9] at this; exact this
        clear hE0
        go_wp2_with (first
          | (refine wpList_store_row rfl 23 _ _ rfl _ rfl _ rfl _ _ hv4.blk Tryd.info23 (by rw [ag_size]; exact l5) (ag_one _) ?_)
          | (refine wpList_load_row rfl 23 _ rfl _ rfl _ _ h5 _ Tryd.underlying23 rfl 16 Tryd.info23 (by rw [ag_size]; exact l5) ?_)
          | fail)
        clear hv4
        refine (unmix_any s1 l5 _).mono ?_
        rintro e w6 ⟨rfl, hb6⟩
        have hv5' := hv5.below hb6
        have l6 : (Gf.unmixL s1).length = 16 := by rw [Gf.unmixL_len]; exact l5
        have hv6 := hv5'.store2 hz4 hz5 (Gf.unmixL s1) l6
        have h6 := hv5'.blk.setRow (ag (Gf.unmixL s1))
        clear hb6 hv5 h5
        generalize Gf.unmixL s1 = s2 at *
        go_wp2_with (first
          | (refine wpList_store_row rfl 23 _ _ rfl _ rfl _ rfl _ _ hv5'.blk Tryd.info23 (by rw [ag_size]; exact l6) (ag_one _) ?_)
          | (refine wpList_load_row rfl 23 _ rfl _ rfl _ _ h6 _ Tryd.underlying23 rfl 16 Tryd.info23 (by rw [ag_size]; exact l6) ?_)
          | fail)
        refine (turn3_any s2 l6 _).mono ?_
        rintro e w7 ⟨rfl, hb7⟩
        have hv7 := hv6.below hb7
        clear hb7 hv6 h6
        go_wp2_with fail
        refine (replace_any (Gf.turn s2 3) U (Gf.turn_len _ _) HU.out _ _ _ hv7.tab).mono ?_
        rintro e w8 ⟨rfl, hb8⟩
        have hv8 := hv7.below hb8
        have l8 := Gf.subst_len U (Gf.turn s2 3)
        have hv9 := hv8.store2 hz4 hz5 (Gf.subst U (Gf.turn s2 3)) l8
        have h9 := hv8.blk.setRow (ag (Gf.subst U (Gf.turn s2 3)))
        clear hb8 hv7
        generalize Gf.subst U (Gf.turn s2 3) = s3 at *
        go_wp2_with (refine wpList_store_row rfl 23 _ _ rfl _ rfl _ rfl _ _ hv8.blk Tryd.info23 (by rw [ag_size]; exact l8) (ag_one _) ?_)
        go_roundw
        case rel => exact ⟨j + 1, s3, by omega, hE.out.symm, l8, by go_num, h9, hv9⟩
        case measure => simp [intOf]; omega
      · have hE : Hid (Gf.decTo T U KK b (j + 1) = Gf.subst U (Gf.turn s1 3)) := by
          have := hE0.out
          rw [if_neg h9] at this; exact this
        clear hE0
        have h6 := h5
        have hv6 := hv5
        have l6 := l5
        clear h5 hv5
        generalize hs12 : s1 = s2 at *
        clear hs12
        go_wp2_with (first
          | (refine wpList_store_row rfl 23 _ _ rfl _ rfl _ rfl _ _ hv4.blk Tryd.info23 (by rw [ag_size]; exact l6) (ag_one _) ?_)
          | (refine wpList_load_row rfl 23 _ rfl _ rfl _ _ h6 _ Tryd.underlying23 rfl 16 Tryd.info23 (by rw [ag_size]; exact l6) ?_)
          | fail)
        refine (turn3_any s2 l6 _).mono ?_
        rintro e w7 ⟨rfl, hb7⟩
        have hv7 := hv6.below hb7
        clear hb7 hv6 h6
        go_wp2_with fail
        refine (replace_any (Gf.turn s2 3) U (Gf.turn_len _ _) HU.out _ _ _ hv7.tab).mono ?_
        rintro e w8 ⟨rfl, hb8⟩
        have hv8 := hv7.below hb8
        have l8 := Gf.subst_len U (Gf.turn s2 3)
        have hv9 := hv8.store2 hz4 hz5 (Gf.subst U (Gf.turn s2 3)) l8
        have h9 := hv8.blk.setRow (ag (Gf.subst U (Gf.turn s2 3)))
        clear hb8 hv7
        generalize Gf.subst U (Gf.turn s2 3) = s3 at *
        go_wp2_with (refine wpList_store_row rfl 23 _ _ rfl _ rfl _ rfl _ _ hv8.blk Tryd.info23 (by rw [ag_size]; exact l8) (ag_one _) ?_)
        go_roundw
        case rel => exact ⟨j + 1, s3, by omega, hE.out.symm, l8, by go_num, h9, hv9⟩
        case measure => simp [intOf]; omega
    · have hj10 : j = 10 := by omega
      have hR : Gf.bxor s (List.take 16 KK) = Gf.decrypt key b := by rw [HR.out, hs.out, hj10]; rfl
      have HB := show Hid _ from hR
      clear hs hj10 hR
      go_wp2_with (first
        | (refine wpList_load_row rfl 23 (.tmp 3) rfl _ rfl _ _ h2 _ Tryd.underlying23 rfl 16 Tryd.info23 (by rw [ag_size]; exact hl) ?_)
        | (refine wpList_load_part rfl 23 (.tmp 30) rfl _ _ rfl _ _ hv.kys _ Tryd.underlying23 rfl 16 Tryd.info23 (by rw [HK.out]; omega) ?_)
        | fail)
      refine (against_any s (List.take 16 KK) hl (by rw [List.length_take, HK.out]; rfl) _).mono ?_
      rintro e w4 ⟨rfl, hb4⟩
      have hv4 := hv.below hb4
      rw [HB.out]
      have hlm := Gf.decrypt_len key b
      clear hb4 hv h2
      go_wp2_with (refine wpList_store_row rfl 23 _ _ rfl _ rfl _ rfl _ _ hv4.res Tryd.info23 (by rw [ag_size]; exact hlm) (ag_one _) ?_)
      exact bodyPost_ret (results_row rfl _ _ rfl _ _ (hv4.res.setRow _) _ Tryd.underlying23 rfl 16 Tryd.info23 (by rw [ag_size]; exact hlm)) rfl ⟨rfl, below_setRow hv4.bel (by omega) _⟩
end Go.Proofs.YthcokaffbgbanaaDoor
