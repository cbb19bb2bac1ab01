/- The walk of digest. -/
import Derived.Test.YthcokaffbgbanaaDoorXc
namespace Go.Proofs.YthcokaffbgbanaaDoor
open Go.RowKit Go.BigFrame

set_option maxRecDepth 100000 in
theorem Sf.set {mb : Nat} {l0 : List UInt8} {w : World} {p q : Nat} (hp : Sf mb l0 w p) (hq : Sf mb l0 w q) (c : Array Value) : Sf mb l0 (w.setRow p c) q := by
  obtain ⟨bb, hm⟩ := hp.is
  have hz : (w.setRow p c).heap.size = w.heap.size := by simp [World.setRow]
  have m' : Msk mb l0 (w.setRow p c) bb := hm.same (by omega) (setRow_other _ _ _ _ (Ne.symm hp.ne)) (setRow_other _ _ _ _ (Ne.symm (hp.off bb hm)))
  exact ⟨by have := hq.lt; omega, hq.ne, fun b2 m2 => by rw [← m'.one m2]; exact hq.off bb hm, bb, m'⟩
set_option maxRecDepth 100000 in
theorem Tab.go {mb : Nat} {l0 : List UInt8} {w w' : World} (h : Tab w) (hs : Sf mb l0 w 1) (g : Gm mb l0 w w') : Tab w' :=
  ⟨fun k hk => by rw [hs.cell g k]; exact h.cell k hk, by have := g.size; have := h.lt; omega⟩
set_option maxRecDepth 100000 in
theorem Tab.set {w : World} (h : Tab w) (p : Nat) (hp : p ≠ 1) (c : Array Value) : Tab (w.setRow p c) := by
  have e : (w.setRow p c).heap[1]? = w.heap[1]? := setRow_other _ _ _ _ (Ne.symm hp)
  refine ⟨fun k hk => ?_, by have := h.lt; simp [World.setRow]; exact this⟩
  have := h.cell k hk
  simp only [World.cell?, e] at *
  exact this
set_option maxRecDepth 100000 in
theorem Tab.below {N : Nat} {w w' : World} (h : Tab w) (hb : Below N w w') (hn : 1 < N) : Tab w' := by
  have e := hb.block 1 hn
  refine ⟨fun k hk => ?_, by have := hb.size; have := h.lt; omega⟩
  have := h.cell k hk
  simp only [World.cell?, e] at *
  exact this

def Gf.digFromN (key l0 : List UInt8) : Nat → Nat → List UInt8 → List UInt8 → List UInt8 → List UInt8
  | 0, _, _, t, _ => t
  | f + 1, i, o, t, l => if 16 ≤ l.length then (Gf.digFromN key l0 f (i + 1) (Gf.bxor o (Gf.ell l0 (2 + Gf.ntz i))) (Gf.bxor t (Gf.encrypt key (Gf.bxor (l.take 16) (Gf.bxor o (Gf.ell l0 (2 + Gf.ntz i)))))) (l.drop 16)) else if 0 < l.length then Gf.bxor t (Gf.encrypt key (Gf.bxor (Gf.fup l) (Gf.bxor o (Gf.ell l0 0)))) else t
theorem Gf.digFromN_more (key l0 : List UInt8) (f g : Nat) (i : Nat) (o : List UInt8) (t : List UInt8) (l : List UInt8) (hf : l.length < f) (hg : l.length < g) : Gf.digFromN key l0 f i o t l = Gf.digFromN key l0 g i o t l := by
  induction f generalizing g i o t l with
  | zero => omega
  | succ f ih =>
    cases g with
    | zero => omega
    | succ g =>
      rw [Gf.digFromN, Gf.digFromN]
      by_cases h : 16 ≤ l.length
      · rw [if_pos h, if_pos h, ih g (i + 1) (Gf.bxor o (Gf.ell l0 (2 + Gf.ntz i))) (Gf.bxor t (Gf.encrypt key (Gf.bxor (l.take 16) (Gf.bxor o (Gf.ell l0 (2 + Gf.ntz i)))))) (l.drop 16) (by rw [List.length_drop]; omega) (by rw [List.length_drop]; omega)]
      · rw [if_neg h, if_neg h]
def Gf.digFrom (key l0 : List UInt8) (i : Nat) (o : List UInt8) (t : List UInt8) (l : List UInt8) : List UInt8 := Gf.digFromN key l0 (l.length + 1) i o t l
theorem Gf.digFrom_eq (key l0 : List UInt8) (i : Nat) (o : List UInt8) (t : List UInt8) (l : List UInt8) : Gf.digFrom key l0 i o t l = if _h : 16 ≤ l.length then (Gf.digFrom key l0 (i + 1) (Gf.bxor o (Gf.ell l0 (2 + Gf.ntz i))) (Gf.bxor t (Gf.encrypt key (Gf.bxor (l.take 16) (Gf.bxor o (Gf.ell l0 (2 + Gf.ntz i)))))) (l.drop 16)) else if 0 < l.length then Gf.bxor t (Gf.encrypt key (Gf.bxor (Gf.fup l) (Gf.bxor o (Gf.ell l0 0)))) else t := by
  rw [Gf.digFrom, Gf.digFromN]
  by_cases h : 16 ≤ l.length
  · rw [if_pos h, dif_pos h, Gf.digFrom, Gf.digFromN_more _ _ l.length ((l.drop 16).length + 1) (i + 1) (Gf.bxor o (Gf.ell l0 (2 + Gf.ntz i))) (Gf.bxor t (Gf.encrypt key (Gf.bxor (l.take 16) (Gf.bxor o (Gf.ell l0 (2 + Gf.ntz i)))))) (l.drop 16) (by rw [List.length_drop]; omega) (by omega)]
  · rw [if_neg h, dif_neg h]
theorem Gf.digFrom_ind {l0 key : List UInt8} {motive : Nat → List UInt8 → List UInt8 → List UInt8 → Prop} (case1 : ∀ (i : Nat) (o : List UInt8) (t : List UInt8) (l : List UInt8), 16 ≤ l.length → motive (i + 1) (Gf.bxor o (Gf.ell l0 (2 + Gf.ntz i))) (Gf.bxor t (Gf.encrypt key (Gf.bxor (l.take 16) (Gf.bxor o (Gf.ell l0 (2 + Gf.ntz i)))))) (l.drop 16) → motive i o t l)
    (case2 : ∀ (i : Nat) (o : List UInt8) (t : List UInt8) (l : List UInt8), ¬ 16 ≤ l.length → 0 < l.length → motive i o t l) (case3 : ∀ (i : Nat) (o : List UInt8) (t : List UInt8) (l : List UInt8), ¬ 16 ≤ l.length → ¬ 0 < l.length → motive i o t l) (i : Nat) (o : List UInt8) (t : List UInt8) (l : List UInt8) : motive i o t l := by
  obtain ⟨n, hn⟩ : ∃ n, l.length < n := ⟨l.length + 1, by omega⟩
  induction n generalizing i o t l with
  | zero => omega
  | succ n ih =>
    by_cases h : 16 ≤ l.length
    · exact case1 i o t l h (ih (i + 1) (Gf.bxor o (Gf.ell l0 (2 + Gf.ntz i))) (Gf.bxor t (Gf.encrypt key (Gf.bxor (l.take 16) (Gf.bxor o (Gf.ell l0 (2 + Gf.ntz i)))))) (l.drop 16) (by rw [List.length_drop]; omega))
    · by_cases hp : 0 < l.length
      · exact case2 i o t l h hp
      · exact case3 i o t l h hp
set_option maxRecDepth 100000 in
theorem Gf.digFrom_len (key l0 : List UInt8) (i : Nat) (o t l : List UInt8) (h : t.length = 16) : (Gf.digFrom key l0 i o t l).length = 16 := by
  induction i, o, t, l using Gf.digFrom_ind (key := key) (l0 := l0) with
  | case1 i o t l h16 ih => rw [Gf.digFrom_eq, dif_pos h16]; exact ih (Gf.bxor_len _ _)
  | case2 i o t l h16 hp => rw [Gf.digFrom_eq, dif_neg h16, if_pos hp]; exact Gf.bxor_len _ _
  | case3 i o t l h16 hp => rw [Gf.digFrom_eq, dif_neg h16, if_neg hp]; exact h

/-- What stands while bytes are digested. -/
structure DE (mb : Nat) (l0 key : List UInt8) (N : Nat) (w0 w : World) (o t : List UInt8) : Prop where
  kk : Row w N 23 (ag key)
  rr : Room w (N + 1) 23 16
  ro : Row w (N + 1 + 1) 23 (ag o)
  rt : Row w (N + 1 + 1 + 1) 23 (ag t)
  rb : Room w (N + 1 + 1 + 1 + 1) 23 16
  tb : Tab w
  s1 : Sf mb l0 w 1
  f0 : Sf mb l0 w N
  f1 : Sf mb l0 w (N + 1)
  f2 : Sf mb l0 w (N + 1 + 1)
  f3 : Sf mb l0 w (N + 1 + 1 + 1)
  f4 : Sf mb l0 w (N + 1 + 1 + 1 + 1)
  g : Gm mb l0 w0 w
  n1 : 1 < N
  nz : w0.heap.size = N
section
variable {mb : Nat} {l0 key : List UInt8} {N : Nat} {w0 w w' : World} {o t : List UInt8}
set_option maxRecDepth 100000 in
theorem DE.go (h : DE mb l0 key N w0 w o t) (g : Gm mb l0 w w') : DE mb l0 key N w0 w' o t :=
  ⟨h.f0.row g h.kk, h.f1.room g h.rr, h.f2.row g h.ro, h.f3.row g h.rt, h.f4.room g h.rb, h.tb.go h.s1 g, h.s1.go g, h.f0.go g, h.f1.go g, h.f2.go g, h.f3.go g, h.f4.go g, h.g.trans g, h.n1, h.nz⟩
set_option maxRecDepth 100000 in
theorem DE.setO (h : DE mb l0 key N w0 w o t) (o' : List UInt8) : DE mb l0 key N w0 (w.setRow (N + 1 + 1) (ag o')) o' t := by
  have := h.n1
  have := h.nz
  exact ⟨h.kk.setRowOther _ _ (by omega), h.rr.setRowOther _ _ (by omega), h.ro.setRow _, h.rt.setRowOther _ _ (by omega), h.rb.setRowOther _ _ (by omega), h.tb.set _ (by omega) _, h.f2.set h.s1 _, h.f2.set h.f0 _, h.f2.set h.f1 _, h.f2.set h.f2 _, h.f2.set h.f3 _, h.f2.set h.f4 _, h.g.setRow h.f2 (by omega) _, h.n1, h.nz⟩
set_option maxRecDepth 100000 in
theorem DE.setT (h : DE mb l0 key N w0 w o t) (t' : List UInt8) : DE mb l0 key N w0 (w.setRow (N + 1 + 1 + 1) (ag t')) o t' := by
  have := h.n1
  have := h.nz
  exact ⟨h.kk.setRowOther _ _ (by omega), h.rr.setRowOther _ _ (by omega), h.ro.setRowOther _ _ (by omega), h.rt.setRow _, h.rb.setRowOther _ _ (by omega), h.tb.set _ (by omega) _, h.f3.set h.s1 _, h.f3.set h.f0 _, h.f3.set h.f1 _, h.f3.set h.f2 _, h.f3.set h.f3 _, h.f3.set h.f4 _, h.g.setRow h.f3 (by omega) _, h.n1, h.nz⟩
set_option maxRecDepth 100000 in
theorem DE.setB (h : DE mb l0 key N w0 w o t) (b : List UInt8) (hb : b.length = 16) : DE mb l0 key N w0 (w.setRow (N + 1 + 1 + 1 + 1) (ag b)) o t := by
  have := h.n1
  have := h.nz
  exact ⟨h.kk.setRowOther _ _ (by omega), h.rr.setRowOther _ _ (by omega), h.ro.setRowOther _ _ (by omega), h.rt.setRowOther _ _ (by omega), (h.rb.setRow _).room (by rw [ag_size]; exact hb), h.tb.set _ (by omega) _, h.f4.set h.s1 _, h.f4.set h.f0 _, h.f4.set h.f1 _, h.f4.set h.f2 _, h.f4.set h.f3 _, h.f4.set h.f4 _, h.g.setRow h.f4 (by omega) _, h.n1, h.nz⟩
/-- The bytes lie in blocks that were there, and are none of the L's. -/
def Old (mb : Nat) (l0 : List UInt8) (N : Nat) (w : World) (b : Nat) : Prop := Sf mb l0 w b ∧ b < N
set_option maxRecDepth 100000 in
theorem Bts.go {v : Value} {l : List UInt8} (h : Bts (Old mb l0 N w) w v l) (g : Gm mb l0 w w') : Bts (Old mb l0 N w') w' v l :=
  h.keep fun _ hb => ⟨⟨hb.1.go g, hb.2⟩, (hb.1.keep g).2⟩
set_option maxRecDepth 100000 in
theorem Bts.set {v : Value} {l : List UInt8} (h : Bts (Old mb l0 N w) w v l) (p : Nat) (hp : Sf mb l0 w p) (hN : N ≤ p) (c : Array Value) : Bts (Old mb l0 N (w.setRow p c)) (w.setRow p c) v l :=
  h.keep fun b hb => ⟨⟨hp.set hb.1 _, hb.2⟩, setRow_other _ _ _ _ (by have := hb.2; omega)⟩
set_option maxRecDepth 100000 in
theorem Bts.re {S S' : Nat → Prop} {v : Value} {l : List UInt8} (h : Bts S w v l) (hk : ∀ b, S b → S' b) : Bts S' w v l := h.keep fun b hb => ⟨hk b hb, rfl⟩
set_option maxRecDepth 100000 in
theorem ntz_lt (i : Nat) : Gf.ntz i < 256 := UInt8.toNat_lt _
set_option maxRecDepth 100000 in
theorem maskAt {mb : Nat} {l0 : List UInt8} (hl0 : l0.length = 16) {w : World} {p : Nat} (hs : Sf mb l0 w p) (r : Nat) (hr : r < 290) :
    Calls Tryd.prog 63 #[.int .i64 (r : Int), .pointer (some ⟨mb, 0, none⟩)] w fun e w' => e = .returned (.agg (ag (Gf.ell l0 r))) ∧ Gm mb l0 w w' := by
  obtain ⟨bb, hm⟩ := hs.is
  exact mask_any mb bb l0 hl0 r hr w hm
end

set_option maxRecDepth 100000 in
set_option maxHeartbeats 2000000 in
theorem digest_any (mb : Nat) (l0 key : List UInt8) (hl0 : l0.length = 16) (hkey : key.length = 16) (vv : Value) (l : List UInt8) (hmax : l.length ≤ 100000) (w : World) (ht : Tab w) (hs1 : Sf mb l0 w 1) (hB : Bts (Sf mb l0 w) w vv l) :
    Calls Tryd.prog 77 #[.agg (ag key), mskFn mb, vv] w fun e w' => e = .returned (.agg (ag (Gf.digFrom key l0 1 (Gf.zeros 16) (Gf.zeros 16) l))) ∧ Gm mb l0 w w' := by
  obtain ⟨R, hR0⟩ : ∃ R, Gf.digFrom key l0 1 (Gf.zeros 16) (Gf.zeros 16) l = R := ⟨_, rfl⟩
  have lR : R.length = 16 := by rw [← hR0]; exact Gf.digFrom_len _ _ _ _ _ _ rfl
  rw [hR0]
  have hR := Box'.mk hR0
  clear hR0
  go_enter Tryd.func77, Tryd.ntmps77
  go_wp2
  have hd : ∀ W, W = (((((w.alloc (.cells (ag key) 23)).alloc (.cells (ag (Gf.zeros 16)) 23)).alloc (.cells (ag (Gf.zeros 16)) 23)).alloc (.cells (ag (Gf.zeros 16)) 23)).alloc (.cells (ag (Gf.zeros 16)) 23)) → DE mb l0 key w.heap.size w W (Gf.zeros 16) (Gf.zeros 16) ∧ Bts (Old mb l0 w.heap.size W) W vv l := by
    intro W hW
    obtain ⟨bb, hm⟩ := hs1.is
    have hlt := ht.lt
    have b1 : Below w.heap.size w W := by rw [hW]; exact (((((Below.refl _ _).alloc (Nat.le_refl _) _).alloc (by simp) _).alloc (by simp; omega) _).alloc (by simp; omega) _).alloc (by simp; omega) _
    have g1 : Gm mb l0 w W := Gm.of b1
    obtain ⟨b2, m2, e2, _⟩ := g1.to bb hm
    have hme := hm.mlt
    have hbe : b2 < w.heap.size := by
      have := (hm.same b1.size (b1.block mb hm.mlt) (b1.block bb hm.lt)).one m2
      have := hm.lt
      omega
    have hsz : W.heap.size = w.heap.size + 1 + 1 + 1 + 1 + 1 := by rw [hW]; simp
    have hf : ∀ k, w.heap.size ≤ k → k < W.heap.size → Sf mb l0 W k := fun k h1 h2 => ⟨h2, by omega, fun b3 m3 => by rw [← m2.one m3]; omega, b2, m2⟩
    refine ⟨⟨?_, ?_, ?_, ?_, ?_, ht.below b1 hlt, hs1.go g1, hf _ (by omega) (by omega), hf _ (by omega) (by omega), hf _ (by omega) (by omega), hf _ (by omega) (by omega), hf _ (by omega) (by omega), g1, hlt, rfl⟩, hB.keep fun b h => ⟨⟨h.go g1, h.lt⟩, (h.keep g1).2⟩⟩
    · rw [hW]; exact ((((Row.new _ _ _).alloc _).alloc _).alloc _).alloc _
    · rw [hW]; exact (((Room.made _ _ _ _ _ rfl (by simp)).alloc _).alloc _).alloc _
    · rw [hW]; exact ((Row.made _ _ _ _ _ rfl (by simp)).alloc _).alloc _
    · rw [hW]; exact (Row.made _ _ _ _ _ rfl (by simp)).alloc _
    · rw [hW]; exact Room.made _ _ _ _ _ rfl (by simp)
  have hd1 := hd _ rfl
  clear hd hB ht hs1
  generalize hN : w.heap.size = N at *
  go_loopw [2, 10] (fun s c wr => ∃ (i : Nat) (l o t : List UInt8), c = .int .i64 (i : Int) ∧ 0 < i ∧ i + l.length ≤ 200000 ∧ Bts (Old mb l0 N wr) wr s l ∧ l.length ≤ 100000 ∧ o.length = 16 ∧ t.length = 16 ∧ Box' (Gf.digFrom key l0 i o t l = R) ∧ DE mb l0 key N w wr o t) (fun s _ _ => sliceLen s)
  case atStart => exact ⟨1, l, _, _, rfl, by omega, by omega, hd1.2, hmax, rfl, rfl, hR, hd1.1⟩
  case round =>
    clear hd1 hR hmax
    obtain ⟨i, l, o, t, rfl, hi1, hi2, hB, hmax, lo, lt, hR, hD⟩ := hrel
    have hBc := hB
    obtain ⟨a, c, rfl, hcap, _⟩ := hBc
    by_cases h16 : 16 ≤ l.length
    · have hc16 : (16 : Int) ≤ (l.length : Int) := by omega
      have lT : (l.take 16).length = 16 := by rw [List.length_take]; omega
      have lO := Gf.bxor_len o (Gf.ell l0 (2 + Gf.ntz i))
      have hR1 : Box' (Gf.digFrom key l0 (i + 1) (Gf.bxor o (Gf.ell l0 (2 + Gf.ntz i))) (Gf.bxor t (Gf.encrypt key (Gf.bxor (l.take 16) (Gf.bxor o (Gf.ell l0 (2 + Gf.ntz i)))))) (l.drop 16) = R) := ⟨by rw [← hR.out]; conv => rhs; rw [Gf.digFrom_eq, dif_pos h16]⟩
      have hdr : (l.drop 16).length ≤ 100000 := by rw [List.length_drop]; omega
      have hdi : i + 1 + (l.drop 16).length ≤ 200000 := by rw [List.length_drop]; omega
      go_wp2_with fail
      refine (cut_any _ _ l h16 hmax _ hB).mono ?_
      rintro e w1 ⟨v', rfl, hB1, hb1⟩
      have hms : sliceLen v' < l.length := by
        obtain ⟨a', c', e', _⟩ := hB1
        rw [e']; show (l.drop 16).length < l.length; rw [List.length_drop]; omega
      have hB2 := hB1.go (Gm.of hb1 : Gm mb l0 wr w1)
      have hD1 := hD.go (Gm.of hb1)
      have hN4 : N ≤ N + 1 + 1 + 1 + 1 := by omega
      have hB3 := hB2.set _ hD1.f4 hN4 (ag (l.take 16))
      have hD2 := hD1.setB (l.take 16) lT
      have rB := hD1.rb.setRow (ag (l.take 16))
      clear hB hB1 hB2 hD hb1 hR
      go_wp2_with (refine wpList_store_row rfl 23 (.tmp 9) (.tmp 19) rfl _ rfl _ rfl _ _ hD1.rb Tryd.info23 (by rw [ag_size]; exact lT) (ag_one _) ?_)
      clear hD1
      generalize World.setRow _ _ _ = W2 at *
      refine wp_region_grow 6 (by kernel_rfl) (by kernel_rfl) (Gm mb l0) (fun w1 => DE mb l0 key N w w1 o t ∧ Bts (Old mb l0 N w1) w1 v' (l.drop 16) ∧ Row w1 (N + 1 + 1 + 1 + 1) 23 (ag (l.take 16))) (fun k w1 v => match k with
        | 0 => v = .agg (ag o)
        | 1 => v = mskFn mb
        | 2 => v = .int .i64 (i : Int)
        | 3 => v = .int .i64 ((2 + Gf.ntz i : Nat) : Int)
        | 4 => v = .agg (ag (Gf.ell l0 (2 + Gf.ntz i)))
        | 5 => v = .agg (ag (Gf.bxor o (Gf.ell l0 (2 + Gf.ntz i))))
        | _ => True) ?_ ?_ ?_ ?_ ?_
      · rintro w1 w2 hb ⟨c1, c2, c3⟩
        exact ⟨c1.go hb, c2.go hb, c1.f4.row hb c3⟩
      · intro k v w1 w2 hC1 hb h
        match k, h with
        | 0, h => exact h
        | 1, h => exact h
        | 2, h => exact h
        | 3, h => exact h
        | 4, h => exact h
        | 5, h => exact h
        | k + 6, h => trivial
      · exact ⟨hD2.go (Gm.refl _ _ _).drew, hB3.go (Gm.refl _ _ _).drew, rB.drew⟩
      · refine ⟨?_, ?_, ?_, ?_, ?_, ?_, trivial⟩
        · intro f w1 hC hd KK hK
          simp only [List.take_succ_cons, List.take_zero, setAll, List.setIfInBounds_toArray, List.set_cons_succ, List.set_cons_zero, Nat.zero_add, Nat.reduceAdd] at hK ⊢
          refine wp_load_row 23 _ rfl _ rfl _ _ (hC.1.ro) _ Tryd.underlying23 rfl 16 Tryd.info23 (by rw [ag_size]; exact lo) ?_
          exact hK _ _ rfl (Gm.refl _ _ _)
        · intro f w1 hC hd KK hK
          simp only [List.take_succ_cons, List.take_zero, setAll, List.setIfInBounds_toArray, List.set_cons_succ, List.set_cons_zero, Nat.zero_add, Nat.reduceAdd] at hK ⊢
          refine wp_of_quiet rfl ?_
          go_big_quiet_step (fail)
          exact wpQuiet_nil (hK _ _ rfl (Gm.refl _ _ _))
        · intro f w1 hC hd KK hK
          simp only [List.take_succ_cons, List.take_zero, setAll, List.setIfInBounds_toArray, List.set_cons_succ, List.set_cons_zero, Nat.zero_add, Nat.reduceAdd] at hK ⊢
          refine wp_of_quiet rfl ?_
          go_big_quiet_step (fail)
          exact wpQuiet_nil (hK _ _ rfl (Gm.refl _ _ _))
        · intro f w1 hC hd KK hK
          have g2 : f 2 = _ := hd 2 rfl
          simp only [List.take_succ_cons, List.take_zero, setAll, List.setIfInBounds_toArray, List.set_cons_succ, List.set_cons_zero, Nat.zero_add, Nat.reduceAdd, g2] at hK ⊢
          exact wp_call 67 #[.int .i64 (i : Int)] (by simp [go_sem]) _ _ (rank_any i hi1 (by omega) w1 hC.1.tb) (fun w' hb => by subst hb; exact hK _ _ rfl (Gm.refl _ _ _))
        · intro f w1 hC hd KK hK
          have g1 : f 1 = _ := hd 1 rfl
          have g3 : f 3 = _ := hd 3 rfl
          simp only [List.take_succ_cons, List.take_zero, setAll, List.setIfInBounds_toArray, List.set_cons_succ, List.set_cons_zero, Nat.zero_add, Nat.reduceAdd, g1, g3] at hK ⊢
          exact wp_call 63 #[.int .i64 ((2 + Gf.ntz i : Nat) : Int), .pointer (some ⟨mb, 0, none⟩)] (by simp [go_sem, mskFn]) _ _ (maskAt hl0 hC.1.s1 _ (by have := ntz_lt i; omega)) (fun w' hb => hK _ _ rfl hb)
        · intro f w1 hC hd KK hK
          have g0 : f 0 = _ := hd 0 rfl
          have g4 : f 4 = _ := hd 4 rfl
          simp only [List.take_succ_cons, List.take_zero, setAll, List.setIfInBounds_toArray, List.set_cons_succ, List.set_cons_zero, Nat.zero_add, Nat.reduceAdd, g0, g4] at hK ⊢
          exact wp_call 66 #[.agg (ag o), .agg (ag (Gf.ell l0 (2 + Gf.ntz i)))] (by simp [go_sem]) _ _ (ocbAgainst_any o _ lo (Gf.ell_len l0 hl0 _) w1) (fun w' hb => hK _ _ rfl (Gm.of hb))
      · intro f w1 hC hv
        have g0 : f 0 = _ := hv 0 (by decide)
        have g1 : f 1 = _ := hv 1 (by decide)
        have g2 : f 2 = _ := hv 2 (by decide)
        have g3 : f 3 = _ := hv 3 (by decide)
        have g4 : f 4 = _ := hv 4 (by decide)
        have g5 : f 5 = _ := hv 5 (by decide)
        simp only [List.take_succ_cons, List.take_zero, List.drop_succ_cons, List.drop_zero, setAll, List.setIfInBounds_toArray, List.set_cons_succ, List.set_cons_zero, Nat.zero_add, Nat.reduceAdd, g0, g1, g2, g3, g4, g5]
        clear g0 g1 g2 g3 g4 g5 hv
        obtain ⟨c1, c2, c3⟩ := hC
        have q1 := c1.setO (Gf.bxor o (Gf.ell l0 (2 + Gf.ntz i)))
        have hN2 : N ≤ N + 1 + 1 := by omega
        have q2 := c2.set _ c1.f2 hN2 (ag (Gf.bxor o (Gf.ell l0 (2 + Gf.ntz i))))
        have q3 := c3.setRowOther (N + 1 + 1) (ag (Gf.bxor o (Gf.ell l0 (2 + Gf.ntz i)))) (by omega)
        have p1 := c1.ro.room (n := 16) (by rw [ag_size]; exact lo)
        clear hD2 hB3 rB
        generalize Gf.bxor o (Gf.ell l0 (2 + Gf.ntz i)) = o2 at *
        go_wp2_with (refine wpList_store_row rfl 23 (.tmp 7) (.tmp 26) rfl _ rfl _ rfl _ _ p1 Tryd.info23 (by rw [ag_size]; exact lO) (ag_one _) ?_)
        clear c1 c2 c3 p1
        generalize World.setRow _ _ _ = W3 at *
        refine wp_region_grow 7 (by kernel_rfl) (by kernel_rfl) (Gm mb l0) (fun w1 => DE mb l0 key N w w1 o2 t ∧ Bts (Old mb l0 N w1) w1 v' (l.drop 16) ∧ Row w1 (N + 1 + 1 + 1 + 1) 23 (ag (l.take 16))) (fun k w1 v => match k with
          | 0 => v = .agg (ag t)
          | 1 => v = .agg (ag key)
          | 2 => v = .agg (ag (l.take 16))
          | 3 => v = .agg (ag o2)
          | 4 => v = .agg (ag (Gf.bxor (l.take 16) o2))
          | 5 => v = .agg (ag (Gf.encrypt key (Gf.bxor (l.take 16) o2)))
          | 6 => v = .agg (ag (Gf.bxor t (Gf.encrypt key (Gf.bxor (l.take 16) o2))))
          | _ => True) ?_ ?_ ?_ ?_ ?_
        · rintro w1 w2 hb ⟨c1, c2, c3⟩
          exact ⟨c1.go hb, c2.go hb, c1.f4.row hb c3⟩
        · intro k v w1 w2 hC1 hb h
          match k, h with
          | 0, h => exact h
          | 1, h => exact h
          | 2, h => exact h
          | 3, h => exact h
          | 4, h => exact h
          | 5, h => exact h
          | 6, h => exact h
          | k + 7, h => trivial
        · exact ⟨q1.go (Gm.refl _ _ _).drew, q2.go (Gm.refl _ _ _).drew, q3.drew⟩
        · refine ⟨?_, ?_, ?_, ?_, ?_, ?_, ?_, trivial⟩
          · intro f w1 hC hd KK hK
            simp only [List.take_succ_cons, List.take_zero, setAll, List.setIfInBounds_toArray, List.set_cons_succ, List.set_cons_zero, Nat.zero_add, Nat.reduceAdd] at hK ⊢
            refine wp_load_row 23 _ rfl _ rfl _ _ (hC.1.rt) _ Tryd.underlying23 rfl 16 Tryd.info23 (by rw [ag_size]; exact lt) ?_
            exact hK _ _ rfl (Gm.refl _ _ _)
          · intro f w1 hC hd KK hK
            simp only [List.take_succ_cons, List.take_zero, setAll, List.setIfInBounds_toArray, List.set_cons_succ, List.set_cons_zero, Nat.zero_add, Nat.reduceAdd] at hK ⊢
            refine wp_load_row 23 _ rfl _ rfl _ _ (hC.1.kk) _ Tryd.underlying23 rfl 16 Tryd.info23 (by rw [ag_size]; exact hkey) ?_
            exact hK _ _ rfl (Gm.refl _ _ _)
          · intro f w1 hC hd KK hK
            simp only [List.take_succ_cons, List.take_zero, setAll, List.setIfInBounds_toArray, List.set_cons_succ, List.set_cons_zero, Nat.zero_add, Nat.reduceAdd] at hK ⊢
            refine wp_load_row 23 _ rfl _ rfl _ _ (hC.2.2) _ Tryd.underlying23 rfl 16 Tryd.info23 (by rw [ag_size]; exact lT) ?_
            exact hK _ _ rfl (Gm.refl _ _ _)
          · intro f w1 hC hd KK hK
            simp only [List.take_succ_cons, List.take_zero, setAll, List.setIfInBounds_toArray, List.set_cons_succ, List.set_cons_zero, Nat.zero_add, Nat.reduceAdd] at hK ⊢
            refine wp_load_row 23 _ rfl _ rfl _ _ (hC.1.ro) _ Tryd.underlying23 rfl 16 Tryd.info23 (by rw [ag_size]; exact lO) ?_
            exact hK _ _ rfl (Gm.refl _ _ _)
          · intro f w1 hC hd KK hK
            have g2 : f 2 = _ := hd 2 rfl
            have g3 : f 3 = _ := hd 3 rfl
            simp only [List.take_succ_cons, List.take_zero, setAll, List.setIfInBounds_toArray, List.set_cons_succ, List.set_cons_zero, Nat.zero_add, Nat.reduceAdd, g2, g3] at hK ⊢
            exact wp_call 66 #[.agg (ag (l.take 16)), .agg (ag o2)] (by simp [go_sem]) _ _ (ocbAgainst_any _ _ lT lO w1) (fun w' hb => hK _ _ rfl (Gm.of hb))
          · intro f w1 hC hd KK hK
            have g1 : f 1 = _ := hd 1 rfl
            have g4 : f 4 = _ := hd 4 rfl
            simp only [List.take_succ_cons, List.take_zero, setAll, List.setIfInBounds_toArray, List.set_cons_succ, List.set_cons_zero, Nat.zero_add, Nat.reduceAdd, g1, g4] at hK ⊢
            exact wp_call 48 #[.agg (ag key), .agg (ag (Gf.bxor (l.take 16) o2))] (by simp [go_sem]) _ _ (encrypt_any key _ hkey (Gf.bxor_len _ _) w1) (fun w' hb => hK _ _ rfl (Gm.of hb))
          · intro f w1 hC hd KK hK
            have g0 : f 0 = _ := hd 0 rfl
            have g5 : f 5 = _ := hd 5 rfl
            simp only [List.take_succ_cons, List.take_zero, setAll, List.setIfInBounds_toArray, List.set_cons_succ, List.set_cons_zero, Nat.zero_add, Nat.reduceAdd, g0, g5] at hK ⊢
            exact wp_call 66 #[.agg (ag t), .agg (ag (Gf.encrypt key (Gf.bxor (l.take 16) o2)))] (by simp [go_sem]) _ _ (ocbAgainst_any t _ lt (Gf.encrypt_len _ _) w1) (fun w' hb => hK _ _ rfl (Gm.of hb))
        · intro f w1 hC hv
          have g0 : f 0 = _ := hv 0 (by decide)
          have g1 : f 1 = _ := hv 1 (by decide)
          have g2 : f 2 = _ := hv 2 (by decide)
          have g3 : f 3 = _ := hv 3 (by decide)
          have g4 : f 4 = _ := hv 4 (by decide)
          have g5 : f 5 = _ := hv 5 (by decide)
          have g6 : f 6 = _ := hv 6 (by decide)
          simp only [List.take_succ_cons, List.take_zero, List.drop_succ_cons, List.drop_zero, setAll, List.setIfInBounds_toArray, List.set_cons_succ, List.set_cons_zero, Nat.zero_add, Nat.reduceAdd, g0, g1, g2, g3, g4, g5, g6]
          clear g0 g1 g2 g3 g4 g5 g6 hv
          obtain ⟨c1, c2, c3⟩ := hC
          have lX := Gf.bxor_len t (Gf.encrypt key (Gf.bxor (l.take 16) o2))
          have z1 := c1.setT (Gf.bxor t (Gf.encrypt key (Gf.bxor (l.take 16) o2)))
          have hN3 : N ≤ N + 1 + 1 + 1 := by omega
          have z2 := c2.set _ c1.f3 hN3 (ag (Gf.bxor t (Gf.encrypt key (Gf.bxor (l.take 16) o2))))
          have p1 := c1.rt.room (n := 16) (by rw [ag_size]; exact lt)
          clear q1 q2 q3 c3
          generalize Gf.bxor t (Gf.encrypt key (Gf.bxor (l.take 16) o2)) = t2 at *
          go_wp2_with (refine wpList_store_row rfl 23 (.tmp 8) (.tmp 33) rfl _ rfl _ rfl _ _ p1 Tryd.info23 (by rw [ag_size]; exact lX) (ag_one _) ?_)
          go_roundw
          case rel => exact ⟨i + 1, l.drop 16, o2, t2, by go_num, by omega, hdi, z2, hdr, lO, lX, hR1, z1⟩
          case measure => exact hms
    · have hlen : l.length < 16 := by omega
      have hc16 : ¬ (16 : Int) ≤ (l.length : Int) := by omega
      by_cases hpos : 0 < l.length
      · have hci : (0 : Int) < (l.length : Int) := by omega
        have lO := Gf.bxor_len o (Gf.ell l0 0)
        go_wp2
        refine wp_region_grow 4 (by kernel_rfl) (by kernel_rfl) (Gm mb l0) (fun w1 => DE mb l0 key N w w1 o t ∧ Bts (Old mb l0 N w1) w1 (.slice a l.length c) l) (fun k w1 v => match k with
          | 0 => v = .agg (ag o)
          | 1 => v = mskFn mb
          | 2 => v = .agg (ag (Gf.ell l0 0))
          | 3 => v = .agg (ag (Gf.bxor o (Gf.ell l0 0)))
          | _ => True) ?_ ?_ ?_ ?_ ?_
        · rintro w1 w2 hb ⟨c1, c2⟩
          exact ⟨c1.go hb, c2.go hb⟩
        · intro k v w1 w2 hC1 hb h
          match k, h with
          | 0, h => exact h
          | 1, h => exact h
          | 2, h => exact h
          | 3, h => exact h
          | k + 4, h => trivial
        · exact ⟨hD.go (Gm.refl _ _ _).drew, hB.go (Gm.refl _ _ _).drew⟩
        · refine ⟨?_, ?_, ?_, ?_, trivial⟩
          · intro f w1 hC hd KK hK
            simp only [List.take_succ_cons, List.take_zero, setAll, List.setIfInBounds_toArray, List.set_cons_succ, List.set_cons_zero, Nat.zero_add, Nat.reduceAdd] at hK ⊢
            refine wp_load_row 23 _ rfl _ rfl _ _ (hC.1.ro) _ Tryd.underlying23 rfl 16 Tryd.info23 (by rw [ag_size]; exact lo) ?_
            exact hK _ _ rfl (Gm.refl _ _ _)
          · intro f w1 hC hd KK hK
            simp only [List.take_succ_cons, List.take_zero, setAll, List.setIfInBounds_toArray, List.set_cons_succ, List.set_cons_zero, Nat.zero_add, Nat.reduceAdd] at hK ⊢
            refine wp_of_quiet rfl ?_
            go_big_quiet_step (fail)
            exact wpQuiet_nil (hK _ _ rfl (Gm.refl _ _ _))
          · intro f w1 hC hd KK hK
            have g1 : f 1 = _ := hd 1 rfl
            simp only [List.take_succ_cons, List.take_zero, setAll, List.setIfInBounds_toArray, List.set_cons_succ, List.set_cons_zero, Nat.zero_add, Nat.reduceAdd, g1] at hK ⊢
            exact wp_call 63 #[.int .i64 0, .pointer (some ⟨mb, 0, none⟩)] (by simp [go_sem, mskFn]) _ _ (maskAt hl0 hC.1.s1 0 (by omega)) (fun w' hb => hK _ _ rfl hb)
          · intro f w1 hC hd KK hK
            have g0 : f 0 = _ := hd 0 rfl
            have g2 : f 2 = _ := hd 2 rfl
            simp only [List.take_succ_cons, List.take_zero, setAll, List.setIfInBounds_toArray, List.set_cons_succ, List.set_cons_zero, Nat.zero_add, Nat.reduceAdd, g0, g2] at hK ⊢
            exact wp_call 66 #[.agg (ag o), .agg (ag (Gf.ell l0 0))] (by simp [go_sem]) _ _ (ocbAgainst_any o _ lo (Gf.ell_len l0 hl0 _) w1) (fun w' hb => hK _ _ rfl (Gm.of hb))
        · intro f w1 hC hv
          have g0 : f 0 = _ := hv 0 (by decide)
          have g1 : f 1 = _ := hv 1 (by decide)
          have g2 : f 2 = _ := hv 2 (by decide)
          have g3 : f 3 = _ := hv 3 (by decide)
          simp only [List.take_succ_cons, List.take_zero, List.drop_succ_cons, List.drop_zero, setAll, List.setIfInBounds_toArray, List.set_cons_succ, List.set_cons_zero, Nat.zero_add, Nat.reduceAdd, g0, g1, g2, g3]
          clear g0 g1 g2 g3 hv
          obtain ⟨c1, c2⟩ := hC
          have q1 := c1.setO (Gf.bxor o (Gf.ell l0 0))
          have hN2 : N ≤ N + 1 + 1 := by omega
          have q2 := c2.set _ c1.f2 hN2 (ag (Gf.bxor o (Gf.ell l0 0)))
          have p1 := c1.ro.room (n := 16) (by rw [ag_size]; exact lo)
          have hF : Gf.bxor t (Gf.encrypt key (Gf.bxor (Gf.fup l) (Gf.bxor o (Gf.ell l0 0)))) = R := by rw [← hR.out, Gf.digFrom_eq, dif_neg h16, if_pos hpos]
          clear hD hB hR
          generalize Gf.bxor o (Gf.ell l0 0) = o2 at *
          have HF := Box'.mk hF
          clear hF
          go_wp2_with (refine wpList_store_row rfl 23 (.tmp 7) (.tmp 40) rfl _ rfl _ rfl _ _ p1 Tryd.info23 (by rw [ag_size]; exact lO) (ag_one _) ?_)
          clear c1 c2 p1
          generalize World.setRow _ _ _ = W3 at *
          refine wp_region_grow 8 (by kernel_rfl) (by kernel_rfl) (Gm mb l0) (fun w1 => DE mb l0 key N w w1 o2 t ∧ Bts (Old mb l0 N w1) w1 (.slice a l.length c) l) (fun k w1 v => match k with
            | 0 => v = .agg (ag t)
            | 1 => v = .agg (ag key)
            | 2 => v = .slice a l.length c
            | 3 => v = .agg (ag (Gf.fup l))
            | 4 => v = .agg (ag o2)
            | 5 => v = .agg (ag (Gf.bxor (Gf.fup l) o2))
            | 6 => v = .agg (ag (Gf.encrypt key (Gf.bxor (Gf.fup l) o2)))
            | 7 => v = .agg (ag (Gf.bxor t (Gf.encrypt key (Gf.bxor (Gf.fup l) o2))))
            | _ => True) ?_ ?_ ?_ ?_ ?_
          · rintro w1 w2 hb ⟨c1, c2⟩
            exact ⟨c1.go hb, c2.go hb⟩
          · intro k v w1 w2 hC1 hb h
            match k, h with
            | 0, h => exact h
            | 1, h => exact h
            | 2, h => exact h
            | 3, h => exact h
            | 4, h => exact h
            | 5, h => exact h
            | 6, h => exact h
            | 7, h => exact h
            | k + 8, h => trivial
          · exact ⟨q1.go (Gm.refl _ _ _).drew, q2.go (Gm.refl _ _ _).drew⟩
          · refine ⟨?_, ?_, ?_, ?_, ?_, ?_, ?_, ?_, trivial⟩
            · intro f w1 hC hd KK hK
              simp only [List.take_succ_cons, List.take_zero, setAll, List.setIfInBounds_toArray, List.set_cons_succ, List.set_cons_zero, Nat.zero_add, Nat.reduceAdd] at hK ⊢
              refine wp_load_row 23 _ rfl _ rfl _ _ (hC.1.rt) _ Tryd.underlying23 rfl 16 Tryd.info23 (by rw [ag_size]; exact lt) ?_
              exact hK _ _ rfl (Gm.refl _ _ _)
            · intro f w1 hC hd KK hK
              simp only [List.take_succ_cons, List.take_zero, setAll, List.setIfInBounds_toArray, List.set_cons_succ, List.set_cons_zero, Nat.zero_add, Nat.reduceAdd] at hK ⊢
              refine wp_load_row 23 _ rfl _ rfl _ _ (hC.1.kk) _ Tryd.underlying23 rfl 16 Tryd.info23 (by rw [ag_size]; exact hkey) ?_
              exact hK _ _ rfl (Gm.refl _ _ _)
            · intro f w1 hC hd KK hK
              simp only [List.take_succ_cons, List.take_zero, setAll, List.setIfInBounds_toArray, List.set_cons_succ, List.set_cons_zero, Nat.zero_add, Nat.reduceAdd] at hK ⊢
              refine wp_of_quiet rfl ?_
              go_big_quiet_step (fail)
              exact wpQuiet_nil (hK _ _ rfl (Gm.refl _ _ _))
            · intro f w1 hC hd KK hK
              have g2 : f 2 = _ := hd 2 rfl
              simp only [List.take_succ_cons, List.take_zero, setAll, List.setIfInBounds_toArray, List.set_cons_succ, List.set_cons_zero, Nat.zero_add, Nat.reduceAdd, g2] at hK ⊢
              exact wp_call 88 #[.slice a l.length c] (by simp [go_sem]) _ _ (filled_any _ _ l hpos hlen w1 hC.2) (fun w' hb => hK _ _ rfl (Gm.of hb))
            · intro f w1 hC hd KK hK
              simp only [List.take_succ_cons, List.take_zero, setAll, List.setIfInBounds_toArray, List.set_cons_succ, List.set_cons_zero, Nat.zero_add, Nat.reduceAdd] at hK ⊢
              refine wp_load_row 23 _ rfl _ rfl _ _ (hC.1.ro) _ Tryd.underlying23 rfl 16 Tryd.info23 (by rw [ag_size]; exact lO) ?_
              exact hK _ _ rfl (Gm.refl _ _ _)
            · intro f w1 hC hd KK hK
              have g3 : f 3 = _ := hd 3 rfl
              have g4 : f 4 = _ := hd 4 rfl
              simp only [List.take_succ_cons, List.take_zero, setAll, List.setIfInBounds_toArray, List.set_cons_succ, List.set_cons_zero, Nat.zero_add, Nat.reduceAdd, g3, g4] at hK ⊢
              exact wp_call 66 #[.agg (ag (Gf.fup l)), .agg (ag o2)] (by simp [go_sem]) _ _ (ocbAgainst_any _ _ (Gf.fup_len l hlen) lO w1) (fun w' hb => hK _ _ rfl (Gm.of hb))
            · intro f w1 hC hd KK hK
              have g1 : f 1 = _ := hd 1 rfl
              have g5 : f 5 = _ := hd 5 rfl
              simp only [List.take_succ_cons, List.take_zero, setAll, List.setIfInBounds_toArray, List.set_cons_succ, List.set_cons_zero, Nat.zero_add, Nat.reduceAdd, g1, g5] at hK ⊢
              exact wp_call 48 #[.agg (ag key), .agg (ag (Gf.bxor (Gf.fup l) o2))] (by simp [go_sem]) _ _ (encrypt_any key _ hkey (Gf.bxor_len _ _) w1) (fun w' hb => hK _ _ rfl (Gm.of hb))
            · intro f w1 hC hd KK hK
              have g0 : f 0 = _ := hd 0 rfl
              have g6 : f 6 = _ := hd 6 rfl
              simp only [List.take_succ_cons, List.take_zero, setAll, List.setIfInBounds_toArray, List.set_cons_succ, List.set_cons_zero, Nat.zero_add, Nat.reduceAdd, g0, g6] at hK ⊢
              exact wp_call 66 #[.agg (ag t), .agg (ag (Gf.encrypt key (Gf.bxor (Gf.fup l) o2)))] (by simp [go_sem]) _ _ (ocbAgainst_any t _ lt (Gf.encrypt_len _ _) w1) (fun w' hb => hK _ _ rfl (Gm.of hb))
          · intro f w1 hC hv
            have g0 : f 0 = _ := hv 0 (by decide)
            have g1 : f 1 = _ := hv 1 (by decide)
            have g2 : f 2 = _ := hv 2 (by decide)
            have g3 : f 3 = _ := hv 3 (by decide)
            have g4 : f 4 = _ := hv 4 (by decide)
            have g5 : f 5 = _ := hv 5 (by decide)
            have g6 : f 6 = _ := hv 6 (by decide)
            have g7 : f 7 = _ := hv 7 (by decide)
            simp only [List.take_succ_cons, List.take_zero, List.drop_succ_cons, List.drop_zero, setAll, List.setIfInBounds_toArray, List.set_cons_succ, List.set_cons_zero, Nat.zero_add, Nat.reduceAdd, g0, g1, g2, g3, g4, g5, g6, g7]
            clear g0 g1 g2 g3 g4 g5 g6 g7 hv
            obtain ⟨c1, c2⟩ := hC
            rw [HF.out]
            have z1 := c1.setT R
            have p1 := c1.rt.room (n := 16) (by rw [ag_size]; exact lt)
            have hNz : w.heap.size ≤ N + 1 := by omega
            have zg := z1.g.setRow z1.f1 hNz (ag R)
            clear q1 q2 c2 c1
            go_wp2_with (first
              | (refine wpList_store_row rfl 23 (.tmp 8) (.tmp 48) rfl _ rfl _ rfl _ _ p1 Tryd.info23 (by rw [ag_size]; exact lR) (ag_one _) ?_)
              | (refine wpList_load_row rfl 23 (.tmp 8) rfl _ rfl _ _ z1.rt _ Tryd.underlying23 rfl 16 Tryd.info23 (by rw [ag_size]; exact lR) ?_)
              | (refine wpList_store_row rfl 23 (.tmp 6) (.tmp 49) rfl _ rfl _ rfl _ _ z1.rr Tryd.info23 (by rw [ag_size]; exact lR) (ag_one _) ?_)
              | fail)
            exact bodyPost_ret (results_row rfl _ _ rfl _ _ (z1.rr.setRow _) _ Tryd.underlying23 rfl 16 Tryd.info23 (by rw [ag_size]; exact lR)) rfl ⟨rfl, zg⟩
      · have hci : ¬ (0 : Int) < (l.length : Int) := by omega
        have hRt : t = R := by rw [← hR.out, Gf.digFrom_eq, dif_neg h16, if_neg hpos]
        subst hRt
        have hNz : w.heap.size ≤ N + 1 := by omega
        have zg := hD.g.setRow hD.f1 hNz (ag t)
        go_wp2_with (first
          | (refine wpList_load_row rfl 23 (.tmp 8) rfl _ rfl _ _ hD.rt _ Tryd.underlying23 rfl 16 Tryd.info23 (by rw [ag_size]; exact lR) ?_)
          | (refine wpList_store_row rfl 23 (.tmp 6) (.tmp 49) rfl _ rfl _ rfl _ _ hD.rr Tryd.info23 (by rw [ag_size]; exact lR) (ag_one _) ?_)
          | fail)
        exact bodyPost_ret (results_row rfl _ _ rfl _ _ (hD.rr.setRow _) _ Tryd.underlying23 rfl 16 Tryd.info23 (by rw [ag_size]; exact lR)) rfl ⟨rfl, zg⟩
end Go.Proofs.YthcokaffbgbanaaDoor

/- The walk of tagOf. -/
namespace Go.Proofs.YthcokaffbgbanaaDoor
open Go.RowKit Go.BigFrame

def Gf.tag (key l0 off plain beside : List UInt8) : List UInt8 :=
  Gf.bxor (Gf.encrypt key (Gf.bxor (Gf.bxor (Gf.sumFrom (Gf.zeros 16) plain) off) (Gf.ell l0 1))) (Gf.digFrom key l0 1 (Gf.zeros 16) (Gf.zeros 16) beside)
set_option maxRecDepth 100000 in
theorem Gf.tag_len (key l0 off plain beside : List UInt8) : (Gf.tag key l0 off plain beside).length = 16 := Gf.bxor_len _ _
set_option maxRecDepth 100000 in
theorem Tryd.zero23 : (Tryd.prog.info? 23).map (fun i => (i.zero, i.size)) = some (some (.agg (ag (Gf.zeros 16))), 16) := by kernel_rfl

/-- What stands while a tag is made. -/
structure TE (mb : Nat) (l0 key off : List UInt8) (N : Nat) (w0 w : World) : Prop where
  kk : Row w N 23 (ag key)
  ro : Row w (N + 1) 23 (ag off)
  rr : Room w (N + 1 + 1) 23 16
  tb : Tab w
  s1 : Sf mb l0 w 1
  f0 : Sf mb l0 w N
  f1 : Sf mb l0 w (N + 1)
  f2 : Sf mb l0 w (N + 1 + 1)
  g : Gm mb l0 w0 w
  n1 : 1 < N
  nz : w0.heap.size = N
section
variable {mb : Nat} {l0 key off : List UInt8} {N : Nat} {w0 w w' : World}
set_option maxRecDepth 100000 in
theorem TE.go (h : TE mb l0 key off N w0 w) (g : Gm mb l0 w w') : TE mb l0 key off N w0 w' :=
  ⟨h.f0.row g h.kk, h.f1.row g h.ro, h.f2.room g h.rr, h.tb.go h.s1 g, h.s1.go g, h.f0.go g, h.f1.go g, h.f2.go g, h.g.trans g, h.n1, h.nz⟩
set_option maxRecDepth 100000 in
theorem TE.set (h : TE mb l0 key off N w0 w) (p : Nat) (hp : Sf mb l0 w p) (hN : N + 1 + 1 < p) (c : Array Value) : TE mb l0 key off N w0 (w.setRow p c) := by
  have := h.n1
  have := h.nz
  exact ⟨h.kk.setRowOther _ _ (by omega), h.ro.setRowOther _ _ (by omega), h.rr.setRowOther _ _ (by omega), h.tb.set _ (by omega) _, hp.set h.s1 _, hp.set h.f0 _, hp.set h.f1 _, hp.set h.f2 _, h.g.setRow hp (by omega) _, h.n1, h.nz⟩
end

set_option maxRecDepth 100000 in
set_option maxHeartbeats 2000000 in
theorem tag_any (mb : Nat) (l0 key off : List UInt8) (hl0 : l0.length = 16) (hkey : key.length = 16) (hoff : off.length = 16) (vp vb : Value) (lp lb : List UInt8) (hmp : lp.length ≤ 100000) (hmb : lb.length ≤ 100000) (w : World) (ht : Tab w) (hs1 : Sf mb l0 w 1) (hP : Bts (Sf mb l0 w) w vp lp) (hB : Bts (Sf mb l0 w) w vb lb) :
    Calls Tryd.prog 50 #[.agg (ag key), mskFn mb, .agg (ag off), vp, vb] w fun e w' => e = .returned (.agg (ag (Gf.tag key l0 off lp lb))) ∧ Gm mb l0 w w' := by
  obtain ⟨R, hR0⟩ : ∃ R, Gf.tag key l0 off lp lb = R := ⟨_, rfl⟩
  have lR : R.length = 16 := by rw [← hR0]; exact Gf.tag_len _ _ _ _ _
  rw [hR0]
  obtain ⟨X, hX⟩ : ∃ X, Gf.sumFrom (Gf.zeros 16) lp = X := ⟨_, rfl⟩
  obtain ⟨D, hD⟩ : ∃ D, Gf.digFrom key l0 1 (Gf.zeros 16) (Gf.zeros 16) lb = D := ⟨_, rfl⟩
  have lX : X.length = 16 := by rw [← hX]; exact Gf.sumFrom_len _ _ rfl
  have lD : D.length = 16 := by rw [← hD]; exact Gf.digFrom_len _ _ _ _ _ _ rfl
  have hRe : Gf.bxor (Gf.encrypt key (Gf.bxor (Gf.bxor X off) (Gf.ell l0 1))) D = R := by rw [← hX, ← hD]; exact hR0
  have hR := Box'.mk hRe
  have HX := Box'.mk hX
  have HD := Box'.mk hD
  clear hR0 hX hD hRe
  go_enter Tryd.func50, Tryd.ntmps50
  go_wp2
  have hd : ∀ W, W = (((w.alloc (.cells (ag key) 23)).alloc (.cells (ag off) 23)).alloc (.cells (ag (Gf.zeros 16)) 23)) → TE mb l0 key off w.heap.size w W ∧ Bts (Old mb l0 w.heap.size W) W vp lp ∧ Bts (Old mb l0 w.heap.size W) W vb lb := by
    intro W hW
    obtain ⟨bb, hm⟩ := hs1.is
    have hlt := ht.lt
    have b1 : Below w.heap.size w W := by rw [hW]; exact (((Below.refl _ _).alloc (Nat.le_refl _) _).alloc (by simp) _).alloc (by simp; omega) _
    have g1 : Gm mb l0 w W := Gm.of b1
    obtain ⟨b2, m2, e2, _⟩ := g1.to bb hm
    have hme := hm.mlt
    have hbe : b2 < w.heap.size := by
      have := (hm.same b1.size (b1.block mb hm.mlt) (b1.block bb hm.lt)).one m2
      have := hm.lt
      omega
    have hsz : W.heap.size = w.heap.size + 1 + 1 + 1 := by rw [hW]; simp
    have hf : ∀ k, w.heap.size ≤ k → k < W.heap.size → Sf mb l0 W k := fun k h1 h2 => ⟨h2, by omega, fun b3 m3 => by rw [← m2.one m3]; omega, b2, m2⟩
    refine ⟨⟨?_, ?_, ?_, ht.below b1 hlt, hs1.go g1, hf _ (by omega) (by omega), hf _ (by omega) (by omega), hf _ (by omega) (by omega), g1, hlt, rfl⟩, hP.keep fun b h => ⟨⟨h.go g1, h.lt⟩, (h.keep g1).2⟩, hB.keep fun b h => ⟨⟨h.go g1, h.lt⟩, (h.keep g1).2⟩⟩
    · rw [hW]; exact ((Row.new _ _ _).alloc _).alloc _
    · rw [hW]; exact (Row.made _ _ _ _ _ rfl (by simp)).alloc _
    · rw [hW]; exact Room.made _ _ _ _ _ rfl (by simp)
  obtain ⟨d1, d2, d3⟩ := hd _ rfl
  clear hd hB hP ht hs1
  generalize hN : w.heap.size = N at *
  refine wp_region_grow 8 (by kernel_rfl) (by kernel_rfl) (Gm mb l0) (fun w1 => TE mb l0 key off N w w1 ∧ Bts (Old mb l0 N w1) w1 vp lp ∧ Bts (Old mb l0 N w1) w1 vb lb) (fun k w1 v => match k with
    | 0 => v = vp
    | 1 => v = .agg (ag X)
    | 2 => v = .agg (ag off)
    | 3 => v = .agg (ag (Gf.bxor X off))
    | 4 => v = mskFn mb
    | 5 => v = .agg (ag (Gf.ell l0 1))
    | 6 => v = .agg (ag (Gf.bxor (Gf.bxor X off) (Gf.ell l0 1)))
    | 7 => ∃ p, v = .pointer (some ⟨p, 0, none⟩) ∧ N + 1 + 1 < p ∧ Room w1 p 23 16 ∧ Sf mb l0 w1 p
    | _ => True) ?_ ?_ ?_ ?_ ?_
  · rintro w1 w2 hb ⟨c1, c2, c3⟩
    exact ⟨c1.go hb, c2.go hb, c3.go hb⟩
  · intro k v w1 w2 hC1 hb h
    match k, h with
    | 0, h => exact h
    | 1, h => exact h
    | 2, h => exact h
    | 3, h => exact h
    | 4, h => exact h
    | 5, h => exact h
    | 6, h => exact h
    | 7, ⟨p, e1, e2, e3, e4⟩ => exact ⟨p, e1, e2, e4.room hb e3, e4.go hb⟩
    | k + 8, h => trivial
  · exact ⟨d1.go (Gm.refl _ _ _).drew, d2.go (Gm.refl _ _ _).drew, d3.go (Gm.refl _ _ _).drew⟩
  · refine ⟨?_, ?_, ?_, ?_, ?_, ?_, ?_, ?_, trivial⟩
    · intro f w1 hC hd KK hK
      simp only [List.take_succ_cons, List.take_zero, setAll, List.setIfInBounds_toArray, List.set_cons_succ, List.set_cons_zero, Nat.zero_add, Nat.reduceAdd] at hK ⊢
      refine wp_of_quiet rfl ?_
      go_big_quiet_step (fail)
      exact wpQuiet_nil (hK _ _ rfl (Gm.refl _ _ _))
    · intro f w1 hC hd KK hK
      have g0 : f 0 = _ := hd 0 rfl
      simp only [List.take_succ_cons, List.take_zero, setAll, List.setIfInBounds_toArray, List.set_cons_succ, List.set_cons_zero, Nat.zero_add, Nat.reduceAdd, g0] at hK ⊢
      exact wp_call 76 #[vp] (by simp [go_sem]) _ _ (sum_any (Old mb l0 N w1) vp lp hmp w1 (fun b h => h.1.lt) hC.2.1) (fun w' hb => hK _ _ (by rw [HX.out]) (Gm.of hb))
    · intro f w1 hC hd KK hK
      simp only [List.take_succ_cons, List.take_zero, setAll, List.setIfInBounds_toArray, List.set_cons_succ, List.set_cons_zero, Nat.zero_add, Nat.reduceAdd] at hK ⊢
      refine wp_load_row 23 _ rfl _ rfl _ _ (hC.1.ro) _ Tryd.underlying23 rfl 16 Tryd.info23 (by rw [ag_size]; exact hoff) ?_
      exact hK _ _ rfl (Gm.refl _ _ _)
    · intro f w1 hC hd KK hK
      have g1 : f 1 = _ := hd 1 rfl
      have g2 : f 2 = _ := hd 2 rfl
      simp only [List.take_succ_cons, List.take_zero, setAll, List.setIfInBounds_toArray, List.set_cons_succ, List.set_cons_zero, Nat.zero_add, Nat.reduceAdd, g1, g2] at hK ⊢
      exact wp_call 66 #[.agg (ag X), .agg (ag off)] (by simp [go_sem]) _ _ (ocbAgainst_any X off lX hoff w1) (fun w' hb => hK _ _ rfl (Gm.of hb))
    · intro f w1 hC hd KK hK
      simp only [List.take_succ_cons, List.take_zero, setAll, List.setIfInBounds_toArray, List.set_cons_succ, List.set_cons_zero, Nat.zero_add, Nat.reduceAdd] at hK ⊢
      refine wp_of_quiet rfl ?_
      go_big_quiet_step (fail)
      exact wpQuiet_nil (hK _ _ rfl (Gm.refl _ _ _))
    · intro f w1 hC hd KK hK
      have g4 : f 4 = _ := hd 4 rfl
      simp only [List.take_succ_cons, List.take_zero, setAll, List.setIfInBounds_toArray, List.set_cons_succ, List.set_cons_zero, Nat.zero_add, Nat.reduceAdd, g4] at hK ⊢
      exact wp_call 63 #[.int .i64 1, .pointer (some ⟨mb, 0, none⟩)] (by simp [go_sem, mskFn]) _ _ (maskAt hl0 hC.1.s1 1 (by omega)) (fun w' hb => hK _ _ rfl hb)
    · intro f w1 hC hd KK hK
      have g3 : f 3 = _ := hd 3 rfl
      have g5 : f 5 = _ := hd 5 rfl
      simp only [List.take_succ_cons, List.take_zero, setAll, List.setIfInBounds_toArray, List.set_cons_succ, List.set_cons_zero, Nat.zero_add, Nat.reduceAdd, g3, g5] at hK ⊢
      exact wp_call 66 #[.agg (ag (Gf.bxor X off)), .agg (ag (Gf.ell l0 1))] (by simp [go_sem]) _ _ (ocbAgainst_any _ _ (Gf.bxor_len _ _) (Gf.ell_len l0 hl0 _) w1) (fun w' hb => hK _ _ rfl (Gm.of hb))
    · intro f w1 hC hd KK hK
      simp only [List.take_succ_cons, List.take_zero, setAll, List.setIfInBounds_toArray, List.set_cons_succ, List.set_cons_zero, Nat.zero_add, Nat.reduceAdd] at hK ⊢
      have hp := hC.1.f2.lt
      obtain ⟨bb, hm⟩ := hC.1.s1.is
      refine wp_alloc_row 23 rfl _ _ Tryd.zero23 ?_
      exact hK _ _ ⟨_, rfl, hp, Room.new _ _ _ _ (by rw [ag_size]; rfl), Sf.new hm _⟩ (Gm.of ((Below.refl _ _).alloc (Nat.le_refl _) _))
  · intro f w1 hC hv
    have g0 : f 0 = _ := hv 0 (by decide)
    have g1 : f 1 = _ := hv 1 (by decide)
    have g2 : f 2 = _ := hv 2 (by decide)
    have g3 : f 3 = _ := hv 3 (by decide)
    have g4 : f 4 = _ := hv 4 (by decide)
    have g5 : f 5 = _ := hv 5 (by decide)
    have g6 : f 6 = _ := hv 6 (by decide)
    obtain ⟨p, g7, hp1, hp2, hp3⟩ := hv 7 (by decide)
    simp only [List.take_succ_cons, List.take_zero, List.drop_succ_cons, List.drop_zero, setAll, List.setIfInBounds_toArray, List.set_cons_succ, List.set_cons_zero, Nat.zero_add, Nat.reduceAdd, g0, g1, g2, g3, g4, g5, g6, g7]
    clear g0 g1 g2 g3 g4 g5 g6 g7 hv
    obtain ⟨c1, c2, c3⟩ := hC
    have lM : (Gf.bxor (Gf.bxor X off) (Gf.ell l0 1)).length = 16 := Gf.bxor_len _ _
    have z1 := c1.set p hp3 hp1 (ag (Gf.bxor (Gf.bxor X off) (Gf.ell l0 1)))
    have z2 := c3.set p hp3 (by omega) (ag (Gf.bxor (Gf.bxor X off) (Gf.ell l0 1)))
    have z3 := hp2.setRow (ag (Gf.bxor (Gf.bxor X off) (Gf.ell l0 1)))
    have z4 := hp3.set hp3 (ag (Gf.bxor (Gf.bxor X off) (Gf.ell l0 1)))
    clear d1 d2 d3 c1 c2 c3 hp3
    go_wp2_with (refine wpList_store_row rfl 23 (.tmp 11) (.tmp 18) rfl _ rfl _ rfl _ _ hp2 Tryd.info23 (by rw [ag_size]; exact lM) (ag_one _) ?_)
    clear hp2
    generalize World.setRow _ _ _ = W3 at *
    refine wp_region_grow 8 (by kernel_rfl) (by kernel_rfl) (Gm mb l0) (fun w1 => TE mb l0 key off N w w1 ∧ Bts (Old mb l0 N w1) w1 vb lb ∧ Row w1 p 23 (ag (Gf.bxor (Gf.bxor X off) (Gf.ell l0 1))) ∧ Sf mb l0 w1 p) (fun k w1 v => match k with
      | 0 => v = .agg (ag key)
      | 1 => v = .agg (ag (Gf.bxor (Gf.bxor X off) (Gf.ell l0 1)))
      | 2 => v = .agg (ag (Gf.encrypt key (Gf.bxor (Gf.bxor X off) (Gf.ell l0 1))))
      | 3 => v = .agg (ag key)
      | 4 => v = mskFn mb
      | 5 => v = vb
      | 6 => v = .agg (ag D)
      | 7 => v = .agg (ag R)
      | _ => True) ?_ ?_ ?_ ?_ ?_
    · rintro w1 w2 hb ⟨c1, c2, c3, c4⟩
      exact ⟨c1.go hb, c2.go hb, c4.row hb c3, c4.go hb⟩
    · intro k v w1 w2 hC1 hb h
      match k, h with
      | 0, h => exact h
      | 1, h => exact h
      | 2, h => exact h
      | 3, h => exact h
      | 4, h => exact h
      | 5, h => exact h
      | 6, h => exact h
      | 7, h => exact h
      | k + 8, h => trivial
    · exact ⟨z1.go (Gm.refl _ _ _).drew, z2.go (Gm.refl _ _ _).drew, z3.drew, z4.go (Gm.refl _ _ _).drew⟩
    · refine ⟨?_, ?_, ?_, ?_, ?_, ?_, ?_, ?_, trivial⟩
      · intro f w1 hC hd KK hK
        simp only [List.take_succ_cons, List.take_zero, setAll, List.setIfInBounds_toArray, List.set_cons_succ, List.set_cons_zero, Nat.zero_add, Nat.reduceAdd] at hK ⊢
        refine wp_load_row 23 _ rfl _ rfl _ _ (hC.1.kk) _ Tryd.underlying23 rfl 16 Tryd.info23 (by rw [ag_size]; exact hkey) ?_
        exact hK _ _ rfl (Gm.refl _ _ _)
      · intro f w1 hC hd KK hK
        simp only [List.take_succ_cons, List.take_zero, setAll, List.setIfInBounds_toArray, List.set_cons_succ, List.set_cons_zero, Nat.zero_add, Nat.reduceAdd] at hK ⊢
        refine wp_load_row 23 _ rfl _ rfl _ _ (hC.2.2.1) _ Tryd.underlying23 rfl 16 Tryd.info23 (by rw [ag_size]; exact Gf.bxor_len _ _) ?_
        exact hK _ _ rfl (Gm.refl _ _ _)
      · intro f w1 hC hd KK hK
        have g0 : f 0 = _ := hd 0 rfl
        have g1 : f 1 = _ := hd 1 rfl
        simp only [List.take_succ_cons, List.take_zero, setAll, List.setIfInBounds_toArray, List.set_cons_succ, List.set_cons_zero, Nat.zero_add, Nat.reduceAdd, g0, g1] at hK ⊢
        exact wp_call 48 #[.agg (ag key), .agg (ag (Gf.bxor (Gf.bxor X off) (Gf.ell l0 1)))] (by simp [go_sem]) _ _ (encrypt_any key _ hkey (Gf.bxor_len _ _) w1) (fun w' hb => hK _ _ rfl (Gm.of hb))
      · intro f w1 hC hd KK hK
        simp only [List.take_succ_cons, List.take_zero, setAll, List.setIfInBounds_toArray, List.set_cons_succ, List.set_cons_zero, Nat.zero_add, Nat.reduceAdd] at hK ⊢
        refine wp_load_row 23 _ rfl _ rfl _ _ (hC.1.kk) _ Tryd.underlying23 rfl 16 Tryd.info23 (by rw [ag_size]; exact hkey) ?_
        exact hK _ _ rfl (Gm.refl _ _ _)
      · intro f w1 hC hd KK hK
        simp only [List.take_succ_cons, List.take_zero, setAll, List.setIfInBounds_toArray, List.set_cons_succ, List.set_cons_zero, Nat.zero_add, Nat.reduceAdd] at hK ⊢
        refine wp_of_quiet rfl ?_
        go_big_quiet_step (fail)
        exact wpQuiet_nil (hK _ _ rfl (Gm.refl _ _ _))
      · intro f w1 hC hd KK hK
        simp only [List.take_succ_cons, List.take_zero, setAll, List.setIfInBounds_toArray, List.set_cons_succ, List.set_cons_zero, Nat.zero_add, Nat.reduceAdd] at hK ⊢
        refine wp_of_quiet rfl ?_
        go_big_quiet_step (fail)
        exact wpQuiet_nil (hK _ _ rfl (Gm.refl _ _ _))
      · intro f w1 hC hd KK hK
        have g3 : f 3 = _ := hd 3 rfl
        have g4 : f 4 = _ := hd 4 rfl
        have g5 : f 5 = _ := hd 5 rfl
        simp only [List.take_succ_cons, List.take_zero, setAll, List.setIfInBounds_toArray, List.set_cons_succ, List.set_cons_zero, Nat.zero_add, Nat.reduceAdd, g3, g4, g5] at hK ⊢
        exact wp_call 77 #[.agg (ag key), mskFn mb, vb] (by simp [go_sem]) _ _ (digest_any mb l0 key hl0 hkey vb lb hmb w1 hC.1.tb hC.1.s1 (hC.2.1.re fun b h => h.1)) (fun w' hb => hK _ _ (by rw [HD.out]) hb)
      · intro f w1 hC hd KK hK
        have g2 : f 2 = _ := hd 2 rfl
        have g6 : f 6 = _ := hd 6 rfl
        simp only [List.take_succ_cons, List.take_zero, setAll, List.setIfInBounds_toArray, List.set_cons_succ, List.set_cons_zero, Nat.zero_add, Nat.reduceAdd, g2, g6] at hK ⊢
        exact wp_call 66 #[.agg (ag (Gf.encrypt key (Gf.bxor (Gf.bxor X off) (Gf.ell l0 1)))), .agg (ag D)] (by simp [go_sem]) _ _ (ocbAgainst_any _ D (Gf.encrypt_len _ _) lD w1) (fun w' hb => hK _ _ (by rw [hR.out]) (Gm.of hb))
    · intro f w1 hC hv
      have g0 : f 0 = _ := hv 0 (by decide)
      have g1 : f 1 = _ := hv 1 (by decide)
      have g2 : f 2 = _ := hv 2 (by decide)
      have g3 : f 3 = _ := hv 3 (by decide)
      have g4 : f 4 = _ := hv 4 (by decide)
      have g5 : f 5 = _ := hv 5 (by decide)
      have g6 : f 6 = _ := hv 6 (by decide)
      have g7 : f 7 = _ := hv 7 (by decide)
      simp only [List.take_succ_cons, List.take_zero, List.drop_succ_cons, List.drop_zero, setAll, List.setIfInBounds_toArray, List.set_cons_succ, List.set_cons_zero, Nat.zero_add, Nat.reduceAdd, g0, g1, g2, g3, g4, g5, g6, g7]
      clear g0 g1 g2 g3 g4 g5 g6 g7 hv
      obtain ⟨c1, c2, c3, c4⟩ := hC
      have hNz : w.heap.size ≤ N + 1 + 1 := by omega
      have zg := c1.g.setRow c1.f2 hNz (ag R)
      have rr := c1.rr
      clear z1 z2 z3 z4 c1 c2 c3 c4
      go_wp2_with (refine wpList_store_row rfl 23 (.tmp 10) (.tmp 26) rfl _ rfl _ rfl _ _ rr Tryd.info23 (by rw [ag_size]; exact lR) (ag_one _) ?_)
      exact bodyPost_ret (results_row rfl _ _ rfl _ _ (rr.setRow _) _ Tryd.underlying23 rfl 16 Tryd.info23 (by rw [ag_size]; exact lR)) rfl ⟨rfl, zg⟩
end Go.Proofs.YthcokaffbgbanaaDoor
