/- The walks of fault and Same. -/
import Derived.Test.YtmolhljgmaoflaaDoorOn
namespace Go.Proofs.YtmolhljgmaoflaaDoor
open Go.RowKit Go.BigFrame

def Gf.fault (n b : Nat) (s : Int) : Int := if n < 1 ∨ 15 < n then 2 else if 65536 < s ∨ 65536 < b then 4 else 0
set_option maxHeartbeats 1000000 in
theorem fault_any (an : Option Addr) (n cn : Nat) (ab : Option Addr) (b cb : Nat) (s : Int) (hn : n ≤ maxLen) (hb : b ≤ maxLen) (w : World) :
    Calls Tryd.prog 19 #[.slice an n cn, .slice ab b cb, .int .i64 s] w fun e w' => e = .returned (.int .i64 (Gf.fault n b s)) ∧ w' = w := by
  unfold Gf.fault
  unfold maxLen at hn hb
  by_cases h1 : n < 1
  · rw [if_pos (.inl h1)]
    have i1 : (n : Int) < 1 := by omega
    go_enter Tryd.func19, Tryd.ntmps19
    go_wp2
    go_ret
    exact ⟨rfl, rfl⟩
  · have i1 : ¬ (n : Int) < 1 := by omega
    by_cases h2 : 15 < n
    · rw [if_pos (.inr h2)]
      have i2 : (15 : Int) < (n : Int) := by omega
      go_enter Tryd.func19, Tryd.ntmps19
      go_wp2
      go_ret
      exact ⟨rfl, rfl⟩
    · rw [if_neg (by omega)]
      have i2 : ¬ (15 : Int) < (n : Int) := by omega
      by_cases h3 : 65536 < s
      · rw [if_pos (.inl h3)]
        go_enter Tryd.func19, Tryd.ntmps19
        go_wp2
        go_ret
        exact ⟨rfl, rfl⟩
      · by_cases h4 : 65536 < b
        · rw [if_pos (.inr h4)]
          have i4 : (65536 : Int) < (b : Int) := by omega
          go_enter Tryd.func19, Tryd.ntmps19
          go_wp2
          go_ret
          exact ⟨rfl, rfl⟩
        · rw [if_neg (by omega)]
          have i4 : ¬ (65536 : Int) < (b : Int) := by omega
          go_enter Tryd.func19, Tryd.ntmps19
          go_wp2
          go_ret
          exact ⟨rfl, rfl⟩

def Gf.unl (a b : List UInt8) : Nat → UInt8
  | 0 => 0
  | k + 1 => Gf.unl a b k ||| (a.getD k 0 ^^^ b.getD k 0)
theorem or_zero8 : ∀ m n : Nat, m < 256 → n < 256 → ((m ||| n) = 0 ↔ m = 0 ∧ n = 0) := fun m n _ _ => by
  rw [Nat.or_eq_zero_iff]
theorem Gf.unl_zero (a b : List UInt8) (k : Nat) : Gf.unl a b k = 0 ↔ ∀ i, i < k → a.getD i 0 = b.getD i 0 := by
  induction k with
  | zero => simp [Gf.unl]
  | succ k ih =>
    rw [Gf.unl, ← UInt8.toNat_inj, UInt8.toNat_or]
    show (_ ||| _) = 0 ↔ _
    rw [or_zero8 _ _ (UInt8.toNat_lt _) (UInt8.toNat_lt _)]
    have e1 : (Gf.unl a b k).toNat = 0 ↔ Gf.unl a b k = 0 := ⟨fun h => UInt8.toNat_inj.1 h, fun h => by rw [h]; rfl⟩
    have e2 : (a.getD k 0 ^^^ b.getD k 0).toNat = 0 ↔ a.getD k 0 = b.getD k 0 := by
      constructor
      · intro h
        have : a.getD k 0 ^^^ b.getD k 0 = 0 := UInt8.toNat_inj.1 h
        exact UInt8.xor_eq_zero_iff.1 this
      · intro h; rw [h, UInt8.xor_self]; rfl
    rw [e1, e2, ih]
    constructor
    · rintro ⟨h1, h2⟩ i hi
      by_cases e : i = k
      · subst e; exact h2
      · exact h1 i (by omega)
    · intro h
      exact ⟨fun i hi => h i (by omega), h k (by omega)⟩
theorem Gf.unl_eq (a b : List UInt8) (h : a.length = b.length) : Gf.unl a b a.length = 0 ↔ a = b := by
  rw [Gf.unl_zero]
  constructor
  · intro hh
    apply List.ext_getElem h
    intro i h1 h2
    have := hh i h1
    simpa [h1, h2] using this
  · rintro rfl i _; rfl
theorem or_u8 (x y : UInt8) : bits .or .u8 (x.toNat : Int) (y.toNat : Int) = (((x ||| y).toNat : Nat) : Int) := by
  rw [u8_or_nat _ _ x.toNat_lt y.toNat_lt]; simp

set_option maxRecDepth 100000 in
set_option maxHeartbeats 1000000 in
theorem same_any (S1 S2 : Nat → Prop) (va vb : Value) (la lb : List UInt8) (w : World) (ha : Bts S1 w va la) (hb : Bts S2 w vb lb) (hma : la.length ≤ maxLen) (hmb : lb.length ≤ maxLen) :
    Calls Tryd.prog 13 #[va, vb] w fun e w' => e = .returned (.bool (decide (la = lb))) ∧ Below w.heap.size w w' := by
  obtain ⟨aa, ca, rfl, hca, h3⟩ := ha
  obtain ⟨ab, cb, rfl, hcb, h4⟩ := hb
  unfold maxLen at hma hmb
  by_cases hne : la.length = lb.length
  · have hU := Gf.unl_eq la lb hne
    have hcl : ∀ k, k < la.length → ∃ b o b' o', aa = some ⟨b, o, none⟩ ∧ ab = some ⟨b', o', none⟩ ∧ w.cell? ⟨b, o + k, none⟩ = some (.int .u8 ((la.getD k 0).toNat : Int)) ∧ w.cell? ⟨b', o' + k, none⟩ = some (.int .u8 ((lb.getD k 0).toNat : Int)) := by
      intro k hk
      rcases h3 with rfl | ⟨b, o, rfl, _, hr⟩
      · simp at hk
      rcases h4 with rfl | ⟨b', o', rfl, _, hr'⟩
      · have : la.length = 0 := hne
        omega
      exact ⟨b, o, b', o', rfl, rfl, hr k _ (by simp [hk]; rfl), hr' k _ (by simp [show k < lb.length by omega]; rfl)⟩
    have HCL := Box'.mk hcl
    have HU := Box'.mk hU
    clear hcl hU h3 h4
    rw [← hne]
    rw [← hne] at hmb hcb
    obtain ⟨n, hn⟩ : ∃ n, la.length = n := ⟨_, rfl⟩
    rw [hn] at HCL HU hma hca hmb hcb
    rw [hn]
    go_enter Tryd.func13, Tryd.ntmps13
    go_wp2
    go_loopw [5, 14] (fun u c wr => ∃ k : Nat, k ≤ n ∧ c = .int .i64 (k : Int) ∧ u = .int .u8 ((Gf.unl la lb k).toNat : Int) ∧ ∃ m, wr = w.drewN m) (fun _ c _ => n - (intOf c).toNat)
    case atStart => exact ⟨0, by omega, rfl, rfl, 0, rfl⟩
    case round =>
      obtain ⟨k, hk, rfl, rfl, m, rfl⟩ := hrel
      by_cases hlt : k < n
      · obtain ⟨b, o, b', o', rfl, rfl, c1, c2⟩ := HCL.out k hlt
        have E : Box' (Gf.unl la lb (k + 1) = Gf.unl la lb k ||| (la.getD k 0 ^^^ lb.getD k 0)) := ⟨rfl⟩
        have x1 := xor_u8 (la.getD k 0) (lb.getD k 0)
        have x2 := or_u8 (Gf.unl la lb k) (la.getD k 0 ^^^ lb.getD k 0)
        generalize la.getD k 0 = x at *
        generalize lb.getD k 0 = y at *
        generalize x ^^^ y = z at *
        generalize Gf.unl la lb k = u at *
        generalize u ||| z = uz at *
        go_wp2
        go_quiet (fail)
        go_wp2
        exact ⟨⟨k + 1, by omega, by go_num, by rw [E.out], m + nq, rfl⟩, by simp [intOf]; omega⟩
      · have hk' : k = n := by omega
        subst hk'
        have he : (((Gf.unl la lb k).toNat : Int) == 0) = decide (la = lb) := by
          rw [Bool.eq_iff_iff, beq_iff_eq, decide_eq_true_eq, ← HU.out]
          constructor
          · intro h; exact UInt8.toNat_inj.1 (by have := Int.natCast_eq_zero.1 h; rw [this]; rfl)
          · intro h; rw [h]; rfl
        have HE := Box'.mk he
        have hbl : Below w.heap.size w (w.drewN m) := Below.drewN (Below.refl _ _) m
        clear he HCL HU
        generalize Gf.unl la lb k = u at *
        go_wp2
        go_ret
        exact ⟨by rw [← HE.out]; rfl, hbl⟩
  · have hd : decide (la = lb) = false := by rw [decide_eq_false_iff_not]; rintro rfl; exact hne rfl
    have hi : ((la.length : Int) == (lb.length : Int)) = false := by rw [beq_eq_false_iff_ne]; omega
    rw [hd]
    clear hd h3 h4
    go_enter Tryd.func13, Tryd.ntmps13
    go_wp2
    go_ret
    exact ⟨rfl, Below.refl _ _⟩
end Go.Proofs.YtmolhljgmaoflaaDoor

/- The walk of Seal. -/
namespace Go.Proofs.YtmolhljgmaoflaaDoor
open Go.RowKit Go.BigFrame

def Gf.star (key : List UInt8) : List UInt8 := Gf.encrypt key (Gf.zeros 16)
def Gf.sealed (key n b p : List UInt8) : List UInt8 :=
  (Gf.turnFrom (Gf.encrypt key) key (Gf.star key) 1 (Gf.begin key n) p).1 ++ Gf.tag key (Gf.star key) (Gf.turnFrom (Gf.encrypt key) key (Gf.star key) 1 (Gf.begin key n) p).2 p b
theorem Gf.sealed_len (key n b p : List UInt8) : (Gf.sealed key n b p).length = p.length + 16 := by
  unfold Gf.sealed
  rw [List.length_append, (Gf.turnFrom_len _ _ _ _ _ _ (Gf.begin_len _ _)).1, Gf.tag_len]
theorem callFunc22 (args : Array Value) (w : World) : (callFunc 22 args).run Tryd.prog w = .ok (.enter 22 args) w := by simp [go_sem]

/-- What stands while bytes are sealed or opened. -/
structure SE (mb : Nat) (l0 key : List UInt8) (N : Nat) (w0 w : World) : Prop where
  kk : Row w N 23 (ag key)
  tb : Tab w
  s1 : Sf mb l0 w 1
  f0 : Sf mb l0 w N
  g : Gm mb l0 w0 w
section
variable {mb : Nat} {l0 key : List UInt8} {N : Nat} {w0 w w' : World}
theorem SE.go (h : SE mb l0 key N w0 w) (g : Gm mb l0 w w') : SE mb l0 key N w0 w' :=
  ⟨h.f0.row g h.kk, h.tb.go h.s1 g, h.s1.go g, h.f0.go g, h.g.trans g⟩
theorem SE.set (h : SE mb l0 key N w0 w) (p : Nat) (hp : Sf mb l0 w p) (hN : N < p) (h1 : 1 < p) (h0 : w0.heap.size ≤ p) (c : Array Value) : SE mb l0 key N w0 (w.setRow p c) :=
  ⟨h.kk.setRowOther _ _ (by omega), h.tb.set _ (by omega) _, hp.set h.s1 _, hp.set h.f0 _, h.g.setRow hp h0 _⟩
end
theorem wp_call_ex {P : Program} {Q : Exit → Act → World → Prop} {op : Oper} {a : Act} {w : World} {K : Act → World → Prop} (f : FuncId) (args : Array Value) (hrun : (execOp a.eval op).run P w = .ok (.enter f args) w) (R : Value → World → Prop)
    (hc : Calls P f args w (fun e w'' => ∃ v, e = .returned v ∧ R v w'')) (h : ∀ v w'', R v w'' → K (a.put op.dst v) w'') : op.wp P a w K Q := by
  unfold Oper.wp
  rw [hrun]
  exact hc.mono fun e w'' hh => by obtain ⟨v, rfl, hR⟩ := hh; exact h v w'' hR
theorem below_of_Gm {mb bb : Nat} {l0 : List UInt8} {M : Nat} {w0 w1 w2 : World} (hb : Below M w0 w1) (g : Gm mb l0 w1 w2) (hm : Msk mb l0 w1 bb) (h1 : M ≤ mb) (h2 : M ≤ bb) (h3 : M ≤ w1.heap.size) : Below M w0 w2 := by
  obtain ⟨b', _, _, hk⟩ := g.to bb hm
  exact ⟨g.os.trans hb.os, g.tape.trans hb.tape, g.output.trans hb.output, Nat.le_trans hb.size g.size, fun k hk' => by rw [hk k (by omega) (by omega) (by omega)]; exact hb.block k hk'⟩

set_option maxRecDepth 100000 in
set_option maxHeartbeats 1000000 in
theorem seal_ok (key : List UInt8) (hkey : key.length = 16) (vn vb vp : Value) (ln lb lp : List UInt8) (hn1 : 0 < ln.length) (hn2 : ln.length ≤ 15) (hlb : lb.length ≤ 65536) (hlp : lp.length ≤ 65536) (w : World) (ht : Tab w)
    (hn : Bts (· < w.heap.size) w vn ln) (hb : Bts (· < w.heap.size) w vb lb) (hp : Bts (· < w.heap.size) w vp lp) :
    Calls Tryd.prog 8 #[.agg (ag key), vn, vb, vp] w fun e w' => ∃ g, e = .returned (.tuple #[.slice (some ⟨g, 0, none⟩) (lp.length + 16) (lp.length + 16), .int .i64 0]) ∧ Buf w' g (lp.length + 16) (Gf.sealed key ln lb lp) ∧ w.heap.size ≤ g ∧ Below w.heap.size w w' := by
  have hft := fault_any
  have lS := Gf.sealed_len key ln lb lp
  have hS0 : Gf.sealed key ln lb lp = (Gf.turnFrom (Gf.encrypt key) key (Gf.star key) 1 (Gf.begin key ln) lp).1 ++ Gf.tag key (Gf.star key) (Gf.turnFrom (Gf.encrypt key) key (Gf.star key) 1 (Gf.begin key ln) lp).2 lp lb := rfl
  have hTU := fun (mb : Nat) => turn_any 22 callFunc22 (Gf.encrypt key) mb (Gf.star key) key (Gf.begin key ln) (fun b hb => ⟨Gf.encrypt_len key b, fun w => encrypt_any key b hkey hb w⟩) (Gf.encrypt_len _ _) hkey (Gf.begin_len _ _) vp lp hlp
  have hTL := Gf.turnFrom_len (Gf.encrypt key) key (Gf.star key) 1 (Gf.begin key ln) lp (Gf.begin_len _ _)
  have hMK := masks_any key hkey
  have hst : Gf.encrypt key (Gf.zeros 16) = Gf.star key := rfl
  rw [hst] at hMK
  have ll0 : (Gf.star key).length = 16 := Gf.encrypt_len _ _
  have hBG := fun (S : Nat → Prop) => begin_any S key hkey vn ln hn1 hn2
  have lBG := Gf.begin_len key ln
  generalize (Gf.turnFrom (Gf.encrypt key) key (Gf.star key) 1 (Gf.begin key ln) lp).1 = R1 at *
  generalize (Gf.turnFrom (Gf.encrypt key) key (Gf.star key) 1 (Gf.begin key ln) lp).2 = R2 at *
  generalize Gf.begin key ln = BG at *
  generalize Gf.star key = l0 at *
  have hTG := fun (mb : Nat) => tag_any mb l0 key R2 ll0 hkey hTL.2 vp vb lp lb (by omega) (by omega)
  have lTG := Gf.tag_len key l0 R2 lp lb
  generalize Gf.tag key l0 R2 lp lb = TG at *
  generalize Gf.sealed key ln lb lp = SL at *
  have HS := Box'.mk hS0
  have HTU := Box'.mk hTU
  have HTG := Box'.mk hTG
  have HMK := Box'.mk hMK
  have HBG := Box'.mk hBG
  clear hS0 hst hft hTU hTG hMK hBG
  have hnc := hn
  have hbc := hb
  have hpc := hp
  obtain ⟨an, cn, rfl, _, _⟩ := hnc
  obtain ⟨ab, cb, rfl, _, _⟩ := hbc
  obtain ⟨ap, cp, rfl, _, _⟩ := hpc
  have hfa := fun w => fault_any an ln.length cn ab lb.length cb (lp.length : Int) (by unfold maxLen; omega) (by unfold maxLen; omega) w
  have hf0 : Gf.fault ln.length lb.length (lp.length : Int) = 0 := by unfold Gf.fault; rw [if_neg (by omega), if_neg (by omega)]
  rw [hf0] at hfa
  clear hf0
  go_enter Tryd.func8, Tryd.ntmps8
  go_wp2_with fail
  refine (hfa _).mono ?_
  rintro e w0 ⟨rfl, rfl⟩
  have k0 : Row (w.alloc (.cells (ag key) 23)) w.heap.size 23 (ag key) := Row.new _ _ _
  go_wp2_with (first
    | (refine wpList_load_row rfl 23 (.tmp 4) rfl _ rfl _ _ k0 _ Tryd.underlying23 rfl 16 Tryd.info23 (by rw [ag_size]; exact hkey) ?_)
    | fail)
  refine (HMK.out _).mono ?_
  rintro e wM ⟨mb, bb, rfl, hm, hmb, hbb, hbl⟩
  have hlt := ht.lt
  have hz : (w.alloc (.cells (ag key) 23)).heap.size = w.heap.size + 1 := by simp
  rw [hz] at hmb hbb hbl
  have hz1 : w.heap.size + 1 ≤ wM.heap.size := by have := hbl.size; rw [hz] at this; exact this
  have hbw : Below w.heap.size w wM := ((Below.refl _ _).alloc (Nat.le_refl _) _).trans (hbl.mono (by omega))
  have hfs : ∀ k, k ≤ w.heap.size → Sf mb l0 wM k := fun k hk => ⟨by omega, by omega, fun b2 m2 => by rw [← hm.one m2]; omega, bb, hm⟩
  have hE : SE mb l0 key w.heap.size wM wM := ⟨k0.below hbl (by omega), ht.below hbw hlt, hfs 1 (by omega), hfs _ (Nat.le_refl _), Gm.refl _ _ _⟩
  have hbk : ∀ {v : Value} {l : List UInt8}, Bts (· < w.heap.size) w v l → Bts (Old mb l0 w.heap.size wM) wM v l := fun h => h.keep fun b hb => ⟨⟨hfs b (by omega), hb⟩, hbw.block b hb⟩
  have hn' := hbk hn
  have hb' := hbk hb
  have hp' := hbk hp
  have hfin : ∀ w2, Gm mb l0 wM w2 → Below w.heap.size w w2 := fun w2 g => below_of_Gm hbw g hm (by omega) (by omega) (by omega)
  clear hn hb hp hbk k0 hbl HMK hfa ht hfs
  have HFN := Box'.mk hfin
  clear hfin
  generalize hN : w.heap.size = N at *
  go_wp2
  refine wp_region_grow 12 (by kernel_rfl) (by kernel_rfl) (Gm mb l0) (fun w2 => SE mb l0 key N wM w2 ∧ Bts (Old mb l0 N w2) w2 (.slice an ln.length cn) ln ∧ Bts (Old mb l0 N w2) w2 (.slice ab lb.length cb) lb ∧ Bts (Old mb l0 N w2) w2 (.slice ap lp.length cp) lp) (fun k w1 v => match k with
    | 0 => v = .agg (ag key)
    | 1 => v = mskFn mb
    | 2 => v = .agg (ag key)
    | 3 => v = .slice an ln.length cn
    | 4 => v = .agg (ag BG)
    | 5 => v = .slice ap lp.length cp
    | 6 => ∃ g, v = .tuple #[.slice (some ⟨g, 0, none⟩) lp.length (lp.length + 16), .agg (ag R2)] ∧ Buf w1 g (lp.length + 16) R1 ∧ Sf mb l0 w1 g ∧ wM.heap.size ≤ g
    | 7 => ∃ g, v = .tuple #[.slice (some ⟨g, 0, none⟩) lp.length (lp.length + 16), .agg (ag R2)] ∧ Buf w1 g (lp.length + 16) R1 ∧ Sf mb l0 w1 g ∧ wM.heap.size ≤ g
    | 8 => ∃ g, v = .slice (some ⟨g, 0, none⟩) lp.length (lp.length + 16) ∧ Buf w1 g (lp.length + 16) R1 ∧ Sf mb l0 w1 g ∧ wM.heap.size ≤ g
    | 9 => v = .agg (ag R2)
    | 10 => ∃ p, v = .pointer (some ⟨p, 0, none⟩) ∧ N < p ∧ 1 < p ∧ wM.heap.size ≤ p ∧ Room w1 p 23 16 ∧ Sf mb l0 w1 p
    | 11 => ∃ g, v = .slice (some ⟨g, 0, none⟩) lp.length (lp.length + 16) ∧ Buf w1 g (lp.length + 16) R1 ∧ Sf mb l0 w1 g ∧ wM.heap.size ≤ g
    | _ => True) ?_ ?_ ?_ ?_ ?_
  · rintro w2 w3 hb ⟨c1, c2, c3, c4⟩
    exact ⟨c1.go hb, c2.go hb, c3.go hb, c4.go hb⟩
  · intro k v w1 w2 hC1 hb h
    match k, h with
    | 0, h => exact h
    | 1, h => exact h
    | 2, h => exact h
    | 3, h => exact h
    | 4, h => exact h
    | 5, h => exact h
    | 6, ⟨g, e1, e2, e3, e4⟩ => exact ⟨g, e1, e2.same (e3.keep hb).2, e3.go hb, e4⟩
    | 7, ⟨g, e1, e2, e3, e4⟩ => exact ⟨g, e1, e2.same (e3.keep hb).2, e3.go hb, e4⟩
    | 8, ⟨g, e1, e2, e3, e4⟩ => exact ⟨g, e1, e2.same (e3.keep hb).2, e3.go hb, e4⟩
    | 9, h => exact h
    | 10, ⟨p, e1, e2, e3, e4, e5, e6⟩ => exact ⟨p, e1, e2, e3, e4, e6.room hb e5, e6.go hb⟩
    | 11, ⟨g, e1, e2, e3, e4⟩ => exact ⟨g, e1, e2.same (e3.keep hb).2, e3.go hb, e4⟩
    | k + 12, h => trivial
  · exact ⟨hE.go (Gm.refl _ _ _).drew, hn'.go (Gm.refl _ _ _).drew, hb'.go (Gm.refl _ _ _).drew, hp'.go (Gm.refl _ _ _).drew⟩
  · refine ⟨?_, ?_, ?_, ?_, ?_, ?_, ?_, ?_, ?_, ?_, ?_, ?_, trivial⟩
    · intro f w1 hC hd KK hK
      simp only [List.take_succ_cons, List.take_zero, setAll, List.setIfInBounds_toArray, List.set_cons_succ, List.set_cons_zero, Nat.zero_add, Nat.reduceAdd] at hK ⊢
      refine wp_load_row 23 _ rfl _ rfl _ _ (hC.1.kk) _ Tryd.underlying23 rfl 16 Tryd.info23 (by rw [ag_size]; exact hkey) ?_
      exact hK _ _ rfl (Gm.refl _ _ _)
    · intro f w1 hC hd KK hK
      simp only [List.take_succ_cons, List.take_zero, setAll, List.setIfInBounds_toArray, List.set_cons_succ, List.set_cons_zero, Nat.zero_add, Nat.reduceAdd] at hK ⊢
      refine wp_of_quiet rfl ?_
      go_big_quiet_step (fail)
      exact wpQuiet_nil (hK _ _ rfl (Gm.refl _ _ _))
    · intro f w1 hC hd KK hK
      simp only [List.take_succ_cons, List.take_zero, setAll, List.setIfInBounds_toArray, List.set_cons_succ, List.set_cons_zero, Nat.zero_add, Nat.reduceAdd] at hK ⊢
      refine wp_load_row 23 _ rfl _ rfl _ _ (hC.1.kk) _ Tryd.underlying23 rfl 16 Tryd.info23 (by rw [ag_size]; exact hkey) ?_
      exact hK _ _ rfl (Gm.refl _ _ _)
    · intro f w1 hC hd KK hK
      simp only [List.take_succ_cons, List.take_zero, setAll, List.setIfInBounds_toArray, List.set_cons_succ, List.set_cons_zero, Nat.zero_add, Nat.reduceAdd] at hK ⊢
      refine wp_of_quiet rfl ?_
      go_big_quiet_step (fail)
      exact wpQuiet_nil (hK _ _ rfl (Gm.refl _ _ _))
    · intro f w1 hC hd KK hK
      have g2 : f 2 = _ := hd 2 rfl
      have g3 : f 3 = _ := hd 3 rfl
      simp only [List.take_succ_cons, List.take_zero, setAll, List.setIfInBounds_toArray, List.set_cons_succ, List.set_cons_zero, Nat.zero_add, Nat.reduceAdd, g2, g3] at hK ⊢
      exact wp_call 23 #[.agg (ag key), .slice an ln.length cn] (by simp [go_sem]) _ _ (HBG.out _ w1 hC.2.1) (fun w' hb => hK _ _ rfl (Gm.of hb))
    · intro f w1 hC hd KK hK
      simp only [List.take_succ_cons, List.take_zero, setAll, List.setIfInBounds_toArray, List.set_cons_succ, List.set_cons_zero, Nat.zero_add, Nat.reduceAdd] at hK ⊢
      refine wp_of_quiet rfl ?_
      go_big_quiet_step (fail)
      exact wpQuiet_nil (hK _ _ rfl (Gm.refl _ _ _))
    · intro f w1 hC hd KK hK
      have g0 : f 0 = _ := hd 0 rfl
      have g1 : f 1 = _ := hd 1 rfl
      have g4 : f 4 = _ := hd 4 rfl
      have g5 : f 5 = _ := hd 5 rfl
      simp only [List.take_succ_cons, List.take_zero, setAll, List.setIfInBounds_toArray, List.set_cons_succ, List.set_cons_zero, Nat.zero_add, Nat.reduceAdd, g0, g1, g4, g5] at hK ⊢
      refine wp_call_ex 21 #[.agg (ag key), .func (.func 22) #[] #[], mskFn mb, .agg (ag BG), .slice ap lp.length cp] (by simp [go_sem]) (fun v w' => (∃ g, v = .tuple #[.slice (some ⟨g, 0, none⟩) lp.length (lp.length + 16), .agg (ag R2)] ∧ Buf w' g (lp.length + 16) R1 ∧ Sf mb l0 w' g ∧ wM.heap.size ≤ g) ∧ Gm mb l0 w1 w') ?_ (fun v w' h => hK _ _ h.1 h.2)
      refine (HTU.out mb w1 hC.1.tb hC.1.s1 (hC.2.2.2.re fun b h => h.1)).mono ?_
      rintro e w' ⟨g, rfl, q1, q2, q3, q4⟩
      exact ⟨_, rfl, ⟨g, rfl, q1, q2, by have := hC.1.g.size; omega⟩, q4⟩
    · intro f w1 hC hd KK hK
      have hdd : ∃ g, f 6 = .tuple #[.slice (some ⟨g, 0, none⟩) lp.length (lp.length + 16), .agg (ag R2)] ∧ Buf w1 g (lp.length + 16) R1 ∧ Sf mb l0 w1 g ∧ wM.heap.size ≤ g := hd 6 (by kernel_rfl)
      clear hd
      cases hdd with | intro g h2 =>
      have g6 := h2.1
      have hg1 := h2.2.1
      have hg2 := h2.2.2.1
      have hg3 := h2.2.2.2
      clear h2
      simp only [List.take_succ_cons, List.take_zero, setAll, List.setIfInBounds_toArray, List.set_cons_succ, List.set_cons_zero, Nat.zero_add, Nat.reduceAdd, g6] at hK ⊢
      refine wp_of_quiet rfl ?_
      go_big_quiet_step (fail)
      exact wpQuiet_nil (hK _ _ (⟨g, rfl, hg1, hg2, hg3⟩) (Gm.refl _ _ _))
    · intro f w1 hC hd KK hK
      have hdd : ∃ g, f 7 = .tuple #[.slice (some ⟨g, 0, none⟩) lp.length (lp.length + 16), .agg (ag R2)] ∧ Buf w1 g (lp.length + 16) R1 ∧ Sf mb l0 w1 g ∧ wM.heap.size ≤ g := hd 7 (by kernel_rfl)
      clear hd
      cases hdd with | intro g h2 =>
      have g7 := h2.1
      have hg1 := h2.2.1
      have hg2 := h2.2.2.1
      have hg3 := h2.2.2.2
      clear h2
      simp only [List.take_succ_cons, List.take_zero, setAll, List.setIfInBounds_toArray, List.set_cons_succ, List.set_cons_zero, Nat.zero_add, Nat.reduceAdd, g7] at hK ⊢
      refine wp_of_quiet rfl ?_
      go_big_quiet_step (fail)
      exact wpQuiet_nil (hK _ _ (⟨g, rfl, hg1, hg2, hg3⟩) (Gm.refl _ _ _))
    · intro f w1 hC hd KK hK
      have hdd : ∃ g, f 7 = .tuple #[.slice (some ⟨g, 0, none⟩) lp.length (lp.length + 16), .agg (ag R2)] ∧ Buf w1 g (lp.length + 16) R1 ∧ Sf mb l0 w1 g ∧ wM.heap.size ≤ g := hd 7 (by kernel_rfl)
      clear hd
      cases hdd with | intro g h2 =>
      have g7 := h2.1
      have hg1 := h2.2.1
      have hg2 := h2.2.2.1
      have hg3 := h2.2.2.2
      clear h2
      simp only [List.take_succ_cons, List.take_zero, setAll, List.setIfInBounds_toArray, List.set_cons_succ, List.set_cons_zero, Nat.zero_add, Nat.reduceAdd, g7] at hK ⊢
      refine wp_of_quiet rfl ?_
      go_big_quiet_step (fail)
      exact wpQuiet_nil (hK _ _ (rfl) (Gm.refl _ _ _))
    · intro f w1 hC hd KK hK
      simp only [List.take_succ_cons, List.take_zero, setAll, List.setIfInBounds_toArray, List.set_cons_succ, List.set_cons_zero, Nat.zero_add, Nat.reduceAdd] at hK ⊢
      have hp := hC.1.f0.lt
      have hp1 := hC.1.tb.lt
      have hp2 := hC.1.g.size
      obtain ⟨bb, hm⟩ := hC.1.s1.is
      refine wp_alloc_row 23 rfl _ _ Tryd.zero23 ?_
      exact hK _ _ ⟨_, rfl, hp, hp1, hp2, Room.new _ _ _ _ (by rw [ag_size]; rfl), Sf.new hm _⟩ (Gm.of ((Below.refl _ _).alloc (Nat.le_refl _) _))
    · intro f w1 hC hd KK hK
      have hdd : ∃ g, f 8 = .slice (some ⟨g, 0, none⟩) lp.length (lp.length + 16) ∧ Buf w1 g (lp.length + 16) R1 ∧ Sf mb l0 w1 g ∧ wM.heap.size ≤ g := hd 8 (by kernel_rfl)
      clear hd
      cases hdd with | intro g h2 =>
      have g8 := h2.1
      have hg1 := h2.2.1
      have hg2 := h2.2.2.1
      have hg3 := h2.2.2.2
      clear h2
      simp only [List.take_succ_cons, List.take_zero, setAll, List.setIfInBounds_toArray, List.set_cons_succ, List.set_cons_zero, Nat.zero_add, Nat.reduceAdd, g8] at hK ⊢
      refine wp_of_quiet rfl ?_
      go_big_quiet_step (fail)
      exact wpQuiet_nil (hK _ _ (⟨g, rfl, hg1, hg2, hg3⟩) (Gm.refl _ _ _))
  · intro f w1 hC hv
    have g0 : f 0 = _ := hv 0 (by decide)
    have g1 : f 1 = _ := hv 1 (by decide)
    have g2 : f 2 = _ := hv 2 (by decide)
    have g3 : f 3 = _ := hv 3 (by decide)
    have g4 : f 4 = _ := hv 4 (by decide)
    have g5 : f 5 = _ := hv 5 (by decide)
    obtain ⟨ga, g6, ha1, ha2, ha3⟩ := hv 6 (by decide)
    obtain ⟨gb, g7, hb1, hb2, hb3⟩ := hv 7 (by decide)
    obtain ⟨gc, g8, hc1, hc2, hc3⟩ := hv 8 (by decide)
    have g9 : f 9 = _ := hv 9 (by decide)
    obtain ⟨p, g10, hp1, hp2, hp3, hp4, hp5⟩ := hv 10 (by decide)
    obtain ⟨g, g11, hg1, hg2, hg3⟩ := hv 11 (by decide)
    simp only [List.take_succ_cons, List.take_zero, List.drop_succ_cons, List.drop_zero, setAll, List.setIfInBounds_toArray, List.set_cons_succ, List.set_cons_zero, Nat.zero_add, Nat.reduceAdd, g0, g1, g2, g3, g4, g5, g6, g7, g8, g9, g10, g11]
    clear g0 g1 g2 g3 g4 g5 g6 g7 g8 g9 g10 g11 hv
    obtain ⟨c1, c2, c3, c4⟩ := hC
    clear ha1 ha2 ha3 hb1 hb2 hb3 hc1 hc2 hc3 hn' hb' hp' hE
    have hgp : g ≠ p := by
      rintro rfl
      obtain ⟨cc, r1, r2⟩ := hp4
      rcases hg1.2 with ⟨e, _⟩ | ⟨g1, cc1, cur, e1, _, e3, _⟩
      · cases e
      · injection e1 with q1; injection q1 with q1; injection q1 with q1
        subst q1
        unfold Row at r1
        rw [r1] at e3
        injection e3 with e
        injection e with _ e5
        exact absurd e5 (by decide)
    have z1 := c1.set p hp5 hp1 hp2 hp3 (ag R2)
    have z3 := c3.set p hp5 (by omega) (ag R2)
    have z4 := c4.set p hp5 (by omega) (ag R2)
    have z5 := hp4.setRow (ag R2)
    have z6 := hg1.same (w' := w1.setRow p (ag R2)) (setRow_other _ _ _ _ hgp)
    have z7 := hp5.set hg2 (ag R2)
    have hk1 := z1.kk
    go_wp2_with (first
      | (refine wpList_store_row rfl 23 (.tmp 13) (.tmp 34) rfl _ rfl _ rfl _ _ hp4 Tryd.info23 (by rw [ag_size]; exact hTL.2) (ag_one _) ?_)
      | (refine wpList_load_row rfl 23 (.tmp 4) rfl _ rfl _ _ hk1 _ Tryd.underlying23 rfl 16 Tryd.info23 (by rw [ag_size]; exact hkey) ?_)
      | (refine wpList_load_row rfl 23 (.tmp 13) rfl _ rfl _ _ z5 _ Tryd.underlying23 rfl 16 Tryd.info23 (by rw [ag_size]; exact hTL.2) ?_)
      | fail)
    refine (HTG.out mb _ z1.tb z1.s1 (z4.re fun b h => h.1) (z3.re fun b h => h.1)).mono ?_
    rintro e w5 ⟨rfl, hb5⟩
    have y1 := z7.go hb5
    have y2 := z6.same (w' := w5) (z7.keep hb5).2
    have y3 := z1.g.trans hb5
    clear z1 z3 z4 z5 z6 z7 hb5 hg1 hg2 hp4 hp5 c1 c2 c3 c4 hk1
    have y4 : Gm mb l0 w5 (w5.alloc (.cells (ag TG) 23)) := Gm.of ((Below.refl _ _).alloc (Nat.le_refl _) _)
    have y5 := y1.go y4
    have y6 := y2.same (w' := w5.alloc (.cells (ag TG) 23)) (y1.keep y4).2
    have y7 := y3.trans y4
    have y8 : Row (w5.alloc (.cells (ag TG) 23)) w5.heap.size 23 (ag TG) := Row.new _ _ _
    unfold Buf at y6
    rw [hTL.1] at y6
    have hcl : ∀ j u, (TG.map B)[j]? = some u → (w5.alloc (.cells (ag TG) 23)).cell? ((⟨w5.heap.size, 0, none⟩ : Addr).add j) = some u := fun j u hu => by
      rw [Addr.add_mid, y8.cell]
      simpa [ag] using hu
    have hone : ∀ u ∈ TG.map B, u.oneCell' = true := fun u hu => by obtain ⟨y, _, rfl⟩ := List.mem_map.1 hu; rfl
    obtain ⟨i5, hi5, hs5⟩ : ∃ i, Tryd.prog.info? 5 = some i ∧ i.size = 1 := ⟨_, rfl, by kernel_rfl⟩
    clear y1 y2 y3 y4 y8
    go_wp2_with (first
      | (refine wpList_alloc_row rfl 23 rfl _ _ Tryd.zero23 ?_)
      | (refine wpList_store_row rfl 23 (.tmp 14) (.tmp 40) rfl _ rfl _ rfl _ _ (Room.new _ _ _ _ (by rw [ag_size]; rfl)) Tryd.info23 (by rw [ag_size]; exact lTG) (ag_one _) ?_; rw [World.setRow_alloc_new])
      | (refine wpList_append_fits _ rfl (.tmp 41) (.tmp 42) 24 rfl 0 5 i5 1 Tryd.underlying24 hi5 hs5 g lp.length (lp.length + 16) (R1.map B) rfl y6 ⟨w5.heap.size, 0, none⟩ 16 16 (TG.map B) rfl (by rw [List.length_map, lTG]) hcl hone (Nat.le_refl _) (fun w6 ho6 hg6 => ?_))
      | fail)
    rw [← List.map_append, ← HS.out] at ho6
    have hbu : Buf w6 g (lp.length + 16) SL := by unfold Buf; rw [lS]; exact ho6
    have hbf := HFN.out w6 (y7.grown y5 hg3 hg6)
    clear ho6 hg6 y5 y6 y7 hcl
    go_wp2
    go_ret2
    exact ⟨g, rfl, hbu, by omega, by first | exact hbf | (rw [hN]; exact hbf)⟩
end Go.Proofs.YtmolhljgmaoflaaDoor
