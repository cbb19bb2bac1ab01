/- What stands while the reference digests, seals or opens. -/
import Derived.Test.YthcokaffbgbanaaDoorXi
import Derived.Test.YthcokaffbgbanaaDoorXd
namespace Go.Proofs.YthcokaffbgbanaaDoor
open Go.RowKit Go.BigFrame

/-- The cipher with its L's in the block ne, an offset in po, a sum in pd. -/
structure En (key : List UInt8) (sb N ne po pd : Nat) (w0 w : World) (o d : List UInt8) : Prop where
  el : Row w ne 110 (elk key sb)
  tb : Row w sb 118 (ag Gf.sbox)
  ro : Row w po 23 (ag o)
  rd : Row w pd 23 (ag d)
  bl : Below N w0 w
  n1 : N ≤ po
  n2 : N ≤ pd
  n3 : po ≠ pd
section
variable {key : List UInt8} {sb N ne po pd : Nat} {w0 w w' : World} {o d : List UInt8}
set_option maxRecDepth 100000 in
theorem En.below (h : En key sb N ne po pd w0 w o d) (hb : Below w.heap.size w w') : En key sb N ne po pd w0 w' o d :=
  ⟨h.el.below hb h.el.lt, h.tb.below hb h.tb.lt, h.ro.below hb h.ro.lt, h.rd.below hb h.rd.lt, h.bl.trans (hb.mono (by have := h.n1; have := h.ro.lt; omega)), h.n1, h.n2, h.n3⟩
set_option maxRecDepth 100000 in
theorem En.drew (h : En key sb N ne po pd w0 w o d) : En key sb N ne po pd w0 w.drew o d := ⟨h.el, h.tb, h.ro, h.rd, h.bl.drew, h.n1, h.n2, h.n3⟩
set_option maxRecDepth 100000 in
theorem En.setO (h : En key sb N ne po pd w0 w o d) (o' : List UInt8) : En key sb N ne po pd w0 (w.setRow po (ag o')) o' d :=
  ⟨h.el.setRowOther _ _ (row_ne h.el h.ro (by decide)), h.tb.setRowOther _ _ (row_ne h.tb h.ro (by decide)), h.ro.setRow _, h.rd.setRowOther _ _ (Ne.symm h.n3), below_setRow h.bl h.n1 _, h.n1, h.n2, h.n3⟩
set_option maxRecDepth 100000 in
theorem En.setD (h : En key sb N ne po pd w0 w o d) (d' : List UInt8) : En key sb N ne po pd w0 (w.setRow pd (ag d')) o d' :=
  ⟨h.el.setRowOther _ _ (row_ne h.el h.rd (by decide)), h.tb.setRowOther _ _ (row_ne h.tb h.rd (by decide)), h.ro.setRowOther _ _ h.n3, h.rd.setRow _, below_setRow h.bl h.n2 _, h.n1, h.n2, h.n3⟩
set_option maxRecDepth 100000 in
theorem En.apd (h : En key sb N ne po pd w0 w o d) (ha : Apd N w w') : En key sb N ne po pd w0 w' o d :=
  ⟨ha.rows _ _ _ (by decide) h.el, ha.rows _ _ _ (by decide) h.tb, ha.rows _ _ _ (by decide) h.ro, ha.rows _ _ _ (by decide) h.rd, ha.bel _ h.bl, h.n1, h.n2, h.n3⟩
set_option maxRecDepth 100000 in
theorem En.setP (h : En key sb N ne po pd w0 w o d) {p n : Nat} (hp : Room w p 23 n) (h1 : p ≠ po) (h2 : p ≠ pd) (hN : N ≤ p) (c : Array Value) : En key sb N ne po pd w0 (w.setRow p c) o d := by
  obtain ⟨c0, hp, _⟩ := hp
  exact ⟨h.el.setRowOther _ _ (row_ne h.el hp (by decide)), h.tb.setRowOther _ _ (row_ne h.tb hp (by decide)), h.ro.setRowOther _ _ (Ne.symm h1), h.rd.setRowOther _ _ (Ne.symm h2), below_setRow h.bl hN _, h.n1, h.n2, h.n3⟩
set_option maxRecDepth 100000 in
theorem En.size (h : En key sb N ne po pd w0 w o d) : N ≤ w.heap.size := by have := h.n1; have := h.ro.lt; omega
end
/-- Bytes in blocks that were there at first stay. -/
theorem Bts.up {N : Nat} {w w' : World} {v : Value} {l : List UInt8} (h : Bts (· < N) w v l) (hk : ∀ b, b < N → w'.heap[b]? = w.heap[b]?) : Bts (· < N) w' v l := h.keep fun b hb => ⟨hb, hk b hb⟩
set_option maxRecDepth 100000 in
theorem Bts.bel {N : Nat} {w0 w w' : World} {v : Value} {l : List UInt8} (h : Bts (· < N) w v l) (h1 : Below N w0 w) (h2 : Below N w0 w') : Bts (· < N) w' v l :=
  h.up fun b hb => by rw [h2.block b hb, h1.block b hb]
/-- What is left behind sixteen bytes. -/
def rest16 (b o n c : Nat) : Value := if c = 16 then .slice (some ⟨b, o, none⟩) (n - 16) (c - 16) else .slice (some ⟨b, o + 16, none⟩) (n - 16) (c - 16)
set_option maxRecDepth 100000 in
theorem Bts.rest {S : Nat → Prop} {w : World} {b o c : Nat} {l : List UInt8} (h16 : 16 ≤ l.length) (hc : l.length ≤ c) (hS : S b) (hr : w.rangeAt b o (l.map B)) : Bts S w (rest16 b o l.length c) (l.drop 16) := by
  have hd : (l.drop 16).length = l.length - 16 := by rw [List.length_drop]
  have hr2 : w.rangeAt b (o + 16) ((l.drop 16).map B) := fun j u hu => by
    rw [List.map_drop, List.getElem?_drop] at hu
    have := hr (16 + j) u hu
    rw [← Nat.add_assoc] at this; exact this
  unfold rest16
  by_cases e : c = 16
  · rw [if_pos e]
    exact ⟨_, _, by rw [hd], by omega, .inl (List.eq_nil_of_length_eq_zero (by omega))⟩
  · rw [if_neg e]
    exact ⟨_, _, by rw [hd], by omega, .inr ⟨b, o + 16, rfl, hS, hr2⟩⟩
set_option maxRecDepth 100000 in
theorem Bts.first {S : Nat → Prop} {w : World} {b o c : Nat} {l : List UInt8} (h16 : 16 ≤ l.length) (hc : l.length ≤ c) (hS : S b) (hr : w.rangeAt b o (l.map B)) : Bts S w (.slice (some ⟨b, o, none⟩) 16 c) (l.take 16) := by
  have ht : (l.take 16).length = 16 := by rw [List.length_take]; omega
  refine ⟨_, _, by rw [ht], by omega, .inr ⟨b, o, rfl, hS, fun j u hu => ?_⟩⟩
  refine hr j u ?_
  rw [List.map_take, List.getElem?_take] at hu
  split at hu
  · exact hu
  · cases hu
/-- The cipher of the key, wherever its L's lie. -/
theorem elk_enc (key : List UInt8) {sb : Nat} (b : List UInt8) (hb : b.length = 16) {w : World} (hT : Row w sb 118 (ag Gf.sbox)) :
    Calls Tryd.prog 57 #[.agg (cip (.pointer (some ⟨sb, 0, none⟩)) (Gf.keys Gf.sbox key)), .agg (ag b)] w fun e w' => e = .returned (.agg (ag (Gf.encrypt key b))) ∧ Below w.heap.size w w' :=
  cipher_any Gf.sbox (Gf.keys Gf.sbox key) b Gf.sbox_len (Gf.keys_len _ _) hb w sb hT
set_option maxRecDepth 100000 in
theorem cipk_size (key : List UInt8) (sb : Nat) : (cip (.pointer (some ⟨sb, 0, none⟩)) (Gf.keys Gf.sbox key)).size = 177 := by rw [cip_size, Gf.keys_len]
set_option maxRecDepth 100000 in
theorem wp_slice {P : Program} {op : Oper} {a : Act} {w : World} {K : Act → World → Prop} {Q : Exit → Act → World → Prop} (t : TypeId) (x : Operand) (lo hi mx : Option Operand) (ho : op.op = .slice t x lo hi mx) (v : Value)
    (hrun : (Instr.sliceAt t (a.eval x) (lo.map a.eval) (hi.map a.eval) (mx.map a.eval)).run P w = .ok v w) (h : K (a.put op.dst v) w) : op.wp P a w K Q :=
  wp_run v (slice_op t x lo hi mx ho v w hrun) h
end Go.Proofs.YthcokaffbgbanaaDoor

/- The walk of the reference's digest. -/
namespace Go.Proofs.YthcokaffbgbanaaDoor
open Go.RowKit Go.BigFrame

set_option maxRecDepth 100000 in
set_option maxHeartbeats 8000000 in
theorem refDigest_any (key : List UInt8) (v : Value) (l : List UInt8) (hmax : l.length ≤ 65536) (w : World) (sb : Nat) (hT : Row w sb 118 (ag Gf.sbox)) (hB : Bts (· < w.heap.size) w v l) :
    Calls Tryd.prog 59 #[.agg (elk key sb), v] w fun e w' => e = .returned (.agg (ag (Gf.digFrom key (Gf.star key) 1 (Gf.zeros 16) (Gf.zeros 16) l))) ∧ Below w.heap.size w w' := by
  obtain ⟨R, hR0⟩ : ∃ R, Gf.digFrom key (Gf.star key) 1 (Gf.zeros 16) (Gf.zeros 16) l = R := ⟨_, rfl⟩
  have lR : R.length = 16 := by rw [← hR0]; exact Gf.digFrom_len _ _ _ _ _ _ rfl
  rw [hR0]
  have HR0 := Box'.mk hR0
  clear hR0
  have rc : ∀ {w3 : World} {b : Nat}, Row w3 b 110 (elk key sb) → _ := fun {w3} {b} h => elk_range (w := w3) (b := b) h
  have lCP := cipk_size key sb
  have en : ∀ (b : List UInt8), b.length = 16 → ∀ w3, Row w3 sb 118 (ag Gf.sbox) → Calls Tryd.prog 57 #[.agg (cip (.pointer (some ⟨sb, 0, none⟩)) (Gf.keys Gf.sbox key)), .agg (ag b)] w3 fun e w' => e = .returned (.agg (ag (Gf.encrypt key b))) ∧ Below w3.heap.size w3 w' := fun b hb w3 h => elk_enc key b hb h
  generalize cip (.pointer (some ⟨sb, 0, none⟩)) (Gf.keys Gf.sbox key) = CP at *
  have RC := Box'.mk @rc
  have EC := Box'.mk en
  clear rc en
  obtain ⟨N, hN⟩ : ∃ N, w.heap.size = N := ⟨_, rfl⟩
  have hW0 : ∀ W, W = (((w.alloc (.cells (elk key sb) 110)).alloc (.cells (ag (Gf.zeros 16)) 23)).alloc (.cells (ag (Gf.zeros 16)) 23)).alloc (.cells (ag (Gf.zeros 16)) 23) → En key sb N N (N + 2) (N + 3) w W (Gf.zeros 16) (Gf.zeros 16) ∧ Room W (N + 1) 23 16 ∧ Bts (· < N) W v l := by
    intro W hW
    have b1 : Below N w W := by rw [hW, ← hN]; exact ((((Below.refl _ _).alloc (Nat.le_refl _) _).alloc (by simp) _).alloc (by simp; omega) _).alloc (by simp; omega) _
    have hst := hT.lt
    refine ⟨⟨?_, hT.below b1 (by omega), ?_, ?_, b1, by omega, by omega, by omega⟩, ?_, ?_⟩
    · rw [hW, ← hN]; exact (((Row.new _ _ _).alloc _).alloc _).alloc _
    · rw [hW]; exact (Row.made _ _ _ _ _ rfl (by simp; omega)).alloc _
    · rw [hW]; exact Row.made _ _ _ _ _ rfl (by simp; omega)
    · rw [hW]; exact ((Room.made _ _ _ _ _ rfl (by simp; omega)).alloc _).alloc _
    · rw [hN] at hB; exact hB.up fun b hb => b1.block b hb
  rw [hN]
  obtain ⟨va, vn, vc, rfl⟩ : ∃ a n c, v = .slice a n c := by obtain ⟨a, c, h, _⟩ := hB; exact ⟨a, _, c, h⟩
  go_enter Tryd.func59, Tryd.ntmps59
  go_wp2_with (first
    | (refine wpList_alloc_row rfl 23 rfl _ _ Tryd.zero23 ?_)
    | fail)
  obtain ⟨hE0, hq0, hB0⟩ := hW0 _ rfl
  generalize World.alloc (World.alloc (World.alloc (World.alloc w _) _) _) _ = W0 at *
  clear hW0 hB hT
  go_loopw [1, 7] (fun t j wr => ∃ (i : Nat) (l' o d : List UInt8), 0 < i ∧ 16 * i + l'.length ≤ 65552 ∧ l'.length ≤ 65536 ∧ j = .int .i64 (i : Int) ∧ Bts (· < N) wr t l' ∧ o.length = 16 ∧ d.length = 16 ∧ En key sb N N (N + 2) (N + 3) w wr o d ∧ Room wr (N + 1) 23 16 ∧ Box' (Gf.digFrom key (Gf.star key) i o d l' = R)) (fun t _ _ => sliceLen t)
  case atStart => exact ⟨1, l, _, _, by omega, by omega, hmax, rfl, hB0, rfl, rfl, hE0, hq0, HR0⟩
  case round =>
    clear hE0 hq0 hB0 HR0
    obtain ⟨i, l', o, d, hi0, hi1, hlm, rfl, hB1, lo, ld, hE, hq, HR⟩ := hrel
    obtain ⟨a, c, rfl, hcl, h3⟩ := hB1
    obtain ⟨n, hn⟩ : ∃ n, l'.length = n := ⟨_, rfl⟩
    by_cases h16 : 16 ≤ n
    · rcases h3 with rfl | ⟨b, oo, rfl, hbN, hr⟩
      · simp at hn; omega
      have hfirst : Bts (· < N) wr (.slice (some ⟨b, oo, none⟩) 16 c) (l'.take 16) := Bts.first (by omega) hcl hbN hr
      have hrest0 : Bts (· < N) wr (rest16 b oo l'.length c) (l'.drop 16) := Bts.rest (by omega) hcl hbN hr
      have lTK : (l'.take 16).length = 16 := by rw [List.length_take]; omega
      have lDR : (l'.drop 16).length = n - 16 := by rw [List.length_drop]; omega
      have hAt := fun w => refAt_any key sb i hi0 (by omega) w
      have lLL := Gf.ell_len (Gf.star key) (Gf.star_len key) (2 + Gf.ntz i)
      have hst := HR.out
      rw [Gf.digFrom_eq, dif_pos (by omega)] at hst
      generalize Gf.ell (Gf.star key) (2 + Gf.ntz i) = LL at *
      have hP1 := fun w => refPlus_any o LL lo lLL w
      have lo2 := Gf.bxor_len o LL
      generalize Gf.bxor o LL = o2 at *
      generalize l'.take 16 = TK at *
      have hP2 := fun w => refPlus_any TK o2 lTK lo2 w
      have lp1 := Gf.bxor_len TK o2
      generalize Gf.bxor TK o2 = p1 at *
      have hE1 := EC.out p1 lp1
      have le1 := Gf.encrypt_len key p1
      generalize Gf.encrypt key p1 = e1 at *
      have hP3 := fun w => refPlus_any d e1 ld le1 w
      have ld2 := Gf.bxor_len d e1
      generalize Gf.bxor d e1 = d2 at *
      have HR2 := Box'.mk hst
      rw [hn] at hcl hrest0 hi1 hlm
      rw [hn]
      clear hst hr HR
      go_upto_region 5 with (fail)
      refine wp_region_grow 5 (by kernel_rfl) (by kernel_rfl) (fun a b => Below a.heap.size a b) (fun w3 => En key sb N N (N + 2) (N + 3) w w3 o d ∧ Room w3 (N + 1) 23 16) (fun k w1 v => match k with
        | 0 => v = .agg (ag o)
        | 1 => v = .agg (elk key sb)
        | 2 => v = .int .i64 (i : Int)
        | 3 => v = .agg (ag LL)
        | 4 => v = .agg (ag o2)
        | _ => True) ?_ ?_ ?_ ?_ ?_
      · rintro a b hb ⟨c1, c2⟩
        exact ⟨c1.below hb, c2.below hb (c2.elim fun _ h => h.1.lt)⟩
      · intro k v w1 w2 hC1 hb h
        match k, h with
        | 0, h => exact h
        | 1, h => exact h
        | 2, h => exact h
        | 3, h => exact h
        | 4, h => exact h
        | k + 5, h => trivial
      · exact ⟨hE.drew, hq.drew⟩
      · refine ⟨?_, ?_, ?_, ?_, ?_, trivial⟩
        · intro f w1 hC hd KK hK
          simp only [List.take_succ_cons, List.take_zero, setAll, List.setIfInBounds_toArray, List.set_cons_succ, List.set_cons_zero, Nat.zero_add, Nat.reduceAdd] at hK ⊢
          refine wp_load_row 23 _ rfl _ rfl _ _ (hC.1.ro) _ Tryd.underlying23 rfl 16 Tryd.info23 (by rw [ag_size]; exact lo) ?_
          exact hK _ _ rfl (Below.refl _ _)
        · intro f w1 hC hd KK hK
          simp only [List.take_succ_cons, List.take_zero, setAll, List.setIfInBounds_toArray, List.set_cons_succ, List.set_cons_zero, Nat.zero_add, Nat.reduceAdd] at hK ⊢
          refine wp_load_row 110 _ rfl _ rfl _ _ (hC.1.el) _ Tryd.underlying110 rfl 209 Tryd.info110 (elk_size _ _) ?_
          exact hK _ _ rfl (Below.refl _ _)
        · intro f w1 hC hd KK hK
          simp only [List.take_succ_cons, List.take_zero, setAll, List.setIfInBounds_toArray, List.set_cons_succ, List.set_cons_zero, Nat.zero_add, Nat.reduceAdd] at hK ⊢
          refine wp_of_quiet rfl ?_
          go_big_quiet_step (fail)
          exact wpQuiet_nil (hK _ _ rfl (Below.refl _ _))
        · intro f w1 hC hd KK hK
          have g1 : f 1 = _ := hd 1 rfl
          have g2 : f 2 = _ := hd 2 rfl
          simp only [List.take_succ_cons, List.take_zero, setAll, List.setIfInBounds_toArray, List.set_cons_succ, List.set_cons_zero, Nat.zero_add, Nat.reduceAdd, g1, g2] at hK ⊢
          exact wp_call 56 #[.agg (elk key sb), .int .i64 (i : Int)] (by simp [go_sem]) _ _ (hAt _) (fun w' hb => hK _ _ rfl hb)
        · intro f w1 hC hd KK hK
          have g0 : f 0 = _ := hd 0 rfl
          have g3 : f 3 = _ := hd 3 rfl
          simp only [List.take_succ_cons, List.take_zero, setAll, List.setIfInBounds_toArray, List.set_cons_succ, List.set_cons_zero, Nat.zero_add, Nat.reduceAdd, g0, g3] at hK ⊢
          exact wp_call 55 #[.agg (ag o), .agg (ag LL)] (by simp [go_sem]) _ _ (hP1 _) (fun w' hb => hK _ _ rfl hb)
      · intro f w1 hC hv
        have g0 : f 0 = _ := hv 0 (by decide)
        have g1 : f 1 = _ := hv 1 (by decide)
        have g2 : f 2 = _ := hv 2 (by decide)
        have g3 : f 3 = _ := hv 3 (by decide)
        have g4 : f 4 = _ := hv 4 (by decide)
        simp only [List.take_succ_cons, List.take_zero, List.drop_succ_cons, List.drop_zero, setAll, List.setIfInBounds_toArray, List.set_cons_succ, List.set_cons_zero, Nat.zero_add, Nat.reduceAdd, g0, g1, g2, g3, g4]
        clear g0 g1 g2 g3 g4 hv
        obtain ⟨c1, c2⟩ := hC
        have hE5 := c1.setO o2
        have q5 := c2.setRowOther (N + 2) (ag o2) (by omega)
        have hF : ∀ w3, Below N w w3 → Bts (· < N) w3 (.slice (some ⟨b, oo, none⟩) 16 c) TK := fun w3 h3 => Bts.bel hfirst hE.bl h3
        have hrest := Bts.bel hrest0 hE.bl hE5.bl
        have hro := c1.ro.room (n := 16) (by rw [ag_size]; exact lo)
        clear c1 c2
        go_upto_region 6 with (first
          | (refine wpList_store_row rfl 23 (.tmp 5) (.tmp 17) rfl _ rfl _ rfl _ _ hro Tryd.info23 (by rw [ag_size]; exact lo2) (ag_one _) ?_)
          | fail)
        generalize w1.setRow (N + 2) (ag o2) = w5 at *
        refine wp_region_grow 10 (by kernel_rfl) (by kernel_rfl) (fun a b => Below a.heap.size a b) (fun w3 => En key sb N N (N + 2) (N + 3) w w3 o2 d ∧ Room w3 (N + 1) 23 16) (fun k w1 v => match k with
          | 0 => v = .agg (ag d)
          | 1 => v = .pointer (some ⟨N, 0, none⟩)
          | 2 => v = .agg CP
          | 3 => v = .slice (some ⟨b, oo, none⟩) n c
          | 4 => v = .slice (some ⟨b, oo, none⟩) 16 c
          | 5 => v = .agg (ag TK)
          | 6 => v = .agg (ag o2)
          | 7 => v = .agg (ag p1)
          | 8 => v = .agg (ag e1)
          | 9 => v = .agg (ag d2)
          | _ => True) ?_ ?_ ?_ ?_ ?_
        · rintro a b hb ⟨c1, c2⟩
          exact ⟨c1.below hb, c2.below hb (c2.elim fun _ h => h.1.lt)⟩
        · intro k v w1 w2 hC1 hb h
          match k, h with
          | 0, h => exact h
          | 1, h => exact h
          | 2, h => exact h
          | 3, h => exact h
          | 4, h => exact h
          | 5, h => exact h
          | 6, h => exact h
          | 7, h => exact h
          | 8, h => exact h
          | 9, h => exact h
          | k + 10, h => trivial
        · exact ⟨hE5.drew, q5.drew⟩
        · refine ⟨?_, ?_, ?_, ?_, ?_, ?_, ?_, ?_, ?_, ?_, trivial⟩
          · intro f w1 hC hd KK hK
            simp only [List.take_succ_cons, List.take_zero, setAll, List.setIfInBounds_toArray, List.set_cons_succ, List.set_cons_zero, Nat.zero_add, Nat.reduceAdd] at hK ⊢
            refine wp_load_row 23 _ rfl _ rfl _ _ (hC.1.rd) _ Tryd.underlying23 rfl 16 Tryd.info23 (by rw [ag_size]; exact ld) ?_
            exact hK _ _ rfl (Below.refl _ _)
          · intro f w1 hC hd KK hK
            simp only [List.take_succ_cons, List.take_zero, setAll, List.setIfInBounds_toArray, List.set_cons_succ, List.set_cons_zero, Nat.zero_add, Nat.reduceAdd] at hK ⊢
            refine wp_of_quiet rfl ?_
            go_big_quiet_step (fail)
            exact wpQuiet_nil (hK _ _ rfl (Below.refl _ _))
          · intro f w1 hC hd KK hK
            have g1 : f 1 = _ := hd 1 rfl
            simp only [List.take_succ_cons, List.take_zero, setAll, List.setIfInBounds_toArray, List.set_cons_succ, List.set_cons_zero, Nat.zero_add, Nat.reduceAdd, g1] at hK ⊢
            refine _root_.Go.wp_load_mid 108 _ rfl _ _ rfl CP.toList _ (RC.out hC.1.el).1 Tryd.underlying108 rfl (by rw [Tryd.info108, Array.length_toList, lCP]) ?_
            rw [Array.toArray_toList]
            exact hK _ _ rfl (Below.refl _ _)
          · intro f w1 hC hd KK hK
            simp only [List.take_succ_cons, List.take_zero, setAll, List.setIfInBounds_toArray, List.set_cons_succ, List.set_cons_zero, Nat.zero_add, Nat.reduceAdd] at hK ⊢
            refine wp_of_quiet rfl ?_
            go_big_quiet_step (fail)
            exact wpQuiet_nil (hK _ _ rfl (Below.refl _ _))
          · intro f w1 hC hd KK hK
            have g3 : f 3 = _ := hd 3 rfl
            simp only [List.take_succ_cons, List.take_zero, setAll, List.setIfInBounds_toArray, List.set_cons_succ, List.set_cons_zero, Nat.zero_add, Nat.reduceAdd, g3] at hK ⊢
            refine wp_of_quiet rfl ?_
            go_big_quiet_step (fail)
            exact wpQuiet_nil (hK _ _ rfl (Below.refl _ _))
          · intro f w1 hC hd KK hK
            have g4 : f 4 = _ := hd 4 rfl
            simp only [List.take_succ_cons, List.take_zero, setAll, List.setIfInBounds_toArray, List.set_cons_succ, List.set_cons_zero, Nat.zero_add, Nat.reduceAdd, g4] at hK ⊢
            exact wp_call 54 #[.slice (some ⟨b, oo, none⟩) 16 c] (by simp [go_sem]) _ _ (refBlock_any _ _ TK lTK _ (hF _ hC.1.bl)) (fun w' hb => hK _ _ rfl hb)
          · intro f w1 hC hd KK hK
            simp only [List.take_succ_cons, List.take_zero, setAll, List.setIfInBounds_toArray, List.set_cons_succ, List.set_cons_zero, Nat.zero_add, Nat.reduceAdd] at hK ⊢
            refine wp_load_row 23 _ rfl _ rfl _ _ (hC.1.ro) _ Tryd.underlying23 rfl 16 Tryd.info23 (by rw [ag_size]; exact lo2) ?_
            exact hK _ _ rfl (Below.refl _ _)
          · intro f w1 hC hd KK hK
            have g5 : f 5 = _ := hd 5 rfl
            have g6 : f 6 = _ := hd 6 rfl
            simp only [List.take_succ_cons, List.take_zero, setAll, List.setIfInBounds_toArray, List.set_cons_succ, List.set_cons_zero, Nat.zero_add, Nat.reduceAdd, g5, g6] at hK ⊢
            exact wp_call 55 #[.agg (ag TK), .agg (ag o2)] (by simp [go_sem]) _ _ (hP2 _) (fun w' hb => hK _ _ rfl hb)
          · intro f w1 hC hd KK hK
            have g2 : f 2 = _ := hd 2 rfl
            have g7 : f 7 = _ := hd 7 rfl
            simp only [List.take_succ_cons, List.take_zero, setAll, List.setIfInBounds_toArray, List.set_cons_succ, List.set_cons_zero, Nat.zero_add, Nat.reduceAdd, g2, g7] at hK ⊢
            exact wp_call 57 #[.agg CP, .agg (ag p1)] (by simp [go_sem]) _ _ (hE1 _ hC.1.tb) (fun w' hb => hK _ _ rfl hb)
          · intro f w1 hC hd KK hK
            have g0 : f 0 = _ := hd 0 rfl
            have g8 : f 8 = _ := hd 8 rfl
            simp only [List.take_succ_cons, List.take_zero, setAll, List.setIfInBounds_toArray, List.set_cons_succ, List.set_cons_zero, Nat.zero_add, Nat.reduceAdd, g0, g8] at hK ⊢
            exact wp_call 55 #[.agg (ag d), .agg (ag e1)] (by simp [go_sem]) _ _ (hP3 _) (fun w' hb => hK _ _ rfl hb)
        · intro f w1 hC hv
          have g0 : f 0 = _ := hv 0 (by decide)
          have g1 : f 1 = _ := hv 1 (by decide)
          have g2 : f 2 = _ := hv 2 (by decide)
          have g3 : f 3 = _ := hv 3 (by decide)
          have g4 : f 4 = _ := hv 4 (by decide)
          have g5 : f 5 = _ := hv 5 (by decide)
          have g6 : f 6 = _ := hv 6 (by decide)
          have g7 : f 7 = _ := hv 7 (by decide)
          have g8 : f 8 = _ := hv 8 (by decide)
          have g9 : f 9 = _ := hv 9 (by decide)
          simp only [List.take_succ_cons, List.take_zero, List.drop_succ_cons, List.drop_zero, setAll, List.setIfInBounds_toArray, List.set_cons_succ, List.set_cons_zero, Nat.zero_add, Nat.reduceAdd, g0, g1, g2, g3, g4, g5, g6, g7, g8, g9]
          clear g0 g1 g2 g3 g4 g5 g6 g7 g8 g9 hv
          obtain ⟨c1, c2⟩ := hC
          have s6 := c1.setD d2
          have q6 := c2.setRowOther (N + 3) (ag d2) (by omega)
          have hF6 := Bts.bel hrest hE5.bl s6.bl
          by_cases hc16 : c = 16
          · have hv : rest16 b oo n c = .slice (some ⟨b, oo, none⟩) (n - 16) 0 := by unfold rest16; rw [if_pos hc16, hc16]
            rw [hv] at hF6
            have hn16 : n = 16 := by omega
            subst hc16 hn16
            go_wp2_with (first
              | (refine wpList_store_row rfl 23 (.tmp 6) (.tmp 27) rfl _ rfl _ rfl _ _ (c1.rd.room (by rw [ag_size]; exact ld)) Tryd.info23 (by rw [ag_size]; exact ld2) (ag_one _) ?_)
              | fail)
            exact ⟨⟨i + 1, l'.drop 16, o2, d2, by omega, by omega, by omega, by go_num, hF6, lo2, ld2, s6, q6, HR2⟩, by simp [sliceLen]⟩
          · have hv : rest16 b oo n c = .slice (some ⟨b, oo + 16, none⟩) (n - 16) (c - 16) := by unfold rest16; rw [if_neg hc16]
            rw [hv] at hF6
            go_wp2_with (first
              | (refine wpList_store_row rfl 23 (.tmp 6) (.tmp 27) rfl _ rfl _ rfl _ _ (c1.rd.room (by rw [ag_size]; exact ld)) Tryd.info23 (by rw [ag_size]; exact ld2) (ag_one _) ?_)
              | fail)
            exact ⟨⟨i + 1, l'.drop 16, o2, d2, by omega, by omega, by omega, by go_num, hF6, lo2, ld2, s6, q6, HR2⟩, by simp [sliceLen]; omega⟩
    · by_cases hpos : 0 < n
      · rcases h3 with rfl | ⟨b, oo, rfl, hbN, hr⟩
        · simp at hn; omega
        have hPd : ∀ w3, Below N w w3 → Calls Tryd.prog 58 #[.slice (some ⟨b, oo, none⟩) n c] w3 fun e w' => e = .returned (.agg (ag (Gf.fup l'))) ∧ Below w3.heap.size w3 w' := fun w3 h3 => by
          have hb : Bts (· < N) wr (.slice (some ⟨b, oo, none⟩) l'.length c) l' := ⟨_, _, rfl, hcl, .inr ⟨b, oo, rfl, hbN, hr⟩⟩
          have := refPadded_any (· < N) _ l' (by omega) (by omega) w3 (hb.bel hE.bl h3)
          rw [hn] at this; exact this
        have lFU := Gf.fup_len l' (by omega)
        have hst := HR.out
        rw [Gf.digFrom_eq, dif_neg (by omega), if_pos (by omega)] at hst
        have lS := Gf.star_len key
        have e0 : Gf.ell (Gf.star key) 0 = Gf.star key := rfl
        rw [e0] at hst
        have RS : Box' (∀ {w3 : World}, Row w3 N 110 (elk key sb) → w3.rangeAt N 177 ((Gf.star key).map B)) := ⟨fun h => (RC.out h).2.1⟩
        generalize Gf.fup l' = FU at *
        have hP1 := fun w => refPlus_any o (Gf.star key) lo lS w
        generalize Gf.star key = SK at *
        have lo2 := Gf.bxor_len o SK
        generalize Gf.bxor o SK = o2 at *
        have hP2 := fun w => refPlus_any FU o2 lFU lo2 w
        have lp1 := Gf.bxor_len FU o2
        generalize Gf.bxor FU o2 = p1 at *
        have hE1 := EC.out p1 lp1
        have le1 := Gf.encrypt_len key p1
        generalize Gf.encrypt key p1 = e1 at *
        have hP3 := fun w => refPlus_any d e1 ld le1 w
        have ld2 := Gf.bxor_len d e1
        generalize Gf.bxor d e1 = d2 at *
        have HR2 := Box'.mk hst
        rw [hn] at hcl hi1 hlm
        rw [hn]
        clear hst HR e0
        have hst9 := RS.out hE.el
        go_wp2_with (first
          | (refine wpList_load_row rfl 23 (.tmp 5) rfl _ rfl _ _ hE.ro _ Tryd.underlying23 rfl 16 Tryd.info23 (by rw [ag_size]; exact lo) ?_)
          | (refine wpList_load_mid rfl 23 (.tmp 34) rfl _ _ rfl (SK.map B) _ hst9 Tryd.underlying23 rfl (by rw [Tryd.info23, List.length_map, lS]) ?_)
          | fail)
        refine (hP1 _).mono ?_
        rintro e w8 ⟨rfl, hb8⟩
        have hE8 := hE.below hb8
        have q8 := hq.below hb8 (hq.elim fun _ h => h.1.lt)
        have hE9 := hE8.setO o2
        have q9 := q8.setRowOther (N + 2) (ag o2) (by omega)
        have hro := hE8.ro.room (n := 16) (by rw [ag_size]; exact lo)
        clear hb8 hE8 q8 hst9 hE hq RS
        go_upto_region 10 with (first
          | (refine wpList_store_row rfl 23 (.tmp 5) (.tmp 36) rfl _ rfl _ rfl _ _ hro Tryd.info23 (by rw [ag_size]; exact lo2) (ag_one _) ?_)
          | fail)
        generalize w8.setRow (N + 2) (ag o2) = w9 at *
        refine wp_region_grow 9 (by kernel_rfl) (by kernel_rfl) (fun a b => Below a.heap.size a b) (fun w3 => En key sb N N (N + 2) (N + 3) w w3 o2 d ∧ Room w3 (N + 1) 23 16) (fun k w1 v => match k with
          | 0 => v = .agg (ag d)
          | 1 => v = .pointer (some ⟨N, 0, none⟩)
          | 2 => v = .agg CP
          | 3 => v = .slice (some ⟨b, oo, none⟩) n c
          | 4 => v = .agg (ag FU)
          | 5 => v = .agg (ag o2)
          | 6 => v = .agg (ag p1)
          | 7 => v = .agg (ag e1)
          | 8 => v = .agg (ag d2)
          | _ => True) ?_ ?_ ?_ ?_ ?_
        · rintro a b hb ⟨c1, c2⟩
          exact ⟨c1.below hb, c2.below hb (c2.elim fun _ h => h.1.lt)⟩
        · intro k v w1 w2 hC1 hb h
          match k, h with
          | 0, h => exact h
          | 1, h => exact h
          | 2, h => exact h
          | 3, h => exact h
          | 4, h => exact h
          | 5, h => exact h
          | 6, h => exact h
          | 7, h => exact h
          | 8, h => exact h
          | k + 9, h => trivial
        · exact ⟨hE9.drew, q9.drew⟩
        · refine ⟨?_, ?_, ?_, ?_, ?_, ?_, ?_, ?_, ?_, trivial⟩
          · intro f w1 hC hd KK hK
            simp only [List.take_succ_cons, List.take_zero, setAll, List.setIfInBounds_toArray, List.set_cons_succ, List.set_cons_zero, Nat.zero_add, Nat.reduceAdd] at hK ⊢
            refine wp_load_row 23 _ rfl _ rfl _ _ (hC.1.rd) _ Tryd.underlying23 rfl 16 Tryd.info23 (by rw [ag_size]; exact ld) ?_
            exact hK _ _ rfl (Below.refl _ _)
          · intro f w1 hC hd KK hK
            simp only [List.take_succ_cons, List.take_zero, setAll, List.setIfInBounds_toArray, List.set_cons_succ, List.set_cons_zero, Nat.zero_add, Nat.reduceAdd] at hK ⊢
            refine wp_of_quiet rfl ?_
            go_big_quiet_step (fail)
            exact wpQuiet_nil (hK _ _ rfl (Below.refl _ _))
          · intro f w1 hC hd KK hK
            have g1 : f 1 = _ := hd 1 rfl
            simp only [List.take_succ_cons, List.take_zero, setAll, List.setIfInBounds_toArray, List.set_cons_succ, List.set_cons_zero, Nat.zero_add, Nat.reduceAdd, g1] at hK ⊢
            refine _root_.Go.wp_load_mid 108 _ rfl _ _ rfl CP.toList _ (RC.out hC.1.el).1 Tryd.underlying108 rfl (by rw [Tryd.info108, Array.length_toList, lCP]) ?_
            rw [Array.toArray_toList]
            exact hK _ _ rfl (Below.refl _ _)
          · intro f w1 hC hd KK hK
            simp only [List.take_succ_cons, List.take_zero, setAll, List.setIfInBounds_toArray, List.set_cons_succ, List.set_cons_zero, Nat.zero_add, Nat.reduceAdd] at hK ⊢
            refine wp_of_quiet rfl ?_
            go_big_quiet_step (fail)
            exact wpQuiet_nil (hK _ _ rfl (Below.refl _ _))
          · intro f w1 hC hd KK hK
            have g3 : f 3 = _ := hd 3 rfl
            simp only [List.take_succ_cons, List.take_zero, setAll, List.setIfInBounds_toArray, List.set_cons_succ, List.set_cons_zero, Nat.zero_add, Nat.reduceAdd, g3] at hK ⊢
            exact wp_call 58 #[.slice (some ⟨b, oo, none⟩) n c] (by simp [go_sem]) _ _ (hPd _ hC.1.bl) (fun w' hb => hK _ _ rfl hb)
          · intro f w1 hC hd KK hK
            simp only [List.take_succ_cons, List.take_zero, setAll, List.setIfInBounds_toArray, List.set_cons_succ, List.set_cons_zero, Nat.zero_add, Nat.reduceAdd] at hK ⊢
            refine wp_load_row 23 _ rfl _ rfl _ _ (hC.1.ro) _ Tryd.underlying23 rfl 16 Tryd.info23 (by rw [ag_size]; exact lo2) ?_
            exact hK _ _ rfl (Below.refl _ _)
          · intro f w1 hC hd KK hK
            have g4 : f 4 = _ := hd 4 rfl
            have g5 : f 5 = _ := hd 5 rfl
            simp only [List.take_succ_cons, List.take_zero, setAll, List.setIfInBounds_toArray, List.set_cons_succ, List.set_cons_zero, Nat.zero_add, Nat.reduceAdd, g4, g5] at hK ⊢
            exact wp_call 55 #[.agg (ag FU), .agg (ag o2)] (by simp [go_sem]) _ _ (hP2 _) (fun w' hb => hK _ _ rfl hb)
          · intro f w1 hC hd KK hK
            have g2 : f 2 = _ := hd 2 rfl
            have g6 : f 6 = _ := hd 6 rfl
            simp only [List.take_succ_cons, List.take_zero, setAll, List.setIfInBounds_toArray, List.set_cons_succ, List.set_cons_zero, Nat.zero_add, Nat.reduceAdd, g2, g6] at hK ⊢
            exact wp_call 57 #[.agg CP, .agg (ag p1)] (by simp [go_sem]) _ _ (hE1 _ hC.1.tb) (fun w' hb => hK _ _ rfl hb)
          · intro f w1 hC hd KK hK
            have g0 : f 0 = _ := hd 0 rfl
            have g7 : f 7 = _ := hd 7 rfl
            simp only [List.take_succ_cons, List.take_zero, setAll, List.setIfInBounds_toArray, List.set_cons_succ, List.set_cons_zero, Nat.zero_add, Nat.reduceAdd, g0, g7] at hK ⊢
            exact wp_call 55 #[.agg (ag d), .agg (ag e1)] (by simp [go_sem]) _ _ (hP3 _) (fun w' hb => hK _ _ rfl hb)
        · intro f w1 hC hv
          have g0 : f 0 = _ := hv 0 (by decide)
          have g1 : f 1 = _ := hv 1 (by decide)
          have g2 : f 2 = _ := hv 2 (by decide)
          have g3 : f 3 = _ := hv 3 (by decide)
          have g4 : f 4 = _ := hv 4 (by decide)
          have g5 : f 5 = _ := hv 5 (by decide)
          have g6 : f 6 = _ := hv 6 (by decide)
          have g7 : f 7 = _ := hv 7 (by decide)
          have g8 : f 8 = _ := hv 8 (by decide)
          simp only [List.take_succ_cons, List.take_zero, List.drop_succ_cons, List.drop_zero, setAll, List.setIfInBounds_toArray, List.set_cons_succ, List.set_cons_zero, Nat.zero_add, Nat.reduceAdd, g0, g1, g2, g3, g4, g5, g6, g7, g8]
          clear g0 g1 g2 g3 g4 g5 g6 g7 g8 hv
          obtain ⟨c1, c2⟩ := hC
          have s10 := c1.setD d2
          have q10 := c2.setRowOther (N + 3) (ag d2) (by omega)
          go_wp2_with (first
            | (refine wpList_store_row rfl 23 (.tmp 6) (.tmp 45) rfl _ rfl _ rfl _ _ (c1.rd.room (by rw [ag_size]; exact ld)) Tryd.info23 (by rw [ag_size]; exact ld2) (ag_one _) ?_)
            | (refine wpList_load_row rfl 23 (.tmp 6) rfl _ rfl _ _ s10.rd _ Tryd.underlying23 rfl 16 Tryd.info23 (by rw [ag_size]; exact ld2) ?_)
            | (refine wpList_store_row rfl 23 (.tmp 4) (.tmp 46) rfl _ rfl _ rfl _ _ q10 Tryd.info23 (by rw [ag_size]; exact ld2) (ag_one _) ?_)
            | fail)
          exact bodyPost_ret (results_row rfl _ _ rfl _ _ (q10.setRow _) _ Tryd.underlying23 rfl 16 Tryd.info23 (by rw [ag_size]; exact ld2)) rfl ⟨by rw [HR2.out], below_setRow s10.bl (by omega) _⟩
      · have hst := HR.out
        rw [Gf.digFrom_eq, dif_neg (by omega), if_neg (by omega)] at hst
        have hn0 : n = 0 := by omega
        subst hn0
        rw [hn]
        have HR2 := Box'.mk hst
        clear hst h3 HR
        go_wp2_with (first
          | (refine wpList_load_row rfl 23 (.tmp 6) rfl _ rfl _ _ hE.rd _ Tryd.underlying23 rfl 16 Tryd.info23 (by rw [ag_size]; exact ld) ?_)
          | (refine wpList_store_row rfl 23 (.tmp 4) (.tmp 46) rfl _ rfl _ rfl _ _ hq Tryd.info23 (by rw [ag_size]; exact ld) (ag_one _) ?_)
          | fail)
        exact bodyPost_ret (results_row rfl _ _ rfl _ _ (hq.setRow _) _ Tryd.underlying23 rfl 16 Tryd.info23 (by rw [ag_size]; exact ld)) rfl ⟨by rw [HR2.out], below_setRow hE.bl (by omega) _⟩
end Go.Proofs.YthcokaffbgbanaaDoor
