/- The walk of Open. -/
import Derived.Test.YtmolhljgmaoflaaDoorOq
import Derived.Test.YtmolhljgmaoflaaDoorD
namespace Go.Proofs.YtmolhljgmaoflaaDoor
open Go.RowKit Go.BigFrame

def Gf.unturned (key n s : List UInt8) : List UInt8 × List UInt8 := Gf.turnFrom (Gf.decrypt key) key (Gf.star key) 1 (Gf.begin key n) (s.take (s.length - 16))
def Gf.openTag (key n b s : List UInt8) : List UInt8 := Gf.tag key (Gf.star key) (Gf.unturned key n s).2 (Gf.unturned key n s).1 b
theorem callFunc36 (args : Array Value) (w : World) : (callFunc 36 args).run Tryd.prog w = .ok (.enter 36 args) w := by simp [go_sem]
theorem Buf.bts {S : Nat → Prop} {w : World} {g cap : Nat} {d : List UInt8} (h : Buf w g cap d) (hS : S g) (hc : d.length ≤ cap) : Bts S w (.slice (some ⟨g, 0, none⟩) d.length cap) d :=
  ⟨_, _, rfl, hc, .inr ⟨g, 0, rfl, hS, h.range⟩⟩

set_option maxRecDepth 100000 in
set_option maxHeartbeats 2000000 in
theorem open_ok (key : List UInt8) (hkey : key.length = 16) (vn vb vs : Value) (ln lb ls : List UInt8) (hn1 : 0 < ln.length) (hn2 : ln.length ≤ 15) (hlb : lb.length ≤ 65536) (hls1 : 16 ≤ ls.length) (hls : ls.length ≤ 65552) (w : World) (ht : Tab w)
    (hn : Bts (· < w.heap.size) w vn ln) (hb : Bts (· < w.heap.size) w vb lb) (hp : Bts (· < w.heap.size) w vs ls) :
    Calls Tryd.prog 15 #[.agg (ag key), vn, vb, vs] w fun e w' => Below w.heap.size w w' ∧
      (Gf.openTag key ln lb ls = ls.drop (ls.length - 16) → ∃ g, e = .returned (.tuple #[.slice (some ⟨g, 0, none⟩) (ls.length - 16) (ls.length - 16 + 16), .int .i64 0]) ∧ Buf w' g (ls.length - 16 + 16) (Gf.unturned key ln ls).1 ∧ w.heap.size ≤ g) ∧
      (Gf.openTag key ln lb ls ≠ ls.drop (ls.length - 16) → e = .returned (.tuple #[.slice none 0 0, .int .i64 20])) := by
  obtain ⟨sz, hsz⟩ : ∃ sz, ls.length = sz + 16 := ⟨ls.length - 16, by omega⟩
  have hs16 : ls.length - 16 = sz := by omega
  have lts : (ls.take sz).length = sz := by rw [List.length_take]; omega
  have lds : (ls.drop sz).length = 16 := by rw [List.length_drop]; omega
  have hTU := fun (mb : Nat) (v : Value) => turn_any 36 callFunc36 (Gf.decrypt key) mb (Gf.star key) key (Gf.begin key ln) (fun b hb => ⟨Gf.decrypt_len key b, fun w => decrypt_any key b hkey hb w⟩) (Gf.encrypt_len _ _) hkey (Gf.begin_len _ _) v (ls.take sz) (by omega)
  have hTL := Gf.turnFrom_len (Gf.decrypt key) key (Gf.star key) 1 (Gf.begin key ln) (ls.take sz) (Gf.begin_len _ _)
  have hu : Gf.unturned key ln ls = Gf.turnFrom (Gf.decrypt key) key (Gf.star key) 1 (Gf.begin key ln) (ls.take sz) := by unfold Gf.unturned; rw [hs16]
  have ho : Gf.openTag key ln lb ls = Gf.tag key (Gf.star key) (Gf.turnFrom (Gf.decrypt key) key (Gf.star key) 1 (Gf.begin key ln) (ls.take sz)).2 (Gf.turnFrom (Gf.decrypt key) key (Gf.star key) 1 (Gf.begin key ln) (ls.take sz)).1 lb := by unfold Gf.openTag; rw [hu]
  rw [hu, ho, hs16]
  clear hu ho
  have hMK := masks_any key hkey
  have hst : Gf.encrypt key (Gf.zeros 16) = Gf.star key := rfl
  rw [hst] at hMK
  have ll0 : (Gf.star key).length = 16 := Gf.encrypt_len _ _
  have hBG := fun (S : Nat → Prop) => begin_any S key hkey vn ln hn1 hn2
  have lBG := Gf.begin_len key ln
  rw [lts] at hTL hTU
  generalize (Gf.turnFrom (Gf.decrypt key) key (Gf.star key) 1 (Gf.begin key ln) (ls.take sz)).1 = R1 at *
  generalize (Gf.turnFrom (Gf.decrypt key) key (Gf.star key) 1 (Gf.begin key ln) (ls.take sz)).2 = R2 at *
  generalize Gf.begin key ln = BG at *
  generalize Gf.star key = l0 at *
  have hTG := fun (mb : Nat) (vp : Value) => tag_any mb l0 key R2 ll0 hkey hTL.2 vp vb R1 lb (by omega) (by omega)
  have lTG := Gf.tag_len key l0 R2 R1 lb
  generalize Gf.tag key l0 R2 R1 lb = TG at *
  have HTU := Box'.mk hTU
  have HTG := Box'.mk hTG
  have HMK := Box'.mk hMK
  have HBG := Box'.mk hBG
  clear hst hTU hTG hMK hBG
  have hnc := hn
  have hbc := hb
  obtain ⟨an, cn, rfl, _, _⟩ := hnc
  obtain ⟨ab, cb, rfl, _, _⟩ := hbc
  obtain ⟨as0, cs, rfl, hcs, h3⟩ := hp
  rw [hsz] at hcs hls
  rw [hsz]
  rcases h3 with rfl | ⟨b0, o0, rfl, hS0, hr0⟩
  · simp at hsz
  have hr1 : w.rangeAt b0 o0 ((ls.take sz).map B) := fun j u hu => by
    refine hr0 j u ?_
    rw [List.map_take, List.getElem?_take] at hu
    split at hu
    · exact hu
    · cases hu
  have hr2 : w.rangeAt b0 (o0 + sz) ((ls.drop sz).map B) := fun j u hu => by
    rw [List.map_drop, List.getElem?_drop] at hu
    have := hr0 (sz + j) u hu
    rw [← Nat.add_assoc] at this; exact this
  have hp1 : Bts (· < w.heap.size) w (.slice (some ⟨b0, o0, none⟩) sz sz) (ls.take sz) := ⟨_, _, by rw [lts], by omega, .inr ⟨b0, o0, rfl, hS0, hr1⟩⟩
  have hp2 : Bts (· < w.heap.size) w (.slice (some ⟨b0, o0 + sz, none⟩) 16 16) (ls.drop sz) := ⟨_, _, by rw [lds], by omega, .inr ⟨b0, o0 + sz, rfl, hS0, hr2⟩⟩
  clear hr0 hr1 hr2
  have hfa := fun w => fault_any an ln.length cn ab lb.length cb (sz : Int) (by unfold maxLen; omega) (by unfold maxLen; omega) w
  have hf0 : Gf.fault ln.length lb.length (sz : Int) = 0 := by unfold Gf.fault; rw [if_neg (by omega), if_neg (by omega)]
  rw [hf0] at hfa
  clear hf0
  have HSZ := Box'.mk hsz
  clear hsz hs16
  have hcI : ((sz + 16 : Nat) : Int) - 16 = (sz : Int) := by omega
  go_enter Tryd.func15, Tryd.ntmps15
  go_wp2_with fail
  refine (hfa _).mono ?_
  rintro e w0 ⟨rfl, rfl⟩
  have k0 : Row (w.alloc (.cells (ag key) 23)) w.heap.size 23 (ag key) := Row.new _ _ _
  go_wp2_with (first
    | (refine wpList_load_row rfl 23 (.tmp 4) rfl _ rfl _ _ k0 _ Tryd.underlying23 rfl 16 Tryd.info23 (by rw [ag_size]; exact hkey) ?_)
    | fail)
  refine (HMK.out _).mono ?_
  rintro e wM ⟨mb, bb, rfl, hm, hmb, hbb, hbl⟩
  have hlt := ht.lt
  have hz : (w.alloc (.cells (ag key) 23)).heap.size = w.heap.size + 1 := by simp
  rw [hz] at hmb hbb hbl
  have hz1 : w.heap.size + 1 ≤ wM.heap.size := by have := hbl.size; rw [hz] at this; exact this
  have hbw : Below w.heap.size w wM := ((Below.refl _ _).alloc (Nat.le_refl _) _).trans (hbl.mono (by omega))
  have hfs : ∀ k, k ≤ w.heap.size → Sf mb l0 wM k := fun k hk => ⟨by omega, by omega, fun b2 m2 => by rw [← hm.one m2]; omega, bb, hm⟩
  have hE : SE mb l0 key w.heap.size wM wM := ⟨k0.below hbl (by omega), ht.below hbw hlt, hfs 1 (by omega), hfs _ (Nat.le_refl _), Gm.refl _ _ _⟩
  have hbk : ∀ {v : Value} {l : List UInt8}, Bts (· < w.heap.size) w v l → Bts (Old mb l0 w.heap.size wM) wM v l := fun h => h.keep fun b hb => ⟨⟨hfs b (by omega), hb⟩, hbw.block b hb⟩
  have hn' := hbk hn
  have hb' := hbk hb
  have hp1' := hbk hp1
  have hp2' := hbk hp2
  have hfin : ∀ w2, Gm mb l0 wM w2 → Below w.heap.size w w2 := fun w2 g => below_of_Gm hbw g hm (by omega) (by omega) (by omega)
  have HFN := Box'.mk hfin
  clear hn hb hp1 hp2 hbk k0 hbl HMK hfa ht hfs hfin
  generalize hN : w.heap.size = N at *
  go_wp2
  refine wp_region_grow 15 (by kernel_rfl) (by kernel_rfl) (Gm mb l0) (fun w2 => SE mb l0 key N wM w2 ∧ Bts (Old mb l0 N w2) w2 (.slice an ln.length cn) ln ∧ Bts (Old mb l0 N w2) w2 (.slice ab lb.length cb) lb ∧ Bts (Old mb l0 N w2) w2 (.slice (some ⟨b0, o0, none⟩) sz sz) (ls.take sz) ∧ Bts (Old mb l0 N w2) w2 (.slice (some ⟨b0, o0 + sz, none⟩) 16 16) (ls.drop sz)) (fun k w1 v => match k with
    | 0 => v = .agg (ag key)
    | 1 => v = mskFn mb
    | 2 => v = .agg (ag key)
    | 3 => v = .slice an ln.length cn
    | 4 => v = .agg (ag BG)
    | 5 => v = .slice (some ⟨b0, o0, none⟩) (sz + 16) cs
    | 6 => v = .int .i64 (sz : Int)
    | 7 => v = .int .i64 (sz : Int)
    | 8 => v = .slice (some ⟨b0, o0, none⟩) sz sz
    | 9 => ∃ g, v = .tuple #[.slice (some ⟨g, 0, none⟩) sz (sz + 16), .agg (ag R2)] ∧ Buf w1 g (sz + 16) R1 ∧ Sf mb l0 w1 g ∧ wM.heap.size ≤ g
    | 10 => ∃ g, v = .tuple #[.slice (some ⟨g, 0, none⟩) sz (sz + 16), .agg (ag R2)] ∧ Buf w1 g (sz + 16) R1 ∧ Sf mb l0 w1 g ∧ wM.heap.size ≤ g
    | 11 => ∃ g, v = .slice (some ⟨g, 0, none⟩) sz (sz + 16) ∧ Buf w1 g (sz + 16) R1 ∧ Sf mb l0 w1 g ∧ wM.heap.size ≤ g
    | 12 => v = .agg (ag R2)
    | 13 => ∃ p, v = .pointer (some ⟨p, 0, none⟩) ∧ N < p ∧ 1 < p ∧ wM.heap.size ≤ p ∧ Room w1 p 23 16 ∧ Sf mb l0 w1 p
    | 14 => ∃ g, v = .slice (some ⟨g, 0, none⟩) sz (sz + 16) ∧ Buf w1 g (sz + 16) R1 ∧ Sf mb l0 w1 g ∧ wM.heap.size ≤ g
    | _ => True) ?_ ?_ ?_ ?_ ?_
  · rintro w2 w3 hb ⟨c1, c2, c3, c4, c5⟩
    exact ⟨c1.go hb, c2.go hb, c3.go hb, c4.go hb, c5.go hb⟩
  · intro k v w1 w2 hC1 hb h
    match k, h with
    | 0, h => exact h
    | 1, h => exact h
    | 2, h => exact h
    | 3, h => exact h
    | 4, h => exact h
    | 5, h => exact h
    | 6, h => exact h
    | 7, h => exact h
    | 8, h => exact h
    | 9, ⟨g, e1, e2, e3, e4⟩ => exact ⟨g, e1, e2.same (e3.keep hb).2, e3.go hb, e4⟩
    | 10, ⟨g, e1, e2, e3, e4⟩ => exact ⟨g, e1, e2.same (e3.keep hb).2, e3.go hb, e4⟩
    | 11, ⟨g, e1, e2, e3, e4⟩ => exact ⟨g, e1, e2.same (e3.keep hb).2, e3.go hb, e4⟩
    | 12, h => exact h
    | 13, ⟨p, e1, e2, e3, e4, e5, e6⟩ => exact ⟨p, e1, e2, e3, e4, e6.room hb e5, e6.go hb⟩
    | 14, ⟨g, e1, e2, e3, e4⟩ => exact ⟨g, e1, e2.same (e3.keep hb).2, e3.go hb, e4⟩
    | k + 15, h => trivial
  · exact ⟨hE.go (Gm.refl _ _ _).drew, hn'.go (Gm.refl _ _ _).drew, hb'.go (Gm.refl _ _ _).drew, hp1'.go (Gm.refl _ _ _).drew, hp2'.go (Gm.refl _ _ _).drew⟩
  · refine ⟨?_, ?_, ?_, ?_, ?_, ?_, ?_, ?_, ?_, ?_, ?_, ?_, ?_, ?_, ?_, trivial⟩
    · intro f w1 hC hd KK hK
      simp only [List.take_succ_cons, List.take_zero, setAll, List.setIfInBounds_toArray, List.set_cons_succ, List.set_cons_zero, Nat.zero_add, Nat.reduceAdd] at hK ⊢
      refine wp_load_row 23 _ rfl _ rfl _ _ (hC.1.kk) _ Tryd.underlying23 rfl 16 Tryd.info23 (by rw [ag_size]; exact hkey) ?_
      exact hK _ _ rfl (Gm.refl _ _ _)
    · intro f w1 hC hd KK hK
      simp only [List.take_succ_cons, List.take_zero, setAll, List.setIfInBounds_toArray, List.set_cons_succ, List.set_cons_zero, Nat.zero_add, Nat.reduceAdd] at hK ⊢
      refine wp_of_quiet rfl ?_
      go_big_quiet_step (fail)
      exact wpQuiet_nil (hK _ _ rfl (Gm.refl _ _ _))
    · intro f w1 hC hd KK hK
      simp only [List.take_succ_cons, List.take_zero, setAll, List.setIfInBounds_toArray, List.set_cons_succ, List.set_cons_zero, Nat.zero_add, Nat.reduceAdd] at hK ⊢
      refine wp_load_row 23 _ rfl _ rfl _ _ (hC.1.kk) _ Tryd.underlying23 rfl 16 Tryd.info23 (by rw [ag_size]; exact hkey) ?_
      exact hK _ _ rfl (Gm.refl _ _ _)
    · intro f w1 hC hd KK hK
      simp only [List.take_succ_cons, List.take_zero, setAll, List.setIfInBounds_toArray, List.set_cons_succ, List.set_cons_zero, Nat.zero_add, Nat.reduceAdd] at hK ⊢
      refine wp_of_quiet rfl ?_
      go_big_quiet_step (fail)
      exact wpQuiet_nil (hK _ _ rfl (Gm.refl _ _ _))
    · intro f w1 hC hd KK hK
      have g2 : f 2 = _ := hd 2 rfl
      have g3 : f 3 = _ := hd 3 rfl
      simp only [List.take_succ_cons, List.take_zero, setAll, List.setIfInBounds_toArray, List.set_cons_succ, List.set_cons_zero, Nat.zero_add, Nat.reduceAdd, g2, g3] at hK ⊢
      exact wp_call 23 #[.agg (ag key), .slice an ln.length cn] (by simp [go_sem]) _ _ (HBG.out _ w1 hC.2.1) (fun w' hb => hK _ _ rfl (Gm.of hb))
    · intro f w1 hC hd KK hK
      simp only [List.take_succ_cons, List.take_zero, setAll, List.setIfInBounds_toArray, List.set_cons_succ, List.set_cons_zero, Nat.zero_add, Nat.reduceAdd] at hK ⊢
      refine wp_of_quiet rfl ?_
      go_big_quiet_step (fail)
      exact wpQuiet_nil (hK _ _ rfl (Gm.refl _ _ _))
    · intro f w1 hC hd KK hK
      simp only [List.take_succ_cons, List.take_zero, setAll, List.setIfInBounds_toArray, List.set_cons_succ, List.set_cons_zero, Nat.zero_add, Nat.reduceAdd] at hK ⊢
      refine wp_of_quiet rfl ?_
      go_big_quiet_step (fail)
      exact wpQuiet_nil (hK _ _ rfl (Gm.refl _ _ _))
    · intro f w1 hC hd KK hK
      simp only [List.take_succ_cons, List.take_zero, setAll, List.setIfInBounds_toArray, List.set_cons_succ, List.set_cons_zero, Nat.zero_add, Nat.reduceAdd] at hK ⊢
      refine wp_of_quiet rfl ?_
      go_big_quiet_step (fail)
      exact wpQuiet_nil (hK _ _ rfl (Gm.refl _ _ _))
    · intro f w1 hC hd KK hK
      have g5 : f 5 = _ := hd 5 rfl
      have g6 : f 6 = _ := hd 6 rfl
      have g7 : f 7 = _ := hd 7 rfl
      simp only [List.take_succ_cons, List.take_zero, setAll, List.setIfInBounds_toArray, List.set_cons_succ, List.set_cons_zero, Nat.zero_add, Nat.reduceAdd, g5, g6, g7] at hK ⊢
      refine wp_of_quiet rfl ?_
      go_big_quiet_step (fail)
      exact wpQuiet_nil (hK _ _ rfl (Gm.refl _ _ _))
    · intro f w1 hC hd KK hK
      have g0 : f 0 = _ := hd 0 rfl
      have g1 : f 1 = _ := hd 1 rfl
      have g4 : f 4 = _ := hd 4 rfl
      have g8 : f 8 = _ := hd 8 rfl
      simp only [List.take_succ_cons, List.take_zero, setAll, List.setIfInBounds_toArray, List.set_cons_succ, List.set_cons_zero, Nat.zero_add, Nat.reduceAdd, g0, g1, g4, g8] at hK ⊢
      refine wp_call_ex 21 #[.agg (ag key), .func (.func 36) #[] #[], mskFn mb, .agg (ag BG), .slice (some ⟨b0, o0, none⟩) sz sz] (by simp [go_sem]) (fun v w' => (∃ g, v = .tuple #[.slice (some ⟨g, 0, none⟩) sz (sz + 16), .agg (ag R2)] ∧ Buf w' g (sz + 16) R1 ∧ Sf mb l0 w' g ∧ wM.heap.size ≤ g) ∧ Gm mb l0 w1 w') ?_ (fun v w' h => hK _ _ h.1 h.2)
      refine (HTU.out mb _ w1 hC.1.tb hC.1.s1 (hC.2.2.2.1.re fun b h => h.1)).mono ?_
      rintro e w' ⟨g, rfl, q1, q2, q3, q4⟩
      exact ⟨_, rfl, ⟨g, rfl, q1, q2, by have := hC.1.g.size; omega⟩, q4⟩
    · intro f w1 hC hd KK hK
      have hdd : ∃ g, f 9 = .tuple #[.slice (some ⟨g, 0, none⟩) sz (sz + 16), .agg (ag R2)] ∧ Buf w1 g (sz + 16) R1 ∧ Sf mb l0 w1 g ∧ wM.heap.size ≤ g := hd 9 (by kernel_rfl)
      clear hd
      cases hdd with | intro g h2 =>
      have g9 := h2.1
      have hg1 := h2.2.1
      have hg2 := h2.2.2.1
      have hg3 := h2.2.2.2
      clear h2
      simp only [List.take_succ_cons, List.take_zero, setAll, List.setIfInBounds_toArray, List.set_cons_succ, List.set_cons_zero, Nat.zero_add, Nat.reduceAdd, g9] at hK ⊢
      refine wp_of_quiet rfl ?_
      go_big_quiet_step (fail)
      exact wpQuiet_nil (hK _ _ (⟨g, rfl, hg1, hg2, hg3⟩) (Gm.refl _ _ _))
    · intro f w1 hC hd KK hK
      have hdd : ∃ g, f 10 = .tuple #[.slice (some ⟨g, 0, none⟩) sz (sz + 16), .agg (ag R2)] ∧ Buf w1 g (sz + 16) R1 ∧ Sf mb l0 w1 g ∧ wM.heap.size ≤ g := hd 10 (by kernel_rfl)
      clear hd
      cases hdd with | intro g h2 =>
      have g10 := h2.1
      have hg1 := h2.2.1
      have hg2 := h2.2.2.1
      have hg3 := h2.2.2.2
      clear h2
      simp only [List.take_succ_cons, List.take_zero, setAll, List.setIfInBounds_toArray, List.set_cons_succ, List.set_cons_zero, Nat.zero_add, Nat.reduceAdd, g10] at hK ⊢
      refine wp_of_quiet rfl ?_
      go_big_quiet_step (fail)
      exact wpQuiet_nil (hK _ _ (⟨g, rfl, hg1, hg2, hg3⟩) (Gm.refl _ _ _))
    · intro f w1 hC hd KK hK
      have hdd : ∃ g, f 10 = .tuple #[.slice (some ⟨g, 0, none⟩) sz (sz + 16), .agg (ag R2)] ∧ Buf w1 g (sz + 16) R1 ∧ Sf mb l0 w1 g ∧ wM.heap.size ≤ g := hd 10 (by kernel_rfl)
      clear hd
      cases hdd with | intro g h2 =>
      have g10 := h2.1
      have hg1 := h2.2.1
      have hg2 := h2.2.2.1
      have hg3 := h2.2.2.2
      clear h2
      simp only [List.take_succ_cons, List.take_zero, setAll, List.setIfInBounds_toArray, List.set_cons_succ, List.set_cons_zero, Nat.zero_add, Nat.reduceAdd, g10] at hK ⊢
      refine wp_of_quiet rfl ?_
      go_big_quiet_step (fail)
      exact wpQuiet_nil (hK _ _ (rfl) (Gm.refl _ _ _))
    · intro f w1 hC hd KK hK
      simp only [List.take_succ_cons, List.take_zero, setAll, List.setIfInBounds_toArray, List.set_cons_succ, List.set_cons_zero, Nat.zero_add, Nat.reduceAdd] at hK ⊢
      have hp := hC.1.f0.lt
      have hp1 := hC.1.tb.lt
      have hp2 := hC.1.g.size
      obtain ⟨bb, hm⟩ := hC.1.s1.is
      refine wp_alloc_row 23 rfl _ _ Tryd.zero23 ?_
      exact hK _ _ ⟨_, rfl, hp, hp1, hp2, Room.new _ _ _ _ (by rw [ag_size]; rfl), Sf.new hm _⟩ (Gm.of ((Below.refl _ _).alloc (Nat.le_refl _) _))
    · intro f w1 hC hd KK hK
      have hdd : ∃ g, f 11 = .slice (some ⟨g, 0, none⟩) sz (sz + 16) ∧ Buf w1 g (sz + 16) R1 ∧ Sf mb l0 w1 g ∧ wM.heap.size ≤ g := hd 11 (by kernel_rfl)
      clear hd
      cases hdd with | intro g h2 =>
      have g11 := h2.1
      have hg1 := h2.2.1
      have hg2 := h2.2.2.1
      have hg3 := h2.2.2.2
      clear h2
      simp only [List.take_succ_cons, List.take_zero, setAll, List.setIfInBounds_toArray, List.set_cons_succ, List.set_cons_zero, Nat.zero_add, Nat.reduceAdd, g11] at hK ⊢
      refine wp_of_quiet rfl ?_
      go_big_quiet_step (fail)
      exact wpQuiet_nil (hK _ _ (⟨g, rfl, hg1, hg2, hg3⟩) (Gm.refl _ _ _))
  · intro f w1 hC hv
    have g0 : f 0 = _ := hv 0 (by decide)
    have g1 : f 1 = _ := hv 1 (by decide)
    have g2 : f 2 = _ := hv 2 (by decide)
    have g3 : f 3 = _ := hv 3 (by decide)
    have g4 : f 4 = _ := hv 4 (by decide)
    have g5 : f 5 = _ := hv 5 (by decide)
    have g6 : f 6 = _ := hv 6 (by decide)
    have g7 : f 7 = _ := hv 7 (by decide)
    have g8 : f 8 = _ := hv 8 (by decide)
    obtain ⟨ga, g9, ha1, ha2, ha3⟩ := hv 9 (by decide)
    obtain ⟨gb, g10, hb1, hb2, hb3⟩ := hv 10 (by decide)
    obtain ⟨gc, g11, hc1, hc2, hc3⟩ := hv 11 (by decide)
    have g12 : f 12 = _ := hv 12 (by decide)
    obtain ⟨p, g13, hp1, hp2, hp3, hp4, hp5⟩ := hv 13 (by decide)
    obtain ⟨g, g14, hg1, hg2, hg3⟩ := hv 14 (by decide)
    simp only [List.take_succ_cons, List.take_zero, List.drop_succ_cons, List.drop_zero, setAll, List.setIfInBounds_toArray, List.set_cons_succ, List.set_cons_zero, Nat.zero_add, Nat.reduceAdd, g0, g1, g2, g3, g4, g5, g6, g7, g8, g9, g10, g11, g12, g13, g14]
    clear g0 g1 g2 g3 g4 g5 g6 g7 g8 g9 g10 g11 g12 g13 g14 hv
    obtain ⟨c1, c2, c3, c4, c5⟩ := hC
    clear ha1 ha2 ha3 hb1 hb2 hb3 hc1 hc2 hc3 hn' hb' hp1' hp2' hE
    have hgp : g ≠ p := by
      rintro rfl
      obtain ⟨cc, r1, r2⟩ := hp4
      rcases hg1.2 with ⟨e, _⟩ | ⟨g1, cc1, cur, e1, _, e3, _⟩
      · cases e
      · injection e1 with q1; injection q1 with q1; injection q1 with q1
        subst q1
        unfold Row at r1
        rw [r1] at e3
        injection e3 with e
        injection e with _ e5
        exact absurd e5 (by decide)
    have z1 := c1.set p hp5 hp1 hp2 hp3 (ag R2)
    have z3 := c3.set p hp5 (by omega) (ag R2)
    have z4 := c5.set p hp5 (by omega) (ag R2)
    have z5 := hp4.setRow (ag R2)
    have z6 := hg1.same (w' := w1.setRow p (ag R2)) (setRow_other _ _ _ _ hgp)
    have z7 := hp5.set hg2 (ag R2)
    have hk1 := z1.kk
    have zP : Bts (Sf mb l0 (w1.setRow p (ag R2))) (w1.setRow p (ag R2)) (.slice (some ⟨g, 0, none⟩) sz (sz + 16)) R1 := by
      have := z6.bts z7 (by omega)
      rw [hTL.1] at this
      exact this
    go_wp2_with (first
      | (refine wpList_store_row rfl 23 (.tmp 14) (.tmp 42) rfl _ rfl _ rfl _ _ hp4 Tryd.info23 (by rw [ag_size]; exact hTL.2) (ag_one _) ?_)
      | (refine wpList_load_row rfl 23 (.tmp 4) rfl _ rfl _ _ hk1 _ Tryd.underlying23 rfl 16 Tryd.info23 (by rw [ag_size]; exact hkey) ?_)
      | (refine wpList_load_row rfl 23 (.tmp 14) rfl _ rfl _ _ z5 _ Tryd.underlying23 rfl 16 Tryd.info23 (by rw [ag_size]; exact hTL.2) ?_)
      | fail)
    refine (HTG.out mb _ _ z1.tb z1.s1 zP (z3.re fun b h => h.1)).mono ?_
    rintro e w5 ⟨rfl, hb5⟩
    have y1 := z7.go hb5
    have y2 := z6.same (w' := w5) (z7.keep hb5).2
    have y3 := z1.g.trans hb5
    have ya := z4.go hb5
    obtain ⟨bq, hmq⟩ := y1.is
    clear z1 z3 z4 z5 z6 z7 hb5 hg1 hg2 hp4 hp5 c1 c2 c3 c4 c5 hk1 zP
    have y4 : Gm mb l0 w5 (w5.alloc (.cells (ag TG) 23)) := Gm.of ((Below.refl _ _).alloc (Nat.le_refl _) _)
    have y5 := y1.go y4
    have y6 := y2.same (w' := w5.alloc (.cells (ag TG) 23)) (y1.keep y4).2
    have y7 := y3.trans y4
    have y8 : Row (w5.alloc (.cells (ag TG) 23)) w5.heap.size 23 (ag TG) := Row.new _ _ _
    have y9 := ya.go y4
    have y10 : Sf mb l0 (w5.alloc (.cells (ag TG) 23)) w5.heap.size := Sf.new hmq _
    clear y1 y2 y3 y4 ya hmq
    go_wp2_with (first
      | (refine wpList_alloc_row rfl 23 rfl _ _ Tryd.zero23 ?_)
      | (refine wpList_store_row rfl 23 (.tmp 15) (.tmp 48) rfl _ rfl _ rfl _ _ (Room.new _ _ _ _ (by rw [ag_size]; rfl)) Tryd.info23 (by rw [ag_size]; exact lTG) (ag_one _) ?_; rw [World.setRow_alloc_new])
      | fail)
    generalize World.alloc _ _ = W6 at *
    generalize w5.heap.size = q at *
    refine wp_region_grow 10 (by kernel_rfl) (by kernel_rfl) (Gm mb l0) (fun w2 => Bts (Old mb l0 N w2) w2 (.slice (some ⟨b0, o0 + sz, none⟩) 16 16) (ls.drop sz) ∧ Row w2 q 23 (ag TG) ∧ Sf mb l0 w2 q ∧ Buf w2 g (sz + 16) R1 ∧ Sf mb l0 w2 g ∧ Gm mb l0 wM w2) (fun k w1 v => match k with
      | 0 => v = .slice (some ⟨q, 0, none⟩) 16 16
      | 1 => v = .slice (some ⟨b0, o0, none⟩) (sz + 16) cs
      | 2 => v = .int .i64 (sz : Int)
      | 3 => v = .slice (some ⟨b0, o0, none⟩) (sz + 16) cs
      | 4 => v = .int .i64 ((sz + 16 : Nat) : Int)
      | 5 => v = .slice (some ⟨b0, o0, none⟩) (sz + 16) cs
      | 6 => v = .int .i64 ((sz + 16 : Nat) : Int)
      | 7 => v = .slice (some ⟨b0, o0 + sz, none⟩) 16 16
      | 8 => v = .bool (decide (TG = ls.drop sz))
      | 9 => v = .bool (!decide (TG = ls.drop sz))
      | _ => True) ?_ ?_ ?_ ?_ ?_
    · rintro w2 w3 hb ⟨c1, c2, c3, c4, c5, c6⟩
      exact ⟨c1.go hb, c3.row hb c2, c3.go hb, c4.same (c5.keep hb).2, c5.go hb, c6.trans hb⟩
    · intro k v w1 w2 hC1 hb h
      match k, h with
      | 0, h => exact h
      | 1, h => exact h
      | 2, h => exact h
      | 3, h => exact h
      | 4, h => exact h
      | 5, h => exact h
      | 6, h => exact h
      | 7, h => exact h
      | 8, h => exact h
      | 9, h => exact h
      | k + 10, h => trivial
    · exact ⟨y9.go (Gm.refl _ _ _).drew, y8.drew, y10.go (Gm.refl _ _ _).drew, y6.same rfl, y5.go (Gm.refl _ _ _).drew, y7.drew⟩
    · refine ⟨?_, ?_, ?_, ?_, ?_, ?_, ?_, ?_, ?_, ?_, trivial⟩
      · intro f w1 hC hd KK hK
        simp only [List.take_succ_cons, List.take_zero, setAll, List.setIfInBounds_toArray, List.set_cons_succ, List.set_cons_zero, Nat.zero_add, Nat.reduceAdd] at hK ⊢
        refine wp_of_quiet rfl ?_
        go_big_quiet_step (fail)
        exact wpQuiet_nil (hK _ _ rfl (Gm.refl _ _ _))
      · intro f w1 hC hd KK hK
        simp only [List.take_succ_cons, List.take_zero, setAll, List.setIfInBounds_toArray, List.set_cons_succ, List.set_cons_zero, Nat.zero_add, Nat.reduceAdd] at hK ⊢
        refine wp_of_quiet rfl ?_
        go_big_quiet_step (fail)
        exact wpQuiet_nil (hK _ _ rfl (Gm.refl _ _ _))
      · intro f w1 hC hd KK hK
        simp only [List.take_succ_cons, List.take_zero, setAll, List.setIfInBounds_toArray, List.set_cons_succ, List.set_cons_zero, Nat.zero_add, Nat.reduceAdd] at hK ⊢
        refine wp_of_quiet rfl ?_
        go_big_quiet_step (fail)
        exact wpQuiet_nil (hK _ _ rfl (Gm.refl _ _ _))
      · intro f w1 hC hd KK hK
        simp only [List.take_succ_cons, List.take_zero, setAll, List.setIfInBounds_toArray, List.set_cons_succ, List.set_cons_zero, Nat.zero_add, Nat.reduceAdd] at hK ⊢
        refine wp_of_quiet rfl ?_
        go_big_quiet_step (fail)
        exact wpQuiet_nil (hK _ _ rfl (Gm.refl _ _ _))
      · intro f w1 hC hd KK hK
        have g3 : f 3 = _ := hd 3 rfl
        simp only [List.take_succ_cons, List.take_zero, setAll, List.setIfInBounds_toArray, List.set_cons_succ, List.set_cons_zero, Nat.zero_add, Nat.reduceAdd, g3] at hK ⊢
        refine wp_of_quiet rfl ?_
        go_big_quiet_step (fail)
        exact wpQuiet_nil (hK _ _ rfl (Gm.refl _ _ _))
      · intro f w1 hC hd KK hK
        simp only [List.take_succ_cons, List.take_zero, setAll, List.setIfInBounds_toArray, List.set_cons_succ, List.set_cons_zero, Nat.zero_add, Nat.reduceAdd] at hK ⊢
        refine wp_of_quiet rfl ?_
        go_big_quiet_step (fail)
        exact wpQuiet_nil (hK _ _ rfl (Gm.refl _ _ _))
      · intro f w1 hC hd KK hK
        have g5 : f 5 = _ := hd 5 rfl
        simp only [List.take_succ_cons, List.take_zero, setAll, List.setIfInBounds_toArray, List.set_cons_succ, List.set_cons_zero, Nat.zero_add, Nat.reduceAdd, g5] at hK ⊢
        refine wp_of_quiet rfl ?_
        go_big_quiet_step (fail)
        exact wpQuiet_nil (hK _ _ rfl (Gm.refl _ _ _))
      · intro f w1 hC hd KK hK
        have g1 : f 1 = _ := hd 1 rfl
        have g2 : f 2 = _ := hd 2 rfl
        have g4 : f 4 = _ := hd 4 rfl
        have g6 : f 6 = _ := hd 6 rfl
        simp only [List.take_succ_cons, List.take_zero, setAll, List.setIfInBounds_toArray, List.set_cons_succ, List.set_cons_zero, Nat.zero_add, Nat.reduceAdd, g1, g2, g4, g6] at hK ⊢
        refine wp_of_quiet rfl ?_
        go_big_quiet_step (fail)
        exact wpQuiet_nil (hK _ _ (by rw [Nat.add_sub_cancel_left]) (Gm.refl _ _ _))
      · intro f w1 hC hd KK hK
        have g0 : f 0 = _ := hd 0 rfl
        have g7 : f 7 = _ := hd 7 rfl
        simp only [List.take_succ_cons, List.take_zero, setAll, List.setIfInBounds_toArray, List.set_cons_succ, List.set_cons_zero, Nat.zero_add, Nat.reduceAdd, g0, g7] at hK ⊢
        exact wp_call 13 #[.slice (some ⟨q, 0, none⟩) 16 16, .slice (some ⟨b0, o0 + sz, none⟩) 16 16] (by simp [go_sem]) _ _ (same_any (Sf mb l0 w1) _ _ _ TG (ls.drop sz) w1 (show Bts (Sf mb l0 w1) w1 (.slice (some ⟨q, 0, none⟩) 16 16) TG from ⟨_, _, by rw [lTG], by omega, .inr ⟨q, 0, rfl, hC.2.2.1, fun j u hu => by rw [Nat.zero_add, hC.2.1.cell]; simpa [ag] using hu⟩⟩) hC.1 (by unfold maxLen; omega) (by unfold maxLen; omega)) (fun w' hb => hK _ _ rfl (Gm.of hb))
      · intro f w1 hC hd KK hK
        have g8 : f 8 = _ := hd 8 rfl
        simp only [List.take_succ_cons, List.take_zero, setAll, List.setIfInBounds_toArray, List.set_cons_succ, List.set_cons_zero, Nat.zero_add, Nat.reduceAdd, g8] at hK ⊢
        refine wp_of_quiet rfl ?_
        go_big_quiet_step (fail)
        exact wpQuiet_nil (hK _ _ rfl (Gm.refl _ _ _))
    · intro f w1 hC hv
      have g0 : f 0 = _ := hv 0 (by decide)
      have g1 : f 1 = _ := hv 1 (by decide)
      have g2 : f 2 = _ := hv 2 (by decide)
      have g3 : f 3 = _ := hv 3 (by decide)
      have g4 : f 4 = _ := hv 4 (by decide)
      have g5 : f 5 = _ := hv 5 (by decide)
      have g6 : f 6 = _ := hv 6 (by decide)
      have g7 : f 7 = _ := hv 7 (by decide)
      have g8 : f 8 = _ := hv 8 (by decide)
      have g9 : f 9 = _ := hv 9 (by decide)
      simp only [List.take_succ_cons, List.take_zero, List.drop_succ_cons, List.drop_zero, setAll, List.setIfInBounds_toArray, List.set_cons_succ, List.set_cons_zero, Nat.zero_add, Nat.reduceAdd, g0, g1, g2, g3, g4, g5, g6, g7, g8, g9]
      clear g0 g1 g2 g3 g4 g5 g6 g7 g8 g9 hv
      obtain ⟨c1, c2, c3, c4, c5, c6⟩ := hC
      have hbf := HFN.out w1 c6
      clear y5 y6 y7 y8 y9 y10 c1 c2 c3 c5 c6
      by_cases hd : TG = ls.drop sz
      · have hdd : decide (TG = ls.drop sz) = true := decide_eq_true hd
        rw [hdd]
        clear hdd
        go_wp2
        go_ret2
        refine ⟨by first | exact hbf | (rw [hN]; exact hbf), fun _ => ⟨g, rfl, c4, by omega⟩, fun h => absurd hd h⟩
      · have hdd : decide (TG = ls.drop sz) = false := decide_eq_false hd
        rw [hdd]
        clear hdd
        go_wp2
        go_ret2
        refine ⟨by first | exact hbf | (rw [hN]; exact hbf), fun h => absurd h hd, fun _ => rfl⟩
end Go.Proofs.YtmolhljgmaoflaaDoor

/- What Seal and Open refuse; the document's way to compare bytes; and that opening turns sealing back. -/
namespace Go.Proofs.YtmolhljgmaoflaaDoor
open Go.RowKit Go.BigFrame

set_option maxRecDepth 100000 in
set_option maxHeartbeats 1000000 in
theorem seal_bad (key : List UInt8) (an : Option Addr) (n cn : Nat) (ab : Option Addr) (b cb : Nat) (ap : Option Addr) (p cp : Nat) (hn : n ≤ maxLen) (hb : b ≤ maxLen) (w : World) (hf : Gf.fault n b (p : Int) ≠ 0) :
    Calls Tryd.prog 8 #[.agg (ag key), .slice an n cn, .slice ab b cb, .slice ap p cp] w fun e w' => e = .returned (.tuple #[.slice none 0 0, .int .i64 (Gf.fault n b (p : Int))]) ∧ Below w.heap.size w w' := by
  have hfa := fun w => fault_any an n cn ab b cb (p : Int) hn hb w
  generalize Gf.fault n b (p : Int) = c at *
  unfold maxLen at hn hb
  have hc : (c == 0) = false := by rw [beq_eq_false_iff_ne]; exact hf
  go_enter Tryd.func8, Tryd.ntmps8
  go_wp2_with fail
  refine (hfa _).mono ?_
  rintro e w0 ⟨rfl, rfl⟩
  go_wp2
  go_ret2
  exact ⟨rfl, (Below.refl _ _).alloc (Nat.le_refl _) _⟩

set_option maxRecDepth 100000 in
set_option maxHeartbeats 1000000 in
theorem open_bad (key : List UInt8) (an : Option Addr) (n cn : Nat) (ab : Option Addr) (b cb : Nat) (ap : Option Addr) (p cp : Nat) (hn : n ≤ maxLen) (hb : b ≤ maxLen) (hp : p ≤ maxLen) (w : World) (hf : Gf.fault n b ((p : Int) - 16) ≠ 0) :
    Calls Tryd.prog 15 #[.agg (ag key), .slice an n cn, .slice ab b cb, .slice ap p cp] w fun e w' => e = .returned (.tuple #[.slice none 0 0, .int .i64 (Gf.fault n b ((p : Int) - 16))]) ∧ Below w.heap.size w w' := by
  have hfa := fun w => fault_any an n cn ab b cb ((p : Int) - 16) hn hb w
  generalize Gf.fault n b ((p : Int) - 16) = c at *
  unfold maxLen at hn hb hp
  have hc : (c == 0) = false := by rw [beq_eq_false_iff_ne]; exact hf
  go_enter Tryd.func15, Tryd.ntmps15
  go_wp2_with fail
  refine (hfa _).mono ?_
  rintro e w0 ⟨rfl, rfl⟩
  go_wp2
  go_ret2
  exact ⟨rfl, (Below.refl _ _).alloc (Nat.le_refl _) _⟩

set_option maxRecDepth 100000 in
set_option maxHeartbeats 1000000 in
theorem open_short (key : List UInt8) (an : Option Addr) (n cn : Nat) (ab : Option Addr) (b cb : Nat) (ap : Option Addr) (p cp : Nat) (hn : n ≤ maxLen) (hb : b ≤ maxLen) (hp : p < 16) (w : World) (hf : Gf.fault n b ((p : Int) - 16) = 0) :
    Calls Tryd.prog 15 #[.agg (ag key), .slice an n cn, .slice ab b cb, .slice ap p cp] w fun e w' => e = .returned (.tuple #[.slice none 0 0, .int .i64 7]) ∧ Below w.heap.size w w' := by
  have hfa := fun w => fault_any an n cn ab b cb ((p : Int) - 16) hn hb w
  rw [hf] at hfa
  clear hf
  have hs : (p : Int) - 16 < 0 := by omega
  go_enter Tryd.func15, Tryd.ntmps15
  go_wp2_with fail
  refine (hfa _).mono ?_
  rintro e w0 ⟨rfl, rfl⟩
  go_wp2
  go_ret2
  exact ⟨rfl, (Below.refl _ _).alloc (Nat.le_refl _) _⟩

/-! Opening turns sealing back. -/
theorem Gf.bxor_cancel (a o : List UInt8) (ha : a.length = 16) (ho : o.length = 16) : Gf.bxor (Gf.bxor a o) o = a := Gf.bxor_bxor a o ha ho
theorem Gf.padded_back (l pad : List UInt8) : Gf.padded (Gf.padded l pad l.length) pad l.length = l := by
  have hl : (Gf.padded l pad l.length).length = l.length := by simp [Gf.padded]
  apply List.ext_getElem (by simp [Gf.padded])
  intro i h1 h2
  have h3 : (Gf.padded l pad l.length).getD i 0 = Gf.bx (l.getD i 0) (pad.getD i 0) := by simp [Gf.padded, h2]
  have h4 : (Gf.padded (Gf.padded l pad l.length) pad l.length)[i] = Gf.bx ((Gf.padded l pad l.length).getD i 0) (pad.getD i 0) := by simp [Gf.padded]
  rw [h4, h3, Gf.bx_assoc, Gf.bx_self, Gf.bx_zero]
  simp [h2]
theorem Gf.turn_back (F H : List UInt8 → List UInt8) (key l0 : List UInt8) (hF : ∀ b, (F b).length = 16) (hH : ∀ b, b.length = 16 → H (F b) = b) (i : Nat) (o l : List UInt8) (ho : o.length = 16) :
    Gf.turnFrom H key l0 i o (Gf.turnFrom F key l0 i o l).1 = (l, (Gf.turnFrom F key l0 i o l).2) := by
  induction i, o, l using Gf.turnFrom_ind (l0 := l0) with
  | case1 i o l h16 ih =>
    have lT : (l.take 16).length = 16 := by rw [List.length_take]; omega
    have lO := Gf.bxor_len o (Gf.ell l0 (2 + Gf.ntz i))
    have ih' := ih lO
    have hlen := (Gf.turnFrom_len F key l0 (i + 1) (Gf.bxor o (Gf.ell l0 (2 + Gf.ntz i))) (l.drop 16) lO).1
    rw [Gf.turnFrom_eq F key l0 i o l, dif_pos h16]
    generalize hX : Gf.turnFrom F key l0 (i + 1) (Gf.bxor o (Gf.ell l0 (2 + Gf.ntz i))) (l.drop 16) = X at *
    generalize hO : Gf.bxor o (Gf.ell l0 (2 + Gf.ntz i)) = O at *
    have lY : (Gf.bxor (F (Gf.bxor (l.take 16) O)) O).length = 16 := Gf.bxor_len _ _
    rw [Gf.turnFrom_eq]
    have hL : 16 ≤ (Gf.bxor (F (Gf.bxor (l.take 16) O)) O ++ X.1).length := by rw [List.length_append, lY]; omega
    simp only
    rw [dif_pos hL, hO]
    have e1 : (Gf.bxor (F (Gf.bxor (l.take 16) O)) O ++ X.1).take 16 = Gf.bxor (F (Gf.bxor (l.take 16) O)) O := List.take_left' lY
    have e2 : (Gf.bxor (F (Gf.bxor (l.take 16) O)) O ++ X.1).drop 16 = X.1 := List.drop_left' lY
    rw [e1, e2, ih', Gf.bxor_cancel _ _ (hF _) lO, hH _ (Gf.bxor_len _ _), Gf.bxor_cancel _ _ lT lO, List.take_append_drop]
  | case2 i o l h16 hp =>
    rw [Gf.turnFrom_eq F key l0 i o l, dif_neg h16, if_pos hp]
    have hl : (Gf.padded l (Gf.encrypt key (Gf.bxor o (Gf.ell l0 0))) l.length).length = l.length := by simp [Gf.padded]
    simp only
    rw [Gf.turnFrom_eq, dif_neg (by rw [hl]; exact h16), if_pos (by rw [hl]; exact hp), hl, Gf.padded_back]
  | case3 i o l h16 hp =>
    rw [Gf.turnFrom_eq F key l0 i o l, dif_neg h16, if_neg hp]
    have hl : l = [] := List.eq_nil_of_length_eq_zero (by omega)
    rw [Gf.turnFrom_eq, dif_neg (by simp), if_neg (by simp), hl]
/-- What was sealed is opened as what it was. -/
theorem Gf.open_sealed (key n b p : List UInt8) : (Gf.unturned key n (Gf.sealed key n b p)).1 = p ∧ Gf.openTag key n b (Gf.sealed key n b p) = (Gf.sealed key n b p).drop p.length := by
  have hlen := Gf.sealed_len key n b p
  have h1 := (Gf.turnFrom_len (Gf.encrypt key) key (Gf.star key) 1 (Gf.begin key n) p (Gf.begin_len _ _)).1
  have hu : Gf.unturned key n (Gf.sealed key n b p) = (p, (Gf.turnFrom (Gf.encrypt key) key (Gf.star key) 1 (Gf.begin key n) p).2) := by
    unfold Gf.unturned
    rw [hlen, Nat.add_sub_cancel]
    have : (Gf.sealed key n b p).take p.length = (Gf.turnFrom (Gf.encrypt key) key (Gf.star key) 1 (Gf.begin key n) p).1 := by unfold Gf.sealed; rw [← h1, List.take_left]
    rw [this]
    exact Gf.turn_back _ _ key _ (fun b => Gf.encrypt_len key b) (fun b hb => Gf.decrypt_encrypt key b hb) 1 _ p (Gf.begin_len _ _)
  refine ⟨by rw [hu], ?_⟩
  unfold Gf.openTag
  rw [hu]
  have : (Gf.sealed key n b p).drop p.length = Gf.tag key (Gf.star key) (Gf.turnFrom (Gf.encrypt key) key (Gf.star key) 1 (Gf.begin key n) p).2 p b := by unfold Gf.sealed; rw [← h1, List.drop_left]
  rw [this]
/-- What opens is sealed as the very bytes. -/
theorem Gf.seal_opened (key n b s : List UInt8) (ht : Gf.openTag key n b s = s.drop (s.length - 16)) : Gf.sealed key n b (Gf.unturned key n s).1 = s := by
  have hb := Gf.turn_back (Gf.decrypt key) (Gf.encrypt key) key (Gf.star key) (fun b => Gf.decrypt_len key b) (fun b hb => Gf.encrypt_decrypt key b hb) 1 (Gf.begin key n) (s.take (s.length - 16)) (Gf.begin_len _ _)
  unfold Gf.sealed
  have hu : Gf.unturned key n s = Gf.turnFrom (Gf.decrypt key) key (Gf.star key) 1 (Gf.begin key n) (s.take (s.length - 16)) := rfl
  rw [hu, hb]
  unfold Gf.openTag at ht
  rw [hu] at ht
  simp only
  rw [ht, List.take_append_drop]
end Go.Proofs.YtmolhljgmaoflaaDoor
