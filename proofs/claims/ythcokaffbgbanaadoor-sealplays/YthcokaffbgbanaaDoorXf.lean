/- The walk of Open. -/
import Derived.Test.YthcokaffbgbanaaDoorXe
import Derived.Laws.IdiomStrings
import Derived.Laws.BytesArg
import Derived.Test.YthcokaffbgbanaaDoorRows
import Derived.ProofKit
import Derived.LaidMore
import Derived.OpenShut
import Derived.Stop.Joined
import Derived.Lib.LaidTab
import Derived.ChangeSlices
import Derived.ChangeArms
import Derived.ChangeOld
import Derived.Stop.LaidErr
import Derived.Test.YthcokaffbgbanaaDoorXa
import Derived.Test.YthcokaffbgbanaaDoorXb
import Derived.Test.YthcokaffbgbanaaDoorXc
namespace Go.Proofs.YthcokaffbgbanaaDoor
open Go.RowKit Go.BigFrame

def Gf.unturned (key n s : List UInt8) : List UInt8 × List UInt8 := Gf.turnFrom (Gf.decrypt key) key (Gf.star key) 1 (Gf.begin key n) (s.take (s.length - 16))
def Gf.openTag (key n b s : List UInt8) : List UInt8 := Gf.tag key (Gf.star key) (Gf.unturned key n s).2 (Gf.unturned key n s).1 b
set_option maxRecDepth 100000 in
theorem callFunc36 (args : Array Value) (w : World) : (callFunc 60 args).run Tryd.prog w = .ok (.enter 60 args) w := by simp [go_sem]
set_option maxRecDepth 100000 in
theorem Buf.bts {S : Nat → Prop} {w : World} {g cap : Nat} {d : List UInt8} (h : Buf w g cap d) (hS : S g) (hc : d.length ≤ cap) : Bts S w (.slice (some ⟨g, 0, none⟩) d.length cap) d :=
  ⟨_, _, rfl, hc, .inr ⟨g, 0, rfl, hS, h.range⟩⟩

set_option maxRecDepth 100000 in
set_option maxHeartbeats 2000000 in
theorem open_ok (key : List UInt8) (hkey : key.length = 16) (vn vb vs : Value) (ln lb ls : List UInt8) (hn1 : 0 < ln.length) (hn2 : ln.length ≤ 15) (hlb : lb.length ≤ 65536) (hls1 : 16 ≤ ls.length) (hls : ls.length ≤ 65552) (w : World) (ht : Tab w)
    (hn : Bts (· < w.heap.size) w vn ln) (hb : Bts (· < w.heap.size) w vb lb) (hp : Bts (· < w.heap.size) w vs ls) :
    Calls Tryd.prog 40 #[.agg (ag key), vn, vb, vs] w fun e w' => Below w.heap.size w w' ∧
      (Gf.openTag key ln lb ls = ls.drop (ls.length - 16) → ∃ g, e = .returned (.tuple #[.slice (some ⟨g, 0, none⟩) (ls.length - 16) (ls.length - 16 + 16), .int .i64 0]) ∧ Buf w' g (ls.length - 16 + 16) (Gf.unturned key ln ls).1 ∧ w.heap.size ≤ g) ∧
      (Gf.openTag key ln lb ls ≠ ls.drop (ls.length - 16) → e = .returned (.tuple #[.slice none 0 0, .int .i64 20])) := by
  obtain ⟨sz, hsz⟩ : ∃ sz, ls.length = sz + 16 := ⟨ls.length - 16, by omega⟩
  have hs16 : ls.length - 16 = sz := by omega
  have lts : (ls.take sz).length = sz := by rw [List.length_take]; omega
  have lds : (ls.drop sz).length = 16 := by rw [List.length_drop]; omega
  have hTU := fun (mb : Nat) (v : Value) => turn_any 60 callFunc36 (Gf.decrypt key) mb (Gf.star key) key (Gf.begin key ln) (fun b hb => ⟨Gf.decrypt_len key b, fun w => decrypt_any key b hkey hb w⟩) (Gf.encrypt_len _ _) hkey (Gf.begin_len _ _) v (ls.take sz) (by omega)
  have hTL := Gf.turnFrom_len (Gf.decrypt key) key (Gf.star key) 1 (Gf.begin key ln) (ls.take sz) (Gf.begin_len _ _)
  have hu : Gf.unturned key ln ls = Gf.turnFrom (Gf.decrypt key) key (Gf.star key) 1 (Gf.begin key ln) (ls.take sz) := by unfold Gf.unturned; rw [hs16]
  have ho : Gf.openTag key ln lb ls = Gf.tag key (Gf.star key) (Gf.turnFrom (Gf.decrypt key) key (Gf.star key) 1 (Gf.begin key ln) (ls.take sz)).2 (Gf.turnFrom (Gf.decrypt key) key (Gf.star key) 1 (Gf.begin key ln) (ls.take sz)).1 lb := by unfold Gf.openTag; rw [hu]
  rw [hu, ho, hs16]
  clear hu ho
  have hMK := masks_any key hkey
  have hst : Gf.encrypt key (Gf.zeros 16) = Gf.star key := rfl
  rw [hst] at hMK
  have ll0 : (Gf.star key).length = 16 := Gf.encrypt_len _ _
  have hBG := fun (S : Nat → Prop) => begin_any S key hkey vn ln hn1 hn2
  have lBG := Gf.begin_len key ln
  rw [lts] at hTL hTU
  generalize (Gf.turnFrom (Gf.decrypt key) key (Gf.star key) 1 (Gf.begin key ln) (ls.take sz)).1 = R1 at *
  generalize (Gf.turnFrom (Gf.decrypt key) key (Gf.star key) 1 (Gf.begin key ln) (ls.take sz)).2 = R2 at *
  generalize Gf.begin key ln = BG at *
  generalize Gf.star key = l0 at *
  have hTG := fun (mb : Nat) (vp : Value) => tag_any mb l0 key R2 ll0 hkey hTL.2 vp vb R1 lb (by omega) (by omega)
  have lTG := Gf.tag_len key l0 R2 R1 lb
  generalize Gf.tag key l0 R2 R1 lb = TG at *
  have HTU := Box'.mk hTU
  have HTG := Box'.mk hTG
  have HMK := Box'.mk hMK
  have HBG := Box'.mk hBG
  clear hst hTU hTG hMK hBG
  have hnc := hn
  have hbc := hb
  obtain ⟨an, cn, rfl, _, _⟩ := hnc
  obtain ⟨ab, cb, rfl, _, _⟩ := hbc
  obtain ⟨as0, cs, rfl, hcs, h3⟩ := hp
  rw [hsz] at hcs hls
  rw [hsz]
  rcases h3 with rfl | ⟨b0, o0, rfl, hS0, hr0⟩
  · simp at hsz
  have hr1 : w.rangeAt b0 o0 ((ls.take sz).map B) := fun j u hu => by
    refine hr0 j u ?_
    rw [List.map_take, List.getElem?_take] at hu
    split at hu
    · exact hu
    · cases hu
  have hr2 : w.rangeAt b0 (o0 + sz) ((ls.drop sz).map B) := fun j u hu => by
    rw [List.map_drop, List.getElem?_drop] at hu
    have := hr0 (sz + j) u hu
    rw [← Nat.add_assoc] at this; exact this
  have hp1 : Bts (· < w.heap.size) w (.slice (some ⟨b0, o0, none⟩) sz sz) (ls.take sz) := ⟨_, _, by rw [lts], by omega, .inr ⟨b0, o0, rfl, hS0, hr1⟩⟩
  have hp2 : Bts (· < w.heap.size) w (.slice (some ⟨b0, o0 + sz, none⟩) 16 16) (ls.drop sz) := ⟨_, _, by rw [lds], by omega, .inr ⟨b0, o0 + sz, rfl, hS0, hr2⟩⟩
  clear hr0 hr1 hr2
  have hfa := fun w => fault_any an ln.length cn ab lb.length cb (sz : Int) (by unfold maxLen; omega) (by unfold maxLen; omega) w
  have hf0 : Gf.fault ln.length lb.length (sz : Int) = 0 := by unfold Gf.fault; rw [if_neg (by omega), if_neg (by omega)]
  rw [hf0] at hfa
  clear hf0
  have HSZ := Box'.mk hsz
  clear hsz hs16
  have hcI : ((sz + 16 : Nat) : Int) - 16 = (sz : Int) := by omega
  go_enter Tryd.func40, Tryd.ntmps40
  go_wp2_with fail
  refine (hfa _).mono ?_
  rintro e w0 ⟨rfl, rfl⟩
  have k0 : Row (w.alloc (.cells (ag key) 23)) w.heap.size 23 (ag key) := Row.new _ _ _
  go_wp2_with (first
    | (refine wpList_load_row rfl 23 (.tmp 4) rfl _ rfl _ _ k0 _ Tryd.underlying23 rfl 16 Tryd.info23 (by rw [ag_size]; exact hkey) ?_)
    | fail)
  refine (HMK.out _).mono ?_
  rintro e wM ⟨mb, bb, rfl, hm, hmb, hbb, hbl⟩
  have hlt := ht.lt
  have hz : (w.alloc (.cells (ag key) 23)).heap.size = w.heap.size + 1 := by simp
  rw [hz] at hmb hbb hbl
  have hz1 : w.heap.size + 1 ≤ wM.heap.size := by have := hbl.size; rw [hz] at this; exact this
  have hbw : Below w.heap.size w wM := ((Below.refl _ _).alloc (Nat.le_refl _) _).trans (hbl.mono (by omega))
  have hfs : ∀ k, k ≤ w.heap.size → Sf mb l0 wM k := fun k hk => ⟨by omega, by omega, fun b2 m2 => by rw [← hm.one m2]; omega, bb, hm⟩
  have hE : SE mb l0 key w.heap.size wM wM := ⟨k0.below hbl (by omega), ht.below hbw hlt, hfs 1 (by omega), hfs _ (Nat.le_refl _), Gm.refl _ _ _⟩
  have hbk : ∀ {v : Value} {l : List UInt8}, Bts (· < w.heap.size) w v l → Bts (Old mb l0 w.heap.size wM) wM v l := fun h => h.keep fun b hb => ⟨⟨hfs b (by omega), hb⟩, hbw.block b hb⟩
  have hn' := hbk hn
  have hb' := hbk hb
  have hp1' := hbk hp1
  have hp2' := hbk hp2
  have hfin : ∀ w2, Gm mb l0 wM w2 → Below w.heap.size w w2 := fun w2 g => below_of_Gm hbw g hm (by omega) (by omega) (by omega)
  have HFN := Box'.mk hfin
  clear hn hb hp1 hp2 hbk k0 hbl HMK hfa ht hfs hfin
  generalize hN : w.heap.size = N at *
  go_wp2
  refine wp_region_grow 15 (by kernel_rfl) (by kernel_rfl) (Gm mb l0) (fun w2 => SE mb l0 key N wM w2 ∧ Bts (Old mb l0 N w2) w2 (.slice an ln.length cn) ln ∧ Bts (Old mb l0 N w2) w2 (.slice ab lb.length cb) lb ∧ Bts (Old mb l0 N w2) w2 (.slice (some ⟨b0, o0, none⟩) sz sz) (ls.take sz) ∧ Bts (Old mb l0 N w2) w2 (.slice (some ⟨b0, o0 + sz, none⟩) 16 16) (ls.drop sz)) (fun k w1 v => match k with
    | 0 => v = .agg (ag key)
    | 1 => v = mskFn mb
    | 2 => v = .agg (ag key)
    | 3 => v = .slice an ln.length cn
    | 4 => v = .agg (ag BG)
    | 5 => v = .slice (some ⟨b0, o0, none⟩) (sz + 16) cs
    | 6 => v = .int .i64 (sz : Int)
    | 7 => v = .int .i64 (sz : Int)
    | 8 => v = .slice (some ⟨b0, o0, none⟩) sz sz
    | 9 => ∃ g, v = .tuple #[.slice (some ⟨g, 0, none⟩) sz (sz + 16), .agg (ag R2)] ∧ Buf w1 g (sz + 16) R1 ∧ Sf mb l0 w1 g ∧ wM.heap.size ≤ g
    | 10 => ∃ g, v = .tuple #[.slice (some ⟨g, 0, none⟩) sz (sz + 16), .agg (ag R2)] ∧ Buf w1 g (sz + 16) R1 ∧ Sf mb l0 w1 g ∧ wM.heap.size ≤ g
    | 11 => ∃ g, v = .slice (some ⟨g, 0, none⟩) sz (sz + 16) ∧ Buf w1 g (sz + 16) R1 ∧ Sf mb l0 w1 g ∧ wM.heap.size ≤ g
    | 12 => v = .agg (ag R2)
    | 13 => ∃ p, v = .pointer (some ⟨p, 0, none⟩) ∧ N < p ∧ 1 < p ∧ wM.heap.size ≤ p ∧ Room w1 p 23 16 ∧ Sf mb l0 w1 p
    | 14 => ∃ g, v = .slice (some ⟨g, 0, none⟩) sz (sz + 16) ∧ Buf w1 g (sz + 16) R1 ∧ Sf mb l0 w1 g ∧ wM.heap.size ≤ g
    | _ => True) ?_ ?_ ?_ ?_ ?_
  · rintro w2 w3 hb ⟨c1, c2, c3, c4, c5⟩
    exact ⟨c1.go hb, c2.go hb, c3.go hb, c4.go hb, c5.go hb⟩
  · intro k v w1 w2 hC1 hb h
    match k, h with
    | 0, h => exact h
    | 1, h => exact h
    | 2, h => exact h
    | 3, h => exact h
    | 4, h => exact h
    | 5, h => exact h
    | 6, h => exact h
    | 7, h => exact h
    | 8, h => exact h
    | 9, ⟨g, e1, e2, e3, e4⟩ => exact ⟨g, e1, e2.same (e3.keep hb).2, e3.go hb, e4⟩
    | 10, ⟨g, e1, e2, e3, e4⟩ => exact ⟨g, e1, e2.same (e3.keep hb).2, e3.go hb, e4⟩
    | 11, ⟨g, e1, e2, e3, e4⟩ => exact ⟨g, e1, e2.same (e3.keep hb).2, e3.go hb, e4⟩
    | 12, h => exact h
    | 13, ⟨p, e1, e2, e3, e4, e5, e6⟩ => exact ⟨p, e1, e2, e3, e4, e6.room hb e5, e6.go hb⟩
    | 14, ⟨g, e1, e2, e3, e4⟩ => exact ⟨g, e1, e2.same (e3.keep hb).2, e3.go hb, e4⟩
    | k + 15, h => trivial
  · exact ⟨hE.go (Gm.refl _ _ _).drew, hn'.go (Gm.refl _ _ _).drew, hb'.go (Gm.refl _ _ _).drew, hp1'.go (Gm.refl _ _ _).drew, hp2'.go (Gm.refl _ _ _).drew⟩
  · refine ⟨?_, ?_, ?_, ?_, ?_, ?_, ?_, ?_, ?_, ?_, ?_, ?_, ?_, ?_, ?_, trivial⟩
    · intro f w1 hC hd KK hK
      simp only [List.take_succ_cons, List.take_zero, setAll, List.setIfInBounds_toArray, List.set_cons_succ, List.set_cons_zero, Nat.zero_add, Nat.reduceAdd] at hK ⊢
      refine wp_load_row 23 _ rfl _ rfl _ _ (hC.1.kk) _ Tryd.underlying23 rfl 16 Tryd.info23 (by rw [ag_size]; exact hkey) ?_
      exact hK _ _ rfl (Gm.refl _ _ _)
    · intro f w1 hC hd KK hK
      simp only [List.take_succ_cons, List.take_zero, setAll, List.setIfInBounds_toArray, List.set_cons_succ, List.set_cons_zero, Nat.zero_add, Nat.reduceAdd] at hK ⊢
      refine wp_of_quiet rfl ?_
      go_big_quiet_step (fail)
      exact wpQuiet_nil (hK _ _ rfl (Gm.refl _ _ _))
    · intro f w1 hC hd KK hK
      simp only [List.take_succ_cons, List.take_zero, setAll, List.setIfInBounds_toArray, List.set_cons_succ, List.set_cons_zero, Nat.zero_add, Nat.reduceAdd] at hK ⊢
      refine wp_load_row 23 _ rfl _ rfl _ _ (hC.1.kk) _ Tryd.underlying23 rfl 16 Tryd.info23 (by rw [ag_size]; exact hkey) ?_
      exact hK _ _ rfl (Gm.refl _ _ _)
    · intro f w1 hC hd KK hK
      simp only [List.take_succ_cons, List.take_zero, setAll, List.setIfInBounds_toArray, List.set_cons_succ, List.set_cons_zero, Nat.zero_add, Nat.reduceAdd] at hK ⊢
      refine wp_of_quiet rfl ?_
      go_big_quiet_step (fail)
      exact wpQuiet_nil (hK _ _ rfl (Gm.refl _ _ _))
    · intro f w1 hC hd KK hK
      have g2 : f 2 = _ := hd 2 rfl
      have g3 : f 3 = _ := hd 3 rfl
      simp only [List.take_succ_cons, List.take_zero, setAll, List.setIfInBounds_toArray, List.set_cons_succ, List.set_cons_zero, Nat.zero_add, Nat.reduceAdd, g2, g3] at hK ⊢
      exact wp_call 49 #[.agg (ag key), .slice an ln.length cn] (by simp [go_sem]) _ _ (HBG.out _ w1 hC.2.1) (fun w' hb => hK _ _ rfl (Gm.of hb))
    · intro f w1 hC hd KK hK
      simp only [List.take_succ_cons, List.take_zero, setAll, List.setIfInBounds_toArray, List.set_cons_succ, List.set_cons_zero, Nat.zero_add, Nat.reduceAdd] at hK ⊢
      refine wp_of_quiet rfl ?_
      go_big_quiet_step (fail)
      exact wpQuiet_nil (hK _ _ rfl (Gm.refl _ _ _))
    · intro f w1 hC hd KK hK
      simp only [List.take_succ_cons, List.take_zero, setAll, List.setIfInBounds_toArray, List.set_cons_succ, List.set_cons_zero, Nat.zero_add, Nat.reduceAdd] at hK ⊢
      refine wp_of_quiet rfl ?_
      go_big_quiet_step (fail)
      exact wpQuiet_nil (hK _ _ rfl (Gm.refl _ _ _))
    · intro f w1 hC hd KK hK
      simp only [List.take_succ_cons, List.take_zero, setAll, List.setIfInBounds_toArray, List.set_cons_succ, List.set_cons_zero, Nat.zero_add, Nat.reduceAdd] at hK ⊢
      refine wp_of_quiet rfl ?_
      go_big_quiet_step (fail)
      exact wpQuiet_nil (hK _ _ rfl (Gm.refl _ _ _))
    · intro f w1 hC hd KK hK
      have g5 : f 5 = _ := hd 5 rfl
      have g6 : f 6 = _ := hd 6 rfl
      have g7 : f 7 = _ := hd 7 rfl
      simp only [List.take_succ_cons, List.take_zero, setAll, List.setIfInBounds_toArray, List.set_cons_succ, List.set_cons_zero, Nat.zero_add, Nat.reduceAdd, g5, g6, g7] at hK ⊢
      refine wp_of_quiet rfl ?_
      go_big_quiet_step (fail)
      exact wpQuiet_nil (hK _ _ rfl (Gm.refl _ _ _))
    · intro f w1 hC hd KK hK
      have g0 : f 0 = _ := hd 0 rfl
      have g1 : f 1 = _ := hd 1 rfl
      have g4 : f 4 = _ := hd 4 rfl
      have g8 : f 8 = _ := hd 8 rfl
      simp only [List.take_succ_cons, List.take_zero, setAll, List.setIfInBounds_toArray, List.set_cons_succ, List.set_cons_zero, Nat.zero_add, Nat.reduceAdd, g0, g1, g4, g8] at hK ⊢
      refine wp_call_ex 47 #[.agg (ag key), .func (.func 60) #[] #[], mskFn mb, .agg (ag BG), .slice (some ⟨b0, o0, none⟩) sz sz] (by simp [go_sem]) (fun v w' => (∃ g, v = .tuple #[.slice (some ⟨g, 0, none⟩) sz (sz + 16), .agg (ag R2)] ∧ Buf w' g (sz + 16) R1 ∧ Sf mb l0 w' g ∧ wM.heap.size ≤ g) ∧ Gm mb l0 w1 w') ?_ (fun v w' h => hK _ _ h.1 h.2)
      refine (HTU.out mb _ w1 hC.1.tb hC.1.s1 (hC.2.2.2.1.re fun b h => h.1)).mono ?_
      rintro e w' ⟨g, rfl, q1, q2, q3, q4⟩
      exact ⟨_, rfl, ⟨g, rfl, q1, q2, by have := hC.1.g.size; omega⟩, q4⟩
    · intro f w1 hC hd KK hK
      have hdd : ∃ g, f 9 = .tuple #[.slice (some ⟨g, 0, none⟩) sz (sz + 16), .agg (ag R2)] ∧ Buf w1 g (sz + 16) R1 ∧ Sf mb l0 w1 g ∧ wM.heap.size ≤ g := hd 9 (by kernel_rfl)
      clear hd
      cases hdd with | intro g h2 =>
      have g9 := h2.1
      have hg1 := h2.2.1
      have hg2 := h2.2.2.1
      have hg3 := h2.2.2.2
      clear h2
      simp only [List.take_succ_cons, List.take_zero, setAll, List.setIfInBounds_toArray, List.set_cons_succ, List.set_cons_zero, Nat.zero_add, Nat.reduceAdd, g9] at hK ⊢
      refine wp_of_quiet rfl ?_
      go_big_quiet_step (fail)
      exact wpQuiet_nil (hK _ _ (⟨g, rfl, hg1, hg2, hg3⟩) (Gm.refl _ _ _))
    · intro f w1 hC hd KK hK
      have hdd : ∃ g, f 10 = .tuple #[.slice (some ⟨g, 0, none⟩) sz (sz + 16), .agg (ag R2)] ∧ Buf w1 g (sz + 16) R1 ∧ Sf mb l0 w1 g ∧ wM.heap.size ≤ g := hd 10 (by kernel_rfl)
      clear hd
      cases hdd with | intro g h2 =>
      have g10 := h2.1
      have hg1 := h2.2.1
      have hg2 := h2.2.2.1
      have hg3 := h2.2.2.2
      clear h2
      simp only [List.take_succ_cons, List.take_zero, setAll, List.setIfInBounds_toArray, List.set_cons_succ, List.set_cons_zero, Nat.zero_add, Nat.reduceAdd, g10] at hK ⊢
      refine wp_of_quiet rfl ?_
      go_big_quiet_step (fail)
      exact wpQuiet_nil (hK _ _ (⟨g, rfl, hg1, hg2, hg3⟩) (Gm.refl _ _ _))
    · intro f w1 hC hd KK hK
      have hdd : ∃ g, f 10 = .tuple #[.slice (some ⟨g, 0, none⟩) sz (sz + 16), .agg (ag R2)] ∧ Buf w1 g (sz + 16) R1 ∧ Sf mb l0 w1 g ∧ wM.heap.size ≤ g := hd 10 (by kernel_rfl)
      clear hd
      cases hdd with | intro g h2 =>
      have g10 := h2.1
      have hg1 := h2.2.1
      have hg2 := h2.2.2.1
      have hg3 := h2.2.2.2
      clear h2
      simp only [List.take_succ_cons, List.take_zero, setAll, List.setIfInBounds_toArray, List.set_cons_succ, List.set_cons_zero, Nat.zero_add, Nat.reduceAdd, g10] at hK ⊢
      refine wp_of_quiet rfl ?_
      go_big_quiet_step (fail)
      exact wpQuiet_nil (hK _ _ (rfl) (Gm.refl _ _ _))
    · intro f w1 hC hd KK hK
      simp only [List.take_succ_cons, List.take_zero, setAll, List.setIfInBounds_toArray, List.set_cons_succ, List.set_cons_zero, Nat.zero_add, Nat.reduceAdd] at hK ⊢
      have hp := hC.1.f0.lt
      have hp1 := hC.1.tb.lt
      have hp2 := hC.1.g.size
      obtain ⟨bb, hm⟩ := hC.1.s1.is
      refine wp_alloc_row 23 rfl _ _ Tryd.zero23 ?_
      exact hK _ _ ⟨_, rfl, hp, hp1, hp2, Room.new _ _ _ _ (by rw [ag_size]; rfl), Sf.new hm _⟩ (Gm.of ((Below.refl _ _).alloc (Nat.le_refl _) _))
    · intro f w1 hC hd KK hK
      have hdd : ∃ g, f 11 = .slice (some ⟨g, 0, none⟩) sz (sz + 16) ∧ Buf w1 g (sz + 16) R1 ∧ Sf mb l0 w1 g ∧ wM.heap.size ≤ g := hd 11 (by kernel_rfl)
      clear hd
      cases hdd with | intro g h2 =>
      have g11 := h2.1
      have hg1 := h2.2.1
      have hg2 := h2.2.2.1
      have hg3 := h2.2.2.2
      clear h2
      simp only [List.take_succ_cons, List.take_zero, setAll, List.setIfInBounds_toArray, List.set_cons_succ, List.set_cons_zero, Nat.zero_add, Nat.reduceAdd, g11] at hK ⊢
      refine wp_of_quiet rfl ?_
      go_big_quiet_step (fail)
      exact wpQuiet_nil (hK _ _ (⟨g, rfl, hg1, hg2, hg3⟩) (Gm.refl _ _ _))
  · intro f w1 hC hv
    have g0 : f 0 = _ := hv 0 (by decide)
    have g1 : f 1 = _ := hv 1 (by decide)
    have g2 : f 2 = _ := hv 2 (by decide)
    have g3 : f 3 = _ := hv 3 (by decide)
    have g4 : f 4 = _ := hv 4 (by decide)
    have g5 : f 5 = _ := hv 5 (by decide)
    have g6 : f 6 = _ := hv 6 (by decide)
    have g7 : f 7 = _ := hv 7 (by decide)
    have g8 : f 8 = _ := hv 8 (by decide)
    obtain ⟨ga, g9, ha1, ha2, ha3⟩ := hv 9 (by decide)
    obtain ⟨gb, g10, hb1, hb2, hb3⟩ := hv 10 (by decide)
    obtain ⟨gc, g11, hc1, hc2, hc3⟩ := hv 11 (by decide)
    have g12 : f 12 = _ := hv 12 (by decide)
    obtain ⟨p, g13, hp1, hp2, hp3, hp4, hp5⟩ := hv 13 (by decide)
    obtain ⟨g, g14, hg1, hg2, hg3⟩ := hv 14 (by decide)
    simp only [List.take_succ_cons, List.take_zero, List.drop_succ_cons, List.drop_zero, setAll, List.setIfInBounds_toArray, List.set_cons_succ, List.set_cons_zero, Nat.zero_add, Nat.reduceAdd, g0, g1, g2, g3, g4, g5, g6, g7, g8, g9, g10, g11, g12, g13, g14]
    clear g0 g1 g2 g3 g4 g5 g6 g7 g8 g9 g10 g11 g12 g13 g14 hv
    obtain ⟨c1, c2, c3, c4, c5⟩ := hC
    clear ha1 ha2 ha3 hb1 hb2 hb3 hc1 hc2 hc3 hn' hb' hp1' hp2' hE
    have hgp : g ≠ p := by
      rintro rfl
      obtain ⟨cc, r1, r2⟩ := hp4
      rcases hg1.2 with ⟨e, _⟩ | ⟨g1, cc1, cur, e1, _, e3, _⟩
      · cases e
      · injection e1 with q1; injection q1 with q1; injection q1 with q1
        subst q1
        unfold Row at r1
        rw [r1] at e3
        injection e3 with e
        injection e with _ e5
        exact absurd e5 (by decide)
    have z1 := c1.set p hp5 hp1 hp2 hp3 (ag R2)
    have z3 := c3.set p hp5 (by omega) (ag R2)
    have z4 := c5.set p hp5 (by omega) (ag R2)
    have z5 := hp4.setRow (ag R2)
    have z6 := hg1.same (w' := w1.setRow p (ag R2)) (setRow_other _ _ _ _ hgp)
    have z7 := hp5.set hg2 (ag R2)
    have hk1 := z1.kk
    have zP : Bts (Sf mb l0 (w1.setRow p (ag R2))) (w1.setRow p (ag R2)) (.slice (some ⟨g, 0, none⟩) sz (sz + 16)) R1 := by
      have := z6.bts z7 (by omega)
      rw [hTL.1] at this
      exact this
    go_wp2_with (first
      | (refine wpList_store_row rfl 23 (.tmp 14) (.tmp 42) rfl _ rfl _ rfl _ _ hp4 Tryd.info23 (by rw [ag_size]; exact hTL.2) (ag_one _) ?_)
      | (refine wpList_load_row rfl 23 (.tmp 4) rfl _ rfl _ _ hk1 _ Tryd.underlying23 rfl 16 Tryd.info23 (by rw [ag_size]; exact hkey) ?_)
      | (refine wpList_load_row rfl 23 (.tmp 14) rfl _ rfl _ _ z5 _ Tryd.underlying23 rfl 16 Tryd.info23 (by rw [ag_size]; exact hTL.2) ?_)
      | fail)
    refine (HTG.out mb _ _ z1.tb z1.s1 zP (z3.re fun b h => h.1)).mono ?_
    rintro e w5 ⟨rfl, hb5⟩
    have y1 := z7.go hb5
    have y2 := z6.same (w' := w5) (z7.keep hb5).2
    have y3 := z1.g.trans hb5
    have ya := z4.go hb5
    obtain ⟨bq, hmq⟩ := y1.is
    clear z1 z3 z4 z5 z6 z7 hb5 hg1 hg2 hp4 hp5 c1 c2 c3 c4 c5 hk1 zP
    have y4 : Gm mb l0 w5 (w5.alloc (.cells (ag TG) 23)) := Gm.of ((Below.refl _ _).alloc (Nat.le_refl _) _)
    have y5 := y1.go y4
    have y6 := y2.same (w' := w5.alloc (.cells (ag TG) 23)) (y1.keep y4).2
    have y7 := y3.trans y4
    have y8 : Row (w5.alloc (.cells (ag TG) 23)) w5.heap.size 23 (ag TG) := Row.new _ _ _
    have y9 := ya.go y4
    have y10 : Sf mb l0 (w5.alloc (.cells (ag TG) 23)) w5.heap.size := Sf.new hmq _
    clear y1 y2 y3 y4 ya hmq
    go_wp2_with (first
      | (refine wpList_alloc_row rfl 23 rfl _ _ Tryd.zero23 ?_)
      | (refine wpList_store_row rfl 23 (.tmp 15) (.tmp 48) rfl _ rfl _ rfl _ _ (Room.new _ _ _ _ (by rw [ag_size]; rfl)) Tryd.info23 (by rw [ag_size]; exact lTG) (ag_one _) ?_; rw [World.setRow_alloc_new])
      | fail)
    generalize World.alloc _ _ = W6 at *
    generalize w5.heap.size = q at *
    refine wp_region_grow 10 (by kernel_rfl) (by kernel_rfl) (Gm mb l0) (fun w2 => Bts (Old mb l0 N w2) w2 (.slice (some ⟨b0, o0 + sz, none⟩) 16 16) (ls.drop sz) ∧ Row w2 q 23 (ag TG) ∧ Sf mb l0 w2 q ∧ Buf w2 g (sz + 16) R1 ∧ Sf mb l0 w2 g ∧ Gm mb l0 wM w2) (fun k w1 v => match k with
      | 0 => v = .slice (some ⟨q, 0, none⟩) 16 16
      | 1 => v = .slice (some ⟨b0, o0, none⟩) (sz + 16) cs
      | 2 => v = .int .i64 (sz : Int)
      | 3 => v = .slice (some ⟨b0, o0, none⟩) (sz + 16) cs
      | 4 => v = .int .i64 ((sz + 16 : Nat) : Int)
      | 5 => v = .slice (some ⟨b0, o0, none⟩) (sz + 16) cs
      | 6 => v = .int .i64 ((sz + 16 : Nat) : Int)
      | 7 => v = .slice (some ⟨b0, o0 + sz, none⟩) 16 16
      | 8 => v = .bool (decide (TG = ls.drop sz))
      | 9 => v = .bool (!decide (TG = ls.drop sz))
      | _ => True) ?_ ?_ ?_ ?_ ?_
    · rintro w2 w3 hb ⟨c1, c2, c3, c4, c5, c6⟩
      exact ⟨c1.go hb, c3.row hb c2, c3.go hb, c4.same (c5.keep hb).2, c5.go hb, c6.trans hb⟩
    · intro k v w1 w2 hC1 hb h
      match k, h with
      | 0, h => exact h
      | 1, h => exact h
      | 2, h => exact h
      | 3, h => exact h
      | 4, h => exact h
      | 5, h => exact h
      | 6, h => exact h
      | 7, h => exact h
      | 8, h => exact h
      | 9, h => exact h
      | k + 10, h => trivial
    · exact ⟨y9.go (Gm.refl _ _ _).drew, y8.drew, y10.go (Gm.refl _ _ _).drew, y6.same rfl, y5.go (Gm.refl _ _ _).drew, y7.drew⟩
    · refine ⟨?_, ?_, ?_, ?_, ?_, ?_, ?_, ?_, ?_, ?_, trivial⟩
      · intro f w1 hC hd KK hK
        simp only [List.take_succ_cons, List.take_zero, setAll, List.setIfInBounds_toArray, List.set_cons_succ, List.set_cons_zero, Nat.zero_add, Nat.reduceAdd] at hK ⊢
        refine wp_of_quiet rfl ?_
        go_big_quiet_step (fail)
        exact wpQuiet_nil (hK _ _ rfl (Gm.refl _ _ _))
      · intro f w1 hC hd KK hK
        simp only [List.take_succ_cons, List.take_zero, setAll, List.setIfInBounds_toArray, List.set_cons_succ, List.set_cons_zero, Nat.zero_add, Nat.reduceAdd] at hK ⊢
        refine wp_of_quiet rfl ?_
        go_big_quiet_step (fail)
        exact wpQuiet_nil (hK _ _ rfl (Gm.refl _ _ _))
      · intro f w1 hC hd KK hK
        simp only [List.take_succ_cons, List.take_zero, setAll, List.setIfInBounds_toArray, List.set_cons_succ, List.set_cons_zero, Nat.zero_add, Nat.reduceAdd] at hK ⊢
        refine wp_of_quiet rfl ?_
        go_big_quiet_step (fail)
        exact wpQuiet_nil (hK _ _ rfl (Gm.refl _ _ _))
      · intro f w1 hC hd KK hK
        simp only [List.take_succ_cons, List.take_zero, setAll, List.setIfInBounds_toArray, List.set_cons_succ, List.set_cons_zero, Nat.zero_add, Nat.reduceAdd] at hK ⊢
        refine wp_of_quiet rfl ?_
        go_big_quiet_step (fail)
        exact wpQuiet_nil (hK _ _ rfl (Gm.refl _ _ _))
      · intro f w1 hC hd KK hK
        have g3 : f 3 = _ := hd 3 rfl
        simp only [List.take_succ_cons, List.take_zero, setAll, List.setIfInBounds_toArray, List.set_cons_succ, List.set_cons_zero, Nat.zero_add, Nat.reduceAdd, g3] at hK ⊢
        refine wp_of_quiet rfl ?_
        go_big_quiet_step (fail)
        exact wpQuiet_nil (hK _ _ rfl (Gm.refl _ _ _))
      · intro f w1 hC hd KK hK
        simp only [List.take_succ_cons, List.take_zero, setAll, List.setIfInBounds_toArray, List.set_cons_succ, List.set_cons_zero, Nat.zero_add, Nat.reduceAdd] at hK ⊢
        refine wp_of_quiet rfl ?_
        go_big_quiet_step (fail)
        exact wpQuiet_nil (hK _ _ rfl (Gm.refl _ _ _))
      · intro f w1 hC hd KK hK
        have g5 : f 5 = _ := hd 5 rfl
        simp only [List.take_succ_cons, List.take_zero, setAll, List.setIfInBounds_toArray, List.set_cons_succ, List.set_cons_zero, Nat.zero_add, Nat.reduceAdd, g5] at hK ⊢
        refine wp_of_quiet rfl ?_
        go_big_quiet_step (fail)
        exact wpQuiet_nil (hK _ _ rfl (Gm.refl _ _ _))
      · intro f w1 hC hd KK hK
        have g1 : f 1 = _ := hd 1 rfl
        have g2 : f 2 = _ := hd 2 rfl
        have g4 : f 4 = _ := hd 4 rfl
        have g6 : f 6 = _ := hd 6 rfl
        simp only [List.take_succ_cons, List.take_zero, setAll, List.setIfInBounds_toArray, List.set_cons_succ, List.set_cons_zero, Nat.zero_add, Nat.reduceAdd, g1, g2, g4, g6] at hK ⊢
        refine wp_of_quiet rfl ?_
        go_big_quiet_step (fail)
        exact wpQuiet_nil (hK _ _ (by rw [Nat.add_sub_cancel_left]) (Gm.refl _ _ _))
      · intro f w1 hC hd KK hK
        have g0 : f 0 = _ := hd 0 rfl
        have g7 : f 7 = _ := hd 7 rfl
        simp only [List.take_succ_cons, List.take_zero, setAll, List.setIfInBounds_toArray, List.set_cons_succ, List.set_cons_zero, Nat.zero_add, Nat.reduceAdd, g0, g7] at hK ⊢
        exact wp_call 61 #[.slice (some ⟨q, 0, none⟩) 16 16, .slice (some ⟨b0, o0 + sz, none⟩) 16 16] (by simp [go_sem]) _ _ (same_any (Sf mb l0 w1) _ _ _ TG (ls.drop sz) w1 (show Bts (Sf mb l0 w1) w1 (.slice (some ⟨q, 0, none⟩) 16 16) TG from ⟨_, _, by rw [lTG], by omega, .inr ⟨q, 0, rfl, hC.2.2.1, fun j u hu => by rw [Nat.zero_add, hC.2.1.cell]; simpa [ag] using hu⟩⟩) hC.1 (by unfold maxLen; omega) (by unfold maxLen; omega)) (fun w' hb => hK _ _ rfl (Gm.of hb))
      · intro f w1 hC hd KK hK
        have g8 : f 8 = _ := hd 8 rfl
        simp only [List.take_succ_cons, List.take_zero, setAll, List.setIfInBounds_toArray, List.set_cons_succ, List.set_cons_zero, Nat.zero_add, Nat.reduceAdd, g8] at hK ⊢
        refine wp_of_quiet rfl ?_
        go_big_quiet_step (fail)
        exact wpQuiet_nil (hK _ _ rfl (Gm.refl _ _ _))
    · intro f w1 hC hv
      have g0 : f 0 = _ := hv 0 (by decide)
      have g1 : f 1 = _ := hv 1 (by decide)
      have g2 : f 2 = _ := hv 2 (by decide)
      have g3 : f 3 = _ := hv 3 (by decide)
      have g4 : f 4 = _ := hv 4 (by decide)
      have g5 : f 5 = _ := hv 5 (by decide)
      have g6 : f 6 = _ := hv 6 (by decide)
      have g7 : f 7 = _ := hv 7 (by decide)
      have g8 : f 8 = _ := hv 8 (by decide)
      have g9 : f 9 = _ := hv 9 (by decide)
      simp only [List.take_succ_cons, List.take_zero, List.drop_succ_cons, List.drop_zero, setAll, List.setIfInBounds_toArray, List.set_cons_succ, List.set_cons_zero, Nat.zero_add, Nat.reduceAdd, g0, g1, g2, g3, g4, g5, g6, g7, g8, g9]
      clear g0 g1 g2 g3 g4 g5 g6 g7 g8 g9 hv
      obtain ⟨c1, c2, c3, c4, c5, c6⟩ := hC
      have hbf := HFN.out w1 c6
      clear y5 y6 y7 y8 y9 y10 c1 c2 c3 c5 c6
      by_cases hd : TG = ls.drop sz
      · have hdd : decide (TG = ls.drop sz) = true := decide_eq_true hd
        rw [hdd]
        clear hdd
        go_wp2
        go_ret2
        refine ⟨by first | exact hbf | (rw [hN]; exact hbf), fun _ => ⟨g, rfl, c4, by omega⟩, fun h => absurd hd h⟩
      · have hdd : decide (TG = ls.drop sz) = false := decide_eq_false hd
        rw [hdd]
        clear hdd
        go_wp2
        go_ret2
        refine ⟨by first | exact hbf | (rw [hN]; exact hbf), fun h => absurd h hd, fun _ => rfl⟩
end Go.Proofs.YthcokaffbgbanaaDoor

/- What Seal and Open refuse; the document's way to compare bytes; and that opening turns sealing back. -/
namespace Go.Proofs.YthcokaffbgbanaaDoor
open Go.RowKit Go.BigFrame

set_option maxRecDepth 100000 in
set_option maxHeartbeats 1000000 in
theorem seal_bad (key : List UInt8) (an : Option Addr) (n cn : Nat) (ab : Option Addr) (b cb : Nat) (ap : Option Addr) (p cp : Nat) (hn : n ≤ maxLen) (hb : b ≤ maxLen) (w : World) (hf : Gf.fault n b (p : Int) ≠ 0) :
    Calls Tryd.prog 31 #[.agg (ag key), .slice an n cn, .slice ab b cb, .slice ap p cp] w fun e w' => e = .returned (.tuple #[.slice none 0 0, .int .i64 (Gf.fault n b (p : Int))]) ∧ Below w.heap.size w w' := by
  have hfa := fun w => fault_any an n cn ab b cb (p : Int) hn hb w
  generalize Gf.fault n b (p : Int) = c at *
  unfold maxLen at hn hb
  have hc : (c == 0) = false := by rw [beq_eq_false_iff_ne]; exact hf
  go_enter Tryd.func31, Tryd.ntmps31
  go_wp2_with fail
  refine (hfa _).mono ?_
  rintro e w0 ⟨rfl, rfl⟩
  go_wp2
  go_ret2
  exact ⟨rfl, (Below.refl _ _).alloc (Nat.le_refl _) _⟩

set_option maxRecDepth 100000 in
set_option maxHeartbeats 1000000 in
theorem open_bad (key : List UInt8) (an : Option Addr) (n cn : Nat) (ab : Option Addr) (b cb : Nat) (ap : Option Addr) (p cp : Nat) (hn : n ≤ maxLen) (hb : b ≤ maxLen) (hp : p ≤ maxLen) (w : World) (hf : Gf.fault n b ((p : Int) - 16) ≠ 0) :
    Calls Tryd.prog 40 #[.agg (ag key), .slice an n cn, .slice ab b cb, .slice ap p cp] w fun e w' => e = .returned (.tuple #[.slice none 0 0, .int .i64 (Gf.fault n b ((p : Int) - 16))]) ∧ Below w.heap.size w w' := by
  have hfa := fun w => fault_any an n cn ab b cb ((p : Int) - 16) hn hb w
  generalize Gf.fault n b ((p : Int) - 16) = c at *
  unfold maxLen at hn hb hp
  have hc : (c == 0) = false := by rw [beq_eq_false_iff_ne]; exact hf
  go_enter Tryd.func40, Tryd.ntmps40
  go_wp2_with fail
  refine (hfa _).mono ?_
  rintro e w0 ⟨rfl, rfl⟩
  go_wp2
  go_ret2
  exact ⟨rfl, (Below.refl _ _).alloc (Nat.le_refl _) _⟩

set_option maxRecDepth 100000 in
set_option maxHeartbeats 1000000 in
theorem open_short (key : List UInt8) (an : Option Addr) (n cn : Nat) (ab : Option Addr) (b cb : Nat) (ap : Option Addr) (p cp : Nat) (hn : n ≤ maxLen) (hb : b ≤ maxLen) (hp : p < 16) (w : World) (hf : Gf.fault n b ((p : Int) - 16) = 0) :
    Calls Tryd.prog 40 #[.agg (ag key), .slice an n cn, .slice ab b cb, .slice ap p cp] w fun e w' => e = .returned (.tuple #[.slice none 0 0, .int .i64 7]) ∧ Below w.heap.size w w' := by
  have hfa := fun w => fault_any an n cn ab b cb ((p : Int) - 16) hn hb w
  rw [hf] at hfa
  clear hf
  have hs : (p : Int) - 16 < 0 := by omega
  go_enter Tryd.func40, Tryd.ntmps40
  go_wp2_with fail
  refine (hfa _).mono ?_
  rintro e w0 ⟨rfl, rfl⟩
  go_wp2
  go_ret2
  exact ⟨rfl, (Below.refl _ _).alloc (Nat.le_refl _) _⟩

/-! Opening turns sealing back. -/
set_option maxRecDepth 100000 in
theorem Gf.bxor_cancel (a o : List UInt8) (ha : a.length = 16) (ho : o.length = 16) : Gf.bxor (Gf.bxor a o) o = a := Gf.bxor_bxor a o ha ho
set_option maxRecDepth 100000 in
theorem Gf.padded_back (l pad : List UInt8) : Gf.padded (Gf.padded l pad l.length) pad l.length = l := by
  have hl : (Gf.padded l pad l.length).length = l.length := by simp [Gf.padded]
  apply List.ext_getElem (by simp [Gf.padded])
  intro i h1 h2
  have h3 : (Gf.padded l pad l.length).getD i 0 = Gf.bx (l.getD i 0) (pad.getD i 0) := by simp [Gf.padded, h2]
  have h4 : (Gf.padded (Gf.padded l pad l.length) pad l.length)[i] = Gf.bx ((Gf.padded l pad l.length).getD i 0) (pad.getD i 0) := by simp [Gf.padded]
  rw [h4, h3, Gf.bx_assoc, Gf.bx_self, Gf.bx_zero]
  simp [h2]
set_option maxRecDepth 100000 in
theorem Gf.turn_back (F H : List UInt8 → List UInt8) (key l0 : List UInt8) (hF : ∀ b, (F b).length = 16) (hH : ∀ b, b.length = 16 → H (F b) = b) (i : Nat) (o l : List UInt8) (ho : o.length = 16) :
    Gf.turnFrom H key l0 i o (Gf.turnFrom F key l0 i o l).1 = (l, (Gf.turnFrom F key l0 i o l).2) := by
  induction i, o, l using Gf.turnFrom_ind (l0 := l0) with
  | case1 i o l h16 ih =>
    have lT : (l.take 16).length = 16 := by rw [List.length_take]; omega
    have lO := Gf.bxor_len o (Gf.ell l0 (2 + Gf.ntz i))
    have ih' := ih lO
    have hlen := (Gf.turnFrom_len F key l0 (i + 1) (Gf.bxor o (Gf.ell l0 (2 + Gf.ntz i))) (l.drop 16) lO).1
    rw [Gf.turnFrom_eq F key l0 i o l, dif_pos h16]
    generalize hX : Gf.turnFrom F key l0 (i + 1) (Gf.bxor o (Gf.ell l0 (2 + Gf.ntz i))) (l.drop 16) = X at *
    generalize hO : Gf.bxor o (Gf.ell l0 (2 + Gf.ntz i)) = O at *
    have lY : (Gf.bxor (F (Gf.bxor (l.take 16) O)) O).length = 16 := Gf.bxor_len _ _
    rw [Gf.turnFrom_eq]
    have hL : 16 ≤ (Gf.bxor (F (Gf.bxor (l.take 16) O)) O ++ X.1).length := by rw [List.length_append, lY]; omega
    simp only
    rw [dif_pos hL, hO]
    have e1 : (Gf.bxor (F (Gf.bxor (l.take 16) O)) O ++ X.1).take 16 = Gf.bxor (F (Gf.bxor (l.take 16) O)) O := List.take_left' lY
    have e2 : (Gf.bxor (F (Gf.bxor (l.take 16) O)) O ++ X.1).drop 16 = X.1 := List.drop_left' lY
    rw [e1, e2, ih', Gf.bxor_cancel _ _ (hF _) lO, hH _ (Gf.bxor_len _ _), Gf.bxor_cancel _ _ lT lO, List.take_append_drop]
  | case2 i o l h16 hp =>
    rw [Gf.turnFrom_eq F key l0 i o l, dif_neg h16, if_pos hp]
    have hl : (Gf.padded l (Gf.encrypt key (Gf.bxor o (Gf.ell l0 0))) l.length).length = l.length := by simp [Gf.padded]
    simp only
    rw [Gf.turnFrom_eq, dif_neg (by rw [hl]; exact h16), if_pos (by rw [hl]; exact hp), hl, Gf.padded_back]
  | case3 i o l h16 hp =>
    rw [Gf.turnFrom_eq F key l0 i o l, dif_neg h16, if_neg hp]
    have hl : l = [] := List.eq_nil_of_length_eq_zero (by omega)
    rw [Gf.turnFrom_eq, dif_neg (by simp), if_neg (by simp), hl]
/-- What was sealed is opened as what it was. -/
theorem Gf.open_sealed (key n b p : List UInt8) : (Gf.unturned key n (Gf.sealed key n b p)).1 = p ∧ Gf.openTag key n b (Gf.sealed key n b p) = (Gf.sealed key n b p).drop p.length := by
  have hlen := Gf.sealed_len key n b p
  have h1 := (Gf.turnFrom_len (Gf.encrypt key) key (Gf.star key) 1 (Gf.begin key n) p (Gf.begin_len _ _)).1
  have hu : Gf.unturned key n (Gf.sealed key n b p) = (p, (Gf.turnFrom (Gf.encrypt key) key (Gf.star key) 1 (Gf.begin key n) p).2) := by
    unfold Gf.unturned
    rw [hlen, Nat.add_sub_cancel]
    have : (Gf.sealed key n b p).take p.length = (Gf.turnFrom (Gf.encrypt key) key (Gf.star key) 1 (Gf.begin key n) p).1 := by unfold Gf.sealed; rw [← h1, List.take_left]
    rw [this]
    exact Gf.turn_back _ _ key _ (fun b => Gf.encrypt_len key b) (fun b hb => Gf.decrypt_encrypt key b hb) 1 _ p (Gf.begin_len _ _)
  refine ⟨by rw [hu], ?_⟩
  unfold Gf.openTag
  rw [hu]
  have : (Gf.sealed key n b p).drop p.length = Gf.tag key (Gf.star key) (Gf.turnFrom (Gf.encrypt key) key (Gf.star key) 1 (Gf.begin key n) p).2 p b := by unfold Gf.sealed; rw [← h1, List.drop_left]
  rw [this]
/-- What opens is sealed as the very bytes. -/
theorem Gf.seal_opened (key n b s : List UInt8) (ht : Gf.openTag key n b s = s.drop (s.length - 16)) : Gf.sealed key n b (Gf.unturned key n s).1 = s := by
  have hb := Gf.turn_back (Gf.decrypt key) (Gf.encrypt key) key (Gf.star key) (fun b => Gf.decrypt_len key b) (fun b hb => Gf.encrypt_decrypt key b hb) 1 (Gf.begin key n) (s.take (s.length - 16)) (Gf.begin_len _ _)
  unfold Gf.sealed
  have hu : Gf.unturned key n s = Gf.turnFrom (Gf.decrypt key) key (Gf.star key) 1 (Gf.begin key n) (s.take (s.length - 16)) := rfl
  rw [hu, hb]
  unfold Gf.openTag at ht
  rw [hu] at ht
  simp only
  rw [ht, List.take_append_drop]
end Go.Proofs.YthcokaffbgbanaaDoor

/- The walk of the reference's way to compare bytes. -/
namespace Go.Proofs.YthcokaffbgbanaaDoor
open Go.RowKit Go.BigFrame

set_option maxRecDepth 100000 in
theorem conv_bts {S : Nat → Prop} {w : World} {v : Value} {l : List UInt8} (h : Bts S w v l) : (convert 26 9 v).run Tryd.prog w = .ok (.string ⟨l.toArray⟩) w := by
  obtain ⟨a, c, rfl, _, h3⟩ := h
  rcases h3 with rfl | ⟨b, o, rfl, _, hr⟩
  · cases a with
    | none => exact run_convert_bytes_nil w 26 5 Tryd.underlying26 Tryd.underlying5 _ c 9 Tryd.underlying9
    | some a => exact run_convert_bytes_back w 26 9 5 a c [] Tryd.underlying26 Tryd.underlying5 Tryd.underlying9 (fun j hj => absurd hj (by simp))
  · refine run_convert_bytes_back w 26 9 5 ⟨b, o, none⟩ c l Tryd.underlying26 Tryd.underlying5 Tryd.underlying9 (fun j hj => ?_)
    rw [Addr.add_mid]
    exact hr j _ (by simp [hj]; rfl)
set_option maxRecDepth 100000 in
theorem convert_op {P : Program} {op : Oper} {a : Act} (s t : TypeId) (x : Operand) (ho : op.op = .convert s t x) (v : Value) (w : World) (h : (convert s t (a.eval x)).run P w = .ok v w) : (execOp a.eval op).run P w = .ok (.value v) w := by
  unfold execOp
  simp only [ho, Sem.run_bind, h, Result.andThen_ok, Sem.run_pure]
set_option maxRecDepth 100000 in
theorem bytes_eq (a b : List UInt8) : ((⟨a.toArray⟩ : ByteArray).toList == (⟨b.toArray⟩ : ByteArray).toList) = decide (a = b) := by
  rw [ByteArray.toList_mk, ByteArray.toList_mk, Bool.eq_iff_iff, beq_iff_eq, decide_eq_true_eq]

set_option maxRecDepth 100000 in
set_option maxHeartbeats 1000000 in
theorem refSame_any (S1 S2 : Nat → Prop) (va vb : Value) (la lb : List UInt8) (w : World) (ha : Bts S1 w va la) (hb : Bts S2 w vb lb) :
    Calls Tryd.prog 15 #[va, vb] w fun e w' => e = .returned (.bool (decide (la = lb))) ∧ w' = w := by
  have h1 := conv_bts ha
  have h2 := conv_bts hb
  have h3 := bytes_eq la lb
  generalize decide (la = lb) = r at *
  obtain ⟨s1, hs1⟩ : ∃ s1, (⟨la.toArray⟩ : ByteArray) = s1 := ⟨_, rfl⟩
  obtain ⟨s2, hs2⟩ : ∃ s2, (⟨lb.toArray⟩ : ByteArray) = s2 := ⟨_, rfl⟩
  rw [hs1] at h1 h3
  rw [hs2] at h2 h3
  clear hs1 hs2 ha hb
  go_enter Tryd.func15, Tryd.ntmps15
  go_wp2_with (first
    | (refine wpList_val rfl _ (convert_op 26 9 (.tmp 5) rfl _ _ h1) ?_)
    | (refine wpList_val rfl _ (convert_op 26 9 (.tmp 7) rfl _ _ h2) ?_)
    | fail)
  go_ret
  exact ⟨by rw [← h3]; rfl, rfl⟩

/-! One sealed nothing that the standard fixes. -/
def Gf.keyA : List UInt8 := [0, 1, 2, 3, 4, 5, 6, 7, 8, 9, 10, 11, 12, 13, 14, 15]
def Gf.nonA : List UInt8 := [0xbb, 0xaa, 0x99, 0x88, 0x77, 0x66, 0x55, 0x44, 0x33, 0x22, 0x11, 0x00]
def Gf.outA : List UInt8 := [0x78, 0x54, 0x07, 0xbf, 0xff, 0xc8, 0xad, 0x9e, 0xdc, 0xc5, 0x52, 0x0a, 0xc9, 0x11, 0x1e, 0xe6]
set_option maxRecDepth 100000 in
theorem Gf.encrypt_lit (key b : List UInt8) : Gf.encrypt key b = Gf.encTo Gf.sboxLit (Gf.keys Gf.sboxLit key) b 10 := by unfold Gf.encrypt; rw [Gf.sbox_lit]
set_option maxRecDepth 100000 in
theorem Gf.sealed_nil (key n : List UInt8) : Gf.sealed key n [] [] = Gf.bxor (Gf.encrypt key (Gf.bxor (Gf.bxor (Gf.zeros 16) (Gf.begin key n)) (Gf.dblk (Gf.encrypt key (Gf.zeros 16))))) (Gf.zeros 16) := by
  unfold Gf.sealed Gf.tag
  rw [Gf.turnFrom_eq, dif_neg (by simp), if_neg (by simp), Gf.sumFrom_eq, dif_neg (by simp), if_neg (by simp), Gf.digFrom_eq, dif_neg (by simp), if_neg (by simp)]
  rfl
set_option maxRecDepth 100000 in
theorem Gf.anchorA : Gf.sealed Gf.keyA Gf.nonA [] [] = Gf.outA := by
  rw [Gf.sealed_nil]
  unfold Gf.begin
  simp only [Gf.encrypt_lit]
  decide +kernel
set_option maxRecDepth 100000 in
theorem Gf.keyA_eq : Gf.fill (Gf.zeros 16) (fun i => UInt8.ofNat i) 16 = Gf.keyA := by decide +kernel

end Go.Proofs.YthcokaffbgbanaaDoor

/- The walk of OcbOne. -/
namespace Go.Proofs.YthcokaffbgbanaaDoor
open Go.RowKit Go.BigFrame

/-- What Open answers, whatever is handed in. -/
theorem open_any (key : List UInt8) (hkey : key.length = 16) (vn vb vs : Value) (ln lb ls : List UInt8) (mn : ln.length ≤ maxLen) (mb : lb.length ≤ maxLen) (ms : ls.length ≤ maxLen) (w : World) (ht : Tab w)
    (hn : Bts (· < w.heap.size) w vn ln) (hb : Bts (· < w.heap.size) w vb lb) (hs : Bts (· < w.heap.size) w vs ls) :
    Calls Tryd.prog 40 #[.agg (ag key), vn, vb, vs] w fun e w' => Below w.heap.size w w' ∧
      ((∃ c : Int, c ≠ 0 ∧ e = .returned (.tuple #[.slice none 0 0, .int .i64 c])) ∨
       (0 < ln.length ∧ ln.length ≤ 15 ∧ lb.length ≤ 65536 ∧ 16 ≤ ls.length ∧ ls.length ≤ 65552 ∧ Gf.openTag key ln lb ls = ls.drop (ls.length - 16) ∧
        ∃ g, e = .returned (.tuple #[.slice (some ⟨g, 0, none⟩) (ls.length - 16) (ls.length - 16 + 16), .int .i64 0]) ∧ Buf w' g (ls.length - 16 + 16) (Gf.unturned key ln ls).1 ∧ w.heap.size ≤ g)) := by
  have hnc := hn
  have hbc := hb
  have hsc := hs
  obtain ⟨an, cn, rfl, _, _⟩ := hnc
  obtain ⟨ab, cb, rfl, _, _⟩ := hbc
  obtain ⟨as0, cs, rfl, _, _⟩ := hsc
  by_cases hf : Gf.fault ln.length lb.length ((ls.length : Int) - 16) = 0
  · have hc : 0 < ln.length ∧ ln.length ≤ 15 ∧ lb.length ≤ 65536 ∧ ls.length ≤ 65552 := by
      unfold Gf.fault at hf
      by_cases h1 : ln.length < 1 ∨ 15 < ln.length
      · rw [if_pos h1] at hf; omega
      · rw [if_neg h1] at hf
        by_cases h2 : 65536 < (ls.length : Int) - 16 ∨ 65536 < lb.length
        · rw [if_pos h2] at hf; omega
        · omega
    by_cases h16 : 16 ≤ ls.length
    · refine (open_ok key hkey _ _ _ ln lb ls hc.1 hc.2.1 hc.2.2.1 h16 hc.2.2.2 w ht hn hb hs).mono ?_
      rintro e w' ⟨h1, h2, h3⟩
      refine ⟨h1, ?_⟩
      by_cases hd : Gf.openTag key ln lb ls = ls.drop (ls.length - 16)
      · exact .inr ⟨hc.1, hc.2.1, hc.2.2.1, h16, hc.2.2.2, hd, h2 hd⟩
      · exact .inl ⟨20, by decide, h3 hd⟩
    · exact (open_short key an _ cn ab _ cb as0 _ cs mn mb (by omega) w hf).mono fun e w' h => ⟨h.2, .inl ⟨7, by decide, h.1⟩⟩
  · exact (open_bad key an _ cn ab _ cb as0 _ cs mn mb ms w hf).mono fun e w' h => ⟨h.2, .inl ⟨_, hf, h.1⟩⟩

end Go.Proofs.YthcokaffbgbanaaDoor

/- What came in: a key with a nonce and bytes beside; bytes; the library's table. -/
namespace Go.Proofs.YthcokaffbgbanaaDoor
open Go.ChangeShapes Go.WideShapes Go.ChangeAt Go.RowKit

def byteIn : Value → UInt8
  | .int _ n => UInt8.ofNat n.toNat
  | _ => 0
set_option maxRecDepth 100000 in
theorem byteIn_of {W : World} {base : Nat} {v : Value} (h : Cell.okWide Tryd.prog W .any base 5 v) : v = B (byteIn v) := by
  unfold Cell.okWide at h
  rw [Tryd.underlying5] at h
  cases v <;> simp only [Cell.ok, Tryd.underlying5] at h
  case int k n =>
    obtain ⟨rfl, hn⟩ := h
    have hb : 0 ≤ n ∧ n ≤ 255 := by
      unfold IntKind.has at hn
      simpa [IntKind.min, IntKind.max, IntKind.bits, IntKind.signed] using hn
    unfold byteIn B
    rw [UInt8.toNat_ofNat_of_lt' (by show n.toNat < 256; omega)]
    congr 1
    omega
set_option maxRecDepth 100000 in
theorem Tryd.cells5 : Tryd.prog.cellsOf 5 = 1 := by kernel_rfl
set_option maxRecDepth 100000 in
theorem Tryd.cells26 : Tryd.prog.cellsOf 26 = 1 := by kernel_rfl
/-! The library's table. -/
set_option maxRecDepth 100000 in
theorem g64 : Tryd.prog.globalNamed "math/bits.deBruijn64tab" = some 1 := by kernel_rfl
set_option maxRecDepth 100000 in
theorem t64 : (Tryd.prog.globals[1]?).map (·.type) = some 142 := by kernel_rfl
set_option maxRecDepth 100000 in
theorem Tryd.cells142 : Tryd.prog.cellsOf 142 = 64 := by kernel_rfl
def tabInts : List Int := [0, 1, 56, 2, 57, 49, 28, 3, 61, 58, 42, 50, 38, 29, 17, 4, 62, 47, 59, 36, 45, 43, 51, 22, 53, 39, 33, 30, 24, 18, 12, 5, 63, 55, 48, 27, 60, 41, 37, 16, 46, 35, 44, 21, 52, 32, 23, 11, 54, 26, 40, 15, 34, 20, 31, 10, 25, 14, 19, 9, 13, 8, 7, 6]
set_option maxRecDepth 100000 in
theorem tabInts_eq : ∀ k, k < 64 → tabInts.getD k 0 = ((Gf.tab64.getD k 0).toNat : Int) := by decide +kernel
def laidTabs : List (String × DataW Unit) := [("math/bits.deBruijn32tab", Rows.laid_math_bits_deBruijn32tab), ("math/bits.deBruijn64tab", Rows.laid_math_bits_deBruijn64tab)]
set_option maxRecDepth 100000 in
theorem tab_of_laid {W : World} (h : laidMetH Tryd.prog laidTabs W) : Tab W := by
  rw [MakeChecks.laidMetH_plain _ _ _ (by kernel_rfl)] at h
  have h2 : laidMet Tryd.prog [("math/bits.deBruijn64tab", Lib.tabData .u8 tabInts)] W := laidMet.tail h
  have hT := Lib.tabIs_of_head g64 t64 Tryd.underlying142 Tryd.underlying5 Tryd.cells5 Tryd.cells142 h2
  have hc : ∀ k, k < 64 → W.cell? ⟨1, k, none⟩ = some (.int .u8 ((Gf.tab64.getD k 0).toNat : Int)) := fun k hk => by
    rw [← tabInts_eq k hk]; exact hT.cell g64 k hk
  exact ⟨hc, World.block_lt_of_cell? W _ (hc 0 (by decide))⟩
set_option maxRecDepth 100000 in
theorem own : ownKnob Tryd.prog.godebug = none := by kernel_rfl
set_option maxRecDepth 100000 in
theorem laidOut : laidOutB Tryd.prog = true := by kernel_rfl
set_option maxRecDepth 100000 in
theorem door_met (os : Os) (args : Array Value) : laidMetH Tryd.prog laidTabs ((World.doorLaid Tryd.prog 400 os).forCall (fun _ _ => 0) ⟨#[], args, []⟩).memory :=
  laidMetH_of_parts3 (fuel := 8) (laidMet_of_run' 8 (by kernel_rfl) (by kernel_rfl)) (by kernel_rfl) (by kernel_rfl)
end Go.Proofs.YthcokaffbgbanaaDoor

/- The plain mathematics of heads and times. -/
namespace Go.Proofs.YthcokaffbgbanaaDoor.Gf

/-- The first bytes of a head. -/
def beTo (h : Nat) : Nat → List UInt8
  | 0 => []
  | k + 1 => beTo h k ++ [UInt8.ofNat (h / 2 ^ (56 - 8 * k))]
theorem beTo_len (h k : Nat) : (beTo h k).length = k := by
  induction k with
  | zero => rfl
  | succ k ih => simp [beTo, ih]
def be8 (h : Nat) : List UInt8 := beTo h 8
theorem be8_len (h : Nat) : (be8 h).length = 8 := beTo_len h 8
theorem be8_list (h : Nat) : be8 h = [UInt8.ofNat (h / 72057594037927936), UInt8.ofNat (h / 281474976710656), UInt8.ofNat (h / 1099511627776), UInt8.ofNat (h / 4294967296), UInt8.ofNat (h / 16777216), UInt8.ofNat (h / 65536), UInt8.ofNat (h / 256), UInt8.ofNat (h / 1)] := rfl
theorem num8 (b : List UInt8) : numTo b 0 8 = (((((((((b.getD 0 0).toNat * 256 + (b.getD 1 0).toNat) * 256 + (b.getD 2 0).toNat) * 256 + (b.getD 3 0).toNat) * 256 + (b.getD 4 0).toNat) * 256 + (b.getD 5 0).toNat) * 256 + (b.getD 6 0).toNat) * 256) + (b.getD 7 0).toNat) := by
  simp [numTo]
theorem num_be (h : Nat) (hh : h < 18446744073709551616) (t : List UInt8) : numTo (be8 h ++ t) 0 8 = h := by
  rw [num8, be8_list]
  simp only [List.cons_append, List.nil_append, List.getD_cons_zero, List.getD_cons_succ, UInt8.toNat_ofNat']
  omega
theorem take8 (b : List UInt8) (hb : 8 ≤ b.length) : b.take 8 = [b.getD 0 0, b.getD 1 0, b.getD 2 0, b.getD 3 0, b.getD 4 0, b.getD 5 0, b.getD 6 0, b.getD 7 0] := by
  match b, hb with
  | a0 :: a1 :: a2 :: a3 :: a4 :: a5 :: a6 :: a7 :: r, _ => rfl
theorem be_num (b : List UInt8) (hb : 8 ≤ b.length) : be8 (numTo b 0 8) = b.take 8 := by
  rw [take8 b hb, be8_list, num8]
  generalize b.getD 0 0 = a0
  generalize b.getD 1 0 = a1
  generalize b.getD 2 0 = a2
  generalize b.getD 3 0 = a3
  generalize b.getD 4 0 = a4
  generalize b.getD 5 0 = a5
  generalize b.getD 6 0 = a6
  generalize b.getD 7 0 = a7
  have h0 := a0.toNat_lt
  have h1 := a1.toNat_lt
  have h2 := a2.toNat_lt
  have h3 := a3.toNat_lt
  have h4 := a4.toNat_lt
  have h5 := a5.toNat_lt
  have h6 := a6.toNat_lt
  have h7 := a7.toNat_lt
  have key : ∀ (x : UInt8) (n : Nat), n % 256 = x.toNat → UInt8.ofNat n = x := fun x n h => by
    apply UInt8.toNat_inj.1
    rw [UInt8.toNat_ofNat', h]
  congr 1
  · exact key _ _ (by omega)
  · congr 1
    · exact key _ _ (by omega)
    · congr 1
      · exact key _ _ (by omega)
      · congr 1
        · exact key _ _ (by omega)
        · congr 1
          · exact key _ _ (by omega)
          · congr 1
            · exact key _ _ (by omega)
            · congr 1
              · exact key _ _ (by omega)
              · congr 1
                exact key _ _ (by omega)

/-- The head of a side and a number. -/
def hdN (f q : Nat) : Nat := if f = 2 then q + 9223372036854775808 else q
def sdN (h : Nat) : Nat := if h < 9223372036854775808 then 1 else 2
def sqN (h : Nat) : Nat := h % 9223372036854775808
theorem hdN_lt {f q : Nat} (hq : q < 4611686018427387904) : hdN f q < 18446744073709551616 := by unfold hdN; split <;> omega
theorem sd_hd {f q : Nat} (hf : f = 1 ∨ f = 2) (hq : q < 4611686018427387904) : sdN (hdN f q) = f := by
  unfold sdN hdN
  rcases hf with rfl | rfl
  · simp; omega
  · simp
theorem sq_hd {f q : Nat} (hq : q < 4611686018427387904) : sqN (hdN f q) = q := by unfold sqN hdN; split <;> omega
theorem hd_sq {f h : Nat} (hh : h < 18446744073709551616) (hs : sdN h = f) : hdN f (sqN h) = h := by
  unfold sdN at hs
  unfold hdN sqN
  split at hs <;> subst hs
  · simp; omega
  · simp; omega
/-- Two times. -/
def tms (s e : Nat) : List UInt8 := [UInt8.ofNat (s / 256), UInt8.ofNat s, UInt8.ofNat (e / 256), UInt8.ofNat e]
theorem tms_len (s e : Nat) : (tms s e).length = 4 := rfl
def tmA (p : List UInt8) (o : Nat) : Nat := (p.getD o 0).toNat * 256 + (p.getD (o + 1) 0).toNat
theorem tmA_lt (p : List UInt8) (o : Nat) : tmA p o < 65536 := by
  unfold tmA
  have h1 := (p.getD o 0).toNat_lt
  have h2 := (p.getD (o + 1) 0).toNat_lt
  omega
theorem tmA_s {s e : Nat} (hs : s < 65536) (t : List UInt8) : tmA (tms s e ++ t) 0 = s := by
  unfold tmA tms
  simp only [List.cons_append, List.nil_append, List.getD_cons_zero, List.getD_cons_succ, UInt8.toNat_ofNat', Nat.zero_add]
  omega
theorem tmA_e {s e : Nat} (he : e < 65536) (t : List UInt8) : tmA (tms s e ++ t) 2 = e := by
  unfold tmA tms
  simp only [List.cons_append, List.nil_append, List.getD_cons_zero, List.getD_cons_succ, UInt8.toNat_ofNat']
  omega
theorem tms_tmA (p : List UInt8) (hp : 4 ≤ p.length) : tms (tmA p 0) (tmA p 2) ++ p.drop 4 = p := by
  match p, hp with
  | a0 :: a1 :: a2 :: a3 :: r, _ =>
    have h0 := a0.toNat_lt
    have h1 := a1.toNat_lt
    have h2 := a2.toNat_lt
    have h3 := a3.toNat_lt
    have key : ∀ (x : UInt8) (n : Nat), n % 256 = x.toNat → UInt8.ofNat n = x := fun x n h => by
      apply UInt8.toNat_inj.1
      rw [UInt8.toNat_ofNat', h]
    have e0 : tmA (a0 :: a1 :: a2 :: a3 :: r) 0 = a0.toNat * 256 + a1.toNat := rfl
    have e2 : tmA (a0 :: a1 :: a2 :: a3 :: r) 2 = a2.toNat * 256 + a3.toNat := rfl
    rw [e0, e2]
    unfold tms
    rw [key a0 _ (by omega), key a1 _ (by omega), key a2 _ (by omega), key a3 _ (by omega)]
    rfl

def nnc (h : Nat) : List UInt8 := [0, 0, 0, 0] ++ be8 h
theorem nnc_len (h : Nat) : (nnc h).length = 12 := by unfold nnc; rw [List.length_append, be8_len]; rfl
end Go.Proofs.YthcokaffbgbanaaDoor.Gf

/- The walks of seal's small functions: sides, heads, times. -/
namespace Go.Proofs.YthcokaffbgbanaaDoor
open Go.RowKit Go.BigFrame

theorem isSide_any (f : Nat) (w : World) : Calls Tryd.prog 28 #[.int .u8 (f : Int)] w fun e w' => e = .returned (.bool (decide (f = 1 ∨ f = 2))) ∧ w' = w := by
  by_cases h1 : f = 1
  · subst h1
    go_enter Tryd.func28, Tryd.ntmps28
    go_wp2
    go_ret
    exact ⟨rfl, rfl⟩
  · by_cases h2 : f = 2
    · subst h2
      go_enter Tryd.func28, Tryd.ntmps28
      go_wp2
      go_ret
      exact ⟨rfl, rfl⟩
    · have e1 : ((f : Int) == 1) = false := by rw [beq_eq_false_iff_ne]; omega
      have e2 : ((f : Int) == 2) = false := by rw [beq_eq_false_iff_ne]; omega
      have e3 : decide (f = 1 ∨ f = 2) = false := decide_eq_false (by omega)
      rw [e3]
      go_enter Tryd.func28, Tryd.ntmps28
      go_wp2
      go_ret
      exact ⟨rfl, rfl⟩
theorem or63 (q : Nat) (hq : q < 9223372036854775808) : bits .or .u64 9223372036854775808 (q : Int) = ((q + 9223372036854775808 : Nat) : Int) := by
  rw [show (9223372036854775808 : Int) = ((9223372036854775808 : Nat) : Int) from rfl, u64_or_nat _ _ (by omega) (by omega)]
  congr 1
  have := Nat.two_pow_add_eq_or_of_lt (i := 63) (b := q) (by omega) 1
  rw [show (2 : Nat) ^ 63 * 1 = 9223372036854775808 from rfl] at this
  omega
theorem or00 (q : Nat) (hq : q < 9223372036854775808) : bits .or .u64 0 (q : Int) = (q : Int) := by
  rw [show (0 : Int) = ((0 : Nat) : Int) from rfl, u64_or_nat _ _ (by omega) (by omega)]
  simp
theorem headOf_any (f q : Nat) (hq : q < 4611686018427387904) (w : World) : Calls Tryd.prog 30 #[.int .u8 (f : Int), .int .u64 (q : Int)] w fun e w' => e = .returned (.int .u64 (Gf.hdN f q : Nat)) ∧ w' = w := by
  by_cases h2 : f = 2
  · subst h2
    have e := or63 q (by omega)
    have eh : Gf.hdN 2 q = q + 9223372036854775808 := rfl
    rw [eh]
    go_enter Tryd.func30, Tryd.ntmps30
    go_wp2
    go_ret
    exact ⟨rfl, rfl⟩
  · have e2 : ((f : Int) == 2) = false := by rw [beq_eq_false_iff_ne]; omega
    have e := or00 q (by omega)
    have eh : Gf.hdN f q = q := if_neg h2
    rw [eh]
    go_enter Tryd.func30, Tryd.ntmps30
    go_wp2
    go_ret
    exact ⟨rfl, rfl⟩
theorem sideOf_any (h : Nat) (w : World) : Calls Tryd.prog 38 #[.int .u64 (h : Int)] w fun e w' => e = .returned (.int .u8 (Gf.sdN h : Nat)) ∧ w' = w := by
  by_cases h2 : h < 9223372036854775808
  · have eh : Gf.sdN h = 1 := if_pos h2
    have e : ((h : Int) / 9223372036854775808 == 0) = true := by rw [beq_iff_eq]; omega
    rw [eh]
    go_enter Tryd.func38, Tryd.ntmps38
    go_wp2
    go_ret
    exact ⟨rfl, rfl⟩
  · have eh : Gf.sdN h = 2 := if_neg h2
    have e : ((h : Int) / 9223372036854775808 == 0) = false := by rw [beq_eq_false_iff_ne]; omega
    rw [eh]
    go_enter Tryd.func38, Tryd.ntmps38
    go_wp2
    go_ret
    exact ⟨rfl, rfl⟩
theorem andNot63 (h : Nat) (hh : h < 18446744073709551616) : bits .andNot .u64 (h : Int) 9223372036854775808 = ((h % 9223372036854775808 : Nat) : Int) := by
  have e : bits .andNot .u64 (h : Int) 9223372036854775808 = bits .and .u64 (h : Int) ((9223372036854775807 : Nat) : Int) := by
    show IntKind.u64.wrap ((BitVec.ofInt 64 (h : Int) &&& ~~~ (BitVec.ofInt 64 (9223372036854775808 : Int))).toNat : Int) = IntKind.u64.wrap ((BitVec.ofInt 64 (h : Int) &&& BitVec.ofInt 64 ((9223372036854775807 : Nat) : Int)).toNat : Int)
    rw [show ~~~ (BitVec.ofInt 64 (9223372036854775808 : Int)) = BitVec.ofInt 64 ((9223372036854775807 : Nat) : Int) by decide]
  rw [e, u64_and_nat _ _ hh (by decide), show (9223372036854775807 : Nat) = 2 ^ 63 - 1 from rfl, Nat.and_two_pow_sub_one_eq_mod]
theorem seqOf_any (h : Nat) (hh : h < 18446744073709551616) (w : World) : Calls Tryd.prog 39 #[.int .u64 (h : Int)] w fun e w' => e = .returned (.int .u64 (Gf.sqN h : Nat)) ∧ w' = w := by
  have e := andNot63 h hh
  have eh : Gf.sqN h = h % 9223372036854775808 := rfl
  rw [eh]
  go_enter Tryd.func39, Tryd.ntmps39
  go_wp2
  go_ret
  exact ⟨rfl, rfl⟩
end Go.Proofs.YthcokaffbgbanaaDoor

/- The plain mathematics of the reference's doubles: bit by bit. -/
namespace Go.Proofs.YthcokaffbgbanaaDoor.Gf

theorem numTo_bit (b : List UInt8) (o k p : Nat) (h : p < 8 * k) : (numTo b o k).testBit p = (b.getD (o + (k - 1 - p / 8)) 0).toNat.testBit (p % 8) := by
  induction k generalizing p with
  | zero => omega
  | succ k ih =>
    have e : numTo b o (k + 1) = 2 ^ 8 * numTo b o k + (b.getD (o + k) 0).toNat := by show numTo b o k * 256 + _ = _; omega
    rw [e, Nat.testBit_two_pow_mul_add _ (show (b.getD (o + k) 0).toNat < 2 ^ 8 from UInt8.toNat_lt _)]
    by_cases hp : p < 8
    · rw [if_pos hp, Nat.div_eq_of_lt hp, Nat.mod_eq_of_lt hp]; rfl
    · rw [if_neg hp, ih (p - 8) (by omega)]
      have e1 : k - 1 - (p - 8) / 8 = k + 1 - 1 - p / 8 := by omega
      have e2 : (p - 8) % 8 = p % 8 := by omega
      rw [e1, e2]
theorem half_bit (b : List UInt8) (o p : Nat) (h : p < 64) : (half b o).testBit p = (b.getD (o + (7 - p / 8)) 0).toNat.testBit (p % 8) := numTo_bit b o 8 p (by omega)
theorem half_out (b : List UInt8) (o p : Nat) (h : 64 ≤ p) : (half b o).testBit p = false :=
  Nat.testBit_lt_two_pow (Nat.lt_of_lt_of_le (show half b o < 2 ^ 64 from numTo_lt8 b o) (Nat.pow_le_pow_right (by decide) h))
theorem jTo_lo (h l k j : Nat) (hj : j < k) (hk : k ≤ 8) : (jTo h l k)[j]? = some (UInt8.ofNat (h / 2 ^ (56 - 8 * j))) := by
  induction k with
  | zero => omega
  | succ k ih =>
    rw [jTo, List.getElem?_set_ne (by omega)]
    by_cases e : j = k
    · subst e; rw [List.getElem?_set_self (by rw [jTo_len]; omega)]
    · rw [List.getElem?_set_ne (by omega)]; exact ih (by omega) (by omega)
theorem jTo_hi (h l k j : Nat) (hj : j < k) (hk : k ≤ 8) : (jTo h l k)[j + 8]? = some (UInt8.ofNat (l / 2 ^ (56 - 8 * j))) := by
  induction k with
  | zero => omega
  | succ k ih =>
    rw [jTo]
    by_cases e : j = k
    · subst e; rw [List.getElem?_set_self (by rw [List.length_set, jTo_len]; omega)]
    · rw [List.getElem?_set_ne (by omega), List.getElem?_set_ne (by omega)]; exact ih (by omega) (by omega)
theorem joinL_lo (h l j : Nat) (hj : j < 8) : (joinL h l).getD j 0 = UInt8.ofNat (h / 2 ^ (56 - 8 * j)) := by
  unfold joinL; rw [List.getD_eq_getElem?_getD, jTo_lo h l 8 j hj (Nat.le_refl _)]; rfl
theorem joinL_hi (h l j : Nat) (hj : j < 8) : (joinL h l).getD (j + 8) 0 = UInt8.ofNat (l / 2 ^ (56 - 8 * j)) := by
  unfold joinL; rw [List.getD_eq_getElem?_getD, jTo_hi h l 8 j hj (Nat.le_refl _)]; rfl
theorem ofNat_bit (X s r : Nat) (hr : r < 8) : (UInt8.ofNat (X / 2 ^ s)).toNat.testBit r = X.testBit (s + r) := by
  rw [UInt8.toNat_ofNat', show (2 : Nat) ^ 8 = 2 ^ 8 from rfl, Nat.testBit_mod_two_pow, Nat.testBit_div_two_pow]
  simp [hr, Nat.add_comm]
theorem byte_bit_out (x : UInt8) (r : Nat) (hr : 8 ≤ r) : x.toNat.testBit r = false :=
  Nat.testBit_lt_two_pow (Nat.lt_of_lt_of_le x.toNat_lt (Nat.pow_le_pow_right (by decide) hr))
theorem ext_bits {a b : List UInt8} (hl : a.length = b.length) (h : ∀ j, j < a.length → ∀ r, r < 8 → (a.getD j 0).toNat.testBit r = (b.getD j 0).toNat.testBit r) : a = b := by
  apply List.ext_getElem hl
  intro j h1 h2
  have hj := h j h1
  have e1 : a.getD j 0 = a[j] := by simp [h1]
  have e2 : b.getD j 0 = b[j] := by simp [h2]
  rw [e1, e2] at hj
  apply UInt8.toNat_inj.1
  apply Nat.eq_of_testBit_eq
  intro r
  by_cases hr : r < 8
  · exact hj r hr
  · rw [byte_bit_out _ _ (by omega), byte_bit_out _ _ (by omega)]

/-! The reference's double. -/
def rdB (b : List UInt8) (i : Nat) : UInt8 := UInt8.ofNat ((b.getD i 0).toNat * 2 % 256 ||| (b.getD (i + 1) 0).toNat / 128)
def rdbl (b : List UInt8) : List UInt8 := if (b.getD 0 0).toNat / 128 = 1 then ((List.range 16).map (rdB b)).set 15 (rdB b 15 ^^^ 135) else (List.range 16).map (rdB b)
theorem rdbl_len (b : List UInt8) : (rdbl b).length = 16 := by unfold rdbl; split <;> simp
theorem rdB_bit (b : List UInt8) (i r : Nat) (hr : r < 8) : (rdB b i).toNat.testBit r = if r = 0 then (b.getD (i + 1) 0).toNat.testBit 7 else (b.getD i 0).toNat.testBit (r - 1) := by
  have h1 : (b.getD i 0).toNat * 2 % 256 < 2 ^ 8 := Nat.mod_lt _ (by decide)
  have h2 : (b.getD (i + 1) 0).toNat / 128 < 2 ^ 8 := by have := (b.getD (i + 1) 0).toNat_lt; omega
  have h3 := Nat.or_lt_two_pow h1 h2
  unfold rdB
  rw [UInt8.toNat_ofNat_of_lt' (show _ < 256 from h3), Nat.testBit_or]
  have e1 : (b.getD i 0).toNat * 2 % 256 = (2 ^ 1 * (b.getD i 0).toNat) % 2 ^ 8 := by rw [Nat.mul_comm]
  have e2 : (b.getD (i + 1) 0).toNat / 128 = (b.getD (i + 1) 0).toNat / 2 ^ 7 := rfl
  rw [e1, e2, Nat.testBit_mod_two_pow, Nat.testBit_two_pow_mul, Nat.testBit_div_two_pow]
  by_cases h0 : r = 0
  · subst h0; simp
  · rw [if_neg h0, byte_bit_out _ (r + 7) (by omega)]
    have : 1 ≤ r := by omega
    simp [hr, this]
theorem top_bit (b : List UInt8) : (b.getD 0 0).toNat.testBit 7 = decide ((b.getD 0 0).toNat / 128 = 1) := by
  rw [Nat.testBit_eq_decide_div_mod_eq]
  have := (b.getD 0 0).toNat_lt
  rw [decide_eq_decide]
  omega
theorem half_top (b : List UInt8) : half b 0 / 2 ^ 63 = (b.getD 0 0).toNat / 128 := by
  have h1 := half_bit b 0 63 (by decide)
  have h2 : half b 0 < 18446744073709551616 := numTo_lt8 b 0
  have h3 := (b.getD 0 0).toNat_lt
  rw [Nat.testBit_eq_decide_div_mod_eq, Nat.testBit_eq_decide_div_mod_eq] at h1
  have h4 := decide_eq_decide.1 h1
  simp only [show 63 / 8 = 7 from rfl, show 63 % 8 = 7 from rfl, Nat.sub_self, Nat.add_zero] at h4
  omega
theorem rdbl_eq (b : List UInt8) (hb : b.length = 16) : rdbl b = dblk b := by
  apply ext_bits
  · rw [rdbl_len, dblk_len]
  intro j hj r hr
  rw [rdbl_len] at hj
  have h16 : b.getD 16 0 = 0 := by rw [List.getD_eq_getElem?_getD, List.getElem?_eq_none (by omega)]; rfl
  have get : ∀ i, i < 16 → ((List.range 16).map (rdB b)).getD i 0 = rdB b i := fun i hi => by simp [hi]
  unfold dblk
  by_cases h8 : j < 8
  · rw [joinL_lo _ _ j h8, ofNat_bit _ _ _ hr, Nat.testBit_or, Nat.testBit_mod_two_pow, Nat.mul_comm (half b 0) 2, show 2 * half b 0 = 2 ^ 1 * half b 0 from rfl, Nat.testBit_two_pow_mul, Nat.testBit_div_two_pow]
    have hL : (rdbl b).getD j 0 = rdB b j := by
      unfold rdbl
      split
      · rw [List.getD_eq_getElem?_getD, List.getElem?_set_ne (by omega), ← List.getD_eq_getElem?_getD, get j hj]
      · exact get j hj
    rw [hL, rdB_bit b j r hr]
    by_cases h0 : r = 0
    · subst h0
      rw [if_pos rfl]
      by_cases h7 : j = 7
      · subst h7
        simp only [show 56 - 8 * 7 + 0 = 0 from rfl, Nat.zero_add]
        rw [half_bit b 8 63 (by decide)]
        simp
      · rw [half_out b 8 _ (by omega), half_bit b 0 _ (by omega)]
        have e1 : 0 + (7 - (56 - 8 * j + 0 - 1) / 8) = j + 1 := by omega
        have e2 : (56 - 8 * j + 0 - 1) % 8 = 7 := by omega
        rw [e1, e2]
        have e3 : 56 - 8 * j + 0 < 64 := by omega
        have e4 : 1 ≤ 56 - 8 * j + 0 := by omega
        simp only [e3, decide_true, Bool.true_and, e4, Bool.or_false]
    · rw [if_neg h0, half_out b 8 _ (by omega), half_bit b 0 _ (by omega)]
      have e1 : 0 + (7 - (56 - 8 * j + r - 1) / 8) = j := by omega
      have e2 : (56 - 8 * j + r - 1) % 8 = r - 1 := by omega
      rw [e1, e2]
      have e3 : 56 - 8 * j + r < 64 := by omega
      have e4 : 1 ≤ 56 - 8 * j + r := by omega
      simp only [e3, decide_true, Bool.true_and, e4, Bool.or_false]
  · obtain ⟨i, rfl⟩ : ∃ i, j = i + 8 := ⟨j - 8, by omega⟩
    have hi : i < 8 := by omega
    rw [joinL_hi _ _ i hi, ofNat_bit _ _ _ hr, Nat.testBit_xor, Nat.testBit_mod_two_pow, Nat.mul_comm (half b 8) 2, show 2 * half b 8 = 2 ^ 1 * half b 8 from rfl, Nat.testBit_two_pow_mul, half_top]
    have hbase : (decide (56 - 8 * i + r < 64) && (decide (56 - 8 * i + r ≥ 1) && (half b 8).testBit (56 - 8 * i + r - 1))) = (rdB b (i + 8)).toNat.testBit r := by
      rw [rdB_bit b (i + 8) r hr]
      by_cases h0 : r = 0
      · subst h0
        rw [if_pos rfl]
        by_cases h7 : i = 7
        · subst h7
          rw [show 7 + 8 + 1 = 16 from rfl, h16]; simp
        · rw [half_bit b 8 _ (by omega)]
          have e1 : 8 + (7 - (56 - 8 * i + 0 - 1) / 8) = i + 8 + 1 := by omega
          have e2 : (56 - 8 * i + 0 - 1) % 8 = 7 := by omega
          rw [e1, e2]
          have e3 : 56 - 8 * i + 0 < 64 := by omega
          have e4 : 1 ≤ 56 - 8 * i + 0 := by omega
          simp only [e3, decide_true, Bool.true_and, e4]
      · rw [if_neg h0, half_bit b 8 _ (by omega)]
        have e1 : 8 + (7 - (56 - 8 * i + r - 1) / 8) = i + 8 := by omega
        have e2 : (56 - 8 * i + r - 1) % 8 = r - 1 := by omega
        rw [e1, e2]
        have e3 : 56 - 8 * i + r < 64 := by omega
        have e4 : 1 ≤ 56 - 8 * i + r := by omega
        simp only [e3, decide_true, Bool.true_and, e4]
    rw [hbase]
    unfold rdbl
    by_cases ht : (b.getD 0 0).toNat / 128 = 1
    · rw [if_pos ht, ht, Nat.one_mul]
      by_cases h15 : i = 7
      · subst h15
        rw [List.getD_eq_getElem?_getD, List.getElem?_set_self (by simp)]
        simp only [Option.getD_some, UInt8.toNat_xor, Nat.testBit_xor]
        rw [show 56 - 8 * 7 + r = r by omega]
        rfl
      · rw [List.getD_eq_getElem?_getD, List.getElem?_set_ne (by omega), ← List.getD_eq_getElem?_getD, get _ hj]
        have : Nat.testBit 135 (56 - 8 * i + r) = false := Nat.testBit_lt_two_pow (Nat.lt_of_lt_of_le (show 135 < 2 ^ 8 by decide) (Nat.pow_le_pow_right (by decide) (by omega)))
        rw [this, Bool.xor_false]
    · rw [if_neg ht, get _ hj]
      have : (b.getD 0 0).toNat / 128 = 0 := by have := (b.getD 0 0).toNat_lt; omega
      rw [this, Nat.zero_mul, Nat.zero_testBit, Bool.xor_false]
end Go.Proofs.YthcokaffbgbanaaDoor.Gf

/- The walks of the reference's Double, plus and bad. -/
namespace Go.Proofs.YthcokaffbgbanaaDoor
open Go.RowKit Go.BigFrame

set_option maxRecDepth 100000 in
theorem shl1_u8 (x : UInt8) : (x.toNat : Int) * 2 % 256 = (((UInt8.ofNat (x.toNat * 2 % 256)).toNat : Nat) : Int) := by
  rw [UInt8.toNat_ofNat_of_lt' (show _ < 256 from Nat.mod_lt _ (by decide))]; omega
set_option maxRecDepth 100000 in
theorem or_shr7 (x y : UInt8) : bits .or .u8 (((UInt8.ofNat (x.toNat * 2 % 256)).toNat : Nat) : Int) ((y.toNat : Int) / 128) = (((UInt8.ofNat (x.toNat * 2 % 256 ||| y.toNat / 128)).toNat : Nat) : Int) := by
  have hy := y.toNat_lt
  have h1 : x.toNat * 2 % 256 < 256 := Nat.mod_lt _ (by decide)
  have e : (y.toNat : Int) / 128 = ((y.toNat / 128 : Nat) : Int) := by omega
  rw [e, UInt8.toNat_ofNat_of_lt' h1, u8_or_nat _ _ h1 (by omega), UInt8.toNat_ofNat_of_lt' (show _ < 256 from Nat.or_lt_two_pow (n := 8) h1 (by omega))]

set_option maxHeartbeats 1000000 in
theorem refDouble_any (b : List UInt8) (hb : b.length = 16) (w : World) :
    Calls Tryd.prog 79 #[.agg (ag b)] w fun e w' => e = .returned (.agg (ag (Gf.dblk b))) ∧ Below w.heap.size w w' := by
  have hF : Gf.fill (Gf.zeros 16) (Gf.rdB b) 16 = (List.range 16).map (Gf.rdB b) := Gf.fill_full _ _ _ rfl
  have HF := Box'.mk hF
  have hR0 := Gf.rdbl_eq b hb
  generalize Gf.dblk b = R0 at *
  have HR := Box'.mk hR0
  clear hF hR0
  have h16 : b.getD 16 0 = 0 := by rw [List.getD_eq_getElem?_getD, List.getElem?_eq_none (by omega)]; rfl
  have H16 := Box'.mk h16
  clear h16
  go_enter Tryd.func79, Tryd.ntmps79
  go_wp2
  go_loopw [4] (fun i wr => ∃ k : Nat, k ≤ 16 ∧ i = .int .i64 k ∧ Row wr w.heap.size 23 (ag b) ∧ Room wr (w.heap.size + 1) 23 16 ∧ Row wr (w.heap.size + 1 + 1) 23 (ag (Gf.fill (Gf.zeros 16) (Gf.rdB b) k)) ∧ Below w.heap.size w wr) (fun i _ => 16 - (intOf i).toNat)
  case atStart =>
    refine ⟨0, by omega, rfl, ?_, ?_, ?_, ?_⟩
    · exact ((Row.new _ _ _).alloc _).alloc _
    · exact (Room.made _ _ _ _ _ rfl (by simp)).alloc _
    · exact Row.made _ _ _ _ _ rfl (by simp)
    · exact (((Below.refl _ _).alloc (Nat.le_refl _) _).alloc (by simp) _).alloc (by simp; omega) _
  case round =>
    obtain ⟨k, hk, rfl, h1, h2, h3, hbl⟩ := hrel
    by_cases hlt : k < 16
    · have c1 := h1.byte (k := k) (by omega)
      have c3 := h3.byte (k := k) (by rw [Gf.fill_len]; exact hlt)
      have f3 := h3.frozen k
      rw [Gf.fill_get _ _ _ _ (Nat.le_refl _)] at c3
      have E : Box' (Gf.fill (Gf.zeros 16) (Gf.rdB b) (k + 1) = (Gf.fill (Gf.zeros 16) (Gf.rdB b) k).set k (Gf.rdB b k)) := ⟨rfl⟩
      have D : Box' (Gf.rdB b k = UInt8.ofNat ((b.getD k 0).toNat * 2 % 256 ||| (b.getD (k + 1) 0).toNat / 128)) := ⟨rfl⟩
      by_cases h15 : k < 15
      · have c2 := h1.byte (k := k + 1) (by omega)
        generalize b.getD k 0 = x at *
        generalize b.getD (k + 1) 0 = y at *
        have hx := x.toNat_lt
        have hy := y.toNat_lt
        have h4 := h3.setByte k (UInt8.ofNat (x.toNat * 2 % 256))
        have h5 := h4.setByte k (Gf.rdB b k)
        have o1 := or_shr7 x y
        rw [← D.out] at o1
        rw [← shl1_u8] at h5 o1
        have O1 := Box'.mk o1
        clear o1 h4
        go_wp2
        refine wp_region_tail 9 (by kernel_rfl) (by kernel_rfl) ?_
        simp only [List.take_succ_cons, List.take_zero, List.drop_succ_cons, List.drop_zero]
        repeat (go_big_quiet_step (fail))
        refine wpQuiet_nil ?_
        go_wp2
        rw [O1.out]
        refine ⟨⟨k + 1, by omega, by go_num, ?_, ?_, ?_, ?_⟩, by simp [intOf]; omega⟩
        · exact ((h1.setOther _ _ (by simp; omega)).setOther _ _ (by simp; omega)).drew
        · exact ((h2.setOther _ _ (by simp)).setOther _ _ (by simp)).drew
        · rw [E.out]
          rw [List.set_set] at h5
          exact h5.drew
        · exact ((hbl.setCell (by simp; omega) _).setCell (by simp; omega) _).drew
      · obtain rfl : k = 15 := by omega
        have D2 : Box' (Gf.rdB b 15 = UInt8.ofNat ((b.getD 15 0).toNat * 2 % 256)) := ⟨by rw [D.out, H16.out]; show UInt8.ofNat (_ ||| 0) = _; rw [Nat.or_zero]⟩
        clear D
        generalize b.getD 15 0 = x at *
        have h4 := h3.setByte 15 (Gf.rdB b 15)
        rw [← E.out, D2.out, ← shl1_u8] at h4
        go_wp2
        refine ⟨⟨16, by omega, rfl, ?_, ?_, ?_, ?_⟩, by simp [intOf]⟩
        · exact h1.setOther _ _ (by simp; omega)
        · exact h2.setOther _ _ (by simp)
        · exact h4
        · exact hbl.setCell (by simp; omega) _
    · obtain rfl : k = 16 := by omega
      rw [HF.out] at h3
      have c0 := h1.byte (k := 0) (by omega)
      have c15 := h3.byte (k := 15) (by simp)
      have f15 := h3.frozen 15
      have e15 : ((List.range 16).map (Gf.rdB b)).getD 15 0 = Gf.rdB b 15 := by simp
      rw [e15] at c15
      have hlen : ((List.range 16).map (Gf.rdB b)).length = 16 := by simp
      have HRD : Box' (Gf.rdbl b = if (b.getD 0 0).toNat / 128 = 1 then ((List.range 16).map (Gf.rdB b)).set 15 (Gf.rdB b 15 ^^^ 135) else (List.range 16).map (Gf.rdB b)) := ⟨rfl⟩
      clear e15
      generalize (List.range 16).map (Gf.rdB b) = D at *
      have h4 := h3.setByte 15 (Gf.rdB b 15 ^^^ 135)
      rw [← xor_u8] at h4
      generalize Gf.rdB b 15 = y at *
      have hy := y.toNat_lt
      have hx : (b.getD 0 0).toNat < 256 := (b.getD 0 0).toNat_lt
      generalize b.getD 0 0 = x at *
      by_cases ht : x.toNat / 128 = 1
      · have hD : Gf.rdbl b = D.set 15 (y ^^^ 135) := by rw [HRD.out, if_pos ht]
        rw [HR.out] at hD
        subst hD
        have i1 : ((x.toNat : Int) / 128 == 1) = true := by rw [beq_iff_eq]; omega
        have h5 := h2.setOther ⟨w.heap.size + 1 + 1, 15, none⟩ (.int .u8 (bits .xor .u8 (y.toNat : Int) 135)) (by simp)
        have hb5 := hbl.setCell (p := ⟨w.heap.size + 1 + 1, 15, none⟩) (by simp; omega) (.int .u8 (bits .xor .u8 (y.toNat : Int) 135))
        have h6 : Row (wr.setCell ⟨w.heap.size + 1 + 1, 15, none⟩ (.int .u8 (bits .xor .u8 (y.toNat : Int) 135))) (w.heap.size + 1 + 1) 23 (ag (D.set 15 (y ^^^ 135))) := h4
        have hl2 : (D.set 15 (y ^^^ 135)).length = 16 := by rw [List.length_set]; exact hlen
        clear h4 HRD HR
        go_wp2_with (first
          | (refine wpList_load_row rfl 23 _ rfl _ rfl _ _ h6 _ Tryd.underlying23 rfl 16 Tryd.info23 (by rw [ag_size]; exact hl2) ?_)
          | (refine wpList_store_row rfl 23 (.tmp 2) _ rfl _ rfl _ rfl _ _ h5 Tryd.info23 (by rw [ag_size]; exact hl2) (ag_one _) ?_))
        exact bodyPost_ret (results_row rfl _ _ rfl _ _ (h5.setRow _) _ Tryd.underlying23 rfl 16 Tryd.info23 (by rw [ag_size]; exact hl2)) rfl ⟨rfl, below_setRow hb5 (by omega) _⟩
      · have hD : Gf.rdbl b = D := by rw [HRD.out, if_neg ht]
        rw [HR.out] at hD
        subst hD
        have i1 : ((x.toNat : Int) / 128 == 1) = false := by rw [beq_eq_false_iff_ne]; omega
        clear h4 HRD HR
        go_wp2_with (first
          | (refine wpList_load_row rfl 23 (.tmp 3) rfl _ rfl _ _ h3 _ Tryd.underlying23 rfl 16 Tryd.info23 (by rw [ag_size]; exact hlen) ?_)
          | (refine wpList_store_row rfl 23 (.tmp 2) _ rfl _ rfl _ rfl _ _ h2 Tryd.info23 (by rw [ag_size]; exact hlen) (ag_one _) ?_))
        exact bodyPost_ret (results_row rfl _ _ rfl _ _ (h2.setRow _) _ Tryd.underlying23 rfl 16 Tryd.info23 (by rw [ag_size]; exact hlen)) rfl ⟨rfl, below_setRow hbl (by omega) _⟩
set_option maxHeartbeats 400000 in
theorem refPlus_any (a b : List UInt8) (ha : a.length = 16) (hb : b.length = 16) (w : World) :
    Calls Tryd.prog 55 #[.agg (ag a), .agg (ag b)] w fun e w' => e = .returned (.agg (ag (Gf.bxor a b))) ∧ Below w.heap.size w w' := by
  have hF : Gf.fill a (fun i => a.getD i 0 ^^^ b.getD i 0) 16 = Gf.bxor a b := Gf.fill_full _ _ _ ha
  have HF := show Hid _ from hF
  clear hF
  go_enter Tryd.func55, Tryd.ntmps55
  go_wp2
  go_loopw [5] (fun i wr => ∃ k : Nat, k ≤ 16 ∧ i = .int .i64 k ∧ Row wr w.heap.size 23 (ag (Gf.fill a (fun i => a.getD i 0 ^^^ b.getD i 0) k)) ∧ Row wr (w.heap.size + 1) 23 (ag b) ∧ Room wr (w.heap.size + 1 + 1) 23 16 ∧ Below w.heap.size w wr) (fun i _ => 16 - (intOf i).toNat)
  case atStart =>
    refine ⟨0, by omega, rfl, ?_, ?_, ?_, ?_⟩
    · exact ((Row.new _ _ _).alloc _).alloc _
    · simpa using (Row.new (w.alloc (.cells (ag a) 23)) 23 (ag b)).alloc _
    · simpa using Room.new ((w.alloc (.cells (ag a) 23)).alloc (.cells (ag b) 23)) 23 _ 16 rfl
    · exact (((Below.refl _ _).alloc (Nat.le_refl _) _).alloc (by simp) _).alloc (by simp; omega) _
  case round =>
    obtain ⟨k, hk, rfl, h1, h2, h3, hbl⟩ := hrel
    by_cases hlt : k < 16
    · have c1 := h1.byte (k := k) (by rw [Gf.fill_len, ha]; exact hlt)
      have f1 := h1.frozen k
      have c2 := h2.byte (k := k) (by rw [hb]; exact hlt)
      rw [Gf.fill_get _ _ _ _ (Nat.le_refl _)] at c1
      go_wp2
      go_region
      go_wp2
      go_roundw
      case rel =>
        refine ⟨k + 1, by omega, by go_num, ?_, ?_, ?_, ?_⟩
        · have e : Gf.fill a (fun i => a.getD i 0 ^^^ b.getD i 0) (k + 1) = (Gf.fill a (fun i => a.getD i 0 ^^^ b.getD i 0) k).set k (a[k] ^^^ b[k]) := by simp [Gf.fill, ha, hb, hlt]
          rw [e, xor_u8]; exact (h1.setByte k _).drew
        · exact (h2.setOther _ _ (by simp)).drew
        · exact (h3.setOther _ _ (by simp; omega)).drew
        · exact (hbl.setCell (Nat.le_refl _) _).drew
      case measure => simp [intOf]; omega
    · have hk' : k = 16 := by omega
      subst hk'
      rw [HF.out] at h1
      have hl := Gf.bxor_len a b
      go_wp2_with (first
        | (refine wpList_load_row rfl 23 _ rfl _ rfl _ _ h1 _ Tryd.underlying23 rfl 16 Tryd.info23 (by rw [ag_size, hl]) ?_)
        | (refine wpList_store_row rfl 23 _ _ rfl _ rfl _ rfl _ _ h3 Tryd.info23 (by rw [ag_size, hl]) (ag_one _) ?_))
      exact bodyPost_ret (results_row rfl _ _ rfl _ _ (h3.setRow _) _ Tryd.underlying23 rfl 16 Tryd.info23 (by rw [ag_size, hl])) rfl ⟨rfl, below_setRow hbl (by omega) _⟩

def Gf.badE (n b : Nat) (s : Int) : Int := if n < 1 ∨ 15 < n then 2 else if 65536 < s ∨ 65536 < b then 4 else 0
set_option maxHeartbeats 1000000 in
theorem bad_any (an : Option Addr) (n cn : Nat) (ab : Option Addr) (b cb : Nat) (s : Int) (hn : n ≤ maxLen) (hb : b ≤ maxLen) (w : World) :
    Calls Tryd.prog 51 #[.slice an n cn, .slice ab b cb, .int .i64 s] w fun e w' => e = .returned (.int .i64 (Gf.badE n b s)) ∧ w' = w := by
  unfold Gf.badE
  unfold maxLen at hn hb
  by_cases h1 : n < 1
  · rw [if_pos (.inl h1)]
    have i1 : (n : Int) < 1 := by omega
    go_enter Tryd.func51, Tryd.ntmps51
    go_wp2
    go_ret
    exact ⟨rfl, rfl⟩
  · have i1 : ¬ (n : Int) < 1 := by omega
    by_cases h2 : 15 < n
    · rw [if_pos (.inr h2)]
      have i2 : (15 : Int) < (n : Int) := by omega
      go_enter Tryd.func51, Tryd.ntmps51
      go_wp2
      go_ret
      exact ⟨rfl, rfl⟩
    · rw [if_neg (by omega)]
      have i2 : ¬ (15 : Int) < (n : Int) := by omega
      by_cases h4 : 65536 < b
      · rw [if_pos (.inr h4)]
        have i4 : (65536 : Int) < (b : Int) := by omega
        go_enter Tryd.func51, Tryd.ntmps51
        go_wp2
        go_ret
        exact ⟨rfl, rfl⟩
      · have i4 : ¬ (65536 : Int) < (b : Int) := by omega
        by_cases h3 : 65536 < s
        · rw [if_pos (.inl h3)]
          go_enter Tryd.func51, Tryd.ntmps51
          go_wp2
          go_ret
          exact ⟨rfl, rfl⟩
        · rw [if_neg (by omega)]
          go_enter Tryd.func51, Tryd.ntmps51
          go_wp2
          go_ret
          exact ⟨rfl, rfl⟩
end Go.Proofs.YthcokaffbgbanaaDoor

/- The walks of the reference's padded and block. -/
namespace Go.Proofs.YthcokaffbgbanaaDoor
open Go.RowKit Go.BigFrame

set_option maxRecDepth 100000 in
set_option maxHeartbeats 1000000 in
theorem refPadded_any (S : Nat → Prop) (v : Value) (l : List UInt8) (h0 : 0 < l.length) (h16 : l.length < 16) (w : World) (hl : Bts S w v l) :
    Calls Tryd.prog 58 #[v] w fun e w' => e = .returned (.agg (ag (Gf.fup l))) ∧ Below w.heap.size w w' := by
  obtain ⟨a, c, rfl, hc, h3⟩ := hl
  rcases h3 with rfl | ⟨b, o, rfl, hS, hr⟩
  · simp at h0
  have hlt := range_lt hr h0
  have lF := Gf.fup_len l h16
  have z16 : (Gf.zeros 16).length = 16 := rfl
  have lS : (splice (Gf.zeros 16) 0 l).length = 16 := splice_len _ _ _ (by omega)
  have hF : (splice (Gf.zeros 16) 0 l).set l.length 128 = Gf.fup l := rfl
  generalize Gf.fup l = F at *
  have HF := Box'.mk hF
  clear hF
  obtain ⟨n, hn⟩ : ∃ n, l.length = n := ⟨_, rfl⟩
  rw [hn] at HF h0 h16 hc
  rw [hn]
  go_enter Tryd.func58, Tryd.ntmps58
  have hw0 : Below w.heap.size w ((w.alloc (.cells (ag (Gf.zeros 16)) 23)).alloc (.cells (ag (Gf.zeros 16)) 23)) := ((Below.refl _ _).alloc (Nat.le_refl _) _).alloc (by simp) _
  have hr' := range_below hr hw0 hlt
  have r0 : Room ((w.alloc (.cells (ag (Gf.zeros 16)) 23)).alloc (.cells (ag (Gf.zeros 16)) 23)) w.heap.size 23 16 := (Room.new _ _ _ _ rfl).alloc _
  have r1 : Row ((w.alloc (.cells (ag (Gf.zeros 16)) 23)).alloc (.cells (ag (Gf.zeros 16)) 23)) (w.heap.size + 1) 23 (ag (Gf.zeros 16)) := Row.made _ _ _ _ _ rfl (by simp)
  have hcp : l.length = Nat.min n 16 := by rw [hn]; exact (Nat.min_eq_left (by omega)).symm
  go_wp2_with (first
    | (refine wpList_copy_range rfl (.tmp 4) (.tmp 5) 26 26 rfl 5 Tryd.underlying26 (by kernel_rfl) _ 0 16 16 b o n c rfl rfl (Gf.zeros 16) l 23 r1 hr' hcp (by omega) ?_
       rw [hn]
       have r2 := r1.setRow (ag (splice (Gf.zeros 16) 0 l))
       have r4 := r0.setRowOther (w.heap.size + 1) (ag (splice (Gf.zeros 16) 0 l)) (by omega)
       have hbl := below_setRow hw0 (show w.heap.size ≤ w.heap.size + 1 by omega) (ag (splice (Gf.zeros 16) 0 l))
       clear r0 r1 hr' hw0 hcp
       generalize hW : World.setRow _ _ _ = W2
       have r2' : Row W2 (w.heap.size + 1) 23 (ag (splice (Gf.zeros 16) 0 l)) := by rw [← hW]; exact r2
       have r4' : Room W2 w.heap.size 23 16 := by rw [← hW]; exact r4
       have hbl' : Below w.heap.size w W2 := by rw [← hW]; exact hbl
       have c2 := r2'.byte (k := n) (by omega)
       have f2 := r2'.frozen n
       have r3 : Row (W2.setCell ⟨w.heap.size + 1, n, none⟩ (.int .u8 128)) (w.heap.size + 1) 23 (ag F) := by have := r2'.setByte n 128; rw [HF.out] at this; exact this
       have r5 := r4'.setOther ⟨w.heap.size + 1, n, none⟩ (.int .u8 128) (by simp)
       have hbl2 := hbl'.setCell (p := ⟨w.heap.size + 1, n, none⟩) (by simp) (.int .u8 128)
       clear hW r2 r4 hbl r2' r4' hbl')
    | (refine wpList_load_row rfl 23 _ rfl _ rfl _ _ r3 _ Tryd.underlying23 rfl 16 Tryd.info23 (by rw [ag_size]; exact lF) ?_)
    | (refine wpList_store_row rfl 23 (.tmp 2) (.tmp 10) rfl _ rfl _ rfl _ _ r5 Tryd.info23 (by rw [ag_size]; exact lF) (ag_one _) ?_)
    | fail)
  exact bodyPost_ret (results_row rfl _ _ rfl _ _ (r5.setRow _) _ Tryd.underlying23 rfl 16 Tryd.info23 (by rw [ag_size]; exact lF)) rfl ⟨rfl, below_setRow hbl2 (Nat.le_refl _) _⟩
set_option maxRecDepth 100000 in
set_option maxHeartbeats 1000000 in
theorem refBlock_any (S : Nat → Prop) (v : Value) (l : List UInt8) (h16 : l.length = 16) (w : World) (hl : Bts S w v l) :
    Calls Tryd.prog 54 #[v] w fun e w' => e = .returned (.agg (ag l)) ∧ Below w.heap.size w w' := by
  obtain ⟨a, c, rfl, hc, h3⟩ := hl
  rcases h3 with rfl | ⟨b, o, rfl, hS, hr⟩
  · simp at h16
  have hlt := range_lt hr (by omega)
  have z16 : (Gf.zeros 16).length = 16 := rfl
  have hS0 : splice (Gf.zeros 16) 0 l = l := by
    unfold splice
    rw [List.take_zero, List.nil_append, List.drop_of_length_le (by rw [z16]; omega), List.append_nil]
  have HS := Box'.mk hS0
  clear hS0
  rw [h16]
  rw [h16] at hc
  go_enter Tryd.func54, Tryd.ntmps54
  have hw0 : Below w.heap.size w ((w.alloc (.cells (ag (Gf.zeros 16)) 23)).alloc (.cells (ag (Gf.zeros 16)) 23)) := ((Below.refl _ _).alloc (Nat.le_refl _) _).alloc (by simp) _
  have hr' := range_below hr hw0 hlt
  have r0 : Room ((w.alloc (.cells (ag (Gf.zeros 16)) 23)).alloc (.cells (ag (Gf.zeros 16)) 23)) w.heap.size 23 16 := (Room.new _ _ _ _ rfl).alloc _
  have r1 : Row ((w.alloc (.cells (ag (Gf.zeros 16)) 23)).alloc (.cells (ag (Gf.zeros 16)) 23)) (w.heap.size + 1) 23 (ag (Gf.zeros 16)) := Row.made _ _ _ _ _ rfl (by simp)
  have hcp : l.length = Nat.min 16 16 := by rw [h16]; rfl
  go_wp2_with (first
    | (refine wpList_copy_range rfl (.tmp 4) (.tmp 5) 26 26 rfl 5 Tryd.underlying26 (by kernel_rfl) _ 0 16 16 b o 16 c rfl rfl (Gf.zeros 16) l 23 r1 hr' hcp (by omega) ?_
       rw [h16, HS.out]
       have r2 := r1.setRow (ag l)
       have r4 := r0.setRowOther (w.heap.size + 1) (ag l) (by omega)
       have hbl := below_setRow hw0 (show w.heap.size ≤ w.heap.size + 1 by omega) (ag l)
       clear r0 r1 hr' hw0 hcp
       generalize hW : World.setRow _ _ _ = W2
       have r3 : Row W2 (w.heap.size + 1) 23 (ag l) := by rw [← hW]; exact r2
       have r5 : Room W2 w.heap.size 23 16 := by rw [← hW]; exact r4
       have hbl2 : Below w.heap.size w W2 := by rw [← hW]; exact hbl
       clear hW r2 r4 hbl)
    | (refine wpList_load_row rfl 23 _ rfl _ rfl _ _ r3 _ Tryd.underlying23 rfl 16 Tryd.info23 (by rw [ag_size]; exact h16) ?_)
    | (refine wpList_store_row rfl 23 (.tmp 2) (.tmp 7) rfl _ rfl _ rfl _ _ r5 Tryd.info23 (by rw [ag_size]; exact h16) (ag_one _) ?_)
    | fail)
  exact bodyPost_ret (results_row rfl _ _ rfl _ _ (r5.setRow _) _ Tryd.underlying23 rfl 16 Tryd.info23 (by rw [ag_size]; exact h16)) rfl ⟨rfl, below_setRow hbl2 (Nat.le_refl _) _⟩
end Go.Proofs.YthcokaffbgbanaaDoor
