/- The walk of OcbOpens. -/
import Derived.Test.YtmolhljgmaoflaaDoorRp
import Derived.Test.YtmolhljgmaoflaaDoorOv
namespace Go.Proofs.YtmolhljgmaoflaaDoor
open Go.RowKit Go.BigFrame

theorem Gf.badE_eq (n b : Nat) (s : Int) : Gf.badE n b s = Gf.fault n b s := rfl
set_option maxHeartbeats 1000000 in
theorem refOpen_bad (key : List UInt8) (an : Option Addr) (n cn : Nat) (ab : Option Addr) (b cb : Nat) (ap : Option Addr) (p cp : Nat) (hn : n ≤ maxLen) (hb : b ≤ maxLen) (hp : p ≤ maxLen) (w : World) (hf : Gf.fault n b ((p : Int) - 16) ≠ 0) :
    Calls Tryd.prog 16 #[.agg (ag key), .slice an n cn, .slice ab b cb, .slice ap p cp] w fun e w' => e = .returned (.tuple #[.slice none 0 0, .int .i64 (Gf.fault n b ((p : Int) - 16))]) ∧ Below w.heap.size w w' := by
  have hfa := fun w => bad_any an n cn ab b cb ((p : Int) - 16) hn hb w
  simp only [Gf.badE_eq] at hfa
  generalize Gf.fault n b ((p : Int) - 16) = c at *
  unfold maxLen at hn hb hp
  have hc : (c == 0) = false := by rw [beq_eq_false_iff_ne]; exact hf
  go_enter Tryd.func16, Tryd.ntmps16
  go_wp2_with (first | (go_at_call 25; refine (hfa _).mono ?_; rintro e w1 ⟨rfl, rfl⟩) | fail)
  go_ret2
  exact ⟨rfl, (Below.refl _ _).alloc (Nat.le_refl _) _⟩
set_option maxHeartbeats 1000000 in
theorem refOpen_short (key : List UInt8) (an : Option Addr) (n cn : Nat) (ab : Option Addr) (b cb : Nat) (ap : Option Addr) (p cp : Nat) (hn : n ≤ maxLen) (hb : b ≤ maxLen) (hp : p < 16) (w : World) (hf : Gf.fault n b ((p : Int) - 16) = 0) :
    Calls Tryd.prog 16 #[.agg (ag key), .slice an n cn, .slice ab b cb, .slice ap p cp] w fun e w' => e = .returned (.tuple #[.slice none 0 0, .int .i64 7]) ∧ Below w.heap.size w w' := by
  have hfa := fun w => bad_any an n cn ab b cb ((p : Int) - 16) hn hb w
  simp only [Gf.badE_eq] at hfa
  rw [hf] at hfa
  clear hf
  unfold maxLen at hn hb
  have i1 : (p : Int) < 16 := by omega
  go_enter Tryd.func16, Tryd.ntmps16
  go_wp2_with (first | (go_at_call 25; refine (hfa _).mono ?_; rintro e w1 ⟨rfl, rfl⟩) | fail)
  go_ret2
  exact ⟨rfl, (Below.refl _ _).alloc (Nat.le_refl _) _⟩

/-- What opens, and with which error. -/
def Gf.opE (key ln lb ls : List UInt8) : Int := if Gf.fault ln.length lb.length ((ls.length : Int) - 16) = 0 then (if ls.length < 16 then 7 else if Gf.openTag key ln lb ls = ls.drop (ls.length - 16) then 0 else 20) else Gf.fault ln.length lb.length ((ls.length : Int) - 16)
def Gf.opL (key ln lb ls : List UInt8) : List UInt8 := if Gf.opE key ln lb ls = 0 then (Gf.unturned key ln ls).1 else []
theorem fault_ok {n b : Nat} {s : Int} (h : Gf.fault n b s = 0) : 0 < n ∧ n ≤ 15 ∧ b ≤ 65536 ∧ s ≤ 65536 := by
  unfold Gf.fault at h
  by_cases h1 : n < 1 ∨ 15 < n
  · rw [if_pos h1] at h; omega
  · rw [if_neg h1] at h
    by_cases h2 : 65536 < s ∨ 65536 < b
    · rw [if_pos h2] at h; omega
    · omega
theorem nilBts (w : World) : Bts (· < w.heap.size) w (.slice none 0 0) [] := ⟨none, 0, rfl, Nat.le_refl _, .inl rfl⟩
/-- The tag fits just if the bytes are the sealing of what they stand for. -/
theorem Gf.fits (key ln lb ls : List UInt8) (h16 : 16 ≤ ls.length) : Gf.openTag key ln lb ls = ls.drop (ls.length - 16) ↔ Gf.sealed key ln lb (Gf.unturned key ln ls).1 = ls := by
  constructor
  · exact Gf.seal_opened key ln lb ls
  · intro h
    have h1 := (Gf.open_sealed key ln lb (Gf.unturned key ln ls).1).2
    have h2 := Gf.sealed_len key ln lb (Gf.unturned key ln ls).1
    rw [h] at h1 h2
    rw [h1]
    congr 1
    omega
theorem open_un (key : List UInt8) (hkey : key.length = 16) (vn vb vs : Value) (ln lb ls : List UInt8) (mn : ln.length ≤ maxLen) (mb : lb.length ≤ maxLen) (ms : ls.length ≤ maxLen) (w : World) (ht : Tab w)
    (hn : Bts (· < w.heap.size) w vn ln) (hb : Bts (· < w.heap.size) w vb lb) (hs : Bts (· < w.heap.size) w vs ls) :
    Calls Tryd.prog 15 #[.agg (ag key), vn, vb, vs] w fun e w' => ∃ u, e = .returned (.tuple #[u, .int .i64 (Gf.opE key ln lb ls)]) ∧ Bts (· < w'.heap.size) w' u (Gf.opL key ln lb ls) ∧ Below w.heap.size w w' := by
  have hnc := hn
  have hbc := hb
  have hsc := hs
  obtain ⟨an, cn, rfl, _, _⟩ := hnc
  obtain ⟨ab, cb, rfl, _, _⟩ := hbc
  obtain ⟨as0, cs, rfl, _, _⟩ := hsc
  by_cases hf : Gf.fault ln.length lb.length ((ls.length : Int) - 16) = 0
  · obtain ⟨h1, h2, h3, h4⟩ := fault_ok hf
    by_cases h16 : ls.length < 16
    · have e1 : Gf.opE key ln lb ls = 7 := by unfold Gf.opE; rw [if_pos hf, if_pos h16]
      have e2 : Gf.opL key ln lb ls = [] := by unfold Gf.opL; rw [e1]; rfl
      rw [e1, e2]
      exact (open_short key an _ cn ab _ cb as0 _ cs mn mb h16 w hf).mono fun e w' h => ⟨_, h.1, nilBts _, h.2⟩
    · refine (open_ok key hkey _ _ _ ln lb ls h1 h2 h3 (by omega) (by omega) w ht hn hb hs).mono ?_
      rintro e w' ⟨hbl, ha, hz⟩
      by_cases hd : Gf.openTag key ln lb ls = ls.drop (ls.length - 16)
      · have e1 : Gf.opE key ln lb ls = 0 := by unfold Gf.opE; rw [if_pos hf, if_neg h16, if_pos hd]
        have e2 : Gf.opL key ln lb ls = (Gf.unturned key ln ls).1 := by unfold Gf.opL; rw [if_pos e1]
        rw [e1, e2]
        obtain ⟨g, rfl, hbu, hg⟩ := ha hd
        have lP : (Gf.unturned key ln ls).1.length = ls.length - 16 := by
          have h5 := Gf.sealed_len key ln lb (Gf.unturned key ln ls).1
          rw [Gf.seal_opened key ln lb ls hd] at h5
          omega
        refine ⟨_, rfl, ?_, hbl⟩
        have := hbu.bts (S := (· < w'.heap.size)) ((World.ownsRow.lt hbu g rfl).2) (by omega)
        rw [lP] at this
        exact this
      · have e1 : Gf.opE key ln lb ls = 20 := by unfold Gf.opE; rw [if_pos hf, if_neg h16, if_neg hd]
        have e2 : Gf.opL key ln lb ls = [] := by unfold Gf.opL; rw [e1]; rfl
        rw [e1, e2]
        exact ⟨_, hz hd, nilBts _, hbl⟩
  · have e1 : Gf.opE key ln lb ls = Gf.fault ln.length lb.length ((ls.length : Int) - 16) := by unfold Gf.opE; rw [if_neg hf]
    have e2 : Gf.opL key ln lb ls = [] := by unfold Gf.opL; rw [if_neg (by rw [e1]; exact hf)]
    rw [e1, e2]
    exact (open_bad key an _ cn ab _ cb as0 _ cs mn mb ms w hf).mono fun e w' h => ⟨_, h.1, nilBts _, h.2⟩
theorem refOpen_un (key : List UInt8) (hkey : key.length = 16) (vn vb vs : Value) (ln lb ls : List UInt8) (mn : ln.length ≤ maxLen) (mb : lb.length ≤ maxLen) (ms : ls.length ≤ maxLen) (w : World)
    (hn : Bts (· < w.heap.size) w vn ln) (hb : Bts (· < w.heap.size) w vb lb) (hs : Bts (· < w.heap.size) w vs ls) :
    Calls Tryd.prog 16 #[.agg (ag key), vn, vb, vs] w fun e w' => ∃ u, e = .returned (.tuple #[u, .int .i64 (Gf.opE key ln lb ls)]) ∧ Bts (· < w'.heap.size) w' u (Gf.opL key ln lb ls) ∧ Below w.heap.size w w' := by
  have hnc := hn
  have hbc := hb
  have hsc := hs
  obtain ⟨an, cn, rfl, _, _⟩ := hnc
  obtain ⟨ab, cb, rfl, _, _⟩ := hbc
  obtain ⟨as0, cs, rfl, _, _⟩ := hsc
  by_cases hf : Gf.fault ln.length lb.length ((ls.length : Int) - 16) = 0
  · obtain ⟨h1, h2, h3, h4⟩ := fault_ok hf
    by_cases h16 : ls.length < 16
    · have e1 : Gf.opE key ln lb ls = 7 := by unfold Gf.opE; rw [if_pos hf, if_pos h16]
      have e2 : Gf.opL key ln lb ls = [] := by unfold Gf.opL; rw [e1]; rfl
      rw [e1, e2]
      exact (refOpen_short key an _ cn ab _ cb as0 _ cs mn mb h16 w hf).mono fun e w' h => ⟨_, h.1, nilBts _, h.2⟩
    · refine (refOpen_ok key hkey _ _ _ ln lb ls h1 h2 h3 (by omega) (by omega) w hn hb hs).mono ?_
      rintro e w' ⟨hbl, ⟨hd0, v', rfl, hO⟩ | ⟨hd0, rfl⟩⟩
      · have hd := (Gf.fits key ln lb ls (by omega)).2 hd0
        have e1 : Gf.opE key ln lb ls = 0 := by unfold Gf.opE; rw [if_pos hf, if_neg h16, if_pos hd]
        have e2 : Gf.opL key ln lb ls = (Gf.unturned key ln ls).1 := by unfold Gf.opL; rw [if_pos e1]
        rw [e1, e2]
        exact ⟨_, rfl, hO.bts, hbl⟩
      · have hd : ¬ Gf.openTag key ln lb ls = ls.drop (ls.length - 16) := fun h => hd0 ((Gf.fits key ln lb ls (by omega)).1 h)
        have e1 : Gf.opE key ln lb ls = 20 := by unfold Gf.opE; rw [if_pos hf, if_neg h16, if_neg hd]
        have e2 : Gf.opL key ln lb ls = [] := by unfold Gf.opL; rw [e1]; rfl
        rw [e1, e2]
        exact ⟨_, rfl, nilBts _, hbl⟩
  · have e1 : Gf.opE key ln lb ls = Gf.fault ln.length lb.length ((ls.length : Int) - 16) := by unfold Gf.opE; rw [if_neg hf]
    have e2 : Gf.opL key ln lb ls = [] := by unfold Gf.opL; rw [if_neg (by rw [e1]; exact hf)]
    rw [e1, e2]
    exact (refOpen_bad key an _ cn ab _ cb as0 _ cs mn mb ms w hf).mono fun e w' h => ⟨_, h.1, nilBts _, h.2⟩

set_option maxRecDepth 100000 in
set_option maxHeartbeats 2000000 in
theorem opens_any (key : List UInt8) (hkey : key.length = 16) (vn vb vs : Value) (ln lb ls : List UInt8) (mn : ln.length ≤ maxLen) (mb : lb.length ≤ maxLen) (ms : ls.length ≤ maxLen) (w : World) (ht : Tab w)
    (hn : Bts (· < w.heap.size) w vn ln) (hb : Bts (· < w.heap.size) w vb lb) (hs : Bts (· < w.heap.size) w vs ls) :
    Calls Tryd.prog 4 #[.agg (cas key vn vb), vs] w fun e w' => e = .returned (.bool true) ∧ Below w.heap.size w w' := by
  have hlt := ht.lt
  have b0 : Below w.heap.size w (w.alloc (.cells (cas key vn vb) 26)) := (Below.refl _ _).alloc (Nat.le_refl _) _
  have r0 : Row (w.alloc (.cells (cas key vn vb) 26)) w.heap.size 26 (cas key vn vb) := Row.new _ _ _
  have hz0 : (w.alloc (.cells (cas key vn vb) 26)).heap.size = w.heap.size + 1 := by simp
  have t0 := ht.below b0 hlt
  have up : ∀ {W : World} {v : Value} {l : List UInt8}, Below w.heap.size w W → Bts (· < w.heap.size) w v l → Bts (· < W.heap.size) W v l := fun hW h => h.keep fun b hb => ⟨Nat.lt_of_lt_of_le hb hW.size, hW.block b hb⟩
  have hO := open_un key hkey vn vb vs ln lb ls mn mb ms (w.alloc (.cells (cas key vn vb) 26)) t0 (up b0 hn) (up b0 hb) (up b0 hs)
  have hR := fun W (hW : Below w.heap.size w W) => refOpen_un key hkey vn vb vs ln lb ls mn mb ms W (up hW hn) (up hW hb) (up hW hs)
  generalize Gf.opE key ln lb ls = E at *
  generalize Gf.opL key ln lb ls = L at *
  have g16 := cas_range r0
  have c16 := cas_16 hkey r0
  have c17 := cas_17 hkey r0
  have HO := Box'.mk hO
  have HR := Box'.mk hR
  clear up hO hR
  go_enter Tryd.func4, Tryd.ntmps4
  go_wp2_with (first
    | (refine wpList_load_midB rfl 23 (.tmp 10) rfl _ _ rfl _ g16 _ Tryd.underlying23 rfl 16 Tryd.info23 hkey ?_)
    | fail)
  refine HO.out.mono ?_
  clear HO
  rintro e w1 ⟨u1, rfl, hB1, hb1⟩
  have b1 : Below w.heap.size w w1 := b0.trans (hb1.mono (by omega))
  have r1 : Row w1 w.heap.size 26 (cas key vn vb) := r0.below hb1 (by omega)
  clear g16 c16 c17 r0 t0 hb1 b0 hz0
  have g16 := cas_range r1
  have c16 := cas_16 hkey r1
  have c17 := cas_17 hkey r1
  go_wp2_with (first
    | (refine wpList_load_midB rfl 23 (.tmp 21) rfl _ _ rfl _ g16 _ Tryd.underlying23 rfl 16 Tryd.info23 hkey ?_)
    | fail)
  refine (HR.out _ b1).mono ?_
  rintro e w2 ⟨u2, rfl, hB2, hb2⟩
  have b2 : Below w.heap.size w w2 := b1.trans (hb2.mono b1.size)
  have hB1' : Bts (· < w2.heap.size) w2 u1 L := hB1.keep fun b hbb => ⟨Nat.lt_of_lt_of_le hbb hb2.size, hb2.block b hbb⟩
  have hsm := refSame_any _ _ _ _ L L w2 hB1' hB2
  rw [decide_eq_true rfl] at hsm
  have hA := anchored_any w2 (ht.below b2 hlt)
  clear g16 c16 c17 r1 hb2 hB1 hB2 hB1' HR b1
  go_wp2_with (first
    | (go_at_call 10; refine hsm.mono ?_; rintro e w3 ⟨rfl, rfl⟩)
    | (go_at_call 14; refine hA.mono ?_; rintro e w4 ⟨rfl, hb4⟩)
    | fail)
  go_ret
  exact ⟨rfl, b2.trans (hb4.mono b2.size)⟩
end Go.Proofs.YtmolhljgmaoflaaDoor
