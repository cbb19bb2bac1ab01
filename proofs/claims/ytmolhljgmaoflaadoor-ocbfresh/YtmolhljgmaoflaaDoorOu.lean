/- The walk of OcbOne. -/
import Derived.Test.YtmolhljgmaoflaaDoorOt
namespace Go.Proofs.YtmolhljgmaoflaaDoor
open Go.RowKit Go.BigFrame

/-- What Open answers, whatever is handed in. -/
theorem open_any (key : List UInt8) (hkey : key.length = 16) (vn vb vs : Value) (ln lb ls : List UInt8) (mn : ln.length ≤ maxLen) (mb : lb.length ≤ maxLen) (ms : ls.length ≤ maxLen) (w : World) (ht : Tab w)
    (hn : Bts (· < w.heap.size) w vn ln) (hb : Bts (· < w.heap.size) w vb lb) (hs : Bts (· < w.heap.size) w vs ls) :
    Calls Tryd.prog 15 #[.agg (ag key), vn, vb, vs] w fun e w' => Below w.heap.size w w' ∧
      ((∃ c : Int, c ≠ 0 ∧ e = .returned (.tuple #[.slice none 0 0, .int .i64 c])) ∨
       (0 < ln.length ∧ ln.length ≤ 15 ∧ lb.length ≤ 65536 ∧ 16 ≤ ls.length ∧ ls.length ≤ 65552 ∧ Gf.openTag key ln lb ls = ls.drop (ls.length - 16) ∧
        ∃ g, e = .returned (.tuple #[.slice (some ⟨g, 0, none⟩) (ls.length - 16) (ls.length - 16 + 16), .int .i64 0]) ∧ Buf w' g (ls.length - 16 + 16) (Gf.unturned key ln ls).1 ∧ w.heap.size ≤ g)) := by
  have hnc := hn
  have hbc := hb
  have hsc := hs
  obtain ⟨an, cn, rfl, _, _⟩ := hnc
  obtain ⟨ab, cb, rfl, _, _⟩ := hbc
  obtain ⟨as0, cs, rfl, _, _⟩ := hsc
  by_cases hf : Gf.fault ln.length lb.length ((ls.length : Int) - 16) = 0
  · have hc : 0 < ln.length ∧ ln.length ≤ 15 ∧ lb.length ≤ 65536 ∧ ls.length ≤ 65552 := by
      unfold Gf.fault at hf
      by_cases h1 : ln.length < 1 ∨ 15 < ln.length
      · rw [if_pos h1] at hf; omega
      · rw [if_neg h1] at hf
        by_cases h2 : 65536 < (ls.length : Int) - 16 ∨ 65536 < lb.length
        · rw [if_pos h2] at hf; omega
        · omega
    by_cases h16 : 16 ≤ ls.length
    · refine (open_ok key hkey _ _ _ ln lb ls hc.1 hc.2.1 hc.2.2.1 h16 hc.2.2.2 w ht hn hb hs).mono ?_
      rintro e w' ⟨h1, h2, h3⟩
      refine ⟨h1, ?_⟩
      by_cases hd : Gf.openTag key ln lb ls = ls.drop (ls.length - 16)
      · exact .inr ⟨hc.1, hc.2.1, hc.2.2.1, h16, hc.2.2.2, hd, h2 hd⟩
      · exact .inl ⟨20, by decide, h3 hd⟩
    · exact (open_short key an _ cn ab _ cb as0 _ cs mn mb (by omega) w hf).mono fun e w' h => ⟨h.2, .inl ⟨7, by decide, h.1⟩⟩
  · exact (open_bad key an _ cn ab _ cb as0 _ cs mn mb ms w hf).mono fun e w' h => ⟨h.2, .inl ⟨_, hf, h.1⟩⟩

/-- A key, a nonce and bytes beside, as one value. -/
def cas (key : List UInt8) (vn vb : Value) : Array Value := ag key ++ #[vn, vb]
theorem cas_size (key : List UInt8) (vn vb : Value) : (cas key vn vb).size = key.length + 2 := by simp [cas, ag_size]
theorem cas_range {w : World} {N : Nat} {key : List UInt8} {vn vb : Value} (h : Row w N 26 (cas key vn vb)) : w.rangeAt N 0 (key.map B) := fun j u hu => by
  have hj : j < key.length := by
    have := (List.getElem?_eq_some_iff.1 hu).1
    simpa using this
  rw [Nat.zero_add, h.cell, cas, Array.getElem?_append_left (by rw [ag_size]; exact hj)]
  simpa [ag] using hu
theorem cas_16 {w : World} {N : Nat} {key : List UInt8} {vn vb : Value} (hk : key.length = 16) (h : Row w N 26 (cas key vn vb)) : w.cell? ⟨N, 16, none⟩ = some vn := by
  rw [h.cell, cas, Array.getElem?_append_right (by rw [ag_size]; omega), ag_size, hk]; rfl
theorem cas_17 {w : World} {N : Nat} {key : List UInt8} {vn vb : Value} (hk : key.length = 16) (h : Row w N 26 (cas key vn vb)) : w.cell? ⟨N, 17, none⟩ = some vb := by
  rw [h.cell, cas, Array.getElem?_append_right (by rw [ag_size]; omega), ag_size, hk]; rfl

set_option maxRecDepth 100000 in
set_option maxHeartbeats 2000000 in
theorem one_any (key : List UInt8) (hkey : key.length = 16) (vn vb vs : Value) (ln lb ls : List UInt8) (mn : ln.length ≤ maxLen) (mb : lb.length ≤ maxLen) (ms : ls.length ≤ maxLen) (w : World) (ht : Tab w)
    (hn : Bts (· < w.heap.size) w vn ln) (hb : Bts (· < w.heap.size) w vb lb) (hs : Bts (· < w.heap.size) w vs ls) :
    Calls Tryd.prog 6 #[.agg (cas key vn vb), vs] w fun e w' => e = .returned (.bool true) ∧ Below w.heap.size w w' := by
  have hlt := ht.lt
  have b0 : Below w.heap.size w (w.alloc (.cells (cas key vn vb) 26)) := (Below.refl _ _).alloc (Nat.le_refl _) _
  have r0 : Row (w.alloc (.cells (cas key vn vb) 26)) w.heap.size 26 (cas key vn vb) := Row.new _ _ _
  have hz0 : (w.alloc (.cells (cas key vn vb) 26)).heap.size = w.heap.size + 1 := by simp
  have t0 := ht.below b0 hlt
  have up : ∀ {W : World} {v : Value} {l : List UInt8}, Below w.heap.size w W → Bts (· < w.heap.size) w v l → Bts (· < W.heap.size) W v l := fun hW h => h.keep fun b hb => ⟨Nat.lt_of_lt_of_le hb hW.size, hW.block b hb⟩
  have hO := open_any key hkey vn vb vs ln lb ls mn mb ms (w.alloc (.cells (cas key vn vb) 26)) t0 (up b0 hn) (up b0 hb) (up b0 hs)
  have g16 := cas_range r0
  have c16 := cas_16 hkey r0
  have c17 := cas_17 hkey r0
  have UP := Box'.mk @up
  have HO := Box'.mk hO
  clear up hO
  go_enter Tryd.func6, Tryd.ntmps6
  go_wp2_with (first
    | (refine wpList_load_midB rfl 23 (.tmp 10) rfl _ _ rfl _ g16 _ Tryd.underlying23 rfl 16 Tryd.info23 hkey ?_)
    | fail)
  refine HO.out.mono ?_
  clear HO
  rintro e w1 ⟨hb1, hres⟩
  have b1 : Below w.heap.size w w1 := b0.trans (hb1.mono (by omega))
  have r1 : Row w1 w.heap.size 26 (cas key vn vb) := r0.below hb1 (by omega)
  have t1 := ht.below b1 hlt
  have hz1 : w.heap.size + 1 ≤ w1.heap.size := by have := hb1.size; omega
  clear g16 c16 c17 r0 t0 hb1
  rcases hres with ⟨c, hc, rfl⟩ | ⟨h1, h2, h3, h4, h5, h6, g, rfl, hbu, hg⟩
  · have hc' : (c == 0) = false := by rw [beq_eq_false_iff_ne]; exact hc
    have hA := anchored_any w1 t1
    clear b0
    go_wp2_with fail
    refine hA.mono ?_
    rintro e w2 ⟨rfl, hb2⟩
    have b2 : Below w.heap.size w w2 := b1.trans (hb2.mono (by omega))
    clear hb2
    go_wp2
    go_ret
    exact ⟨rfl, b2⟩
  · have hP := Gf.seal_opened key ln lb ls h6
    have lP : (Gf.unturned key ln ls).1.length = ls.length - 16 := by
      have := Gf.sealed_len key ln lb (Gf.unturned key ln ls).1
      rw [hP] at this
      omega
    generalize (Gf.unturned key ln ls).1 = P at *
    have hgz : g < w1.heap.size := (World.ownsRow.lt hbu g rfl).2
    have bP : Bts (· < w1.heap.size) w1 (.slice (some ⟨g, 0, none⟩) (ls.length - 16) (ls.length - 16 + 16)) P := by
      have := hbu.bts (S := (· < w1.heap.size)) hgz (by omega)
      rw [lP] at this
      exact this
    have hS := seal_ok key hkey vn vb _ ln lb P h1 h2 h3 (by omega) w1 t1 (UP.out b1 hn) (UP.out b1 hb) bP
    rw [hP] at hS
    have HS := Box'.mk hS
    have g16 := cas_range r1
    have c16 := cas_16 hkey r1
    have c17 := cas_17 hkey r1
    clear hS bP hbu b0 h6 hP
    have hsz : Box' (ls.length = (ls.length - 16) + 16) := ⟨by omega⟩
    generalize ls.length - 16 = sz at *
    go_wp2_with (first
      | (refine wpList_load_midB rfl 23 (.tmp 29) rfl _ _ rfl _ g16 _ Tryd.underlying23 rfl 16 Tryd.info23 hkey ?_)
      | fail)
    refine HS.out.mono ?_
    clear HS
    rintro e w2 ⟨g2, rfl, hbu2, hg2, hb2⟩
    have b2 : Below w.heap.size w w2 := b1.trans (hb2.mono (by omega))
    have t2 := ht.below b2 hlt
    have hA := anchored_any w2 t2
    have hg2z : g2 < w2.heap.size := (World.ownsRow.lt hbu2 g2 rfl).2
    clear g16 c16 c17 r1 t1 hb2
    go_wp2_with fail
    refine hA.mono ?_
    rintro e w3 ⟨rfl, hb3⟩
    have b3 : Below w.heap.size w w3 := b2.trans (hb3.mono (by have := b2.size; omega))
    have hbu3 := hbu2.same (w' := w3) (hb3.block g2 hg2z)
    clear hA hb3 hbu2 t2
    have bS : Bts (fun _ => True) w3 (.slice (some ⟨g2, 0, none⟩) (sz + 16) (sz + 16)) ls := by
      rw [lP] at hbu3
      have := hbu3.bts (S := fun _ => True) trivial (by rw [hsz.out]; exact Nat.le_refl _)
      rw [hsz.out] at this
      exact this
    have hsm := refSame_any _ _ _ _ ls ls w3 bS (UP.out b3 hs)
    rw [decide_eq_true rfl] at hsm
    have HSM := Box'.mk hsm
    clear hsm bS hbu3
    go_wp2_with fail
    refine HSM.out.mono ?_
    rintro e w4 ⟨rfl, rfl⟩
    go_wp2
    go_ret
    exact ⟨rfl, b3⟩
end Go.Proofs.YtmolhljgmaoflaaDoor
