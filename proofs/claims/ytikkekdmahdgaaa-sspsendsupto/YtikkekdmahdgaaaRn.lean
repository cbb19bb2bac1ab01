/- Layer 23's anchored. -/
import Derived.Test.YtikkekdmahdgaaaRm
import Derived.Lib.SlBytesConst
namespace Go.Proofs.Ytikkekdmahdgaaa
open Go.RowKit Go.BigFrame
set_option linter.unusedSimpArgs false
set_option linter.unusedVariables false

theorem InX.past {F F' : Nat → Prop} {w w' : World} {v : Value} {l : List UInt8} (h : InX (fun b => b < w.heap.size ∧ ¬ F b) w v l) (ht : Tch F w w') (hn : ∀ k, F' k → F k ∨ w.heap.size ≤ k) : InX (fun b => b < w'.heap.size ∧ ¬ F' b) w' v l :=
  h.keep fun b ⟨h1, h2⟩ => ⟨⟨Nat.lt_of_lt_of_le h1 ht.size, fun q => by rcases hn b q with q | q; exact h2 q; omega⟩, ht.block b h1 h2⟩
theorem InX.below {F : Nat → Prop} {w w' : World} {v : Value} {l : List UInt8} (h : InX (fun b => b < w.heap.size ∧ ¬ F b) w v l) (hb : Below w.heap.size w w') : InX (fun b => b < w'.heap.size ∧ ¬ F b) w' v l :=
  h.keep fun b ⟨h1, h2⟩ => ⟨⟨Nat.lt_of_lt_of_le h1 hb.size, h2⟩, hb.block b h1⟩
theorem Row.past {F F' : Nat → Prop} {w w' : World} {b : Nat} {t : TypeId} {c : Array Value} (h : Row w b t c) (hb : ¬ F b) (ht : Tch F w w') (hn : ∀ k, F' k → F k ∨ w.heap.size ≤ k) : Row w' b t c ∧ ¬ F' b :=
  ⟨h.same (ht.block b h.lt hb), fun q => by rcases hn b q with q | q; exact hb q; have := h.lt; omega⟩
theorem still_new {F F' : Nat → Prop} {N : Nat} {w : World} (hN : N ≤ w.heap.size) (hf : ∀ k, F k → N ≤ k) (hn : ∀ k, F' k → F k ∨ w.heap.size ≤ k) : ∀ k, F' k → N ≤ k := fun k hk => by
  rcases hn k hk with q | q
  · exact hf k q
  · omega
theorem mark_in (w : World) (C : List UInt8) (n : Nat) (hn : C.length = n) (fz : Nat × Nat) : InB (w.heap.size + 1) (w.alloc (.cells (ag C) 5 fz)) (.slice (some ⟨w.heap.size, 0, none⟩) n n) C := by
  subst hn
  refine .inr ⟨w.heap.size, 0, C.length, rfl, Nat.le_refl _, .inr (Nat.lt_succ_self _), fun j u hu => ?_⟩
  rw [Nat.zero_add, cell_of_row _ _ j (ag C) 5 fz (heap_alloc_last w _)]
  simpa [ag] using hu
def sd1 : Sd := ⟨[97, 98], [⟨0, [97], 0⟩], false, 0, 0⟩
def sd2 : Sd := ⟨[97, 98], [⟨0, [97], 0⟩, ⟨1, [97, 98], 0⟩], true, 0, 0⟩
def sd3 : Sd := ⟨[97, 98], [⟨0, [97], 0⟩, ⟨1, [97, 98], 0⟩], true, 0, 10⟩
def sd4 : Sd := ⟨[97, 98], [⟨0, [97], 0⟩, ⟨1, [97, 98], 100⟩], true, 100, 100⟩
def sd5 : Sd := ⟨[97, 98], [⟨1, [97, 98], 100⟩], true, 100, 100⟩
def sd6 : Sd := ⟨[97, 98], [⟨1, [97, 98], 100⟩], true, 100, 150⟩
def sdX : Ins := ⟨0, 1, 0, 0, [98]⟩
theorem sd_1 : { newS [97] with now := [97, 98] } = sd1 := rfl
theorem sd_2 : tickF sd1 0 20 100 = (sd2, sdX, true, 0) := by rfl
theorem sd_3 : tickF sd2 10 20 100 = (sd3, Ins.none, false, 0) := by rfl
theorem sd_4 : tickF sd3 100 20 100 = (sd4, sdX, true, 0) := by rfl
theorem sd_5 : ackF sd4 1 = (sd5, 0) := by rfl
theorem sd_6 : tickF sd5 150 20 100 = (sd6, Ins.none, false, 0) := by rfl
theorem sd_7 : (ackF sd6 9).2 = 230 := by rfl

set_option maxRecDepth 100000 in
set_option maxHeartbeats 8000000 in
theorem anch23 (R : World → (Nat → Prop) → Nat → Sd → Prop) (KR : KeepR R) (HN : NewSC 8 R) (HS : SetSC 10 R) (HA : AckSC 11 R) (HT : TickSC 13 R) (w : World) : Calls Try.prog 17 #[] w fun e w' => e = .returned (.bool true) ∧ Below w.heap.size w w' := by
  have KR := Box'.mk KR
  have HS := Box'.mk HS
  have HA := Box'.mk HA
  have HT := Box'.mk HT
  have n1 := HN [97] w
  unfold sT at n1
  go_enter Try.func17, Try.ntmps17
  go_wp2_with fail
  refine n1.mono ?_
  rintro e w1 ⟨p, F1, rfl, hP, hB, hF⟩
  have P := Box'.mk hP
  replace BB := Box'.mk hB
  replace FF := Box'.mk hF
  have s1 := HS.out w1 F1 p _ [97, 98] hP
  rw [sd_1] at s1
  unfold sT at s1
  clear n1 hP hB hF HN HS P
  go_wp2_with fail
  refine s1.mono ?_
  rintro e w2 ⟨F2, rfl, hP, hT, hN⟩
  have F2' := Box'.mk (still_new BB.out.size FF.out hN)
  replace BB := Box'.mk (BB.out.trans (hT.below BB.out.size FF.out))
  replace FF := F2'
  clear F2'
  have t1 := HT.out w2 F2 p sd1 0 20 100 hP (by decide) (by decide) (by decide) (by intro y hy; simp [sd1] at hy; subst hy; decide) (by omega) (by omega) (by omega) (by omega)
  rw [sd_2] at t1
  unfold uV at t1
  clear s1 hP hT hN
  go_wp2_with fail
  refine t1.mono ?_
  rintro e w3 ⟨F3, vx, rfl, hP, hi, hT, hN⟩
  have F3' := Box'.mk (still_new BB.out.size FF.out hN)
  replace BB := Box'.mk (BB.out.trans (hT.below BB.out.size FF.out))
  replace FF := F3'
  have ix := hi.keep (S' := fun b => b < w3.heap.size ∧ ¬ F3 b) fun b ⟨h1, h2, h3⟩ => ⟨⟨h2, h3⟩, rfl⟩
  obtain ⟨ax, cx, rfl⟩ := ix.slice
  clear F3' hi t1 hT hN
  have ba : Below w3.heap.size w3 (w3.alloc (.cells (insA sdX (.slice ax 1 cx)) 41)) := (Below.refl _ _).alloc (Nat.le_refl _) _
  have ra := Row.new w3 41 (insA sdX (.slice ax 1 cx))
  have na : ¬ F3 w3.heap.size := fun h => by have := KR.out.2 _ _ _ _ hP _ h; omega
  have P3 := KR.out.below hP ba
  replace IX := Box'.mk (ix.below ba)
  replace BB := Box'.mk (BB.out.trans (ba.mono BB.out.size))
  have t2 := HT.out _ F3 p sd2 10 20 100 P3 (by decide) (by decide) (by decide) (by intro y hy; simp [sd2] at hy; rcases hy with rfl | rfl <;> decide) (by omega) (by omega) (by omega) (by omega)
  rw [sd_3] at t2
  replace RA := Box'.mk ra
  replace NA := Box'.mk na
  clear hP P3 ba ra na ix
  unfold uV at t2
  have e1 : insA sdX (.slice ax 1 cx) = #[.int .u64 0, .int .u64 1, .int .u64 0, .int .u64 0, .slice ax 1 cx] := rfl
  rw [e1] at t2 RA BB IX
  rw [show insA sdX (.slice ax sdX.dif.length cx) = #[.int .u64 0, .int .u64 1, .int .u64 0, .int .u64 0, .slice ax 1 cx] from rfl]
  clear e1
  go_wp2_with fail
  refine t2.mono ?_
  generalize w3.heap.size = bx at *
  rintro e w4 ⟨F4, vn, rfl, hP, hi, hT, hN⟩
  have RA' := Box'.mk (RA.out.past NA.out hT hN)
  replace RA := Box'.mk RA'.out.1
  replace NA := Box'.mk RA'.out.2
  replace IX := Box'.mk (IX.out.past hT hN)
  have F4' := Box'.mk (still_new BB.out.size FF.out hN)
  replace BB := Box'.mk (BB.out.trans (hT.below BB.out.size FF.out))
  replace FF := F4'
  obtain ⟨an, cn, rfl⟩ := hi.slice
  clear RA' F4' hi t2 hT hN
  have ba : Below w4.heap.size w4 (w4.alloc (.cells (insA Ins.none (.slice an 0 cn)) 41)) := (Below.refl _ _).alloc (Nat.le_refl _) _
  have P4 := KR.out.below hP ba
  replace IX := Box'.mk (IX.out.below ba)
  replace RA := Box'.mk (RA.out.below ba RA.out.lt)
  replace BB := Box'.mk (BB.out.trans (ba.mono BB.out.size))
  have t3 := HT.out _ F4 p sd3 100 20 100 P4 (by decide) (by decide) (by decide) (by intro y hy; simp [sd3] at hy; rcases hy with rfl | rfl <;> decide) (by omega) (by omega) (by omega) (by omega)
  rw [sd_4] at t3
  clear hP P4 ba
  unfold uV at t3
  have e1 : insA Ins.none (.slice an 0 cn) = #[.int .u64 0, .int .u64 0, .int .u64 0, .int .u64 0, .slice an 0 cn] := rfl
  rw [e1] at t3 RA BB IX
  rw [show insA Ins.none (.slice an Ins.none.dif.length cn) = #[.int .u64 0, .int .u64 0, .int .u64 0, .int .u64 0, .slice an 0 cn] from rfl]
  clear e1
  go_wp2_with fail
  refine t3.mono ?_
  rintro e w5 ⟨F5, vy, rfl, hP, hi, hT, hN⟩
  have RA' := Box'.mk (RA.out.past NA.out hT hN)
  replace RA := Box'.mk RA'.out.1
  replace NA := Box'.mk RA'.out.2
  replace IX := Box'.mk (IX.out.past hT hN)
  have F5' := Box'.mk (still_new BB.out.size FF.out hN)
  replace BB := Box'.mk (BB.out.trans (hT.below BB.out.size FF.out))
  replace FF := F5'
  have iy := hi.keep (S' := fun b => b < w5.heap.size ∧ ¬ F5 b) fun b ⟨h1, h2, h3⟩ => ⟨⟨h2, h3⟩, rfl⟩
  obtain ⟨ay, cy, rfl⟩ := iy.slice
  clear RA' F5' hi t3 hT hN
  have ba : Below w5.heap.size w5 (w5.alloc (.cells (insA sdX (.slice ay 1 cy)) 41)) := (Below.refl _ _).alloc (Nat.le_refl _) _
  have rb := Row.new w5 41 (insA sdX (.slice ay 1 cy))
  have nb : ¬ F5 w5.heap.size := fun h => by have := KR.out.2 _ _ _ _ hP _ h; omega
  have P5 := KR.out.below hP ba
  replace IX := Box'.mk (IX.out.below ba)
  replace IY := Box'.mk (iy.below ba)
  replace RA := Box'.mk (RA.out.below ba RA.out.lt)
  replace BB := Box'.mk (BB.out.trans (ba.mono BB.out.size))
  replace RB := Box'.mk rb
  replace NB := Box'.mk nb
  have k1 := HA.out _ F5 p sd4 1 P5 (by decide) (by decide)
  rw [sd_5] at k1
  clear hP P5 ba rb nb iy
  unfold uV at k1
  have e1 : insA sdX (.slice ay 1 cy) = #[.int .u64 0, .int .u64 1, .int .u64 0, .int .u64 0, .slice ay 1 cy] := rfl
  rw [e1] at k1 RA RB BB IX IY
  rw [show insA sdX (.slice ay sdX.dif.length cy) = #[.int .u64 0, .int .u64 1, .int .u64 0, .int .u64 0, .slice ay 1 cy] from rfl]
  clear e1
  go_wp2_with fail
  refine k1.mono ?_
  generalize w5.heap.size = by_ at *
  rintro e w6 ⟨F6, rfl, hP, hT, hN⟩
  have RA' := Box'.mk (RA.out.past NA.out hT hN)
  have RB' := Box'.mk (RB.out.past NB.out hT hN)
  replace RA := Box'.mk RA'.out.1
  replace RB := Box'.mk RB'.out.1
  replace NA := Box'.mk RA'.out.2
  replace NB := Box'.mk RB'.out.2
  replace IX := Box'.mk (IX.out.past hT hN)
  replace IY := Box'.mk (IY.out.past hT hN)
  have F6' := Box'.mk (still_new BB.out.size FF.out hN)
  replace BB := Box'.mk (BB.out.trans (hT.below BB.out.size FF.out))
  replace FF := F6'
  have t4 := HT.out _ F6 p sd5 150 20 100 hP (by decide) (by decide) (by decide) (by intro y hy; simp [sd5] at hy; subst hy; decide) (by omega) (by omega) (by omega) (by omega)
  rw [sd_6] at t4
  clear RA' RB' F6' hP hT hN k1
  unfold uV at t4
  go_wp2_with fail
  refine t4.mono ?_
  rintro e w7 ⟨F7, vm, rfl, hP, hi, hT, hN⟩
  have RA' := Box'.mk (RA.out.past NA.out hT hN)
  have RB' := Box'.mk (RB.out.past NB.out hT hN)
  replace RA := Box'.mk RA'.out.1
  replace RB := Box'.mk RB'.out.1
  replace NA := Box'.mk RA'.out.2
  replace NB := Box'.mk RB'.out.2
  replace IX := Box'.mk (IX.out.past hT hN)
  replace IY := Box'.mk (IY.out.past hT hN)
  have F7' := Box'.mk (still_new BB.out.size FF.out hN)
  replace BB := Box'.mk (BB.out.trans (hT.below BB.out.size FF.out))
  replace FF := F7'
  obtain ⟨am, cm, rfl⟩ := hi.slice
  clear RA' RB' F7' hi t4 hT hN
  have ba : Below w7.heap.size w7 (w7.alloc (.cells (insA Ins.none (.slice am 0 cm)) 41)) := (Below.refl _ _).alloc (Nat.le_refl _) _
  have P7 := KR.out.below hP ba
  replace IX := Box'.mk (IX.out.below ba)
  replace IY := Box'.mk (IY.out.below ba)
  replace RA := Box'.mk (RA.out.below ba RA.out.lt)
  replace RB := Box'.mk (RB.out.below ba RB.out.lt)
  replace BB := Box'.mk (BB.out.trans (ba.mono BB.out.size))
  have k2 := HA.out _ F7 p sd6 9 P7 (by decide) (by decide)
  rw [show (ackF sd6 9).2 = 230 from sd_7] at k2
  clear hP P7 ba
  unfold uV at k2
  have e1 : insA Ins.none (.slice am 0 cm) = #[.int .u64 0, .int .u64 0, .int .u64 0, .int .u64 0, .slice am 0 cm] := rfl
  rw [e1] at k2 RA RB BB IX IY
  rw [show insA Ins.none (.slice am Ins.none.dif.length cm) = #[.int .u64 0, .int .u64 0, .int .u64 0, .int .u64 0, .slice am 0 cm] from rfl]
  clear e1
  go_wp2_with fail
  refine k2.mono ?_
  rintro e w8 ⟨F8, rfl, hP, hT, hN⟩
  replace RA := Box'.mk (RA.out.past NA.out hT hN).1
  replace RB := Box'.mk (RB.out.past NB.out hT hN).1
  replace IX := Box'.mk (IX.out.past hT hN)
  replace IY := Box'.mk (IY.out.past hT hN)
  replace BB := Box'.mk (BB.out.trans (hT.below BB.out.size FF.out))
  clear k2 hP hT hN NA NB FF HA HT KR
  have kv := fun (w : World) (C : Array Value) (n c : Nat) => Go.Lib.run_convert_bytes_const (P := Try.prog) w 39 5 C n c Try.underlying39 Try.underlying5
  have CA : Box' (∀ wz, Below w8.heap.size w8 wz → wz.cell? ⟨bx, 0, none⟩ = some (.int .u64 0) ∧ wz.cell? ⟨bx, 1, none⟩ = some (.int .u64 1) ∧ wz.cell? ⟨bx, 2, none⟩ = some (.int .u64 0) ∧ wz.cell? ⟨bx, 3, none⟩ = some (.int .u64 0) ∧ wz.cell? ⟨bx, 4, none⟩ = some (.slice ax 1 cx)) := ⟨fun wz hb => by
    have r := RA.out.below hb RA.out.lt
    exact ⟨r.cell 0, r.cell 1, r.cell 2, r.cell 3, r.cell 4⟩⟩
  have CB : Box' (∀ wz, Below w8.heap.size w8 wz → wz.cell? ⟨by_, 0, none⟩ = some (.int .u64 0) ∧ wz.cell? ⟨by_, 1, none⟩ = some (.int .u64 1) ∧ wz.cell? ⟨by_, 2, none⟩ = some (.int .u64 0) ∧ wz.cell? ⟨by_, 3, none⟩ = some (.int .u64 0) ∧ wz.cell? ⟨by_, 4, none⟩ = some (.slice ay 1 cy)) := ⟨fun wz hb => by
    have r := RB.out.below hb RB.out.lt
    exact ⟨r.cell 0, r.cell 1, r.cell 2, r.cell 3, r.cell 4⟩⟩
  have bm : Below w8.heap.size w8 (w8.alloc (.cells (ag [98]) 5 (1, 2))) := (Below.refl _ _).alloc (Nat.le_refl _) _
  have jx := IX.out.inB (N := w8.heap.size) (fun b h => h.1)
  have jy := IY.out.inB (N := w8.heap.size) (fun b h => h.1)
  have hz : w8.heap.size + 1 = (w8.alloc (.cells (ag [98]) 5 (1, 2))).heap.size := by simp
  have i1 := instr_eq sdX (.slice ax 1 cx) (.slice (some ⟨w8.heap.size, 0, none⟩) 1 1) (w8.alloc (.cells (ag [98]) 5 (1, 2))) ((jx.below bm (Nat.le_refl _)).up bm.size) (by rw [← hz]; exact mark_in w8 [98] 1 rfl (1, 2))
  have BM := Box'.mk (BB.out.trans (bm.mono BB.out.size))
  have B8 := Box'.mk bm
  have JX := Box'.mk jx
  have JY := Box'.mk jy
  obtain ⟨x0, x1, x2, x3, x4⟩ := CA.out w8 (Below.refl _ _)
  have e1 : insA sdX (.slice ax 1 cx) = #[.int .u64 0, .int .u64 1, .int .u64 0, .int .u64 0, .slice ax 1 cx] := rfl
  have e2 : insA sdX (.slice (some ⟨w8.heap.size, 0, none⟩) 1 1) = #[.int .u64 0, .int .u64 1, .int .u64 0, .int .u64 0, .slice (some ⟨w8.heap.size, 0, none⟩) 1 1] := rfl
  have e3 : ag [98] = #[.int .u8 98] := rfl
  rw [e1, e2, e3] at i1
  rw [e3] at BM B8
  clear e2 e3 bm jx jy hz IX IY RA RB BB
  go_wp2_with fail
  refine i1.mono ?_
  rintro e w9 ⟨rfl, hb⟩
  have bz := B8.out.trans (hb.mono B8.out.size)
  have i2 := instr_eq sdX (.slice ax 1 cx) (.slice ay 1 cy) w9 ((JX.out.below bz (Nat.le_refl _)).up bz.size) ((JY.out.below bz (Nat.le_refl _)).up bz.size)
  have e2 : insA sdX (.slice ay 1 cy) = #[.int .u64 0, .int .u64 1, .int .u64 0, .int .u64 0, .slice ay 1 cy] := rfl
  rw [e1, e2] at i2
  have BM2 := Box'.mk (BM.out.trans (hb.mono BM.out.size))
  clear x0 x1 x2 x3 x4
  obtain ⟨x0, x1, x2, x3, x4⟩ := CA.out w9 bz
  obtain ⟨y0, y1, y2, y3, y4⟩ := CB.out w9 bz
  clear i1 hb bz e1 e2 BM B8 JX JY CA CB
  go_wp2_with fail
  refine i2.mono ?_
  rintro e w10 ⟨rfl, hb⟩
  have BM3 := Box'.mk (BM2.out.trans (hb.mono BM2.out.size))
  clear i2 hb x0 x1 x2 x3 x4 y0 y1 y2 y3 y4
  go_wp2_with fail
  go_ret
  exact ⟨rfl, BM3.out⟩
end Go.Proofs.Ytikkekdmahdgaaa
