/- put. -/
import Derived.Test.YtfnlnbdlahckeaaDoorRc
import Derived.Test.YtfnlnbdlahckeaaDoorG
namespace Go.Proofs.YtfnlnbdlahckeaaDoor
open Go.RowKit Go.BigFrame
set_option linter.unusedVariables false
set_option linter.unusedSimpArgs false

/-- How put ends. -/
def PEnd (rb N : Nat) (m : Bool) (w : World) (d : List Int) (r : List Int × List UInt8) (e : Ending) (w' : World) : Prop :=
  ∃ v', e = .returned v' ∧ Row w' rb 45 (rdC m r.2) ∧ OwnR N w' v' (d ++ r.1) ∧ FrX rb N w w'
theorem goOn_any (rb N : Nat) (m : Bool) (a b : UInt8) (t : List UInt8) (w : World) (h : Row w rb 45 (rdC m (a :: t))) (hg : Gd (a :: t)) (hf : fol a.toNat (t.length + 1) b.toNat = true) (v : Value) (d : List Int) (ho : OwnR N w v d) (hN : N ≤ w.heap.size) (hd : d.length ≤ 1000000000) :
    Calls Tryd.prog 31 #[.pointer (some ⟨rb, 0, none⟩), v, .int .i64 (sz a.toNat : Int), .int .u8 (b.toNat : Int)] w (PEnd rb N m w d (putF (a :: t) b)) := by
  have hs4 := sz_le a.toNat
  have h2 := hg.2.1
  have hok := hg.2.2
  have hb := fol_bd hf
  have hb' : 128 ≤ b.toNat ∧ b.toNat ≤ 191 := ⟨hb.1, hb.2.1⟩
  rw [putF_cons, if_pos hf]
  match t, h, h2, hok with
  | [], h, h2, hok =>
    by_cases hl : 2 < sz a.toNat
    · rw [if_pos (by simpa using hl)]
      refine (goOn_more0 rb N m a b w h v d ho (sz a.toNat) hl).mono fun e w' hh => ?_
      obtain ⟨v', h1, h2, h3, h4⟩ := hh
      exact ⟨v', h1, h2, by rw [List.append_nil]; exact h3, h4⟩
    · have hs : sz a.toNat = 2 := by simp at h2; omega
      rw [if_neg (by simpa using hl), hs]
      exact goOn_end0 rb N m a b w h hb' hs v d ho hN hd
  | [x], h, h2, hok =>
    have hx : 128 ≤ x.toNat ∧ x.toNat ≤ 191 := by
      simp only [okF, Bool.and_true] at hok
      exact ⟨(fol_bd hok).1, (fol_bd hok).2.1⟩
    by_cases hl : 3 < sz a.toNat
    · rw [if_pos (by simpa using hl)]
      refine (goOn_more1 rb N m a b x w h v d ho (sz a.toNat) hl).mono fun e w' hh => ?_
      obtain ⟨v', h1, h2, h3, h4⟩ := hh
      exact ⟨v', h1, h2, by rw [List.append_nil]; exact h3, h4⟩
    · have hs : sz a.toNat = 3 := by simp at h2; omega
      rw [if_neg (by simpa using hl), hs]
      exact goOn_end1 rb N m a b x w h hx hb' hs v d ho hN hd
  | [x, y], h, h2, hok =>
    simp only [okF, Bool.and_true, Bool.and_eq_true] at hok
    have hx : 128 ≤ x.toNat ∧ x.toNat ≤ 191 := ⟨(fol_bd hok.1).1, (fol_bd hok.1).2.1⟩
    have hy : 128 ≤ y.toNat ∧ y.toNat ≤ 191 := ⟨(fol_bd hok.2).1, (fol_bd hok.2).2.1⟩
    have hs : sz a.toNat = 4 := by simp at h2; omega
    rw [if_neg (by simp; omega), hs]
    exact goOn_end2 rb N m a b x y w h hx hy hb' hs v d ho hN hd
  | x :: y :: z :: u, h, h2, hok => simp at h2; omega
theorem fld54 (f l z o h : Int) (w : World) : (Instr.field 54 (.agg #[.int .u8 f, .int .u8 l, .int .i64 z, .int .u8 o, .int .u8 h]) 2).run Tryd.prog w = .ok (.int .i64 z) w := by
  simp [Instr.field, underlying, Tryd.underlying54, part, isAgg, Tryd.underlying3, asAgg]
theorem Tab.x {rb N : Nat} {w w' : World} (h : Tab w) (hx : FrX rb N w w') (hr : rb ≠ 0) (hN : 0 < N) : Tab w' := by
  have e : w'.heap[0]? = w.heap[0]? := hx.block 0 h.lt (Ne.symm hr) (.inl hN)
  refine ⟨fun k hk j u hu => ?_, Nat.lt_of_lt_of_le h.lt hx.size⟩
  have := h.cells k hk j u hu
  unfold World.cell? at this ⊢
  rw [e]; exact this
set_option maxRecDepth 100000 in
set_option maxHeartbeats 4000000 in
theorem put_nil (rb N : Nat) (m : Bool) (b : UInt8) (w : World) (hT : Tab w) (hrb : rb ≠ 0) (h : Row w rb 45 (rdC m [])) (v : Value) (d : List Int) (ho : OwnR N w v d) (hN : N ≤ w.heap.size) (h0N : 0 < N) (hd : d.length ≤ 1000000000) :
    Calls Tryd.prog 23 #[.pointer (some ⟨rb, 0, none⟩), v, .int .u8 (b.toNat : Int)] w (PEnd rb N m w d (put0 b)) := by
  have c4 : w.cell? ⟨rb, 4, none⟩ = some (.int .i64 0) := by rw [h.cell]; rfl
  have HLD := Box'.mk (leadOf_any b.toNat b.toNat_lt w hT)
  have HR := Box'.mk h
  have HO := Box'.mk ho
  have HD := Box'.mk hd
  have HN := Box'.mk hN
  have HP : Box' (put0 b = if sz b.toNat = 0 then ([65533], []) else if sz b.toNat = 1 then ([(b.toNat : Int)], []) else ([], [b])) := ⟨rfl⟩
  generalize put0 b = P at *
  obtain ⟨a1, cc, hv⟩ := ho.slice
  subst hv
  obtain ⟨D, hD⟩ : ∃ D, D = d := ⟨_, rfl⟩
  clear h ho hd hN hT
  generalize hdl : d.length = dl at *
  have HDL := Box'.mk hdl
  clear hdl
  go_enter Tryd.func23, Tryd.ntmps23
  go_wp2_with fail
  refine HLD.out.mono ?_
  rintro e w1 ⟨vl, rfl, hld, b1⟩
  have HN1 : Box' (N ≤ w1.heap.size) := ⟨Nat.le_trans HN.out b1.size⟩
  have HR1 : Box' (Row w1 rb 45 (rdC m [])) := ⟨HR.out.below b1 HR.out.lt⟩
  have HO1 : Box' (OwnR N w1 (.slice a1 dl cc) d) := ⟨HO.out.below b1⟩
  have HX1 : Box' (FrX rb N w w1) := ⟨FrX.of b1⟩
  have HDE : Box' (D = d ++ []) := ⟨by rw [List.append_nil, hD]⟩
  rw [← hD] at HO1 HDL
  clear HLD HR HO HN b1 hD
  obtain ⟨f, l, o, hh, rfl, -⟩ := hld
  by_cases h0 : sz b.toNat = 0
  · have e := HP.out
    rw [if_pos h0] at e
    rw [h0]
    have cf := fld54 f l 0 o hh w1
    have HE := Box'.mk e
    clear HP h0 e
    go_wp2_with (refine wpList_appR rfl _ _ rfl N _ (Nat.le_trans HN1.out (by simp)) _ D rfl (HO1.out.alloc _) _ [65533] rfl (one_inR w1 65533) (by rw [HDL.out]; have := HD.out; simp; omega) ?_; intro v2 w2 o2 f2)
    have F2 : FrR N w1 w2 := ((FrR.refl N w1).alloc _).trans f2
    have R2 := F2.row HR1.out (by decide)
    have X2 := HX1.out.trans (FrX.fr (rb := rb) F2)
    have E2 := HDE.out
    clear f2 F2 HR1 HX1 HO1 cf HDE
    go_wp2_with fail
    go_ret
    rw [E2, List.append_assoc] at o2; rw [HE.out]; exact ⟨_, rfl, R2, o2, X2⟩
  · by_cases h1 : sz b.toNat = 1
    · have e := HP.out
      rw [if_neg h0, if_pos h1] at e
      rw [h1]
      have cf := fld54 f l 1 o hh w1
      have HE := Box'.mk e
      have BL := b.toNat_lt
      clear HP h0 e h1
      go_wp2_with (refine wpList_appR rfl _ _ rfl N _ (Nat.le_trans HN1.out (by simp)) _ D rfl (HO1.out.alloc _) _ [(b.toNat : Int)] rfl (one_inR w1 (b.toNat : Int)) (by rw [HDL.out]; have := HD.out; simp; omega) ?_; intro v2 w2 o2 f2)
      have F2 : FrR N w1 w2 := ((FrR.refl N w1).alloc _).trans f2
      have R2 := F2.row HR1.out (by decide)
      have X2 := HX1.out.trans (FrX.fr (rb := rb) F2)
      have E2 := HDE.out
      clear f2 F2 HR1 HX1 HO1 cf HDE
      go_wp2_with fail
      go_ret
      rw [E2, List.append_assoc] at o2; rw [HE.out]; exact ⟨_, rfl, R2, o2, X2⟩
    · have e := HP.out
      rw [if_neg h0, if_neg h1] at e
      have HE := Box'.mk e
      have hz0 : ¬ ((sz b.toNat : Int) = 0) := by omega
      have hz1 : ¬ ((sz b.toNat : Int) = 1) := by omega
      generalize sz b.toNat = z at *
      have cf := fld54 f l z o hh w1
      have k1 : w1.cell? ⟨rb, 1, none⟩ = some (.int .u8 0) := by rw [HR1.out.cell]; rfl
      have k4 : w1.cell? ⟨rb, 4, none⟩ = some (.int .i64 0) := by rw [HR1.out.cell]; rfl
      have f1 := HR1.out.frozen 1
      have f4 := HR1.out.frozen 4
      clear HP h0 h1 e
      go_wp2_with fail
      go_ret
      have r2 := (HR1.out.setCell 1 (B b)).setCell 4 (.int .i64 1)
      have o2 := (HO1.out.setCell HR1.out 1 (B b)).setCell (HR1.out.setCell 1 (B b)) 4 (.int .i64 1)
      have x2 := (HX1.out.setCell 1 (B b)).setCell 4 (.int .i64 1)
      rw [HE.out]
      exact ⟨_, rfl, r2, by rw [HDE.out] at o2; first | exact o2 | (simpa using o2), by first | exact x2 | exact x2.drewN 1⟩
set_option maxRecDepth 100000 in
set_option maxHeartbeats 4000000 in
theorem put_on (rb N : Nat) (m : Bool) (a b : UInt8) (t : List UInt8) (w : World) (hT : Tab w) (hrb : rb ≠ 0) (h : Row w rb 45 (rdC m (a :: t))) (hg : Gd (a :: t)) (hf : fol a.toNat (t.length + 1) b.toNat = true) (v : Value) (d : List Int) (ho : OwnR N w v d) (hN : N ≤ w.heap.size) (h0N : 0 < N) (hd : d.length ≤ 1000000000) :
    Calls Tryd.prog 23 #[.pointer (some ⟨rb, 0, none⟩), v, .int .u8 (b.toNat : Int)] w (PEnd rb N m w d (putF (a :: t) b)) := by
  have c4 : w.cell? ⟨rb, 4, none⟩ = some (.int .i64 ((a :: t).length : Int)) := by rw [h.cell]; rfl
  have c1 : w.cell? ⟨rb, 1, none⟩ = some (.int .u8 (a.toNat : Int)) := by rw [h.cell]; rfl
  have HLD := Box'.mk (leadOf_any a.toNat a.toNat_lt w hT)
  have HM := Box'.mk (fun v w' (hv : LdOk a.toNat v) => mayFollow_any a.toNat v hv hg.1 (t.length + 1) b.toNat b.toNat_lt w')
  have HGO := Box'.mk (fun w' (hb : Below w.heap.size w w') => goOn_any rb N m a b t w' (h.below hb h.lt) hg hf v d (ho.below hb) (Nat.le_trans hN hb.size) hd)
  rw [hf] at HM
  have HL := Box'.mk h.lt
  obtain ⟨a1, cc, hv⟩ := ho.slice
  subst hv
  clear h ho hd hN hT hf hg
  rw [List.length_cons] at c4
  generalize putF (a :: t) b = P at *
  generalize d.length = dl at *
  generalize t.length = tl at *
  have hpos : (0 : Int) < (tl : Int) + 1 := by omega
  go_enter Tryd.func23, Tryd.ntmps23
  go_wp2_with fail
  refine HLD.out.mono ?_
  rintro e w1 ⟨vl, rfl, hld, b1⟩
  have HB1 := Box'.mk b1
  have HM1 := Box'.mk (HM.out vl)
  have k4 : w1.cell? ⟨rb, 4, none⟩ = some (.int .i64 ((tl : Int) + 1)) := by rw [(bcell b1).1 _ _ HL.out]; exact c4
  have HLDD := Box'.mk hld
  obtain ⟨f, l, o, hh, rfl, -⟩ := hld
  clear b1 HLD HM c4 c1
  generalize hsz : sz a.toNat = z at *
  have cf := fun w => fld54 f l z o hh w
  go_wp2_with fail
  have AL := Box'.mk (HB1.out.alloc HB1.out.size (.cells #[.int .u8 (f : Int), .int .u8 (l : Int), .int .i64 (z : Int), .int .u8 (o : Int), .int .u8 (hh : Int)] 54))
  have RL := Box'.mk (Row.new w1 54 #[.int .u8 (f : Int), .int .u8 (l : Int), .int .i64 (z : Int), .int .u8 (o : Int), .int .u8 (hh : Int)])
  have k4' : (w1.alloc (.cells #[.int .u8 (f : Int), .int .u8 (l : Int), .int .i64 (z : Int), .int .u8 (o : Int), .int .u8 (hh : Int)] 54)).cell? ⟨rb, 4, none⟩ = some (.int .i64 ((tl : Int) + 1)) := by rw [(bcell ((Below.refl w1.heap.size w1).alloc (Nat.le_refl _) _)).1 _ _ (Nat.lt_of_lt_of_le HL.out HB1.out.size)]; exact k4
  refine wp_region_tail 6 (by kernel_rfl) (by kernel_rfl) ?_
  simp only [List.take_succ_cons, List.take_zero, List.drop_succ_cons, List.drop_zero]
  repeat (go_big_quiet_step (fail))
  refine wpQuiet_nil ?_
  generalize hW2 : World.drew (World.alloc w1 _) = W2
  have HB2 : Box' (Below w.heap.size w W2) := ⟨by rw [← hW2]; exact AL.out.drew⟩
  have HR2 : Box' (Row W2 w1.heap.size 54 #[.int .u8 (f : Int), .int .u8 (l : Int), .int .i64 (z : Int), .int .u8 (o : Int), .int .u8 (hh : Int)]) := ⟨by rw [← hW2]; exact RL.out⟩
  clear hW2 AL RL k4 k4' HB1
  go_wp2_with fail
  refine (HM1.out W2 HLDD.out).mono ?_
  rintro e w3 ⟨rfl, b3⟩
  have HB3 := Box'.mk (HB2.out.trans (b3.mono HB2.out.size))
  have r3 := HR2.out.below b3 HR2.out.lt
  have k3 : w3.cell? ⟨w1.heap.size, 2, none⟩ = some (.int .i64 (z : Int)) := by rw [r3.cell]; rfl
  clear HB2 HR2 HM1 b3 r3
  go_wp2_with fail
  refine (HGO.out w3 HB3.out).mono ?_
  rintro e w4 ⟨v4, rfl, r4, o4, x4⟩
  have X4 := (FrX.of (rb := rb) (N := N) HB3.out).trans x4
  clear HGO HB3 k3 cf HLDD x4
  go_wp2_with fail
  go_ret
  exact ⟨_, rfl, r4, o4, X4⟩
set_option maxRecDepth 100000 in
set_option maxHeartbeats 4000000 in
theorem put_off (rb N : Nat) (m : Bool) (a b : UInt8) (t : List UInt8) (w : World) (hT : Tab w) (hrb : rb ≠ 0) (h : Row w rb 45 (rdC m (a :: t))) (hg : Gd (a :: t)) (hf : fol a.toNat (t.length + 1) b.toNat = false) (v : Value) (d : List Int) (ho : OwnR N w v d) (hN : N ≤ w.heap.size) (h0N : 0 < N) (hd : d.length ≤ 1000000000) :
    Calls Tryd.prog 23 #[.pointer (some ⟨rb, 0, none⟩), v, .int .u8 (b.toNat : Int)] w (PEnd rb N m w d (putF (a :: t) b)) := by
  have c4 : w.cell? ⟨rb, 4, none⟩ = some (.int .i64 ((a :: t).length : Int)) := by rw [h.cell]; rfl
  have c1 : w.cell? ⟨rb, 1, none⟩ = some (.int .u8 (a.toNat : Int)) := by rw [h.cell]; rfl
  have HLD := Box'.mk (leadOf_any a.toNat a.toNat_lt w hT)
  have HM := Box'.mk (fun v w' (hv : LdOk a.toNat v) => mayFollow_any a.toNat v hv hg.1 (t.length + 1) b.toNat b.toNat_lt w')
  have HGO := Box'.mk (fun w' (hb : Below w.heap.size w w') => finish_any rb N m (a :: t) w' (h.below hb h.lt) v d (ho.below hb) (Nat.le_trans hN hb.size) hd)
  have HLD2 := Box'.mk (fun w' (hb : FrX rb N w w') => leadOf_any b.toNat b.toNat_lt w' (hT.x hb hrb h0N))
  have HP : Box' (put0 b = if sz b.toNat = 0 then ([65533], []) else if sz b.toNat = 1 then ([(b.toNat : Int)], []) else ([], [b])) := ⟨rfl⟩
  have HPE : Box' (putF (a :: t) b = (65533 :: (put0 b).1, (put0 b).2)) := ⟨by rw [putF_cons, hf, if_neg (by decide)]⟩
  have HN := Box'.mk hN
  have HD0 : Box' (d.length + 1 ≤ 1000000001) := ⟨by omega⟩
  rw [hf] at HM
  have HL := Box'.mk h.lt
  obtain ⟨a1, cc, hv⟩ := ho.slice
  subst hv
  clear h ho hd hN hT hf hg
  rw [List.length_cons] at c4
  generalize putF (a :: t) b = P1 at *
  generalize put0 b = P at *
  generalize hdl0 : d.length = dl at *
  have HDL0 := Box'.mk hdl0
  clear hdl0
  generalize t.length = tl at *
  have hpos : (0 : Int) < (tl : Int) + 1 := by omega
  go_enter Tryd.func23, Tryd.ntmps23
  go_wp2_with fail
  refine HLD.out.mono ?_
  rintro e w1 ⟨vl, rfl, hld, b1⟩
  have HB1 := Box'.mk b1
  have HM1 := Box'.mk (HM.out vl)
  have k4 : w1.cell? ⟨rb, 4, none⟩ = some (.int .i64 ((tl : Int) + 1)) := by rw [(bcell b1).1 _ _ HL.out]; exact c4
  have HLDD := Box'.mk hld
  obtain ⟨f, l, o, hh, rfl, -⟩ := hld
  clear b1 HLD HM c4 c1
  generalize hsz : sz a.toNat = z at *
  have cf := fun w => fld54 f l z o hh w
  go_wp2_with fail
  have AL := Box'.mk (HB1.out.alloc HB1.out.size (.cells #[.int .u8 (f : Int), .int .u8 (l : Int), .int .i64 (z : Int), .int .u8 (o : Int), .int .u8 (hh : Int)] 54))
  have RL := Box'.mk (Row.new w1 54 #[.int .u8 (f : Int), .int .u8 (l : Int), .int .i64 (z : Int), .int .u8 (o : Int), .int .u8 (hh : Int)])
  have k4' : (w1.alloc (.cells #[.int .u8 (f : Int), .int .u8 (l : Int), .int .i64 (z : Int), .int .u8 (o : Int), .int .u8 (hh : Int)] 54)).cell? ⟨rb, 4, none⟩ = some (.int .i64 ((tl : Int) + 1)) := by rw [(bcell ((Below.refl w1.heap.size w1).alloc (Nat.le_refl _) _)).1 _ _ (Nat.lt_of_lt_of_le HL.out HB1.out.size)]; exact k4
  refine wp_region_tail 6 (by kernel_rfl) (by kernel_rfl) ?_
  simp only [List.take_succ_cons, List.take_zero, List.drop_succ_cons, List.drop_zero]
  repeat (go_big_quiet_step (fail))
  refine wpQuiet_nil ?_
  generalize hW2 : World.drew (World.alloc w1 _) = W2
  have HB2 : Box' (Below w.heap.size w W2) := ⟨by rw [← hW2]; exact AL.out.drew⟩
  have HR2 : Box' (Row W2 w1.heap.size 54 #[.int .u8 (f : Int), .int .u8 (l : Int), .int .i64 (z : Int), .int .u8 (o : Int), .int .u8 (hh : Int)]) := ⟨by rw [← hW2]; exact RL.out⟩
  clear hW2 AL RL k4 k4' HB1
  go_wp2_with fail
  refine (HM1.out W2 HLDD.out).mono ?_
  rintro e w3 ⟨rfl, b3⟩
  have HB3 := Box'.mk (HB2.out.trans (b3.mono HB2.out.size))
  have r3 := HR2.out.below b3 HR2.out.lt
  have k3 : w3.cell? ⟨w1.heap.size, 2, none⟩ = some (.int .i64 (z : Int)) := by rw [r3.cell]; rfl
  clear HB2 HR2 HM1 b3 r3 k3
  go_wp2_with fail
  refine (HGO.out w3 HB3.out).mono ?_
  rintro e w4 ⟨v4, rfl, r4, o4, x4⟩
  have X4 := (FrX.of (rb := rb) (N := N) HB3.out).trans x4
  have HLD3 := Box'.mk (HLD2.out w4 X4)
  obtain ⟨a4, c4', hv4⟩ := o4.slice
  subst hv4
  have HR4 := Box'.mk r4
  have HO4 := Box'.mk o4
  have HX4 := Box'.mk X4
  have HN4 : Box' (N ≤ w4.heap.size) := ⟨Nat.le_trans HN.out X4.size⟩
  clear HGO HB3 cf HLDD x4 r4 o4 X4 HLD2 hsz HN
  have HD : Box' ((d ++ finF (a :: t)).length ≤ 1000000001) := ⟨by rw [List.length_append, HDL0.out]; simpa [finF] using HD0.out⟩
  have HDE : Box' (d ++ finF (a :: t) = d ++ [65533]) := ⟨rfl⟩
  obtain ⟨D, hDD⟩ : ∃ D, D = d ++ finF (a :: t) := ⟨_, rfl⟩
  rw [← hDD] at HD HO4 HDE ⊢
  clear hDD
  generalize hdl : D.length = dl2 at *
  have HDL := Box'.mk hdl
  clear hdl
  go_wp2_with fail
  refine HLD3.out.mono ?_
  rintro e w1 ⟨vl, rfl, hld, b1⟩
  have HN1 : Box' (N ≤ w1.heap.size) := ⟨Nat.le_trans HN4.out b1.size⟩
  have HR1 : Box' (Row w1 rb 45 (rdC m [])) := ⟨HR4.out.below b1 HR4.out.lt⟩
  have HO1 : Box' (OwnR N w1 (.slice a4 dl2 c4') D) := ⟨HO4.out.below b1⟩
  have HX1 : Box' (FrX rb N w w1) := ⟨HX4.out.trans (FrX.of b1)⟩
  clear HLD3 HR4 HO4 HN4 HX4 b1
  obtain ⟨f, l, o, hh, rfl, -⟩ := hld
  by_cases h0 : sz b.toNat = 0
  · have e := HP.out
    rw [if_pos h0] at e
    rw [h0]
    have cf := fld54 f l 0 o hh w1
    have HE := Box'.mk e
    clear HP h0 e
    go_wp2_with (refine wpList_appR rfl _ _ rfl N _ (Nat.le_trans HN1.out (by simp)) _ D rfl (HO1.out.alloc _) _ [65533] rfl (one_inR w1 65533) (by rw [HDL.out]; have := HD.out; simp; omega) ?_; intro v2 w2 o2 f2)
    have F2 : FrR N w1 w2 := ((FrR.refl N w1).alloc _).trans f2
    have R2 := F2.row HR1.out (by decide)
    have X2 := HX1.out.trans (FrX.fr (rb := rb) F2)
    have E2 := HDE.out
    clear f2 F2 HR1 HX1 HO1 cf HDE
    go_wp2_with fail
    go_ret
    rw [E2, List.append_assoc] at o2; rw [HPE.out, HE.out]; exact ⟨_, rfl, R2, o2, X2⟩
  · by_cases h1 : sz b.toNat = 1
    · have e := HP.out
      rw [if_neg h0, if_pos h1] at e
      rw [h1]
      have cf := fld54 f l 1 o hh w1
      have HE := Box'.mk e
      have BL := b.toNat_lt
      clear HP h0 e h1
      go_wp2_with (refine wpList_appR rfl _ _ rfl N _ (Nat.le_trans HN1.out (by simp)) _ D rfl (HO1.out.alloc _) _ [(b.toNat : Int)] rfl (one_inR w1 (b.toNat : Int)) (by rw [HDL.out]; have := HD.out; simp; omega) ?_; intro v2 w2 o2 f2)
      have F2 : FrR N w1 w2 := ((FrR.refl N w1).alloc _).trans f2
      have R2 := F2.row HR1.out (by decide)
      have X2 := HX1.out.trans (FrX.fr (rb := rb) F2)
      have E2 := HDE.out
      clear f2 F2 HR1 HX1 HO1 cf HDE
      go_wp2_with fail
      go_ret
      rw [E2, List.append_assoc] at o2; rw [HPE.out, HE.out]; exact ⟨_, rfl, R2, o2, X2⟩
    · have e := HP.out
      rw [if_neg h0, if_neg h1] at e
      have HE := Box'.mk e
      have hz0 : ¬ ((sz b.toNat : Int) = 0) := by omega
      have hz1 : ¬ ((sz b.toNat : Int) = 1) := by omega
      generalize sz b.toNat = z at *
      have cf := fld54 f l z o hh w1
      have k1 : w1.cell? ⟨rb, 1, none⟩ = some (.int .u8 0) := by rw [HR1.out.cell]; rfl
      have k4 : w1.cell? ⟨rb, 4, none⟩ = some (.int .i64 0) := by rw [HR1.out.cell]; rfl
      have f1 := HR1.out.frozen 1
      have f4 := HR1.out.frozen 4
      clear HP h0 h1 e
      go_wp2_with fail
      go_ret
      have r2 := (HR1.out.setCell 1 (B b)).setCell 4 (.int .i64 1)
      have o2 := (HO1.out.setCell HR1.out 1 (B b)).setCell (HR1.out.setCell 1 (B b)) 4 (.int .i64 1)
      have x2 := (HX1.out.setCell 1 (B b)).setCell 4 (.int .i64 1)
      rw [HPE.out, HE.out]
      exact ⟨_, rfl, r2, by rw [HDE.out] at o2; first | exact o2 | (simpa using o2), by first | exact x2 | exact x2.drewN 1⟩
theorem put_any (rb N : Nat) (m : Bool) (S : List UInt8) (b : UInt8) (w : World) (hT : Tab w) (hrb : rb ≠ 0) (h : Row w rb 45 (rdC m S)) (hg : Gd S) (v : Value) (d : List Int) (ho : OwnR N w v d) (hN : N ≤ w.heap.size) (h0N : 0 < N) (hd : d.length ≤ 1000000000) :
    Calls Tryd.prog 23 #[.pointer (some ⟨rb, 0, none⟩), v, .int .u8 (b.toNat : Int)] w (PEnd rb N m w d (putF S b)) := by
  cases S with
  | nil => exact put_nil rb N m b w hT hrb h v d ho hN h0N hd
  | cons a t =>
    cases hf : fol a.toNat (t.length + 1) b.toNat with
    | true => exact put_on rb N m a b t w hT hrb h hg hf v d ho hN h0N hd
    | false => exact put_off rb N m a b t w hT hrb h hg hf v d ho hN h0N hd
end Go.Proofs.YtfnlnbdlahckeaaDoor
