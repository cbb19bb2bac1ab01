/- The walk of the reference's Stored. -/
import Derived.Test.YtfbgackmjkancaaG
import Derived.Laws.DeepNot64
namespace Go.Proofs.Ytfbgackmjkancaa
open Go.RowKit Go.BigFrame

theorem hdr_ag2 (x : UInt8) (n : Nat) (h : n ≤ 65535) : ag (hdr x n) = #[.int .u8 (x.toNat : Int), .int .u8 ((n : Int) % 256), .int .u8 ((n : Int) / 256), .int .u8 (bits .xor .i64 (-1) (n : Int) % 256), .int .u8 (bits .xor .i64 (-1) (n : Int) / 256 % 256)] := by
  rw [i64_not n (by omega)]
  have e : ∀ k : Nat, k < 256 → ((UInt8.ofNat k).toNat : Int) = (k : Int) := fun k hk => by rw [UInt8.toNat_ofNat_of_lt' (by exact hk)]
  simp only [ag, hdr, List.map_cons, List.map_nil, B]
  rw [e _ (by omega), e _ (by omega), e _ (by omega), e _ (by omega), show ((-1 - (n : Int)) / 256 % 256) = (((65535 - n) / 256 : Nat) : Int) by omega, show ((n : Int) % 256) = ((n % 256 : Nat) : Int) by omega, show ((n : Int) / 256) = ((n / 256 : Nat) : Int) by omega, show ((-1 - (n : Int)) % 256) = (((65535 - n) % 256 : Nat) : Int) by omega]

set_option maxRecDepth 100000 in
set_option maxHeartbeats 2000000 in
theorem refStored_any (v : Value) (l : List UInt8) (hl : l.length ≤ 140737488355328) (w : World) (hi : InB w.heap.size w v l) :
    Calls Try.prog 10 #[v] w fun e w' => ∃ u, e = .returned (.tuple #[u, .int .i64 (stoE l)]) ∧ OwnB w.heap.size w' u (stoF l) ∧ Below w.heap.size w w' := by
  obtain ⟨a, c, rfl, hc⟩ := hi.slice
  have HI := Box'.mk hi
  clear hi
  by_cases hb : 65536 < l.length
  · have e1 : stoE l = 4 := by unfold stoE; rw [if_pos hb]
    have e2 : stoF l = [] := by unfold stoF; rw [if_pos hb]
    rw [e1, e2]
    have O0 := Box'.mk (OwnB.nil w.heap.size w)
    clear e1 e2 HI
    generalize l.length = n at *
    go_enter Try.func10, Try.ntmps10
    go_wp2_with fail
    go_ret2
    exact ⟨_, rfl, O0.out, Below.refl _ _⟩
  · have e1 : stoE l = 0 := by unfold stoE; rw [if_neg hb]
    have DN := Box'.mk (@StS.done l)
    have SP := Box'.mk (@StS.step l)
    have BD := Box'.mk (@StS.bound l)
    have ST := Box'.mk (@StS.start l)
    have hl6 : l.length ≤ 65536 := by omega
    have HL6 := Box'.mk hl6
    rw [e1]
    clear e1 hb hl
    generalize stoF l = SF at *
    generalize hn : l.length = n at *
    clear hn
    have hq9 : decide (65536 < (n : Int)) = false := decide_eq_false (by omega)
    go_enter Try.func10, Try.ntmps10
    go_wp2_with fail
    go_loopw [0, 4] (fun r u wr => ∃ (d rest : List UInt8), Box' (StS l d rest) ∧ Box' (OwnB w.heap.size wr u d) ∧ Box' (InB w.heap.size wr r rest) ∧ Below w.heap.size w wr) (fun r _ _ => lenV r)
    case atStart => exact ⟨[], l, ⟨.inl ⟨rfl, rfl⟩⟩, ⟨OwnB.nil _ _⟩, HI, Below.refl _ _⟩
    case round =>
      obtain ⟨d, rest, HS, HO, HR, hbl⟩ := hrel
      clear HI hl6 hc
      by_cases hr : rest.length ≤ 65535
      · have hmn : ¬ ((65535 : Int) < (rest.length : Int)) := by omega
        have DD := Box'.mk (DN.out HS.out HL6.out hr)
        obtain ⟨ar, cr, rfl, hcr⟩ := HR.out.slice
        generalize hm : rest.length = m at *
        have HM := Box'.mk hm
        obtain ⟨ao, co, rfl⟩ := HO.out.slice
        have r0 := Row.new wr 5 (ag (hdr 1 m))
        have i0 := r0.inB (n := 5) rfl
        have b0 : Below w.heap.size wr (wr.alloc (.cells (ag (hdr 1 m)) 5)) := (Below.refl _ _).alloc hbl.size _
        have o0 : OwnB w.heap.size (wr.alloc (.cells (ag (hdr 1 m)) 5)) (.slice ao d.length co) d := HO.out.alloc _
        have hN2 : w.heap.size ≤ (wr.alloc (.cells (ag (hdr 1 m)) 5)).heap.size := by have := hbl.size; simp; omega
        rw [hdr_ag2 _ _ hr] at i0 b0 o0 hN2
        have hdl := (BD.out HS.out HL6.out).1
        have HM1 : Box' (d.length + (hdr 1 m).length ≤ 1000000) := ⟨by have : (hdr 1 m).length = 5 := rfl; omega⟩
        have HM2 : Box' ((d ++ hdr 1 m).length + rest.length ≤ 1000000) := ⟨by rw [List.length_append, hm]; have : (hdr 1 m).length = 5 := rfl; omega⟩
        have I1 : Box' (∀ w3, Below w.heap.size wr w3 → InB w.heap.size w3 (.slice ar m cr) rest) := ⟨fun w3 hb => HR.out.below hb (Nat.le_refl _)⟩
        have B0 := Box'.mk b0
        clear b0 r0 HR HO HS SP BD ST HL6 DN hm
        go_wp2_with (first
          | (refine wpList_append_in rfl (.tmp 17) (.tmp 31) rfl w.heap.size _ hN2 _ d rfl o0 _ (hdr 1 m) rfl i0 HM1.out ?_; intro v3 w3 o3 b3; have B3 := Box'.mk (B0.out.trans b3); have i3 := I1.out w3 B3.out; have hN3 : w.heap.size ≤ w3.heap.size := Nat.le_trans hN2 b3.size; clear i0 o0 hN2 B0 I1 b3)
          | (refine wpList_append_in rfl (.tmp 33) (.tmp 36) rfl w.heap.size _ hN3 _ (d ++ hdr 1 m) rfl o3 _ rest rfl i3 HM2.out ?_; intro v4 w4 o4 b4; have B4 := Box'.mk (hbl.trans (B3.out.trans b4)); have O4 := Box'.mk o4; clear o3 i3 hN3 o4 b4 B3))
        all_goals (go_ret2; exact ⟨v4, rfl, by rw [← DD.out]; exact O4.out, B4.out⟩)
      · have hr2 := (ST.out HS.out HL6.out (by omega)).2
        have HS2 := Box'.mk (SP.out HS.out HL6.out (by omega))
        rcases HR.out with ⟨_, e0⟩ | ⟨b, o, cr, rfl, hcr, hbn, hrg⟩
        · rw [e0] at hr2; simp at hr2
        have hbN : b < w.heap.size := by
          rcases hbn with e0 | h
          · rw [e0] at hr2; simp at hr2
          · exact h
        obtain ⟨i1, i2⟩ := InB.cut (c := cr) (by omega) hr2 hbN hrg 65535 (by omega)
        have hlt : (rest.take 65535).length = 65535 := by rw [List.length_take]; omega
        obtain ⟨ao, co, rfl⟩ := HO.out.slice
        have r0 := Row.new wr 5 (ag (hdr 0 65535))
        have i0 := r0.inB (n := 5) rfl
        have b0 : Below w.heap.size wr (wr.alloc (.cells (ag (hdr 0 65535)) 5)) := (Below.refl _ _).alloc hbl.size _
        have o0 : OwnB w.heap.size (wr.alloc (.cells (ag (hdr 0 65535)) 5)) (.slice ao d.length co) d := HO.out.alloc _
        have hN2 : w.heap.size ≤ (wr.alloc (.cells (ag (hdr 0 65535)) 5)).heap.size := by have := hbl.size; simp; omega
        rw [hdr_ag2 _ _ (by omega)] at i0 b0 o0 hN2
        have hdl := (BD.out HS.out HL6.out).1
        have HM1 : Box' (d.length + (hdr 0 65535).length ≤ 1000000) := ⟨by have : (hdr 0 65535).length = 5 := rfl; omega⟩
        have HM2 : Box' ((d ++ hdr 0 65535).length + (rest.take 65535).length ≤ 1000000) := ⟨by rw [List.length_append, hlt]; have : (hdr 0 65535).length = 5 := rfl; omega⟩
        have I1 : Box' (∀ w3, Below w.heap.size wr w3 → InB w.heap.size w3 (.slice (some ⟨b, o, none⟩) 65535 cr) (rest.take 65535)) := ⟨fun w3 hb => i1.below hb (Nat.le_refl _)⟩
        have I2 : Box' (∀ w3, Below w.heap.size wr w3 → InB w.heap.size w3 (.slice (some ⟨b, o + 65535, none⟩) (65536 - 65535) (cr - 65535)) (rest.drop 65535)) := ⟨fun w3 hb => i2.below hb (Nat.le_refl _)⟩
        have B0 := Box'.mk b0
        rw [hr2] at hcr ⊢
        clear b0 r0 HR HO HS SP BD ST HL6 DN hr hbn hrg i1 i2 hr2 hlt
        go_wp2_with (first
          | (refine wpList_append_in rfl (.tmp 17) (.tmp 31) rfl w.heap.size _ hN2 _ d rfl o0 _ (hdr 0 65535) rfl i0 HM1.out ?_; intro v3 w3 o3 b3; have B3 := Box'.mk (B0.out.trans b3); have i3 := I1.out w3 B3.out; have hN3 : w.heap.size ≤ w3.heap.size := Nat.le_trans hN2 b3.size; clear i0 o0 hN2 B0 I1 b3)
          | (refine wpList_append_in rfl (.tmp 33) (.tmp 36) rfl w.heap.size _ hN3 _ (d ++ hdr 0 65535) rfl o3 _ (rest.take 65535) rfl i3 HM2.out ?_; intro v4 w4 o4 b4; have B4 := Box'.mk (hbl.trans (B3.out.trans b4)); have I4 := Box'.mk (I2.out w4 (B3.out.trans b4)); have O4 := Box'.mk o4; clear I2 o3 i3 hN3 o4 b4 B3))
        exact ⟨⟨_, _, HS2, O4, I4, B4.out⟩, by show (1 : Nat) < 65536; omega⟩
end Go.Proofs.Ytfbgackmjkancaa
