/- Bytes that came in, appended; the walk of store. -/
import Derived.Test.YtcjfaahlchbcmaaK03
import Derived.Laws.AppendOwnNone
import Derived.Laws.DeepNot64
import Derived.Test.YtcjfaahlchbcmaaK04
import Derived.Lib.SlBytesConst
namespace Go.Proofs.Ytcjfaahlchbcmaa
open Go.RowKit Go.BigFrame
def InB (N : Nat) (w : World) (v : Value) (l : List UInt8) : Prop :=
  (v = .slice none 0 0 ∧ l = []) ∨ ∃ b o c, v = .slice (some ⟨b, o, none⟩) l.length c ∧ l.length ≤ c ∧ (l = [] ∨ b < N) ∧ w.rangeAt b o (l.map B)
theorem InB.slice {N : Nat} {w : World} {v : Value} {l : List UInt8} (h : InB N w v l) : ∃ a c, v = .slice a l.length c ∧ l.length ≤ c := by
  rcases h with ⟨rfl, rfl⟩ | ⟨b, o, c, rfl, hc, _⟩
  · exact ⟨_, _, rfl, Nat.le_refl _⟩
  · exact ⟨_, _, rfl, hc⟩
theorem InB.below {N M : Nat} {w w' : World} {v : Value} {l : List UInt8} (h : InB N w v l) (hb : Below M w w') (hN : N ≤ M) : InB N w' v l := by
  rcases h with h | ⟨b, o, c, h1, h2, h3, h4⟩
  · exact .inl h
  · refine .inr ⟨b, o, c, h1, h2, h3, ?_⟩
    rcases h3 with rfl | h3
    · intro j u hu; simp at hu
    · exact range_below h4 hb (by omega)
theorem InB.up {N M : Nat} {w : World} {v : Value} {l : List UInt8} (h : InB N w v l) (hN : N ≤ M) : InB M w v l := by
  rcases h with h | ⟨b, o, c, h1, h2, h3, h4⟩
  · exact .inl h
  · exact .inr ⟨b, o, c, h1, h2, h3.imp id (fun h => by omega), h4⟩
theorem wpList_append_in {ops : Array Oper} {rest : List Oper} {o : Oper} {a : Act} {w : World} {Q : Exit → Act → World → Prop} (hgd : o.guard = none) (s x : Operand)
    (ho : o.op = .call { callee := .builtin .append, args := #[s, x], argTypes := #[23, 23] }) (N M : Nat) (hN : N ≤ w.heap.size)
    (v : Value) (d : List UInt8) (hs : a.eval s = v) (hown : OwnB N w v d) (vx : Value) (l : List UInt8) (hx : a.eval x = vx) (hin : InB M w vx l) (hmax : d.length + l.length ≤ 1000000)
    (h : ∀ v' w', OwnB N w' v' (d ++ l) → Below N w w' → wpList Try.prog ops Q rest (a.put o.dst v') w') : wpList Try.prog ops Q (o :: rest) a w := by
  obtain ⟨i, h1, h2, h3, h4⟩ := Try.info5a
  rcases hin with ⟨rfl, rfl⟩ | ⟨b, off, c, rfl, hc, hb, hr⟩
  · refine wpList_append_own_none hgd s x 23 ho N 5 i 1 Try.underlying23 h1 v d.length (d.map B) hs hown hx ?_
    exact h v w (by rw [List.append_nil]; exact hown) (Below.refl _ _)
  · obtain ⟨v', w', hr, g2, g3, _⟩ := run_append_own (P := Try.prog) w N 23 o.type 5 i _ 1 1 Try.underlying23 h1 h2 h3 h4 rfl (by decide) v d.length (d.map B) hown ⟨b, off, none⟩ l.length c (l.map B) (by rw [List.length_map, Nat.mul_one]) (fun j u hu => by rw [Addr.add_mid]; exact hr j u hu) (one_By l) (by unfold maxLen; omega) (by omega) hN
    have g2' : OwnB N w' v' (d ++ l) := by unfold OwnB; rw [List.length_append, List.map_append]; exact g2
    refine wpList_plain hgd fun K hK => ?_
    unfold Oper.wp execOp
    simp only [ho, resolve, invoke, builtin, Sem.run_bind, Sem.run_pure, Result.andThen_ok, List.map_toArray, List.map_cons, List.map_nil, hs, hx, hr]
    exact hK _ _ (h v' w' g2' (grown_below hown g3 hN))
theorem xor16 (n : Nat) (h : n < 65536) : 65535 ^^^ n = 65535 - n := by
  apply Nat.eq_of_testBit_eq
  intro i
  rw [Nat.testBit_xor, show 65535 = 2 ^ 16 - 1 from rfl, Nat.testBit_two_pow_sub_one, show 2 ^ 16 - 1 - n = 2 ^ 16 - (n + 1) by omega, Nat.testBit_two_pow_sub_succ (show n < 2 ^ 16 from h)]
  by_cases hi : i < 16
  · simp [hi]
  · have : n.testBit i = false := Nat.testBit_lt_two_pow (Nat.lt_of_lt_of_le h (Nat.pow_le_pow_right (n := 2) (by decide) (show 16 ≤ i by omega)))
    simp [hi, this]
theorem not16 (n : Nat) (h : n < 65536) : bits .xor .u16 IntKind.u16.max (n : Int) = ((65535 - n : Nat) : Int) := by
  rw [show IntKind.u16.max = ((65535 : Nat) : Int) from rfl, u16_xor_nat _ _ (by decide) h, xor16 n h]
def hdr (x : UInt8) (n : Nat) : List UInt8 := [x, UInt8.ofNat (n % 256), UInt8.ofNat (n / 256), UInt8.ofNat ((65535 - n) % 256), UInt8.ofNat ((65535 - n) / 256)]
theorem hdr_ag (x : UInt8) (n : Nat) (h : n ≤ 65535) : ag (hdr x n) = #[.int .u8 (x.toNat : Int), .int .u8 ((n : Int) % 256), .int .u8 ((n : Int) / 256), .int .u8 (bits .xor .u16 IntKind.u16.max (n : Int) % 256), .int .u8 (bits .xor .u16 IntKind.u16.max (n : Int) / 256 % 256)] := by
  rw [not16 n (by omega)]
  have e : ∀ k : Nat, k < 256 → ((UInt8.ofNat k).toNat : Int) = (k : Int) := fun k hk => by rw [UInt8.toNat_ofNat_of_lt' (by exact hk)]
  simp only [ag, hdr, List.map_cons, List.map_nil, B]
  rw [e _ (by omega), e _ (by omega), e _ (by omega), e _ (by omega), show (((65535 - n : Nat) : Int) / 256 % 256) = (((65535 - n) / 256 : Nat) : Int) by omega, show ((n : Int) % 256) = ((n % 256 : Nat) : Int) by omega, show ((n : Int) / 256) = ((n / 256 : Nat) : Int) by omega, show (((65535 - n : Nat) : Int) % 256) = (((65535 - n) % 256 : Nat) : Int) by omega]
theorem Row.inB {w : World} {g : Nat} {l : List UInt8} {n : Nat} (h : Row w g 5 (ag l)) (hn : l.length = n) : InB w.heap.size w (.slice (some ⟨g, 0, none⟩) n n) l :=
  .inr ⟨g, 0, n, by rw [hn], by omega, .inr h.lt, fun j u hu => by rw [Nat.zero_add, h.cell]; simpa [ag] using hu⟩
set_option maxRecDepth 100000 in
set_option maxHeartbeats 2000000 in
theorem store_any (N : Nat) (w : World) (vs vb : Value) (d l : List UInt8) (x : UInt8) (hd : d.length ≤ 100000) (hl : l.length ≤ 65535) (hN : N ≤ w.heap.size) (ho : OwnB N w vs d) (hi : InB N w vb l) :
    Calls Try.prog 19 #[vs, .int .u8 (x.toNat : Int), vb] w fun e w' => ∃ u, e = .returned u ∧ OwnB N w' u (d ++ hdr x l.length ++ l) ∧ Below N w w' := by
  obtain ⟨a, c, rfl, hc⟩ := hi.slice
  have HI := Box'.mk hi
  have HO := Box'.mk ho
  obtain ⟨ao, co, rfl⟩ := ho.slice
  clear hi ho
  have HD := Box'.mk hd
  have HLL := Box'.mk hl
  generalize hn : l.length = n at *
  have HNL := Box'.mk hn
  have r0 := Row.new w 5 (ag (hdr x n))
  have i0 := r0.inB (n := 5) rfl
  have b0 : Below N w (w.alloc (.cells (ag (hdr x n)) 5)) := (Below.refl N w).alloc hN _
  have o0 : OwnB N (w.alloc (.cells (ag (hdr x n)) 5)) (.slice ao d.length co) d := HO.out.alloc _
  have hN2 : N ≤ (w.alloc (.cells (ag (hdr x n)) 5)).heap.size := by simp; omega
  rw [hdr_ag x n hl] at i0 b0 o0 hN2
  have hmx : d.length + (hdr x n).length ≤ 1000000 := by have : (hdr x n).length = 5 := rfl; omega
  have hmx2 : (d ++ hdr x n).length + l.length ≤ 1000000 := by rw [List.length_append, hn]; have : (hdr x n).length = 5 := rfl; omega
  have HM := Box'.mk hmx
  have HM2 := Box'.mk hmx2
  have I1 : Box' (∀ w3, Below N w w3 → InB N w3 (.slice a n c) l) := ⟨fun w3 hb => HI.out.below hb (Nat.le_refl _)⟩
  clear hn hmx hmx2 r0 HO HI hd
  have B0 := Box'.mk b0
  clear b0
  go_enter Try.func19, Try.ntmps19
  go_wp2_with (first
    | (refine wpList_append_in rfl (.tmp 14) (.tmp 26) rfl N _ hN2 _ d rfl o0 _ (hdr x n) rfl i0 HM.out ?_; intro v3 w3 o3 b3; have B3 := Box'.mk (B0.out.trans b3); have i3 := I1.out w3 B3.out; have hN3 : N ≤ w3.heap.size := Nat.le_trans hN2 b3.size; clear i0 o0 hN2 B0 I1 b3)
    | (refine wpList_append_in rfl (.tmp 28) (.tmp 29) rfl N _ hN3 _ (d ++ hdr x n) rfl o3 _ l rfl i3 HM2.out ?_; intro v4 w4 o4 b4; have B4 := Box'.mk (B3.out.trans b4); have O4 := Box'.mk o4; clear o3 i3 hN3 o4 b4 B3))
  go_ret
  exact ⟨v4, rfl, by rw [← List.append_assoc]; exact O4.out, B4.out⟩
def stoF (l : List UInt8) : List UInt8 :=
  if 65536 < l.length then [] else if l.length ≤ 65535 then hdr 1 l.length ++ l else hdr 0 65535 ++ l.take 65535 ++ hdr 1 (l.drop 65535).length ++ l.drop 65535
def stoE (l : List UInt8) : Int := if 65536 < l.length then 4 else 0
def StS (l d r : List UInt8) : Prop := (d = [] ∧ r = l) ∨ (65535 < l.length ∧ d = hdr 0 65535 ++ l.take 65535 ∧ r = l.drop 65535)
theorem StS.done {l d r : List UInt8} (h : StS l d r) (hl : l.length ≤ 65536) (hr : r.length ≤ 65535) : d ++ hdr 1 r.length ++ r = stoF l := by
  unfold stoF
  rw [if_neg (by omega)]
  rcases h with ⟨rfl, rfl⟩ | ⟨h1, rfl, rfl⟩
  · rw [if_pos hr]; rfl
  · rw [if_neg (by omega)]
theorem StS.step {l d r : List UInt8} (h : StS l d r) (hl : l.length ≤ 65536) (hr : 65535 < r.length) : StS l (d ++ hdr 0 65535 ++ r.take 65535) (r.drop 65535) := by
  rcases h with ⟨rfl, rfl⟩ | ⟨h1, rfl, rfl⟩
  · exact .inr ⟨hr, rfl, rfl⟩
  · rw [List.length_drop] at hr; omega
theorem StS.bound {l d r : List UInt8} (h : StS l d r) (hl : l.length ≤ 65536) : d.length ≤ 65540 ∧ r.length ≤ 65536 := by
  rcases h with ⟨rfl, rfl⟩ | ⟨h1, rfl, rfl⟩
  · exact ⟨by simp, hl⟩
  · rw [List.length_append, List.length_take, List.length_drop]
    have : (hdr 0 65535).length = 5 := rfl
    omega
theorem StS.start {l d r : List UInt8} (h : StS l d r) (hl : l.length ≤ 65536) (hr : 65535 < r.length) : d.length = 0 ∧ r.length = 65536 := by
  rcases h with ⟨rfl, rfl⟩ | ⟨h1, rfl, rfl⟩
  · exact ⟨rfl, by omega⟩
  · rw [List.length_drop] at hr; omega
theorem InB.cut {N : Nat} {w : World} {b o n c : Nat} {l : List UInt8} (hc : n ≤ c) (hn : l.length = n) (hb : b < N) (h : w.rangeAt b o (l.map B)) (k : Nat) (hk : k ≤ n) :
    InB N w (.slice (some ⟨b, o, none⟩) k c) (l.take k) ∧ InB N w (.slice (some ⟨b, o + k, none⟩) (n - k) (c - k)) (l.drop k) := by
  constructor
  · refine .inr ⟨b, o, c, by rw [List.length_take, hn, Nat.min_eq_left hk], by rw [List.length_take]; omega, .inr hb, fun j u hu => h j u ?_⟩
    rw [List.map_take, List.getElem?_take] at hu
    split at hu
    · exact hu
    · simp at hu
  · refine .inr ⟨b, o + k, c - k, by rw [List.length_drop, hn], by rw [List.length_drop]; omega, .inr hb, fun j u hu => ?_⟩
    rw [List.map_drop, List.getElem?_drop] at hu
    have := h (k + j) u hu
    rw [Nat.add_assoc]; exact this
def lenV : Value → Nat
  | .slice _ n _ => n
  | _ => 0
set_option maxRecDepth 100000 in
set_option maxHeartbeats 2000000 in
theorem stored_any (v : Value) (l : List UInt8) (hl : l.length ≤ 140737488355328) (w : World) (hi : InB w.heap.size w v l) :
    Calls Try.prog 9 #[v] w fun e w' => ∃ u, e = .returned (.tuple #[u, .int .i64 (stoE l)]) ∧ OwnB w.heap.size w' u (stoF l) ∧ Below w.heap.size w w' := by
  obtain ⟨a, c, rfl, hc⟩ := hi.slice
  have HI := Box'.mk hi
  clear hi
  by_cases hb : 65536 < l.length
  · have e1 : stoE l = 4 := by unfold stoE; rw [if_pos hb]
    have e2 : stoF l = [] := by unfold stoF; rw [if_pos hb]
    rw [e1, e2]
    have O0 := Box'.mk (OwnB.nil w.heap.size w)
    clear e1 e2 HI
    generalize l.length = n at *
    go_enter Try.func9, Try.ntmps9
    go_wp2_with fail
    go_ret2
    exact ⟨_, rfl, O0.out, Below.refl _ _⟩
  · have e1 : stoE l = 0 := by unfold stoE; rw [if_neg hb]
    have DN := Box'.mk (@StS.done l)
    have SP := Box'.mk (@StS.step l)
    have BD := Box'.mk (@StS.bound l)
    have ST := Box'.mk (@StS.start l)
    have hl6 : l.length ≤ 65536 := by omega
    have HL6 := Box'.mk hl6
    have HW : Box' (w.heap.size ≤ w.heap.size) := ⟨Nat.le_refl _⟩
    rw [e1]
    clear e1 hb hl
    generalize stoF l = SF at *
    generalize hn : l.length = n at *
    clear hn
    go_enter Try.func9, Try.ntmps9
    go_wp2_with fail
    go_loopw [4, 5] (fun u r wr => ∃ (d rest : List UInt8), Box' (StS l d rest) ∧ Box' (OwnB w.heap.size wr u d) ∧ Box' (InB w.heap.size wr r rest) ∧ Below w.heap.size w wr) (fun _ r _ => lenV r)
    case atStart => exact ⟨[], l, ⟨.inl ⟨rfl, rfl⟩⟩, ⟨OwnB.nil _ _⟩, HI, Below.refl _ _⟩
    case round =>
      obtain ⟨d, rest, HS, HO, HR, hbl⟩ := hrel
      clear HI hl6 hc
      by_cases hr : rest.length ≤ 65535
      · have hs := store_any w.heap.size wr _ _ d rest 1 (by have := (BD.out HS.out HL6.out).1; omega) hr hbl.size HO.out HR.out
        rw [DN.out HS.out HL6.out hr] at hs
        obtain ⟨ar, cr, rfl, hcr⟩ := HR.out.slice
        clear HR HO HS DN SP BD ST HL6
        generalize rest.length = m at *
        go_wp2_with fail
        refine hs.mono ?_
        rintro e w1 ⟨u1, rfl, o1, b1⟩
        have O1 := Box'.mk o1
        have B1 := Box'.mk (hbl.trans b1)
        clear o1 b1 hs hbl
        go_wp2_with fail
        go_ret2
        exact ⟨_, rfl, O1.out, B1.out⟩
      · have hr2 := (ST.out HS.out HL6.out (by omega)).2
        have HS2 := Box'.mk (SP.out HS.out HL6.out (by omega))
        rcases HR.out with ⟨_, e0⟩ | ⟨b, o, cr, rfl, hcr, hbn, hrg⟩
        · rw [e0] at hr2; simp at hr2
        have hbN : b < w.heap.size := by
          rcases hbn with e0 | h
          · rw [e0] at hr2; simp at hr2
          · exact h
        obtain ⟨i1, i2⟩ := InB.cut (c := cr) (by omega) hr2 hbN hrg 65535 (by omega)
        have hs := store_any w.heap.size wr _ _ d (rest.take 65535) 0 (by have := (BD.out HS.out HL6.out).1; omega) (by rw [List.length_take]; omega) hbl.size HO.out i1
        rw [show (rest.take 65535).length = 65535 by rw [List.length_take]; omega] at hs
        have I2 := Box'.mk i2
        rw [hr2] at hcr ⊢
        clear HR HO HS DN SP BD ST HL6 hr hbn hrg i1 i2 hr2
        go_wp2_with fail
        refine hs.mono ?_
        rintro e w1 ⟨u1, rfl, o1, b1⟩
        have O1 := Box'.mk o1
        have B1 := Box'.mk (hbl.trans b1)
        have I3 : Box' (InB w.heap.size w1 (.slice (some ⟨b, o + 65535, none⟩) (65536 - 65535) (cr - 65535)) (rest.drop 65535)) := ⟨I2.out.below b1 (Nat.le_refl _)⟩
        clear o1 b1 hs hbl I2
        go_wp2_with fail
        exact ⟨⟨_, _, HS2, O1, I3, B1.out⟩, by show (1 : Nat) < 65536; omega⟩
theorem hdr_ag2 (x : UInt8) (n : Nat) (h : n ≤ 65535) : ag (hdr x n) = #[.int .u8 (x.toNat : Int), .int .u8 ((n : Int) % 256), .int .u8 ((n : Int) / 256), .int .u8 (bits .xor .i64 (-1) (n : Int) % 256), .int .u8 (bits .xor .i64 (-1) (n : Int) / 256 % 256)] := by
  rw [i64_not n (by omega)]
  have e : ∀ k : Nat, k < 256 → ((UInt8.ofNat k).toNat : Int) = (k : Int) := fun k hk => by rw [UInt8.toNat_ofNat_of_lt' (by exact hk)]
  simp only [ag, hdr, List.map_cons, List.map_nil, B]
  rw [e _ (by omega), e _ (by omega), e _ (by omega), e _ (by omega), show ((-1 - (n : Int)) / 256 % 256) = (((65535 - n) / 256 : Nat) : Int) by omega, show ((n : Int) % 256) = ((n % 256 : Nat) : Int) by omega, show ((n : Int) / 256) = ((n / 256 : Nat) : Int) by omega, show ((-1 - (n : Int)) % 256) = (((65535 - n) % 256 : Nat) : Int) by omega]
set_option maxRecDepth 100000 in
set_option maxHeartbeats 2000000 in
theorem refStored_any (v : Value) (l : List UInt8) (hl : l.length ≤ 140737488355328) (w : World) (hi : InB w.heap.size w v l) :
    Calls Try.prog 10 #[v] w fun e w' => ∃ u, e = .returned (.tuple #[u, .int .i64 (stoE l)]) ∧ OwnB w.heap.size w' u (stoF l) ∧ Below w.heap.size w w' := by
  obtain ⟨a, c, rfl, hc⟩ := hi.slice
  have HI := Box'.mk hi
  clear hi
  by_cases hb : 65536 < l.length
  · have e1 : stoE l = 4 := by unfold stoE; rw [if_pos hb]
    have e2 : stoF l = [] := by unfold stoF; rw [if_pos hb]
    rw [e1, e2]
    have O0 := Box'.mk (OwnB.nil w.heap.size w)
    clear e1 e2 HI
    generalize l.length = n at *
    go_enter Try.func10, Try.ntmps10
    go_wp2_with fail
    go_ret2
    exact ⟨_, rfl, O0.out, Below.refl _ _⟩
  · have e1 : stoE l = 0 := by unfold stoE; rw [if_neg hb]
    have DN := Box'.mk (@StS.done l)
    have SP := Box'.mk (@StS.step l)
    have BD := Box'.mk (@StS.bound l)
    have ST := Box'.mk (@StS.start l)
    have hl6 : l.length ≤ 65536 := by omega
    have HL6 := Box'.mk hl6
    rw [e1]
    clear e1 hb hl
    generalize stoF l = SF at *
    generalize hn : l.length = n at *
    clear hn
    have hq9 : decide (65536 < (n : Int)) = false := decide_eq_false (by omega)
    go_enter Try.func10, Try.ntmps10
    go_wp2_with fail
    go_loopw [0, 4] (fun r u wr => ∃ (d rest : List UInt8), Box' (StS l d rest) ∧ Box' (OwnB w.heap.size wr u d) ∧ Box' (InB w.heap.size wr r rest) ∧ Below w.heap.size w wr) (fun r _ _ => lenV r)
    case atStart => exact ⟨[], l, ⟨.inl ⟨rfl, rfl⟩⟩, ⟨OwnB.nil _ _⟩, HI, Below.refl _ _⟩
    case round =>
      obtain ⟨d, rest, HS, HO, HR, hbl⟩ := hrel
      clear HI hl6 hc
      by_cases hr : rest.length ≤ 65535
      · have hmn : ¬ ((65535 : Int) < (rest.length : Int)) := by omega
        have DD := Box'.mk (DN.out HS.out HL6.out hr)
        obtain ⟨ar, cr, rfl, hcr⟩ := HR.out.slice
        generalize hm : rest.length = m at *
        have HM := Box'.mk hm
        obtain ⟨ao, co, rfl⟩ := HO.out.slice
        have r0 := Row.new wr 5 (ag (hdr 1 m))
        have i0 := r0.inB (n := 5) rfl
        have b0 : Below w.heap.size wr (wr.alloc (.cells (ag (hdr 1 m)) 5)) := (Below.refl _ _).alloc hbl.size _
        have o0 : OwnB w.heap.size (wr.alloc (.cells (ag (hdr 1 m)) 5)) (.slice ao d.length co) d := HO.out.alloc _
        have hN2 : w.heap.size ≤ (wr.alloc (.cells (ag (hdr 1 m)) 5)).heap.size := by have := hbl.size; simp; omega
        rw [hdr_ag2 _ _ hr] at i0 b0 o0 hN2
        have hdl := (BD.out HS.out HL6.out).1
        have HM1 : Box' (d.length + (hdr 1 m).length ≤ 1000000) := ⟨by have : (hdr 1 m).length = 5 := rfl; omega⟩
        have HM2 : Box' ((d ++ hdr 1 m).length + rest.length ≤ 1000000) := ⟨by rw [List.length_append, hm]; have : (hdr 1 m).length = 5 := rfl; omega⟩
        have I1 : Box' (∀ w3, Below w.heap.size wr w3 → InB w.heap.size w3 (.slice ar m cr) rest) := ⟨fun w3 hb => HR.out.below hb (Nat.le_refl _)⟩
        have B0 := Box'.mk b0
        clear b0 r0 HR HO HS SP BD ST HL6 DN hm
        go_wp2_with (first
          | (refine wpList_append_in rfl (.tmp 17) (.tmp 31) rfl w.heap.size _ hN2 _ d rfl o0 _ (hdr 1 m) rfl i0 HM1.out ?_; intro v3 w3 o3 b3; have B3 := Box'.mk (B0.out.trans b3); have i3 := I1.out w3 B3.out; have hN3 : w.heap.size ≤ w3.heap.size := Nat.le_trans hN2 b3.size; clear i0 o0 hN2 B0 I1 b3)
          | (refine wpList_append_in rfl (.tmp 33) (.tmp 36) rfl w.heap.size _ hN3 _ (d ++ hdr 1 m) rfl o3 _ rest rfl i3 HM2.out ?_; intro v4 w4 o4 b4; have B4 := Box'.mk (hbl.trans (B3.out.trans b4)); have O4 := Box'.mk o4; clear o3 i3 hN3 o4 b4 B3))
        all_goals (go_ret2; exact ⟨v4, rfl, by rw [← DD.out]; exact O4.out, B4.out⟩)
      · have hr2 := (ST.out HS.out HL6.out (by omega)).2
        have HS2 := Box'.mk (SP.out HS.out HL6.out (by omega))
        rcases HR.out with ⟨_, e0⟩ | ⟨b, o, cr, rfl, hcr, hbn, hrg⟩
        · rw [e0] at hr2; simp at hr2
        have hbN : b < w.heap.size := by
          rcases hbn with e0 | h
          · rw [e0] at hr2; simp at hr2
          · exact h
        obtain ⟨i1, i2⟩ := InB.cut (c := cr) (by omega) hr2 hbN hrg 65535 (by omega)
        have hlt : (rest.take 65535).length = 65535 := by rw [List.length_take]; omega
        obtain ⟨ao, co, rfl⟩ := HO.out.slice
        have r0 := Row.new wr 5 (ag (hdr 0 65535))
        have i0 := r0.inB (n := 5) rfl
        have b0 : Below w.heap.size wr (wr.alloc (.cells (ag (hdr 0 65535)) 5)) := (Below.refl _ _).alloc hbl.size _
        have o0 : OwnB w.heap.size (wr.alloc (.cells (ag (hdr 0 65535)) 5)) (.slice ao d.length co) d := HO.out.alloc _
        have hN2 : w.heap.size ≤ (wr.alloc (.cells (ag (hdr 0 65535)) 5)).heap.size := by have := hbl.size; simp; omega
        rw [hdr_ag2 _ _ (by omega)] at i0 b0 o0 hN2
        have hdl := (BD.out HS.out HL6.out).1
        have HM1 : Box' (d.length + (hdr 0 65535).length ≤ 1000000) := ⟨by have : (hdr 0 65535).length = 5 := rfl; omega⟩
        have HM2 : Box' ((d ++ hdr 0 65535).length + (rest.take 65535).length ≤ 1000000) := ⟨by rw [List.length_append, hlt]; have : (hdr 0 65535).length = 5 := rfl; omega⟩
        have I1 : Box' (∀ w3, Below w.heap.size wr w3 → InB w.heap.size w3 (.slice (some ⟨b, o, none⟩) 65535 cr) (rest.take 65535)) := ⟨fun w3 hb => i1.below hb (Nat.le_refl _)⟩
        have I2 : Box' (∀ w3, Below w.heap.size wr w3 → InB w.heap.size w3 (.slice (some ⟨b, o + 65535, none⟩) (65536 - 65535) (cr - 65535)) (rest.drop 65535)) := ⟨fun w3 hb => i2.below hb (Nat.le_refl _)⟩
        have B0 := Box'.mk b0
        rw [hr2] at hcr ⊢
        clear b0 r0 HR HO HS SP BD ST HL6 DN hr hbn hrg i1 i2 hr2 hlt
        go_wp2_with (first
          | (refine wpList_append_in rfl (.tmp 17) (.tmp 31) rfl w.heap.size _ hN2 _ d rfl o0 _ (hdr 0 65535) rfl i0 HM1.out ?_; intro v3 w3 o3 b3; have B3 := Box'.mk (B0.out.trans b3); have i3 := I1.out w3 B3.out; have hN3 : w.heap.size ≤ w3.heap.size := Nat.le_trans hN2 b3.size; clear i0 o0 hN2 B0 I1 b3)
          | (refine wpList_append_in rfl (.tmp 33) (.tmp 36) rfl w.heap.size _ hN3 _ (d ++ hdr 0 65535) rfl o3 _ (rest.take 65535) rfl i3 HM2.out ?_; intro v4 w4 o4 b4; have B4 := Box'.mk (hbl.trans (B3.out.trans b4)); have I4 := Box'.mk (I2.out w4 (B3.out.trans b4)); have O4 := Box'.mk o4; clear I2 o3 i3 hN3 o4 b4 B3))
        exact ⟨⟨_, _, HS2, O4, I4, B4.out⟩, by show (1 : Nat) < 65536; omega⟩
theorem OwnB.bts {N : Nat} {w : World} {v : Value} {d : List UInt8} (h : OwnB N w v d) : Bts (· < w.heap.size) w v d := by
  by_cases hd : 0 < d.length
  · obtain ⟨g, c, rfl, hc, hcl⟩ := h.seg hd
    refine ⟨_, c, rfl, hc, .inr ⟨g, 0, rfl, World.block_lt_of_cell? w _ (hcl 0 hd), fun j u hu => ?_⟩⟩
    have hj : j < d.length := by
      have := (List.getElem?_eq_some_iff.1 hu).1
      rwa [List.length_map] at this
    rw [Nat.zero_add, hcl j hj]
    simpa [hj] using hu
  · obtain rfl : d = [] := List.eq_nil_of_length_eq_zero (by omega)
    rcases h.2 with ⟨rfl, _⟩ | ⟨g, cap, cur, rfl, _⟩
    · exact ⟨_, _, rfl, Nat.le_refl _, .inl rfl⟩
    · exact ⟨_, _, rfl, Nat.zero_le _, .inl rfl⟩
theorem marked_bts (w : World) (l : List UInt8) (n : Nat) (m : Nat × Nat) (hn : l.length = n) : Bts (· < (w.alloc (.cells (ag l) 5 m)).heap.size) (w.alloc (.cells (ag l) 5 m)) (.slice (some ⟨w.heap.size, 0, none⟩) n n) l :=
  ⟨_, _, by rw [hn], by omega, .inr ⟨w.heap.size, 0, rfl, by simp, fun j u hu => by rw [Nat.zero_add, cell_of_row _ _ j _ _ m (heap_alloc_last w _)]; simpa [ag] using hu⟩⟩
theorem exp_A : expF [(97, 0, 0), (0, 4, 1)] [] = ([97, 97, 97, 97, 97], 0) := by decide +kernel
theorem exp_B : expF [(0, 3, 1)] [] = ([], 2) := by decide +kernel
theorem sto_A : stoF [7] = [1, 1, 0, 254, 255, 7] := by decide +kernel
theorem stoE_A : stoE [7] = 0 := by decide +kernel
set_option maxRecDepth 100000 in
set_option maxHeartbeats 2000000 in
theorem anchored_any (w : World) : Calls Try.prog 12 #[] w fun e w' => e = .returned (.bool true) ∧ Below w.heap.size w w' := by
  obtain ⟨wa, hwa⟩ : ∃ wa, wa = w.alloc (.cells #[.int .u8 97, .int .i64 0, .int .i64 0, .int .u8 0, .int .i64 4, .int .i64 1] 44) := ⟨_, rfl⟩
  have ta : Toks wa.heap.size wa (.slice (some ⟨w.heap.size, 0, none⟩) 2 2) [(97, 0, 0), (0, 4, 1)] := by
    have r : Row wa w.heap.size 44 #[.int .u8 97, .int .i64 0, .int .i64 0, .int .u8 0, .int .i64 4, .int .i64 1] := by rw [hwa]; exact Row.new _ _ _
    refine ⟨_, _, rfl, Nat.le_refl _, .inr ⟨w.heap.size, 0, rfl, r.lt, fun k hk => ?_⟩⟩
    rw [r.cell, r.cell, r.cell]
    have : k = 0 ∨ k = 1 := by have : k < 2 := hk; omega
    rcases this with rfl | rfl <;> exact ⟨rfl, rfl, rfl⟩
  have ha := expand_any _ _ (by show 2 ≤ _; omega) wa ta
  rw [exp_A] at ha
  have B0 : Box' (Below w.heap.size w wa) := ⟨by rw [hwa]; exact (Below.refl _ _).alloc (Nat.le_refl _) _⟩
  have HS : Box' (w.heap.size ≤ wa.heap.size) := ⟨B0.out.size⟩
  rw [hwa] at ha
  clear ta
  go_enter Try.func12, Try.ntmps12
  go_wp2_with fail
  refine ha.mono ?_
  rintro e w1 ⟨u1, rfl, o1, b1⟩
  rw [← hwa] at o1 b1
  have B1 := Box'.mk (B0.out.trans (b1.mono HS.out))
  have O1 := Box'.mk o1
  clear ha o1 b1 B0 HS hwa
  obtain ⟨wb, hwb⟩ : ∃ wb, wb = w1.alloc (.cells #[.int .u8 7] 5) := ⟨_, rfl⟩
  have ib : InB wb.heap.size wb (.slice (some ⟨w1.heap.size, 0, none⟩) 1 1) [7] := by rw [hwb]; exact (Row.new w1 5 (ag [7])).inB rfl
  have hb := stored_any _ _ (by show 1 ≤ _; omega) wb ib
  rw [sto_A, stoE_A] at hb
  have BB1 : Box' (Below w1.heap.size w1 wb) := ⟨by rw [hwb]; exact (Below.refl _ _).alloc (Nat.le_refl _) _⟩
  rw [hwb] at hb
  clear ib
  go_wp2_with fail
  refine hb.mono ?_
  rintro e w2 ⟨u2, rfl, o2, b2⟩
  rw [← hwb] at o2 b2
  have BB2 : Box' (Below w1.heap.size w1 w2) := ⟨BB1.out.trans (b2.mono BB1.out.size)⟩
  have B2 : Box' (Below w.heap.size w w2) := ⟨B1.out.trans (BB2.out.mono B1.out.size)⟩
  have O12 := Box'.mk (O1.out.below BB2.out)
  have O2 := Box'.mk o2
  clear hb o2 b2 BB1 BB2 O1 B1 hwb
  obtain ⟨wc, hwc⟩ : ∃ wc, wc = w2.alloc (.cells #[.int .u8 0, .int .i64 3, .int .i64 1] 44) := ⟨_, rfl⟩
  have tc : Toks wc.heap.size wc (.slice (some ⟨w2.heap.size, 0, none⟩) 1 1) [(0, 3, 1)] := by
    have r : Row wc w2.heap.size 44 #[.int .u8 0, .int .i64 3, .int .i64 1] := by rw [hwc]; exact Row.new _ _ _
    refine ⟨_, _, rfl, Nat.le_refl _, .inr ⟨w2.heap.size, 0, rfl, r.lt, fun k hk => ?_⟩⟩
    rw [r.cell, r.cell, r.cell]
    have : k = 0 := by have : k < 1 := hk; omega
    subst this; exact ⟨rfl, rfl, rfl⟩
  have hc := expand_any _ _ (by show 1 ≤ _; omega) wc tc
  rw [exp_B] at hc
  have BB1 : Box' (Below w2.heap.size w2 wc) := ⟨by rw [hwc]; exact (Below.refl _ _).alloc (Nat.le_refl _) _⟩
  rw [hwc] at hc
  clear tc
  go_wp2_with fail
  refine hc.mono ?_
  rintro e w3 ⟨u3, rfl, o3, b3⟩
  rw [← hwc] at o3 b3
  have BB2 : Box' (Below w2.heap.size w2 w3) := ⟨BB1.out.trans (b3.mono BB1.out.size)⟩
  have B3 : Box' (Below w.heap.size w w3) := ⟨B2.out.trans (BB2.out.mono B2.out.size)⟩
  have O13 := Box'.mk (O12.out.below BB2.out)
  have O23 := Box'.mk (O2.out.below BB2.out)
  clear hc o3 b3 BB1 BB2 O12 O2 B2 hwc
  obtain ⟨w4, hw4⟩ : ∃ w4, w4 = w3.alloc (.cells #[.int .u8 97, .int .u8 97, .int .u8 97, .int .u8 97, .int .u8 97] 5 (5, 6)) := ⟨_, rfl⟩
  have al4 : Below w3.heap.size w3 w4 := by rw [hw4]; exact (Below.refl _ _).alloc (Nat.le_refl _) _
  have b4 : Bts (· < w4.heap.size) w4 (.slice (some ⟨w3.heap.size, 0, none⟩) 5 5) [97, 97, 97, 97, 97] := by rw [hw4]; exact marked_bts w3 [97, 97, 97, 97, 97] 5 (5, 6) rfl
  have s1 := refSame_any _ _ _ _ _ _ _ (O13.out.below al4).bts b4
  have al5 : Below w4.heap.size w4 (w4.alloc (.cells #[.int .u8 1, .int .u8 1, .int .u8 0, .int .u8 254, .int .u8 255, .int .u8 7] 5)) := (Below.refl _ _).alloc (Nat.le_refl _) _
  have b5 : Bts (· < (w4.alloc (.cells #[.int .u8 1, .int .u8 1, .int .u8 0, .int .u8 254, .int .u8 255, .int .u8 7] 5)).heap.size) (w4.alloc (.cells #[.int .u8 1, .int .u8 1, .int .u8 0, .int .u8 254, .int .u8 255, .int .u8 7] 5)) (.slice (some ⟨w4.heap.size, 0, none⟩) 6 6) [1, 1, 0, 254, 255, 7] := (Row.new w4 5 (ag [1, 1, 0, 254, 255, 7])).bts (n := 6) rfl
  have s2 := refSame_any _ _ _ _ _ _ _ ((O23.out.below al4).below al5).bts b5
  rw [decide_eq_true rfl] at s1 s2
  have B5 := Box'.mk ((B3.out.trans (al4.mono B3.out.size)).trans (al5.mono (Nat.le_trans B3.out.size al4.size)))
  rw [hw4] at s1
  clear al4 al5 O13 O23 B3 b4 b5
  have S2 := Box'.mk s2
  clear s2
  have kc := fun (w : World) (C : Array Value) (n c : Nat) => Lib.run_convert_bytes_const (P := Try.prog) w 23 5 C n c Try.underlying23 Try.underlying5
  go_wp2_with fail
  refine s1.mono ?_
  rintro e w5 ⟨rfl, rfl⟩
  rw [← hw4]
  clear s1 hw4 kc
  have s2 := S2.out
  clear S2
  go_wp2_with fail
  refine s2.mono ?_
  rintro e w5 ⟨rfl, rfl⟩
  clear s2
  go_wp2_with fail
  go_ret
  exact ⟨rfl, B5.out⟩
end Go.Proofs.Ytcjfaahlchbcmaa
