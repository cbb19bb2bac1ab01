/- Bytes that came in, appended; the walk of store. -/
import Derived.Test.YtfbgackmjkancaaD
import Derived.Laws.AppendOwnNone
namespace Go.Proofs.Ytfbgackmjkancaa
open Go.RowKit Go.BigFrame

/-- The slice v has the bytes l, in a block below N, or is nil. -/
def InB (N : Nat) (w : World) (v : Value) (l : List UInt8) : Prop :=
  (v = .slice none 0 0 ∧ l = []) ∨ ∃ b o c, v = .slice (some ⟨b, o, none⟩) l.length c ∧ l.length ≤ c ∧ (l = [] ∨ b < N) ∧ w.rangeAt b o (l.map B)
theorem InB.slice {N : Nat} {w : World} {v : Value} {l : List UInt8} (h : InB N w v l) : ∃ a c, v = .slice a l.length c ∧ l.length ≤ c := by
  rcases h with ⟨rfl, rfl⟩ | ⟨b, o, c, rfl, hc, _⟩
  · exact ⟨_, _, rfl, Nat.le_refl _⟩
  · exact ⟨_, _, rfl, hc⟩
theorem InB.below {N M : Nat} {w w' : World} {v : Value} {l : List UInt8} (h : InB N w v l) (hb : Below M w w') (hN : N ≤ M) : InB N w' v l := by
  rcases h with h | ⟨b, o, c, h1, h2, h3, h4⟩
  · exact .inl h
  · refine .inr ⟨b, o, c, h1, h2, h3, ?_⟩
    rcases h3 with rfl | h3
    · intro j u hu; simp at hu
    · exact range_below h4 hb (by omega)
theorem InB.up {N M : Nat} {w : World} {v : Value} {l : List UInt8} (h : InB N w v l) (hN : N ≤ M) : InB M w v l := by
  rcases h with h | ⟨b, o, c, h1, h2, h3, h4⟩
  · exact .inl h
  · exact .inr ⟨b, o, c, h1, h2, h3.imp id (fun h => by omega), h4⟩
theorem wpList_append_in {ops : Array Oper} {rest : List Oper} {o : Oper} {a : Act} {w : World} {Q : Exit → Act → World → Prop} (hgd : o.guard = none) (s x : Operand)
    (ho : o.op = .call { callee := .builtin .append, args := #[s, x], argTypes := #[23, 23] }) (N M : Nat) (hN : N ≤ w.heap.size)
    (v : Value) (d : List UInt8) (hs : a.eval s = v) (hown : OwnB N w v d) (vx : Value) (l : List UInt8) (hx : a.eval x = vx) (hin : InB M w vx l) (hmax : d.length + l.length ≤ 1000000)
    (h : ∀ v' w', OwnB N w' v' (d ++ l) → Below N w w' → wpList Try.prog ops Q rest (a.put o.dst v') w') : wpList Try.prog ops Q (o :: rest) a w := by
  obtain ⟨i, h1, h2, h3, h4⟩ := Try.info5a
  rcases hin with ⟨rfl, rfl⟩ | ⟨b, off, c, rfl, hc, hb, hr⟩
  · refine wpList_append_own_none hgd s x 23 ho N 5 i 1 Try.underlying23 h1 v d.length (d.map B) hs hown hx ?_
    exact h v w (by rw [List.append_nil]; exact hown) (Below.refl _ _)
  · obtain ⟨v', w', hr, g2, g3, _⟩ := run_append_own (P := Try.prog) w N 23 o.type 5 i _ 1 1 Try.underlying23 h1 h2 h3 h4 rfl (by decide) v d.length (d.map B) hown ⟨b, off, none⟩ l.length c (l.map B) (by rw [List.length_map, Nat.mul_one]) (fun j u hu => by rw [Addr.add_mid]; exact hr j u hu) (one_By l) (by unfold maxLen; omega) (by omega) hN
    have g2' : OwnB N w' v' (d ++ l) := by unfold OwnB; rw [List.length_append, List.map_append]; exact g2
    refine wpList_plain hgd fun K hK => ?_
    unfold Oper.wp execOp
    simp only [ho, resolve, invoke, builtin, Sem.run_bind, Sem.run_pure, Result.andThen_ok, List.map_toArray, List.map_cons, List.map_nil, hs, hx, hr]
    exact hK _ _ (h v' w' g2' (grown_below hown g3 hN))

theorem xor16 (n : Nat) (h : n < 65536) : 65535 ^^^ n = 65535 - n := by
  apply Nat.eq_of_testBit_eq
  intro i
  rw [Nat.testBit_xor, show 65535 = 2 ^ 16 - 1 from rfl, Nat.testBit_two_pow_sub_one, show 2 ^ 16 - 1 - n = 2 ^ 16 - (n + 1) by omega, Nat.testBit_two_pow_sub_succ (show n < 2 ^ 16 from h)]
  by_cases hi : i < 16
  · simp [hi]
  · have : n.testBit i = false := Nat.testBit_lt_two_pow (Nat.lt_of_lt_of_le h (Nat.pow_le_pow_right (n := 2) (by decide) (show 16 ≤ i by omega)))
    simp [hi, this]
theorem not16 (n : Nat) (h : n < 65536) : bits .xor .u16 IntKind.u16.max (n : Int) = ((65535 - n : Nat) : Int) := by
  rw [show IntKind.u16.max = ((65535 : Nat) : Int) from rfl, u16_xor_nat _ _ (by decide) h, xor16 n h]
/-- The head of a stored block of so many bytes. -/
def hdr (x : UInt8) (n : Nat) : List UInt8 := [x, UInt8.ofNat (n % 256), UInt8.ofNat (n / 256), UInt8.ofNat ((65535 - n) % 256), UInt8.ofNat ((65535 - n) / 256)]
theorem hdr_ag (x : UInt8) (n : Nat) (h : n ≤ 65535) : ag (hdr x n) = #[.int .u8 (x.toNat : Int), .int .u8 ((n : Int) % 256), .int .u8 ((n : Int) / 256), .int .u8 (bits .xor .u16 IntKind.u16.max (n : Int) % 256), .int .u8 (bits .xor .u16 IntKind.u16.max (n : Int) / 256 % 256)] := by
  rw [not16 n (by omega)]
  have e : ∀ k : Nat, k < 256 → ((UInt8.ofNat k).toNat : Int) = (k : Int) := fun k hk => by rw [UInt8.toNat_ofNat_of_lt' (by exact hk)]
  simp only [ag, hdr, List.map_cons, List.map_nil, B]
  rw [e _ (by omega), e _ (by omega), e _ (by omega), e _ (by omega), show (((65535 - n : Nat) : Int) / 256 % 256) = (((65535 - n) / 256 : Nat) : Int) by omega, show ((n : Int) % 256) = ((n % 256 : Nat) : Int) by omega, show ((n : Int) / 256) = ((n / 256 : Nat) : Int) by omega, show (((65535 - n : Nat) : Int) % 256) = (((65535 - n) % 256 : Nat) : Int) by omega]
theorem Row.inB {w : World} {g : Nat} {l : List UInt8} {n : Nat} (h : Row w g 5 (ag l)) (hn : l.length = n) : InB w.heap.size w (.slice (some ⟨g, 0, none⟩) n n) l :=
  .inr ⟨g, 0, n, by rw [hn], by omega, .inr h.lt, fun j u hu => by rw [Nat.zero_add, h.cell]; simpa [ag] using hu⟩

set_option maxRecDepth 100000 in
set_option maxHeartbeats 2000000 in
theorem store_any (N : Nat) (w : World) (vs vb : Value) (d l : List UInt8) (x : UInt8) (hd : d.length ≤ 100000) (hl : l.length ≤ 65535) (hN : N ≤ w.heap.size) (ho : OwnB N w vs d) (hi : InB N w vb l) :
    Calls Try.prog 19 #[vs, .int .u8 (x.toNat : Int), vb] w fun e w' => ∃ u, e = .returned u ∧ OwnB N w' u (d ++ hdr x l.length ++ l) ∧ Below N w w' := by
  obtain ⟨a, c, rfl, hc⟩ := hi.slice
  have HI := Box'.mk hi
  have HO := Box'.mk ho
  obtain ⟨ao, co, rfl⟩ := ho.slice
  clear hi ho
  have HD := Box'.mk hd
  have HLL := Box'.mk hl
  generalize hn : l.length = n at *
  have HNL := Box'.mk hn
  have r0 := Row.new w 5 (ag (hdr x n))
  have i0 := r0.inB (n := 5) rfl
  have b0 : Below N w (w.alloc (.cells (ag (hdr x n)) 5)) := (Below.refl N w).alloc hN _
  have o0 : OwnB N (w.alloc (.cells (ag (hdr x n)) 5)) (.slice ao d.length co) d := HO.out.alloc _
  have hN2 : N ≤ (w.alloc (.cells (ag (hdr x n)) 5)).heap.size := by simp; omega
  rw [hdr_ag x n hl] at i0 b0 o0 hN2
  have hmx : d.length + (hdr x n).length ≤ 1000000 := by have : (hdr x n).length = 5 := rfl; omega
  have hmx2 : (d ++ hdr x n).length + l.length ≤ 1000000 := by rw [List.length_append, hn]; have : (hdr x n).length = 5 := rfl; omega
  have HM := Box'.mk hmx
  have HM2 := Box'.mk hmx2
  have I1 : Box' (∀ w3, Below N w w3 → InB N w3 (.slice a n c) l) := ⟨fun w3 hb => HI.out.below hb (Nat.le_refl _)⟩
  clear hn hmx hmx2 r0 HO HI hd
  have B0 := Box'.mk b0
  clear b0
  go_enter Try.func19, Try.ntmps19
  go_wp2_with (first
    | (refine wpList_append_in rfl (.tmp 14) (.tmp 26) rfl N _ hN2 _ d rfl o0 _ (hdr x n) rfl i0 HM.out ?_; intro v3 w3 o3 b3; have B3 := Box'.mk (B0.out.trans b3); have i3 := I1.out w3 B3.out; have hN3 : N ≤ w3.heap.size := Nat.le_trans hN2 b3.size; clear i0 o0 hN2 B0 I1 b3)
    | (refine wpList_append_in rfl (.tmp 28) (.tmp 29) rfl N _ hN3 _ (d ++ hdr x n) rfl o3 _ l rfl i3 HM2.out ?_; intro v4 w4 o4 b4; have B4 := Box'.mk (B3.out.trans b4); have O4 := Box'.mk o4; clear o3 i3 hN3 o4 b4 B3))
  go_ret
  exact ⟨v4, rfl, by rw [← List.append_assoc]; exact O4.out, B4.out⟩
end Go.Proofs.Ytfbgackmjkancaa
