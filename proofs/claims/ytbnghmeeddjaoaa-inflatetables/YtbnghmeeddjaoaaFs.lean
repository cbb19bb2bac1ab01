/- What symbols tell; the walk of told. -/
import Derived.Test.YtbnghmeeddjaoaaFr
namespace Go.Proofs.Ytbnghmeeddjaoaa
open Go.RowKit Go.BigFrame Gt

/-- A length or a distance, with the extra bits that follow. -/
def meaF (T : Int × Int × Int) (b : List UInt8) (p : Nat) : Except Int (Nat × Nat) :=
  if T.2.2 = 0 then (if p + T.2.1.toNat ≤ 8 * b.length then .ok (T.1.toNat + nbr b p T.2.1.toNat, p + T.2.1.toNat) else .error 7) else .error 8
/-- Symbols up to the one that ends a block. -/
def toldF (l1 l2 : List Int) (b : List UInt8) (most : Nat) : Nat → Nat → List UInt8 → Except Int (Nat × List UInt8)
  | 0, _, _ => .error 7
  | f + 1, p, out => match rdF l1 b p with
    | .error x => .error x
    | .ok (s, q) =>
      if s = 256 then .ok (q, out)
      else if s < 256 then (if out.length = most then .error 4 else toldF l1 l2 b most f q (out ++ [UInt8.ofNat s]))
      else match meaF (Gf.lenT s) b q with
        | .error x => .error x
        | .ok (len, q1) => match rdF l2 b q1 with
          | .error x => .error x
          | .ok (d, q2) => match meaF (Gf.disT d) b q2 with
            | .error x => .error x
            | .ok (dist, q3) => match againF most q3 len dist out with
              | .error x => .error x
              | .ok (p', out') => toldF l1 l2 b most f p' out'
theorem stp_bd : (∀ n, n < 28 → (Gf.stp 3 4 n).1 ≤ 100000 ∧ (Gf.stp 3 4 n).2 ≤ 16) ∧ (∀ n, n < 30 → 1 ≤ (Gf.stp 1 2 n).1 ∧ (Gf.stp 1 2 n).1 ≤ 30000 ∧ (Gf.stp 1 2 n).2 ≤ 13) := by decide +kernel
theorem lenT_bd (z : Int) : ∃ (base extra : Nat) (e : Int), Gf.lenT z = ((base : Int), (extra : Int), e) ∧ base ≤ 1000 ∧ extra ≤ 16 := by
  have h2 : ∀ n, n < 28 → (Gf.stp 3 4 n).1 ≤ 1000 := by decide +kernel
  unfold Gf.lenT
  split
  · exact ⟨0, 0, 2, rfl, by decide, by decide⟩
  split
  · exact ⟨258, 0, 0, rfl, by decide, by decide⟩
  · exact ⟨_, _, 0, rfl, h2 _ (by omega), (stp_bd.1 _ (by omega)).2⟩
theorem disT_bd (z : Int) : ∃ (base extra : Nat) (e : Int), Gf.disT z = ((base : Int), (extra : Int), e) ∧ base ≤ 30000 ∧ extra ≤ 13 ∧ (e = 0 → 1 ≤ base) := by
  unfold Gf.disT
  split
  · exact ⟨0, 0, 2, rfl, by decide, by decide, by decide⟩
  · have := stp_bd.2 z.toNat (by omega)
    exact ⟨_, _, 0, rfl, this.2.1, this.2.2, fun _ => this.1⟩
theorem rdF_gt {l : List Int} {b : List UInt8} {p s q : Nat} (h : rdF l b p = .ok (s, q)) : p < q := by
  have key : ∀ f n c, (Gf.symF l (Gf.bitAt b p) f n c).2.2 = 0 → 0 < (Gf.symF l (Gf.bitAt b p) f n c).2.1 := by
    intro f
    induction f with
    | zero => intro n c h; simp [Gf.symF] at h
    | succ f ih =>
      intro n c h
      rw [Gf.symF] at h ⊢
      cases hh : Gf.hit l n c with
      | some i =>
        simp only
        have := (Gf.some_hit hh).2.2.1
        omega
      | none =>
        simp only [hh] at h ⊢
        by_cases hl : Gf.live l n c l.length = true
        · simp only [hl, if_true] at h ⊢
          cases hb : Gf.bitAt b p n with
          | none => simp [hb] at h
          | some v =>
            simp only [hb] at h ⊢
            exact ih (n + 1) (2 * c + v) h
        · simp [hl] at h
  unfold rdF at h
  split at h
  · rename_i h0
    have := key _ _ _ h0
    cases h
    omega
  · cases h
/-- A measured length or distance, or how that fails. -/
def MEnds (K : Nat → Prop) (N : Nat) (w : World) (sb : Nat) (vb : Value) (b out : List UInt8) (most : Nat) (fx : Value) (r : Except Int (Nat × Nat)) (e : Ending) (w' : World) : Prop :=
  Kp K w w' ∧ match r with
      | .ok (s, q) => e = .returned (.int .i64 (s : Int)) ∧ St K N w' sb vb b q out most fx
      | .error x => e = flt x
theorem mea_any (K : Nat → Prop) (N : Nat) (w : World) (sb : Nat) (vb : Value) (b : List UInt8) (p : Nat) (out : List UInt8) (most : Nat) (fx : Value) (T : Int × Int × Int) (base extra : Nat) (e0 : Int) (hT : T = ((base : Int), (extra : Int), e0)) (hb : base ≤ 100000) (hx : extra ≤ 16) (h : St K N w sb vb b p out most fx) :
    Calls Try.prog 49 #[.pointer (some ⟨sb, 0, none⟩), .int .i64 (base : Int), .int .i64 (extra : Int), .int .i64 e0] w (MEnds K N w sb vb b out most fx (meaF T b p)) := by
  refine (measure_any K N w sb vb b p out most fx base extra e0 hb hx h).mono ?_
  rintro e w' ⟨kp, ⟨h1, h2, rfl, st⟩ | ⟨h1, rfl⟩ | ⟨h1, h2, rfl⟩⟩
  · refine ⟨kp, ?_⟩
    unfold meaF
    rw [hT]
    simp only [h1, if_true, Int.toNat_natCast, if_pos h2]
    exact ⟨trivial, st⟩
  · refine ⟨kp, ?_⟩
    unfold meaF
    rw [hT]
    simp only [if_neg h1]
  · refine ⟨kp, ?_⟩
    unfold meaF
    rw [hT]
    simp only [h1, if_true, Int.toNat_natCast, if_neg h2]
theorem mea_bd {T : Int × Int × Int} {base extra : Nat} {e0 : Int} (hT : T = ((base : Int), (extra : Int), e0)) (hx : extra ≤ 16) {b : List UInt8} {p n q : Nat} (h : meaF T b p = .ok (n, q)) : e0 = 0 ∧ base ≤ n ∧ n < base + 65536 ∧ p ≤ q := by
  unfold meaF at h
  rw [hT] at h
  simp only [Int.toNat_natCast] at h
  split at h
  · rename_i h0
    split at h
    · have hl : nbr b p extra < 65536 := Nat.lt_of_lt_of_le (nbr_lt b p extra) (Nat.pow_le_pow_right (n := 2) (by decide) hx)
      cases h
      exact ⟨h0, by omega, by omega, by omega⟩
    · cases h
  · cases h
theorem again_ends {most p len dist : Nat} {out : List UInt8} {q : Nat} {o : List UInt8} (h : againF most p len dist out = .ok (q, o)) : q = p := by
  unfold againF at h
  split at h
  · cases h
  · cases ht : tellF most dist len out with
    | error x => rw [ht] at h; cases h
    | ok o' => rw [ht] at h; cases h; rfl
theorem results38 (T : Array Value) (w : World) : (results Try.f38 T).run Try.prog w = .ok (.tuple #[]) w := by
  unfold results
  simp [go_sem]
theorem nextE_any (K : Nat → Prop) (N : Nat) (w : World) (sb : Nat) (vb : Value) (b : List UInt8) (p : Nat) (out : List UInt8) (most : Nat) (fx : Value) (l : List Int) (fb xb : Nat) (hchk : Gf.chkE l = 0) (hR : RdK K w sb l fb xb) (h : St K N w sb vb b p out most fx) :
    Calls Try.prog 48 #[.pointer (some ⟨fb, 0, none⟩), .pointer (some ⟨xb, 0, none⟩)] w (MEnds K N w sb vb b out most fx (rdF l b p)) := next_any K N w sb vb b p out most fx l fb xb hchk hR h
theorem MEnds.cases {K : Nat → Prop} {N : Nat} {w w' : World} {sb : Nat} {vb : Value} {b out : List UInt8} {most : Nat} {fx : Value} {r : Except Int (Nat × Nat)} {e : Ending} (h : MEnds K N w sb vb b out most fx r e w') :
    Kp K w w' ∧ ((∃ s q, r = .ok (s, q) ∧ e = .returned (.int .i64 (s : Int)) ∧ St K N w' sb vb b q out most fx) ∨ (∃ x, r = .error x ∧ e = flt x)) := by
  obtain ⟨kp, h⟩ := h
  refine ⟨kp, ?_⟩
  cases r with
  | error x => exact .inr ⟨x, rfl, h⟩
  | ok sq => exact .inl ⟨sq.1, sq.2, rfl, h.1, h.2⟩
theorem Ends.cases {K : Nat → Prop} {N : Nat} {w w' : World} {sb : Nat} {vb : Value} {b : List UInt8} {most : Nat} {fx : Value} {r : Except Int (Nat × List UInt8)} {e : Ending} (h : Ends K N w sb vb b most fx r e w') :
    Kp K w w' ∧ ((∃ q o, r = .ok (q, o) ∧ e = .returned (.tuple #[]) ∧ St K N w' sb vb b q o most fx) ∨ (∃ x, r = .error x ∧ e = flt x)) := by
  obtain ⟨kp, h⟩ := h
  refine ⟨kp, ?_⟩
  cases r with
  | error x => exact .inr ⟨x, rfl, h⟩
  | ok sq => exact .inl ⟨sq.1, sq.2, rfl, h.1, h.2⟩
end Go.Proofs.Ytbnghmeeddjaoaa
