/- The walks of bytesRead, measure, count, stored. -/
import Derived.Test.YtbnghmeeddjaoaaFc
import Derived.Laws.BitsAllLaws
namespace Go.Proofs.Ytbnghmeeddjaoaa
open Go.RowKit Go.BigFrame

theorem bytesRead_any (K : Nat → Prop) (N : Nat) (w : World) (sb : Nat) (vb : Value) (b : List UInt8) (p : Nat) (out : List UInt8) (most : Nat) (fx : Value) (h : St K N w sb vb b p out most fx) :
    Calls Try.prog 19 #[.pointer (some ⟨sb, 0, none⟩)] w fun e w' => e = .returned (.int .i64 (((p + 7) / 8 : Nat) : Int)) ∧ w' = w := by
  obtain ⟨vo, hr, ho⟩ := h.row
  have c1 : w.cell? ⟨sb, 1, none⟩ = some (.int .i64 (p : Int)) := by rw [hr.cell]; rfl
  have hpl := h.pl
  have hbl := h.bl
  clear hr ho h
  go_enter Try.func19, Try.ntmps19
  go_wp2_with fail
  go_ret
  refine ⟨ret_int ?_, rfl⟩
  omega
theorem nbr_lt (b : List UInt8) (p size : Nat) : nbr b p size < 2 ^ size := Nat.mod_lt _ (Nat.pow_pos (by decide))

set_option maxHeartbeats 1000000 in
theorem count_any (K : Nat → Prop) (N : Nat) (w : World) (sb : Nat) (vb : Value) (b : List UInt8) (p : Nat) (out : List UInt8) (most : Nat) (fx : Value) (h : St K N w sb vb b p out most fx) :
    Calls Try.prog 51 #[.pointer (some ⟨sb, 0, none⟩)] w fun e w' => Kp K w w' ∧ ((p + 5 ≤ 8 * b.length ∧ nbr b p 5 ≤ 29 ∧ e = .returned (.int .i64 ((nbr b p 5 : Nat) : Int)) ∧ St K N w' sb vb b (p + 5) out most fx) ∨ (p + 5 ≤ 8 * b.length ∧ 29 < nbr b p 5 ∧ e = flt 8) ∨ (¬ p + 5 ≤ 8 * b.length ∧ e = flt 7)) := by
  have hn := number_any K N w sb vb b p out most fx 5 (by decide) h
  have hfl := fun w => fail_any 8 w
  have hlt := nbr_lt b p 5
  generalize nbr b p 5 = v at *
  clear h
  go_enter Try.func51, Try.ntmps51
  go_wp2_with fail
  refine hn.mono ?_
  clear hn
  rintro e w1 ⟨kp, ⟨hs, rfl, st⟩ | ⟨hs, rfl⟩⟩
  · have ST := Box'.mk st
    have HS := Box'.mk hs
    clear st hs
    by_cases h29 : 29 < v
    · have hf := hfl w1
      clear hfl
      go_wp2_with fail
      refine hf.mono ?_
      rintro e w' ⟨rfl, rfl⟩
      exact ⟨rfl, kp, .inr (.inl ⟨HS.out, h29, rfl⟩)⟩
    · clear hfl
      go_wp2_with fail
      go_ret
      exact ⟨kp, .inl ⟨HS.out, by omega, rfl, ST.out⟩⟩
  · exact ⟨rfl, kp, .inr (.inr ⟨hs, rfl⟩)⟩

set_option maxHeartbeats 1000000 in
theorem measure_any (K : Nat → Prop) (N : Nat) (w : World) (sb : Nat) (vb : Value) (b : List UInt8) (p : Nat) (out : List UInt8) (most : Nat) (fx : Value) (base extra : Nat) (e0 : Int) (hb : base ≤ 100000) (hx : extra ≤ 16) (h : St K N w sb vb b p out most fx) :
    Calls Try.prog 49 #[.pointer (some ⟨sb, 0, none⟩), .int .i64 (base : Int), .int .i64 (extra : Int), .int .i64 e0] w fun e w' => Kp K w w' ∧ ((e0 = 0 ∧ p + extra ≤ 8 * b.length ∧ e = .returned (.int .i64 ((base + nbr b p extra : Nat) : Int)) ∧ St K N w' sb vb b (p + extra) out most fx) ∨ (e0 ≠ 0 ∧ e = flt 8) ∨ (e0 = 0 ∧ ¬ p + extra ≤ 8 * b.length ∧ e = flt 7)) := by
  have hn := number_any K N w sb vb b p out most fx extra hx h
  have hlt : nbr b p extra < 65536 + 1 := Nat.lt_of_lt_of_le (nbr_lt b p extra) (Nat.le_trans (Nat.pow_le_pow_right (by decide) hx) (by decide))
  generalize nbr b p extra = v at *
  clear h
  by_cases he : e0 = 0
  · subst he
    go_enter Try.func49, Try.ntmps49
    go_wp2_with fail
    refine hn.mono ?_
    clear hn
    rintro e w1 ⟨kp, ⟨hs, rfl, st⟩ | ⟨hs, rfl⟩⟩
    · have ST := Box'.mk st
      have HS := Box'.mk hs
      clear st hs
      go_wp2_with fail
      go_ret
      exact ⟨kp, .inl ⟨trivial, HS.out, ret_int (by omega), ST.out⟩⟩
    · exact ⟨rfl, kp, .inr (.inr ⟨trivial, hs, rfl⟩)⟩
  · have hf := fail_any 8 w
    have heb : (e0 != 0) = true := by simpa using he
    clear hn
    have HE := Box'.mk he
    clear he
    go_enter Try.func49, Try.ntmps49
    go_wp2_with fail
    refine hf.mono ?_
    rintro e w' ⟨rfl, rfl⟩
    exact ⟨rfl, Kp.refl _ _, .inr (.inl ⟨HE.out, rfl⟩)⟩

/-- So many bytes that stand as they are. -/
def putsF (b : List UInt8) (most : Nat) : Nat → Nat → List UInt8 → Except Int (Nat × List UInt8)
  | 0, p, out => .ok (p, out)
  | k + 1, p, out => if p + 8 ≤ 8 * b.length then (if out.length = most then .error 4 else putsF b most k (p + 8) (out ++ [UInt8.ofNat (nbr b p 8)])) else .error 7
/-- A stored block. -/
def storedF (b : List UInt8) (most : Nat) (p : Nat) (out : List UInt8) : Except Int (Nat × List UInt8) :=
  if (p + 7) / 8 * 8 + 16 ≤ 8 * b.length then
    (if (p + 7) / 8 * 8 + 32 ≤ 8 * b.length then
      (if nbr b ((p + 7) / 8 * 8) 16 + nbr b ((p + 7) / 8 * 8 + 16) 16 = 65535 then putsF b most (nbr b ((p + 7) / 8 * 8) 16) ((p + 7) / 8 * 8 + 32) out else .error 8)
    else .error 7)
  else .error 7
/-- How a part of the stream ends. -/
def Ends (K : Nat → Prop) (N : Nat) (w : World) (sb : Nat) (vb : Value) (b : List UInt8) (most : Nat) (fx : Value) (r : Except Int (Nat × List UInt8)) (e : Ending) (w' : World) : Prop :=
  Kp K w w' ∧ match r with
    | .ok (p, out) => e = .returned (.tuple #[]) ∧ St K N w' sb vb b p out most fx
    | .error x => e = flt x
theorem Ends.bad {K : Nat → Prop} {N : Nat} {w w' : World} {sb : Nat} {vb : Value} {b : List UInt8} {most : Nat} {fx : Value} {r : Except Int (Nat × List UInt8)} {x : Int} (h : r = .error x) (kp : Kp K w w') : Ends K N w sb vb b most fx r (flt x) w' := by subst h; exact ⟨kp, rfl⟩
theorem Ends.good {K : Nat → Prop} {N : Nat} {w w' : World} {sb : Nat} {vb : Value} {b : List UInt8} {most : Nat} {fx : Value} {r : Except Int (Nat × List UInt8)} {p : Nat} {out : List UInt8} (h : r = .ok (p, out)) (kp : Kp K w w') (st : St K N w' sb vb b p out most fx) : Ends K N w sb vb b most fx r (.returned (.tuple #[])) w' := by subst h; exact ⟨kp, rfl, st⟩
theorem results36 (T : Array Value) (w : World) : (results Try.f36 T).run Try.prog w = .ok (.tuple #[]) w := by
  unfold results
  simp [go_sem]
theorem xor16 (n : Nat) (h : n < 65536) : 65535 ^^^ n = 65535 - n := by
  apply Nat.eq_of_testBit_eq
  intro i
  rw [Nat.testBit_xor, show 65535 = 2 ^ 16 - 1 from rfl, Nat.testBit_two_pow_sub_one, show 2 ^ 16 - 1 - n = 2 ^ 16 - (n + 1) by omega, Nat.testBit_two_pow_sub_succ (show n < 2 ^ 16 from h)]
  by_cases hi : i < 16
  · simp [hi]
  · have : n.testBit i = false := Nat.testBit_lt_two_pow (Nat.lt_of_lt_of_le h (Nat.pow_le_pow_right (n := 2) (by decide) (show 16 ≤ i by omega)))
    simp [hi, this]
theorem not16 (n : Nat) (h : n < 65536) : bits .xor .u16 IntKind.u16.max (n : Int) = ((65535 - n : Nat) : Int) := by
  rw [show IntKind.u16.max = ((65535 : Nat) : Int) from rfl, u16_xor_nat _ _ (by decide) h, xor16 n h]
theorem puts_step (b : List UInt8) (most k p : Nat) (out : List UInt8) : putsF b most (k + 1) p out = if p + 8 ≤ 8 * b.length then (if out.length = most then .error 4 else putsF b most k (p + 8) (out ++ [UInt8.ofNat (nbr b p 8)])) else .error 7 := rfl
set_option maxRecDepth 100000 in
set_option maxHeartbeats 2000000 in
theorem stored_any (K : Nat → Prop) (N : Nat) (w : World) (sb : Nat) (vb : Value) (b : List UInt8) (p : Nat) (out : List UInt8) (most : Nat) (fx : Value) (h : St K N w sb vb b p out most fx) :
    Calls Try.prog 36 #[.pointer (some ⟨sb, 0, none⟩)] w (Ends K N w sb vb b most fx (storedF b most p out)) := by
  have hbr := bytesRead_any K N w sb vb b p out most fx h
  obtain ⟨vo, hr, ho⟩ := h.row
  have c1 : w.cell? ⟨sb, 1, none⟩ = some (.int .i64 (p : Int)) := by rw [hr.cell]; rfl
  have f1 := hr.frozen 1
  have hpl := h.pl
  have hbl := h.bl
  have SF := Box'.mk (storedF.eq_1 b most p out)
  have hdl : (p + 7) / 8 ≤ b.length := by omega
  generalize hd : (p + 7) / 8 = d at *
  have stA := h.at_ (d * 8) (by omega)
  have kpA := (Kp.refl K w).setCell sb 1 h.sbK (.int .i64 ((d * 8 : Nat) : Int))
  rw [Int.natCast_mul] at stA kpA
  have hn1 := number_any K N _ sb vb b (d * 8) out most fx 16 (by decide) stA
  have l1 := nbr_lt b (d * 8) 16
  have KPA := Box'.mk kpA
  clear hr ho h stA kpA hd hpl
  generalize storedF b most p out = r at *
  go_enter Try.func36, Try.ntmps36
  go_wp2_with (go_at_call 19; refine hbr.mono ?_; rintro e w' ⟨rfl, hw'⟩; rw [hw'])
  refine hn1.mono ?_
  clear hn1 hbr c1 f1
  rintro e w1 ⟨kp, ⟨hs, rfl, st⟩ | ⟨hs, rfl⟩⟩
  case inr =>
    have e := SF.out
    rw [if_neg hs] at e
    exact ⟨rfl, Ends.bad e (KPA.out.trans kp)⟩
  case inl =>
    have hn2 := number_any K N w1 sb vb b (d * 8 + 16) out most fx 16 (by decide) st
    have l2 := nbr_lt b (d * 8 + 16) 16
    have K1 := Box'.mk (KPA.out.trans kp)
    have HS := Box'.mk hs
    clear st kp hs KPA
    go_wp2_with fail
    refine hn2.mono ?_
    clear hn2
    rintro e w2 ⟨kp, ⟨hs, rfl, st⟩ | ⟨hs, rfl⟩⟩
    case inr =>
      have e := SF.out
      rw [if_pos HS.out, if_neg (by omega)] at e
      exact ⟨rfl, Ends.bad e (K1.out.trans kp)⟩
    case inl =>
      have K2 := Box'.mk (K1.out.trans kp)
      have ST := Box'.mk st
      have e := SF.out
      rw [if_pos HS.out, if_pos (by omega)] at e
      have E := Box'.mk e
      generalize nbr b (d * 8) 16 = n at *
      generalize nbr b (d * 8 + 16) 16 = m at *
      clear kp hs st e SF K1 HS
      have n16 := not16 n l1
      have hsg : IntKind.u16.signed = false := rfl
      by_cases hm : n + m = 65535
      case neg =>
        have hq : ((m : Int) != bits .xor .u16 IntKind.u16.max (n : Int)) = true := by rw [n16]; simp; omega
        have e := E.out
        rw [if_neg hm] at e
        have E := Box'.mk e
        have hf := fail_any 8 w2
        clear e n16 hm ST
        go_wp2_with fail
        refine hf.mono ?_
        rintro e w' ⟨rfl, rfl⟩
        exact ⟨rfl, Ends.bad E.out K2.out⟩
      case pos =>
        have hq : ((m : Int) != bits .xor .u16 IntKind.u16.max (n : Int)) = false := by rw [n16]; simp; omega
        have e := E.out
        rw [if_pos hm] at e
        have E := Box'.mk e
        clear e n16 hm
        go_wp2_with fail
        go_loopw [22] (fun i wr => ∃ (k q : Nat) (o : List UInt8), k ≤ n ∧ i = .int .i64 (k : Int) ∧ Box' (r = putsF b most (n - k) q o) ∧ St K N wr sb vb b q o most fx ∧ Kp K w wr) (fun i _ => n - (intOf i).toNat)
        case atStart => exact ⟨0, d * 8 + 32, out, by omega, rfl, ⟨E.out⟩, ST.out, K2.out⟩
        case round =>
          clear E ST K2 hq
          obtain ⟨k, q, o, hk, rfl, HP, st, kp⟩ := hrel
          by_cases hlt : k < n
          · have hp := HP.out
            rw [show n - k = (n - (k + 1)) + 1 by omega, puts_step] at hp
            have hn1 := number_any K N wr sb vb b q o most fx 8 (by decide) st
            have l3 := nbr_lt b q 8
            have HP2 := Box'.mk hp
            have KP := Box'.mk kp
            clear HP hp st kp
            go_wp2_with fail
            refine hn1.mono ?_
            clear hn1
            rintro e w3 ⟨kp, ⟨hs, rfl, st⟩ | ⟨hs, rfl⟩⟩
            · have hp := HP2.out
              rw [if_pos hs] at hp
              have hpu := put_any K N w3 sb vb b (q + 8) o most fx (UInt8.ofNat (nbr b q 8)) st
              have hB : B (UInt8.ofNat (nbr b q 8)) = .int .u8 ((nbr b q 8 : Nat) : Int) := by
                unfold B
                rw [UInt8.toNat_ofNat', Nat.mod_eq_of_lt (by exact l3)]
              rw [hB] at hpu
              have HP3 := Box'.mk hp
              have KP3 := Box'.mk (KP.out.trans kp)
              generalize nbr b q 8 = x at *
              clear hp st kp hB HP2 hs
              go_wp2_with fail
              refine hpu.mono ?_
              clear hpu
              rintro e w4 ⟨kp, ⟨hs, rfl, st⟩ | ⟨hs, rfl⟩⟩
              · have hp := HP3.out
                rw [if_neg (by omega)] at hp
                have HP4 := Box'.mk hp
                have KP4 := Box'.mk (KP3.out.trans kp)
                have ST4 := Box'.mk st
                clear hp st kp hs HP3
                go_wp2_with fail
                exact ⟨⟨k + 1, q + 8, o ++ [UInt8.ofNat x], by omega, by go_num, HP4, ST4.out, KP4.out⟩, by simp [intOf]; omega⟩
              · have hp := HP3.out
                rw [if_pos hs] at hp
                exact ⟨rfl, Ends.bad hp (KP3.out.trans kp)⟩
            · have hp := HP2.out
              rw [if_neg hs] at hp
              exact ⟨rfl, Ends.bad hp (KP.out.trans kp)⟩
          · obtain rfl : k = n := by omega
            have hp := HP.out
            rw [Nat.sub_self] at hp
            have RES := Box'.mk (Ends.good hp kp st)
            clear HP hp st kp
            go_wp2_with fail
            exact ⟨rfl, _, results36 _ _, RES.out⟩
end Go.Proofs.Ytbnghmeeddjaoaa
