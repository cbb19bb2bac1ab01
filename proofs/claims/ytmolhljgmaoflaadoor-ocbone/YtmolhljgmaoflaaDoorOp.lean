/- The walks of fault and Same. -/
import Derived.Test.YtmolhljgmaoflaaDoorOn
namespace Go.Proofs.YtmolhljgmaoflaaDoor
open Go.RowKit Go.BigFrame

def Gf.fault (n b : Nat) (s : Int) : Int := if n < 1 ∨ 15 < n then 2 else if 65536 < s ∨ 65536 < b then 4 else 0
set_option maxHeartbeats 1000000 in
theorem fault_any (an : Option Addr) (n cn : Nat) (ab : Option Addr) (b cb : Nat) (s : Int) (hn : n ≤ maxLen) (hb : b ≤ maxLen) (w : World) :
    Calls Tryd.prog 19 #[.slice an n cn, .slice ab b cb, .int .i64 s] w fun e w' => e = .returned (.int .i64 (Gf.fault n b s)) ∧ w' = w := by
  unfold Gf.fault
  unfold maxLen at hn hb
  by_cases h1 : n < 1
  · rw [if_pos (.inl h1)]
    have i1 : (n : Int) < 1 := by omega
    go_enter Tryd.func19, Tryd.ntmps19
    go_wp2
    go_ret
    exact ⟨rfl, rfl⟩
  · have i1 : ¬ (n : Int) < 1 := by omega
    by_cases h2 : 15 < n
    · rw [if_pos (.inr h2)]
      have i2 : (15 : Int) < (n : Int) := by omega
      go_enter Tryd.func19, Tryd.ntmps19
      go_wp2
      go_ret
      exact ⟨rfl, rfl⟩
    · rw [if_neg (by omega)]
      have i2 : ¬ (15 : Int) < (n : Int) := by omega
      by_cases h3 : 65536 < s
      · rw [if_pos (.inl h3)]
        go_enter Tryd.func19, Tryd.ntmps19
        go_wp2
        go_ret
        exact ⟨rfl, rfl⟩
      · by_cases h4 : 65536 < b
        · rw [if_pos (.inr h4)]
          have i4 : (65536 : Int) < (b : Int) := by omega
          go_enter Tryd.func19, Tryd.ntmps19
          go_wp2
          go_ret
          exact ⟨rfl, rfl⟩
        · rw [if_neg (by omega)]
          have i4 : ¬ (65536 : Int) < (b : Int) := by omega
          go_enter Tryd.func19, Tryd.ntmps19
          go_wp2
          go_ret
          exact ⟨rfl, rfl⟩

def Gf.unl (a b : List UInt8) : Nat → UInt8
  | 0 => 0
  | k + 1 => Gf.unl a b k ||| (a.getD k 0 ^^^ b.getD k 0)
theorem or_zero8 : ∀ m n : Nat, m < 256 → n < 256 → ((m ||| n) = 0 ↔ m = 0 ∧ n = 0) := fun m n _ _ => by
  rw [Nat.or_eq_zero_iff]
theorem Gf.unl_zero (a b : List UInt8) (k : Nat) : Gf.unl a b k = 0 ↔ ∀ i, i < k → a.getD i 0 = b.getD i 0 := by
  induction k with
  | zero => simp [Gf.unl]
  | succ k ih =>
    rw [Gf.unl, ← UInt8.toNat_inj, UInt8.toNat_or]
    show (_ ||| _) = 0 ↔ _
    rw [or_zero8 _ _ (UInt8.toNat_lt _) (UInt8.toNat_lt _)]
    have e1 : (Gf.unl a b k).toNat = 0 ↔ Gf.unl a b k = 0 := ⟨fun h => UInt8.toNat_inj.1 h, fun h => by rw [h]; rfl⟩
    have e2 : (a.getD k 0 ^^^ b.getD k 0).toNat = 0 ↔ a.getD k 0 = b.getD k 0 := by
      constructor
      · intro h
        have : a.getD k 0 ^^^ b.getD k 0 = 0 := UInt8.toNat_inj.1 h
        exact UInt8.xor_eq_zero_iff.1 this
      · intro h; rw [h, UInt8.xor_self]; rfl
    rw [e1, e2, ih]
    constructor
    · rintro ⟨h1, h2⟩ i hi
      by_cases e : i = k
      · subst e; exact h2
      · exact h1 i (by omega)
    · intro h
      exact ⟨fun i hi => h i (by omega), h k (by omega)⟩
theorem Gf.unl_eq (a b : List UInt8) (h : a.length = b.length) : Gf.unl a b a.length = 0 ↔ a = b := by
  rw [Gf.unl_zero]
  constructor
  · intro hh
    apply List.ext_getElem h
    intro i h1 h2
    have := hh i h1
    simpa [h1, h2] using this
  · rintro rfl i _; rfl
theorem or_u8 (x y : UInt8) : bits .or .u8 (x.toNat : Int) (y.toNat : Int) = (((x ||| y).toNat : Nat) : Int) := by
  rw [u8_or_nat _ _ x.toNat_lt y.toNat_lt]; simp

set_option maxRecDepth 100000 in
set_option maxHeartbeats 1000000 in
theorem same_any (S1 S2 : Nat → Prop) (va vb : Value) (la lb : List UInt8) (w : World) (ha : Bts S1 w va la) (hb : Bts S2 w vb lb) (hma : la.length ≤ maxLen) (hmb : lb.length ≤ maxLen) :
    Calls Tryd.prog 13 #[va, vb] w fun e w' => e = .returned (.bool (decide (la = lb))) ∧ Below w.heap.size w w' := by
  obtain ⟨aa, ca, rfl, hca, h3⟩ := ha
  obtain ⟨ab, cb, rfl, hcb, h4⟩ := hb
  unfold maxLen at hma hmb
  by_cases hne : la.length = lb.length
  · have hU := Gf.unl_eq la lb hne
    have hcl : ∀ k, k < la.length → ∃ b o b' o', aa = some ⟨b, o, none⟩ ∧ ab = some ⟨b', o', none⟩ ∧ w.cell? ⟨b, o + k, none⟩ = some (.int .u8 ((la.getD k 0).toNat : Int)) ∧ w.cell? ⟨b', o' + k, none⟩ = some (.int .u8 ((lb.getD k 0).toNat : Int)) := by
      intro k hk
      rcases h3 with rfl | ⟨b, o, rfl, _, hr⟩
      · simp at hk
      rcases h4 with rfl | ⟨b', o', rfl, _, hr'⟩
      · have : la.length = 0 := hne
        omega
      exact ⟨b, o, b', o', rfl, rfl, hr k _ (by simp [hk]; rfl), hr' k _ (by simp [show k < lb.length by omega]; rfl)⟩
    have HCL := Box'.mk hcl
    have HU := Box'.mk hU
    clear hcl hU h3 h4
    rw [← hne]
    rw [← hne] at hmb hcb
    obtain ⟨n, hn⟩ : ∃ n, la.length = n := ⟨_, rfl⟩
    rw [hn] at HCL HU hma hca hmb hcb
    rw [hn]
    go_enter Tryd.func13, Tryd.ntmps13
    go_wp2
    go_loopw [5, 14] (fun u c wr => ∃ k : Nat, k ≤ n ∧ c = .int .i64 (k : Int) ∧ u = .int .u8 ((Gf.unl la lb k).toNat : Int) ∧ ∃ m, wr = w.drewN m) (fun _ c _ => n - (intOf c).toNat)
    case atStart => exact ⟨0, by omega, rfl, rfl, 0, rfl⟩
    case round =>
      obtain ⟨k, hk, rfl, rfl, m, rfl⟩ := hrel
      by_cases hlt : k < n
      · obtain ⟨b, o, b', o', rfl, rfl, c1, c2⟩ := HCL.out k hlt
        have E : Box' (Gf.unl la lb (k + 1) = Gf.unl la lb k ||| (la.getD k 0 ^^^ lb.getD k 0)) := ⟨rfl⟩
        have x1 := xor_u8 (la.getD k 0) (lb.getD k 0)
        have x2 := or_u8 (Gf.unl la lb k) (la.getD k 0 ^^^ lb.getD k 0)
        generalize la.getD k 0 = x at *
        generalize lb.getD k 0 = y at *
        generalize x ^^^ y = z at *
        generalize Gf.unl la lb k = u at *
        generalize u ||| z = uz at *
        go_wp2
        go_quiet (fail)
        go_wp2
        exact ⟨⟨k + 1, by omega, by go_num, by rw [E.out], m + nq, rfl⟩, by simp [intOf]; omega⟩
      · have hk' : k = n := by omega
        subst hk'
        have he : (((Gf.unl la lb k).toNat : Int) == 0) = decide (la = lb) := by
          rw [Bool.eq_iff_iff, beq_iff_eq, decide_eq_true_eq, ← HU.out]
          constructor
          · intro h; exact UInt8.toNat_inj.1 (by have := Int.natCast_eq_zero.1 h; rw [this]; rfl)
          · intro h; rw [h]; rfl
        have HE := Box'.mk he
        have hbl : Below w.heap.size w (w.drewN m) := Below.drewN (Below.refl _ _) m
        clear he HCL HU
        generalize Gf.unl la lb k = u at *
        go_wp2
        go_ret
        exact ⟨by rw [← HE.out]; rfl, hbl⟩
  · have hd : decide (la = lb) = false := by rw [decide_eq_false_iff_not]; rintro rfl; exact hne rfl
    have hi : ((la.length : Int) == (lb.length : Int)) = false := by rw [beq_eq_false_iff_ne]; omega
    rw [hd]
    clear hd h3 h4
    go_enter Tryd.func13, Tryd.ntmps13
    go_wp2
    go_ret
    exact ⟨rfl, Below.refl _ _⟩
end Go.Proofs.YtmolhljgmaoflaaDoor
