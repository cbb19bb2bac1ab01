/- The reference's receivers: made, a number's place, throw. -/
import Derived.Test.YtikkekdmahdgaaaRc
namespace Go.Proofs.Ytikkekdmahdgaaa
open Go.RowKit Go.BigFrame
set_option linter.unusedSimpArgs false
set_option linter.unusedVariables false

def atF (l : List Rw) (n : UInt64) : Int := if fstAt n l < l.length then (fstAt n l : Int) else -1
/-- Those of the first k states that stay when the ones below n go, but the last one. -/
def thrK (l : List Rw) (n : UInt64) : Nat → List Rw
  | 0 => []
  | k + 1 => thrK l n k ++ (if n.toNat ≤ (l.getD k Rw.zero).n.toNat ∨ k + 1 = l.length then [l.getD k Rw.zero] else [])
def thrF (l : List Rw) (n : UInt64) : List Rw := thrK l n l.length
theorem thrK_len (l : List Rw) (n : UInt64) : ∀ k, (thrK l n k).length ≤ k
  | 0 => Nat.le_refl _
  | k + 1 => by
    have := thrK_len l n k
    unfold thrK
    rw [List.length_append]
    split <;> simp <;> omega
theorem thrF_pos (l : List Rw) (n : UInt64) (h : 0 < l.length) : 0 < (thrF l n).length := by
  unfold thrF
  obtain ⟨k, hk⟩ : ∃ k, l.length = k + 1 := ⟨l.length - 1, by omega⟩
  rw [hk]
  unfold thrK
  rw [if_pos (.inr hk.symm)]
  simp
theorem RcR.put {w w1 : World} {p : Nat} {v v' : Value} {l' : List Rw} (hr : Row w p 67 #[v]) (hb : Below w.heap.size w w1) (ho : OwnR w.heap.size w1 v' l') (h1 : 0 < l'.length) (h2 : l'.length ≤ 100) :
    RcR (w1.setCell ⟨p, 0, none⟩ v') (fun k => k = p ∨ v'.ownBlock = some k) p l' ∧ Tch (fun k => k = p ∨ v.ownBlock = some k) w (w1.setCell ⟨p, 0, none⟩ v') ∧ ∀ k, (k = p ∨ v'.ownBlock = some k) → (k = p ∨ v.ownBlock = some k) ∨ w.heap.size ≤ k := by
  refine ⟨⟨v', rfl, (hr.below hb hr.lt).setCell 0 v', (ho.same fun g hg => Below.heap_setCell _ _ _ _ fun e => ?_).less (Nat.zero_le _), h1, h2⟩, (Tch.of hb).set _ _ (.inl (.inl rfl)), ?_⟩
  · have := (ho.lt g hg).1
    have := hr.lt
    have e' : g = p := e
    omega
  · rintro k (rfl | hk)
    · exact .inl (.inl rfl)
    · exact .inr (ho.lt k hk).1

set_option maxRecDepth 100000 in
theorem newRecv_any (t : List UInt8) (w : World) : Calls Try.prog 19 #[sT t] w fun e w' => ∃ p F, e = .returned (.pointer (some ⟨p, 0, none⟩)) ∧ RcR w' F p [⟨0, t, 0⟩] ∧ Below w.heap.size w w' ∧ ∀ k, F k → w.heap.size ≤ k := by
  have h1 := OwnR.one w w.heap.size (Nat.le_refl _) ⟨0, t, 0⟩
  have b1 : Below w.heap.size w (w.alloc (.cells (rowsC [⟨0, t, 0⟩]).toArray 50)) := (Below.refl _ _).alloc (Nat.le_refl _) _
  have z1 : (w.alloc (.cells (rowsC [⟨0, t, 0⟩]).toArray 50)).heap.size = w.heap.size + 1 := by simp
  have r2 := Row.new (w.alloc (.cells (rowsC [⟨0, t, 0⟩]).toArray 50)) 67 #[.slice (some ⟨w.heap.size, 0, none⟩) 1 1]
  have b2 : Below (w.alloc (.cells (rowsC [⟨0, t, 0⟩]).toArray 50)).heap.size (w.alloc (.cells (rowsC [⟨0, t, 0⟩]).toArray 50)) ((w.alloc (.cells (rowsC [⟨0, t, 0⟩]).toArray 50)).alloc (.cells #[.slice (some ⟨w.heap.size, 0, none⟩) 1 1] 67)) := (Below.refl _ _).alloc (Nat.le_refl _) _
  have S : Box' (RcR ((w.alloc (.cells (rowsC [⟨0, t, 0⟩]).toArray 50)).alloc (.cells #[.slice (some ⟨w.heap.size, 0, none⟩) 1 1] 67)) (fun k => k = w.heap.size + 1 ∨ (Value.slice (some ⟨w.heap.size, 0, none⟩) 1 1).ownBlock = some k) (w.heap.size + 1) [⟨0, t, 0⟩]) := ⟨⟨_, rfl, by rw [← z1]; exact r2, (h1.below b2).less (Nat.zero_le _), by simp, by simp⟩⟩
  have T := Box'.mk (b1.trans (b2.mono b1.size))
  have G : Box' (∀ k, (k = w.heap.size + 1 ∨ (Value.slice (some ⟨w.heap.size, 0, none⟩) 1 1).ownBlock = some k) → w.heap.size ≤ k) := ⟨fun k hk => by
    rcases hk with rfl | hk
    · omega
    · have : w.heap.size = k := by simpa [Value.ownBlock] using hk
      omega⟩
  clear h1 b1 z1 r2 b2
  have e1 : (rowsC [⟨0, t, 0⟩]).toArray = #[.int .u64 0, sT t, .int .u64 0] := rfl
  rw [e1] at S T
  clear e1
  unfold sT at S T ⊢
  go_enter Try.func19, Try.ntmps19
  go_wp2_with fail
  go_ret
  exact ⟨_, _, rfl, S.out, T.out, G.out⟩

set_option maxRecDepth 100000 in
set_option maxHeartbeats 4000000 in
theorem at_any (w : World) (F : Nat → Prop) (p : Nat) (l : List Rw) (n : UInt64) (h : RcR w F p l) : Calls Try.prog 40 #[.pointer (some ⟨p, 0, none⟩), uV n] w fun e w' => e = .returned (.int .i64 (atF l n)) ∧ w' = w := by
  obtain ⟨v, rfl, hr, ho, hp, hm⟩ := h
  obtain ⟨g, c, rfl, hc, _, hg, hcl⟩ := ho.cells hp
  have AC := Box'.mk (atF.eq_1 l n)
  have FE := Box'.mk (fstAt_eq n l)
  have FN := Box'.mk (fstAt_none n l)
  have CK : Box' (∀ k, k < l.length → w.cell? ⟨g, k * 3, none⟩ = some (.int .u64 ((l.getD k Rw.zero).n.toNat : Int))) := ⟨fun k hk => hcl _ _ (rowsC_at l k hk).1⟩
  have c1 : w.cell? ⟨p, 0, none⟩ = some (.slice (some ⟨g, 0, none⟩) l.length c) := hr.cell 0
  clear hr ho hcl hg
  generalize hL : l.length = L at *
  have HL := Box'.mk hL
  clear hL
  unfold uV
  have hn := n.toNat_lt
  go_enter Try.func40, Try.ntmps40
  go_wp2_with fail
  go_loopw [5] (fun i wr => ∃ k : Nat, i = .int .i64 (k : Int) ∧ k ≤ L ∧ Box' (∀ j, j < k → (l.getD j Rw.zero).n ≠ n) ∧ wr = w) (fun i _ => L - (intOf i).toNat)
  case atStart => exact ⟨0, rfl, Nat.zero_le _, ⟨fun j hj => by omega⟩, rfl⟩
  case round =>
    obtain ⟨k, rfl, hk, NJ, hw⟩ := hrel
    subst hw
    by_cases hlt : k < L
    · have ck := CK.out k hlt
      have fe := Box'.mk (FE.out k (by first | exact hlt | (rw [HL.out]; exact hlt)))
      have NK : Box' ((l.getD k Rw.zero).n ≠ n → ∀ j, j < k + 1 → (l.getD j Rw.zero).n ≠ n) := ⟨fun he j hj => by
        rcases Nat.lt_succ_iff_lt_or_eq.1 hj with h1 | rfl
        · exact NJ.out j h1
        · exact he⟩
      generalize (l.getD k Rw.zero).n = q at *
      have hqq := q.toNat_lt
      by_cases he : q = n
      · have i1 := fe.out he NJ.out
        have AE : Box' (atF l n = (k : Int)) := ⟨by rw [AC.out, i1, if_pos (by first | exact hlt | (rw [HL.out]; exact hlt))]⟩
        subst he
        clear CK FE FN AC NJ NK fe i1
        go_wp2_with fail
        go_ret
        exact ⟨by rw [AE.out]; rfl, rfl⟩
      · have NJ2 := Box'.mk (NK.out he)
        have gf : ((q.toNat : Int) == (n.toNat : Int)) = false := by
          rw [beq_eq_false_iff_ne]; intro e; exact he (UInt64.toNat_inj.1 (by omega))
        clear CK FE FN AC NJ NK fe he
        go_wp2_with fail
        exact ⟨⟨k + 1, by go_num, by omega, NJ2, trivial⟩, by simp [intOf]; omega⟩
    · obtain rfl : L = k := by omega
      have i1 := FN.out (fun j hj => NJ.out j (by have := HL.out; omega))
      have AE : Box' (atF l n = -1) := ⟨by rw [AC.out, i1, if_neg (by have := HL.out; omega)]⟩
      clear CK FE FN AC NJ
      go_wp2_with fail
      go_ret
      exact ⟨by rw [AE.out]; rfl, rfl⟩
end Go.Proofs.Ytikkekdmahdgaaa
