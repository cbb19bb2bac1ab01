/- Bits that were laid one behind the other are read back: numbers, symbols. -/
import Derived.Test.YtcjfaahlchbcmaaK41
import Derived.Test.YtcjfaahlchbcmaaK48
import Derived.Test.YtcjfaahlchbcmaaK07
import Derived.Test.YtcjfaahlchbcmaaK18
import Derived.Test.YtcjfaahlchbcmaaK44
namespace Go.Proofs.Ytcjfaahlchbcmaa
open Go.RowKit Go.BigFrame
set_option linter.unusedVariables false
set_option linter.unusedSimpArgs false
def Rd (b : List UInt8) (p : Nat) (R : List Bt) : Prop := p + Gf.tot R ≤ 8 * b.length ∧ Gf.num b / 2 ^ p % 2 ^ Gf.tot R = Gf.val R ∧ ∀ x ∈ R, Gf.may x = true
theorem rd_whole {D : List Bt} (h : ∀ x ∈ D, Gf.may x = true) : Rd (Gf.byt (Gf.wid D) (Gf.val D)) 0 D := by
  have h1 := Gf.val_lt D h
  have h2 : Gf.tot D ≤ 8 * Gf.wid D := by unfold Gf.wid; omega
  have h3 : 2 ^ Gf.tot D ≤ 256 ^ Gf.wid D := by
    rw [show (256 : Nat) = 2 ^ 8 from rfl, ← Nat.pow_mul]
    exact Nat.pow_le_pow_right (by decide) h2
  refine ⟨by rw [Gf.byt_len]; omega, ?_, h⟩
  rw [Gf.num_byt _ _ (by omega), Nat.pow_zero, Nat.div_one, Nat.mod_eq_of_lt h1]
theorem Rd.cons {b : List UInt8} {p : Nat} {x : Bt} {R : List Bt} (h : Rd b p (x :: R)) : nbr b p x.2.toNat = x.1 ∧ p + x.2.toNat ≤ 8 * b.length ∧ Rd b (p + x.2.toNat) R := by
  obtain ⟨h1, h2, h3⟩ := h
  have hx := h3 x List.mem_cons_self
  unfold Gf.may at hx
  rw [decide_eq_true_eq] at hx
  rw [Gf.tot] at h1 h2
  rw [Gf.val] at h2
  have hp := Nat.two_pow_pos x.2.toNat
  refine ⟨?_, by omega, by omega, ?_, fun y hy => h3 y (List.mem_cons_of_mem _ hy)⟩
  · unfold nbr
    have e : Gf.num b / 2 ^ p % 2 ^ (x.2.toNat + Gf.tot R) % 2 ^ x.2.toNat = Gf.num b / 2 ^ p % 2 ^ x.2.toNat :=
      Nat.mod_mod_of_dvd _ (Nat.pow_dvd_pow 2 (by omega))
    rw [← e, h2, Nat.add_mul_mod_self_left, Nat.mod_eq_of_lt hx.2.2]
  · have e : Gf.num b / 2 ^ p % (2 ^ x.2.toNat * 2 ^ Gf.tot R) / 2 ^ x.2.toNat = Gf.num b / 2 ^ p / 2 ^ x.2.toNat % 2 ^ Gf.tot R := Nat.mod_mul_right_div_self _ _ _
    rw [← Nat.pow_add, h2, Nat.add_mul_div_left _ _ hp, Nat.div_eq_of_lt hx.2.2, Nat.zero_add] at e
    rw [Nat.pow_add, ← Nat.div_div_eq_div_mul]
    exact e.symm
theorem Rd.app {b : List UInt8} : ∀ {A R : List Bt} {p : Nat}, Rd b p (A ++ R) → Rd b (p + Gf.tot A) R
  | [], R, p, h => h
  | x :: A, R, p, h => by
    have := (h.cons.2.2).app
    rw [Gf.tot, ← Nat.add_assoc]; exact this
theorem rd_sym {l : List Int} (hA : l.all Gf.lenB = true) (hW : Gf.wgt l ≤ 32768) {b : List UInt8} {p k : Nat} {R : List Bt} (hk : k < l.length) (h0 : Gf.ln l k ≠ 0) (h : Rd b p (cdA l k :: R)) :
    rdF l b p = .ok (k, p + Gf.ln l k) ∧ Rd b (p + Gf.ln l k) R := by
  have hL := Gf.ln_le l hA k
  have e0 : cdA l k = (Gf.rev (Gf.cod l k) (Gf.ln l k), l.getD k 0) := cds_full l k hk
  rw [e0] at h
  obtain ⟨h1, h2, h3⟩ := h.cons
  have e1 : (l.getD k 0).toNat = Gf.ln l k := rfl
  simp only [e1] at h1 h2 h3
  refine ⟨?_, h3⟩
  have hc := Gf.cod_lt l hA hW k hk
  generalize hLL : Gf.ln l k = L at *
  have key : ∀ n, n ≤ L → Gf.symF l (Gf.bitAt b p) 17 0 0 = Gf.symF l (Gf.bitAt b p) (17 - n) n (Gf.cod l k / 2 ^ (L - n)) := by
    intro n
    induction n with
    | zero => intro _; rw [Nat.sub_zero, Nat.sub_zero, Nat.div_eq_of_lt hc]
    | succ n ih =>
      intro hn
      rw [ih (by omega)]
      have hh : Gf.hit l n (Gf.cod l k / 2 ^ (L - n)) = none := by
        refine Gf.hit_none fun i hi => ?_
        unfold Gf.hitB
        rw [decide_eq_false_iff_not]
        rintro ⟨a1, a2, a3⟩
        have hne : i ≠ k := fun e => by subst e; omega
        have := Gf.free l hA i k hi hk hne (by omega) (by omega)
        rw [a1, hLL] at this
        exact this a3.symm
      have hl : Gf.live l n (Gf.cod l k / 2 ^ (L - n)) l.length = true := by
        unfold Gf.live
        rw [List.any_eq_true]
        refine ⟨k, by simpa using hk, ?_⟩
        unfold Gf.liveB
        rw [decide_eq_true_eq, hLL]
        exact ⟨by omega, rfl⟩
      have hb : Gf.bitAt b p n = some (Gf.cod l k / 2 ^ (L - (n + 1)) % 2) := by
        unfold Gf.bitAt
        rw [if_pos (by omega)]
        congr 1
        have q1 : (Gf.num b / 2 ^ p % 2 ^ L).testBit n = (Gf.cod l k).testBit (L - 1 - n) := by
          have q0 : nbr b p L = Gf.num b / 2 ^ p % 2 ^ L := rfl
          rw [← q0, h1, Gf.rev_bit]
          simp [show n < L by omega]
        rw [Nat.testBit_mod_two_pow, decide_eq_true (show n < L by omega), Bool.true_and] at q1
        rw [Nat.testBit_eq_decide_div_mod_eq, Nat.testBit_eq_decide_div_mod_eq, Nat.div_div_eq_div_mul, ← Nat.pow_add] at q1
        have q2 := decide_eq_decide.1 q1
        rw [show L - 1 - n = L - (n + 1) by omega] at q2
        have r1 := Nat.mod_lt (Gf.num b / 2 ^ (p + n)) (show 0 < 2 by decide)
        have r2 := Nat.mod_lt (Gf.cod l k / 2 ^ (L - (n + 1))) (show 0 < 2 by decide)
        omega
      rw [show 17 - n = (17 - (n + 1)) + 1 by omega, Gf.symF_on hh hl hb]
      congr 1
      have e : L - n = L - (n + 1) + 1 := by omega
      rw [e, Nat.pow_succ, ← Nat.div_div_eq_div_mul]
      have := Nat.div_add_mod (Gf.cod l k / 2 ^ (L - (n + 1))) 2
      omega
  have e2 := key L (Nat.le_refl _)
  rw [Nat.sub_self, Nat.pow_zero, Nat.div_one, show 17 - L = (16 - L) + 1 by omega] at e2
  have hh : Gf.hit l L (Gf.cod l k) = some k := Gf.hit_some hA hk (by unfold Gf.hitB; rw [decide_eq_true_eq]; exact ⟨hLL, h0, rfl⟩)
  rw [Gf.symF_hit hh] at e2
  unfold rdF
  rw [e2]
  rfl
theorem sz_spec2 (row n : Nat) : ∀ f k, (k = 0 ∨ 2 * row ≤ n / 2 ^ (k - 1)) → n / 2 ^ (k + f) < 2 * row → n / 2 ^ szF row n f k < 2 * row ∧ (szF row n f k = 0 ∨ 2 * row ≤ n / 2 ^ (szF row n f k - 1)) ∧ szF row n f k ≤ k + f
  | 0, k, h1, h2 => ⟨h2, h1, Nat.le_refl _⟩
  | f + 1, k, h1, h2 => by
    rw [szF]
    split
    · rename_i h; exact ⟨h, h1, by omega⟩
    · rename_i h
      have := sz_spec2 row n f (k + 1) (.inr (by rw [Nat.add_sub_cancel]; omega)) (by rw [show k + 1 + f = k + (f + 1) by omega]; exact h2)
      exact ⟨this.1, this.2.1, by omega⟩
theorem dis_all : ∀ s, s < 14 → ∀ h, h < 4 → (s = 0 ∨ 2 ≤ h) → Gf.disT ((2 * s + h : Nat) : Int) = (((1 + h * 2 ^ s : Nat) : Int), ((s : Nat) : Int), 0) := by decide +kernel
theorem dis_back {d : Nat} (h1 : 1 ≤ d) (h2 : d ≤ 32768) : ∃ base : Nat, Gf.disT ((nthF 2 (d - 1)).1 : Int) = ((base : Int), ((nthF 2 (d - 1)).2.2 : Int), 0) ∧ base + (nthF 2 (d - 1)).2.1 = d := by
  have hs := sz_spec2 2 (d - 1) 16 0 (.inl rfl) (by
    rw [Nat.div_eq_of_lt (by omega)]; decide)
  obtain ⟨a1, a2, a3⟩ := hs
  have e1 : (nthF 2 (d - 1)).1 = 2 * szF 2 (d - 1) 16 0 + (d - 1) / 2 ^ szF 2 (d - 1) 16 0 := rfl
  have e2 : (nthF 2 (d - 1)).2.1 = (d - 1) - (d - 1) / 2 ^ szF 2 (d - 1) 16 0 * 2 ^ szF 2 (d - 1) 16 0 := rfl
  have e3 : (nthF 2 (d - 1)).2.2 = szF 2 (d - 1) 16 0 := rfl
  rw [e1, e2, e3]
  generalize szF 2 (d - 1) 16 0 = s at *
  have hs14 : s < 14 := by
    rcases Nat.lt_or_ge s 14 with h | h
    · exact h
    · exfalso
      rcases a2 with a2 | a2
      · omega
      · have : (d - 1) / 2 ^ (s - 1) ≤ (d - 1) / 2 ^ 13 := Nat.div_le_div_left (Nat.pow_le_pow_right (by decide) (by omega)) (by decide)
        have q : (d - 1) / 2 ^ 13 < 4 := by
          rw [Nat.div_lt_iff_lt_mul (by decide)]
          omega
        omega
  have hh : s = 0 ∨ 2 ≤ (d - 1) / 2 ^ s := by
    rcases a2 with a2 | a2
    · exact .inl a2
    · by_cases h0 : s = 0
      · exact .inl h0
      · right
        have e : 2 ^ s = 2 ^ (s - 1) * 2 := by rw [← Nat.pow_succ]; congr 1; omega
        rw [e, ← Nat.div_div_eq_div_mul]
        omega
  refine ⟨_, dis_all s hs14 _ a1 hh, ?_⟩
  have := Nat.div_mul_le_self (d - 1) (2 ^ s)
  omega
theorem len_all : allP (fun n => decide (3 ≤ n → n ≤ 258 → Gf.lenT ((lenS n).1 : Int) = (((n - (lenS n).2.1 : Nat) : Int), ((lenS n).2.2 : Int), 0) ∧ (lenS n).2.1 ≤ n)) 9 0 = true := by decide +kernel
theorem len_back {n : Nat} (h1 : 3 ≤ n) (h2 : n ≤ 258) : Gf.lenT ((lenS n).1 : Int) = (((n - (lenS n).2.1 : Nat) : Int), ((lenS n).2.2 : Int), 0) ∧ (lenS n).2.1 ≤ n := by
  have := allP_get 9 0 len_all n (by omega) (by omega)
  exact of_decide_eq_true this h1 h2
theorem tell_cpy (most d : Nat) : ∀ k out, out.length + k ≤ most → tellF most d k out = .ok (cpy d k out)
  | 0, out, _ => rfl
  | k + 1, out, h => by
    rw [tell_step, if_neg (by omega), tell_cpy most d k _ (by simp; omega)]; rfl
theorem rd_mea {b : List UInt8} {p base x e : Nat} {R : List Bt} (h : Rd b p ((x, (e : Int)) :: R)) : meaF ((base : Int), (e : Int), 0) b p = .ok (base + x, p + e) ∧ Rd b (p + e) R := by
  obtain ⟨h1, h2, h3⟩ := h.cons
  have e1 : ((x, (e : Int)) : Bt).2.toNat = e := rfl
  rw [e1] at h1 h2 h3
  refine ⟨?_, h3⟩
  unfold meaF
  rw [if_pos rfl]
  show (if p + e ≤ 8 * b.length then Except.ok (base + nbr b p e, p + e) else .error 7) = _
  rw [if_pos h2, h1]
def SymOk (l1 l2 : List Int) (T : List Tok) : Prop := ∀ t ∈ T, (t.2.1 = 0 → t.1.toNat < l1.length ∧ Gf.ln l1 t.1.toNat ≠ 0) ∧ (t.2.1 ≠ 0 → (lenS t.2.1.toNat).1 < l1.length ∧ Gf.ln l1 (lenS t.2.1.toNat).1 ≠ 0 ∧ (nthF 2 (t.2.2.toNat - 1)).1 < l2.length ∧ Gf.ln l2 (nthF 2 (t.2.2.toNat - 1)).1 ≠ 0)
set_option maxRecDepth 100000 in
set_option maxHeartbeats 1000000 in
theorem told_end {l1 l2 : List Int} {b out : List UInt8} {most f p q : Nat} (h : rdF l1 b p = .ok (256, q)) : toldF l1 l2 b most (f + 1) p out = .ok (q, out) := by
  rw [(told_step l1 l2 b most f p out).out]
  simp only [h, if_true]
set_option maxRecDepth 100000 in
set_option maxHeartbeats 1000000 in
theorem told_byte {l1 l2 : List Int} {b out : List UInt8} {most f p q s : Nat} (h : rdF l1 b p = .ok (s, q)) (hs : s < 256) (ho : out.length ≠ most) : toldF l1 l2 b most (f + 1) p out = toldF l1 l2 b most f q (out ++ [UInt8.ofNat s]) := by
  rw [(told_step l1 l2 b most f p out).out]
  simp only [h]
  rw [if_neg (by omega), if_pos hs, if_neg ho]
set_option maxRecDepth 100000 in
set_option maxHeartbeats 1000000 in
theorem told_piece {l1 l2 : List Int} {b out out' : List UInt8} {most f p q s len q1 d q2 dist q3 p' : Nat} (h : rdF l1 b p = .ok (s, q)) (hs : 256 < s) (h1 : meaF (Gf.lenT (s : Int)) b q = .ok (len, q1)) (h2 : rdF l2 b q1 = .ok (d, q2)) (h3 : meaF (Gf.disT (d : Int)) b q2 = .ok (dist, q3)) (h4 : againF most q3 len dist out = .ok (p', out')) :
    toldF l1 l2 b most (f + 1) p out = toldF l1 l2 b most f p' out' := by
  rw [(told_step l1 l2 b most f p out).out]
  simp only [h]
  rw [if_neg (by omega), if_neg (by omega)]
  simp only [h1, h2, h3, h4]
theorem cdA_ln {l : List Int} {k : Nat} (hk : k < l.length) : (cdA l k).2.toNat = Gf.ln l k := by
  unfold cdA
  rw [cds_full l k hk]; rfl
set_option maxRecDepth 100000 in
set_option maxHeartbeats 1000000 in
theorem told_back {l1 l2 : List Int} (hA1 : l1.all Gf.lenB = true) (hW1 : Gf.wgt l1 ≤ 32768) (hA2 : l2.all Gf.lenB = true) (hW2 : Gf.wgt l2 ≤ 32768) (h256 : 256 < l1.length ∧ Gf.ln l1 256 ≠ 0) {b o : List UInt8} {most : Nat} (hmost : most = 65536) :
    ∀ (T : List Tok) (f p : Nat) (out : List UInt8), T.length < f → (∀ t ∈ T, TokOk t) → SymOk l1 l2 T → Rd b p ((T.map (tokB l1 l2)).flatten ++ [cdA l1 256]) → expF T out = (o, 0) →
      toldF l1 l2 b most f p out = .ok (p + Gf.tot ((T.map (tokB l1 l2)).flatten ++ [cdA l1 256]), o)
  | [], f + 1, p, out, _, _, _, h, he => by
    obtain ⟨r1, r2⟩ := rd_sym hA1 hW1 (R := []) h256.1 h256.2 h
    rw [told_end r1]
    have e1 : Gf.tot (([].map (tokB l1 l2)).flatten ++ [cdA l1 256]) = Gf.ln l1 256 := by
      rw [List.map_nil, List.flatten_nil, List.nil_append, Gf.tot, Gf.tot, cdA_ln h256.1]; rfl
    have e2 : out = o := congrArg Prod.fst he
    rw [e1, e2]
  | t :: r, f + 1, p, out, hf, hok, hc, h, he => by
    have hm : mayT t out.length = true := by
      rw [expF] at he
      split at he
      · assumption
      · simp at he
    rw [expF, if_pos hm] at he
    have hlen : ¬ 65536 < (oneT t out).length := by
      intro hh
      rw [if_pos hh] at he
      simp at he
    rw [if_neg hlen] at he
    have ih := fun p => told_back hA1 hW1 hA2 hW2 h256 (b := b) (o := o) hmost r f p (oneT t out) (by simp at hf; omega) (fun x hx => hok x (List.mem_cons_of_mem _ hx)) (fun x hx => hc x (List.mem_cons_of_mem _ hx))
    rw [List.map_cons, List.flatten_cons, List.append_assoc] at h ⊢
    rw [Gf.tot_app, ← Nat.add_assoc]
    have ht := hc t List.mem_cons_self
    by_cases hz : t.2.1 = 0
    · obtain ⟨c1, c2⟩ := ht.1 hz
      have e0 : tokB l1 l2 t = [cdA l1 t.1.toNat] := if_pos hz
      rw [e0] at h ⊢
      obtain ⟨r1, r2⟩ := rd_sym hA1 hW1 c1 c2 h
      have e1 : Gf.tot [cdA l1 t.1.toNat] = Gf.ln l1 t.1.toNat := by
        rw [Gf.tot, Gf.tot, cdA_ln c1]; rfl
      have e2 : oneT t out = out ++ [t.1] := if_pos hz
      have hb := t.1.toNat_lt
      have h1 : out.length ≠ most := by rw [e2, List.length_append, List.length_singleton] at hlen; omega
      rw [told_byte r1 (by omega) h1, e1, UInt8.ofNat_toNat, ← e2]
      exact ih _ r2 he
    · obtain ⟨c1, c2, c3, c4⟩ := ht.2 hz
      rcases hok t List.mem_cons_self with ⟨hh, _⟩ | ⟨_, a1, a2, a3, a4⟩
      · exact absurd hh hz
      · have e0 : tokB l1 l2 t = [cdA l1 (lenS t.2.1.toNat).1, ((lenS t.2.1.toNat).2.1, ((lenS t.2.1.toNat).2.2 : Int)), cdA l2 (nthF 2 (t.2.2.toNat - 1)).1, ((nthF 2 (t.2.2.toNat - 1)).2.1, ((nthF 2 (t.2.2.toNat - 1)).2.2 : Int))] := if_neg hz
        rw [e0] at h ⊢
        have hl := lenS_lt (d := t.2.1.toNat) (by omega) (by omega)
        obtain ⟨lb, lq⟩ := len_back (n := t.2.1.toNat) (by omega) (by omega)
        obtain ⟨db, d1, d2⟩ := dis_back (d := t.2.2.toNat) (by omega) (by omega)
        obtain ⟨r1, h⟩ := rd_sym hA1 hW1 c1 c2 h
        obtain ⟨m1, h⟩ := rd_mea (base := t.2.1.toNat - (lenS t.2.1.toNat).2.1) h
        obtain ⟨r2, h⟩ := rd_sym hA2 hW2 c3 c4 h
        obtain ⟨m2, h⟩ := rd_mea (base := db) h
        have e1 : Gf.tot [cdA l1 (lenS t.2.1.toNat).1, ((lenS t.2.1.toNat).2.1, ((lenS t.2.1.toNat).2.2 : Int)), cdA l2 (nthF 2 (t.2.2.toNat - 1)).1, ((nthF 2 (t.2.2.toNat - 1)).2.1, ((nthF 2 (t.2.2.toNat - 1)).2.2 : Int))] = Gf.ln l1 (lenS t.2.1.toNat).1 + ((lenS t.2.1.toNat).2.2 + (Gf.ln l2 (nthF 2 (t.2.2.toNat - 1)).1 + (nthF 2 (t.2.2.toNat - 1)).2.2)) := by
          rw [Gf.tot, Gf.tot, Gf.tot, Gf.tot, Gf.tot, cdA_ln c1, cdA_ln c3]; rfl
        have e2 : oneT t out = cpy t.2.2.toNat t.2.1.toNat out := if_neg hz
        have hd : t.2.2.toNat ≤ out.length := by
          unfold mayT at hm
          rw [if_neg hz, decide_eq_true_eq] at hm
          omega
        have hcl : out.length + t.2.1.toNat ≤ 65536 := by
          rw [e2, cpy_length] at hlen; omega
        rw [show t.2.1.toNat - (lenS t.2.1.toNat).2.1 + (lenS t.2.1.toNat).2.1 = t.2.1.toNat by omega] at m1
        rw [d2] at m2
        rw [← lb] at m1
        rw [← d1] at m2
        have m3 : againF most (p + Gf.ln l1 (lenS t.2.1.toNat).1 + (lenS t.2.1.toNat).2.2 + Gf.ln l2 (nthF 2 (t.2.2.toNat - 1)).1 + (nthF 2 (t.2.2.toNat - 1)).2.2) t.2.1.toNat t.2.2.toNat out = .ok (p + Gf.ln l1 (lenS t.2.1.toNat).1 + (lenS t.2.1.toNat).2.2 + Gf.ln l2 (nthF 2 (t.2.2.toNat - 1)).1 + (nthF 2 (t.2.2.toNat - 1)).2.2, cpy t.2.2.toNat t.2.1.toNat out) := by
          unfold againF
          rw [if_neg (by omega), tell_cpy _ _ _ _ (by omega)]; rfl
        rw [told_piece r1 (by omega) m1 r2 m2 m3, ← e2, ih _ h he, e1]
        congr 2
        omega
theorem toks_tot {l1 l2 : List Int} : ∀ T : List Tok, SymOk l1 l2 T → T.length ≤ Gf.tot ((T.map (tokB l1 l2)).flatten)
  | [], _ => Nat.zero_le _
  | t :: r, h => by
    have ih := toks_tot r fun x hx => h x (List.mem_cons_of_mem _ hx)
    have ht := h t List.mem_cons_self
    rw [List.map_cons, List.flatten_cons, Gf.tot_app, List.length_cons]
    have : 1 ≤ Gf.tot (tokB l1 l2 t) := by
      unfold tokB
      split
      · rename_i hz
        obtain ⟨c1, c2⟩ := ht.1 hz
        rw [Gf.tot, cdA_ln c1]; omega
      · rename_i hz
        obtain ⟨c1, c2, _, _⟩ := ht.2 hz
        rw [Gf.tot, cdA_ln c1]; omega
    omega
theorem fix_ln : (∀ k, k < 288 → Gf.ln fixS k ≠ 0) ∧ (∀ k, k < 30 → Gf.ln fixD k ≠ 0) := by
  have a1 : fixS.all (fun x => decide (0 < x)) = true := by decide +kernel
  have a2 : fixD.all (fun x => decide (0 < x)) = true := by decide +kernel
  have key : ∀ (l : List Int), l.all (fun x => decide (0 < x)) = true → ∀ k, k < l.length → Gf.ln l k ≠ 0 := by
    intro l h k hk
    have := List.all_eq_true.1 h l[k] (List.getElem_mem hk)
    unfold Gf.ln
    rw [List.getD_eq_getElem?_getD, List.getElem?_eq_getElem hk, Option.getD_some]
    have := of_decide_eq_true this
    omega
  exact ⟨fun k hk => key _ a1 k (by rw [fxS_len]; exact hk), fun k hk => key _ a2 k (by rw [fxD_len]; exact hk)⟩
theorem fix_sym {T : List Tok} (hok : ∀ t ∈ T, TokOk t) : SymOk fixS fixD T := by
  intro t ht
  refine ⟨fun hz => ?_, fun hz => ?_⟩
  · have := t.1.toNat_lt
    exact ⟨by rw [fxS_len]; omega, fix_ln.1 _ (by omega)⟩
  · obtain ⟨h1, h2⟩ := fix_in hok t ht hz
    rw [fxS_len] at h1
    rw [fxD_len] at h2
    exact ⟨by rw [fxS_len]; exact h1, fix_ln.1 _ h1, by rw [fxD_len]; exact h2, fix_ln.2 _ h2⟩
theorem chk_good {l : List Int} (h : Gf.chkE l = 0) : l.all Gf.lenB = true ∧ Gf.wgt l ≤ 32768 := by
  unfold Gf.chkE at h
  split at h
  · simp at h
  · rename_i hn
    have h1 : ¬ (l.all Gf.lenB = false) := fun e => hn (.inl e)
    have h2 : ¬ 32768 < Gf.wgt l := fun e => hn (.inr e)
    exact ⟨by simpa using h1, by omega⟩
theorem rd_three {b : List UInt8} {x : Nat} {R : List Bt} (h : Rd b 0 ((x, 3) :: R)) : 3 ≤ 8 * b.length ∧ nbr b 0 1 = x % 2 ∧ nbr b 1 2 = x / 2 % 4 ∧ Rd b 3 R := by
  obtain ⟨h1, h2, h3⟩ := h.cons
  have e : ((x, 3) : Bt).2.toNat = 3 := rfl
  rw [e] at h1 h2 h3
  rw [Nat.zero_add] at h2 h3
  have h4 : Gf.num b / 2 ^ 0 % 2 ^ 3 = x := h1
  refine ⟨h2, ?_, ?_, h3⟩
  · show Gf.num b / 2 ^ 0 % 2 ^ 1 = _
    simp only [Nat.pow_zero, Nat.div_one] at h4 ⊢
    omega
  · show Gf.num b / 2 ^ 1 % 2 ^ 2 = _
    simp only [Nat.pow_zero, Nat.div_one] at h4 ⊢
    omega
theorem inf_last {b o : List UInt8} {x q : Nat} (hb : 3 ≤ 8 * b.length) (h1 : nbr b 0 1 = 1) (h2 : blockF b 65536 1 [] = .ok (q, o)) : infR b 65536 = (o, (q + 7) / 8, 0) := by
  have e : blocksF b ((65536 : Int)).toNat (8 * b.length + 1) 0 [] = .ok (q, o) := by
    rw [blocksF, if_pos (by omega)]
    have h2' : blockF b ((65536 : Int)).toNat (0 + 1) [] = .ok (q, o) := h2
    rw [h2']
    simp only [h1, if_true]
  unfold infR
  rw [if_neg (by omega), e]
theorem fix_back {T : List Tok} {o : List UInt8} (hok : ∀ t ∈ T, TokOk t) (he : expF T [] = (o, 0)) :
    infR (Gf.byt (Gf.wid (telF [(3, 3)] fixS fixD T)) (Gf.val (telF [(3, 3)] fixS fixD T))) 65536 = (o, Gf.wid (telF [(3, 3)] fixS fixD T), 0) := by
  have hm := fix_may hok
  have hr := rd_whole hm
  have hE : telF [(3, 3)] fixS fixD T = (3, 3) :: ((T.map (tokB fixS fixD)).flatten ++ [cdA fixS 256]) := by
    unfold telF telP
    rw [List.take_length]; rfl
  generalize hD : telF [(3, 3)] fixS fixD T = D at *
  generalize hb : Gf.byt (Gf.wid D) (Gf.val D) = b at *
  have hs := fix_sym hok
  rw [hE] at hr
  obtain ⟨b1, b2, b3, b4⟩ := rd_three hr
  obtain ⟨g1, g2⟩ := chk_good chk_fixS
  obtain ⟨g3, g4⟩ := chk_good chk_fixD
  have ht := toks_tot T hs
  have hlen : T.length < 8 * b.length + 1 := by
    have := b4.1
    rw [Gf.tot_app] at this
    omega
  obtain ⟨mo, hmo⟩ : ∃ mo : Nat, mo = 65536 := ⟨_, rfl⟩
  have tb := told_back g1 g2 g3 g4 ⟨by rw [fxS_len]; decide, fix_ln.1 256 (by decide)⟩ hmo T (8 * b.length + 1) 3 [] hlen hok hs b4 he
  have hbl : blockF b mo 1 [] = .ok (3 + Gf.tot ((T.map (tokB fixS fixD)).flatten ++ [cdA fixS 256]), o) := by
    unfold blockF
    rw [if_pos (by omega), b3, if_neg (by decide), if_pos (by decide)]
    exact tb
  rw [hmo] at hbl
  rw [inf_last (x := 3) b1 (by rw [b2]) hbl]
  have hw : Gf.wid D = (Gf.tot D + 7) / 8 := rfl
  have ht2 : Gf.tot D = 3 + Gf.tot ((T.map (tokB fixS fixD)).flatten ++ [cdA fixS 256]) := by rw [hE]; rfl
  rw [hw, ht2]
end Go.Proofs.Ytcjfaahlchbcmaa
