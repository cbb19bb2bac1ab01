/- deflate.Deflate of a thousand bytes and more (to five thousand nine hundred and ninety-nine) that are all the same is less than a hundred bytes: for every byte and every number, with no condition. -/
import Derived.Test.YtcjfaahlchbcmaaZ18
import Derived.Test.YtcjfaahlchbcmaaZ46
import Derived.Test.YtcjfaahlchbcmaaZ20
import Derived.Test.YtcjfaahlchbcmaaZ11
import Derived.Test.YtcjfaahlchbcmaaZ44
import Derived.Test.YtcjfaahlchbcmaaZ48
import Derived.Test.YtcjfaahlchbcmaaZ49
import Derived.Test.YtcjfaahlchbcmaaZ05
import Derived.Test.YtcjfaahlchbcmaaZ55
import Derived.Test.YtcjfaahlchbcmaaZ54
import Derived.Test.YtcjfaahlchbcmaaRows
/- How few bits tell bytes that are all the same: the mathematics. -/
namespace Go.Proofs.Ytcjfaahlchbcmaa
open Go.RowKit Go.BigFrame
set_option linter.unusedVariables false
set_option linter.unusedSimpArgs false

theorem rep_at {m : Nat} (c : UInt8) {k : Nat} (h : k < m) : (List.replicate m c).getD k 0 = c := by
  rw [List.getD_eq_getElem?_getD, List.getElem?_replicate, if_pos h]; rfl
theorem rep_alk {m : Nat} (c : UInt8) {a : Nat} (ha : 1 ≤ a) : ∀ f k, a + k + f ≤ m → alkF (List.replicate m c) (a - 1) a f k = k + f
  | 0, k, _ => rfl
  | f + 1, k, h => by
    rw [alkF, rep_at c (by omega), rep_at c (by omega), if_pos rfl, rep_alk c ha f (k + 1) (by omega)]
    omega
theorem rep_lst {m : Nat} (c : UInt8) {a : Nat} (ha : 1 ≤ a) (h : a + 3 ≤ m) : lst (List.replicate m c) a a = ((a - 1 : Nat) : Int) := by
  obtain ⟨K, rfl⟩ : ∃ K, a = K + 1 := ⟨a - 1, by omega⟩
  rw [lst, if_pos ⟨by rw [rep_at c (by omega), rep_at c (by omega)], by rw [rep_at c (by omega), rep_at c (by omega)], by rw [rep_at c (by omega), rep_at c (by omega)]⟩]
  rfl
theorem rep_lng {m : Nat} (c : UInt8) {a : Nat} (ha : 1 ≤ a) (h : a + 3 ≤ m) : lngF (List.replicate m c) a = (min 258 (m - a), 1) := by
  have hM : lngM m a = min 258 (m - a) := rfl
  unfold lngF
  rw [List.length_replicate, if_neg (by omega), rep_lst c ha h, hM]
  rw [show (128 : Nat) = 127 + 1 from rfl, lngS_step (by omega) (by omega) (by show 0 < min 258 (m - a); omega)]
  rw [rep_alk c ha _ 3 (by omega), if_pos (by show 0 < _; omega), lngS_stop (.inr (.inr (.inr (by show min 258 (m - a) ≤ 3 + (min 258 (m - a) - 3); omega))))]
  unfold lngC
  rw [if_neg (by rintro ⟨_, h2⟩; have h3 : 4096 < a - (a - 1) := h2; omega)]
  rw [show 3 + (min 258 (m - a) - 3) = min 258 (m - a) by omega, show a - (a - 1) = 1 by omega]
theorem rep_lng0 {m : Nat} (c : UInt8) : lngF (List.replicate m c) 0 = (0, 0) := by
  unfold lngF
  split
  · rfl
  · rw [show lst (List.replicate m c) 0 0 = -1 from rfl, lngS_stop (.inr (.inl rfl))]
    rfl
theorem lng_end {l : List UInt8} {a : Nat} (h : l.length < a + 3) : lngF l a = (0, 0) := if_pos h
/-- How many bits a token takes in the fixed way. -/
def tkb (t : Tok) : Int := if t.2.1 = 0 then 9 else if t.2.1 = 258 then 13 else 19
def sumT (T : List Tok) : Int := (T.map tkb).sum
theorem sumT_cons (t : Tok) (T : List Tok) : sumT (t :: T) = tkb t + sumT T := by simp [sumT]
theorem rep_bits {m : Nat} (c : UInt8) : ∀ f a, 1 ≤ a → sumT (matG (List.replicate m c) f a) ≤ 13 * (((m - a) / 258 : Nat) : Int) + ((min (9 * ((m - a) % 258)) 19 : Nat) : Int)
  | 0, a, _ => by
    show (0 : Int) ≤ _
    omega
  | f + 1, a, ha => by
    rw [matG, List.length_replicate]
    split
    · rename_i hlt
      by_cases h3 : a + 3 ≤ m
      · have e1 := rep_lng c ha h3
        have hle : (lngF (List.replicate m c) (a + 1)).1 ≤ min 258 (m - a) := by
          by_cases h4 : a + 1 + 3 ≤ m
          · rw [rep_lng c (by omega) h4]; show min 258 (m - (a + 1)) ≤ _; omega
          · rw [lng_end (by rw [List.length_replicate]; omega)]; exact Nat.zero_le _
        rw [if_neg (by rw [e1]; rintro (h | h); · have h' : min 258 (m - a) = 0 := h; omega
                       · have h' : min 258 (m - a) < (lngF (List.replicate m c) (a + 1)).1 := h; omega)]
        rw [sumT_cons, e1]
        have ih := rep_bits (m := m) c f (a + min 258 (m - a)) (by omega)
        show tkb (0, ((min 258 (m - a) : Nat) : Int), ((1 : Nat) : Int)) + sumT (matG (List.replicate m c) f (a + min 258 (m - a))) ≤ _
        by_cases h5 : 258 ≤ m - a
        · have e2 : min 258 (m - a) = 258 := by omega
          rw [e2] at ih ⊢
          have e3 : tkb (0, ((258 : Nat) : Int), ((1 : Nat) : Int)) = 13 := by decide
          rw [e3]
          omega
        · have e2 : min 258 (m - a) = m - a := by omega
          rw [e2] at ih ⊢
          have e3 : tkb (0, ((m - a : Nat) : Int), ((1 : Nat) : Int)) = 19 := by
            unfold tkb
            rw [if_neg (by show ¬ ((m - a : Nat) : Int) = 0; omega), if_neg (by show ¬ ((m - a : Nat) : Int) = 258; omega)]
          rw [e3]
          have e4 : m - (a + (m - a)) = 0 := by omega
          rw [e4] at ih
          omega
      · rw [if_pos (.inl (by rw [lng_end (by rw [List.length_replicate]; omega)]))]
        rw [sumT_cons]
        have ih := rep_bits (m := m) c f (a + 1) (by omega)
        have e3 : tkb ((List.replicate m c).getD a 0, 0, 0) = 9 := rfl
        rw [e3]
        omega
    · show (0 : Int) ≤ _
      omega
theorem rep_sum {m : Nat} (c : UInt8) (hm : m ≤ 6000) : sumT (matF (List.replicate m c)) ≤ 330 := by
  unfold matF
  rw [List.length_replicate]
  cases m with
  | zero => exact (by decide : (0 : Int) ≤ 330)
  | succ k =>
    rw [matG, List.length_replicate, if_pos (by omega), if_pos (.inl (by rw [rep_lng0])), sumT_cons]
    have e3 : tkb ((List.replicate (k + 1) c).getD 0 0, 0, 0) = 9 := rfl
    rw [e3]
    have := rep_bits (m := k + 1) c k (0 + 1) (by omega)
    omega
theorem bsz_append : ∀ (a b : List Bt), bsz (a ++ b) = bsz a + bsz b
  | [], b => by simp [bsz]
  | x :: r, b => by rw [List.cons_append, bsz, bsz, bsz_append r b]; omega
theorem fix_nine : (∀ k, fixS.getD k 0 ≤ 9) ∧ (∀ k, fixD.getD k 0 ≤ 5) := by
  have a1 : fixS.all (fun x => decide (x ≤ 9)) = true := by decide +kernel
  have a2 : fixD.all (fun x => decide (x ≤ 5)) = true := by decide +kernel
  have key : ∀ (n : Int) (l : List Int), 0 ≤ n → l.all (fun x => decide (x ≤ n)) = true → ∀ k, l.getD k 0 ≤ n := by
    intro n l hn h k
    by_cases hk : k < l.length
    · have := List.all_eq_true.1 h l[k] (List.getElem_mem hk)
      rw [List.getD_eq_getElem?_getD, List.getElem?_eq_getElem hk]
      simpa using this
    · rw [List.getD_eq_getElem?_getD, List.getElem?_eq_none (by omega)]; simpa using hn
  exact ⟨key 9 _ (by decide) a1, key 5 _ (by decide) a2⟩
theorem fix_285 : fixS.getD 285 0 = 8 := by decide +kernel
theorem cdA_two {l : List Int} {k : Nat} (hk : k < l.length) : (cdA l k).2 = l.getD k 0 := by
  unfold cdA
  rw [cds_full l k hk]; rfl
/-- A token whose distance is 1 takes no more than that. -/
theorem tok_bits {t : Tok} (ht : TokOk t) (h1 : t.2.1 ≠ 0 → t.2.2 = 1) : bsz (tokB fixS fixD t) ≤ tkb t := by
  unfold tokB tkb
  split
  · show (cdA fixS t.1.toNat).2 + 0 ≤ 9
    rw [cdA_two (by rw [fxS_len]; have := t.1.toNat_lt; omega)]
    have := fix_nine.1 t.1.toNat
    omega
  · rename_i hz
    rcases ht with ⟨h, _⟩ | ⟨_, a1, a2, a3, a4⟩
    · exact absurd h hz
    · have hl := lenS_lt (d := t.2.1.toNat) (by omega) (by omega)
      rw [h1 hz]
      have e0 : nthF 2 ((1 : Int).toNat - 1) = (0, 0, 0) := by decide
      rw [e0]
      show (cdA fixS (lenS t.2.1.toNat).1).2 + (((lenS t.2.1.toNat).2.2 : Int) + ((cdA fixD 0).2 + (((0 : Nat) : Int) + 0))) ≤ _
      rw [cdA_two (by rw [fxS_len]; omega), cdA_two (by rw [fxD_len]; omega)]
      have f1 := fix_nine.2 0
      split
      · rename_i h258
        rw [h258]
        have e2 : lenS ((258 : Int).toNat) = (285, 0, 0) := by decide
        rw [e2]
        show fixS.getD 285 0 + (((0 : Nat) : Int) + (fixD.getD 0 0 + (((0 : Nat) : Int) + 0))) ≤ 13
        rw [fix_285]
        omega
      · have f2 := fix_nine.1 (lenS t.2.1.toNat).1
        omega
theorem toks_bits : ∀ (T : List Tok), (∀ t ∈ T, TokOk t) → (∀ t ∈ T, t.2.1 ≠ 0 → t.2.2 = 1) → bsz ((T.map (tokB fixS fixD)).flatten) ≤ sumT T
  | [], _, _ => Int.le_refl _
  | t :: r, h1, h2 => by
    rw [List.map_cons, List.flatten_cons, bsz_append, sumT_cons]
    have := tok_bits (h1 t List.mem_cons_self) (h2 t List.mem_cons_self)
    have := toks_bits r (fun x hx => h1 x (List.mem_cons_of_mem _ hx)) (fun x hx => h2 x (List.mem_cons_of_mem _ hx))
    omega
theorem rep_one {m : Nat} (c : UInt8) : ∀ f a, ∀ t ∈ matG (List.replicate m c) f a, t.2.1 ≠ 0 → t.2.2 = 1
  | 0, a, t, h, _ => by simp [matG] at h
  | f + 1, a, t, h, hz => by
    rw [matG] at h
    split at h
    · split at h
      · rcases List.mem_cons.1 h with rfl | h
        · exact absurd rfl hz
        · exact rep_one c f _ t h hz
      · rename_i hlt hc
        rcases List.mem_cons.1 h with rfl | h
        · show ((lngF (List.replicate m c) a).2 : Int) = 1
          by_cases h3 : a + 3 ≤ m
          · by_cases h0 : 1 ≤ a
            · rw [rep_lng c h0 h3]; rfl
            · have : a = 0 := by omega
              subst this
              exact absurd (.inl (by rw [rep_lng0])) hc
          · exact absurd (.inl (by rw [lng_end (by rw [List.length_replicate]; omega)])) hc
        · exact rep_one c f _ t h hz
    · simp at h
/-- The fixed way's bits for bytes that are all the same. -/
theorem rep_fix {m : Nat} (c : UInt8) (hm : m ≤ 6000) : bsz (telF [(3, 3)] fixS fixD (matF (List.replicate m c))) ≤ 342 := by
  unfold telF telP
  rw [List.take_length, bsz_append, bsz_append]
  have h1 := toks_bits (matF (List.replicate m c)) (fun t ht => matG_ok _ _ _ t ht) (rep_one c _ _)
  have h2 := rep_sum c hm
  have h3 : bsz [cdA fixS 256] ≤ 9 := by
    show (cdA fixS 256).2 + 0 ≤ 9
    rw [cdA_two (by rw [fxS_len]; omega)]
    have := fix_nine.1 256
    omega
  have h4 : bsz [(3, 3)] = 3 := by decide
  omega
end Go.Proofs.Ytcjfaahlchbcmaa

/- The walk of DeflateSmall. -/
namespace Go.Proofs.Ytcjfaahlchbcmaa
open Go.RowKit Go.BigFrame
set_option linter.unusedVariables false
set_option linter.unusedSimpArgs false

theorem set_take {d : List UInt8} {k : Nat} {c : UInt8} (hk : k < d.length) (h : d.take k = List.replicate k c) : (d.set k c).take (k + 1) = List.replicate (k + 1) c := by
  rw [List.replicate_succ', ← h, List.take_succ_eq_append_getElem (by simpa using hk)]
  rw [List.take_set_of_le (Nat.le_refl _)]
  simp
theorem row_inB {w : World} {g n : Nat} {l : List UInt8} (h : Row w g 5 (ag l)) (hn : l.length = n) : InB w.heap.size w (.slice (some ⟨g, 0, none⟩) n n) l :=
  .inr ⟨g, 0, n, by rw [hn], by omega, .inr h.lt, fun j u hu => by rw [Nat.zero_add, h.cell]; simpa [ag] using hu⟩
set_option maxRecDepth 100000 in
set_option maxHeartbeats 8000000 in
theorem small_walk (w : World) (c : UInt8) (n m : Nat) (hn : n < 65536) (hm : m = 1000 + n % 5000)
    (hD : ∀ w1 v, InB w1.heap.size w1 v (List.replicate m c) → Calls Try.prog 13 #[v] w1 fun e w' => ∃ u k cap, e = .returned (.tuple #[.slice u k cap, .int .i64 0]) ∧ k < 100 ∧ Below w1.heap.size w1 w') :
    Calls Try.prog 5 #[.int .u8 (c.toNat : Int), .int .u16 (n : Int)] w fun e w' => e = .returned (.bool true) ∧ Below w.heap.size w w' := by
  have HD := Box'.mk hD
  have HM := Box'.mk hm
  have hm0 : 1000 ≤ m ∧ m ≤ 6000 := by omega
  have e1 : (n : Int).tmod 5000 = ((n % 5000 : Nat) : Int) := by rw [Int.tmod_eq_emod_of_nonneg (by omega)]; omega
  clear hD hm
  go_enter Try.func5, Try.ntmps5
  have em : (1000 : Int) + (n : Int) % 5000 = (m : Int) := by have := HM.out; omega
  have EM := Box'.mk em
  clear em e1
  go_wp2_with (refine wpList_make_bytes rfl (.tmp 14) (.tmp 14) rfl _ _ m rfl rfl EM.out EM.out (by omega) ?_; rw [EM.out])
  have rg : Row (w.alloc (.cells (ag (Gf.byt m 0)) 5)) w.heap.size 5 (ag (Gf.byt m 0)) := Row.new _ _ _
  have bg : Below w.heap.size w (w.alloc (.cells (ag (Gf.byt m 0)) 5)) := (Below.refl _ _).alloc (Nat.le_refl _) _
  generalize hg : w.heap.size = g at *
  have HG := Box'.mk hg
  have RG := Box'.mk rg
  have BG := Box'.mk bg
  clear hg rg bg EM
  generalize World.alloc w _ = w1 at *
  go_loopw [7] (fun i wr => ∃ (k : Nat) (d : List UInt8), k ≤ m ∧ i = .int .i64 (k : Int) ∧ Box' (Row wr g 5 (ag d)) ∧ Box' (d.length = m ∧ d.take k = List.replicate k c) ∧ Box' (Below g w wr)) (fun i _ => m - (intOf i).toNat)
  case atStart => exact ⟨0, Gf.byt m 0, by omega, rfl, RG, ⟨Gf.byt_len _ _, rfl⟩, BG⟩
  case round =>
    obtain ⟨k, d, hk, rfl, RR, DD, BB⟩ := hrel
    clear RG BG
    by_cases hlt : k < m
    · have hkd : k < d.length := by have := DD.out.1; omega
      have c0 := RR.out.byte hkd
      have f0 := RR.out.frozen k
      have R2 : Box' (Row (wr.setCell ⟨g, k, none⟩ (.int .u8 (c.toNat : Int))) g 5 (ag (d.set k c))) := ⟨RR.out.setByte k c⟩
      have D2 : Box' ((d.set k c).length = m ∧ (d.set k c).take (k + 1) = List.replicate (k + 1) c) := ⟨by rw [List.length_set]; exact DD.out.1, set_take hkd DD.out.2⟩
      have B2 : Box' (Below g w (wr.setCell ⟨g, k, none⟩ (.int .u8 (c.toNat : Int)))) := ⟨BB.out.setCell (Nat.le_refl _) _⟩
      clear RR DD BB hkd
      go_wp2_with fail
      exact ⟨⟨k + 1, d.set k c, by omega, by go_num, R2, D2, B2⟩, by simp [intOf]; omega⟩
    · obtain rfl : k = m := by omega
      have hd : d = List.replicate k c := by
        have h1 := DD.out.2
        rwa [List.take_of_length_le (by have := DD.out.1; omega)] at h1
      have e2 := HD.out wr _ (hd ▸ row_inB RR.out DD.out.1)
      clear hd HD RR DD
      go_wp2_with fail
      refine e2.mono ?_
      rintro e w2 ⟨u2, k2, c2, rfl, hk2, b2⟩
      have B2 : Box' (Below g w w2) := ⟨BB.out.trans (b2.mono (by have := BB.out.size; have := HG.out; omega))⟩
      have ha := Box'.mk (anchored_any w2)
      clear e2 b2 BB
      go_wp2_with fail
      refine ha.out.mono ?_
      rintro e w3 ⟨rfl, b3⟩
      have B3 : Box' (Below w.heap.size w w3) := ⟨by rw [HG.out]; exact B2.out.trans (b3.mono (by have := B2.out.size; have := HG.out; omega))⟩
      clear ha b3 B2
      go_wp2_with fail
      go_ret
      refine ⟨?_, B3.out⟩
      show Ending.returned (.bool (decide ((k2 : Int) < 100))) = _
      rw [decide_eq_true (by omega)]
end Go.Proofs.Ytcjfaahlchbcmaa

/- Deflate of bytes that are all the same. -/
namespace Go.Proofs.Ytcjfaahlchbcmaa
open Go.RowKit Go.BigFrame
set_option linter.unusedVariables false
set_option linter.unusedSimpArgs false

theorem bsz_tot : ∀ (D : List Bt), (∀ x ∈ D, Gf.may x = true) → ((Gf.tot D : Nat) : Int) = bsz D
  | [], _ => rfl
  | x :: r, h => by
    have h1 := may_bd (h x List.mem_cons_self)
    have h2 := bsz_tot r fun y hy => h y (List.mem_cons_of_mem _ hy)
    rw [Gf.tot, bsz]
    omega
theorem best_few {l : List UInt8} (hl : l.length ≤ 65536) (hb : bsz (dF l) ≤ 342) :
    (if zO l < zF l then zO l else zF l) ≤ 43 ∧ Gf.cntE (if zO l < zF l then dO l else dF l) = 0 ∧ Gf.wid (if zO l < zF l then dO l else dF l) < 100 := by
  have hT : (matF l).length ≤ 65536 := Nat.le_trans (mat_len l) hl
  have h1 : zF l ≤ 43 := by unfold zF; omega
  have key : ∀ D : List Bt, (∀ x ∈ D, Gf.may x = true) → (bsz D + 7) / 8 ≤ 43 → Gf.cntE D = 0 ∧ Gf.wid D < 100 := by
    intro D hm hz
    have h2 := bsz_tot D hm
    refine ⟨?_, by unfold Gf.wid; omega⟩
    unfold Gf.cntE
    rw [if_pos hm, if_pos (by omega)]
  by_cases hlt : zO l < zF l
  · simp only [if_pos hlt]
    exact ⟨by omega, key _ (own_may hT (mat_ok l)) (by show zO l ≤ 43; omega)⟩
  · simp only [if_neg hlt]
    exact ⟨h1, key _ (fix_may (mat_ok l)) h1⟩
theorem rep_sto {m : Nat} (c : UInt8) (h1 : 1000 ≤ m) (h2 : m ≤ 6000) : 1000 ≤ (stoF (List.replicate m c)).length := by
  unfold stoF
  rw [List.length_replicate, if_neg (by omega), if_pos (by omega), List.length_append, List.length_replicate]
  omega
theorem deflate_small (w : World) (v : Value) (m : Nat) (c : UInt8) (h1 : 1000 ≤ m) (h2 : m ≤ 6000) (h : InB w.heap.size w v (List.replicate m c)) :
    Calls Try.prog 13 #[v] w fun e w' => ∃ u k cap, e = .returned (.tuple #[.slice u k cap, .int .i64 0]) ∧ k < 100 ∧ Below w.heap.size w w' := by
  have hl : (List.replicate m c).length ≤ 65536 := by rw [List.length_replicate]; omega
  obtain ⟨f1, f2, f3⟩ := best_few hl (rep_fix c h2)
  have hs := rep_sto c h1 h2
  refine (deflate_is w v _ hl h).mono fun e w' ⟨u, E, he, hr, b⟩ => ?_
  rcases hr with ⟨x1, _, _⟩ | ⟨_, x2, w1, _, ⟨_, g, rfl, _, _⟩ | ⟨x4, _⟩⟩
  · exact absurd x1 (by omega)
  · rw [x2, f2] at he
    exact ⟨_, _, _, he, f3, b⟩
  · exact absurd f2 x4
theorem small_any (w : World) (c : UInt8) (n : Nat) (hn : n < 65536) :
    Calls Try.prog 5 #[.int .u8 (c.toNat : Int), .int .u16 (n : Int)] w fun e w' => e = .returned (.bool true) ∧ Below w.heap.size w w' :=
  small_walk w c n _ hn rfl fun w1 v h => deflate_small w1 v _ c (by omega) (by omega) h
end Go.Proofs.Ytcjfaahlchbcmaa

/- What came in: a byte, a number of two bytes. -/
namespace Go.Proofs.Ytcjfaahlchbcmaa
open Go.ChangeShapes Go.WideShapes Go.ChangeAt Go.RowKit Go.BigFrame

set_option maxRecDepth 100000 in
theorem open_u16 {H : Type} {enc : TypeId × Value → H} {W : World} {base : Nat} {v : Value} {fuel : Nat} {x : DataW H × List MemPlace} (hok : Value.okWide Try.prog W .any base 39 v) (h : DataW.trod enc Try.prog W 0 (fun _ => true) true fuel 39 v.cells.toList = some x) : ∃ n : Nat, v = .int .u16 (n : Int) ∧ n < 65536 := by
  unfold Value.okWide at hok
  rw [Try.underlying39] at hok
  have hc1 : v.cells.toList = [v] := by
    unfold Cell.okWide at hok
    rw [Try.underlying39] at hok
    cases v <;> first | rfl | (simp only [Cell.ok, Try.underlying39] at hok)
  rw [hc1] at h
  obtain ⟨n, e, _, w0⟩ := DataW.trod_int Try.underlying39 h
  simp only [List.cons.injEq, and_true] at e
  simp only [Lit.wf, Bool.and_eq_true, decide_eq_true_eq] at w0
  have h0 : 0 ≤ n := w0.1
  have h1 : n ≤ 65535 := w0.2
  exact ⟨n.toNat, by rw [e]; congr 1; omega, by omega⟩
set_option maxRecDepth 100000 in
theorem open_u8 {H : Type} {enc : TypeId × Value → H} {W : World} {base : Nat} {v : Value} {fuel : Nat} {x : DataW H × List MemPlace} (hok : Value.okWide Try.prog W .any base 5 v) (h : DataW.trod enc Try.prog W 0 (fun _ => true) true fuel 5 v.cells.toList = some x) : ∃ c : UInt8, v = .int .u8 (c.toNat : Int) := by
  unfold Value.okWide at hok
  rw [Try.underlying5] at hok
  have hc1 : v.cells.toList = [v] := by
    unfold Cell.okWide at hok
    rw [Try.underlying5] at hok
    cases v <;> first | rfl | (simp only [Cell.ok, Try.underlying5] at hok)
  rw [hc1] at h
  obtain ⟨n, e, _, w0⟩ := DataW.trod_int Try.underlying5 h
  simp only [List.cons.injEq, and_true] at e
  simp only [Lit.wf, Bool.and_eq_true, decide_eq_true_eq] at w0
  have h0 : 0 ≤ n := w0.1
  have h1 : n ≤ 255 := w0.2
  refine ⟨UInt8.ofNat n.toNat, ?_⟩
  rw [e, UInt8.toNat_ofNat_of_lt' (by show n.toNat < 256; omega)]
  congr 1; omega
end Go.Proofs.Ytcjfaahlchbcmaa

namespace Go.Proofs.Ytcjfaahlchbcmaa.deflateSmall
open Go.ChangeShapes Go.WideShapes Go.ChangeAt Go.RowKit
set_option linter.unusedVariables false

set_option maxRecDepth 100000 in
theorem lifted (os : Os) (started : os.Started) (H : Type) (enc : TypeId × Value → H) :
    ReturnsInHanded {} Try.checked os 5 .any (Rows.deflateSmallSpec.pre6 enc Try.prog Try.f5 Rows.deflateSmallRow.domain false) (Rows.deflateSmallSpec.post enc Try.prog Try.f5 false true false false) := by
  refine returnsInHanded_of_change_shaped (C := Try.checked) own started (by kernel_rfl) Try.func5
    (ChangeSpec.witness6 (enc := enc) (C := Try.checked) false ⟨#[], #[.int .u8 0, .int .u16 0], []⟩ 8 (by kernel_rfl) (by kernel_rfl) (by kernel_rfl) (by kernel_rfl)) ?_
  intro W base args ds gs before hval0 hW _ hwt0 _ _
  have hval : ∀ (j : Nat) t v, Try.f5.params[j]? = some t → args[j]? = some v → Value.okWide Try.prog W .any base t v := hval0
  have hW' := hW
  obtain ⟨p, q, hA0, hV, rfl, hfz, hnd⟩ := hW
  have hA : DataW.TrodAll enc Try.prog W 0 (fun _ => true) true Try.f5.params.toList args.toList ds p := hA0
  rw [Try.params5] at hA hval
  obtain ⟨v0, vs0, d0, ds0, p0, q0, hargs, rfl, rfl, h0, r0⟩ := trodAll_cons hA
  obtain ⟨v1, vs1, d1, ds1, p1, q1, rfl, rfl, rfl, h1, r1⟩ := trodAll_cons r0
  obtain ⟨rfl, rfl, rfl⟩ := trodAll_nil r1
  obtain rfl : args = #[v0, v1] := by cases args; simp_all
  obtain ⟨rfl, rfl⟩ := trodVars_none hV
  have lt0 : ∀ x ∈ p0, x.block < W.heap.size := by obtain ⟨m, hm⟩ := h0; exact DataW.trod_lt m _ _ _ hm
  have lt1 : ∀ x ∈ p1, x.block < W.heap.size := by obtain ⟨m, hm⟩ := h1; exact DataW.trod_lt m _ _ _ hm
  obtain ⟨c, rfl⟩ : ∃ c : UInt8, v0 = .int .u8 (c.toNat : Int) := by
    obtain ⟨m, hm⟩ := h0
    exact open_u8 (hval 0 5 v0 rfl rfl) hm
  obtain ⟨n, rfl, hn⟩ : ∃ n : Nat, v1 = .int .u16 (n : Int) ∧ n < 65536 := by
    obtain ⟨m, hm⟩ := h1
    exact open_u16 (hval 1 39 v1 rfl rfl) hm
  clear hA0 hval0
  refine (small_any W c n hn).mono fun e W' ⟨he, bel⟩ => ?_
  subst he
  exact ⟨_, rfl, _, _, _, [], _, [], hW', trodAll_mk1 (shut_bool Try.underlying4 _), (trodAll_cons_mk (Below.trod laidOut (by kernel_rfl) (of_decide_eq_true (by kernel_rfl)) h0 bel lt0) (trodAll_cons_mk (Below.trod laidOut (by kernel_rfl) (of_decide_eq_true (by kernel_rfl)) h1 bel lt1) trodAll_mk0)), rfl, bel.frame _, fun h => by cases h⟩

theorem over : Rows.deflateSmallRow.holds Try.pinned (OpenSpec.ofChange Rows.deflateSmallSpec) :=
  OpenClaim.holds_of_wide 5 Try.f5 rfl rfl rfl rfl rfl rfl rfl ⟨rfl, rfl, rfl, rfl, rfl⟩ rfl rfl rfl rfl rfl (by kernel_rfl) Try.func5 (by kernel_rfl)
    (of_decide_eq_true (by kernel_rfl)) (by unfold Func.isWrapper; first | (rw [if_pos (by decide +kernel)]; kernel_rfl) | (rw [if_neg (by decide +kernel)]; exact ⟨rfl, rfl⟩))
    (fun os started H enc _ => lifted os started H enc)
end Go.Proofs.Ytcjfaahlchbcmaa.deflateSmall
namespace Go.Proofs.Ytcjfaahlchbcmaa
theorem deflateSmall_holds : Rows.DeflateSmallSaid := deflateSmall.over
#print axioms deflateSmall_holds
end Go.Proofs.Ytcjfaahlchbcmaa
