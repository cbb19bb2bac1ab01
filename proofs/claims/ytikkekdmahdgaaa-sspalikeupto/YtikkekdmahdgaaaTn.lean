/- The program's Tick does what the reference's does. -/
import Derived.Test.YtikkekdmahdgaaaTm
namespace Go.Proofs.Ytikkekdmahdgaaa
open Go.RowKit Go.BigFrame
set_option linter.unusedSimpArgs false
set_option linter.unusedVariables false
set_option maxRecDepth 100000
set_option maxHeartbeats 4000000

theorem past_aft {any : Bool} {tm now : UInt64} (ms : Int) (h : any = true → tm.toNat ≤ now.toNat) : (!any || pastF now tm ms) = aft any tm.toNat now.toNat ms := by
  unfold aft pastF
  cases any with
  | false => rfl
  | true =>
    have := h rfl
    simp only [Bool.not_true, Bool.false_or]
    refine decide_eq_decide.2 ⟨fun q => by have := q.2; omega, fun q => ⟨this, by omega⟩⟩
theorem OwnB.inX {N : Nat} {w : World} {v : Value} {d : List UInt8} (h : OwnB N w v d) : InX (fun b => v.ownBlock = some b) w v d := by
  rcases h.2 with ⟨e, e0⟩ | ⟨g, cap, cur, e1, e2, e3, e4, e5, e6, e7⟩
  · exact .inl ⟨e, List.eq_nil_of_length_eq_zero e0⟩
  · have r : Row w g 5 cur := e3
    refine .inr ⟨g, 0, cap, e1, e4, .inr (by rw [e1]; rfl), fun j u hu => ?_⟩
    have hj := (List.getElem?_eq_some_iff.1 hu).1
    rw [List.length_map] at hj
    rw [Nat.zero_add, r.cell]
    rw [← e7, List.getElem?_take_of_lt (by omega)] at hu
    simpa using hu
theorem getD_map_t (l : List Rw) (k : Nat) : (l.map (·.t)).getD k [] = (l.getD k Rw.zero).t := by
  rw [List.getD_eq_getElem?_getD, List.getD_eq_getElem?_getD, List.getElem?_map]
  cases l[k]? <;> rfl
structure RowsT (s : Sd) (l : List Rw) : Prop where
  pos : 0 < l.length
  len : l.length ≤ 32
  seq : ∀ k, k < l.length → (l.getD k Rw.zero).n.toNat = (s.l.getD 0 Rw.zero).n.toNat + k
theorem rowsT_ok {s : Sd} (hG : GoodS s) (now : UInt64) (pace : Int) (hn : ∀ y, y ∈ s.l → y.n.toNat ≤ 4398046511104) : RowsT s (rowsT s now pace) ∧ (rowsT s now pace).map (·.t) = rsF (s.l.map (·.t)) s.now (frF s now pace) := by
  unfold rowsT rsF
  have hp := hG.pos
  cases hfr : frF s now pace with
  | false => exact ⟨⟨hp, hG.len, hG.seq⟩, rfl⟩
  | true =>
    rw [if_pos rfl, if_pos rfl]
    have h32 : s.l.length < 32 := by
      unfold frF at hfr
      simp only [Bool.and_eq_true, decide_eq_true_eq] at hfr
      exact hfr.1.2
    refine ⟨⟨by simp, by simp; omega, fun k hk => ?_⟩, by simp⟩
    simp only [List.length_append, List.length_cons, List.length_nil] at hk
    rcases Nat.lt_or_ge k s.l.length with q | q
    · rw [show (s.l ++ [Rw.mk ((lastR s.l).n + 1) s.now 0]).getD k Rw.zero = s.l.getD k Rw.zero by simp [List.getD_eq_getElem?_getD, List.getElem?_append_left q]]
      exact hG.seq k q
    · obtain rfl : k = s.l.length := by omega
      rw [show (s.l ++ [Rw.mk ((lastR s.l).n + 1) s.now 0]).getD s.l.length Rw.zero = Rw.mk ((lastR s.l).n + 1) s.now 0 by simp [List.getD_eq_getElem?_getD]]
      have h1 := hG.seq (s.l.length - 1) (by omega)
      have h2 := hn (s.l.getD (s.l.length - 1) Rw.zero) (getD_mem (by omega))
      show ((s.l.getD (s.l.length - 1) Rw.zero).n + 1).toNat = _
      rw [h1] at h2
      rw [UInt64.toNat_add, h1, show (1 : UInt64).toNat = 1 from rfl, Nat.mod_eq_of_lt (by omega)]
      omega
theorem sndF_err (s : Sd) (now : UInt64) (l : List Rw) (h : (sufF (l.getD 0 Rw.zero).t (lastR l).t).2 = false) : sndF s now l = (s, Ins.none, false, 99) := by
  unfold sndF
  rw [if_neg (by rw [h]; exact Bool.false_ne_true)]
theorem sndF_yes (s : Sd) (now : UInt64) (l : List Rw) (h : (sufF (l.getD 0 Rw.zero).t (lastR l).t).2 = true) : sndF s now l = (⟨s.now, setA l now, true, now, now⟩, ⟨(l.getD 0 Rw.zero).n, (lastR l).n, 0, (l.getD 0 Rw.zero).n, (sufF (l.getD 0 Rw.zero).t (lastR l).t).1⟩, true, 0) := by
  unfold sndF
  rw [if_pos h]
theorem setA_t (l : List Rw) (now : UInt64) : (setA l now).map (·.t) = l.map (·.t) := by
  unfold setA
  refine List.ext_getElem? fun k => ?_
  rw [List.getElem?_map, List.getElem?_map, List.getElem?_set]
  split
  · rename_i e
    subst e
    by_cases q : l.length - 1 < l.length
    · simp [q, lastR, List.getD_eq_getElem?_getD]
    · simp [q]
  · rfl
theorem good_snd {s : Sd} {l : List Rw} (h : RowsT s l) (now : UInt64) : GoodS ⟨s.now, setA l now, true, now, now⟩ := by
  refine ⟨by simp only [setA_len]; exact h.pos, by simp only [setA_len]; exact h.len, fun k hk => ?_, fun _ => ⟨rfl, ?_⟩, fun _ => Nat.le_refl _⟩
  · simp only [setA_len] at hk
    simp only [setA_n]
    rw [h.seq k hk, h.seq 0 h.pos]
    rfl
  · have hp := h.pos
    show ((setA l now).getD ((setA l now).length - 1) Rw.zero).a = now
    rw [setA_len]
    unfold setA
    simp [List.getD_eq_getElem?_getD, List.getElem?_set, show l.length - 1 < l.length by omega]
theorem GoodS.saw {s : Sd} (h : GoodS s) {now : UInt64} (hs : s.seen.toNat ≤ now.toNat) : GoodS { s with seen := now } := ⟨h.pos, h.len, h.seq, h.tim, fun a => Nat.le_trans (h.ord a) hs⟩
theorem tick_C : TickSC 13 SndR := by
  intro w F p s now pace timeout h h0 h32 hxl hyl pl pu tl tu
  have KP := fun (wz : World) (hb : Below w.heap.size w wz) => sndR_keep.below h hb
  obtain ⟨g, c, rfl, hne, hc, hr, ht, hG⟩ := h
  by_cases hb : pace < 0 ∨ timeout < 0 ∨ now.toNat < s.seen.toNat
  · refine (tickBad p g s.l.length c (s.l.getD 0 Rw.zero).n.toNat s.tm.toNat now.toNat s.seen.toNat s.any [] s.now pace timeout w hr h0 hb).mono ?_
    rintro e w' ⟨rfl, hB⟩
    have et : tickF s now pace timeout = (s, Ins.none, false, 2) := by unfold tickF; rw [if_pos hb]
    rw [et]
    exact ⟨_, .slice none 0 0, rfl, KP w' hB, .inl ⟨rfl, rfl⟩, Tch.of hB, fun k hk => .inl hk⟩
  · have hsn : s.seen.toNat ≤ now.toNat := by omega
    have hot : s.any = true → s.tm.toNat ≤ now.toNat := fun a => Nat.le_trans (hG.ord a) hsn
    have hnl := now.toNat_lt
    have hnb : ∀ y, y ∈ s.l → y.n.toNat ≤ 4398046511104 := fun y hy => (hyl y hy).2
    have hf0 := hnb (s.l.getD 0 Rw.zero) (getD_mem h0)
    obtain ⟨hR, hrs⟩ := rowsT_ok hG now pace hnb
    have hfr : (!decide ((s.l.map (·.t)).getD (s.l.length - 1) [] = s.now) && decide (s.l.length < 32) && aft s.any s.tm.toNat now.toNat pace) = frF s now pace := by
      rw [getD_map_t, ← past_aft pace hot]
      rfl
    have hal : ((decide (1 < s.l.length) && aft s.any s.tm.toNat now.toNat timeout) || aft s.any s.tm.toNat now.toNat 3000) = (agF s now timeout || heF s now) := by
      rw [← past_aft timeout hot, ← past_aft 3000 hot]
      unfold agF heF
      by_cases h1 : 1 < s.l.length
      · obtain ⟨q1, q2⟩ := hG.tim h1
        rw [q1, q2]
        rfl
      · rw [decide_eq_false h1]
        rfl
    refine (tickGood p g s.l.length c (s.l.getD 0 Rw.zero).n.toNat s.tm.toNat now.toNat s.seen.toNat s.any (s.l.map (·.t)) s.now pace timeout w hr hne ht (by simp) h0 h32 hc hot hnl (by omega) pu (by omega) tu hsn (fun k hk => by
      rw [getD_map_t]
      have := (hyl _ (getD_mem hk)).1
      omega) (by omega) (by omega) _ _ hfr hal).mono ?_
    intro e w' hq
    rw [← hrs] at hq
    have esf : sfF ((rowsT s now pace).map (·.t)) = sufF ((rowsT s now pace).getD 0 Rw.zero).t (lastR (rowsT s now pace)).t := by
      unfold sfF lastR
      rw [getD_map_t, getD_map_t, List.length_map]
    unfold TickQ at hq
    rw [esf] at hq
    have et : tickF s now pace timeout = if (frF s now pace || (agF s now timeout || heF s now)) = false then ({ s with seen := now }, Ins.none, false, 0) else sndF s now (rowsT s now pace) := by
      unfold tickF
      rw [if_neg hb]
      simp only [Bool.or_eq_false_iff]
    rw [et]
    split at hq
    · rename_i hso
      rw [if_pos hso]
      obtain ⟨rfl, q2, q3⟩ := hq
      refine ⟨_, .slice none 0 0, rfl, ⟨g, c, rfl, hne, hc, q2, ht.same (q3.block g ht.1 (Ne.symm hne)), hG.saw hsn⟩, .inl ⟨rfl, rfl⟩, ⟨q3.os, q3.tape, q3.output, q3.size, fun k hk hn => q3.block k hk (fun e => hn (.inl e))⟩, fun k hk => .inl hk⟩
    · rename_i hso
      rw [if_neg hso]
      split at hq
      · rename_i hsf
        rw [sndF_err s now _ hsf]
        obtain ⟨rfl, hB⟩ := hq
        exact ⟨_, .slice none 0 0, rfl, KP w' hB, .inl ⟨rfl, rfl⟩, Tch.of hB, fun k hk => .inl hk⟩
      · rename_i hsf
        rw [sndF_yes s now _ (by simpa using hsf)]
        obtain ⟨vb, g', c', rfl, q1, q2, q3, q4, q5, q6, q7, q8⟩ := hq
        have hp := hR.pos
        have hl1 := hR.seq ((rowsT s now pace).length - 1) (by omega)
        have e0 : ((rowsT s now pace).getD 0 Rw.zero).n.toNat = (s.l.getD 0 Rw.zero).n.toNat := hR.seq 0 hp
        rw [List.length_map] at q1 q2
        refine ⟨fun k => k = p ∨ k = g', vb, ?_, ⟨g', c', rfl, Ne.symm q4, by simp only [setA_len]; exact q2, ?_, by simp only [setA_t]; exact q5, good_snd hR now⟩, q6.inX.keep fun b hb => ⟨⟨(World.ownsRow.lt q6 b hb).1, (World.ownsRow.lt q6 b hb).2, ?_⟩, rfl⟩, ⟨q8.os, q8.tape, q8.output, q8.size, fun k hk hn => q8.block k hk (fun e => hn (.inl e))⟩, ?_⟩
        · unfold a5 insA uV
          simp only [e0]
          rw [show (lastR (rowsT s now pace)).n.toNat = _ from hl1, List.length_map, show (((s.l.getD 0 Rw.zero).n.toNat + ((rowsT s now pace).length - 1) : Nat) : Int) = ((s.l.getD 0 Rw.zero).n.toNat : Int) + (((rowsT s now pace).length : Int) - 1) by omega]
          rfl
        · unfold ssA uV
          simp only [setA_n, setA_len, e0]
          exact q1
        · rintro (rfl | rfl)
          · have := (World.ownsRow.lt q6 _ hb).1
            have := hr.lt
            omega
          · exact q7 _ hb rfl
        · rintro k (rfl | rfl)
          · exact .inl (.inl rfl)
          · rcases q3 with rfl | q3
            · exact .inl (.inr rfl)
            · exact .inr q3
end Go.Proofs.Ytikkekdmahdgaaa
