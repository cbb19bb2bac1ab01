/- The reference's Decode, its reader's Take and End. -/
import Derived.Test.YtfnlnbdlahckeaaDoorTe
import Derived.Test.YtfnlnbdlahckeaaDoorSx
namespace Go.Proofs.YtfnlnbdlahckeaaDoor
open Go.RowKit Go.BigFrame
set_option linter.unusedVariables false
set_option linter.unusedSimpArgs false

/-- What lies behind is cut out. -/
theorem Bts.behind {S : Nat → Prop} {w : World} {v : Value} {l : List UInt8} (h : Bts S w v l) (hne : l ≠ []) {k : Nat} (hk : k ≤ l.length) (hl : l.length ≤ 140737488355328) :
    ∃ a' c', (∀ w', (Instr.sliceAt 22 v (some (.int .i64 (k : Int))) none none).run Tryd.prog w' = .ok (.slice a' (l.length - k) c') w') ∧ Bts S w (.slice a' (l.length - k) c') (l.drop k) ∧ (Value.slice a' (l.length - k) c' = .slice none 0 0 ∨ ∃ ad m c, Value.slice a' (l.length - k) c' = .slice (some ad) m c) := by
  obtain ⟨a, c, rfl, hc, h3⟩ := h
  rcases h3 with h3 | ⟨b, o, rfl, hS, hr⟩
  · exact absurd h3 hne
  · have hi : InB (b + 1) w (.slice (some ⟨b, o, none⟩) l.length c) l := .inr ⟨b, o, c, rfl, hc, .inr (Nat.lt_succ_self _), hr⟩
    obtain ⟨a', c', h1, h2⟩ := hi.behind hk hl
    refine ⟨a', c', h1, ?_, h2.elim (fun h => .inl h.1) (fun ⟨b, o, c, h, _⟩ => .inr ⟨_, _, _, h⟩)⟩
    have h1' := h1 w
    by_cases hd : l.drop k = []
    · obtain ⟨a2, c2, e1, e2⟩ := h2.slice
      exact ⟨a', c', by rw [List.length_drop], by injection e1 with _ _ e3; rw [e3]; exact e2, .inl hd⟩
    · have hlt : k < l.length := by
        rcases Nat.lt_or_ge k l.length with h | h
        · exact h
        · exact absurd (List.drop_of_length_le h) hd
      have hck : ¬ c = k := by omega
      have h4 : (0 : Int) ≤ (k : Int) ∧ (k : Int) ≤ (l.length : Int) := by omega
      simp [Instr.sliceAt, Instr.slice, run_underlying Tryd.underlying22, Instr.sliceBounds, Instr.sliceBound, go_sem, Tryd.size5, asIntOf, Result.andThen, h4, hck, Addr.add] at h1'
      rw [if_pos hk] at h1'
      simp only [if_neg hck] at h1'
      refine ⟨a', c', by rw [List.length_drop], ?_, .inr ⟨b, o + k, ?_, hS, range_drop hr k⟩⟩
      · obtain ⟨a2, c2, e1, e2⟩ := h2.slice
        injection e1 with _ _ e3
        rw [e3]; exact e2
      · by_cases h0 : k = 0
        · subst h0; simp at h1'; simp [h1'.1]
        · rw [if_neg h0] at h1'; simp at h1'; simp [h1'.1]
set_option maxRecDepth 100000 in
set_option maxHeartbeats 4000000 in
theorem rdecode_any (HBG : BgOk) (S : Nat → Prop) (w : World) (v : Value) (b : List UInt8) (hb : Bts S w v b) (hN : ∀ b, S b → b < w.heap.size) (hl : b.length ≤ 1000000000) :
    Calls Tryd.prog 11 #[v] w fun e w' => ∃ v', e = .returned v' ∧ OwnR w.heap.size w' v' (decF [] b) ∧ Below w.heap.size w w' := by
  have HB := Box'.mk hb
  have HBG' := Box'.mk HBG
  have HNN := Box'.mk hN
  obtain ⟨a1, c1, rfl, hc, -⟩ := hb
  generalize hn : b.length = n at *
  have HN := Box'.mk hn
  clear hn HBG hN
  go_enter Tryd.func11, Tryd.ntmps11
  go_wp2_with fail
  go_loopw [0, 3] (fun bv u wr => ∃ (d : List UInt8) (l : List Int) (a : Option Addr) (m c : Nat), bv = .slice a m c ∧ m ≤ n ∧ Box' (d.length = m) ∧ Box' (Bts S w (.slice a m c) d) ∧ Box' (OwnR w.heap.size wr u l) ∧ Box' (l ++ decF [] d = decF [] b) ∧ Box' (l.length + m ≤ n) ∧ Box' (Below w.heap.size w wr)) (fun bv _ _ => match bv with | .slice _ m _ => m | _ => 0)
  case atStart => exact ⟨b, [], a1, n, c1, rfl, by omega, HN, HB, ⟨⟨rfl, .inl ⟨rfl, rfl⟩⟩⟩, ⟨rfl⟩, ⟨by simp⟩, ⟨Below.refl _ _⟩⟩
  case round =>
    clear HB HN
    obtain ⟨d, l, a, m, c, rfl, hm, HM, HB, HO, HE, HLN, HBl⟩ := hrel
    by_cases h0 : 0 < m
    · have hdn : d ≠ [] := by intro h; have := HM.out; rw [h] at this; simp at this; omega
      have DS := Box'.mk (dec_next hdn)
      have NC := Box'.mk (next_any HBG'.out S wr _ d (HB.out.below HBl.out HNN.out) (fun b hb => Nat.lt_of_lt_of_le (HNN.out b hb) HBl.out.size) (by rw [HM.out]; omega))
      have hk : (nxF d).2.1 ≤ d.length := DS.out.2.1
      obtain ⟨a', c', hsl, hi', -⟩ := (HM.out ▸ HB.out : Bts S w (.slice a d.length c) d).behind hdn (k := (nxF d).2.1) hk (by rw [HM.out]; omega)
      rw [HM.out] at hsl hi' hk
      have HK := Box'.mk DS.out.1
      have HE2 := Box'.mk DS.out.2.2
      have HLD : Box' ((d.drop (nxF d).2.1).length = m - (nxF d).2.1) := ⟨by rw [List.length_drop, HM.out]⟩
      clear DS
      generalize nxF d = q at *
      obtain ⟨q1, q2, q3⟩ := q
      simp only at NC hk hsl hi' HK HE2 HLD
      have hk1 := HK.out
      have HSL := Box'.mk hsl
      have HI' := Box'.mk hi'
      obtain ⟨a2, c2, hu⟩ := HO.out.slice
      subst hu
      generalize hll : l.length = ll at *
      have HLL := Box'.mk hll
      clear hsl hi' HK hll hdn
      go_wp2_with fail
      refine NC.out.mono ?_
      rintro e w2 ⟨rfl, b2⟩
      have HB2 := Box'.mk (HBl.out.trans (b2.mono HBl.out.size))
      have HO2 := Box'.mk (HO.out.below b2)
      clear NC HBl HO b2
      go_wp2_with (first
        | (refine wpList_slice rfl 22 (.tmp 20) (some (.tmp 21)) none none rfl (.slice a' (m - q2) c') ?_ ?_; (exact HSL.out _))
        | (refine wpList_appR rfl (.tmp 16) (.tmp 18) rfl w.heap.size _ (Nat.le_trans HB2.out.size (by simp)) _ l rfl (HO2.out.alloc _) _ [q1] rfl (one_inR w2 q1) (by rw [HLL.out]; have := HLN.out; simp; omega) ?_; intro v3 w3 o3 f3))
      have B3 := HB2.out.trans (((FrR.refl w.heap.size w2).alloc _).trans f3 |>.below HB2.out.size)
      exact ⟨⟨d.drop q2, l ++ [q1], a', m - q2, c', rfl, by omega, HLD, HI', ⟨o3⟩, ⟨by rw [List.append_assoc, List.singleton_append, ← HE2.out]; exact HE.out⟩, ⟨by rw [List.length_append, HLL.out]; have := HLN.out; simp; omega⟩, ⟨B3⟩⟩, by simp; omega⟩
    · obtain rfl : m = 0 := by omega
      have hd0 : d = [] := List.eq_nil_of_length_eq_zero HM.out
      have HE3 : Box' (l = decF [] b) := ⟨by have := HE.out; rw [hd0] at this; simpa [decF, finF] using this⟩
      obtain ⟨a2, c2, hu⟩ := HO.out.slice
      subst hu
      have o3 := HO.out
      have B3 := HBl.out
      clear HE HO HB HBl hd0 HM
      generalize l.length = ll at *
      go_wp2_with fail
      go_ret
      exact ⟨_, rfl, by rw [← HE3.out]; exact o3, B3⟩
end Go.Proofs.YtfnlnbdlahckeaaDoor
