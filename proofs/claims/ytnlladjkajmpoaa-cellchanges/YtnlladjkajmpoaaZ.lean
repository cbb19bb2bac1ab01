/- The reference's Apply. -/
import Derived.Test.YtnlladjkajmpoaaY
namespace Go.Proofs.Ytnlladjkajmpoaa
open Go.RowKit Go.BigFrame
set_option linter.unusedVariables false
set_option linter.unusedSimpArgs false

theorem results19 (tmps : Array Value) (b : Nat) (hx : tmps.getD 4 undef = .pointer (some ⟨b, 0, none⟩)) (w : World) (c : Array Value) (hr : Row w b 24 c) (hn : c.size = 10) : (results Try.f19 tmps).run Try.prog w = .ok (.agg c) w :=
  results_row (p := 4) (ty := 24) rfl tmps b hx 24 c hr _ Try.underlying24 rfl 10 s24 hn
theorem apG_at (s s' : St) (l : List Int) (k z : Nat) (hk : k < l.length) (h : (stp s (l.drop k)) = (s', z)) : apG s (l.drop k) = apG s' (l.drop (k + z)) := by
  rw [apG_step s _ (by intro e; have := congrArg List.length e; rw [List.length_drop] at this; simp at this; omega), h, List.drop_drop]
theorem apG_past (s : St) (l : List Int) (k : Nat) (h : l.length ≤ k) : apG s (l.drop k) = s := by rw [List.drop_of_length_le h, apG_nil]
theorem drop_get (l : List Int) (k j : Nat) : (l.drop k).getD j 0 = l.getD (k + j) 0 := by simp
set_option maxRecDepth 100000 in
set_option maxHeartbeats 8000000 in
theorem refApply_any (s : St) (v : Value) (l : List Int) (hl : l.length ≤ 140737488355328) (w : World) (h : Is w.heap.size w v l) :
    Calls Try.prog 19 #[.agg (sA s), v] w fun e w' => e = .returned (.agg (sA (apF s l))) ∧ Below w.heap.size w w' := by
  have H := Box'.mk h
  have S24 := Box'.mk s24
  have RS : Box' (Row ((w.alloc (.cells (sA s) 24)).alloc (.cells #[.int .i64 0, .int .i64 0, .bool false, .bool false, .bool false, .bool false, .bool false, .bool false, .bool false, .bool false] 24)) w.heap.size 24 (sA s)) := ⟨(Row.new _ _ _).alloc _⟩
  have RM : Box' (Room ((w.alloc (.cells (sA s) 24)).alloc (.cells #[.int .i64 0, .int .i64 0, .bool false, .bool false, .bool false, .bool false, .bool false, .bool false, .bool false, .bool false] 24)) (w.heap.size + 1) 24 10) := ⟨Room.made _ _ _ _ _ rfl (by simp)⟩
  have BB : Box' (Below w.heap.size w ((w.alloc (.cells (sA s) 24)).alloc (.cells #[.int .i64 0, .int .i64 0, .bool false, .bool false, .bool false, .bool false, .bool false, .bool false, .bool false, .bool false] 24))) := ⟨((Below.refl w.heap.size w).alloc (Nat.le_refl _) _).alloc (by simp) _⟩
  have SZ : Box' (w.heap.size + 2 ≤ ((w.alloc (.cells (sA s) 24)).alloc (.cells #[.int .i64 0, .int .i64 0, .bool false, .bool false, .bool false, .bool false, .bool false, .bool false, .bool false, .bool false] 24)).heap.size) := ⟨by simp⟩
  have U24 := Box'.mk Try.underlying24
  obtain ⟨a, cp, rfl, hcp, h3⟩ := h
  rcases h3 with h0 | ⟨b, o, rfl, hbN, hcl⟩
  · subst h0
    clear hcp hl
    have O := Box'.mk (one10 pl)
    have E : Box' (apF s [] = pl) := ⟨rfl⟩
    simp only [List.length_nil]
    go_enter Try.func19, Try.ntmps19
    go_wp2_with fail
    have PL := Box'.mk (refPlain_any ((w.alloc (.cells (sA s) 24)).alloc (.cells #[.int .i64 0, .int .i64 0, .bool false, .bool false, .bool false, .bool false, .bool false, .bool false, .bool false, .bool false] 24)))
    refine PL.out.mono ?_
    rintro e w1 ⟨rfl, hb1⟩
    have R1 := Box'.mk (RM.out.below hb1 (Nat.lt_of_lt_of_le (by omega) SZ.out))
    have B1 := Box'.mk (BB.out.trans (hb1.mono BB.out.size))
    clear PL RS RM BB SZ H
    go_wp2_with (first
      | (refine wpList_store_row rfl 24 (.tmp 4) (.tmp 11) rfl (w.heap.size + 1) rfl (sA pl) rfl 24 10 R1.out S24.out rfl O.out ?_))
    exact bodyPost_ret (results19 _ (w.heap.size + 1) rfl _ _ (R1.out.setRow _) rfl) rfl ⟨by rw [E.out], below_setRow B1.out (by omega) _⟩
  · by_cases h0 : l = []
    · subst h0
      clear hcp hl hcl
      have O := Box'.mk (one10 pl)
      have E : Box' (apF s [] = pl) := ⟨rfl⟩
      simp only [List.length_nil]
      go_enter Try.func19, Try.ntmps19
      go_wp2_with fail
      have PL := Box'.mk (refPlain_any ((w.alloc (.cells (sA s) 24)).alloc (.cells #[.int .i64 0, .int .i64 0, .bool false, .bool false, .bool false, .bool false, .bool false, .bool false, .bool false, .bool false] 24)))
      refine PL.out.mono ?_
      rintro e w1 ⟨rfl, hb1⟩
      have R1 := Box'.mk (RM.out.below hb1 (Nat.lt_of_lt_of_le (by omega) SZ.out))
      have B1 := Box'.mk (BB.out.trans (hb1.mono BB.out.size))
      clear PL RS RM BB SZ H
      go_wp2_with (first
        | (refine wpList_store_row rfl 24 (.tmp 4) (.tmp 11) rfl (w.heap.size + 1) rfl (sA pl) rfl 24 10 R1.out S24.out rfl O.out ?_))
      exact bodyPost_ret (results19 _ (w.heap.size + 1) rfl _ _ (R1.out.setRow _) rfl) rfl ⟨by rw [E.out], below_setRow B1.out (by omega) _⟩
    have E : Box' (apF s l = apG s l) := ⟨if_neg h0⟩
    have h0n : 0 < l.length := List.length_pos_iff.2 h0
    have CL : Box' (∀ k, k < l.length → w.cell? ⟨b, o + k, none⟩ = some (.int .i64 (l.getD k 0))) := ⟨hcl⟩
    have AT : Box' (∀ s s' (k z : Nat), k < l.length → stp s (l.drop k) = (s', z) → apG s (l.drop k) = apG s' (l.drop (k + z))) := ⟨fun s s' k z => apG_at s s' l k z⟩
    have PA : Box' (∀ s (k : Nat), l.length ≤ k → apG s (l.drop k) = s) := ⟨fun s k => apG_past s l k⟩
    have LL : Box' (∀ k, (l.drop k).length = l.length - k) := ⟨fun k => List.length_drop⟩
    obtain ⟨n, hn⟩ : ∃ n, l.length = n := ⟨_, rfl⟩
    rw [hn] at hl hcp h0n CL AT PA LL ⊢
    clear hn h0 H hcl
    have i0 : ((n : Int) == 0) = false := by rw [beq_eq_false_iff_ne]; omega
    go_enter Try.func19, Try.ntmps19
    go_wp2_with fail
    generalize ((w.alloc (.cells (sA s) 24)).alloc (.cells #[.int .i64 0, .int .i64 0, .bool false, .bool false, .bool false, .bool false, .bool false, .bool false, .bool false, .bool false] 24)) = wa at *
    go_loopw [5] (fun i wr => ∃ (k : Nat) (s' : St), k ≤ n + 4 ∧ i = .int .i64 (k : Int) ∧ Box' (apG s' (l.drop k) = apG s l) ∧ Box' (Row wr w.heap.size 24 (sA s')) ∧ Box' (Room wr (w.heap.size + 1) 24 10) ∧ Box' (Below w.heap.size w wr)) (fun i _ => n + 8 - (intOf i).toNat)
    case atStart => exact ⟨0, s, by omega, rfl, ⟨by rw [List.drop_zero]⟩, RS, RM, BB⟩
    case round =>
      obtain ⟨k, s', hk4, rfl, HA, RS', RM', BB'⟩ := hrel
      clear RS RM BB SZ
      by_cases hlt : k < n
      case neg =>
        have EE : Box' (apF s l = s') := ⟨by rw [E.out, ← HA.out, PA.out s' k (by omega)]⟩
        have O := Box'.mk (one10 s')
        clear HA E AT PA CL LL
        go_wp2_with (first
          | (refine wpList_load_row rfl 24 (.tmp 2) rfl w.heap.size rfl 24 (sA s') RS'.out _ U24.out rfl 10 S24.out rfl ?_)
          | (refine wpList_store_row rfl 24 (.tmp 4) (.tmp 161) rfl (w.heap.size + 1) rfl (sA s') rfl 24 10 RM'.out S24.out rfl O.out ?_))
        exact bodyPost_ret (results19 _ (w.heap.size + 1) rfl _ _ (RM'.out.setRow _) rfl) rfl ⟨by rw [EE.out], below_setRow BB'.out (by omega) _⟩
      case pos =>
        have d0 := CL.out k hlt
        have bc := (bcell BB'.out).1
        rw [← bc _ _ hbN] at d0
        have hp := Box'.mk (drop_get l k 0)
        rw [Nat.add_zero] at hp
        have SE : Box' (∀ s2 z, stp s' (l.drop k) = (s2, z) → apG s2 (l.drop (k + z)) = apG s l) := ⟨fun s2 z h => by rw [← AT.out s' s2 k z hlt h, HA.out]⟩
        have hp1 := Box'.mk (drop_get l k 1)
        have hp2 := Box'.mk (drop_get l k 2)
        have D1 : Box' (k + 1 < n → wr.cell? ⟨b, o + (k + 1), none⟩ = some (.int .i64 (l.getD (k + 1) 0))) := ⟨fun h => by rw [bc _ _ hbN]; exact CL.out _ h⟩
        have D2 : Box' (k + 2 < n → wr.cell? ⟨b, o + (k + 2), none⟩ = some (.int .i64 (l.getD (k + 2) 0))) := ⟨fun h => by rw [bc _ _ hbN]; exact CL.out _ h⟩
        have LK := Box'.mk (LL.out k)
        have P2 : Box' (∀ s2, n ≤ k + 5 → apG s2 (l.drop (n - k + k)) = apG s2 (l.drop (k + 5))) := ⟨fun s2 h => by rw [PA.out s2 _ (by omega), PA.out s2 _ (by omega)]⟩
        generalize l.getD k 0 = p at *
        generalize l.getD (k + 1) 0 = p1 at *
        generalize l.getD (k + 2) 0 = p2 at *
        have fz : ∀ j, wr.frozen? ⟨w.heap.size, j, none⟩ = false := RS'.out.frozen
        have cz : ∀ j, wr.cell? ⟨w.heap.size, j, none⟩ = (sA s')[j]? := RS'.out.cell
        have FZ := Box'.mk fz
        have CZ := Box'.mk cz
        have MS : Box' (∀ j v, Room (wr.setCell ⟨w.heap.size, j, none⟩ v) (w.heap.size + 1) 24 10) := ⟨fun j v => RM'.out.setOther _ _ (by show w.heap.size + 1 ≠ w.heap.size; omega)⟩
        have BS : Box' (∀ j v, Below w.heap.size w (wr.setCell ⟨w.heap.size, j, none⟩ v)) := ⟨fun j v => BB'.out.setCell (Nat.le_refl _) v⟩
        clear bc fz cz CL AT PA LL HA E
        rcases (show (30 ≤ p ∧ p ≤ 37) ∨ (40 ≤ p ∧ p ≤ 47) ∨ (90 ≤ p ∧ p ≤ 97) ∨ (100 ≤ p ∧ p ≤ 107) ∨ (p = 39) ∨ (p = 49) ∨ (p = 22) ∨ (p = 0) ∨ (1 ≤ p ∧ p ≤ 9) ∨ (23 ≤ p ∧ p ≤ 29) ∨ (p = 38) ∨ (p = 48) ∨ (p < 0) ∨ (10 ≤ p ∧ p ≤ 21) ∨ (50 ≤ p ∧ p ≤ 89) ∨ (98 ≤ p ∧ p ≤ 99) ∨ (108 ≤ p) by omega) with hq | hq | hq | hq | hq | hq | hq | hq | hq | hq | hq | hq | hq | hq | hq | hq | hq
        · as_aux_lemma =>
            obtain ⟨hlo, hhi⟩ := hq
            have ge1 : 1 ≤ p := by omega
            have ge23 : 23 ≤ p := by omega
            have ge30 : 30 ≤ p := by omega
            have ge90 : ¬ 90 ≤ p := by omega
            have ge40 : ¬ 40 ≤ p := by omega
            have ge100 : ¬ 100 ≤ p := by omega
            have le9 : ¬ p ≤ 9 := by omega
            have le29 : ¬ p ≤ 29 := by omega
            have le37 : p ≤ 37 := by omega
            have le97 : p ≤ 97 := by omega
            have le47 : p ≤ 47 := by omega
            have le107 : p ≤ 107 := by omega
            have ne0 : ¬ p = 0 := by omega
            have ne22 : ¬ p = 22 := by omega
            have ne39 : ¬ p = 39 := by omega
            have ne49 : ¬ p = 49 := by omega
            have ne38 : ¬ p = 38 := by omega
            have ne48 : ¬ p = 48 := by omega
            have EQ := Box'.mk (SE.out ({ s' with fg := p - 30 }) 1 (by simp only [stp, hp.out]; rw [if_neg (by omega), if_neg (by omega), if_neg (by omega), if_neg (by omega), if_neg (by omega), if_neg (by omega), if_neg (by omega), if_neg (by omega)]; unfold sht; rw [if_pos (by omega)]))
            have c := CZ.out 0
            have f := FZ.out 0
            clear P2 D1 D2 hp1 hp2 LK SE hp hlo hhi
            go_wp2_with fail
            exact ⟨⟨k + 1, { s' with fg := p - 30 }, by omega, by go_num, EQ, ⟨RS'.out.setCell 0 _⟩, ⟨MS.out _ _⟩, ⟨BS.out _ _⟩⟩, by simp [intOf]; omega⟩
        · as_aux_lemma =>
            obtain ⟨hlo, hhi⟩ := hq
            have ge1 : 1 ≤ p := by omega
            have ge23 : 23 ≤ p := by omega
            have ge30 : 30 ≤ p := by omega
            have ge90 : ¬ 90 ≤ p := by omega
            have ge40 : 40 ≤ p := by omega
            have ge100 : ¬ 100 ≤ p := by omega
            have le9 : ¬ p ≤ 9 := by omega
            have le29 : ¬ p ≤ 29 := by omega
            have le37 : ¬ p ≤ 37 := by omega
            have le97 : p ≤ 97 := by omega
            have le47 : p ≤ 47 := by omega
            have le107 : p ≤ 107 := by omega
            have ne0 : ¬ p = 0 := by omega
            have ne22 : ¬ p = 22 := by omega
            have ne39 : ¬ p = 39 := by omega
            have ne49 : ¬ p = 49 := by omega
            have ne38 : ¬ p = 38 := by omega
            have ne48 : ¬ p = 48 := by omega
            have EQ := Box'.mk (SE.out ({ s' with bg := p - 40 }) 1 (by simp only [stp, hp.out]; rw [if_neg (by omega), if_neg (by omega), if_neg (by omega), if_neg (by omega), if_neg (by omega), if_neg (by omega), if_neg (by omega), if_neg (by omega)]; unfold sht; rw [if_neg (by omega), if_pos (by omega)]))
            have c := CZ.out 1
            have f := FZ.out 1
            clear P2 D1 D2 hp1 hp2 LK SE hp hlo hhi
            go_wp2_with fail
            exact ⟨⟨k + 1, { s' with bg := p - 40 }, by omega, by go_num, EQ, ⟨RS'.out.setCell 1 _⟩, ⟨MS.out _ _⟩, ⟨BS.out _ _⟩⟩, by simp [intOf]; omega⟩
        · as_aux_lemma =>
            obtain ⟨hlo, hhi⟩ := hq
            have ge1 : 1 ≤ p := by omega
            have ge23 : 23 ≤ p := by omega
            have ge30 : 30 ≤ p := by omega
            have ge90 : 90 ≤ p := by omega
            have ge40 : 40 ≤ p := by omega
            have ge100 : ¬ 100 ≤ p := by omega
            have le9 : ¬ p ≤ 9 := by omega
            have le29 : ¬ p ≤ 29 := by omega
            have le37 : ¬ p ≤ 37 := by omega
            have le97 : p ≤ 97 := by omega
            have le47 : ¬ p ≤ 47 := by omega
            have le107 : p ≤ 107 := by omega
            have ne0 : ¬ p = 0 := by omega
            have ne22 : ¬ p = 22 := by omega
            have ne39 : ¬ p = 39 := by omega
            have ne49 : ¬ p = 49 := by omega
            have ne38 : ¬ p = 38 := by omega
            have ne48 : ¬ p = 48 := by omega
            have EQ := Box'.mk (SE.out ({ s' with fg := p - 82 }) 1 (by simp only [stp, hp.out]; rw [if_neg (by omega), if_neg (by omega), if_neg (by omega), if_neg (by omega), if_neg (by omega), if_neg (by omega), if_neg (by omega), if_neg (by omega)]; unfold sht; rw [if_neg (by omega), if_neg (by omega), if_pos (by omega)]))
            have c := CZ.out 0
            have f := FZ.out 0
            clear P2 D1 D2 hp1 hp2 LK SE hp hlo hhi
            go_wp2_with fail
            exact ⟨⟨k + 1, { s' with fg := p - 82 }, by omega, by go_num, EQ, ⟨RS'.out.setCell 0 _⟩, ⟨MS.out _ _⟩, ⟨BS.out _ _⟩⟩, by simp [intOf]; omega⟩
        · as_aux_lemma =>
            obtain ⟨hlo, hhi⟩ := hq
            have ge1 : 1 ≤ p := by omega
            have ge23 : 23 ≤ p := by omega
            have ge30 : 30 ≤ p := by omega
            have ge90 : 90 ≤ p := by omega
            have ge40 : 40 ≤ p := by omega
            have ge100 : 100 ≤ p := by omega
            have le9 : ¬ p ≤ 9 := by omega
            have le29 : ¬ p ≤ 29 := by omega
            have le37 : ¬ p ≤ 37 := by omega
            have le97 : ¬ p ≤ 97 := by omega
            have le47 : ¬ p ≤ 47 := by omega
            have le107 : p ≤ 107 := by omega
            have ne0 : ¬ p = 0 := by omega
            have ne22 : ¬ p = 22 := by omega
            have ne39 : ¬ p = 39 := by omega
            have ne49 : ¬ p = 49 := by omega
            have ne38 : ¬ p = 38 := by omega
            have ne48 : ¬ p = 48 := by omega
            have EQ := Box'.mk (SE.out ({ s' with bg := p - 92 }) 1 (by simp only [stp, hp.out]; rw [if_neg (by omega), if_neg (by omega), if_neg (by omega), if_neg (by omega), if_neg (by omega), if_neg (by omega), if_neg (by omega), if_neg (by omega)]; unfold sht; rw [if_neg (by omega), if_neg (by omega), if_neg (by omega), if_pos (by omega)]))
            have c := CZ.out 1
            have f := FZ.out 1
            clear P2 D1 D2 hp1 hp2 LK SE hp hlo hhi
            go_wp2_with fail
            exact ⟨⟨k + 1, { s' with bg := p - 92 }, by omega, by go_num, EQ, ⟨RS'.out.setCell 1 _⟩, ⟨MS.out _ _⟩, ⟨BS.out _ _⟩⟩, by simp [intOf]; omega⟩
        · as_aux_lemma =>
            subst hq
            have EQ := Box'.mk (SE.out ({ s' with fg := -1 }) 1 (by simp only [stp, hp.out]; rfl))
            have c := CZ.out 0
            have f := FZ.out 0
            clear P2 D1 D2 hp1 hp2 LK SE hp
            go_wp2_with fail
            exact ⟨⟨k + 1, { s' with fg := -1 }, by omega, by go_num, EQ, ⟨RS'.out.setCell 0 _⟩, ⟨MS.out _ _⟩, ⟨BS.out _ _⟩⟩, by simp [intOf]; omega⟩
        · as_aux_lemma =>
            subst hq
            have EQ := Box'.mk (SE.out ({ s' with bg := -1 }) 1 (by simp only [stp, hp.out]; rfl))
            have c := CZ.out 1
            have f := FZ.out 1
            clear P2 D1 D2 hp1 hp2 LK SE hp
            go_wp2_with fail
            exact ⟨⟨k + 1, { s' with bg := -1 }, by omega, by go_num, EQ, ⟨RS'.out.setCell 1 _⟩, ⟨MS.out _ _⟩, ⟨BS.out _ _⟩⟩, by simp [intOf]; omega⟩
        · as_aux_lemma =>
            subst hq
            have EQ := Box'.mk (SE.out ({ s' with b1 := false, b2 := false }) 1 (by simp only [stp, hp.out]; rfl))
            have c := CZ.out 2
            have f := FZ.out 2
            have c' := CZ.out 3
            have f' := FZ.out 3
            clear P2 D1 D2 hp1 hp2 LK SE hp
            go_wp2_with fail
            exact ⟨⟨k + 1, { s' with b1 := false, b2 := false }, by omega, by go_num, EQ, ⟨(RS'.out.setCell 2 _).setCell 3 _⟩, ⟨RM'.out.setOther _ _ (by show w.heap.size + 1 ≠ w.heap.size; omega) |>.setOther _ _ (by show w.heap.size + 1 ≠ w.heap.size; omega)⟩, ⟨(BS.out _ _).setCell (Nat.le_refl _) _⟩⟩, by simp [intOf]; omega⟩
        · as_aux_lemma =>
            subst hq
            have EQ := Box'.mk (SE.out pl 1 (by simp only [stp, hp.out]; rfl))
            clear P2 D1 D2 hp1 hp2 LK SE hp CZ FZ MS BS
            have PL := Box'.mk (refPlain_any wr)
            have O := Box'.mk (one10 pl)
            go_wp2_with fail
            refine PL.out.mono ?_
            rintro e w4 ⟨rfl, hb4⟩
            have R4 := Box'.mk ((RS'.out.room (n := 10) rfl).below hb4 RS'.out.lt)
            have M4 := Box'.mk (RM'.out.below hb4 (by obtain ⟨c, h, _⟩ := RM'.out; exact h.lt))
            have B4 := Box'.mk (BB'.out.trans (hb4.mono BB'.out.size))
            clear PL RS' RM' BB' hb4
            go_wp2_with (first
              | (refine wpList_store_row rfl 24 (.tmp 2) (.tmp 25) rfl w.heap.size rfl (sA pl) rfl 24 10 R4.out S24.out rfl O.out ?_))
            exact ⟨⟨k + 1, pl, by omega, by go_num, EQ, ⟨R4.out.setRow _⟩, ⟨M4.out.setRowOther _ _ (by omega)⟩, ⟨below_setRow B4.out (Nat.le_refl _) _⟩⟩, by simp [intOf]; omega⟩
        · as_aux_lemma =>
            obtain ⟨hlo, hhi⟩ := hq
            have ge1 : 1 ≤ p := by omega
            have ge23 : ¬ 23 ≤ p := by omega
            have ge30 : ¬ 30 ≤ p := by omega
            have ge90 : ¬ 90 ≤ p := by omega
            have ge40 : ¬ 40 ≤ p := by omega
            have ge100 : ¬ 100 ≤ p := by omega
            have le9 : p ≤ 9 := by omega
            have le29 : p ≤ 29 := by omega
            have le37 : p ≤ 37 := by omega
            have le97 : p ≤ 97 := by omega
            have le47 : p ≤ 47 := by omega
            have le107 : p ≤ 107 := by omega
            have ne0 : ¬ p = 0 := by omega
            have ne22 : ¬ p = 22 := by omega
            have ne39 : ¬ p = 39 := by omega
            have ne49 : ¬ p = 49 := by omega
            have ne38 : ¬ p = 38 := by omega
            have ne48 : ¬ p = 48 := by omega
            have EQ := Box'.mk (SE.out (sf s' p true) 1 (by simp only [stp, hp.out]; rw [if_neg (by omega), if_pos (by omega)]))
            clear P2 D1 D2 hp1 hp2 LK SE hp CZ FZ MS BS hlo hhi
            have PL := Box'.mk (flag_any s' p true wr)
            have O := Box'.mk (one10 (sf s' p true))
            go_wp2_with (first
              | (refine wpList_load_row rfl 24 (.tmp 2) rfl w.heap.size rfl 24 (sA s') RS'.out _ U24.out rfl 10 S24.out rfl ?_))
            refine PL.out.mono ?_
            rintro e w4 ⟨rfl, hb4⟩
            have R4 := Box'.mk ((RS'.out.room (n := 10) rfl).below hb4 RS'.out.lt)
            have M4 := Box'.mk (RM'.out.below hb4 (by obtain ⟨c, h, _⟩ := RM'.out; exact h.lt))
            have B4 := Box'.mk (BB'.out.trans (hb4.mono BB'.out.size))
            clear PL RS' RM' BB' hb4
            generalize sf s' p true = s2 at *
            go_wp2_with (first
              | (refine wpList_store_row rfl 24 (.tmp 2) (.tmp 35) rfl w.heap.size rfl (sA s2) rfl 24 10 R4.out S24.out rfl O.out ?_))
            exact ⟨⟨k + 1, s2, by omega, by go_num, EQ, ⟨R4.out.setRow _⟩, ⟨M4.out.setRowOther _ _ (by omega)⟩, ⟨below_setRow B4.out (Nat.le_refl _) _⟩⟩, by simp [intOf]; omega⟩
        · as_aux_lemma =>
            obtain ⟨hlo, hhi⟩ := hq
            have ge1 : 1 ≤ p := by omega
            have ge23 : 23 ≤ p := by omega
            have ge30 : ¬ 30 ≤ p := by omega
            have ge90 : ¬ 90 ≤ p := by omega
            have ge40 : ¬ 40 ≤ p := by omega
            have ge100 : ¬ 100 ≤ p := by omega
            have le9 : ¬ p ≤ 9 := by omega
            have le29 : p ≤ 29 := by omega
            have le37 : p ≤ 37 := by omega
            have le97 : p ≤ 97 := by omega
            have le47 : p ≤ 47 := by omega
            have le107 : p ≤ 107 := by omega
            have ne0 : ¬ p = 0 := by omega
            have ne22 : ¬ p = 22 := by omega
            have ne39 : ¬ p = 39 := by omega
            have ne49 : ¬ p = 49 := by omega
            have ne38 : ¬ p = 38 := by omega
            have ne48 : ¬ p = 48 := by omega
            have EQ := Box'.mk (SE.out (sf s' (p - 20) false) 1 (by simp only [stp, hp.out]; rw [if_neg (by omega), if_neg (by omega), if_neg (by omega), if_pos (by omega)]))
            clear P2 D1 D2 hp1 hp2 LK SE hp CZ FZ MS BS hlo hhi
            have PL := Box'.mk (flag_any s' (p - 20) false wr)
            have O := Box'.mk (one10 (sf s' (p - 20) false))
            go_wp2_with (first
              | (refine wpList_load_row rfl 24 (.tmp 2) rfl w.heap.size rfl 24 (sA s') RS'.out _ U24.out rfl 10 S24.out rfl ?_))
            refine PL.out.mono ?_
            rintro e w4 ⟨rfl, hb4⟩
            have R4 := Box'.mk ((RS'.out.room (n := 10) rfl).below hb4 RS'.out.lt)
            have M4 := Box'.mk (RM'.out.below hb4 (by obtain ⟨c, h, _⟩ := RM'.out; exact h.lt))
            have B4 := Box'.mk (BB'.out.trans (hb4.mono BB'.out.size))
            clear PL RS' RM' BB' hb4
            generalize sf s' (p - 20) false = s2 at *
            go_wp2_with (first
              | (refine wpList_store_row rfl 24 (.tmp 2) (.tmp 51) rfl w.heap.size rfl (sA s2) rfl 24 10 R4.out S24.out rfl O.out ?_))
            exact ⟨⟨k + 1, s2, by omega, by go_num, EQ, ⟨R4.out.setRow _⟩, ⟨M4.out.setRowOther _ _ (by omega)⟩, ⟨below_setRow B4.out (Nat.le_refl _) _⟩⟩, by simp [intOf]; omega⟩
        · as_aux_lemma =>
            subst hq
            have LG : Box' (stp s' (l.drop k) = ({ s' with fg := (lng s'.fg (l.drop k)).1 }, (lng s'.fg (l.drop k)).2)) := ⟨by simp only [stp, hp.out]; rfl⟩
            have LN : Box' (lng s'.fg (l.drop k) = if 2 < n - k ∧ p1 = 5 then (if 0 ≤ p2 ∧ p2 ≤ 255 then p2 else s'.fg, 3) else if 1 < n - k ∧ p1 = 2 then (s'.fg, min (n - k) 5) else (s'.fg, 1)) := ⟨by unfold lng; rw [LK.out, hp1.out, hp2.out]⟩
            by_cases h1 : k + 1 < n
            case neg =>
              have EQ : Box' (apG s' (l.drop (k + 1)) = apG s l) := ⟨SE.out s' 1 (by rw [LG.out, LN.out, if_neg (by omega), if_neg (by omega)])⟩
              clear P2 D1 D2 hp1 hp2 LK LG LN SE hp CZ FZ MS BS
              go_wp2_with fail
              exact ⟨⟨k + 1, s', by omega, by go_num, EQ, RS', RM', BB'⟩, by simp [intOf]; omega⟩
            case pos =>
              have d1 := D1.out h1
              by_cases h5 : p1 = 5
              case pos =>
                subst h5
                by_cases h2 : k + 2 < n
                case neg =>
                  have EQ : Box' (apG s' (l.drop (k + 1)) = apG s l) := ⟨SE.out s' 1 (by rw [LG.out, LN.out, if_neg (by omega), if_neg (by omega)])⟩
                  clear P2 D1 D2 hp1 hp2 LK LG LN SE hp CZ FZ MS BS
                  go_wp2_with fail
                  exact ⟨⟨k + 1, s', by omega, by go_num, EQ, RS', RM', BB'⟩, by simp [intOf]; omega⟩
                case pos =>
                  have d2 := D2.out h2
                  by_cases hc0 : 0 ≤ p2
                  case pos =>
                    by_cases hc1 : p2 ≤ 255
                    case pos =>
                      have EQ : Box' (apG { s' with fg := p2 } (l.drop (k + 3)) = apG s l) := ⟨SE.out _ 3 (by rw [LG.out, LN.out, if_pos ⟨by omega, rfl⟩, if_pos ⟨hc0, hc1⟩])⟩
                      have c := CZ.out 0
                      have f := FZ.out 0
                      clear P2 D1 D2 hp1 hp2 LK LG LN SE hp
                      go_wp2_with fail
                      exact ⟨⟨k + 3, { s' with fg := p2 }, by omega, by go_num, EQ, ⟨RS'.out.setCell 0 _⟩, ⟨MS.out _ _⟩, ⟨BS.out _ _⟩⟩, by simp [intOf]; omega⟩
                    case neg =>
                      have EQ : Box' (apG s' (l.drop (k + 3)) = apG s l) := ⟨SE.out s' 3 (by rw [LG.out, LN.out, if_pos ⟨by omega, rfl⟩, if_neg (fun h => hc1 h.2)])⟩
                      clear P2 D1 D2 hp1 hp2 LK LG LN SE hp CZ FZ MS BS
                      go_wp2_with fail
                      exact ⟨⟨k + 3, s', by omega, by go_num, EQ, RS', RM', BB'⟩, by simp [intOf]; omega⟩
                  case neg =>
                    have EQ : Box' (apG s' (l.drop (k + 3)) = apG s l) := ⟨SE.out s' 3 (by rw [LG.out, LN.out, if_pos ⟨by omega, rfl⟩, if_neg (fun h => hc0 h.1)])⟩
                    clear P2 D1 D2 hp1 hp2 LK LG LN SE hp CZ FZ MS BS
                    go_wp2_with fail
                    exact ⟨⟨k + 3, s', by omega, by go_num, EQ, RS', RM', BB'⟩, by simp [intOf]; omega⟩
              case neg =>
                by_cases h6 : p1 = 2
                case pos =>
                  subst h6
                  have EQ : Box' (apG s' (l.drop (k + 5)) = apG s l) := ⟨by
                    have q := SE.out s' (min (n - k) 5) (by rw [LG.out, LN.out, if_neg (by omega), if_pos ⟨by omega, rfl⟩])
                    rcases Nat.lt_or_ge (n - k) 5 with h9 | h9
                    · rw [Nat.min_eq_left (by omega), Nat.add_comm] at q; rw [← P2.out s' (by omega)]; exact q
                    · rw [Nat.min_eq_right h9] at q; exact q⟩
                  clear P2 D1 D2 hp1 hp2 LK LG LN SE hp CZ FZ MS BS
                  go_wp2_with fail
                  exact ⟨⟨k + 5, s', by omega, by go_num, EQ, RS', RM', BB'⟩, by simp [intOf]; omega⟩
                case neg =>
                  have EQ : Box' (apG s' (l.drop (k + 1)) = apG s l) := ⟨SE.out s' 1 (by rw [LG.out, LN.out, if_neg (fun h => h5 h.2), if_neg (fun h => h6 h.2)])⟩
                  clear P2 D1 D2 hp1 hp2 LK LG LN SE hp CZ FZ MS BS
                  go_wp2_with fail
                  exact ⟨⟨k + 1, s', by omega, by go_num, EQ, RS', RM', BB'⟩, by simp [intOf]; omega⟩
        · as_aux_lemma =>
            subst hq
            have LG : Box' (stp s' (l.drop k) = ({ s' with bg := (lng s'.bg (l.drop k)).1 }, (lng s'.bg (l.drop k)).2)) := ⟨by simp only [stp, hp.out]; rfl⟩
            have LN : Box' (lng s'.bg (l.drop k) = if 2 < n - k ∧ p1 = 5 then (if 0 ≤ p2 ∧ p2 ≤ 255 then p2 else s'.bg, 3) else if 1 < n - k ∧ p1 = 2 then (s'.bg, min (n - k) 5) else (s'.bg, 1)) := ⟨by unfold lng; rw [LK.out, hp1.out, hp2.out]⟩
            by_cases h1 : k + 1 < n
            case neg =>
              have EQ : Box' (apG s' (l.drop (k + 1)) = apG s l) := ⟨SE.out s' 1 (by rw [LG.out, LN.out, if_neg (by omega), if_neg (by omega)])⟩
              clear P2 D1 D2 hp1 hp2 LK LG LN SE hp CZ FZ MS BS
              go_wp2_with fail
              exact ⟨⟨k + 1, s', by omega, by go_num, EQ, RS', RM', BB'⟩, by simp [intOf]; omega⟩
            case pos =>
              have d1 := D1.out h1
              by_cases h5 : p1 = 5
              case pos =>
                subst h5
                by_cases h2 : k + 2 < n
                case neg =>
                  have EQ : Box' (apG s' (l.drop (k + 1)) = apG s l) := ⟨SE.out s' 1 (by rw [LG.out, LN.out, if_neg (by omega), if_neg (by omega)])⟩
                  clear P2 D1 D2 hp1 hp2 LK LG LN SE hp CZ FZ MS BS
                  go_wp2_with fail
                  exact ⟨⟨k + 1, s', by omega, by go_num, EQ, RS', RM', BB'⟩, by simp [intOf]; omega⟩
                case pos =>
                  have d2 := D2.out h2
                  by_cases hc0 : 0 ≤ p2
                  case pos =>
                    by_cases hc1 : p2 ≤ 255
                    case pos =>
                      have EQ : Box' (apG { s' with bg := p2 } (l.drop (k + 3)) = apG s l) := ⟨SE.out _ 3 (by rw [LG.out, LN.out, if_pos ⟨by omega, rfl⟩, if_pos ⟨hc0, hc1⟩])⟩
                      have c := CZ.out 1
                      have f := FZ.out 1
                      clear P2 D1 D2 hp1 hp2 LK LG LN SE hp
                      go_wp2_with fail
                      exact ⟨⟨k + 3, { s' with bg := p2 }, by omega, by go_num, EQ, ⟨RS'.out.setCell 1 _⟩, ⟨MS.out _ _⟩, ⟨BS.out _ _⟩⟩, by simp [intOf]; omega⟩
                    case neg =>
                      have EQ : Box' (apG s' (l.drop (k + 3)) = apG s l) := ⟨SE.out s' 3 (by rw [LG.out, LN.out, if_pos ⟨by omega, rfl⟩, if_neg (fun h => hc1 h.2)])⟩
                      clear P2 D1 D2 hp1 hp2 LK LG LN SE hp CZ FZ MS BS
                      go_wp2_with fail
                      exact ⟨⟨k + 3, s', by omega, by go_num, EQ, RS', RM', BB'⟩, by simp [intOf]; omega⟩
                  case neg =>
                    have EQ : Box' (apG s' (l.drop (k + 3)) = apG s l) := ⟨SE.out s' 3 (by rw [LG.out, LN.out, if_pos ⟨by omega, rfl⟩, if_neg (fun h => hc0 h.1)])⟩
                    clear P2 D1 D2 hp1 hp2 LK LG LN SE hp CZ FZ MS BS
                    go_wp2_with fail
                    exact ⟨⟨k + 3, s', by omega, by go_num, EQ, RS', RM', BB'⟩, by simp [intOf]; omega⟩
              case neg =>
                by_cases h6 : p1 = 2
                case pos =>
                  subst h6
                  have EQ : Box' (apG s' (l.drop (k + 5)) = apG s l) := ⟨by
                    have q := SE.out s' (min (n - k) 5) (by rw [LG.out, LN.out, if_neg (by omega), if_pos ⟨by omega, rfl⟩])
                    rcases Nat.lt_or_ge (n - k) 5 with h9 | h9
                    · rw [Nat.min_eq_left (by omega), Nat.add_comm] at q; rw [← P2.out s' (by omega)]; exact q
                    · rw [Nat.min_eq_right h9] at q; exact q⟩
                  clear P2 D1 D2 hp1 hp2 LK LG LN SE hp CZ FZ MS BS
                  go_wp2_with fail
                  exact ⟨⟨k + 5, s', by omega, by go_num, EQ, RS', RM', BB'⟩, by simp [intOf]; omega⟩
                case neg =>
                  have EQ : Box' (apG s' (l.drop (k + 1)) = apG s l) := ⟨SE.out s' 1 (by rw [LG.out, LN.out, if_neg (fun h => h5 h.2), if_neg (fun h => h6 h.2)])⟩
                  clear P2 D1 D2 hp1 hp2 LK LG LN SE hp CZ FZ MS BS
                  go_wp2_with fail
                  exact ⟨⟨k + 1, s', by omega, by go_num, EQ, RS', RM', BB'⟩, by simp [intOf]; omega⟩
        · as_aux_lemma =>
            have hlo := hq
            have ge1 : ¬ 1 ≤ p := by omega
            have ge23 : ¬ 23 ≤ p := by omega
            have ge30 : ¬ 30 ≤ p := by omega
            have ge90 : ¬ 90 ≤ p := by omega
            have ge40 : ¬ 40 ≤ p := by omega
            have ge100 : ¬ 100 ≤ p := by omega
            have le9 : p ≤ 9 := by omega
            have le29 : p ≤ 29 := by omega
            have le37 : p ≤ 37 := by omega
            have le97 : p ≤ 97 := by omega
            have le47 : p ≤ 47 := by omega
            have le107 : p ≤ 107 := by omega
            have ne0 : ¬ p = 0 := by omega
            have ne22 : ¬ p = 22 := by omega
            have ne39 : ¬ p = 39 := by omega
            have ne49 : ¬ p = 49 := by omega
            have ne38 : ¬ p = 38 := by omega
            have ne48 : ¬ p = 48 := by omega
            have EQ := Box'.mk (SE.out s' 1 (by simp only [stp, hp.out]; rw [if_neg (by omega), if_neg (by omega), if_neg (by omega), if_neg (by omega), if_neg (by omega), if_neg (by omega), if_neg (by omega), if_neg (by omega)]; unfold sht; rw [if_neg (by omega), if_neg (by omega), if_neg (by omega), if_neg (by omega)]))
            clear P2 D1 D2 hp1 hp2 LK SE hp CZ FZ MS BS hlo hq
            have n38 : (p == 38) = false := by rw [beq_eq_false_iff_ne]; exact ne38
            have n48 : (p == 48) = false := by rw [beq_eq_false_iff_ne]; exact ne48
            clear ne38 ne48
            go_wp2_with fail
            exact ⟨⟨k + 1, s', by omega, by go_num, EQ, RS', RM', BB'⟩, by simp [intOf]; omega⟩
        · as_aux_lemma =>
            obtain ⟨hlo, hhi⟩ := hq
            have ge1 : 1 ≤ p := by omega
            have ge23 : ¬ 23 ≤ p := by omega
            have ge30 : ¬ 30 ≤ p := by omega
            have ge90 : ¬ 90 ≤ p := by omega
            have ge40 : ¬ 40 ≤ p := by omega
            have ge100 : ¬ 100 ≤ p := by omega
            have le9 : ¬ p ≤ 9 := by omega
            have le29 : p ≤ 29 := by omega
            have le37 : p ≤ 37 := by omega
            have le97 : p ≤ 97 := by omega
            have le47 : p ≤ 47 := by omega
            have le107 : p ≤ 107 := by omega
            have ne0 : ¬ p = 0 := by omega
            have ne22 : ¬ p = 22 := by omega
            have ne39 : ¬ p = 39 := by omega
            have ne49 : ¬ p = 49 := by omega
            have ne38 : ¬ p = 38 := by omega
            have ne48 : ¬ p = 48 := by omega
            have EQ := Box'.mk (SE.out s' 1 (by simp only [stp, hp.out]; rw [if_neg (by omega), if_neg (by omega), if_neg (by omega), if_neg (by omega), if_neg (by omega), if_neg (by omega), if_neg (by omega), if_neg (by omega)]; unfold sht; rw [if_neg (by omega), if_neg (by omega), if_neg (by omega), if_neg (by omega)]))
            clear P2 D1 D2 hp1 hp2 LK SE hp CZ FZ MS BS hlo hhi
            have n38 : (p == 38) = false := by rw [beq_eq_false_iff_ne]; exact ne38
            have n48 : (p == 48) = false := by rw [beq_eq_false_iff_ne]; exact ne48
            clear ne38 ne48
            go_wp2_with fail
            exact ⟨⟨k + 1, s', by omega, by go_num, EQ, RS', RM', BB'⟩, by simp [intOf]; omega⟩
        · as_aux_lemma =>
            obtain ⟨hlo, hhi⟩ := hq
            have ge1 : 1 ≤ p := by omega
            have ge23 : 23 ≤ p := by omega
            have ge30 : 30 ≤ p := by omega
            have ge90 : ¬ 90 ≤ p := by omega
            have ge40 : 40 ≤ p := by omega
            have ge100 : ¬ 100 ≤ p := by omega
            have le9 : ¬ p ≤ 9 := by omega
            have le29 : ¬ p ≤ 29 := by omega
            have le37 : ¬ p ≤ 37 := by omega
            have le97 : p ≤ 97 := by omega
            have le47 : ¬ p ≤ 47 := by omega
            have le107 : p ≤ 107 := by omega
            have ne0 : ¬ p = 0 := by omega
            have ne22 : ¬ p = 22 := by omega
            have ne39 : ¬ p = 39 := by omega
            have ne49 : ¬ p = 49 := by omega
            have ne38 : ¬ p = 38 := by omega
            have ne48 : ¬ p = 48 := by omega
            have EQ := Box'.mk (SE.out s' 1 (by simp only [stp, hp.out]; rw [if_neg (by omega), if_neg (by omega), if_neg (by omega), if_neg (by omega), if_neg (by omega), if_neg (by omega), if_neg (by omega), if_neg (by omega)]; unfold sht; rw [if_neg (by omega), if_neg (by omega), if_neg (by omega), if_neg (by omega)]))
            clear P2 D1 D2 hp1 hp2 LK SE hp CZ FZ MS BS hlo hhi
            have n38 : (p == 38) = false := by rw [beq_eq_false_iff_ne]; exact ne38
            have n48 : (p == 48) = false := by rw [beq_eq_false_iff_ne]; exact ne48
            clear ne38 ne48
            go_wp2_with fail
            exact ⟨⟨k + 1, s', by omega, by go_num, EQ, RS', RM', BB'⟩, by simp [intOf]; omega⟩
        · as_aux_lemma =>
            obtain ⟨hlo, hhi⟩ := hq
            have ge1 : 1 ≤ p := by omega
            have ge23 : 23 ≤ p := by omega
            have ge30 : 30 ≤ p := by omega
            have ge90 : 90 ≤ p := by omega
            have ge40 : 40 ≤ p := by omega
            have ge100 : ¬ 100 ≤ p := by omega
            have le9 : ¬ p ≤ 9 := by omega
            have le29 : ¬ p ≤ 29 := by omega
            have le37 : ¬ p ≤ 37 := by omega
            have le97 : ¬ p ≤ 97 := by omega
            have le47 : ¬ p ≤ 47 := by omega
            have le107 : p ≤ 107 := by omega
            have ne0 : ¬ p = 0 := by omega
            have ne22 : ¬ p = 22 := by omega
            have ne39 : ¬ p = 39 := by omega
            have ne49 : ¬ p = 49 := by omega
            have ne38 : ¬ p = 38 := by omega
            have ne48 : ¬ p = 48 := by omega
            have EQ := Box'.mk (SE.out s' 1 (by simp only [stp, hp.out]; rw [if_neg (by omega), if_neg (by omega), if_neg (by omega), if_neg (by omega), if_neg (by omega), if_neg (by omega), if_neg (by omega), if_neg (by omega)]; unfold sht; rw [if_neg (by omega), if_neg (by omega), if_neg (by omega), if_neg (by omega)]))
            clear P2 D1 D2 hp1 hp2 LK SE hp CZ FZ MS BS hlo hhi
            have n38 : (p == 38) = false := by rw [beq_eq_false_iff_ne]; exact ne38
            have n48 : (p == 48) = false := by rw [beq_eq_false_iff_ne]; exact ne48
            clear ne38 ne48
            go_wp2_with fail
            exact ⟨⟨k + 1, s', by omega, by go_num, EQ, RS', RM', BB'⟩, by simp [intOf]; omega⟩
        · as_aux_lemma =>
            have hlo := hq
            have ge1 : 1 ≤ p := by omega
            have ge23 : 23 ≤ p := by omega
            have ge30 : 30 ≤ p := by omega
            have ge90 : 90 ≤ p := by omega
            have ge40 : 40 ≤ p := by omega
            have ge100 : 100 ≤ p := by omega
            have le9 : ¬ p ≤ 9 := by omega
            have le29 : ¬ p ≤ 29 := by omega
            have le37 : ¬ p ≤ 37 := by omega
            have le97 : ¬ p ≤ 97 := by omega
            have le47 : ¬ p ≤ 47 := by omega
            have le107 : ¬ p ≤ 107 := by omega
            have ne0 : ¬ p = 0 := by omega
            have ne22 : ¬ p = 22 := by omega
            have ne39 : ¬ p = 39 := by omega
            have ne49 : ¬ p = 49 := by omega
            have ne38 : ¬ p = 38 := by omega
            have ne48 : ¬ p = 48 := by omega
            have EQ := Box'.mk (SE.out s' 1 (by simp only [stp, hp.out]; rw [if_neg (by omega), if_neg (by omega), if_neg (by omega), if_neg (by omega), if_neg (by omega), if_neg (by omega), if_neg (by omega), if_neg (by omega)]; unfold sht; rw [if_neg (by omega), if_neg (by omega), if_neg (by omega), if_neg (by omega)]))
            clear P2 D1 D2 hp1 hp2 LK SE hp CZ FZ MS BS hlo hq
            have n38 : (p == 38) = false := by rw [beq_eq_false_iff_ne]; exact ne38
            have n48 : (p == 48) = false := by rw [beq_eq_false_iff_ne]; exact ne48
            clear ne38 ne48
            go_wp2_with fail
            exact ⟨⟨k + 1, s', by omega, by go_num, EQ, RS', RM', BB'⟩, by simp [intOf]; omega⟩
end Go.Proofs.Ytnlladjkajmpoaa
