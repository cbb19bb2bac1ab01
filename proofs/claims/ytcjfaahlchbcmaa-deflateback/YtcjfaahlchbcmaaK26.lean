/- The walk of symMerge, for numbers, whole; the walks of stable and SortStableFunc, for numbers. -/
import Derived.Test.YtcjfaahlchbcmaaK25
import Derived.Test.YtcjfaahlchbcmaaK05
import Derived.Test.YtcjfaahlchbcmaaK01
import Derived.Test.YtcjfaahlchbcmaaK09
import Derived.Test.YtcjfaahlchbcmaaK06
namespace Go.Proofs.Ytcjfaahlchbcmaa
open Go.RowKit Go.BigFrame
set_option maxRecDepth 100000 in
theorem symI_any (g c B pb N : Nat) (w0 : World) (k : Int → Int) (S : Int → Prop) (hcmp : CmpI B w0 pb k S) (hB : B ≤ g) (hB0 : B ≤ w0.heap.size) (hN2 : N ≤ 4096) :
    ∀ (T : Nat) (A X Y Z : List Int) (a m b : Nat), X.length + Y.length < T → (∀ x ∈ X, S x) → (∀ y ∈ Y, S y) → Gs.Srt k X → Gs.Srt k Y → A.length = a → a + X.length = m → m + Y.length = b → N = b + Z.length → 0 < X.length → 0 < Y.length → ∀ w, Below B w0 w → SegI w g (A ++ (X ++ (Y ++ Z))) →
      Calls Try.prog 90 #[.slice (some ⟨g, 0, none⟩) N c, .int .i64 (a : Int), .int .i64 (m : Int), .int .i64 (b : Int), cfI pb] w fun e w' => e = .returned (.tuple #[]) ∧ SegI w' g (A ++ (Gs.mg k X Y ++ Z)) ∧ Gb g w w'
  | 0, _, X, Y, _, _, _, _, hT, _, _, _, _, _, _, _, _, _, _, _, _, _ => by omega
  | T + 1, A, X, Y, Z, a, m, b, hT, hSX, hSY, hX, hY, ha, hm, hb, hN, hX0, hY0, w, hbl, h => by
    by_cases h1 : X.length = 1
    · obtain ⟨x, rfl⟩ := List.length_eq_one_iff.1 h1
      exact symI_left g c B pb w0 k S hcmp hB hB0 A x Y Z a m b N (hSX x (by simp)) hSY hY ha hm hb hN hN2 w hbl h
    · by_cases h2 : Y.length = 1
      · obtain ⟨y, rfl⟩ := List.length_eq_one_iff.1 h2
        exact symI_right g c B pb w0 k S hcmp hB hB0 A y X Z a m b N (hSY y (by simp)) hSX hX ha hm (by omega) hb hN hN2 w hbl h
      · have IH := symI_any g c B pb N w0 k S hcmp hB hB0 hN2 T
        by_cases h3 : (a + b) / 2 < m
        · exact symI_hi g c B pb w0 k S hcmp hB hB0 A X Y Z a m b N ((a + b) / 2) hSX hSY hX hY ha hm (by omega) (by omega) hb hN hN2 (by omega) (by omega) h3 _ rfl (fun A' X' Y' Z' a' m' b' h' => IH A' X' Y' Z' a' m' b' (by omega)) w hbl h
        · exact symI_lo g c B pb w0 k S hcmp hB hB0 A X Y Z a m b N ((a + b) / 2) hSX hSY hX hY ha hm (by omega) (by omega) hb hN hN2 (by omega) (by omega) (by omega) _ rfl (fun A' X' Y' Z' a' m' b' h' => IH A' X' Y' Z' a' m' b' (by omega)) w hbl h
set_option maxRecDepth 100000 in
theorem results83 (T : Array Value) (w : World) : (results Try.f83 T).run Try.prog w = .ok (.tuple #[]) w := by
  unfold results
  simp [go_sem]
set_option maxRecDepth 100000 in
theorem results73 (T : Array Value) (w : World) : (results Try.f73 T).run Try.prog w = .ok (.tuple #[]) w := by
  unfold results
  simp [go_sem]
set_option maxRecDepth 100000 in
theorem blk_step (k : Int → Int) (f : Nat) (l : List Int) (h : 20 ≤ l.length) : Gs.blk k (f + 1) l = Gs.isr k (l.take 20) ++ Gs.blk k f (l.drop 20) := by
  show (if 20 ≤ l.length then _ else _) = _; rw [if_pos h]
set_option maxRecDepth 100000 in
theorem blk_last (k : Int → Int) (f : Nat) (l : List Int) (h : l.length < 20) : Gs.blk k f l = Gs.isr k l := by
  cases f with
  | zero => rfl
  | succ f => show (if 20 ≤ l.length then _ else _) = _; rw [if_neg (by omega)]
set_option maxRecDepth 100000 in
theorem pass_step (k : Int → Int) (b f : Nat) (l : List Int) (h : 2 * b ≤ l.length) : Gs.pass k b (f + 1) l = Gs.mg k (l.take b) ((l.drop b).take b) ++ Gs.pass k b f (l.drop (2 * b)) := by
  show (if 2 * b ≤ l.length then _ else _) = _; rw [if_pos h]
set_option maxRecDepth 100000 in
theorem pass_last (k : Int → Int) (b f : Nat) (l : List Int) (h : ¬ 2 * b ≤ l.length) (hf : l.length ≤ f) : Gs.pass k b f l = if b < l.length then Gs.mg k (l.take b) (l.drop b) else l := by
  cases f with
  | zero =>
    have : l = [] := List.eq_nil_of_length_eq_zero (by omega)
    subst this; simp [Gs.pass]
  | succ f => show (if 2 * b ≤ l.length then _ else _) = _; rw [if_neg h]
set_option maxRecDepth 100000 in
theorem passes_on (k : Int → Int) (f b : Nat) (l : List Int) (h : b < l.length) (hf : l.length ≤ f + b) : ∃ f', f = f' + 1 ∧ Gs.passes k f b l = Gs.passes k f' (2 * b) (Gs.pass k b l.length l) := by
  cases f with
  | zero => omega
  | succ f => exact ⟨f, rfl, by show (if b < l.length then _ else _) = _; rw [if_pos h]⟩
set_option maxRecDepth 100000 in
theorem passes_off (k : Int → Int) (f b : Nat) (l : List Int) (h : ¬ b < l.length) : Gs.passes k f b l = l := by
  cases f with
  | zero => rfl
  | succ f => show (if b < l.length then _ else _) = _; rw [if_neg h]
set_option maxRecDepth 100000 in
set_option maxHeartbeats 8000000 in
theorem stabI_any (g c B pb N : Nat) (w0 : World) (k : Int → Int) (S : Int → Prop) (hcmp : CmpI B w0 pb k S) (hB : B ≤ g) (hB0 : B ≤ w0.heap.size) (D : List Int) (hDN : D.length = N) (hN2 : N ≤ 4096) (hS : ∀ x ∈ D, S x) (w : World) (hbl : Below B w0 w) (h : SegI w g D) :
    Calls Try.prog 83 #[.slice (some ⟨g, 0, none⟩) N c, .int .i64 (N : Int), cfI pb] w fun e w' => e = .returned (.tuple #[]) ∧ SegI w' g (Gs.srt k D) ∧ Gb g w w' := by
  have INS : Box' (∀ (done : List Int) (a b : Nat), done.length = a → a ≤ b → b ≤ N → ∀ W, Gb g w W → SegI W g (done ++ D.drop a) → Calls Try.prog 89 #[.slice (some ⟨g, 0, none⟩) N c, .int .i64 (a : Int), .int .i64 (b : Int), cfI pb] W fun e w' => e = .returned (.tuple #[]) ∧ SegI w' g (done ++ (Gs.isr k ((D.drop a).take (b - a)) ++ D.drop b)) ∧ Gb g W w') := ⟨fun done a b h1 h2 h3 W hg hW =>
    insI_any g c B pb w0 k S hcmp hB hB0 done ((D.drop a).take (b - a)) (D.drop b) a b N (fun x hx => hS x (List.mem_of_mem_drop (List.mem_of_mem_take hx))) h1 (by rw [List.length_take, List.length_drop]; omega) (by rw [List.length_take, List.length_drop, List.length_drop]; omega) hN2 W (hg.on hbl hB hB0) (by
      have e : D.drop a = (D.drop a).take (b - a) ++ D.drop b := by
        rw [show D.drop b = (D.drop a).drop (b - a) by rw [List.drop_drop]; congr 1; omega, List.take_append_drop]
      rw [← e]; exact hW)⟩
  have SYM : Box' (∀ (L done : List Int) (a m b : Nat), L.length = N → (∀ x ∈ L, S x) → done.length = a → a < m → m < b → b ≤ N → Gs.Srt k ((L.drop a).take (m - a)) → Gs.Srt k ((L.drop m).take (b - m)) → ∀ W, Gb g w W → SegI W g (done ++ L.drop a) → Calls Try.prog 90 #[.slice (some ⟨g, 0, none⟩) N c, .int .i64 (a : Int), .int .i64 (m : Int), .int .i64 (b : Int), cfI pb] W fun e w' => e = .returned (.tuple #[]) ∧ SegI w' g (done ++ (Gs.mg k ((L.drop a).take (m - a)) ((L.drop m).take (b - m)) ++ L.drop b)) ∧ Gb g W w') := ⟨fun L done a m b hL hSL h1 h2 h3 h4 q1 q2 W hg hW =>
    symI_any g c B pb N w0 k S hcmp hB hB0 hN2 _ done ((L.drop a).take (m - a)) ((L.drop m).take (b - m)) (L.drop b) a m b (Nat.lt_succ_self _) (fun x hx => hSL x (List.mem_of_mem_drop (List.mem_of_mem_take hx))) (fun x hx => hSL x (List.mem_of_mem_drop (List.mem_of_mem_take hx))) q1 q2 h1 (by rw [List.length_take, List.length_drop]; omega) (by rw [List.length_take, List.length_drop]; omega) (by rw [List.length_drop]; omega) (by rw [List.length_take, List.length_drop]; omega) (by rw [List.length_take, List.length_drop]; omega) W (hg.on hbl hB hB0) (by
      have e : L.drop a = (L.drop a).take (m - a) ++ ((L.drop m).take (b - m) ++ L.drop b) := by
        rw [show L.drop b = (L.drop m).drop (b - m) by rw [List.drop_drop]; congr 1; omega, List.take_append_drop, show L.drop m = (L.drop a).drop (m - a) by rw [List.drop_drop]; congr 1; omega, List.take_append_drop]
      rw [← e]; exact hW)⟩
  have BST : Box' (∀ f rest, 20 ≤ rest.length → Gs.blk k (f + 1) rest = Gs.isr k (rest.take 20) ++ Gs.blk k f (rest.drop 20)) := ⟨blk_step k⟩
  have BLA : Box' (∀ f rest, rest.length < 20 → Gs.blk k f rest = Gs.isr k rest) := ⟨blk_last k⟩
  have BBS : Box' (Gs.BS k 20 (Gs.blk k N D) ∧ (Gs.blk k N D).Perm D) := ⟨Gs.blk_bs k N D (by omega), Gs.blk_perm k N D⟩
  have SRT : Box' (Gs.srt k D = Gs.passes k N 20 (Gs.blk k N D)) := ⟨by unfold Gs.srt; rw [hDN]⟩
  have HS := Box'.mk hS
  have HDN := Box'.mk hDN
  unfold cfI at *
  clear hcmp hS hDN
  go_enter Try.func83, Try.ntmps83
  go_wp2_with fail
  go_loopw [7, 8] (fun u v wr => ∃ (a : Nat) (done : List Int), u = .int .i64 (a : Int) ∧ v = .int .i64 ((a + 20 : Nat) : Int) ∧ a ≤ N ∧ Box' (done.length = a) ∧ SegI wr g (done ++ D.drop a) ∧ Box' (∃ f, (D.drop a).length ≤ f ∧ Gs.blk k N D = done ++ Gs.blk k f (D.drop a)) ∧ Gb g w wr) (fun u _ _ => N - (intOf u).toNat)
  case atStart => exact ⟨0, [], rfl, rfl, by omega, ⟨rfl⟩, by simpa using h, ⟨⟨N, by have := HDN.out; simp; omega, by simp⟩⟩, Gb.refl _ _⟩
  case round =>
    clear h
    obtain ⟨a, done, rfl, rfl, haN, HDL, hs, HF, hg⟩ := hrel
    by_cases hlt : a + 20 ≤ N
    · have hc := INS.out done a (a + 20) HDL.out (by omega) hlt wr hg hs
      rw [show a + 20 - a = 20 by omega] at hc
      have F2 : Box' (∃ f, (D.drop (a + 20)).length ≤ f ∧ Gs.blk k N D = (done ++ Gs.isr k ((D.drop a).take 20)) ++ Gs.blk k f (D.drop (a + 20))) := ⟨by
        obtain ⟨f, hf, e⟩ := HF.out
        have hl : (D.drop a).length = N - a := by rw [List.length_drop, HDN.out]
        cases f with
        | zero => omega
        | succ f =>
          refine ⟨f, by rw [List.length_drop] at *; omega, ?_⟩
          rw [e, BST.out f _ (by omega), List.drop_drop]; simp⟩
      have L2 : Box' ((done ++ Gs.isr k ((D.drop a).take 20)).length = a + 20) := ⟨by rw [List.length_append, Gs.isr_len, List.length_take, List.length_drop, HDL.out, HDN.out]; omega⟩
      clear hs HF INS SYM BST BLA BBS SRT HS HDN HDL
      go_wp2_with fail
      refine hc.mono ?_
      rintro e w2 ⟨rfl, s2, g2⟩
      have g2 := hg.trans g2
      clear hc
      go_wp2_with fail
      exact ⟨⟨a + 20, done ++ Gs.isr k ((D.drop a).take 20), by go_num, by go_num, hlt, L2, by simpa using s2, F2, g2⟩, by simp [intOf]; omega⟩
    · have hc := INS.out done a N HDL.out haN (Nat.le_refl _) wr hg hs
      have EB : Box' (done ++ (Gs.isr k ((D.drop a).take (N - a)) ++ D.drop N) = Gs.blk k N D) := ⟨by
        obtain ⟨f, hf, e⟩ := HF.out
        have hl : (D.drop a).length = N - a := by rw [List.length_drop, HDN.out]
        have e2 : D.drop N = [] := List.drop_of_length_le (by rw [HDN.out]; exact Nat.le_refl _)
        have e3 : (D.drop a).take (N - a) = D.drop a := List.take_of_length_le (by omega)
        rw [e, BLA.out f _ (by omega), e2, e3]; simp⟩
      rw [EB.out] at hc
      clear hs HF INS BST BLA EB HDL
      go_wp2_with fail
      refine hc.mono ?_
      rintro e w2 ⟨rfl, s2, g2⟩
      have g2 := hg.trans g2
      have FN : Box' ((Gs.blk k N D).length = N) := ⟨by rw [BBS.out.2.length_eq, HDN.out]⟩
      have HSE : Box' (∀ x ∈ Gs.blk k N D, S x) := ⟨fun x hx => HS.out x (BBS.out.2.mem_iff.1 hx)⟩
      have BSE : Box' (Gs.BS k 20 (Gs.blk k N D)) := ⟨BBS.out.1⟩
      generalize Gs.blk k N D = E at *
      clear hc BBS HS hg
      go_wp2_with fail
      go_loopw [6] (fun u wr => ∃ (bs f : Nat) (L : List Int), u = .int .i64 (bs : Int) ∧ 20 ≤ bs ∧ bs ≤ 8192 ∧ Box' (L.length = N) ∧ Box' (∀ x ∈ L, S x) ∧ Box' (Gs.BS k bs L) ∧ Box' (Gs.srt k D = Gs.passes k f bs L) ∧ Box' (N ≤ f + bs) ∧ SegI wr g L ∧ Gb g w wr) (fun u _ => 8200 - (intOf u).toNat)
      case atStart => exact ⟨20, N, E, rfl, by omega, by omega, FN, HSE, BSE, SRT, ⟨by omega⟩, s2, g2⟩
      case round =>
        clear s2 g2 FN HSE BSE SRT
        obtain ⟨bs, f, L, rfl, hb1, hb2, FN, HSL, BSL, SRT, FB, hs, hg⟩ := hrel
        by_cases hlt2 : bs < N
        · obtain ⟨f', hf', hpp⟩ := passes_on k f bs L (by rw [FN.out]; exact hlt2) (by have := FB.out; rw [FN.out]; exact this)
          have SR2 : Box' (Gs.srt k D = Gs.passes k f' (2 * bs) (Gs.pass k bs N L)) := ⟨by rw [SRT.out, hpp, FN.out]⟩
          have FB2 : Box' (N ≤ f' + 2 * bs) := ⟨by have := FB.out; omega⟩
          have PP : Box' ((Gs.pass k bs N L).Perm L) := ⟨Gs.pass_perm k bs N L⟩
          have PB : Box' (Gs.BS k (2 * bs) (Gs.pass k bs N L)) := ⟨Gs.pass_bs k bs (by omega) N L (by rw [FN.out]; exact Nat.le_refl _) BSL.out⟩
          have PST : Box' (∀ f rest, 2 * bs ≤ rest.length → Gs.pass k bs (f + 1) rest = Gs.mg k (rest.take bs) ((rest.drop bs).take bs) ++ Gs.pass k bs f (rest.drop (2 * bs))) := ⟨pass_step k bs⟩
          have PLA : Box' (∀ f rest, ¬ 2 * bs ≤ rest.length → rest.length ≤ f → Gs.pass k bs f rest = if bs < rest.length then Gs.mg k (rest.take bs) (rest.drop bs) else rest) := ⟨pass_last k bs⟩
          clear SRT FB hpp hf'
          go_wp2_with fail
          go_loopw [7, 8] (fun u v wr => ∃ (a : Nat) (done : List Int), u = .int .i64 (a : Int) ∧ v = .int .i64 ((a + 2 * bs : Nat) : Int) ∧ a ≤ N ∧ Box' (done.length = a) ∧ SegI wr g (done ++ L.drop a) ∧ Box' (Gs.BS k bs (L.drop a)) ∧ Box' (∃ f, (L.drop a).length ≤ f ∧ Gs.pass k bs N L = done ++ Gs.pass k bs f (L.drop a)) ∧ Gb g w wr) (fun u _ _ => N - (intOf u).toNat)
          case atStart => exact ⟨0, [], rfl, by go_num, by omega, ⟨rfl⟩, by simpa using hs, ⟨by simpa using BSL.out⟩, ⟨⟨N, by have := FN.out; simp; omega, by simp⟩⟩, hg⟩
          case round =>
            clear hs hg
            obtain ⟨a, done, rfl, rfl, haN, HDL, hs, BSA, HF, hg⟩ := hrel
            have hT1 := BSA.out.take_srt
            have hT2 := hT1.2.take_srt
            rw [List.drop_drop] at hT2
            by_cases hlt3 : a + 2 * bs ≤ N
            · have hc := SYM.out L done a (a + bs) (a + 2 * bs) FN.out HSL.out HDL.out (by omega) (by omega) hlt3 (by rw [show a + bs - a = bs by omega]; exact hT1.1) (by rw [show a + 2 * bs - (a + bs) = bs by omega]; exact hT2.1) wr hg hs
              rw [show a + bs - a = bs by omega, show a + 2 * bs - (a + bs) = bs by omega, show ((a + bs : Nat) : Int) = (a : Int) + (bs : Int) by omega] at hc
              have F2 : Box' (∃ f, (L.drop (a + 2 * bs)).length ≤ f ∧ Gs.pass k bs N L = (done ++ Gs.mg k ((L.drop a).take bs) ((L.drop (a + bs)).take bs)) ++ Gs.pass k bs f (L.drop (a + 2 * bs))) := ⟨by
                obtain ⟨f, hf, e⟩ := HF.out
                have hl : (L.drop a).length = N - a := by rw [List.length_drop, FN.out]
                cases f with
                | zero => omega
                | succ f =>
                  refine ⟨f, by rw [List.length_drop] at *; omega, ?_⟩
                  rw [e, PST.out f _ (by omega), List.drop_drop, List.drop_drop]; simp⟩
              have L2 : Box' ((done ++ Gs.mg k ((L.drop a).take bs) ((L.drop (a + bs)).take bs)).length = a + 2 * bs) := ⟨by rw [List.length_append, Gs.mg_len, List.length_take, List.length_take, List.length_drop, List.length_drop, HDL.out, FN.out]; omega⟩
              have B2 : Box' (Gs.BS k bs (L.drop (a + 2 * bs))) := ⟨by
                have := hT2.2
                rw [List.drop_drop] at this
                rw [show a + 2 * bs = a + bs + bs by omega]; exact this⟩
              clear hs HF SYM PST PLA PB PP SR2 FB2 HDL BSA hT1 hT2 FN HSL BSL
              go_wp2_with fail
              refine hc.mono ?_
              rintro e w2 ⟨rfl, s2, g2⟩
              have g2 := hg.trans g2
              clear hc
              go_wp2_with fail
              exact ⟨⟨a + 2 * bs, done ++ Gs.mg k ((L.drop a).take bs) ((L.drop (a + bs)).take bs), by go_num, by go_num, hlt3, L2, by simpa using s2, B2, F2, g2⟩, by simp [intOf]; omega⟩
            · have hl : (L.drop a).length = N - a := by rw [List.length_drop, FN.out]
              have hPE : Gs.pass k bs N L = done ++ if bs < (L.drop a).length then Gs.mg k ((L.drop a).take bs) ((L.drop a).drop bs) else L.drop a := by
                obtain ⟨f, hf, e⟩ := HF.out
                rw [e, PLA.out f _ (by omega) hf]
              rw [hl] at hPE
              have HSP : Box' (∀ x ∈ Gs.pass k bs N L, S x) := ⟨fun x hx => HSL.out x (PP.out.mem_iff.1 hx)⟩
              have PN : Box' ((Gs.pass k bs N L).length = N) := ⟨by rw [PP.out.length_eq, FN.out]⟩
              by_cases hm : a + bs < N
              · have hc := SYM.out L done a (a + bs) N FN.out HSL.out HDL.out (by omega) hm (Nat.le_refl _) (by rw [show a + bs - a = bs by omega]; exact hT1.1) (by
                    have := hT2.1
                    rwa [List.take_of_length_le (by rw [List.length_drop, FN.out]; omega)] at this ⊢
                    all_goals rw [List.length_drop, FN.out]; omega) wr hg hs
                rw [show a + bs - a = bs by omega, show ((a + bs : Nat) : Int) = (a : Int) + (bs : Int) by omega, List.drop_of_length_le (show L.length ≤ N by rw [FN.out]; exact Nat.le_refl _), List.append_nil, List.take_of_length_le (show (L.drop (a + bs)).length ≤ N - (a + bs) by rw [List.length_drop, FN.out]; omega)] at hc
                rw [if_pos (by omega), List.drop_drop] at hPE
                rw [← hPE] at hc
                generalize Gs.pass k bs N L = L2 at *
                clear hs HF SYM PST PLA PP HDL BSA hT1 hT2 FN HSL BSL hPE hl
                go_wp2_with fail
                refine hc.mono ?_
                rintro e w2 ⟨rfl, s2, g2⟩
                have g2 := hg.trans g2
                clear hc
                go_wp2_with fail
                exact ⟨⟨2 * bs, f', L2, by go_num, by omega, by omega, PN, HSP, PB, SR2, FB2, s2, g2⟩, by simp [intOf]; omega⟩
              · rw [if_neg (by omega)] at hPE
                rw [← hPE] at hs
                generalize Gs.pass k bs N L = L2 at *
                clear HF SYM PST PLA PP HDL BSA hT1 hT2 FN HSL BSL hPE hl
                go_wp2_with fail
                exact ⟨⟨2 * bs, f', L2, by go_num, by omega, by omega, PN, HSP, PB, SR2, FB2, hs, hg⟩, by simp [intOf]; omega⟩
        · have e : Gs.srt k D = L := by rw [SRT.out]; exact passes_off k f bs L (by rw [FN.out]; exact hlt2)
          rw [← e] at hs
          clear SRT FB BSL HSL FN SYM HDN
          go_wp2_with fail
          exact ⟨rfl, _, results83 _ _, rfl, hs, hg⟩
set_option maxHeartbeats 1000000 in
theorem sortI_any (g c B pb N : Nat) (w0 : World) (k : Int → Int) (S : Int → Prop) (hcmp : CmpI B w0 pb k S) (hB : B ≤ g) (hB0 : B ≤ w0.heap.size) (D : List Int) (hDN : D.length = N) (hN2 : N ≤ 4096) (hS : ∀ x ∈ D, S x) (w : World) (hbl : Below B w0 w) (h : SegI w g D) :
    Calls Try.prog 73 #[.slice (some ⟨g, 0, none⟩) N c, cfI pb] w fun e w' => e = .returned (.tuple #[]) ∧ SegI w' g (Gs.srt k D) ∧ Gb g w w' := by
  have hc := stabI_any g c B pb N w0 k S hcmp hB hB0 D hDN hN2 hS w hbl h
  unfold cfI at *
  clear hcmp hS hDN h hbl
  go_enter Try.func73, Try.ntmps73
  go_wp2_with fail
  refine hc.mono ?_
  rintro e w2 ⟨rfl, s2, g2⟩
  clear hc
  go_wp2_with fail
  exact ⟨rfl, _, results73 _ _, rfl, s2, g2⟩
set_option maxRecDepth 100000 in
theorem wpList_append_ints {ops : Array Oper} {rest : List Oper} {o : Oper} {a : Act} {w : World} {Q : Exit → Act → World → Prop} (hgd : o.guard = none) (s x : Operand)
    (ho : o.op = .call { callee := .builtin .append, args := #[s, x], argTypes := #[63, 63] }) (N : Nat) (hN : N ≤ w.heap.size)
    (v : Value) (d : List Int) (hs : a.eval s = v) (hown : OwnI N w v d) (ad : Addr) (m c : Nat) (l : List Int) (hx : a.eval x = .slice (some ad) m c) (hm : l.length = m)
    (hc : ∀ j u, (l.map (Value.int .i64))[j]? = some u → w.cell? (ad.add j) = some u) (hmax : d.length + l.length ≤ 1000000)
    (h : ∀ v' w', OwnI N w' v' (d ++ l) → Below N w w' → wpList Try.prog ops Q rest (a.put o.dst v') w') : wpList Try.prog ops Q (o :: rest) a w := by
  obtain ⟨i, h1, h2, h3, h4⟩ := Try.info3'
  obtain ⟨v', w', hr, g2, g3, _⟩ := run_append_own (P := Try.prog) w N 63 o.type 3 i _ 1 8 Try.underlying63 h1 h2 h3 h4 rfl (by decide) v d.length _ hown ad m c (l.map (Value.int .i64)) (by rw [List.length_map, hm, Nat.mul_one]) hc (one_Ii l) (by unfold maxLen; omega) (by omega) hN
  have g2' : OwnI N w' v' (d ++ l) := by unfold OwnI; rw [List.length_append, List.map_append, hm]; exact g2
  have hbl : Below N w w' := ⟨g3.os, g3.tape, g3.output, g3.size, fun k hk => g3.block k (by omega) (fun e => by have := (hown.lt k e.symm).1; omega)⟩
  refine wpList_plain hgd fun K hK => ?_
  unfold Oper.wp execOp
  simp only [ho, resolve, invoke, builtin, Sem.run_bind, Sem.run_pure, Result.andThen_ok, List.map_toArray, List.map_cons, List.map_nil, hs, hx, hr]
  exact hK _ _ (h v' w' g2' hbl)
def cmg (cs : List Int) (k : Nat) : List Int := ((List.range k).filter fun i => decide (0 < cs.getD i 0)).map fun (i : Nat) => (i : Int)
set_option maxRecDepth 100000 in
theorem cmg_on (cs : List Int) (k : Nat) (h : 0 < cs.getD k 0) : cmg cs (k + 1) = cmg cs k ++ [(k : Int)] := by
  unfold cmg
  rw [List.range_succ, List.filter_append, List.map_append, List.filter_cons_of_pos (by simp only [decide_eq_true_eq]; exact h)]; rfl
set_option maxRecDepth 100000 in
theorem cmg_off (cs : List Int) (k : Nat) (h : cs.getD k 0 ≤ 0) : cmg cs (k + 1) = cmg cs k := by
  unfold cmg
  rw [List.range_succ, List.filter_append, List.map_append, List.filter_cons_of_neg (by simp only [decide_eq_true_eq]; omega)]
  simp
set_option maxRecDepth 100000 in
theorem cmg_len (cs : List Int) (k : Nat) : (cmg cs k).length ≤ k := by
  unfold cmg
  rw [List.length_map]
  exact Nat.le_trans (List.length_filter_le _ _) (by simp)
set_option maxRecDepth 100000 in
theorem cmg_mem {cs : List Int} {k : Nat} {x : Int} (h : x ∈ cmg cs k) : ∃ i : Nat, x = (i : Int) ∧ i < k ∧ 0 < cs.getD i 0 := by
  unfold cmg at h
  obtain ⟨i, hi, rfl⟩ := List.mem_map.1 h
  rw [List.mem_filter] at hi
  exact ⟨i, rfl, List.mem_range.1 hi.1, of_decide_eq_true hi.2⟩
def keyC (cs : List Int) (x : Int) : Int := cs.getD x.toNat 0
def rising (cs : List Int) : List Int := Gs.srt (keyC cs) (cmg cs cs.length)
set_option maxRecDepth 100000 in
theorem insI_nil (cf : Value) (w : World) : Calls Try.prog 89 #[.slice none 0 0, .int .i64 0, .int .i64 0, cf] w fun e w' => e = .returned (.tuple #[]) ∧ w' = w := by
  go_enter Try.func89, Try.ntmps89
  go_wp2_with fail
  refine wp_loop_rounds 1 ?_
  rw [rounds_succ]
  go_wp2_with fail
  exact ⟨rfl, _, results89 _ _, rfl, rfl⟩
set_option maxRecDepth 100000 in
theorem stabI_nil (cf : Value) (w : World) : Calls Try.prog 83 #[.slice none 0 0, .int .i64 0, cf] w fun e w' => e = .returned (.tuple #[]) ∧ w' = w := by
  have hi := fun w => insI_nil cf w
  go_enter Try.func83, Try.ntmps83
  go_wp2_with fail
  refine wp_loop_rounds 1 ?_
  rw [rounds_succ]
  go_wp2_with (go_at_call 89; refine (hi _).mono ?_; rintro e w' ⟨rfl, hw'⟩; rw [hw'])
  refine wp_loop_rounds 1 ?_
  rw [rounds_succ]
  go_wp2_with fail
  exact ⟨rfl, _, results83 _ _, rfl, rfl⟩
set_option maxRecDepth 100000 in
theorem sortI_nil (cf : Value) (w : World) : Calls Try.prog 73 #[.slice none 0 0, cf] w fun e w' => e = .returned (.tuple #[]) ∧ w' = w := by
  have hi := fun w => stabI_nil cf w
  go_enter Try.func73, Try.ntmps73
  go_wp2_with (go_at_call 83; refine (hi _).mono ?_; rintro e w' ⟨rfl, hw'⟩; rw [hw'])
  exact ⟨rfl, _, results73 _ _, rfl, rfl⟩
set_option maxRecDepth 100000 in
theorem rising_len (cs : List Int) : (rising cs).length = (cmg cs cs.length).length := (Gs.srt_perm _ _).length_eq
set_option maxRecDepth 100000 in
set_option maxHeartbeats 4000000 in
theorem coming_any (v : Value) (cs : List Int) (h512 : cs.length ≤ 512) (w : World) (h : Ints w.heap.size w v cs) :
    Calls Try.prog 59 #[v] w fun e w' => ∃ u, e = .returned u ∧ ((rising cs = [] ∧ u = .slice none 0 0) ∨ (rising cs ≠ [] ∧ ∃ g c, u = .slice (some ⟨g, 0, none⟩) (rising cs).length c ∧ (rising cs).length ≤ c ∧ w.heap.size ≤ g ∧ SegI w' g (rising cs))) ∧ Below w.heap.size w w' := by
  obtain ⟨a, c, rfl, hc, h3⟩ := h
  have HCL := Box'.mk (Ints.cells h3)
  have CO := Box'.mk (cmg_on cs)
  have CF := Box'.mk (cmg_off cs)
  have CL := Box'.mk (cmg_len cs)
  have CM : Box' (∀ x, x ∈ cmg cs cs.length → ∃ i : Nat, x = (i : Int) ∧ i < cs.length ∧ 0 < cs.getD i 0) := ⟨fun x hx => cmg_mem hx⟩
  have RL := Box'.mk (rising_len cs)
  have RE : Box' (rising cs = Gs.srt (keyC cs) (cmg cs cs.length)) := ⟨rfl⟩
  have KC : Box' (∀ i : Nat, keyC cs (i : Int) = cs.getD i 0) := ⟨fun i => by unfold keyC; rw [Int.toNat_natCast]⟩
  generalize hn : cs.length = n at *
  have HN := Box'.mk hn
  clear h3 hn
  go_enter Try.func59, Try.ntmps59
  go_wp2_with fail
  go_loopw [3, 8] (fun t i wr => ∃ k : Nat, k ≤ n ∧ i = .int .i64 (k : Int) ∧ OwnI (w.heap.size + 1) wr t (cmg cs k) ∧ Box' (cmg cs k = [] → t = .slice none 0 0) ∧ Below (w.heap.size + 1) (w.alloc (.cells #[.slice a n c] 63)) wr) (fun _ i _ => n - (intOf i).toNat)
  case atStart => exact ⟨0, by omega, rfl, OwnI.nil _ _, ⟨fun _ => rfl⟩, Below.refl _ _⟩
  case round =>
    obtain ⟨k, hk, rfl, hown, HE, hbl⟩ := hrel
    have hz := hbl.size
    simp at hz
    by_cases hlt : k < n
    · obtain ⟨b, o, rfl, hbw, c0⟩ := HCL.out k hlt
      have c1 : wr.cell? ⟨b, o + k, none⟩ = some (.int .i64 (cs.getD k 0)) := by
        rw [hbl.cell (p := ⟨b, o + k, none⟩) (by show b < _; omega), World.cell?_of_block (Below.heap_alloc _ _ _ hbw)]; exact c0
      have hCL := CL.out k
      by_cases hpos : 0 < cs.getD k 0
      · have COk := Box'.mk (CO.out k hpos)
        have w2o := hown.alloc (.cells #[.int .i64 (k : Int)] 3)
        have w2r : Row (wr.alloc (.cells #[.int .i64 (k : Int)] 3)) wr.heap.size 3 #[.int .i64 (k : Int)] := Row.new _ _ _
        have w2b := hbl.alloc (o := .cells #[.int .i64 (k : Int)] 3) (by omega)
        have hcell : ∀ j u, ([(k : Int)].map (Value.int .i64))[j]? = some u → (wr.alloc (.cells #[.int .i64 (k : Int)] 3)).cell? ((⟨wr.heap.size, 0, none⟩ : Addr).add j) = some u := by
          intro j u hu
          rw [Addr.add_mid, Nat.zero_add, w2r.cell]
          simpa using hu
        have hN2 : w.heap.size + 1 ≤ (wr.alloc (.cells #[.int .i64 (k : Int)] 3)).heap.size := by simp; omega
        have hmx : (cmg cs k).length + [(k : Int)].length ≤ 1000000 := by simp; omega
        generalize cs.getD k 0 = x at *
        clear HCL CO CF CL CM RL RE KC c0 hown w2r
        go_wp2_with (refine wpList_append_ints rfl (.tmp 15) (.tmp 17) rfl (w.heap.size + 1) hN2 _ (cmg cs k) rfl w2o _ _ _ [(k : Int)] rfl rfl hcell hmx ?_; intro v' w3 o3 b3)
        exact ⟨⟨k + 1, by omega, by go_num, by rw [COk.out]; exact o3, ⟨fun e => by rw [COk.out] at e; simp at e⟩, w2b.trans b3⟩, by simp [intOf]; omega⟩
      · have hpos' : cs.getD k 0 ≤ 0 := by omega
        have CFk := Box'.mk (CF.out k hpos')
        generalize cs.getD k 0 = x at *
        clear HCL CO CF CL CM RL RE KC c0
        go_wp2_with fail
        exact ⟨⟨k + 1, by omega, by go_num, by rw [CFk.out]; exact hown, ⟨fun e => HE.out (by rw [← CFk.out]; exact e)⟩, hbl⟩, by simp [intOf]; omega⟩
    · obtain rfl : k = n := by omega
      by_cases hem : cmg cs k = []
      · obtain rfl := HE.out hem
        have hri : rising cs = [] := List.eq_nil_of_length_eq_zero (by rw [RL.out, hem]; rfl)
        have hso := fun W => sortI_nil (cfI w.heap.size) W
        unfold cfI at hso
        have bl2 : Below w.heap.size w wr := ((Below.refl _ _).alloc (Nat.le_refl _) _).trans (hbl.mono (by omega))
        have HRI := Box'.mk hri
        clear HCL CO CF CL CM RL RE KC hem HE hown hri
        go_wp2_with (go_at_call 73; refine (hso _).mono ?_; rintro e w' ⟨rfl, hw'⟩; rw [hw'])
        go_ret
        exact ⟨_, rfl, .inl ⟨HRI.out, rfl⟩, bl2⟩
      · obtain ⟨g, cap, rfl, hg, hcap, hseg⟩ := hown.seg (List.length_pos_iff.2 hem)
        have hcmp : CmpI (w.heap.size + 1) (w.alloc (.cells #[.slice a k c] 63)) w.heap.size (keyC cs) (fun x => ∃ i : Nat, x = (i : Int) ∧ i < k ∧ 0 < cs.getD i 0) := by
          rintro W hW x y ⟨i, rfl, hi, _⟩ ⟨j, rfl, hj, _⟩
          obtain ⟨b, o, rfl, hbw, c0⟩ := HCL.out i hi
          obtain ⟨b', o', e', hbw', c1⟩ := HCL.out j hj
          simp only [Option.some.injEq, Addr.mk.injEq, and_true] at e'
          obtain ⟨rfl, rfl⟩ := e'
          rw [KC.out, KC.out]
          refine coming1_any w.heap.size b o k c cs i j HN.out hi hj W ?_ ?_ ?_
          · rw [hW.cell (p := ⟨w.heap.size, 0, none⟩) (by show w.heap.size < _; omega)]
            have r := Row.new w 63 #[.slice (some ⟨b, o, none⟩) k c]
            rw [r.cell]; rfl
          · rw [hW.cell (p := ⟨b, o + i, none⟩) (by show b < _; omega), World.cell?_of_block (Below.heap_alloc _ _ _ hbw)]; exact c0
          · rw [hW.cell (p := ⟨b, o + j, none⟩) (by show b < _; omega), World.cell?_of_block (Below.heap_alloc _ _ _ hbw)]; exact c1
        have hso := sortI_any g cap (w.heap.size + 1) w.heap.size (cmg cs k).length (w.alloc (.cells #[.slice a k c] 63)) (keyC cs) _ hcmp hg (by simp) (cmg cs k) rfl (by have := CL.out k; omega) (fun x hx => CM.out x hx) wr hbl hseg
        rw [← RE.out] at hso
        unfold cfI at hso
        have RLB : Box' ((rising cs).length = (cmg cs k).length) := ⟨RL.out⟩
        have hCL := CL.out k
        have bl2 : ∀ W, Gb g wr W → Below w.heap.size w W := fun W hW => ((Below.refl _ _).alloc (Nat.le_refl _) _).trans ((hW.on hbl hg (by simp)).mono (by omega))
        have BL2 := Box'.mk bl2
        have hcap' : (cmg cs k).length ≤ cap := hcap
        have HNE : Box' (cmg cs k ≠ []) := ⟨hem⟩
        generalize hm : (cmg cs k).length = m at *
        clear HCL CO CF CL CM RL RE KC hem HE hown hcmp hseg bl2
        go_wp2_with fail
        refine hso.mono ?_
        rintro e w3 ⟨rfl, s3, g3⟩
        have b3 := BL2.out _ g3
        clear hso g3
        go_wp2_with fail
        go_ret
        refine ⟨_, rfl, .inr ⟨fun e => ?_, g, cap, ?_, ?_, by omega, s3⟩, b3⟩
        · have := RLB.out; rw [e] at this; exact HNE.out (List.eq_nil_of_length_eq_zero (by rw [hm, ← this]; rfl))
        · rw [RLB.out]; rfl
        · rw [RLB.out]; exact hcap'
end Go.Proofs.Ytcjfaahlchbcmaa
