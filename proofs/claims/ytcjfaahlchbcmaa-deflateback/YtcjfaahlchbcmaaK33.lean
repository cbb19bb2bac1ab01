/- The walk of symMerge, for coins, whole; the walks of stable and SortStableFunc, for coins. -/
import Derived.Test.YtcjfaahlchbcmaaK32
import Derived.Test.YtcjfaahlchbcmaaK05
import Derived.Test.YtcjfaahlchbcmaaK01
import Derived.Test.YtcjfaahlchbcmaaK09
import Derived.Test.YtcjfaahlchbcmaaK06
namespace Go.Proofs.Ytcjfaahlchbcmaa
open Go.RowKit Go.BigFrame
set_option maxRecDepth 100000 in
theorem symC_any (g c B pb N : Nat) (w0 : World) (k : Cn → Int) (S : Cn → Prop) (hcmp : CmpC B w0 pb k S) (hB : B ≤ g) (hB0 : B ≤ w0.heap.size) (hN2 : N ≤ 4096) :
    ∀ (T : Nat) (A X Y Z : List Cn) (a m b : Nat), X.length + Y.length < T → (∀ x ∈ X, S x) → (∀ y ∈ Y, S y) → Gs.Srt k X → Gs.Srt k Y → A.length = a → a + X.length = m → m + Y.length = b → N = b + Z.length → 0 < X.length → 0 < Y.length → ∀ w, Below B w0 w → SegC w g (A ++ (X ++ (Y ++ Z))) →
      Calls Try.prog 94 #[.slice (some ⟨g, 0, none⟩) N c, .int .i64 (a : Int), .int .i64 (m : Int), .int .i64 (b : Int), cfCv pb] w fun e w' => e = .returned (.tuple #[]) ∧ SegC w' g (A ++ (Gs.mg k X Y ++ Z)) ∧ Gb g w w'
  | 0, _, X, Y, _, _, _, _, hT, _, _, _, _, _, _, _, _, _, _, _, _, _ => by omega
  | T + 1, A, X, Y, Z, a, m, b, hT, hSX, hSY, hX, hY, ha, hm, hb, hN, hX0, hY0, w, hbl, h => by
    by_cases h1 : X.length = 1
    · obtain ⟨x, rfl⟩ := List.length_eq_one_iff.1 h1
      exact symC_left g c B pb w0 k S hcmp hB hB0 A x Y Z a m b N (hSX x (by simp)) hSY hY ha hm hb hN hN2 w hbl h
    · by_cases h2 : Y.length = 1
      · obtain ⟨y, rfl⟩ := List.length_eq_one_iff.1 h2
        exact symC_right g c B pb w0 k S hcmp hB hB0 A y X Z a m b N (hSY y (by simp)) hSX hX ha hm (by omega) hb hN hN2 w hbl h
      · have IH := symC_any g c B pb N w0 k S hcmp hB hB0 hN2 T
        by_cases h3 : (a + b) / 2 < m
        · exact symC_hi g c B pb w0 k S hcmp hB hB0 A X Y Z a m b N ((a + b) / 2) hSX hSY hX hY ha hm (by omega) (by omega) hb hN hN2 (by omega) (by omega) h3 _ rfl (fun A' X' Y' Z' a' m' b' h' => IH A' X' Y' Z' a' m' b' (by omega)) w hbl h
        · exact symC_lo g c B pb w0 k S hcmp hB hB0 A X Y Z a m b N ((a + b) / 2) hSX hSY hX hY ha hm (by omega) (by omega) hb hN hN2 (by omega) (by omega) (by omega) _ rfl (fun A' X' Y' Z' a' m' b' h' => IH A' X' Y' Z' a' m' b' (by omega)) w hbl h
set_option maxRecDepth 100000 in
theorem results91 (T : Array Value) (w : World) : (results Try.f91 T).run Try.prog w = .ok (.tuple #[]) w := by
  unfold results
  simp [go_sem]
set_option maxRecDepth 100000 in
theorem results85 (T : Array Value) (w : World) : (results Try.f85 T).run Try.prog w = .ok (.tuple #[]) w := by
  unfold results
  simp [go_sem]
set_option maxRecDepth 100000 in
theorem blk_stepC (k : Cn → Int) (f : Nat) (l : List Cn) (h : 20 ≤ l.length) : Gs.blk k (f + 1) l = Gs.isr k (l.take 20) ++ Gs.blk k f (l.drop 20) := by
  show (if 20 ≤ l.length then _ else _) = _; rw [if_pos h]
set_option maxRecDepth 100000 in
theorem blk_lastC (k : Cn → Int) (f : Nat) (l : List Cn) (h : l.length < 20) : Gs.blk k f l = Gs.isr k l := by
  cases f with
  | zero => rfl
  | succ f => show (if 20 ≤ l.length then _ else _) = _; rw [if_neg (by omega)]
set_option maxRecDepth 100000 in
theorem pass_stepC (k : Cn → Int) (b f : Nat) (l : List Cn) (h : 2 * b ≤ l.length) : Gs.pass k b (f + 1) l = Gs.mg k (l.take b) ((l.drop b).take b) ++ Gs.pass k b f (l.drop (2 * b)) := by
  show (if 2 * b ≤ l.length then _ else _) = _; rw [if_pos h]
set_option maxRecDepth 100000 in
theorem pass_lastC (k : Cn → Int) (b f : Nat) (l : List Cn) (h : ¬ 2 * b ≤ l.length) (hf : l.length ≤ f) : Gs.pass k b f l = if b < l.length then Gs.mg k (l.take b) (l.drop b) else l := by
  cases f with
  | zero =>
    have : l = [] := List.eq_nil_of_length_eq_zero (by omega)
    subst this; simp [Gs.pass]
  | succ f => show (if 2 * b ≤ l.length then _ else _) = _; rw [if_neg h]
set_option maxRecDepth 100000 in
theorem passes_onC (k : Cn → Int) (f b : Nat) (l : List Cn) (h : b < l.length) (hf : l.length ≤ f + b) : ∃ f', f = f' + 1 ∧ Gs.passes k f b l = Gs.passes k f' (2 * b) (Gs.pass k b l.length l) := by
  cases f with
  | zero => omega
  | succ f => exact ⟨f, rfl, by show (if b < l.length then _ else _) = _; rw [if_pos h]⟩
set_option maxRecDepth 100000 in
theorem passes_offC (k : Cn → Int) (f b : Nat) (l : List Cn) (h : ¬ b < l.length) : Gs.passes k f b l = l := by
  cases f with
  | zero => rfl
  | succ f => show (if b < l.length then _ else _) = _; rw [if_neg h]
set_option maxRecDepth 100000 in
set_option maxHeartbeats 8000000 in
theorem stabC_any (g c B pb N : Nat) (w0 : World) (k : Cn → Int) (S : Cn → Prop) (hcmp : CmpC B w0 pb k S) (hB : B ≤ g) (hB0 : B ≤ w0.heap.size) (D : List Cn) (hDN : D.length = N) (hN2 : N ≤ 4096) (hS : ∀ x ∈ D, S x) (w : World) (hbl : Below B w0 w) (h : SegC w g D) :
    Calls Try.prog 91 #[.slice (some ⟨g, 0, none⟩) N c, .int .i64 (N : Int), cfCv pb] w fun e w' => e = .returned (.tuple #[]) ∧ SegC w' g (Gs.srt k D) ∧ Gb g w w' := by
  have INS : Box' (∀ (done : List Cn) (a b : Nat), done.length = a → a ≤ b → b ≤ N → ∀ W, Gb g w W → SegC W g (done ++ D.drop a) → Calls Try.prog 93 #[.slice (some ⟨g, 0, none⟩) N c, .int .i64 (a : Int), .int .i64 (b : Int), cfCv pb] W fun e w' => e = .returned (.tuple #[]) ∧ SegC w' g (done ++ (Gs.isr k ((D.drop a).take (b - a)) ++ D.drop b)) ∧ Gb g W w') := ⟨fun done a b h1 h2 h3 W hg hW =>
    insC_any g c B pb w0 k S hcmp hB hB0 done ((D.drop a).take (b - a)) (D.drop b) a b N (fun x hx => hS x (List.mem_of_mem_drop (List.mem_of_mem_take hx))) h1 (by rw [List.length_take, List.length_drop]; omega) (by rw [List.length_take, List.length_drop, List.length_drop]; omega) hN2 W (hg.on hbl hB hB0) (by
      have e : D.drop a = (D.drop a).take (b - a) ++ D.drop b := by
        rw [show D.drop b = (D.drop a).drop (b - a) by rw [List.drop_drop]; congr 1; omega, List.take_append_drop]
      rw [← e]; exact hW)⟩
  have SYM : Box' (∀ (L done : List Cn) (a m b : Nat), L.length = N → (∀ x ∈ L, S x) → done.length = a → a < m → m < b → b ≤ N → Gs.Srt k ((L.drop a).take (m - a)) → Gs.Srt k ((L.drop m).take (b - m)) → ∀ W, Gb g w W → SegC W g (done ++ L.drop a) → Calls Try.prog 94 #[.slice (some ⟨g, 0, none⟩) N c, .int .i64 (a : Int), .int .i64 (m : Int), .int .i64 (b : Int), cfCv pb] W fun e w' => e = .returned (.tuple #[]) ∧ SegC w' g (done ++ (Gs.mg k ((L.drop a).take (m - a)) ((L.drop m).take (b - m)) ++ L.drop b)) ∧ Gb g W w') := ⟨fun L done a m b hL hSL h1 h2 h3 h4 q1 q2 W hg hW =>
    symC_any g c B pb N w0 k S hcmp hB hB0 hN2 _ done ((L.drop a).take (m - a)) ((L.drop m).take (b - m)) (L.drop b) a m b (Nat.lt_succ_self _) (fun x hx => hSL x (List.mem_of_mem_drop (List.mem_of_mem_take hx))) (fun x hx => hSL x (List.mem_of_mem_drop (List.mem_of_mem_take hx))) q1 q2 h1 (by rw [List.length_take, List.length_drop]; omega) (by rw [List.length_take, List.length_drop]; omega) (by rw [List.length_drop]; omega) (by rw [List.length_take, List.length_drop]; omega) (by rw [List.length_take, List.length_drop]; omega) W (hg.on hbl hB hB0) (by
      have e : L.drop a = (L.drop a).take (m - a) ++ ((L.drop m).take (b - m) ++ L.drop b) := by
        rw [show L.drop b = (L.drop m).drop (b - m) by rw [List.drop_drop]; congr 1; omega, List.take_append_drop, show L.drop m = (L.drop a).drop (m - a) by rw [List.drop_drop]; congr 1; omega, List.take_append_drop]
      rw [← e]; exact hW)⟩
  have BST : Box' (∀ f rest, 20 ≤ rest.length → Gs.blk k (f + 1) rest = Gs.isr k (rest.take 20) ++ Gs.blk k f (rest.drop 20)) := ⟨blk_stepC k⟩
  have BLA : Box' (∀ f rest, rest.length < 20 → Gs.blk k f rest = Gs.isr k rest) := ⟨blk_lastC k⟩
  have BBS : Box' (Gs.BS k 20 (Gs.blk k N D) ∧ (Gs.blk k N D).Perm D) := ⟨Gs.blk_bs k N D (by omega), Gs.blk_perm k N D⟩
  have SRT : Box' (Gs.srt k D = Gs.passes k N 20 (Gs.blk k N D)) := ⟨by unfold Gs.srt; rw [hDN]⟩
  have HS := Box'.mk hS
  have HDN := Box'.mk hDN
  unfold cfCv at *
  clear hcmp hS hDN
  go_enter Try.func91, Try.ntmps91
  go_wp2_with fail
  go_loopw [7, 8] (fun u v wr => ∃ (a : Nat) (done : List Cn), u = .int .i64 (a : Int) ∧ v = .int .i64 ((a + 20 : Nat) : Int) ∧ a ≤ N ∧ Box' (done.length = a) ∧ SegC wr g (done ++ D.drop a) ∧ Box' (∃ f, (D.drop a).length ≤ f ∧ Gs.blk k N D = done ++ Gs.blk k f (D.drop a)) ∧ Gb g w wr) (fun u _ _ => N - (intOf u).toNat)
  case atStart => exact ⟨0, [], rfl, rfl, by omega, ⟨rfl⟩, by simpa using h, ⟨⟨N, by have := HDN.out; simp; omega, by simp⟩⟩, Gb.refl _ _⟩
  case round =>
    clear h
    obtain ⟨a, done, rfl, rfl, haN, HDL, hs, HF, hg⟩ := hrel
    by_cases hlt : a + 20 ≤ N
    · have hc := INS.out done a (a + 20) HDL.out (by omega) hlt wr hg hs
      rw [show a + 20 - a = 20 by omega] at hc
      have F2 : Box' (∃ f, (D.drop (a + 20)).length ≤ f ∧ Gs.blk k N D = (done ++ Gs.isr k ((D.drop a).take 20)) ++ Gs.blk k f (D.drop (a + 20))) := ⟨by
        obtain ⟨f, hf, e⟩ := HF.out
        have hl : (D.drop a).length = N - a := by rw [List.length_drop, HDN.out]
        cases f with
        | zero => omega
        | succ f =>
          refine ⟨f, by rw [List.length_drop] at *; omega, ?_⟩
          rw [e, BST.out f _ (by omega), List.drop_drop]; simp⟩
      have L2 : Box' ((done ++ Gs.isr k ((D.drop a).take 20)).length = a + 20) := ⟨by rw [List.length_append, Gs.isr_len, List.length_take, List.length_drop, HDL.out, HDN.out]; omega⟩
      clear hs HF INS SYM BST BLA BBS SRT HS HDN HDL
      go_wp2_with fail
      refine hc.mono ?_
      rintro e w2 ⟨rfl, s2, g2⟩
      have g2 := hg.trans g2
      clear hc
      go_wp2_with fail
      exact ⟨⟨a + 20, done ++ Gs.isr k ((D.drop a).take 20), by go_num, by go_num, hlt, L2, by simpa using s2, F2, g2⟩, by simp [intOf]; omega⟩
    · have hc := INS.out done a N HDL.out haN (Nat.le_refl _) wr hg hs
      have EB : Box' (done ++ (Gs.isr k ((D.drop a).take (N - a)) ++ D.drop N) = Gs.blk k N D) := ⟨by
        obtain ⟨f, hf, e⟩ := HF.out
        have hl : (D.drop a).length = N - a := by rw [List.length_drop, HDN.out]
        have e2 : D.drop N = [] := List.drop_of_length_le (by rw [HDN.out]; exact Nat.le_refl _)
        have e3 : (D.drop a).take (N - a) = D.drop a := List.take_of_length_le (by omega)
        rw [e, BLA.out f _ (by omega), e2, e3]; simp⟩
      rw [EB.out] at hc
      clear hs HF INS BST BLA EB HDL
      go_wp2_with fail
      refine hc.mono ?_
      rintro e w2 ⟨rfl, s2, g2⟩
      have g2 := hg.trans g2
      have FN : Box' ((Gs.blk k N D).length = N) := ⟨by rw [BBS.out.2.length_eq, HDN.out]⟩
      have HSE : Box' (∀ x ∈ Gs.blk k N D, S x) := ⟨fun x hx => HS.out x (BBS.out.2.mem_iff.1 hx)⟩
      have BSE : Box' (Gs.BS k 20 (Gs.blk k N D)) := ⟨BBS.out.1⟩
      generalize Gs.blk k N D = E at *
      clear hc BBS HS hg
      go_wp2_with fail
      go_loopw [6] (fun u wr => ∃ (bs f : Nat) (L : List Cn), u = .int .i64 (bs : Int) ∧ 20 ≤ bs ∧ bs ≤ 8192 ∧ Box' (L.length = N) ∧ Box' (∀ x ∈ L, S x) ∧ Box' (Gs.BS k bs L) ∧ Box' (Gs.srt k D = Gs.passes k f bs L) ∧ Box' (N ≤ f + bs) ∧ SegC wr g L ∧ Gb g w wr) (fun u _ => 8200 - (intOf u).toNat)
      case atStart => exact ⟨20, N, E, rfl, by omega, by omega, FN, HSE, BSE, SRT, ⟨by omega⟩, s2, g2⟩
      case round =>
        clear s2 g2 FN HSE BSE SRT
        obtain ⟨bs, f, L, rfl, hb1, hb2, FN, HSL, BSL, SRT, FB, hs, hg⟩ := hrel
        by_cases hlt2 : bs < N
        · obtain ⟨f', hf', hpp⟩ := passes_onC k f bs L (by rw [FN.out]; exact hlt2) (by have := FB.out; rw [FN.out]; exact this)
          have SR2 : Box' (Gs.srt k D = Gs.passes k f' (2 * bs) (Gs.pass k bs N L)) := ⟨by rw [SRT.out, hpp, FN.out]⟩
          have FB2 : Box' (N ≤ f' + 2 * bs) := ⟨by have := FB.out; omega⟩
          have PP : Box' ((Gs.pass k bs N L).Perm L) := ⟨Gs.pass_perm k bs N L⟩
          have PB : Box' (Gs.BS k (2 * bs) (Gs.pass k bs N L)) := ⟨Gs.pass_bs k bs (by omega) N L (by rw [FN.out]; exact Nat.le_refl _) BSL.out⟩
          have PST : Box' (∀ f rest, 2 * bs ≤ rest.length → Gs.pass k bs (f + 1) rest = Gs.mg k (rest.take bs) ((rest.drop bs).take bs) ++ Gs.pass k bs f (rest.drop (2 * bs))) := ⟨pass_stepC k bs⟩
          have PLA : Box' (∀ f rest, ¬ 2 * bs ≤ rest.length → rest.length ≤ f → Gs.pass k bs f rest = if bs < rest.length then Gs.mg k (rest.take bs) (rest.drop bs) else rest) := ⟨pass_lastC k bs⟩
          clear SRT FB hpp hf'
          go_wp2_with fail
          go_loopw [7, 8] (fun u v wr => ∃ (a : Nat) (done : List Cn), u = .int .i64 (a : Int) ∧ v = .int .i64 ((a + 2 * bs : Nat) : Int) ∧ a ≤ N ∧ Box' (done.length = a) ∧ SegC wr g (done ++ L.drop a) ∧ Box' (Gs.BS k bs (L.drop a)) ∧ Box' (∃ f, (L.drop a).length ≤ f ∧ Gs.pass k bs N L = done ++ Gs.pass k bs f (L.drop a)) ∧ Gb g w wr) (fun u _ _ => N - (intOf u).toNat)
          case atStart => exact ⟨0, [], rfl, by go_num, by omega, ⟨rfl⟩, by simpa using hs, ⟨by simpa using BSL.out⟩, ⟨⟨N, by have := FN.out; simp; omega, by simp⟩⟩, hg⟩
          case round =>
            clear hs hg
            obtain ⟨a, done, rfl, rfl, haN, HDL, hs, BSA, HF, hg⟩ := hrel
            have hT1 := BSA.out.take_srt
            have hT2 := hT1.2.take_srt
            rw [List.drop_drop] at hT2
            by_cases hlt3 : a + 2 * bs ≤ N
            · have hc := SYM.out L done a (a + bs) (a + 2 * bs) FN.out HSL.out HDL.out (by omega) (by omega) hlt3 (by rw [show a + bs - a = bs by omega]; exact hT1.1) (by rw [show a + 2 * bs - (a + bs) = bs by omega]; exact hT2.1) wr hg hs
              rw [show a + bs - a = bs by omega, show a + 2 * bs - (a + bs) = bs by omega, show ((a + bs : Nat) : Int) = (a : Int) + (bs : Int) by omega] at hc
              have F2 : Box' (∃ f, (L.drop (a + 2 * bs)).length ≤ f ∧ Gs.pass k bs N L = (done ++ Gs.mg k ((L.drop a).take bs) ((L.drop (a + bs)).take bs)) ++ Gs.pass k bs f (L.drop (a + 2 * bs))) := ⟨by
                obtain ⟨f, hf, e⟩ := HF.out
                have hl : (L.drop a).length = N - a := by rw [List.length_drop, FN.out]
                cases f with
                | zero => omega
                | succ f =>
                  refine ⟨f, by rw [List.length_drop] at *; omega, ?_⟩
                  rw [e, PST.out f _ (by omega), List.drop_drop, List.drop_drop]; simp⟩
              have L2 : Box' ((done ++ Gs.mg k ((L.drop a).take bs) ((L.drop (a + bs)).take bs)).length = a + 2 * bs) := ⟨by rw [List.length_append, Gs.mg_len, List.length_take, List.length_take, List.length_drop, List.length_drop, HDL.out, FN.out]; omega⟩
              have B2 : Box' (Gs.BS k bs (L.drop (a + 2 * bs))) := ⟨by
                have := hT2.2
                rw [List.drop_drop] at this
                rw [show a + 2 * bs = a + bs + bs by omega]; exact this⟩
              clear hs HF SYM PST PLA PB PP SR2 FB2 HDL BSA hT1 hT2 FN HSL BSL
              go_wp2_with fail
              refine hc.mono ?_
              rintro e w2 ⟨rfl, s2, g2⟩
              have g2 := hg.trans g2
              clear hc
              go_wp2_with fail
              exact ⟨⟨a + 2 * bs, done ++ Gs.mg k ((L.drop a).take bs) ((L.drop (a + bs)).take bs), by go_num, by go_num, hlt3, L2, by simpa using s2, B2, F2, g2⟩, by simp [intOf]; omega⟩
            · have hl : (L.drop a).length = N - a := by rw [List.length_drop, FN.out]
              have hPE : Gs.pass k bs N L = done ++ if bs < (L.drop a).length then Gs.mg k ((L.drop a).take bs) ((L.drop a).drop bs) else L.drop a := by
                obtain ⟨f, hf, e⟩ := HF.out
                rw [e, PLA.out f _ (by omega) hf]
              rw [hl] at hPE
              have HSP : Box' (∀ x ∈ Gs.pass k bs N L, S x) := ⟨fun x hx => HSL.out x (PP.out.mem_iff.1 hx)⟩
              have PN : Box' ((Gs.pass k bs N L).length = N) := ⟨by rw [PP.out.length_eq, FN.out]⟩
              by_cases hm : a + bs < N
              · have hc := SYM.out L done a (a + bs) N FN.out HSL.out HDL.out (by omega) hm (Nat.le_refl _) (by rw [show a + bs - a = bs by omega]; exact hT1.1) (by
                    have := hT2.1
                    rwa [List.take_of_length_le (by rw [List.length_drop, FN.out]; omega)] at this ⊢
                    all_goals rw [List.length_drop, FN.out]; omega) wr hg hs
                rw [show a + bs - a = bs by omega, show ((a + bs : Nat) : Int) = (a : Int) + (bs : Int) by omega, List.drop_of_length_le (show L.length ≤ N by rw [FN.out]; exact Nat.le_refl _), List.append_nil, List.take_of_length_le (show (L.drop (a + bs)).length ≤ N - (a + bs) by rw [List.length_drop, FN.out]; omega)] at hc
                rw [if_pos (by omega), List.drop_drop] at hPE
                rw [← hPE] at hc
                generalize Gs.pass k bs N L = L2 at *
                clear hs HF SYM PST PLA PP HDL BSA hT1 hT2 FN HSL BSL hPE hl
                go_wp2_with fail
                refine hc.mono ?_
                rintro e w2 ⟨rfl, s2, g2⟩
                have g2 := hg.trans g2
                clear hc
                go_wp2_with fail
                exact ⟨⟨2 * bs, f', L2, by go_num, by omega, by omega, PN, HSP, PB, SR2, FB2, s2, g2⟩, by simp [intOf]; omega⟩
              · rw [if_neg (by omega)] at hPE
                rw [← hPE] at hs
                generalize Gs.pass k bs N L = L2 at *
                clear HF SYM PST PLA PP HDL BSA hT1 hT2 FN HSL BSL hPE hl
                go_wp2_with fail
                exact ⟨⟨2 * bs, f', L2, by go_num, by omega, by omega, PN, HSP, PB, SR2, FB2, hs, hg⟩, by simp [intOf]; omega⟩
        · have e : Gs.srt k D = L := by rw [SRT.out]; exact passes_offC k f bs L (by rw [FN.out]; exact hlt2)
          rw [← e] at hs
          clear SRT FB BSL HSL FN SYM HDN
          go_wp2_with fail
          exact ⟨rfl, _, results91 _ _, rfl, hs, hg⟩
set_option maxHeartbeats 1000000 in
theorem sortC_any (g c B pb N : Nat) (w0 : World) (k : Cn → Int) (S : Cn → Prop) (hcmp : CmpC B w0 pb k S) (hB : B ≤ g) (hB0 : B ≤ w0.heap.size) (D : List Cn) (hDN : D.length = N) (hN2 : N ≤ 4096) (hS : ∀ x ∈ D, S x) (w : World) (hbl : Below B w0 w) (h : SegC w g D) :
    Calls Try.prog 85 #[.slice (some ⟨g, 0, none⟩) N c, cfCv pb] w fun e w' => e = .returned (.tuple #[]) ∧ SegC w' g (Gs.srt k D) ∧ Gb g w w' := by
  have hc := stabC_any g c B pb N w0 k S hcmp hB hB0 D hDN hN2 hS w hbl h
  unfold cfCv at *
  clear hcmp hS hDN h hbl
  go_enter Try.func85, Try.ntmps85
  go_wp2_with fail
  refine hc.mono ?_
  rintro e w2 ⟨rfl, s2, g2⟩
  clear hc
  go_wp2_with fail
  exact ⟨rfl, _, results85 _ _, rfl, s2, g2⟩
set_option maxRecDepth 100000 in
theorem cmpC_all (B : Nat) (w0 : World) : CmpC B w0 0 kC (fun _ => True) := fun W _ x y _ _ => cmpC_any x y W
end Go.Proofs.Ytcjfaahlchbcmaa
