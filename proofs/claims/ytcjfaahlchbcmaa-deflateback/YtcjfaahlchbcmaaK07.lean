/- The walk of Codes. -/
import Derived.Test.YtcjfaahlchbcmaaK06
import Derived.Test.YtcjfaahlchbcmaaK05
import Derived.Test.YtcjfaahlchbcmaaK01
namespace Go.Proofs.Ytcjfaahlchbcmaa
open Go.RowKit Go.BigFrame
def cdp (l : List Int) (i : Nat) : Nat × Int := (Gf.rev (Gf.cod l i) (Gf.ln l i), l.getD i 0)
def cds (l : List Int) (k : Nat) : List (Nat × Int) := (List.range l.length).map fun i => if i < k then cdp l i else (Gf.cod l i, l.getD i 0)
theorem cds_len (l : List Int) (k : Nat) : (cds l k).length = l.length := by simp [cds]
theorem cds_zero (l : List Int) : cds l 0 = nbs l l.length := by
  unfold cds nbs
  apply List.map_congr_left
  intro i hi
  rw [if_neg (by omega), if_pos (List.mem_range.1 hi)]
theorem cds_set (l : List Int) (k : Nat) : (cds l k).set k (cdp l k) = cds l (k + 1) := by
  apply List.ext_getElem
  · simp [cds]
  · intro i h1 h2
    simp only [cds, List.getElem_set, List.getElem_map, List.getElem_range]
    by_cases e : k = i
    · subst e; rw [if_pos rfl, if_pos (by omega)]
    · rw [if_neg e]
      by_cases h3 : i < k
      · rw [if_pos h3, if_pos (by omega)]
      · rw [if_neg h3, if_neg (by omega)]
theorem cds_get (l : List Int) (k : Nat) (hk : k < l.length) : (cds l k).getD k (0, 0) = (Gf.cod l k, l.getD k 0) := by
  simp [cds, hk]
theorem cds_full (l : List Int) (k : Nat) (hk : k < l.length) : (cds l l.length).getD k (0, 0) = cdp l k := by
  simp [cds, hk]
theorem may_cod (l : List Int) (hA : l.all Gf.lenB = true) (hW : Gf.wgt l ≤ 32768) (k : Nat) (hk : k < l.length) : Gf.may (Gf.cod l k, (Gf.ln l k : Int)) = true := by
  have h1 := (Gf.ln_le l hA k).1
  exact decide_eq_true ⟨by show (0 : Int) ≤ (Gf.ln l k : Int); omega, by show (Gf.ln l k : Int) ≤ 64; omega, by show Gf.cod l k < 2 ^ (Gf.ln l k : Int).toNat; rw [Int.toNat_natCast]; exact Gf.cod_lt l hA hW k hk⟩
theorem cod_small (l : List Int) (hA : l.all Gf.lenB = true) (hW : Gf.wgt l ≤ 32768) (k : Nat) (hk : k < l.length) : Gf.cod l k < 32768 := by
  have h1 := (Gf.ln_le l hA k).1
  exact Nat.lt_of_lt_of_le (Gf.cod_lt l hA hW k hk) (show 2 ^ Gf.ln l k ≤ 2 ^ 15 from Nat.pow_le_pow_right (by decide) h1)
def Coded (w w' : World) (l : List Int) (u : Value) : Prop :=
  (Gf.chkE l = 0 ∧ ∃ g, u = .slice (some ⟨g, 0, none⟩) l.length l.length ∧ w.heap.size ≤ g ∧ Row w' g 73 (agp (cds l l.length))) ∨ (Gf.chkE l ≠ 0 ∧ u = .slice none 0 0)
theorem good_of {l : List Int} (h : Gf.chkE l = 0) : l.all Gf.lenB = true ∧ Gf.wgt l ≤ 32768 ∧ l.length ≤ 512 := by
  rcases Gf.chkE_cases l with ⟨_, h1, h2, h3⟩ | ⟨h1, _⟩ | ⟨h1, _⟩
  · exact ⟨h1, h2, h3⟩
  · rw [h] at h1; exact absurd h1 (by decide)
  · rw [h] at h1; exact absurd h1 (by decide)
set_option maxRecDepth 100000 in
set_option maxHeartbeats 1000000 in
theorem codes_any (v : Value) (l : List Int) (hl : l.length ≤ 17592186044416) (w : World) (h : Ints w.heap.size w v l) :
    Calls Try.prog 55 #[v] w fun e w' => ∃ u, e = .returned (.tuple #[u, .int .i64 (Gf.chkE l)]) ∧ Coded w w' l u ∧ Below w.heap.size w w' := by
  have hk := check_any v l hl w h
  by_cases h0 : Gf.chkE l = 0
  · obtain ⟨hA, hW, h512⟩ := good_of h0
    have hnb := numbers_any v l hA hW h512 w h
    obtain ⟨a, c, rfl, hc, h3⟩ := h
    have E0 := Box'.mk h0
    rw [h0] at hk ⊢
    have LN : Box' (∀ k, l.getD k 0 = (Gf.ln l k : Int) ∧ Gf.ln l k ≤ 15) := ⟨fun k => ⟨(Gf.ln_le l hA k).2, (Gf.ln_le l hA k).1⟩⟩
    have MC := Box'.mk (may_cod l hA hW)
    have CS := Box'.mk (cod_small l hA hW)
    have CG := Box'.mk (cds_get l)
    have CT := Box'.mk (cds_set l)
    have CL := Box'.mk (cds_len l)
    have C0 := Box'.mk (cds_zero l)
    have CP : Box' (∀ k, cdp l k = (Gf.rev (Gf.cod l k) (Gf.ln l k), l.getD k 0)) := ⟨fun _ => rfl⟩
    generalize hn : l.length = n at *
    have HN := Box'.mk hn
    clear h3 hn hA hW h0
    go_enter Try.func55, Try.ntmps55
    go_wp2_with (go_at_call 69; refine hk.mono ?_; rintro e w' ⟨rfl, hw'⟩; rw [hw'])
    refine hnb.mono ?_
    rintro e w1 ⟨g, rfl, hg, r1, b1⟩
    clear hnb hk
    go_wp2_with fail
    go_loopw [19] (fun i wr => ∃ k : Nat, k ≤ n ∧ i = .int .i64 (k : Int) ∧ Row wr g 73 (agp (cds l k)) ∧ Below w.heap.size w wr) (fun i _ => n - (intOf i).toNat)
    case atStart => exact ⟨0, by omega, rfl, by rw [C0.out]; exact r1, b1⟩
    case round =>
      clear r1 b1
      obtain ⟨k, hk, rfl, r1, hbl⟩ := hrel
      by_cases hlt : k < n
      · have p0 := r1.pr0 (k := k) (by rw [CL.out]; omega)
        have p1 := r1.pr1 (k := k) (by rw [CL.out]; omega)
        have f0 := r1.frozen (k * 2)
        have f1 := r1.frozen (k * 2 + 1)
        rw [CG.out k hlt] at p0 p1
        obtain ⟨hx, hx15⟩ := LN.out k
        rw [hx] at p1
        simp only at p0 p1
        have hcs := CS.out k hlt
        have hrv := fun w => reverse_any (Gf.cod l k) (by omega) (Gf.ln l k : Int) w
        have hmay := MC.out k hlt
        rw [show revV (Gf.cod l k, (Gf.ln l k : Int)) = (Gf.rev (Gf.cod l k) (Gf.ln l k), (Gf.ln l k : Int)) by unfold revV; rw [if_pos hmay]; simp, show revE (Gf.cod l k, (Gf.ln l k : Int)) = 0 by unfold revE; rw [if_pos hmay]] at hrv
        unfold bts2 at hrv
        have hlen : k < (cds l k).length := by rw [CL.out]; omega
        have CTk := CT.out k
        rw [CP.out, hx] at CTk
        have CTk := Box'.mk CTk
        generalize Gf.rev (Gf.cod l k) (Gf.ln l k) = y at *
        generalize Gf.cod l k = x at *
        generalize Gf.ln l k = s at *
        clear hmay CS CG CT C0 CP MC LN hx
        have hgl := r1.lt
        go_wp2_with fail
        refine (hrv _).mono ?_
        rintro e w2 ⟨rfl, b2⟩
        have hz2 := b2.size
        simp at hz2
        have bl2 : Below w.heap.size w w2 := (hbl.alloc hbl.size _).trans (b2.mono (by have := hbl.size; simp; omega))
        have r2 : Row w2 g 73 (agp (cds l k)) := (r1.alloc _).below b2 (by simp; omega)
        clear hrv b2 p0 p1 f0 f1 r1
        have p0 := r2.pr0 (k := k) hlen
        have p1 := r2.pr1 (k := k) hlen
        have f0 := r2.frozen (k * 2)
        have f1 := r2.frozen (k * 2 + 1)
        have hgl2 : g < w2.heap.size := by omega
        have hne : g ≠ w2.heap.size := by omega
        have r3 := r2.setPr k hlen y (s : Int)
        have bl3 : Below w.heap.size w ((w2.setCell ⟨g, k * 2, none⟩ (.int .u64 (y : Int))).setCell ⟨g, k * 2 + 1, none⟩ (.int .i64 (s : Int))) := (bl2.setCell (by show w.heap.size ≤ g; omega) _).setCell (by show w.heap.size ≤ g; omega) _
        rw [CTk.out] at r3
        go_wp2_with fail
        exact ⟨⟨k + 1, by omega, by go_num, r3.alloc _, bl3.alloc bl3.size _⟩, by simp [intOf]; omega⟩
      · obtain rfl : k = n := by omega
        clear CS CG CT C0 CP MC LN
        go_wp2_with fail
        go_ret2
        refine ⟨_, rfl, .inl ⟨E0.out, g, ?_, hg, ?_⟩, hbl⟩
        · rw [HN.out]; rfl
        · rw [HN.out]; exact r1
  · obtain ⟨a, c, rfl, hc, h3⟩ := h
    have i0 : (Gf.chkE l == 0) = false := by rw [beq_eq_false_iff_ne]; exact h0
    have H0 := Box'.mk h0
    generalize hE : Gf.chkE l = E at *
    have HE := Box'.mk hE
    clear h3 h0 hE
    go_enter Try.func55, Try.ntmps55
    go_wp2_with (go_at_call 69; refine hk.mono ?_; rintro e w' ⟨rfl, hw'⟩; rw [hw'])
    go_ret2
    exact ⟨_, rfl, .inr ⟨by rw [HE.out]; exact H0.out, rfl⟩, Below.refl _ _⟩
open Go.RowKit Go.BigFrame
theorem made_ints (n : Nat) : madeCells #[.int .i64 0] n = ai (List.replicate n 0) := by
  apply Array.ext
  · simp [ai, madeCells]
  · intro j h1 h2
    simp only [madeCells, ai, Array.getElem_map, List.getElem_toArray, List.getElem_map, Array.getElem_range, List.getElem_replicate]
    have : j % (#[Value.int .i64 0] : Array Value).size = 0 := Nat.mod_one j
    rw [this]; rfl
set_option maxRecDepth 100000 in
theorem Try.info3' : ∃ i, Try.prog.info? 3 = some i ∧ i.zero = some (.int .i64 0) ∧ i.size = 1 ∧ i.bytes = 8 := ⟨_, rfl, rfl, rfl, rfl⟩
theorem wpList_make_ints {ops : Array Oper} {rest : List Oper} {op : Oper} {a : Act} {w : World} {Q : Exit → Act → World → Prop}
    (hgd : op.guard = none) (x y : Operand) (ho : op.op = .makeSlice 63 x y) (L C : Int) (n : Nat) (hx : a.eval x = .int .i64 L) (hy : a.eval y = .int .i64 C) (hL : L = (n : Int)) (hC : C = (n : Int)) (hn : n ≤ 65536)
    (h : wpList Try.prog ops Q rest (a.put op.dst (.slice (some ⟨w.heap.size, 0, none⟩) n n)) (w.alloc (.cells (ai (List.replicate n 0)) 3))) : wpList Try.prog ops Q (op :: rest) a w := by
  obtain ⟨i, h1, h2, h3, h4⟩ := Try.info3'
  have hrun := run_make (P := Try.prog) w 63 3 i _ Try.underlying63 h1 h2 .i64 .i64 (n : Int) (n : Int) (by omega) (Int.le_refl _) (by rw [h4]; omega) (by omega)
  rw [h3, Int.toNat_natCast, Nat.mul_one, show (Value.int .i64 0).cells = #[.int .i64 0] from rfl, made_ints] at hrun
  refine wpList_plain hgd fun K hK' => ?_
  subst hL hC
  unfold Oper.wp
  simp only [execOp, ho, hx, hy, Sem.run_bind, hrun, Result.andThen_ok]
  exact hK' _ _ h
def hgs (l : List Int) (m k : Nat) : List Int := (List.range l.length).map fun i => if Gf.ln l i < m ∨ (Gf.ln l i = m ∧ i < k) then (Gf.cod l i : Int) else 0
def cdi (l : List Int) : List Int := (List.range l.length).map fun i => (Gf.cod l i : Int)
theorem hgs_len (l : List Int) (m k : Nat) : (hgs l m k).length = l.length := by simp [hgs]
theorem hgs_zero (l : List Int) (hA : l.all Gf.lenB = true) (hW : Gf.wgt l ≤ 32768) : hgs l 1 0 = List.replicate l.length 0 := by
  unfold hgs
  apply List.ext_getElem
  · simp
  · intro i h1 h2
    simp only [List.length_map, List.length_range] at h1
    simp only [List.getElem_map, List.getElem_range, List.getElem_replicate]
    split
    · rename_i h; rw [Gf.cod_zero l hA hW i h1 (by omega)]; rfl
    · rfl
theorem hgs_turn (l : List Int) (m : Nat) : hgs l m l.length = hgs l (m + 1) 0 := by
  unfold hgs
  apply List.map_congr_left
  intro i hi
  have := List.mem_range.1 hi
  by_cases h : Gf.ln l i < m + 1
  · rw [if_pos (by omega), if_pos (by omega)]
  · rw [if_neg (by omega), if_neg (by omega)]
theorem hgs_all (l : List Int) (hA : l.all Gf.lenB = true) : hgs l 16 0 = cdi l := by
  unfold hgs cdi
  apply List.map_congr_left
  intro i _
  rw [if_pos (by have := (Gf.ln_le l hA i).1; omega)]
theorem hgs_set (l : List Int) (m k : Nat) (h : Gf.ln l k = m) : (hgs l m k).set k (Gf.cod l k : Int) = hgs l m (k + 1) := by
  apply List.ext_getElem
  · simp [hgs]
  · intro i h1 h2
    simp only [hgs, List.getElem_set, List.getElem_map, List.getElem_range]
    by_cases e : k = i
    · subst e; rw [if_pos rfl, if_pos (by omega)]
    · rw [if_neg e]
      by_cases h3 : Gf.ln l i < m ∨ (Gf.ln l i = m ∧ i < k)
      · rw [if_pos h3, if_pos (by omega)]
      · rw [if_neg h3, if_neg (by omega)]
theorem hgs_skip (l : List Int) (m k : Nat) (h : Gf.ln l k ≠ m) : hgs l m (k + 1) = hgs l m k := by
  unfold hgs
  apply List.map_congr_left
  intro i _
  by_cases h3 : Gf.ln l i < m ∨ (Gf.ln l i = m ∧ i < k)
  · rw [if_pos h3, if_pos (by omega)]
  · have : ¬ (Gf.ln l i < m ∨ (Gf.ln l i = m ∧ i < k + 1)) := by
      intro h4
      rcases h4 with h4 | ⟨h4, h5⟩
      · exact h3 (.inl h4)
      · have : i = k := Classical.byContradiction fun hne => h3 (.inr ⟨h4, by omega⟩)
        subst this; exact h h4
    rw [if_neg h3, if_neg this]
theorem wrap_small (z : Nat) (h : z ≤ 65536) : wrap64 (z : Int) = (z : Int) := by
  unfold wrap64; omega
theorem add_pow (y m : Nat) (hy : y ≤ 32768) (hm : 1 ≤ m) : wrap64 ((y : Int) + wrap64 (2 ^ (15 - m))) = ((y + 2 ^ (15 - m) : Nat) : Int) := by
  have e0 : ((2 : Int) ^ (15 - m)) = ((2 ^ (15 - m) : Nat) : Int) := by simp
  have hp : 2 ^ (15 - m) ≤ 2 ^ 14 := Nat.pow_le_pow_right (by decide) (by omega)
  have e : (y : Int) + 2 ^ (15 - m) = ((y + 2 ^ (15 - m) : Nat) : Int) := by simp
  rw [e0, wrap_small _ (by omega), ← e0, e]
  exact wrap_small _ (by omega)
set_option maxRecDepth 100000 in
set_option maxHeartbeats 2000000 in
theorem high_any (v : Value) (l : List Int) (hA : l.all Gf.lenB = true) (hW : Gf.wgt l ≤ 32768) (h512 : l.length ≤ 512) (w : World) (h : Ints w.heap.size w v l) :
    Calls Try.prog 79 #[v] w fun e w' => ∃ g, e = .returned (.slice (some ⟨g, 0, none⟩) l.length l.length) ∧ w.heap.size ≤ g ∧ Row w' g 3 (ai (cdi l)) ∧ Below w.heap.size w w' := by
  obtain ⟨a, c, rfl, hc, h3⟩ := h
  have HCL := Box'.mk (Ints.cells h3)
  have EB : Box' (∀ n k, n ≤ 15 → k ≤ l.length → Gf.nxt l n k ≤ 32768) := ⟨fun n k h1 h2 => Nat.le_trans (Gf.nxt_le l hA n k h1 h2) hW⟩
  have LN : Box' (∀ k, l.getD k 0 = (Gf.ln l k : Int) ∧ Gf.ln l k ≤ 15) := ⟨fun k => ⟨(Gf.ln_le l hA k).2, (Gf.ln_le l hA k).1⟩⟩
  have H0 := Box'.mk (hgs_zero l hA hW)
  have HT := Box'.mk (hgs_turn l)
  have HF := Box'.mk (hgs_all l hA)
  have HS := Box'.mk (hgs_set l)
  have HK := Box'.mk (hgs_skip l)
  have HL := Box'.mk (hgs_len l)
  have NS : Box' (∀ k, k < l.length → Gf.ln l k ≠ 0 → Gf.nxt l (Gf.ln l k) (k + 1) = Gf.nxt l (Gf.ln l k) k + 2 ^ (15 - Gf.ln l k)) := ⟨Gf.nxt_succ l hA⟩
  have NO : Box' (∀ m k, k < l.length → Gf.ln l k ≠ m → Gf.nxt l m (k + 1) = Gf.nxt l m k) := ⟨fun m k hk hne => Gf.nxt_other l m k hk (by have := (Gf.ln_le l hA k).2; omega)⟩
  have NT : Box' (∀ m, Gf.nxt l m l.length = Gf.nxt l (m + 1) 0) := ⟨fun m => by unfold Gf.nxt; rw [Gf.low_succ, Gf.eqk_zero]; rfl⟩
  have N1 : Box' (Gf.nxt l 1 0 = 0) := ⟨by unfold Gf.nxt; rw [Gf.low_one l hA, Gf.eqk_zero]⟩
  have CD : Box' (∀ k, Gf.cod l k = Gf.nxt l (Gf.ln l k) k / 2 ^ (15 - Gf.ln l k)) := ⟨fun k => rfl⟩
  generalize hn : l.length = n at *
  clear h3 hA hW hn
  go_enter Try.func79, Try.ntmps79
  go_wp2_with (refine wpList_make_ints rfl _ _ rfl _ _ n rfl rfl rfl rfl (by omega) ?_)
  go_loopw [4, 5] (fun t j wr => ∃ m x : Nat, 1 ≤ m ∧ m ≤ 16 ∧ j = .int .i64 (m : Int) ∧ t = .int .i64 (x : Int) ∧ Box' (x = Gf.nxt l m 0) ∧ Row wr w.heap.size 3 (ai (hgs l m 0)) ∧ Below w.heap.size w wr) (fun _ j _ => 16 - (intOf j).toNat)
  case atStart => exact ⟨1, 0, by omega, by omega, rfl, rfl, ⟨N1.out.symm⟩, by rw [H0.out]; exact Row.new _ _ _, (Below.refl _ _).alloc (Nat.le_refl _) _⟩
  case round =>
    obtain ⟨m, x, hm1, hm2, rfl, rfl, HX, r1, hbl⟩ := hrel
    by_cases hlt : m ≤ 15
    · clear H0 N1 HF
      go_wp2_with fail
      go_loopw [4, 6] (fun t i wr => ∃ k y : Nat, k ≤ n ∧ i = .int .i64 (k : Int) ∧ t = .int .i64 (y : Int) ∧ Box' (y = Gf.nxt l m k) ∧ Row wr w.heap.size 3 (ai (hgs l m k)) ∧ Below w.heap.size w wr) (fun _ i _ => n - (intOf i).toNat)
      case atStart => exact ⟨0, x, by omega, rfl, rfl, HX, r1, hbl⟩
      case round =>
        clear r1 hbl HX
        obtain ⟨k, y, hk, rfl, rfl, HY, r1, hbl⟩ := hrel
        by_cases hlk : k < n
        · obtain ⟨b, o, rfl, hbw, c0⟩ := HCL.out k hlk
          obtain ⟨hx, hx15⟩ := LN.out k
          obtain ⟨hc0, -⟩ := bcell hbl
          rw [← hc0 _ _ hbw, hx] at c0
          by_cases he : Gf.ln l k = m
          · have hEB := EB.out m k hlt (by omega)
            have HSk := Box'.mk (HS.out m k he)
            have NSk := NS.out k hlk (by omega)
            rw [he] at NSk c0
            have NSk := Box'.mk NSk
            have CDk := CD.out k
            rw [he] at CDk
            have CDk := Box'.mk CDk
            have f0 := r1.frozen k
            have c1 := r1.int (k := k) (by rw [HL.out]; omega)
            rw [← HY.out] at hEB
            clear HCL EB LN HT HS HK NS NO NT CD hc0 hx
            go_wp2_with fail
            refine ⟨⟨k + 1, y + 2 ^ (15 - m), by omega, by go_num, by rw [add_pow y m hEB hm1], ⟨by rw [NSk.out, HY.out]⟩, ?_, hbl.setCell (Nat.le_refl _) _⟩, by simp [intOf]; omega⟩
            have e : ((y : Int) / 2 ^ (15 - m)) = ((Gf.cod l k : Nat) : Int) := by
              rw [CDk.out, ← HY.out]; simp
            rw [e, ← HSk.out]
            exact r1.setInt k _
          · have HKk := Box'.mk (HK.out m k he)
            have NOk := Box'.mk (NO.out m k hlk he)
            have i0 : ((Gf.ln l k : Int) == (m : Int)) = false := by rw [beq_eq_false_iff_ne]; omega
            generalize Gf.ln l k = s at *
            clear HCL EB LN HT HS HK NS NO NT CD hc0 hx
            go_wp2_with fail
            exact ⟨⟨k + 1, y, by omega, by go_num, rfl, ⟨by rw [NOk.out]; exact HY.out⟩, by rw [HKk.out]; exact r1, hbl⟩, by simp [intOf]; omega⟩
        · obtain rfl : k = n := by omega
          have NTm := Box'.mk (NT.out m)
          have HTm := Box'.mk (HT.out m)
          clear HCL EB LN HT HS HK NS NO NT CD
          go_wp2_with fail
          exact ⟨⟨m + 1, y, by omega, by omega, by go_num, rfl, ⟨by rw [← NTm.out]; exact HY.out⟩, by rw [← HTm.out]; exact r1, hbl⟩, by simp [intOf]; omega⟩
    · obtain rfl : m = 16 := by omega
      rw [HF.out] at r1
      clear HCL EB LN HT HS HK NS NO NT CD
      go_wp2_with fail
      go_ret
      exact ⟨w.heap.size, rfl, Nat.le_refl _, r1, hbl⟩
end Go.Proofs.Ytcjfaahlchbcmaa
namespace Go.Proofs.Ytcjfaahlchbcmaa.Gf
def hitB (l : List Int) (n c i : Nat) : Bool := decide (ln l i = n ∧ n ≠ 0 ∧ cod l i = c)
def hit (l : List Int) (n c : Nat) : Option Nat := (List.range l.length).find? (hitB l n c)
def liveB (l : List Int) (n c i : Nat) : Bool := decide (n < ln l i ∧ cod l i / 2 ^ (ln l i - n) = c)
def live (l : List Int) (n c k : Nat) : Bool := (List.range k).any (liveB l n c)
def symF (l : List Int) (bit : Nat → Option Nat) : Nat → Nat → Nat → Nat × Nat × Int
  | 0, _, _ => (0, 0, 8)
  | f + 1, n, c => match hit l n c with
    | some i => (i, n, 0)
    | none => if live l n c l.length = true then (match bit n with | none => (0, 0, 7) | some v => symF l bit f (n + 1) (2 * c + v)) else (0, 0, 8)
theorem hit_none {l : List Int} {n c : Nat} (h : ∀ i, i < l.length → hitB l n c i = false) : hit l n c = none := by
  unfold hit
  rw [List.find?_eq_none]
  intro i hi
  rw [h i (List.mem_range.1 hi)]; simp
theorem hit_none_iff {l : List Int} {n c : Nat} (h : hit l n c = none) (i : Nat) (hi : i < l.length) : hitB l n c i = false := by
  unfold hit at h
  rw [List.find?_eq_none] at h
  have := h i (List.mem_range.2 hi)
  simpa using this
theorem hit_some {l : List Int} (hA : l.all lenB = true) {n c i : Nat} (hi : i < l.length) (h : hitB l n c i = true) : hit l n c = some i := by
  cases hh : hit l n c with
  | none => rw [hit_none_iff hh i hi] at h; cases h
  | some j =>
    unfold hit at hh
    have h1 := List.find?_some hh
    have h2 := List.mem_range.1 (List.mem_of_find?_eq_some hh)
    have a := of_decide_eq_true h
    have b := of_decide_eq_true h1
    rw [cod_inj l hA i j hi h2 (by omega) (by omega) (by omega)]
theorem some_hit {l : List Int} {n c i : Nat} (h : hit l n c = some i) : i < l.length ∧ ln l i = n ∧ n ≠ 0 ∧ cod l i = c := by
  unfold hit at h
  have h1 : hitB l n c i = true := List.find?_some h
  exact ⟨List.mem_range.1 (List.mem_of_find?_eq_some h), of_decide_eq_true h1⟩
theorem live_succ (l : List Int) (n c k : Nat) : live l n c (k + 1) = (live l n c k || liveB l n c k) := by
  unfold live
  rw [List.range_succ, List.any_append]; simp
theorem symF_hit {l : List Int} {bit : Nat → Option Nat} {f n c i : Nat} (h : hit l n c = some i) : symF l bit (f + 1) n c = (i, n, 0) := by
  simp only [symF, h]
theorem symF_dead {l : List Int} {bit : Nat → Option Nat} {f n c : Nat} (h : hit l n c = none) (hl : live l n c l.length = false) : symF l bit (f + 1) n c = (0, 0, 8) := by
  simp only [symF, h, hl]; simp
theorem symF_short {l : List Int} {bit : Nat → Option Nat} {f n c : Nat} (h : hit l n c = none) (hl : live l n c l.length = true) (hb : bit n = none) : symF l bit (f + 1) n c = (0, 0, 7) := by
  simp only [symF, h, hl, hb, if_true]
theorem symF_on {l : List Int} {bit : Nat → Option Nat} {f n c v : Nat} (h : hit l n c = none) (hl : live l n c l.length = true) (hb : bit n = some v) : symF l bit (f + 1) n c = symF l bit f (n + 1) (2 * c + v) := by
  simp only [symF, h, hl, hb, if_true]
def NP (l : List Int) (n c : Nat) : Prop := ∀ i, i < l.length → ln l i ≠ 0 → ln l i ≤ n → c / 2 ^ (n - ln l i) ≠ cod l i
theorem np_step {l : List Int} {n c v : Nat} (h : NP l n c) (hv : v < 2) (hh : hit l (n + 1) (2 * c + v) = none) : NP l (n + 1) (2 * c + v) := by
  intro i hi h0 hle
  by_cases h1 : ln l i ≤ n
  · have e : n + 1 - ln l i = (n - ln l i) + 1 := by omega
    rw [e, Nat.pow_succ, Nat.mul_comm (2 ^ (n - ln l i)) 2, ← Nat.div_div_eq_div_mul]
    rw [show (2 * c + v) / 2 = c by omega]
    exact h i hi h0 h1
  · have h2 : ln l i = n + 1 := by omega
    rw [h2, Nat.sub_self, Nat.pow_zero, Nat.div_one]
    intro he
    have := hit_none_iff hh i hi
    unfold hitB at this
    exact of_decide_eq_false this ⟨h2, by omega, he.symm⟩
theorem may_live {l : List Int} (hA : l.all lenB = true) {n c : Nat} (h : NP l n c) (hn : n ≤ 15) : (c * 2 ^ (15 - n) < wgt l) ↔ live l n c l.length = true := by
  constructor
  · intro hlt
    obtain ⟨i, hi, h0, h1, h2⟩ := cover l hA _ hlt
    have h15 := (ln_le l hA i).1
    by_cases h3 : ln l i ≤ n
    · exact absurd ((begins l hA i n c hn h3).2 ⟨h1, h2⟩) (h i hi h0 h3)
    · unfold live
      rw [List.any_eq_true]
      refine ⟨i, List.mem_range.2 hi, decide_eq_true ⟨by omega, ?_⟩⟩
      rw [← cod_mul l hA i] at h1 h2
      have e : 2 ^ (15 - n) = 2 ^ (ln l i - n) * 2 ^ (15 - ln l i) := by rw [← Nat.pow_add]; congr 1; omega
      have p1 := Nat.two_pow_pos (15 - ln l i)
      have p2 := Nat.two_pow_pos (ln l i - n)
      rw [e, ← Nat.mul_assoc] at h1 h2
      have h1 := Nat.le_of_mul_le_mul_right h1 p1
      have h2' : c * 2 ^ (ln l i - n) * 2 ^ (15 - ln l i) < (cod l i + 1) * 2 ^ (15 - ln l i) := by rw [Nat.add_mul, Nat.one_mul]; exact h2
      have h2 := Nat.lt_of_mul_lt_mul_right h2'
      have : cod l i = c * 2 ^ (ln l i - n) := by omega
      rw [this, Nat.mul_div_cancel _ p2]
  · intro hl
    unfold live at hl
    rw [List.any_eq_true] at hl
    obtain ⟨i, hi, hb⟩ := hl
    have hi := List.mem_range.1 hi
    have hb := of_decide_eq_true hb
    have h15 := (ln_le l hA i).1
    have he := end_le l hA i hi (by omega)
    rw [← cod_mul l hA i] at he
    have p1 := Nat.two_pow_pos (15 - ln l i)
    have e : 2 ^ (15 - n) = 2 ^ (ln l i - n) * 2 ^ (15 - ln l i) := by rw [← Nat.pow_add]; congr 1; omega
    have h1 : c * 2 ^ (ln l i - n) ≤ cod l i := by rw [← hb.2]; exact Nat.div_mul_le_self _ _
    rw [e, ← Nat.mul_assoc]
    have h2 := Nat.mul_le_mul_right (2 ^ (15 - ln l i)) h1
    omega
theorem live_lt {l : List Int} (hA : l.all lenB = true) {n c k : Nat} (h : live l n c k = true) : n < 15 := by
  unfold live at h
  rw [List.any_eq_true] at h
  obtain ⟨i, _, hb⟩ := h
  have hb := of_decide_eq_true hb
  have h15 := (ln_le l hA i).1
  omega
theorem whole {l : List Int} (hA : l.all lenB = true) (hW : wgt l = 32768) (bit : Nat → Option Nat) (hb : ∀ n, n < 16 → ∃ v, v < 2 ∧ bit n = some v) :
    ∀ f n c, f + n = 17 → n ≤ 15 → c < 2 ^ n → hit l n c = none → NP l n c → ∃ i, i < l.length ∧ symF l bit f n c = (i, ln l i, 0)
  | 0, n, c, h1, h2, _, _, _ => by omega
  | f + 1, n, c, h1, h2, h3, h4, h5 => by
    have hl : live l n c l.length = true := by
      rw [← may_live hA h5 h2, hW]
      calc c * 2 ^ (15 - n) < 2 ^ n * 2 ^ (15 - n) := Nat.mul_lt_mul_of_pos_right h3 (Nat.two_pow_pos _)
        _ = 32768 := by rw [← Nat.pow_add, show n + (15 - n) = 15 by omega]
    have hn := live_lt hA hl
    obtain ⟨v, hv, hbv⟩ := hb n (by omega)
    rw [symF_on h4 hl hbv]
    cases hh : hit l (n + 1) (2 * c + v) with
    | some i =>
      have := some_hit hh
      cases f with
      | zero => omega
      | succ f => exact ⟨i, this.1, by rw [symF_hit hh, this.2.1]⟩
    | none => exact whole hA hW bit hb f (n + 1) (2 * c + v) (by omega) (by omega) (by rw [Nat.pow_succ]; omega) hh (np_step h5 hv hh)
def bitAt (b : List UInt8) (p n : Nat) : Option Nat := if p + n + 1 ≤ 8 * b.length then some (num b / 2 ^ (p + n) % 2) else none
def symR (l : List Int) (b : List UInt8) (at' : Int) : Nat × Nat × Int :=
  if at' < 0 then (0, 0, 2) else if chkE l = 0 then symF l (bitAt b at'.toNat) 17 0 0 else (0, 0, chkE l)
end Go.Proofs.Ytcjfaahlchbcmaa.Gf
