/- The walk of Codes. -/
import Derived.Test.YtcppfoolhkcfaaaW
import Derived.Test.YtcppfoolhkcfaaaC
namespace Go.Proofs.Ytcppfoolhkcfaaa
open Go.RowKit Go.BigFrame

def cdp (l : List Int) (i : Nat) : Nat × Int := (Gf.rev (Gf.cod l i) (Gf.ln l i), l.getD i 0)
def cds (l : List Int) (k : Nat) : List (Nat × Int) := (List.range l.length).map fun i => if i < k then cdp l i else (Gf.cod l i, l.getD i 0)
theorem cds_len (l : List Int) (k : Nat) : (cds l k).length = l.length := by simp [cds]
theorem cds_zero (l : List Int) : cds l 0 = nbs l l.length := by
  unfold cds nbs
  apply List.map_congr_left
  intro i hi
  rw [if_neg (by omega), if_pos (List.mem_range.1 hi)]
theorem cds_set (l : List Int) (k : Nat) : (cds l k).set k (cdp l k) = cds l (k + 1) := by
  apply List.ext_getElem
  · simp [cds]
  · intro i h1 h2
    simp only [cds, List.getElem_set, List.getElem_map, List.getElem_range]
    by_cases e : k = i
    · subst e; rw [if_pos rfl, if_pos (by omega)]
    · rw [if_neg e]
      by_cases h3 : i < k
      · rw [if_pos h3, if_pos (by omega)]
      · rw [if_neg h3, if_neg (by omega)]
theorem cds_get (l : List Int) (k : Nat) (hk : k < l.length) : (cds l k).getD k (0, 0) = (Gf.cod l k, l.getD k 0) := by
  simp [cds, hk]
theorem cds_full (l : List Int) (k : Nat) (hk : k < l.length) : (cds l l.length).getD k (0, 0) = cdp l k := by
  simp [cds, hk]
theorem may_cod (l : List Int) (hA : l.all Gf.lenB = true) (hW : Gf.wgt l ≤ 32768) (k : Nat) (hk : k < l.length) : Gf.may (Gf.cod l k, (Gf.ln l k : Int)) = true := by
  have h1 := (Gf.ln_le l hA k).1
  exact decide_eq_true ⟨by show (0 : Int) ≤ (Gf.ln l k : Int); omega, by show (Gf.ln l k : Int) ≤ 64; omega, by show Gf.cod l k < 2 ^ (Gf.ln l k : Int).toNat; rw [Int.toNat_natCast]; exact Gf.cod_lt l hA hW k hk⟩
theorem cod_small (l : List Int) (hA : l.all Gf.lenB = true) (hW : Gf.wgt l ≤ 32768) (k : Nat) (hk : k < l.length) : Gf.cod l k < 32768 := by
  have h1 := (Gf.ln_le l hA k).1
  exact Nat.lt_of_lt_of_le (Gf.cod_lt l hA hW k hk) (show 2 ^ Gf.ln l k ≤ 2 ^ 15 from Nat.pow_le_pow_right (by decide) h1)
theorem rev_small (l : List Int) (hA : l.all Gf.lenB = true) (k : Nat) : Gf.rev (Gf.cod l k) (Gf.ln l k) < 32768 := by
  have h1 := (Gf.ln_le l hA k).1
  exact Nat.lt_of_lt_of_le (Gf.rev_lt _ _) (show 2 ^ Gf.ln l k ≤ 2 ^ 15 from Nat.pow_le_pow_right (by decide) h1)

/-- What Codes answers. -/
def Coded (w w' : World) (l : List Int) (u : Value) : Prop :=
  (Gf.chkE l = 0 ∧ ∃ g, u = .slice (some ⟨g, 0, none⟩) l.length l.length ∧ w.heap.size ≤ g ∧ Row w' g 51 (agp (cds l l.length))) ∨ (Gf.chkE l ≠ 0 ∧ u = .slice none 0 0)

theorem good_of {l : List Int} (h : Gf.chkE l = 0) : l.all Gf.lenB = true ∧ Gf.wgt l ≤ 32768 ∧ l.length ≤ 512 := by
  rcases Gf.chkE_cases l with ⟨_, h1, h2, h3⟩ | ⟨h1, _⟩ | ⟨h1, _⟩
  · exact ⟨h1, h2, h3⟩
  · rw [h] at h1; exact absurd h1 (by decide)
  · rw [h] at h1; exact absurd h1 (by decide)

set_option maxRecDepth 100000 in
set_option maxHeartbeats 1000000 in
theorem codes_any (v : Value) (l : List Int) (hl : l.length ≤ 17592186044416) (w : World) (h : Ints w.heap.size w v l) :
    Calls Try.prog 8 #[v] w fun e w' => ∃ u, e = .returned (.tuple #[u, .int .i64 (Gf.chkE l)]) ∧ Coded w w' l u ∧ Below w.heap.size w w' := by
  have hk := check_any v l hl w h
  by_cases h0 : Gf.chkE l = 0
  · obtain ⟨hA, hW, h512⟩ := good_of h0
    have hnb := numbers_any v l hA hW h512 w h
    obtain ⟨a, c, rfl, hc, h3⟩ := h
    have E0 := Box'.mk h0
    rw [h0] at hk ⊢
    have LN : Box' (∀ k, l.getD k 0 = (Gf.ln l k : Int) ∧ Gf.ln l k ≤ 15) := ⟨fun k => ⟨(Gf.ln_le l hA k).2, (Gf.ln_le l hA k).1⟩⟩
    have MC := Box'.mk (may_cod l hA hW)
    have CS := Box'.mk (cod_small l hA hW)
    have CG := Box'.mk (cds_get l)
    have CT := Box'.mk (cds_set l)
    have CL := Box'.mk (cds_len l)
    have C0 := Box'.mk (cds_zero l)
    have CP : Box' (∀ k, cdp l k = (Gf.rev (Gf.cod l k) (Gf.ln l k), l.getD k 0)) := ⟨fun _ => rfl⟩
    generalize hn : l.length = n at *
    have HN := Box'.mk hn
    clear h3 hn hA hW h0
    go_enter Try.func8, Try.ntmps8
    go_wp2_with (go_at_call 22; refine hk.mono ?_; rintro e w' ⟨rfl, hw'⟩; rw [hw'])
    refine hnb.mono ?_
    rintro e w1 ⟨g, rfl, hg, r1, b1⟩
    clear hnb hk
    go_wp2_with fail
    go_loopw [19] (fun i wr => ∃ k : Nat, k ≤ n ∧ i = .int .i64 (k : Int) ∧ Row wr g 51 (agp (cds l k)) ∧ Below w.heap.size w wr) (fun i _ => n - (intOf i).toNat)
    case atStart => exact ⟨0, by omega, rfl, by rw [C0.out]; exact r1, b1⟩
    case round =>
      clear r1 b1
      obtain ⟨k, hk, rfl, r1, hbl⟩ := hrel
      by_cases hlt : k < n
      · have p0 := r1.pr0 (k := k) (by rw [CL.out]; omega)
        have p1 := r1.pr1 (k := k) (by rw [CL.out]; omega)
        have f0 := r1.frozen (k * 2)
        have f1 := r1.frozen (k * 2 + 1)
        rw [CG.out k hlt] at p0 p1
        obtain ⟨hx, hx15⟩ := LN.out k
        rw [hx] at p1
        simp only at p0 p1
        have hcs := CS.out k hlt
        have hrv := fun w => reverse_any (Gf.cod l k) (by omega) (Gf.ln l k : Int) w
        have hmay := MC.out k hlt
        rw [show revV (Gf.cod l k, (Gf.ln l k : Int)) = (Gf.rev (Gf.cod l k) (Gf.ln l k), (Gf.ln l k : Int)) by unfold revV; rw [if_pos hmay]; simp, show revE (Gf.cod l k, (Gf.ln l k : Int)) = 0 by unfold revE; rw [if_pos hmay]] at hrv
        unfold bts2 at hrv
        have hlen : k < (cds l k).length := by rw [CL.out]; omega
        have CTk := CT.out k
        rw [CP.out, hx] at CTk
        have CTk := Box'.mk CTk
        generalize Gf.rev (Gf.cod l k) (Gf.ln l k) = y at *
        generalize Gf.cod l k = x at *
        generalize Gf.ln l k = s at *
        clear hmay CS CG CT C0 CP MC LN hx
        have hgl := r1.lt
        go_wp2_with fail
        refine (hrv _).mono ?_
        rintro e w2 ⟨rfl, b2⟩
        have hz2 := b2.size
        simp at hz2
        have bl2 : Below w.heap.size w w2 := (hbl.alloc hbl.size _).trans (b2.mono (by have := hbl.size; simp; omega))
        have r2 : Row w2 g 51 (agp (cds l k)) := (r1.alloc _).below b2 (by simp; omega)
        clear hrv b2 p0 p1 f0 f1 r1
        have p0 := r2.pr0 (k := k) hlen
        have p1 := r2.pr1 (k := k) hlen
        have f0 := r2.frozen (k * 2)
        have f1 := r2.frozen (k * 2 + 1)
        have hgl2 : g < w2.heap.size := by omega
        have hne : g ≠ w2.heap.size := by omega
        have r3 := r2.setPr k hlen y (s : Int)
        have bl3 : Below w.heap.size w ((w2.setCell ⟨g, k * 2, none⟩ (.int .u64 (y : Int))).setCell ⟨g, k * 2 + 1, none⟩ (.int .i64 (s : Int))) := (bl2.setCell (by show w.heap.size ≤ g; omega) _).setCell (by show w.heap.size ≤ g; omega) _
        rw [CTk.out] at r3
        go_wp2_with fail
        exact ⟨⟨k + 1, by omega, by go_num, r3.alloc _, bl3.alloc bl3.size _⟩, by simp [intOf]; omega⟩
      · obtain rfl : k = n := by omega
        clear CS CG CT C0 CP MC LN
        go_wp2_with fail
        go_ret2
        refine ⟨_, rfl, .inl ⟨E0.out, g, ?_, hg, ?_⟩, hbl⟩
        · rw [HN.out]; rfl
        · rw [HN.out]; exact r1
  · obtain ⟨a, c, rfl, hc, h3⟩ := h
    have i0 : (Gf.chkE l == 0) = false := by rw [beq_eq_false_iff_ne]; exact h0
    have H0 := Box'.mk h0
    generalize hE : Gf.chkE l = E at *
    have HE := Box'.mk hE
    clear h3 h0 hE
    go_enter Try.func8, Try.ntmps8
    go_wp2_with (go_at_call 22; refine hk.mono ?_; rintro e w' ⟨rfl, hw'⟩; rw [hw'])
    go_ret2
    exact ⟨_, rfl, .inr ⟨by rw [HE.out]; exact H0.out, rfl⟩, Below.refl _ _⟩
end Go.Proofs.Ytcppfoolhkcfaaa
