/- The plain mathematics of a tree of forks: reading by it is reading by the codes. -/
import Derived.Test.YtbnghmeeddjaoaaFi
import Derived.Test.YtbnghmeeddjaoaaI
namespace Go.Proofs.Ytbnghmeeddjaoaa.Gt
open Gf

/-- The bits of a number, the highest one first. -/
def bitsH (v : Nat) : Nat → List Nat
  | 0 => []
  | n + 1 => bitsH (v / 2) n ++ [v % 2]
theorem bitsH_len (n : Nat) : ∀ v, (bitsH v n).length = n := by
  induction n with
  | zero => intro v; rfl
  | succ n ih => intro v; rw [bitsH, List.length_append, ih]; rfl
theorem bitsH_lt (n : Nat) : ∀ v c, c ∈ bitsH v n → c < 2 := by
  induction n with
  | zero => intro v c h; cases h
  | succ n ih =>
    intro v c h
    rw [bitsH, List.mem_append] at h
    rcases h with h | h
    · exact ih _ c h
    · rw [List.mem_singleton] at h; omega
theorem bitsH_snoc (c v n : Nat) (hv : v < 2) : bitsH (2 * c + v) (n + 1) = bitsH c n ++ [v] := by
  rw [bitsH, show (2 * c + v) / 2 = c by omega, show (2 * c + v) % 2 = v by omega]
theorem bitsH_inj (n : Nat) : ∀ u v, u < 2 ^ n → v < 2 ^ n → bitsH u n = bitsH v n → u = v := by
  induction n with
  | zero => intro u v hu hv _; simp at hu hv; omega
  | succ n ih =>
    intro u v hu hv h
    rw [bitsH, bitsH] at h
    obtain ⟨h1, h2⟩ := List.append_inj' h rfl
    rw [Nat.pow_succ] at hu hv
    have := ih (u / 2) (v / 2) (by omega) (by omega) h1
    have h3 : u % 2 = v % 2 := by simpa using h2
    omega
theorem bitsH_split (n d : Nat) : ∀ v, ∃ t, bitsH v (n + d) = bitsH (v / 2 ^ d) n ++ t ∧ t.length = d := by
  induction d with
  | zero => intro v; exact ⟨[], by simp, rfl⟩
  | succ d ih =>
    intro v
    obtain ⟨t, h1, h2⟩ := ih (v / 2)
    refine ⟨t ++ [v % 2], ?_, by rw [List.length_append, h2]; rfl⟩
    rw [show n + (d + 1) = (n + d) + 1 by omega, bitsH, h1, List.append_assoc, Nat.pow_succ, Nat.mul_comm, Nat.div_div_eq_div_mul]
theorem bitsH_prefix {u v n m : Nat} (hu : u < 2 ^ n) (hv : v < 2 ^ m) : bitsH u n <+: bitsH v m ↔ n ≤ m ∧ v / 2 ^ (m - n) = u := by
  constructor
  · intro h
    have hl := h.length_le
    rw [bitsH_len, bitsH_len] at hl
    refine ⟨hl, ?_⟩
    obtain ⟨t, h1, _⟩ := bitsH_split n (m - n) v
    rw [show n + (m - n) = m by omega] at h1
    rw [h1] at h
    have e : bitsH u n = bitsH (v / 2 ^ (m - n)) n := (List.prefix_of_prefix_length_le h (List.prefix_append _ _) (by rw [bitsH_len, bitsH_len]; exact Nat.le_refl _)).eq_of_length (by rw [bitsH_len, bitsH_len])
    refine (bitsH_inj n _ _ hu ?_ e).symm
    rw [Nat.div_lt_iff_lt_mul (Nat.pow_pos (by decide)), ← Nat.pow_add, show n + (m - n) = m by omega]
    exact hv
  · rintro ⟨hl, rfl⟩
    obtain ⟨t, h1, _⟩ := bitsH_split n (m - n) v
    rw [show n + (m - n) = m by omega] at h1
    rw [h1]
    exact List.prefix_append _ _
/-- The codes of lengths, as bits, with their symbols. -/
def codesOf (l : List Int) (k : Nat) : List (List Nat × Int) := ((List.range k).filter fun i => decide (ln l i ≠ 0)).map fun i => (bitsH (cod l i) (ln l i), (i : Int))
theorem codes_mem {l : List Int} {k : Nat} {b : List Nat} {s : Int} (h : (b, s) ∈ codesOf l k) : ∃ i : Nat, s = (i : Int) ∧ i < k ∧ ln l i ≠ 0 ∧ b = bitsH (cod l i) (ln l i) := by
  obtain ⟨i, hi, e⟩ := List.mem_map.1 h
  rw [List.mem_filter, List.mem_range] at hi
  simp only [Prod.mk.injEq] at e
  exact ⟨i, e.2.symm, hi.1, of_decide_eq_true hi.2, e.1.symm⟩
theorem mem_codes {l : List Int} {k i : Nat} (hi : i < k) (h0 : ln l i ≠ 0) : (bitsH (cod l i) (ln l i), (i : Int)) ∈ codesOf l k :=
  List.mem_map.2 ⟨i, List.mem_filter.2 ⟨List.mem_range.2 hi, decide_eq_true h0⟩, rfl⟩
theorem codes_free {l : List Int} (hA : l.all lenB = true) (hW : wgt l ≤ 32768) {k : Nat} (hk : k < l.length) (h0 : ln l k ≠ 0) : ∀ b s, (b, s) ∈ codesOf l k → ¬ b <+: bitsH (cod l k) (ln l k) ∧ ¬ bitsH (cod l k) (ln l k) <+: b := by
  intro b s h
  obtain ⟨i, _, hi, hi0, rfl⟩ := codes_mem h
  have c1 := cod_lt l hA hW i (by omega)
  have c2 := cod_lt l hA hW k hk
  constructor
  · intro hp
    obtain ⟨h1, h2⟩ := (bitsH_prefix c1 c2).1 hp
    exact free l hA i k (by omega) hk (by omega) hi0 h1 h2
  · intro hp
    obtain ⟨h1, h2⟩ := (bitsH_prefix c2 c1).1 hp
    exact free l hA k i hk (by omega) (by omega) h0 h1 h2
theorem Tri.next {fs : List Fk} {P : Nat → List Nat} {S S' : List (List Nat × Int)} (h : Tri fs P S []) (k1 : List Nat) (hS : ∀ x, x ∈ S ↔ x ∈ S') : Tri fs P S' k1 :=
  ⟨h.len, h.root, h.inj, h.par, fun q c hq hc hz k s hm => h.zero q c hq hc hz k s ((hS _).2 hm), fun q c hq hc hz => let ⟨s, e1, e2⟩ := h.leaf q c hq hc hz; ⟨s, e1, (hS _).1 e2⟩, h.on, fun q c hq hc hz => by
    rcases h.pre q c hq hc hz with ⟨k, s, hm, h1⟩ | ⟨h1, _⟩
    · exact .inl ⟨k, s, (hS _).1 hm, h1⟩
    · have := h1.length_le; simp at this⟩
/-- The tree of the first so many codes. -/
def treeB (l : List Int) : Nat → List Fk
  | 0 => [(0, 0)]
  | k + 1 => if ln l k = 0 then treeB l k else graftB (bitsH (cod l k) (ln l k)) (treeB l k) 0 (k : Int)
theorem codesOf_succ (l : List Int) (k : Nat) : codesOf l (k + 1) = if ln l k = 0 then codesOf l k else codesOf l k ++ [(bitsH (cod l k) (ln l k), (k : Int))] := by
  unfold codesOf
  rw [List.range_succ, List.filter_append, List.map_append]
  by_cases h : ln l k = 0
  · simp [h]
  · simp [h]
theorem tree_ok {l : List Int} (hA : l.all lenB = true) (hW : wgt l ≤ 32768) : ∀ k, k ≤ l.length → ∃ P, Tri (treeB l k) P (codesOf l k) []
  | 0, _ => by
    have h1 : (treeB l 0).length = 1 := rfl
    have hg : ∀ q c, q < (treeB l 0).length → get (treeB l 0) q c = 0 := by
      intro q c hq
      have hq0 : q = 0 := by omega
      subst hq0
      unfold get sel treeB
      simp
    refine ⟨fun _ => [], ⟨by omega, rfl, fun q q' h h' _ => by omega, fun q h h0 => by omega, ?_, ?_, ?_, ?_⟩⟩
    · intro q c _ _ _ k s hm
      cases hm
    · intro q c hq _ hz
      rw [hg q c hq] at hz; omega
    · intro q c hq _ hz
      rw [hg q c hq] at hz; omega
    · intro q c hq _ hz
      rw [hg q c hq] at hz; omega
  | k + 1, hk => by
    obtain ⟨P, h⟩ := tree_ok hA hW k (by omega)
    rw [treeB, codesOf_succ]
    by_cases h0 : ln l k = 0
    · rw [if_pos h0, if_pos h0]; exact ⟨P, h⟩
    · rw [if_neg h0, if_neg h0]
      have hne : bitsH (cod l k) (ln l k) ≠ [] := fun e => h0 (by have := bitsH_len (ln l k) (cod l k); rw [e] at this; exact this.symm)
      obtain ⟨P', h'⟩ := graft_ok (codesOf l k) (bitsH (cod l k) (ln l k)) (k : Int) (by omega) (bitsH_lt _ _) (codes_free hA hW (by omega) h0) (bitsH (cod l k) (ln l k)) (treeB l k) P 0 [] hne rfl (h.next _ fun _ => Iff.rfl) h.len h.root (fun a c hp => by have := hp.length_le; simp at this)
      exact ⟨P', h'.next _ fun x => by simp [or_comm]⟩
/-- Reading by a tree. -/
def treeF (fs : List Fk) (bit : Nat → Option Nat) : Nat → Nat → Nat → Nat × Nat × Int
  | 0, _, _ => (0, 0, 8)
  | f + 1, n, q => match bit n with
    | none => (0, 0, 7)
    | some v => if get fs q v = 0 then (0, 0, 8) else if get fs q v < 0 then ((-(get fs q v) - 1).toNat, n + 1, 0) else treeF fs bit f (n + 1) (get fs q v).toNat
theorem read_ok {l : List Int} (hA : l.all lenB = true) (hW : wgt l ≤ 32768) {fs : List Fk} {P : Nat → List Nat} (h : Tri fs P (codesOf l l.length) []) (bit : Nat → Option Nat) (hb : ∀ n v, bit n = some v → v < 2) :
    ∀ f n q c, n + f = 16 → q < fs.length → P q = bitsH c n → c < 2 ^ n → hit l n c = none → live l n c l.length = true → symF l bit (f + 1) n c = treeF fs bit f n q
  | 0, n, q, c, hf, _, _, _, _, hl => by have := live_lt hA hl; omega
  | f + 1, n, q, c, hf, hq, hP, hc, hh, hl => by
    rw [treeF]
    cases hv : bit n with
    | none => rw [symF_short hh hl hv]
    | some v =>
      have hv2 := hb n v hv
      rw [symF_on hh hl hv]
      have hp : P q ++ [v] = bitsH (2 * c + v) (n + 1) := by rw [bitsH_snoc c v n hv2, hP]
      have hc2 : 2 * c + v < 2 ^ (n + 1) := by rw [Nat.pow_succ]; omega
      have hn15 := live_lt hA hl
      simp only []
      by_cases h0 : get fs q v = 0
      · rw [if_pos h0]
        have hz := h.zero q v hq hv2 h0
        rw [hp] at hz
        refine symF_dead (hit_none fun i hi => ?_) ?_
        · rw [hitB]
          refine decide_eq_false fun hh => ?_
          have := hz _ _ (mem_codes hi (by omega))
          rw [hh.1, hh.2.2] at this
          exact this List.prefix_rfl
        · unfold live
          rw [List.any_eq_false]
          intro i hi
          have hi := List.mem_range.1 hi
          intro hh
          have hh := of_decide_eq_true hh
          exact hz _ _ (mem_codes hi (by omega)) ((bitsH_prefix hc2 (cod_lt l hA hW i hi)).2 ⟨by omega, hh.2⟩)
      · rw [if_neg h0]
        by_cases hneg : get fs q v < 0
        · rw [if_pos hneg]
          obtain ⟨s, e1, e2⟩ := h.leaf q v hq hv2 hneg
          rw [hp] at e2
          obtain ⟨i, rfl, hi, hi0, eb⟩ := codes_mem e2
          have hl1 : n + 1 = ln l i := by have := congrArg List.length eb; rwa [bitsH_len, bitsH_len] at this
          rw [← hl1] at eb
          have hco : cod l i < 2 ^ (n + 1) := by rw [hl1]; exact cod_lt l hA hW i hi
          have ec := bitsH_inj (n + 1) _ _ hc2 hco eb
          rw [symF_hit (hit_some hA hi (decide_eq_true ⟨hl1.symm, by omega, ec.symm⟩)), e1, show (-(-(i : Int) - 1) - 1).toNat = i by omega]
        · rw [if_neg hneg]
          have hpos : 0 < get fs q v := by omega
          obtain ⟨q', e1, e2, e3⟩ := h.on q v hq hv2 hpos
          rw [e1, Int.toNat_natCast]
          have hex : ∃ i, i < l.length ∧ n + 1 < ln l i ∧ cod l i / 2 ^ (ln l i - (n + 1)) = 2 * c + v := by
            rcases h.pre q v hq hv2 hpos with ⟨k, s, hm, h1, h2⟩ | ⟨h1, _⟩
            · obtain ⟨i, rfl, hi, hi0, rfl⟩ := codes_mem hm
              rw [hp] at h1 h2
              obtain ⟨h3, h4⟩ := (bitsH_prefix hc2 (cod_lt l hA hW i hi)).1 h1
              refine ⟨i, hi, Nat.lt_of_le_of_ne h3 fun e => h2 ?_, h4⟩
              rw [← e] at h4 ⊢
              simp at h4
              rw [h4]
            · have := h1.length_le; simp at this
          obtain ⟨i, hi, hi1, hi2⟩ := hex
          refine read_ok hA hW h bit hb f (n + 1) q' (2 * c + v) (by omega) e2 (by rw [e3, hp]) hc2 (hit_none fun j hj => ?_) ?_
          · rw [hitB]
            refine decide_eq_false fun hh => ?_
            by_cases hij : i = j
            · subst hij; omega
            · refine free l hA j i hj hi (Ne.symm hij) (by omega) (by omega) ?_
              rw [hh.1, hi2, hh.2.2]
          · unfold live
            rw [List.any_eq_true]
            exact ⟨i, List.mem_range.2 hi, decide_eq_true ⟨hi1, hi2⟩⟩
theorem top_ok {l : List Int} (hA : l.all lenB = true) (hW : wgt l ≤ 32768) {fs : List Fk} {P : Nat → List Nat} (h : Tri fs P (codesOf l l.length) []) (bit : Nat → Option Nat) (hb : ∀ n v, bit n = some v → v < 2) :
    symF l bit 17 0 0 = if get fs 0 0 = 0 ∧ get fs 0 1 = 0 then (0, 0, 8) else treeF fs bit 16 0 0 := by
  by_cases hz : get fs 0 0 = 0 ∧ get fs 0 1 = 0
  · rw [if_pos hz]
    refine symF_dead (hit_zero l 0) ?_
    unfold live
    rw [List.any_eq_false]
    intro i hi
    have hi := List.mem_range.1 hi
    intro hh
    have hh := of_decide_eq_true hh
    have hm := mem_codes (l := l) (k := l.length) hi (by omega)
    obtain ⟨m, hm1⟩ : ∃ m, ln l i = 1 + m := ⟨ln l i - 1, by omega⟩
    obtain ⟨t, e, _⟩ := bitsH_split 1 m (cod l i)
    rw [← hm1] at e
    rw [e] at hm
    have hx : bitsH (cod l i / 2 ^ m) 1 = [cod l i / 2 ^ m % 2] := rfl
    have hz0 : get fs 0 (cod l i / 2 ^ m % 2) = 0 := by
      rcases Nat.mod_two_eq_zero_or_one (cod l i / 2 ^ m) with h1 | h1
      · rw [h1]; exact hz.1
      · rw [h1]; exact hz.2
    refine h.zero 0 (cod l i / 2 ^ m % 2) h.len (Nat.mod_lt _ (by decide)) hz0 _ _ hm ?_
    rw [h.root, hx]
    exact List.prefix_append _ _
  · rw [if_neg hz]
    refine read_ok hA hW h bit hb 16 0 0 0 rfl h.len h.root (by decide) (hit_zero l 0) ?_
    obtain ⟨c, hc, hne⟩ : ∃ c, c < 2 ∧ get fs 0 c ≠ 0 := by
      by_cases h0 : get fs 0 0 = 0
      · exact ⟨1, by decide, fun h1 => hz ⟨h0, h1⟩⟩
      · exact ⟨0, by decide, h0⟩
    obtain ⟨i, hi, hi0⟩ : ∃ i, i < l.length ∧ ln l i ≠ 0 := by
      rcases Int.lt_trichotomy (get fs 0 c) 0 with hl | hl | hl
      · obtain ⟨s, _, hm⟩ := h.leaf 0 c h.len hc hl
        obtain ⟨i, _, hi, hi0, _⟩ := codes_mem hm
        exact ⟨i, hi, hi0⟩
      · exact absurd hl hne
      · rcases h.pre 0 c h.len hc hl with ⟨k, s, hm, _⟩ | ⟨h1, _⟩
        · obtain ⟨i, _, hi, hi0, _⟩ := codes_mem hm
          exact ⟨i, hi, hi0⟩
        · have := h1.length_le; simp at this
    unfold live
    rw [List.any_eq_true]
    refine ⟨i, List.mem_range.2 hi, decide_eq_true ⟨by omega, ?_⟩⟩
    rw [Nat.sub_zero]
    exact Nat.div_eq_of_lt (cod_lt l hA hW i hi)
end Go.Proofs.Ytbnghmeeddjaoaa.Gt
