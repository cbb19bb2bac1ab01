/- The places of a code's way are there; a code's bits, turned. -/
import Derived.Test.YtbnghmeeddjaoaaFk
namespace Go.Proofs.Ytbnghmeeddjaoaa
open Gt

theorem gok_of (S : List (List Nat × Int)) (k0 : List Nat) (hb : ∀ c ∈ k0, c < 2) (hfree : ∀ k s, (k, s) ∈ S → ¬ k <+: k0 ∧ ¬ k0 <+: k) :
    ∀ (rest : List Nat) (fs : List Fk) (P : Nat → List Nat) (q : Nat) (pre : List Nat), k0 = pre ++ rest → Tri fs P S k0 → q < fs.length → P q = pre → gok rest fs q
  | [], _, _, _, _, _, _, _, _ => trivial
  | [_], _, _, _, _, _, _, hq, _ => hq
  | c :: d :: r, fs, P, q, pre, hk, h, hq, hP => by
    have hc : c < 2 := hb c (by rw [hk]; simp)
    have hk2 : k0 = (pre ++ [c]) ++ (d :: r) := by rw [hk]; simp
    have hp : (P q ++ [c]) <+: k0 := by rw [hP, hk2]; exact List.prefix_append _ _
    have hn : P q ++ [c] ≠ k0 := by rw [hP, hk2]; intro e; have := congrArg List.length e; simp at this
    refine ⟨hq, fun h0 => ?_, fun h0 => ?_⟩
    · obtain ⟨P', h', ho, hnew⟩ := h.grow q c hq hc h0 hp hn
      have hL : (put fs q c (fs.length : Int) ++ [(0, 0)]).length = fs.length + 1 := by rw [List.length_append, put_len]; rfl
      exact gok_of S k0 hb hfree (d :: r) _ P' fs.length (pre ++ [c]) hk2 h' (by rw [hL]; omega) (by rw [hnew, hP])
    · rcases Int.lt_trichotomy (get fs q c) 0 with hl | hl | hl
      · obtain ⟨s, _, hm⟩ := h.leaf q c hq hc hl
        exact absurd hp (hfree _ _ hm).1
      · exact absurd hl h0
      · obtain ⟨q', e1, e2, e3⟩ := h.on q c hq hc hl
        refine ⟨hl, ?_⟩
        rw [e1, Int.toNat_natCast]
        exact gok_of S k0 hb hfree (d :: r) fs P q' (pre ++ [c]) hk2 h e2 (by rw [e3, hP])
/-- How many forks there are at most. -/
theorem graft_len : ∀ (rest : List Nat) (fs : List Fk) (q : Nat) (s : Int), (graftB rest fs q s).length ≤ fs.length + rest.length
  | [], fs, q, s => Nat.le_add_right _ _
  | [c], fs, q, s => by rw [graftB, put_len]; omega
  | c :: d :: r, fs, q, s => by
    rw [graftB]
    split
    · have := graft_len (d :: r) (put fs q c (fs.length : Int) ++ [(0, 0)]) fs.length s
      rw [List.length_append, put_len] at this
      simp only [List.length_cons, List.length_nil] at this ⊢
      omega
    · have := graft_len (d :: r) fs (get fs q c).toNat s
      simp only [List.length_cons] at this ⊢
      omega
theorem tree_len (l : List Int) (hA : l.all Gf.lenB = true) : ∀ k, (treeB l k).length ≤ 1 + 15 * k
  | 0 => by simp [treeB]
  | k + 1 => by
    have ih := tree_len l hA k
    rw [treeB]
    split
    · omega
    · have h1 := graft_len (bitsH (Gf.cod l k) (Gf.ln l k)) (treeB l k) 0 (k : Int)
      rw [bitsH_len] at h1
      have := (Gf.ln_le l hA k).1
      omega
end Go.Proofs.Ytbnghmeeddjaoaa
