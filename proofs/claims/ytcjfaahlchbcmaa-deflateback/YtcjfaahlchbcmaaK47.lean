/- The walk of lengths. -/
import Derived.Test.YtcjfaahlchbcmaaK22
import Derived.Deep.RegionWith
import Derived.Test.YtcjfaahlchbcmaaK05
import Derived.Test.YtcjfaahlchbcmaaK01
import Derived.Test.YtcjfaahlchbcmaaK07
import Derived.Laws.DeepNot64
import Derived.Laws.StructEq
namespace Go.Proofs.Ytcjfaahlchbcmaa
open Go.RowKit Go.BigFrame
def moreF (sym : Nat) : Nat × Nat := if sym = 16 then (2, 3) else if sym = 17 then (3, 3) else if sym = 18 then (7, 11) else (0, 1)
def whatF (sym : Nat) (row : List Int) : Int := if sym = 16 then row.getD (row.length - 1) 0 else if sym = 17 then 0 else if sym = 18 then 0 else (sym : Int)
end Go.Proofs.Ytcjfaahlchbcmaa
namespace Go.Proofs.Ytcjfaahlchbcmaa.Gt
abbrev Fk := Int × Int
def sel (f : Fk) (c : Nat) : Int := if c = 0 then f.1 else f.2
def upd (f : Fk) (c : Nat) (t : Int) : Fk := if c = 0 then (t, f.2) else (f.1, t)
theorem sel_upd (f : Fk) (c d : Nat) (hc : c < 2) (hd : d < 2) (t : Int) : sel (upd f c t) d = if d = c then t else sel f d := by
  unfold sel upd
  rcases (by omega : c = 0 ∨ c = 1) with rfl | rfl <;> rcases (by omega : d = 0 ∨ d = 1) with rfl | rfl <;> simp
def get (fs : List Fk) (q c : Nat) : Int := sel (fs.getD q (0, 0)) c
def put (fs : List Fk) (q c : Nat) (t : Int) : List Fk := fs.set q (upd (fs.getD q (0, 0)) c t)
theorem put_len (fs : List Fk) (q c : Nat) (t : Int) : (put fs q c t).length = fs.length := List.length_set
theorem get_put (fs : List Fk) (q c q' c' : Nat) (t : Int) (hq : q < fs.length) (hc : c < 2) (hc' : c' < 2) : get (put fs q c t) q' c' = if q' = q ∧ c' = c then t else get fs q' c' := by
  unfold get put
  by_cases e : q' = q
  · subst e
    have : (fs.set q' (upd (fs.getD q' (0, 0)) c t)).getD q' (0, 0) = upd (fs.getD q' (0, 0)) c t := by simp [hq]
    rw [this, sel_upd _ _ _ hc hc']
    by_cases h : c' = c <;> simp [h]
  · have : (fs.set q (upd (fs.getD q (0, 0)) c t)).getD q' (0, 0) = fs.getD q' (0, 0) := by
      rw [List.getD_eq_getElem?_getD, List.getElem?_set_ne (Ne.symm e), ← List.getD_eq_getElem?_getD]
    rw [this, if_neg (fun h => e h.1)]
theorem get_app (fs : List Fk) (q c : Nat) (h : q < fs.length) : get (fs ++ [(0, 0)]) q c = get fs q c := by
  unfold get
  rw [List.getD_eq_getElem?_getD, List.getElem?_append_left h, ← List.getD_eq_getElem?_getD]
theorem get_new (fs : List Fk) (c : Nat) : get (fs ++ [(0, 0)]) fs.length c = 0 := by
  unfold get sel
  simp
structure Tri (fs : List Fk) (P : Nat → List Nat) (S : List (List Nat × Int)) (k0 : List Nat) : Prop where
  len : 0 < fs.length
  root : P 0 = []
  inj : ∀ q q', q < fs.length → q' < fs.length → P q = P q' → q = q'
  par : ∀ q, q < fs.length → q ≠ 0 → ∃ q0 c, q0 < fs.length ∧ c < 2 ∧ get fs q0 c = (q : Int)
  zero : ∀ q c, q < fs.length → c < 2 → get fs q c = 0 → ∀ k s, (k, s) ∈ S → ¬ (P q ++ [c]) <+: k
  leaf : ∀ q c, q < fs.length → c < 2 → get fs q c < 0 → ∃ s, get fs q c = -s - 1 ∧ (P q ++ [c], s) ∈ S
  on : ∀ q c, q < fs.length → c < 2 → 0 < get fs q c → ∃ q', get fs q c = ((q' : Nat) : Int) ∧ q' < fs.length ∧ P q' = P q ++ [c]
  pre : ∀ q c, q < fs.length → c < 2 → 0 < get fs q c → (∃ k s, (k, s) ∈ S ∧ (P q ++ [c]) <+: k ∧ P q ++ [c] ≠ k) ∨ ((P q ++ [c]) <+: k0 ∧ P q ++ [c] ≠ k0)
theorem Tri.grow {fs : List Fk} {P : Nat → List Nat} {S : List (List Nat × Int)} {k0 : List Nat} (h : Tri fs P S k0) (q c : Nat) (hq : q < fs.length) (hc : c < 2) (h0 : get fs q c = 0) (hp : (P q ++ [c]) <+: k0) (hn : P q ++ [c] ≠ k0) :
    ∃ P', Tri (put fs q c (fs.length : Int) ++ [(0, 0)]) P' S k0 ∧ (∀ j, j < fs.length → P' j = P j) ∧ P' fs.length = P q ++ [c] := by
  have hl := put_len fs q c (fs.length : Int)
  have hL : (put fs q c (fs.length : Int) ++ [(0, 0)]).length = fs.length + 1 := by rw [List.length_append, hl]; rfl
  have gold : ∀ j d, j < fs.length → d < 2 → get (put fs q c (fs.length : Int) ++ [(0, 0)]) j d = if j = q ∧ d = c then (fs.length : Int) else get fs j d := fun j d hj hd => by
    rw [get_app _ _ _ (by rw [hl]; exact hj), get_put fs q c j d _ hq hc hd]
  have gnew : ∀ d, get (put fs q c (fs.length : Int) ++ [(0, 0)]) fs.length d = 0 := fun d => by
    have := get_new (put fs q c (fs.length : Int)) d
    rwa [hl] at this
  have hfresh : ∀ j, j < fs.length → P j ≠ P q ++ [c] := by
    intro j hj e
    by_cases j0 : j = 0
    · subst j0; rw [h.root] at e; simp at e
    · obtain ⟨q0, c0, hq0, hc0, hg⟩ := h.par j hj j0
      obtain ⟨q', e1, _, e3⟩ := h.on q0 c0 hq0 hc0 (by rw [hg]; omega)
      have hqj : q' = j := by rw [e1] at hg; omega
      subst hqj
      rw [e3] at e
      obtain ⟨ea, eb⟩ := List.append_inj' e rfl
      have ec : c0 = c := by simpa using eb
      have eq : q0 = q := h.inj q0 q hq0 hq ea
      subst ec eq
      rw [h0] at hg
      omega
  refine ⟨fun j => if j = fs.length then P q ++ [c] else P j, ⟨?_, ?_, ?_, ?_, ?_, ?_, ?_, ?_⟩, fun j hj => if_neg (by omega), if_pos rfl⟩
  · rw [hL]; omega
  · rw [if_neg (by have := h.len; omega)]; exact h.root
  · intro a b ha hb e
    rw [hL] at ha hb
    by_cases ea : a = fs.length <;> by_cases eb : b = fs.length
    · omega
    · rw [if_pos ea, if_neg eb] at e; exact absurd e.symm (hfresh b (by omega))
    · rw [if_neg ea, if_pos eb] at e; exact absurd e (hfresh a (by omega))
    · rw [if_neg ea, if_neg eb] at e; exact h.inj a b (by omega) (by omega) e
  · intro j hj j0
    rw [hL] at hj
    by_cases e : j = fs.length
    · exact ⟨q, c, by rw [hL]; omega, hc, by rw [gold q c hq hc, if_pos ⟨rfl, rfl⟩, e]⟩
    · obtain ⟨q0, c0, hq0, hc0, hg⟩ := h.par j (by omega) j0
      refine ⟨q0, c0, by rw [hL]; omega, hc0, ?_⟩
      rw [gold q0 c0 hq0 hc0, if_neg ?_]
      · exact hg
      · rintro ⟨rfl, rfl⟩; rw [h0] at hg; omega
  · intro j d hj hd hz k s hk hpre
    rw [hL] at hj
    by_cases e : j = fs.length
    · rw [if_pos e] at hpre
      exact h.zero q c hq hc h0 k s hk (List.IsPrefix.trans (List.prefix_append _ _) hpre)
    · rw [if_neg e] at hpre
      rw [gold j d (by omega) hd] at hz
      split at hz
      · omega
      · exact h.zero j d (by omega) hd hz k s hk hpre
  · intro j d hj hd hz
    rw [hL] at hj
    by_cases e : j = fs.length
    · rw [e, gnew] at hz; omega
    · rw [if_neg e]
      rw [gold j d (by omega) hd] at hz ⊢
      split at hz
      · omega
      · rename_i hne
        rw [if_neg hne]
        exact h.leaf j d (by omega) hd hz
  · intro j d hj hd hz
    rw [hL] at hj
    by_cases e : j = fs.length
    · rw [e, gnew] at hz; omega
    · rw [if_neg e]
      rw [gold j d (by omega) hd] at hz ⊢
      by_cases hne : j = q ∧ d = c
      · rw [if_pos hne]
        obtain ⟨rfl, rfl⟩ := hne
        exact ⟨fs.length, rfl, by rw [hL]; omega, if_pos rfl⟩
      · rw [if_neg hne] at hz ⊢
        obtain ⟨q', e1, e2, e3⟩ := h.on j d (by omega) hd hz
        exact ⟨q', e1, by rw [hL]; omega, by rw [if_neg (by omega)]; exact e3⟩
  · intro j d hj hd hz
    rw [hL] at hj
    by_cases e : j = fs.length
    · rw [e, gnew] at hz; omega
    · rw [if_neg e]
      rw [gold j d (by omega) hd] at hz
      by_cases hne : j = q ∧ d = c
      · obtain ⟨rfl, rfl⟩ := hne
        exact .inr ⟨hp, hn⟩
      · rw [if_neg hne] at hz
        exact h.pre j d (by omega) hd hz
def graftB : List Nat → List Fk → Nat → Int → List Fk
  | [], fs, _, _ => fs
  | [c], fs, q, s => put fs q c (-s - 1)
  | c :: d :: r, fs, q, s => if get fs q c = 0 then graftB (d :: r) (put fs q c (fs.length : Int) ++ [(0, 0)]) fs.length s else graftB (d :: r) fs (get fs q c).toNat s
end Go.Proofs.Ytcjfaahlchbcmaa.Gt
namespace Go.Proofs.Ytcjfaahlchbcmaa.Gt
open Gf
def bitsH (v : Nat) : Nat → List Nat
  | 0 => []
  | n + 1 => bitsH (v / 2) n ++ [v % 2]
theorem Tri.next {fs : List Fk} {P : Nat → List Nat} {S S' : List (List Nat × Int)} (h : Tri fs P S []) (k1 : List Nat) (hS : ∀ x, x ∈ S ↔ x ∈ S') : Tri fs P S' k1 :=
  ⟨h.len, h.root, h.inj, h.par, fun q c hq hc hz k s hm => h.zero q c hq hc hz k s ((hS _).2 hm), fun q c hq hc hz => let ⟨s, e1, e2⟩ := h.leaf q c hq hc hz; ⟨s, e1, (hS _).1 e2⟩, h.on, fun q c hq hc hz => by
    rcases h.pre q c hq hc hz with ⟨k, s, hm, h1⟩ | ⟨h1, _⟩
    · exact .inl ⟨k, s, (hS _).1 hm, h1⟩
    · have := h1.length_le; simp at this⟩
def treeB (l : List Int) : Nat → List Fk
  | 0 => [(0, 0)]
  | k + 1 => if ln l k = 0 then treeB l k else graftB (bitsH (cod l k) (ln l k)) (treeB l k) 0 (k : Int)
def treeF (fs : List Fk) (bit : Nat → Option Nat) : Nat → Nat → Nat → Nat × Nat × Int
  | 0, _, _ => (0, 0, 8)
  | f + 1, n, q => match bit n with
    | none => (0, 0, 7)
    | some v => if get fs q v = 0 then (0, 0, 8) else if get fs q v < 0 then ((-(get fs q v) - 1).toNat, n + 1, 0) else treeF fs bit f (n + 1) (get fs q v).toNat
end Go.Proofs.Ytcjfaahlchbcmaa.Gt
namespace Go.Proofs.Ytcjfaahlchbcmaa
open Go.RowKit Go.BigFrame Gt
def flF : List Fk → List Value
  | [] => []
  | x :: r => .int .i64 x.1 :: .int .i64 x.2 :: flF r
theorem flF_len (a : List Fk) : (flF a).length = a.length * 2 := by
  induction a with
  | nil => rfl
  | cons x r ih => simp only [flF, List.length_cons, ih]; omega
theorem flF_get (d : List Fk) (q c : Nat) (hq : q < d.length) (hc : c < 2) : (flF d)[q * 2 + c]? = some (.int .i64 (get d q c)) := by
  induction d generalizing q with
  | nil => simp at hq
  | cons x r ih =>
    cases q with
    | zero =>
      rcases (by omega : c = 0 ∨ c = 1) with rfl | rfl
      · rfl
      · rfl
    | succ q =>
      have := ih q (by simpa using hq)
      rw [show (q + 1) * 2 + c = q * 2 + c + 1 + 1 by omega]
      have e : Gt.get (x :: r) (q + 1) c = Gt.get r q c := rfl
      rw [e]
      simpa [flF] using this
theorem flF_put (d : List Fk) (q c : Nat) (t : Int) (hq : q < d.length) (hc : c < 2) : (flF d).set (q * 2 + c) (.int .i64 t) = flF (put d q c t) := by
  induction d generalizing q with
  | nil => simp at hq
  | cons x r ih =>
    cases q with
    | zero =>
      rcases (by omega : c = 0 ∨ c = 1) with rfl | rfl
      · rfl
      · rfl
    | succ q =>
      have := ih q (by simpa using hq)
      rw [show (q + 1) * 2 + c = q * 2 + c + 1 + 1 by omega]
      simp only [flF, List.set_cons_succ]
      rw [this]
      simp [put, flF]
def OwnF (N : Nat) (w : World) (v : Value) (d : List Fk) : Prop := w.ownsRow N 82 2 v d.length (flF d)
theorem OwnF.same {N : Nat} {w w' : World} {v : Value} {d : List Fk} (h : OwnF N w v d) (hb : ∀ g, v.ownBlock = some g → w'.heap[g]? = w.heap[g]?) : OwnF N w' v d := by
  refine ⟨h.1, ?_⟩
  rcases h.2 with h2 | ⟨g, cap, cur, e1, e2, e3, e4⟩
  · exact .inl h2
  · exact .inr ⟨g, cap, cur, e1, e2, by rw [hb g (by rw [e1]; rfl)]; exact e3, e4⟩
theorem OwnF.lt {N : Nat} {w : World} {v : Value} {d : List Fk} (h : OwnF N w v d) : ∀ g, v.ownBlock = some g → N ≤ g ∧ g < w.heap.size := by
  intro k hk
  rcases h.2 with ⟨e, _⟩ | ⟨g, cap, cur, e1, e2, e3, _⟩
  · rw [e] at hk; simp [Value.ownBlock] at hk
  · rw [e1] at hk; simp [Value.ownBlock] at hk; subst hk; exact ⟨e2, (Array.getElem?_eq_some_iff.1 e3).1⟩
theorem OwnF.seg {N : Nat} {w : World} {v : Value} {d : List Fk} (h : OwnF N w v d) (hd : 0 < d.length) : ∃ g cap, v = .slice (some ⟨g, 0, none⟩) d.length cap ∧ N ≤ g ∧ d.length ≤ cap ∧ g < w.heap.size ∧ (∀ q c, q < d.length → c < 2 → w.cell? ⟨g, q * 2 + c, none⟩ = some (.int .i64 (get d q c))) ∧ (∀ k, w.frozen? ⟨g, k, none⟩ = false) ∧
    ∀ q c t, q < d.length → c < 2 → OwnF N (w.setCell ⟨g, q * 2 + c, none⟩ (.int .i64 t)) v (put d q c t) := by
  rcases h.2 with ⟨e, e0⟩ | ⟨g, cap, cur, e1, e2, e3, e4, e5, e6, e7⟩
  · omega
  · have r : Row w g 82 cur := e3
    refine ⟨g, cap, e1, e2, e4, r.lt, fun q c hq hc => ?_, fun k => r.frozen k, fun q c t hq hc => ?_⟩
    · have hf := flF_get d q c hq hc
      rw [← e7, List.getElem?_take_of_lt (by omega)] at hf
      rw [r.cell]
      simpa using hf
    · have hr := r.setCell (q * 2 + c) (.int .i64 t)
      refine ⟨by rw [flF_len], .inr ⟨g, cap, _, ?_, e2, hr, ?_, e5, ?_, ?_⟩⟩
      · rw [put_len]; exact e1
      · rw [put_len]; exact e4
      · rw [Array.size_setIfInBounds]; exact e6
      · rw [put_len, ← flF_put d q c t hq hc, ← e7, Array.toList_setIfInBounds, List.take_set]
theorem OwnF.row {N : Nat} {w : World} {v : Value} {d : List Fk} (h : OwnF N w v d) : ∀ g, v.ownBlock = some g → ∃ cur, Row w g 82 cur := by
  intro k hk
  rcases h.2 with ⟨e, _⟩ | ⟨g, cap, cur, e1, e2, e3, _⟩
  · rw [e] at hk; simp [Value.ownBlock] at hk
  · rw [e1] at hk; simp [Value.ownBlock] at hk; subst hk; exact ⟨cur, e3⟩
theorem OwnF.ne {N : Nat} {w : World} {v : Value} {d : List Fk} {bx : Nat} {c : Array Value} (h : OwnF N w v d) (r : Row w bx 73 c) : ∀ g, v.ownBlock = some g → g ≠ bx := by
  rintro g hg rfl
  obtain ⟨cur, r2⟩ := h.row g hg
  unfold Row at r r2
  rw [r] at r2
  simp at r2
open Gt
open Go.RowKit Go.BigFrame Gt
open Go.RowKit Go.BigFrame Gt
open Go.RowKit Go.BigFrame Gt
def RdK (K : Nat → Prop) (w : World) (sb : Nat) (l : List Int) (fb xb : Nat) : Prop :=
  ∃ g cap, K fb ∧ K xb ∧ K g ∧ Row w fb 79 #[.slice (some ⟨g, 0, none⟩) (treeB l l.length).length cap] ∧ Row w xb 58 #[.pointer (some ⟨sb, 0, none⟩)] ∧ (treeB l l.length).length ≤ cap ∧
    ∀ q c, q < (treeB l l.length).length → c < 2 → w.cell? ⟨g, q * 2 + c, none⟩ = some (.int .i64 (get (treeB l l.length) q c))
theorem RdK.keep {K : Nat → Prop} {w w' : World} {sb : Nat} {l : List Int} {fb xb : Nat} (h : RdK K w sb l fb xb) (kp : Kp K w w') : RdK K w' sb l fb xb := by
  obtain ⟨g, cap, k1, k2, k3, r1, r2, hc, hcl⟩ := h
  refine ⟨g, cap, k1, k2, k3, r1.same (kp.block _ k1), r2.same (kp.block _ k2), hc, fun q c hq hc => ?_⟩
  have := hcl q c hq hc
  simp only [World.cell?, kp.block _ k3] at *
  exact this
theorem RdK.more {K K' : Nat → Prop} {w : World} {sb : Nat} {l : List Int} {fb xb : Nat} (h : RdK K w sb l fb xb) (hK : ∀ k, K k → K' k) : RdK K' w sb l fb xb := by
  obtain ⟨g, cap, k1, k2, k3, h⟩ := h
  exact ⟨g, cap, hK _ k1, hK _ k2, hK _ k3, h⟩
def rdF (l : List Int) (b : List UInt8) (p : Nat) : Except Int (Nat × Nat) :=
  if (Gf.symF l (Gf.bitAt b p) 17 0 0).2.2 = 0 then .ok ((Gf.symF l (Gf.bitAt b p) 17 0 0).1, p + (Gf.symF l (Gf.bitAt b p) 17 0 0).2.1) else .error (Gf.symF l (Gf.bitAt b p) 17 0 0).2.2
structure Wk (fs : List Fk) (bit : Nat → Option Nat) (T : Nat × Nat × Int) (S : List (List Nat × Int)) (n q : Nat) : Prop where
  lt : q < fs.length
  n14 : n ≤ 14
  eq : T = treeF fs bit (16 - n) n q
  path : ∃ P, Tri fs P S [] ∧ (P q).length = n
theorem Wk.none {fs : List Fk} {bit : Nat → Option Nat} {T : Nat × Nat × Int} {S : List (List Nat × Int)} {n q : Nat} (h : Wk fs bit T S n q) (hb : bit n = none) : T = (0, 0, 7) := by
  rw [h.eq, show 16 - n = (15 - n) + 1 by have := h.n14; omega, treeF, hb]
theorem Wk.zero {fs : List Fk} {bit : Nat → Option Nat} {T : Nat × Nat × Int} {S : List (List Nat × Int)} {n q v : Nat} (h : Wk fs bit T S n q) (hb : bit n = some v) (h0 : get fs q v = 0) : T = (0, 0, 8) := by
  rw [h.eq, show 16 - n = (15 - n) + 1 by have := h.n14; omega, treeF, hb]
  simp only [h0, if_true]
theorem Wk.leaf {fs : List Fk} {bit : Nat → Option Nat} {T : Nat × Nat × Int} {S : List (List Nat × Int)} {n q v : Nat} (hS : ∀ k s, (k, s) ∈ S → 0 ≤ s ∧ s < 512) (h : Wk fs bit T S n q) (hb : bit n = some v) (hv : v < 2) (h0 : get fs q v < 0) : ∃ s : Nat, get fs q v = -(s : Int) - 1 ∧ s < 512 ∧ T = (s, n + 1, 0) := by
  obtain ⟨P, ht, _⟩ := h.path
  obtain ⟨s, e1, e2⟩ := ht.leaf q v h.lt hv h0
  have := hS _ _ e2
  refine ⟨s.toNat, by omega, by omega, ?_⟩
  rw [h.eq, show 16 - n = (15 - n) + 1 by have := h.n14; omega, treeF, hb]
  simp only [if_neg (show ¬ get fs q v = 0 by omega), if_pos h0]
  rw [e1, show -(-s - 1) - 1 = s by omega]
theorem Wk.on {fs : List Fk} {bit : Nat → Option Nat} {T : Nat × Nat × Int} {S : List (List Nat × Int)} {n q v : Nat} (hS : ∀ k s, (k, s) ∈ S → k.length ≤ 15) (h : Wk fs bit T S n q) (hb : bit n = some v) (hv : v < 2) (h0 : 0 < get fs q v) : ∃ q' : Nat, get fs q v = (q' : Int) ∧ q' ≠ 0 ∧ Wk fs bit T S (n + 1) q' := by
  obtain ⟨P, ht, hp⟩ := h.path
  obtain ⟨q', e1, e2, e3⟩ := ht.on q v h.lt hv h0
  refine ⟨q', e1, by omega, e2, ?_, ?_, P, ht, by rw [e3, List.length_append, hp]; rfl⟩
  · rcases ht.pre q v h.lt hv h0 with ⟨k, s, hm, h1, h2⟩ | ⟨h1, _⟩
    · have a1 := h1.length_le
      have a2 := hS k s hm
      rw [List.length_append, hp] at a1
      have a3 : (P q ++ [v]).length ≠ k.length := fun e => h2 (h1.eq_of_length e)
      rw [List.length_append, hp] at a3
      simp at a1 a3
      omega
    · have := h1.length_le; simp at this
  · rw [h.eq, show 16 - n = (16 - (n + 1)) + 1 by have := h.n14; omega, treeF, hb]
    simp only [if_neg (show ¬ get fs q v = 0 by omega), if_neg (show ¬ get fs q v < 0 by omega)]
    rw [e1, Int.toNat_natCast]
open Go.RowKit Go.BigFrame Gt
end Go.Proofs.Ytcjfaahlchbcmaa
