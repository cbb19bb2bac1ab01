/- The plain mathematics of a tree of forks. -/
namespace Go.Proofs.Ytbnghmeeddjaoaa.Gt

abbrev Fk := Int × Int
def sel (f : Fk) (c : Nat) : Int := if c = 0 then f.1 else f.2
def upd (f : Fk) (c : Nat) (t : Int) : Fk := if c = 0 then (t, f.2) else (f.1, t)
theorem sel_upd (f : Fk) (c d : Nat) (hc : c < 2) (hd : d < 2) (t : Int) : sel (upd f c t) d = if d = c then t else sel f d := by
  unfold sel upd
  rcases (by omega : c = 0 ∨ c = 1) with rfl | rfl <;> rcases (by omega : d = 0 ∨ d = 1) with rfl | rfl <;> simp
/-- Where a bit leads to. -/
def get (fs : List Fk) (q c : Nat) : Int := sel (fs.getD q (0, 0)) c
def put (fs : List Fk) (q c : Nat) (t : Int) : List Fk := fs.set q (upd (fs.getD q (0, 0)) c t)
theorem put_len (fs : List Fk) (q c : Nat) (t : Int) : (put fs q c t).length = fs.length := List.length_set
theorem get_put (fs : List Fk) (q c q' c' : Nat) (t : Int) (hq : q < fs.length) (hc : c < 2) (hc' : c' < 2) : get (put fs q c t) q' c' = if q' = q ∧ c' = c then t else get fs q' c' := by
  unfold get put
  by_cases e : q' = q
  · subst e
    have : (fs.set q' (upd (fs.getD q' (0, 0)) c t)).getD q' (0, 0) = upd (fs.getD q' (0, 0)) c t := by simp [hq]
    rw [this, sel_upd _ _ _ hc hc']
    by_cases h : c' = c <;> simp [h]
  · have : (fs.set q (upd (fs.getD q (0, 0)) c t)).getD q' (0, 0) = fs.getD q' (0, 0) := by
      rw [List.getD_eq_getElem?_getD, List.getElem?_set_ne (Ne.symm e), ← List.getD_eq_getElem?_getD]
    rw [this, if_neg (fun h => e h.1)]
theorem get_app (fs : List Fk) (q c : Nat) (h : q < fs.length) : get (fs ++ [(0, 0)]) q c = get fs q c := by
  unfold get
  rw [List.getD_eq_getElem?_getD, List.getElem?_append_left h, ← List.getD_eq_getElem?_getD]
theorem get_new (fs : List Fk) (c : Nat) : get (fs ++ [(0, 0)]) fs.length c = 0 := by
  unfold get sel
  simp

/-- The forks fs are the tree of the codes S, but for what the code k0 brings; P is each place's path. -/
structure Tri (fs : List Fk) (P : Nat → List Nat) (S : List (List Nat × Int)) (k0 : List Nat) : Prop where
  len : 0 < fs.length
  root : P 0 = []
  inj : ∀ q q', q < fs.length → q' < fs.length → P q = P q' → q = q'
  par : ∀ q, q < fs.length → q ≠ 0 → ∃ q0 c, q0 < fs.length ∧ c < 2 ∧ get fs q0 c = (q : Int)
  zero : ∀ q c, q < fs.length → c < 2 → get fs q c = 0 → ∀ k s, (k, s) ∈ S → ¬ (P q ++ [c]) <+: k
  leaf : ∀ q c, q < fs.length → c < 2 → get fs q c < 0 → ∃ s, get fs q c = -s - 1 ∧ (P q ++ [c], s) ∈ S
  on : ∀ q c, q < fs.length → c < 2 → 0 < get fs q c → ∃ q', get fs q c = ((q' : Nat) : Int) ∧ q' < fs.length ∧ P q' = P q ++ [c]
  pre : ∀ q c, q < fs.length → c < 2 → 0 < get fs q c → (∃ k s, (k, s) ∈ S ∧ (P q ++ [c]) <+: k ∧ P q ++ [c] ≠ k) ∨ ((P q ++ [c]) <+: k0 ∧ P q ++ [c] ≠ k0)

/-- A new place at the end of a path that led nowhere. -/
theorem Tri.grow {fs : List Fk} {P : Nat → List Nat} {S : List (List Nat × Int)} {k0 : List Nat} (h : Tri fs P S k0) (q c : Nat) (hq : q < fs.length) (hc : c < 2) (h0 : get fs q c = 0) (hp : (P q ++ [c]) <+: k0) (hn : P q ++ [c] ≠ k0) :
    ∃ P', Tri (put fs q c (fs.length : Int) ++ [(0, 0)]) P' S k0 ∧ (∀ j, j < fs.length → P' j = P j) ∧ P' fs.length = P q ++ [c] := by
  have hl := put_len fs q c (fs.length : Int)
  have hL : (put fs q c (fs.length : Int) ++ [(0, 0)]).length = fs.length + 1 := by rw [List.length_append, hl]; rfl
  have gold : ∀ j d, j < fs.length → d < 2 → get (put fs q c (fs.length : Int) ++ [(0, 0)]) j d = if j = q ∧ d = c then (fs.length : Int) else get fs j d := fun j d hj hd => by
    rw [get_app _ _ _ (by rw [hl]; exact hj), get_put fs q c j d _ hq hc hd]
  have gnew : ∀ d, get (put fs q c (fs.length : Int) ++ [(0, 0)]) fs.length d = 0 := fun d => by
    have := get_new (put fs q c (fs.length : Int)) d
    rwa [hl] at this
  have hfresh : ∀ j, j < fs.length → P j ≠ P q ++ [c] := by
    intro j hj e
    by_cases j0 : j = 0
    · subst j0; rw [h.root] at e; simp at e
    · obtain ⟨q0, c0, hq0, hc0, hg⟩ := h.par j hj j0
      obtain ⟨q', e1, _, e3⟩ := h.on q0 c0 hq0 hc0 (by rw [hg]; omega)
      have hqj : q' = j := by rw [e1] at hg; omega
      subst hqj
      rw [e3] at e
      obtain ⟨ea, eb⟩ := List.append_inj' e rfl
      have ec : c0 = c := by simpa using eb
      have eq : q0 = q := h.inj q0 q hq0 hq ea
      subst ec eq
      rw [h0] at hg
      omega
  refine ⟨fun j => if j = fs.length then P q ++ [c] else P j, ⟨?_, ?_, ?_, ?_, ?_, ?_, ?_, ?_⟩, fun j hj => if_neg (by omega), if_pos rfl⟩
  · rw [hL]; omega
  · rw [if_neg (by have := h.len; omega)]; exact h.root
  · intro a b ha hb e
    rw [hL] at ha hb
    by_cases ea : a = fs.length <;> by_cases eb : b = fs.length
    · omega
    · rw [if_pos ea, if_neg eb] at e; exact absurd e.symm (hfresh b (by omega))
    · rw [if_neg ea, if_pos eb] at e; exact absurd e (hfresh a (by omega))
    · rw [if_neg ea, if_neg eb] at e; exact h.inj a b (by omega) (by omega) e
  · intro j hj j0
    rw [hL] at hj
    by_cases e : j = fs.length
    · exact ⟨q, c, by rw [hL]; omega, hc, by rw [gold q c hq hc, if_pos ⟨rfl, rfl⟩, e]⟩
    · obtain ⟨q0, c0, hq0, hc0, hg⟩ := h.par j (by omega) j0
      refine ⟨q0, c0, by rw [hL]; omega, hc0, ?_⟩
      rw [gold q0 c0 hq0 hc0, if_neg ?_]
      · exact hg
      · rintro ⟨rfl, rfl⟩; rw [h0] at hg; omega
  · intro j d hj hd hz k s hk hpre
    rw [hL] at hj
    by_cases e : j = fs.length
    · rw [if_pos e] at hpre
      exact h.zero q c hq hc h0 k s hk (List.IsPrefix.trans (List.prefix_append _ _) hpre)
    · rw [if_neg e] at hpre
      rw [gold j d (by omega) hd] at hz
      split at hz
      · omega
      · exact h.zero j d (by omega) hd hz k s hk hpre
  · intro j d hj hd hz
    rw [hL] at hj
    by_cases e : j = fs.length
    · rw [e, gnew] at hz; omega
    · rw [if_neg e]
      rw [gold j d (by omega) hd] at hz ⊢
      split at hz
      · omega
      · rename_i hne
        rw [if_neg hne]
        exact h.leaf j d (by omega) hd hz
  · intro j d hj hd hz
    rw [hL] at hj
    by_cases e : j = fs.length
    · rw [e, gnew] at hz; omega
    · rw [if_neg e]
      rw [gold j d (by omega) hd] at hz ⊢
      by_cases hne : j = q ∧ d = c
      · rw [if_pos hne]
        obtain ⟨rfl, rfl⟩ := hne
        exact ⟨fs.length, rfl, by rw [hL]; omega, if_pos rfl⟩
      · rw [if_neg hne] at hz ⊢
        obtain ⟨q', e1, e2, e3⟩ := h.on j d (by omega) hd hz
        exact ⟨q', e1, by rw [hL]; omega, by rw [if_neg (by omega)]; exact e3⟩
  · intro j d hj hd hz
    rw [hL] at hj
    by_cases e : j = fs.length
    · rw [e, gnew] at hz; omega
    · rw [if_neg e]
      rw [gold j d (by omega) hd] at hz
      by_cases hne : j = q ∧ d = c
      · obtain ⟨rfl, rfl⟩ := hne
        exact .inr ⟨hp, hn⟩
      · rw [if_neg hne] at hz
        exact h.pre j d (by omega) hd hz
theorem get_grow (fs : List Fk) (q c j d : Nat) (hq : q < fs.length) (hc : c < 2) (hj : j < fs.length) (hd : d < 2) : get (put fs q c (fs.length : Int) ++ [(0, 0)]) j d = if j = q ∧ d = c then (fs.length : Int) else get fs j d := by
  rw [get_app _ _ _ (by rw [put_len]; exact hj), get_put fs q c j d _ hq hc hd]
/-- One more code, bit by bit. -/
def graftB : List Nat → List Fk → Nat → Int → List Fk
  | [], fs, _, _ => fs
  | [c], fs, q, s => put fs q c (-s - 1)
  | c :: d :: r, fs, q, s => if get fs q c = 0 then graftB (d :: r) (put fs q c (fs.length : Int) ++ [(0, 0)]) fs.length s else graftB (d :: r) fs (get fs q c).toNat s
/-- The path has been gone. -/
def Walked (fs : List Fk) (P : Nat → List Nat) (w : List Nat) : Prop := ∀ a c, (a ++ [c]) <+: w → ∃ j, j < fs.length ∧ P j = a ∧ get fs j c ≠ 0
theorem prefix_snoc {a w : List Nat} {x c : Nat} (h : (a ++ [x]) <+: (w ++ [c])) : (a = w ∧ x = c) ∨ (a ++ [x]) <+: w := by
  obtain ⟨t, ht⟩ := h
  rcases List.eq_nil_or_concat t with rfl | ⟨t', y, rfl⟩
  · rw [List.append_nil] at ht
    obtain ⟨h1, h2⟩ := List.append_inj' ht rfl
    exact .inl ⟨h1, by simpa using h2⟩
  · rw [List.concat_eq_append, ← List.append_assoc] at ht
    obtain ⟨h1, h2⟩ := List.append_inj' ht rfl
    exact .inr ⟨t', h1⟩
theorem graft_ok (S : List (List Nat × Int)) (k0 : List Nat) (s0 : Int) (hs0 : 0 ≤ s0) (hb : ∀ c ∈ k0, c < 2) (hfree : ∀ k s, (k, s) ∈ S → ¬ k <+: k0 ∧ ¬ k0 <+: k) :
    ∀ (rest : List Nat) (fs : List Fk) (P : Nat → List Nat) (q : Nat) (pre : List Nat), rest ≠ [] → k0 = pre ++ rest → Tri fs P S k0 → q < fs.length → P q = pre → Walked fs P pre →
      ∃ P', Tri (graftB rest fs q s0) P' ((k0, s0) :: S) []
  | [], _, _, _, _, h, _, _, _, _, _ => absurd rfl h
  | [c], fs, P, q, pre, _, hk, h, hq, hP, hw => by
    have hc : c < 2 := hb c (by rw [hk]; simp)
    have h0 : get fs q c = 0 := by
      rcases Int.lt_trichotomy (get fs q c) 0 with hl | hl | hl
      · obtain ⟨s, _, hm⟩ := h.leaf q c hq hc hl
        rw [hP, ← hk] at hm
        exact absurd (List.prefix_rfl) (hfree _ _ hm).1
      · exact hl
      · rcases h.pre q c hq hc hl with ⟨k, s, hm, h1, h2⟩ | ⟨h1, h2⟩
        · rw [hP, ← hk] at h1
          exact absurd h1 (hfree _ _ hm).2
        · rw [hP, ← hk] at h2
          exact absurd rfl h2
    have hl := put_len fs q c (-s0 - 1)
    have gp : ∀ j d, d < 2 → get (put fs q c (-s0 - 1)) j d = if j = q ∧ d = c then -s0 - 1 else get fs j d := fun j d hd => get_put fs q c j d _ hq hc hd
    rw [graftB]
    refine ⟨P, ⟨by rw [hl]; exact h.len, h.root, fun a b ha hb' => h.inj a b (by rw [hl] at ha; exact ha) (by rw [hl] at hb'; exact hb'), ?_, ?_, ?_, ?_, ?_⟩⟩
    · intro j hj j0
      rw [hl] at hj
      obtain ⟨q0, c0, hq0, hc0, hg⟩ := h.par j hj j0
      refine ⟨q0, c0, by rw [hl]; exact hq0, hc0, ?_⟩
      rw [gp q0 c0 hc0, if_neg ?_]
      · exact hg
      · rintro ⟨rfl, rfl⟩; rw [h0] at hg; omega
    · intro j d hj hd hz k s hm hpre
      rw [hl] at hj
      rw [gp j d hd] at hz
      by_cases hne : j = q ∧ d = c
      · rw [if_pos hne] at hz; omega
      · rw [if_neg hne] at hz
        rcases List.mem_cons.1 hm with e | hm
        · obtain ⟨rfl, rfl⟩ := Prod.mk.injEq .. ▸ e
          rw [hk] at hpre
          rcases prefix_snoc hpre with ⟨e1, e2⟩ | h2
          · exact hne ⟨h.inj j q hj hq (by rw [e1, hP]), e2⟩
          · obtain ⟨i, hi, e1, e2⟩ := hw _ _ h2
            have : i = j := h.inj i j hi hj e1
            subst this
            exact e2 hz
        · exact h.zero j d hj hd hz k s hm hpre
    · intro j d hj hd hz
      rw [hl] at hj
      rw [gp j d hd] at hz ⊢
      by_cases hne : j = q ∧ d = c
      · rw [if_pos hne]
        obtain ⟨rfl, rfl⟩ := hne
        exact ⟨s0, rfl, by rw [hP, ← hk]; simp⟩
      · rw [if_neg hne] at hz ⊢
        obtain ⟨s, e1, e2⟩ := h.leaf j d hj hd hz
        exact ⟨s, e1, by simp [e2]⟩
    · intro j d hj hd hz
      rw [hl] at hj
      rw [gp j d hd] at hz ⊢
      by_cases hne : j = q ∧ d = c
      · rw [if_pos hne] at hz; omega
      · rw [if_neg hne] at hz ⊢
        obtain ⟨q', e1, e2, e3⟩ := h.on j d hj hd hz
        exact ⟨q', e1, by rw [hl]; exact e2, e3⟩
    · intro j d hj hd hz
      rw [hl] at hj
      rw [gp j d hd] at hz
      by_cases hne : j = q ∧ d = c
      · rw [if_pos hne] at hz; omega
      · rw [if_neg hne] at hz
        rcases h.pre j d hj hd hz with ⟨k, s, hm, h1, h2⟩ | ⟨h1, h2⟩
        · exact .inl ⟨k, s, by simp [hm], h1, h2⟩
        · exact .inl ⟨k0, s0, by simp, h1, h2⟩
  | c :: d :: r, fs, P, q, pre, _, hk, h, hq, hP, hw => by
    have hc : c < 2 := hb c (by rw [hk]; simp)
    have hk2 : k0 = (pre ++ [c]) ++ (d :: r) := by rw [hk]; simp
    have hp : (P q ++ [c]) <+: k0 := by rw [hP, hk2]; exact List.prefix_append _ _
    have hn : P q ++ [c] ≠ k0 := by rw [hP, hk2]; intro e; have := congrArg List.length e; simp at this
    rw [graftB]
    by_cases h0 : get fs q c = 0
    · rw [if_pos h0]
      obtain ⟨P', h', ho, hnew⟩ := h.grow q c hq hc h0 hp hn
      have hL : (put fs q c (fs.length : Int) ++ [(0, 0)]).length = fs.length + 1 := by rw [List.length_append, put_len]; rfl
      refine graft_ok S k0 s0 hs0 hb hfree (d :: r) _ P' fs.length (pre ++ [c]) (by simp) hk2 h' (by rw [hL]; omega) (by rw [hnew, hP]) ?_
      intro a x hax
      have hxw : x < 2 := by
        refine hb x ?_
        rw [hk2]
        exact List.mem_append_left _ (hax.subset (by simp))
      rcases prefix_snoc hax with ⟨rfl, rfl⟩ | h2
      · exact ⟨q, by rw [hL]; omega, by rw [ho q hq, hP], by rw [get_grow fs q x q x hq hc hq hxw, if_pos ⟨rfl, rfl⟩]; have := h.len; omega⟩
      · obtain ⟨i, hi, e1, e2⟩ := hw _ _ h2
        refine ⟨i, by rw [hL]; omega, by rw [ho i hi]; exact e1, ?_⟩
        rw [get_grow fs q c i x hq hc hi hxw]
        split
        · have := h.len; omega
        · exact e2
    · rw [if_neg h0]
      rcases Int.lt_trichotomy (get fs q c) 0 with hl | hl | hl
      · obtain ⟨s, _, hm⟩ := h.leaf q c hq hc hl
        exact absurd hp (hfree _ _ hm).1
      · exact absurd hl h0
      · obtain ⟨q', e1, e2, e3⟩ := h.on q c hq hc hl
        rw [e1, Int.toNat_natCast]
        refine graft_ok S k0 s0 hs0 hb hfree (d :: r) fs P q' (pre ++ [c]) (by simp) hk2 h e2 (by rw [e3, hP]) ?_
        intro a x hax
        rcases prefix_snoc hax with ⟨rfl, rfl⟩ | h2
        · exact ⟨q, hq, hP, h0⟩
        · exact hw _ _ h2
end Go.Proofs.Ytbnghmeeddjaoaa.Gt
